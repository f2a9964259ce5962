/-
Texts joined: TT TR TI.
-/
import Derived.Test.YtmcimfblhpflnaaDoorZb
import Derived.Test.YtmcimfblhpflnaaDoorAC
import Derived.Test.YtmcimfblhpflnaaDoorTX
import Derived.Test.YtmcimfblhpflnaaDoorTG
import Derived.Test.YtmcimfblhpflnaaDoorTB
/-
Sums over states in the order of the search, told in a table; with the program's own numbers. Nothing here speaks of the program's text.
-/
namespace Go.Proofs.YtmcimfblhpflnaaDoor
section
variable {T : Type}
/-- A button's four numbers are told. -/
def tabStep (A : Acc T) (K : Nat → List Nat) (D : Nat → Nat → Nat → Bool) (V : Nat → Nat → Nat → T) (i : Nat) : Nat → Nat → Nat → T := fun j a b => if j = i then stOf A K D V i a b else V j a b
def askStep (A : Acc T) (K : Nat → List Nat) (D : Nat → Nat → Nat → Bool) (p : Nat → Int) (s : T × (Nat → Nat → Nat → T)) (i : Nat) : T × (Nat → Nat → Nat → T) :=
  (if p i < 0 then A.both s.1 (A.either (tabStep A K D s.2 i i 0 0) (tabStep A K D s.2 i i 1 0)) else s.1, tabStep A K D s.2 i)
def askRun (A : Acc T) (K : Nat → List Nat) (D : Nat → Nat → Nat → Bool) (p : Nat → Int) (z : T) (l : List Nat) : T × (Nat → Nat → Nat → T) := l.foldl (askStep A K D p) (A.single 0, fun _ _ _ => z)
theorem askRun_snoc (A : Acc T) (K : Nat → List Nat) (D : Nat → Nat → Nat → Bool) (p : Nat → Int) (z : T) (l : List Nat) (i : Nat) : askRun A K D p z (l ++ [i]) = askStep A K D p (askRun A K D p z l) i := by simp [askRun]
end
section
variable {F : Nat → Nat} {n : Nat} {o t : List Nat} {p : Nat → Int}
/-- Children come before their parents. -/
theorem Run.kids_before (h : Run F n o t p) {l r : List Nat} {i : Nat} (he : l ++ i :: r = (ordL F n).reverse) : ∀ j ∈ kids p n i, j ∈ l := by
  intro j hj
  obtain ⟨hjn, hpj⟩ := kids_mem.1 hj
  obtain ⟨d, hd⟩ := h.qu.gr.places
  have ho : o ++ t = r.reverse ++ i :: l.reverse := by
    rw [h.ord, ← List.reverse_reverse (ordL F n), ← he]; simp
  have hnd : (r.reverse ++ i :: l.reverse).Nodup := by rw [← ho]; exact h.qu.gr.nodup
  obtain ⟨h1, h2⟩ := hd j (h.all j hjn)
  obtain ⟨him, hlt⟩ := h2 i hpj
  have h3 := (hd i him).1
  rw [ho] at h1 h3
  have hat : (r.reverse ++ i :: l.reverse)[r.reverse.length]? = some i := by simp
  have hl1 := (List.getElem?_eq_some_iff.1 h3).1
  have hdi : d i = r.reverse.length := by
    obtain ⟨a1, a2⟩ := List.getElem?_eq_some_iff.1 h3
    obtain ⟨b1, b2⟩ := List.getElem?_eq_some_iff.1 hat
    have hpw := List.pairwise_iff_getElem.1 hnd
    rcases Nat.lt_trichotomy (d i) r.reverse.length with g | g | g
    · exact absurd (a2.trans b2.symm) (hpw _ _ a1 b1 g)
    · exact g
    · exact absurd (b2.trans a2.symm) (hpw _ _ b1 a1 g)
  rw [List.getElem?_append_right (by omega)] at h1
  have e : d j - r.reverse.length = (d j - r.reverse.length - 1) + 1 := by omega
  rw [e, List.getElem?_cons_succ] at h1
  have := List.mem_of_getElem? h1
  simpa using this
theorem Run.ask {T : Type} (A : Acc T) (z : T) (h : Run F n o t p) (D : Nat → Nat → Nat → Bool) (hB : Bnd p n D) : ∀ (l r : List Nat), l ++ r = (ordL F n).reverse →
    (askRun A (kids p n) D p z l).1 = aRun A (st A (kids p n) D n) p l ∧ ∀ j ∈ l, ∀ a b, (askRun A (kids p n) D p z l).2 j a b = st A (kids p n) D n j a b := by
  have key : ∀ (m : Nat) (l r : List Nat), l.length = m → l ++ r = (ordL F n).reverse →
      (askRun A (kids p n) D p z l).1 = aRun A (st A (kids p n) D n) p l ∧ ∀ j ∈ l, ∀ a b, (askRun A (kids p n) D p z l).2 j a b = st A (kids p n) D n j a b := by
    intro m
    induction m with
    | zero =>
      intro l r hl _
      have : l = [] := List.eq_nil_of_length_eq_zero hl
      subst this
      exact ⟨rfl, by simp⟩
    | succ m ih =>
      intro l r hl he
      obtain ⟨l', i, rfl⟩ : ∃ l' i, l = l' ++ [i] := ⟨l.dropLast, l.getLast (by intro e; rw [e] at hl; simp at hl), (List.dropLast_concat_getLast _).symm⟩
      have he' : l' ++ i :: r = (ordL F n).reverse := by rw [← he]; simp
      obtain ⟨ih1, ih2⟩ := ih l' (i :: r) (by simpa using hl) he'
      have hin : i < n := by
        have : i ∈ (ordL F n).reverse := by rw [← he']; simp
        exact List.mem_range.1 (h.perm.mem_iff.1 this)
      have hst : ∀ a b, stOf A (kids p n) D (askRun A (kids p n) D p z l').2 i a b = st A (kids p n) D n i a b := by
        intro a b
        rw [hB.fix A i hin]
        unfold stOf
        have hk : kRun A (askRun A (kids p n) D p z l').2 a (kids p n i) = kRun A (st A (kids p n) D n) a (kids p n i) := kRun_same fun j hj => by
          funext x y
          exact ih2 j (h.kids_before he' j hj) x y
        rw [hk]
      rw [askRun_snoc, aRun_snoc]
      refine ⟨?_, fun j hj a b => ?_⟩
      · unfold askStep aStep tabStep
        simp only [if_true]
        rw [hst, hst, ih1]
      · unfold askStep tabStep
        dsimp only
        by_cases e : j = i
        · subst e; rw [if_pos rfl, hst]
        · rw [if_neg e]
          exact ih2 j ((List.mem_append.1 hj).resolve_right (by simpa using e)) a b
  exact fun l r he => key _ l r rfl he
end
/-! ### the program's numbers -/
theorem cI_both {a b : Nat} (h : a * b ≤ 1152921504606846976) : accCI.both (a : Int) (b : Int) = ((accC.both a b : Nat) : Int) := by
  have e : ((a * b : Nat) : Int) = (a : Int) * (b : Int) := Int.natCast_mul a b
  show RowKit.wrap64 ((a : Int) * (b : Int)) = ((a * b : Nat) : Int)
  rw [← e]
  exact IntWalk.wrap64_in _ (by omega)
theorem cI_either {a b : Nat} (h : a + b ≤ 2305843009213693952) : accCI.either (a : Int) (b : Int) = ((accC.either a b : Nat) : Int) := by
  show RowKit.wrap64 ((a : Int) + (b : Int)) = ((a + b : Nat) : Int)
  rw [← Int.natCast_add]
  exact IntWalk.wrap64_in _ (by omega)
theorem lI_both {a b : Nat} (h : a + b ≤ 2305843009213693952) : accLI.both (a : Int) (b : Int) = ((accL.both a b : Nat) : Int) := by
  show RowKit.wrap64 ((a : Int) + (b : Int)) = ((a + b : Nat) : Int)
  rw [← Int.natCast_add]
  exact IntWalk.wrap64_in _ (by omega)
theorem lI_either (a b : Nat) : accLI.either (a : Int) (b : Int) = ((accL.either a b : Nat) : Int) := by
  show min (a : Int) (b : Int) = ((min a b : Nat) : Int)
  omega
section
variable {p : Nat → Int} {n : Nat} {D : Nat → Nat → Nat → Bool}
theorem kRun_castC (hB : Bnd p n D) {i pr : Nat} (hi : i < n) (hpr : pr < 2) (hv : ∀ j ∈ kids p n i, ∀ a, a < 2 → st accCI (kids p n) D n j a pr = ((st accC (kids p n) D n j a pr : Nat) : Int)) : ∀ k, k ≤ n →
    (kRun accCI (st accCI (kids p n) D n) pr (kids p k i)).1 = (((kRun accC (st accC (kids p n) D n) pr (kids p k i)).1 : Nat) : Int) ∧ (kRun accCI (st accCI (kids p n) D n) pr (kids p k i)).2 = (((kRun accC (st accC (kids p n) D n) pr (kids p k i)).2 : Nat) : Int)
  | 0, _ => ⟨rfl, rfl⟩
  | k + 1, hk => by
    obtain ⟨i1, i2⟩ := kRun_castC hB hi hpr hv k (by omega)
    obtain ⟨⟨r1, r2⟩, _⟩ := hB.rc i hi k (by omega) pr hpr
    rw [kids_succ]
    split
    · rename_i hp
      have m : k ∈ kids p n i := kids_mem.2 ⟨by omega, hp⟩
      have v0 := hB.vck i k hi m 0 pr (by omega)
      have v1 := hB.vck i k hi m 1 pr (by omega)
      rw [kRun_snoc, kRun_snoc]
      unfold kStep
      rw [hv k m 0 (by omega), hv k m 1 (by omega), i1, i2]
      have a1 := Nat.mul_le_mul r1 v0
      have a2 := Nat.mul_le_mul r2 v1
      have a3 := Nat.mul_le_mul r2 v0
      have a4 := Nat.mul_le_mul r1 v1
      generalize (kRun accC (st accC (kids p n) D n) pr (kids p k i)).1 = X at *
      generalize (kRun accC (st accC (kids p n) D n) pr (kids p k i)).2 = Y at *
      generalize st accC (kids p n) D n k 0 pr = U at *
      generalize st accC (kids p n) D n k 1 pr = W at *
      have b1 : accC.both X U = X * U := rfl
      have b2 : accC.both Y W = Y * W := rfl
      have b3 : accC.both Y U = Y * U := rfl
      have b4 : accC.both X W = X * W := rfl
      dsimp only
      rw [cI_both (by omega), cI_both (by omega), cI_both (by omega), cI_both (by omega), cI_either (by rw [b1, b2]; omega), cI_either (by rw [b3, b4]; omega)]
      exact ⟨rfl, rfl⟩
    · exact ⟨i1, i2⟩
theorem kRun_castL (hB : Bnd p n D) {i pr : Nat} (hi : i < n) (hpr : pr < 2) (hv : ∀ j ∈ kids p n i, ∀ a, a < 2 → st accLI (kids p n) D n j a pr = ((st accL (kids p n) D n j a pr : Nat) : Int)) : ∀ k, k ≤ n →
    (kRun accLI (st accLI (kids p n) D n) pr (kids p k i)).1 = (((kRun accL (st accL (kids p n) D n) pr (kids p k i)).1 : Nat) : Int) ∧ (kRun accLI (st accLI (kids p n) D n) pr (kids p k i)).2 = (((kRun accL (st accL (kids p n) D n) pr (kids p k i)).2 : Nat) : Int)
  | 0, _ => ⟨rfl, rfl⟩
  | k + 1, hk => by
    obtain ⟨i1, i2⟩ := kRun_castL hB hi hpr hv k (by omega)
    obtain ⟨_, r1, r2⟩ := hB.rc i hi k (by omega) pr hpr
    rw [kids_succ]
    split
    · rename_i hp
      have m : k ∈ kids p n i := kids_mem.2 ⟨by omega, hp⟩
      have v0 := (hB.vc k (by omega) 0 pr (by omega)).2
      have v1 := (hB.vc k (by omega) 1 pr (by omega)).2
      rw [kRun_snoc, kRun_snoc]
      unfold kStep
      rw [hv k m 0 (by omega), hv k m 1 (by omega), i1, i2]
      generalize (kRun accL (st accL (kids p n) D n) pr (kids p k i)).1 = X at *
      generalize (kRun accL (st accL (kids p n) D n) pr (kids p k i)).2 = Y at *
      generalize st accL (kids p n) D n k 0 pr = U at *
      generalize st accL (kids p n) D n k 1 pr = W at *
      dsimp only
      rw [lI_both (by omega), lI_both (by omega), lI_both (by omega), lI_both (by omega), lI_either, lI_either]
      exact ⟨rfl, rfl⟩
    · exact ⟨i1, i2⟩
theorem st_cast (hB : Bnd p n D) (r : Nat → Nat) (hr : ∀ i, ∀ j ∈ kids p n i, r j < r i) : ∀ (f i : Nat), r i < f → i < n → ∀ pr ab, pr < 2 →
    st accCI (kids p n) D n i pr ab = ((st accC (kids p n) D n i pr ab : Nat) : Int) ∧ st accLI (kids p n) D n i pr ab = ((st accL (kids p n) D n i pr ab : Nat) : Int) := by
  intro f
  induction f with
  | zero => intro i h; omega
  | succ f ih =>
    intro i h hi pr ab hpr
    have sub := fun j (hj : j ∈ kids p n i) => ih j (by have := hr i j hj; omega) (kids_mem.1 hj).1
    obtain ⟨c1, c2⟩ := kRun_castC hB hi hpr (fun j hj a ha => (sub j hj a pr ha).1) n (Nat.le_refl _)
    obtain ⟨l1, l2⟩ := kRun_castL hB hi hpr (fun j hj a ha => (sub j hj a pr ha).2) n (Nat.le_refl _)
    obtain ⟨⟨r1, r2⟩, r3, r4⟩ := hB.rc i hi n (Nat.le_refl _) pr hpr
    rw [hB.fix accCI i hi, hB.fix accC i hi, hB.fix accLI i hi, hB.fix accL i hi]
    unfold stOf
    rw [c1, c2, l1, l2]
    have s1 : accCI.single pr = ((1 : Nat) : Int) := rfl
    have s2 : accLI.single pr = ((pr : Nat) : Int) := rfl
    have s3 : accC.single pr = 1 := rfl
    have s4 : accL.single pr = pr := rfl
    rw [s1, s2, s3, s4]
    split
    · exact ⟨cI_both (by omega), lI_both (by omega)⟩
    · exact ⟨cI_both (by omega), lI_both (by omega)⟩
variable {F : Nat → Nat} {o t : List Nat}
theorem aRun_cast (hn : n ≤ 16) (hB : Bnd p n D) (hA : BndA F p n D) (h : Run F n o t p) : ∀ (m : Nat) (l r : List Nat), l.length = m → l ++ r = (ordL F n).reverse →
    aRun accCI (st accCI (kids p n) D n) p l = ((aRun accC (st accC (kids p n) D n) p l : Nat) : Int) ∧ aRun accLI (st accLI (kids p n) D n) p l = ((aRun accL (st accL (kids p n) D n) p l : Nat) : Int) := by
  obtain ⟨rk, hr1, hr2⟩ := h.ranks
  intro m
  induction m with
  | zero =>
    intro l r hl _
    have : l = [] := List.eq_nil_of_length_eq_zero hl
    subst this
    exact ⟨rfl, rfl⟩
  | succ m ih =>
    intro l r hl he
    obtain ⟨l', i, rfl⟩ : ∃ l' i, l = l' ++ [i] := ⟨l.dropLast, l.getLast (by intro e; rw [e] at hl; simp at hl), (List.dropLast_concat_getLast _).symm⟩
    have he' : l' ++ i :: r = (ordL F n).reverse := by rw [← he]; simp
    obtain ⟨i1, i2⟩ := ih l' (i :: r) (by simpa using hl) he'
    have hin : i < n := by
      have : i ∈ (ordL F n).reverse := by rw [← he']; simp
      exact List.mem_range.1 (h.perm.mem_iff.1 this)
    obtain ⟨c0, l0⟩ := st_cast hB rk hr2 n i (hr1 i hin) hin 0 0 (by omega)
    obtain ⟨c1, l1⟩ := st_cast hB rk hr2 n i (hr1 i hin) hin 1 0 (by omega)
    have b0 := hB.vc i hin 0 0 (by omega)
    have b1 := hB.vc i hin 1 0 (by omega)
    have bl := hA.c l' (i :: r) he'
    have bn := hA.c (l' ++ [i]) r he
    rw [aRun_snoc] at bn
    rw [aRun_snoc, aRun_snoc, aRun_snoc, aRun_snoc]
    unfold aStep at bn ⊢
    by_cases hp : p i < 0
    · simp only [hp, if_true] at bn ⊢
      rw [c0, c1, l0, l1, i1, i2, cI_either (by omega), lI_either]
      have e1 : accC.both (aRun accC (st accC (kids p n) D n) p l') (accC.either (st accC (kids p n) D n i 0 0) (st accC (kids p n) D n i 1 0)) = aRun accC (st accC (kids p n) D n) p l' * accC.either (st accC (kids p n) D n i 0 0) (st accC (kids p n) D n i 1 0) := rfl
      have e2 : accL.either (st accL (kids p n) D n i 0 0) (st accL (kids p n) D n i 1 0) = min (st accL (kids p n) D n i 0 0) (st accL (kids p n) D n i 1 0) := rfl
      exact ⟨cI_both (by omega), lI_both (by omega)⟩
    · simp only [hp, if_false]
      exact ⟨i1, i2⟩
end
end Go.Proofs.YtmcimfblhpflnaaDoor
/-
What states tell of a forest. Nothing here speaks of the program's text.
-/
namespace Go.Proofs.YtmcimfblhpflnaaDoor
theorem aRun_congr {T : Type} {A : Acc T} {v : Nat → Nat → Nat → T} {p q : Nat → Int} : ∀ l : List Nat, (∀ i ∈ l, p i = q i) → aRun A v p l = aRun A v q l := by
  have key : ∀ (l : List Nat) (s : T), (∀ i ∈ l, p i = q i) → l.foldl (aStep A v p) s = l.foldl (aStep A v q) s := by
    intro l
    induction l with
    | nil => intro s _; rfl
    | cons a r ih =>
      intro s h
      have e : aStep A v p s a = aStep A v q s a := by unfold aStep; rw [h a (by simp)]
      rw [List.foldl_cons, List.foldl_cons, e]
      exact ih _ fun i hi => h i (List.mem_cons_of_mem _ hi)
  exact fun l h => key l _ h
/-- Ways and the least number of presses, as the model tells them. -/
noncomputable def sN (F : Nat → Nat) (own : Bool) (L n : Nat) : Nat × Nat := aRun accM (st accM (kids (parV F n) n) (dueB L own) n) (parV F n) (List.range n)
section
variable {F : Nat → Nat} {n : Nat} {o t : List Nat} {p : Nat → Int}
theorem Run.sN_eq (hF : Sym F n) (hn : n ≤ 16) (h : Run F n o t p) (own : Bool) (L : Nat) : aRun accM (st accM (kids p n) (dueB L own) n) p (List.range n) = sN F own L n := by
  have hp := h.par hF hn
  have hk : kids p n = kids (parV F n) n := by
    funext i
    exact kids_same (fun v hv => hp v hv) i
  rw [hk]
  exact aRun_congr _ fun i hi => hp i (List.mem_range.1 hi)
/-- The program's two numbers, found in the order of the search from the last one on. -/
theorem Run.told (hF : Sym F n) (hI : Irr F n) (hn : n ≤ 16) (h : Run F n o t p) (own : Bool) (L : Nat) :
    (askRun accCI (kids p n) (dueB L own) p 0 (ordL F n).reverse).1 = ((sN F own L n).1 : Nat) ∧
    ((sN F own L n).1 = 0 → (sN F own L n).2 = 0 ∧ 16 < (askRun accLI (kids p n) (dueB L own) p 0 (ordL F n).reverse).1) ∧
    ((sN F own L n).1 ≠ 0 → (askRun accLI (kids p n) (dueB L own) p 0 (ordL F n).reverse).1 = ((sN F own L n).2 : Nat) ∧ (sN F own L n).2 ≤ 16) := by
  have hB := h.bnd hn hI (dueB L own)
  have hA := h.bndA hn hI (dueB L own)
  have hs := h.answers hn hI (dueB L own)
  rw [h.sN_eq hF hn] at hs
  obtain ⟨c, l⟩ := aRun_cast hn hB hA h _ (ordL F n).reverse [] rfl (by simp)
  have a1 := (h.ask accCI 0 (dueB L own) hB (ordL F n).reverse [] (by simp)).1
  have a2 := (h.ask accLI 0 (dueB L own) hB (ordL F n).reverse [] (by simp)).1
  rw [a1, a2, c, l]
  refine ⟨by rw [hs.ways], fun h0 => ?_, fun h0 => ?_⟩
  · have := hs.no h0
    omega
  · have := hs.yes h0
    omega
theorem sN_lt (hI : Irr F n) (hF : Sym F n) (hn : n ≤ 16) (h : Run F n o t p) (own : Bool) (L : Nat) : (sN F own L n).1 ≤ 4294967296 := by
  rw [← h.sN_eq hF hn]
  exact ((h.bndA hn hI (dueB L own)).m n (Nat.le_refl _)).1
end
end Go.Proofs.YtmcimfblhpflnaaDoor
/-
What ask's loop holds between two rounds.
-/
namespace Go.Proofs.YtmcimfblhpflnaaDoor
open Go.RowKit Go.Shelf
/-- A table of states, cell by cell. -/
def tv (V : Nat → Nat → Nat → Int) (c : Nat) : Value := .int .i64 (V (c / 4) (c / 2 % 2) (c % 2))
theorem tv_at (V : Nat → Nat → Nat → Int) {j a b : Nat} (ha : a < 2) (hb : b < 2) : tv V (j * 4 + a * 2 + b) = .int .i64 (V j a b) := by
  have h1 : (j * 4 + a * 2 + b) / 4 = j := by omega
  have h2 : (j * 4 + a * 2 + b) / 2 % 2 = a := by omega
  have h3 : (j * 4 + a * 2 + b) % 2 = b := by omega
  unfold tv
  rw [h1, h2, h3]
/-- A table of which some numbers of i are told already. -/
def part (X V : Nat → Nat → Nat → Int) (i a b : Nat) : Nat → Nat → Nat → Int := fun j x y => if j = i ∧ (x < a ∨ (x = a ∧ y < b)) then X j x y else V j x y
theorem part_zero (X V : Nat → Nat → Nat → Int) (i : Nat) : part X V i 0 0 = V := by
  funext j x y
  simp [part]
theorem part_row (X V : Nat → Nat → Nat → Int) {i a c : Nat} : tv (part X V i (a + 1) 0) c = tv (part X V i a 2) c := by
  unfold tv part
  have h : c % 2 < 2 := by omega
  congr 1
  by_cases e : c / 4 = i ∧ (c / 2 % 2 < a + 1 ∨ (c / 2 % 2 = a + 1 ∧ c % 2 < 0))
  · have e2 : c / 4 = i ∧ (c / 2 % 2 < a ∨ (c / 2 % 2 = a ∧ c % 2 < 2)) := by omega
    rw [if_pos e, if_pos e2]
  · have e2 : ¬ (c / 4 = i ∧ (c / 2 % 2 < a ∨ (c / 2 % 2 = a ∧ c % 2 < 2))) := by omega
    rw [if_neg e, if_neg e2]
theorem part_one (X V : Nat → Nat → Nat → Int) {i a b c : Nat} (ha : a < 2) (hb : b < 2) : tv (part X V i a (b + 1)) c = if c = i * 4 + a * 2 + b then .int .i64 (X i a b) else tv (part X V i a b) c := by
  by_cases e : c = i * 4 + a * 2 + b
  · rw [if_pos e, e, tv_at _ ha hb]
    simp [part]
  · rw [if_neg e]
    unfold tv part
    congr 1
    by_cases e1 : c / 4 = i ∧ (c / 2 % 2 < a ∨ (c / 2 % 2 = a ∧ c % 2 < b + 1))
    · have e2 : c / 4 = i ∧ (c / 2 % 2 < a ∨ (c / 2 % 2 = a ∧ c % 2 < b)) := by omega
      rw [if_pos e1, if_pos e2]
    · have e2 : ¬ (c / 4 = i ∧ (c / 2 % 2 < a ∨ (c / 2 % 2 = a ∧ c % 2 < b))) := by omega
      rw [if_neg e1, if_neg e2]
theorem part_all {X V : Nat → Nat → Nat → Int} {i c : Nat} : tv (part X V i 2 0) c = tv (fun j x y => if j = i then X j x y else V j x y) c := by
  unfold tv part
  congr 1
  dsimp only
  by_cases e : c / 4 = i
  · rw [if_pos (by omega), if_pos e]
  · rw [if_neg (by omega), if_neg e]
/-- What a body of the loop does to memory. -/
structure Bdy (m bs : Nat) (W W' : World) : Prop where
  kq : Kq m bs W W'
  ko : KeepsOthers W W'
theorem Bdy.refl (m bs : Nat) (W : World) : Bdy m bs W W := ⟨Kq.refl _ _ _, KeepsOthers.refl _⟩
theorem Bdy.trans {m bs : Nat} {A B C : World} (h : Bdy m bs A B) (k : Bdy m bs B C) : Bdy m bs A C := ⟨h.kq.trans k.kq, h.ko.trans k.ko⟩
theorem Bdy.of_below {m bs : Nat} {A B : World} (h : Below A.heap.size A B) (hm : m ≤ A.heap.size) (hb : bs < A.heap.size) : Bdy m bs A B :=
  ⟨⟨h.mono hm, h.block bs hb⟩, ⟨h.size, fun k o hk _ => (h.block k (Array.getElem?_eq_some_iff.1 hk).1).trans hk⟩⟩
theorem Bdy.set {m bs c d : Nat} {A : World} {u : Value} (hm : m ≤ c) (hb : bs ≠ c) : Bdy m bs A (A.setCell ⟨c, d, none⟩ u) :=
  ⟨⟨(Below.refl m A).setCell (p := ⟨c, d, none⟩) hm u, Below.heap_setCell A ⟨c, d, none⟩ u bs hb⟩, KeepsOthers.setCell _ _ _⟩
/-- What ask holds: s in the box of all, V in the table. -/
structure AskJ (w : World) (T L n fb tb b7 b8 bs : Nat) (s : Int) (V : Nat → Nat → Nat → Int) (W : World) : Prop where
  be : Below w.heap.size w W
  b3 : Blk W 97 w.heap.size #[.pointer (some ⟨fb, 0, none⟩)]
  b4 : Blk W 88 (w.heap.size + 1) #[.iface T (.agg #[])]
  b5 : Blk W 3 (w.heap.size + 1 + 1) #[.int .i64 (L : Nat)]
  b7 : Blk W 106 b7 #[.slice (some ⟨tb, 0, none⟩) n n]
  b8 : Blk W 3 b8 #[.int .i64 s]
  tb : Arr W 110 tb (n * 4) (tv V)
  top : bs < W.heap.size
section
variable {w W W' : World} {T L n fb tb b7 b8 bs : Nat} {s : Int} {V : Nat → Nat → Nat → Int}
theorem AskJ.all (h : AskJ w T L n fb tb b7 b8 bs s V W) (hb : Below W.heap.size W W') : AskJ w T L n fb tb b7 b8 bs s V W' :=
  ⟨h.be.trans (hb.mono h.be.size), h.b3.all hb, h.b4.all hb, h.b5.all hb, h.b7.all hb, h.b8.all hb, h.tb.all hb, Nat.lt_of_lt_of_le h.top hb.size⟩
theorem AskJ.congr (h : AskJ w T L n fb tb b7 b8 bs s V W) {V' : Nat → Nat → Nat → Int} (e : ∀ c, c < n * 4 → tv V c = tv V' c) : AskJ w T L n fb tb b7 b8 bs s V' W :=
  ⟨h.be, h.b3, h.b4, h.b5, h.b7, h.b8, h.tb.congr e, h.top⟩
theorem AskJ.setT (h : AskJ w T L n fb tb b7 b8 bs s V W) (ht : w.heap.size + 3 ≤ tb) (h7 : b7 ≠ tb) (h8 : b8 ≠ tb) {V' : Nat → Nat → Nat → Int} {k : Nat} {x : Int} (e : ∀ c, tv V' c = if c = k then .int .i64 x else tv V c) :
    AskJ w T L n fb tb b7 b8 bs s V' (W.setCell ⟨tb, k, none⟩ (.int .i64 x)) :=
  ⟨h.be.setCell (p := ⟨tb, k, none⟩) (by show w.heap.size ≤ tb; omega) _, h.b3.far (p := ⟨tb, k, none⟩) (by show w.heap.size ≠ tb; omega) _, h.b4.far (p := ⟨tb, k, none⟩) (by show w.heap.size + 1 ≠ tb; omega) _, h.b5.far (p := ⟨tb, k, none⟩) (by show w.heap.size + 1 + 1 ≠ tb; omega) _,
    h.b7.far (p := ⟨tb, k, none⟩) h7 _, h.b8.far (p := ⟨tb, k, none⟩) h8 _, (h.tb.set k _).congr fun c _ => (e c).symm, by simpa [World.setCell] using h.top⟩
theorem AskJ.set8 (h : AskJ w T L n fb tb b7 b8 bs s V W) (h0 : w.heap.size + 3 ≤ b8) (h7 : b7 ≠ b8) (ht : tb ≠ b8) (x : Int) :
    AskJ w T L n fb tb b7 b8 bs x V (W.setCell ⟨b8, 0, none⟩ (.int .i64 x)) :=
  ⟨h.be.setCell (p := ⟨b8, 0, none⟩) (by show w.heap.size ≤ b8; omega) _, h.b3.far (p := ⟨b8, 0, none⟩) (by show w.heap.size ≠ b8; omega) _, h.b4.far (p := ⟨b8, 0, none⟩) (by show w.heap.size + 1 ≠ b8; omega) _, h.b5.far (p := ⟨b8, 0, none⟩) (by show w.heap.size + 1 + 1 ≠ b8; omega) _,
    h.b7.far (p := ⟨b8, 0, none⟩) h7 _, by have := h.b8.set 0 (.int .i64 x); simpa using this, h.tb.far (p := ⟨b8, 0, none⟩) ht _, by simpa [World.setCell] using h.top⟩
end
/-- Between two rounds. -/
def AskI (w : World) (T L n fb tb b7 b8 bs : Nat) (A : Acc Int) (K : Nat → List Nat) (D : Nat → Nat → Nat → Bool) (p : Nat → Int) (l : List Nat) (W : World) : Prop := AskJ w T L n fb tb b7 b8 bs (askRun A K D p 0 l).1 (askRun A K D p 0 l).2 W
theorem AskI.own {α : Type} {w : World} {T L n fb tb b7 b8 bs B : Nat} {A : Acc Int} {K : Nat → List Nat} {D : Nat → Nat → Nat → Bool} {p : Nat → Int} (g : α → Nat) (hw : w.heap.size + 3 ≤ B) (h7 : b7 < B) (h8 : b8 < B) (ht : tb < B) :
    OwnFrom B (fun (pre : List α) W => AskI w T L n fb tb b7 b8 bs A K D p (pre.map g) W) := by
  intro s W W' row hs hg hr
  have ne : ∀ k, k < B → some k ≠ row := fun k hk e => by have := (hr k e.symm).1; omega
  refine ⟨⟨hg.os.trans hs.be.os, hg.tape.trans hs.be.tape, hg.output.trans hs.be.output, Nat.le_trans hs.be.size hg.size, fun k hk => (hg.block k (Nat.lt_of_lt_of_le hk hs.be.size) (ne k (by omega))).trans (hs.be.block k hk)⟩, ?_, ?_, ?_, ?_, ?_, ?_, Nat.lt_of_lt_of_le hs.top hg.size⟩
  · exact (hg.block _ hs.b3.lt (ne _ (by omega))).trans hs.b3
  · exact (hg.block _ hs.b4.lt (ne _ (by omega))).trans hs.b4
  · exact (hg.block _ hs.b5.lt (ne _ (by omega))).trans hs.b5
  · exact (hg.block _ hs.b7.lt (ne _ h7)).trans hs.b7
  · exact (hg.block _ hs.b8.lt (ne _ h8)).trans hs.b8
  · exact hs.tb.of_block (hg.block _ hs.tb.lt (ne _ ht))
theorem xor_due (lt ow a b : Nat) (h1 : lt < 2) (h2 : ow < 2) (h3 : a < 2) (h4 : b < 2) : bits .xor .i64 (bits .xor .i64 (lt : Int) (bits .and .i64 (ow : Int) (a : Int))) (b : Int) = (((lt + ow * a + b) % 2 : Nat) : Int) := by
  have e1 : lt = 0 ∨ lt = 1 := by omega
  have e2 : ow = 0 ∨ ow = 1 := by omega
  have e3 : a = 0 ∨ a = 1 := by omega
  have e4 : b = 0 ∨ b = 1 := by omega
  rcases e1 with rfl | rfl <;> rcases e2 with rfl | rfl <;> rcases e3 with rfl | rfl <;> rcases e4 with rfl | rfl <;> (clear h1 h2 h3 h4; rfl)
theorem light_bit (L i : Nat) : bits .and .i64 ((L : Int) / 2 ^ i) 1 = ((L / 2 ^ i % 2 : Nat) : Int) := by
  rw [bits_and_one, ← pow_nat]
  rfl
theorem own_bit (F : Nat → Nat) (own : Bool) (i : Nat) (hI : (F i).testBit i = false) : tgN F own i / 2 ^ i % 2 = if own then 1 else 0 := by
  have h : ∀ x : Nat, x / 2 ^ i % 2 = (x.testBit i).toNat := fun x => by rw [Nat.testBit_eq_decide_div_mod_eq]; by_cases e : x / 2 ^ i % 2 = 1 <;> simp [e]; omega
  rw [h]
  cases own
  · simp [tgN, hI]
  · simp [tgN, hI, Nat.testBit_or, Nat.testBit_two_pow]
end Go.Proofs.YtmcimfblhpflnaaDoor
