/-
Stars and trees: both sides.
-/
import Derived.Test.YtmcimfblhpflnaaLF
import Derived.Test.YtmcimfblhpflnaaU
namespace Go.Proofs.Ytmcimfblhpflnaa
open Go.RowKit
set_option maxHeartbeats 2000000
theorem wpList_append_f {ops : Array Oper} {rest : List Oper} {o : Oper} {a : Act} {Q : Exit → Act → World → Prop} (w : World) (hgd : o.guard = none) (s x : Operand)
    (ho : o.op = .call { callee := .builtin .append, args := #[s, x], argTypes := #[25, 25] }) (B : Nat) (A : Option Addr) (c n : Nat) (f : Nat → Int) (g : Nat)
    (hs : a.eval s = .slice A n c) (hown : w.ownsRow B 3 1 (.slice A n c) n (rowL n (iv f)))
    (hx : a.eval x = .slice (some ⟨g, 0, none⟩) 1 1) (hnew : w.cell? ⟨g, 0, none⟩ = some (.int .i64 (f n))) (hlen : n ≤ 1048576) (hB : B ≤ w.heap.size)
    (h : ∀ A' c' w', w'.ownsRow B 3 1 (.slice A' (n + 1) c') (n + 1) (rowL (n + 1) (iv f)) → Below B w w' → wpList Try.prog ops Q rest (a.put o.dst (.slice A' (n + 1) c')) w') : wpList Try.prog ops Q (o :: rest) a w := by
  obtain ⟨i0, hi, hz0, hz1, hz2⟩ := info_parts int_info
  refine wpList_append_own w hgd s x 25 ho B 3 i0 (.int .i64 0) 1 8 Try.underlying25 hi hz0 hz1 hz2 rfl (by decide) _ _ _ hs hown ⟨g, 0, none⟩ 1 1 [.int .i64 (f n)] hx rfl ?_ ?_ (by unfold maxLen; omega) (by omega) hB ?_
  · intro j u hj
    match j, hj with
    | 0, hj => simp at hj; subst hj; simpa [Addr.add] using hnew
  · intro u hu; simp at hu; subst hu; rfl
  · intro v' w' h2 h3 _
    obtain ⟨A', c', rfl⟩ := own_form h2
    refine h A' c' w' ?_ (Below.own_grown (Below.refl B w) hown h3 (Nat.le_refl _) hB)
    rw [rowL_succ]
    exact h2
theorem own_first (w : World) (f : Nat → Int) (v : Int) (hf : f 0 = v) : (w.alloc (.cells #[.int .i64 v] 3)).ownsRow w.heap.size 3 1 (.slice (some ⟨w.heap.size, 0, none⟩) 1 1) 1 (rowL 1 (iv f)) := by
  refine ⟨by simp [rowL], .inr ⟨w.heap.size, 1, #[.int .i64 v], rfl, Nat.le_refl _, heap_alloc_new w _, Nat.le_refl _, by unfold maxLen; omega, by simp, ?_⟩⟩
  simp [rowL, iv, hf]
def starf : Nat → Int := fun k => if k = 0 then -1 else 0
def binf : Nat → Int := fun k => if k = 0 then -1 else (((k - 1) / 2 : Nat) : Int)
theorem starf_ok (n : Nat) : okP starf n = true := by
  refine decide_eq_true ?_
  intro k hk
  unfold starf
  split <;> omega
theorem binf_ok (n : Nat) : okP binf n = true := by
  refine decide_eq_true ?_
  intro k hk
  unfold binf
  split <;> omega
theorem fpImpl_yes (A : Option Addr) (n c : Nat) (f : Nat → Int) (own : Bool) (w : World) (h : inB n 1 16 = true) (hk : okP f n = true) (hs : Src w A n (iv f)) :
    Calls Try.prog 15 #[.slice A n c, .bool own] w (GraphOk w n (nv (fpF f n)) own) :=
  (fpImpl_any A n c f own w h hs).mono fun e w' h => by unfold FPost at h; rwa [if_pos hk] at h
theorem star_call (k : Nat) (h : 1 ≤ k) (w : World) : Calls Try.prog 34 #[.int .i64 k] w fun e w' => e = .returned (.int .i64 (starf k)) ∧ w' = w := by
  go_enter Try.func34, Try.ntmps34
  go_wp2
  go_ret
  exact ⟨by rw [starf, if_neg (by omega)]; rfl, rfl⟩
theorem bin_call (k : Nat) (h : 1 ≤ k) (hk : k < 16) (w : World) : Calls Try.prog 35 #[.int .i64 k] w fun e w' => e = .returned (.int .i64 (binf k)) ∧ w' = w := by
  go_enter Try.func35, Try.ntmps35
  go_wp2
  go_ret
  refine ⟨?_, rfl⟩
  rw [binf, if_neg (by omega)]
  have e : ((k : Int) - 1).tdiv 2 = (((k - 1) / 2 : Nat) : Int) := by rw [Int.tdiv_eq_ediv_of_nonneg (by omega)]; omega
  simp [e]
  omega
theorem tree_star_no (a : Int) (own : Bool) (w : World) (h : inB a 1 16 = false) : Calls Try.prog 33 #[.int .i64 a, .bool own, .func (.func 34) #[] #[]] w (GraphNo w) := by
  go_enter Try.func33, Try.ntmps33
  go_wp2_with (go_at_call 30; refine (isCount_any _ _).mono ?_; rintro e w' ⟨rfl, rfl⟩; rw [h])
  refine bodyPost_ret (v := .tuple #[.agg #[.slice none 0 0, .bool false], .bool false]) (by simp [results, Try.results33, go_sem]) rfl ?_
  exact ⟨rfl, by go_grown⟩
theorem tree_star (n : Nat) (own : Bool) (w : World) (h : inB n 1 16 = true) : Calls Try.prog 33 #[.int .i64 n, .bool own, .func (.func 34) #[] #[]] w (GraphOk w n (nv (fpF starf n)) own) := by
  have hn : n ≤ 16 := by simp only [inB, decide_eq_true_eq] at h; omega
  have hn1 : 1 ≤ n := by simp only [inB, decide_eq_true_eq] at h; omega
  have HH := hide h
  go_enter Try.func33, Try.ntmps33
  go_wp2_with (go_at_call 30; refine (isCount_any _ _).mono ?_; rintro e w' ⟨rfl, rfl⟩; rw [h])
  go_loopw [8, 9] (fun P i wr => ∃ (k c' : Nat) (A' : Option Addr), 1 ≤ k ∧ k ≤ n ∧ i = .int .i64 k ∧ P = .slice A' k c' ∧ wr.ownsRow (w.heap.size + 1) 3 1 (.slice A' k c') k (rowL k (iv starf)) ∧ Arr wr 27 w.heap.size 2 (bx (.slice none 0 0) (.bool false)) ∧ Below w.heap.size w wr)
    (fun _ i _ => n - (intOf i).toNat)
  case atStart =>
    refine ⟨1, 1, some ⟨w.heap.size + 1, 0, none⟩, Nat.le_refl _, hn1, rfl, rfl, ?_, ?_, by go_grown⟩
    · have := own_first (w.alloc (.cells #[.slice none 0 0, .bool false] 27)) starf (-1) rfl
      simpa only [World.size_alloc] using this
    · exact (Arr.box w 27 _ _).alloc _
  case round =>
    obtain ⟨k, c', A', hk1, hk, rfl, rfl, ho, hr, hw⟩ := hrel
    have hsz := hw.size
    have r0 := hr.cell (k := 0) (by omega)
    have r1 := hr.cell (k := 1) (by omega)
    have z0 := hr.frozen 0
    have z1 := hr.frozen 1
    have hrl := hr.lt
    by_cases hlt : k < n
    · have HO := hide ho
      have HR := hide hr
      have HW := hide hw
      clear ho hr hw
      go_wp2_with (first
        | (go_at_call 34; refine (star_call k (by omega) _).mono ?_; rintro e w2 ⟨rfl, hw2⟩; subst w2)
        | (at_builtin; refine wpList_append_f _ rfl _ _ rfl (w.heap.size + 1) A' c' k starf wr.heap.size rfl (HO.out.alloc _) rfl (by simp [go_sem]) (by omega) (by simp; omega) ?_; intro A2 c2 w5 ho2 hb2; have HO2 := hide ho2; have HB2 := hide hb2; clear ho2 hb2))
      go_roundw
      case rel =>
        refine ⟨k + 1, c2, A2, by omega, by omega, by go_num, rfl, HO2.out, (HR.out.alloc _).below HB2.out (by omega), ?_⟩
        exact (HW.out.alloc (Nat.le_trans (Nat.le_refl _) hsz) _).trans (HB2.out.mono (by omega))
      case measure => simp [intOf]; omega
    · have hkn : k = n := by omega
      subst hkn
      have HW := hide hw
      have HS := hide (own_src ho)
      have HR := hide hr
      clear ho hr hw
      go_wp2_with fail
      refine (fpImpl_yes _ _ _ starf _ _ HH.out (starf_ok _) (by first | exact HS.out | exact HS.out.drew)).mono ?_
      rintro e w1 ⟨g, cg, rfl, hgl, ha, hb1⟩
      obtain ⟨hc, hf⟩ := bcell hb1
      have hz1 := hb1.size
      have q0 := (hc w.heap.size 0 (by simpa using hrl)).trans r0
      have q1 := (hc w.heap.size 1 (by simpa using hrl)).trans r1
      have y0 := (hf w.heap.size 0 (by simpa using hrl)).trans z0
      have y1 := (hf w.heap.size 1 (by simpa using hrl)).trans z1
      have HA := hide ha
      have HB := hide hb1
      have hgl' : wr.heap.size ≤ g := by simpa using hgl
      clear ha hb1 hc hf r0 r1 z0 z1
      go_wp2
      refine bodyPost_ret (v := .tuple #[.agg #[.slice (some ⟨g, 0, none⟩) k cg, .bool own], .bool true]) (by simp [results, Try.results33, go_sem, q0, q1]) rfl ?_
      refine ⟨g, cg, rfl, by omega, (HA.out.far (by simp; omega) _).far (by simp; omega) _, ?_⟩
      have h1 : Below w.heap.size w w1 := HW.out.trans (HB.out.mono hsz)
      have hz := h1.size
      go_grown
theorem tree_bin_no (a : Int) (own : Bool) (w : World) (h : inB a 1 16 = false) : Calls Try.prog 33 #[.int .i64 a, .bool own, .func (.func 35) #[] #[]] w (GraphNo w) := by
  go_enter Try.func33, Try.ntmps33
  go_wp2_with (go_at_call 30; refine (isCount_any _ _).mono ?_; rintro e w' ⟨rfl, rfl⟩; rw [h])
  refine bodyPost_ret (v := .tuple #[.agg #[.slice none 0 0, .bool false], .bool false]) (by simp [results, Try.results33, go_sem]) rfl ?_
  exact ⟨rfl, by go_grown⟩
theorem tree_bin (n : Nat) (own : Bool) (w : World) (h : inB n 1 16 = true) : Calls Try.prog 33 #[.int .i64 n, .bool own, .func (.func 35) #[] #[]] w (GraphOk w n (nv (fpF binf n)) own) := by
  have hn : n ≤ 16 := by simp only [inB, decide_eq_true_eq] at h; omega
  have hn1 : 1 ≤ n := by simp only [inB, decide_eq_true_eq] at h; omega
  have HH := hide h
  go_enter Try.func33, Try.ntmps33
  go_wp2_with (go_at_call 30; refine (isCount_any _ _).mono ?_; rintro e w' ⟨rfl, rfl⟩; rw [h])
  go_loopw [8, 9] (fun P i wr => ∃ (k c' : Nat) (A' : Option Addr), 1 ≤ k ∧ k ≤ n ∧ i = .int .i64 k ∧ P = .slice A' k c' ∧ wr.ownsRow (w.heap.size + 1) 3 1 (.slice A' k c') k (rowL k (iv binf)) ∧ Arr wr 27 w.heap.size 2 (bx (.slice none 0 0) (.bool false)) ∧ Below w.heap.size w wr)
    (fun _ i _ => n - (intOf i).toNat)
  case atStart =>
    refine ⟨1, 1, some ⟨w.heap.size + 1, 0, none⟩, Nat.le_refl _, hn1, rfl, rfl, ?_, ?_, by go_grown⟩
    · have := own_first (w.alloc (.cells #[.slice none 0 0, .bool false] 27)) binf (-1) rfl
      simpa only [World.size_alloc] using this
    · exact (Arr.box w 27 _ _).alloc _
  case round =>
    obtain ⟨k, c', A', hk1, hk, rfl, rfl, ho, hr, hw⟩ := hrel
    have hsz := hw.size
    have r0 := hr.cell (k := 0) (by omega)
    have r1 := hr.cell (k := 1) (by omega)
    have z0 := hr.frozen 0
    have z1 := hr.frozen 1
    have hrl := hr.lt
    by_cases hlt : k < n
    · have HO := hide ho
      have HR := hide hr
      have HW := hide hw
      clear ho hr hw
      go_wp2_with (first
        | (go_at_call 35; refine (bin_call k (by omega) (by omega) _).mono ?_; rintro e w2 ⟨rfl, hw2⟩; subst w2)
        | (at_builtin; refine wpList_append_f _ rfl _ _ rfl (w.heap.size + 1) A' c' k binf wr.heap.size rfl (HO.out.alloc _) rfl (by simp [go_sem]) (by omega) (by simp; omega) ?_; intro A2 c2 w5 ho2 hb2; have HO2 := hide ho2; have HB2 := hide hb2; clear ho2 hb2))
      go_roundw
      case rel =>
        refine ⟨k + 1, c2, A2, by omega, by omega, by go_num, rfl, HO2.out, (HR.out.alloc _).below HB2.out (by omega), ?_⟩
        exact (HW.out.alloc (Nat.le_trans (Nat.le_refl _) hsz) _).trans (HB2.out.mono (by omega))
      case measure => simp [intOf]; omega
    · have hkn : k = n := by omega
      subst hkn
      have HW := hide hw
      have HS := hide (own_src ho)
      have HR := hide hr
      clear ho hr hw
      go_wp2_with fail
      refine (fpImpl_yes _ _ _ binf _ _ HH.out (binf_ok _) (by first | exact HS.out | exact HS.out.drew)).mono ?_
      rintro e w1 ⟨g, cg, rfl, hgl, ha, hb1⟩
      obtain ⟨hc, hf⟩ := bcell hb1
      have hz1 := hb1.size
      have q0 := (hc w.heap.size 0 (by simpa using hrl)).trans r0
      have q1 := (hc w.heap.size 1 (by simpa using hrl)).trans r1
      have y0 := (hf w.heap.size 0 (by simpa using hrl)).trans z0
      have y1 := (hf w.heap.size 1 (by simpa using hrl)).trans z1
      have HA := hide ha
      have HB := hide hb1
      have hgl' : wr.heap.size ≤ g := by simpa using hgl
      clear ha hb1 hc hf r0 r1 z0 z1
      go_wp2
      refine bodyPost_ret (v := .tuple #[.agg #[.slice (some ⟨g, 0, none⟩) k cg, .bool own], .bool true]) (by simp [results, Try.results33, go_sem, q0, q1]) rfl ?_
      refine ⟨g, cg, rfl, by omega, (HA.out.far (by simp; omega) _).far (by simp; omega) _, ?_⟩
      have h1 : Below w.heap.size w w1 := HW.out.trans (HB.out.mono hsz)
      have hz := h1.size
      go_grown
theorem starImpl_no (a : Int) (own : Bool) (w : World) (h : inB a 1 16 = false) : Calls Try.prog 22 #[.int .i64 a, .bool own] w (GraphNo w) := by
  go_enter Try.func22, Try.ntmps22
  go_wp2_with fail
  refine (tree_star_no _ _ _ h).mono ?_
  rintro e w1 ⟨rfl, hb⟩
  obtain ⟨hc, hf⟩ := bcell hb
  have hz := hb.size
  simp only [World.size_alloc] at hc hf hz
  have HB := hide (hb.mono (show w.heap.size ≤ _ by simp))
  clear hb
  go_wp2
  refine bodyPost_ret (v := .tuple #[.agg #[.slice none 0 0, .bool false], .bool false]) (by simp [results, Try.results22, go_sem, hc]) rfl ?_
  exact ⟨rfl, by have h := (by go_grown : Below w.heap.size w _).trans HB.out; go_grown⟩
theorem starImpl_ok (n : Nat) (own : Bool) (w : World) (h : inB n 1 16 = true) : Calls Try.prog 22 #[.int .i64 n, .bool own] w (GraphOk w n (nv (fpF starf n)) own) := by
  go_enter Try.func22, Try.ntmps22
  go_wp2_with fail
  refine (tree_star _ _ _ h).mono ?_
  rintro e w1 ⟨g, cp, rfl, hg, ha, hb⟩
  simp only [World.size_alloc] at hg
  obtain ⟨hc, hf⟩ := bcell hb
  have hz := hb.size
  simp only [World.size_alloc] at hc hf hz
  have HA := hide ha
  have HB := hide (hb.mono (show w.heap.size ≤ _ by simp))
  clear ha hb
  go_wp2
  refine bodyPost_ret (v := .tuple #[.agg #[.slice (some ⟨g, 0, none⟩) n cp, .bool own], .bool true]) (by simp [results, Try.results22, go_sem, hc]) rfl ?_
  exact ⟨g, cp, rfl, by omega, (HA.out.far (by simp; omega) _).far (by simp; omega) _, by have h := (by go_grown : Below w.heap.size w _).trans HB.out; go_grown⟩
theorem starSpec_no (a : Int) (own : Bool) (w : World) (h : inB a 1 16 = false) : Calls Try.prog 21 #[.int .i64 a, .bool own] w (GraphNo w) := by
  go_enter Try.func21, Try.ntmps21
  go_wp2_with (go_at_call 28; refine (grSize_any _ _).mono ?_; rintro e w' ⟨rfl, rfl⟩; rw [h])
  refine bodyPost_ret (v := .tuple #[.agg #[.slice none 0 0, .bool false], .bool false]) (by simp [results, Try.results21, go_sem]) rfl ?_
  exact ⟨rfl, by go_grown⟩
theorem starF_succ (k : Nat) (hk : 1 ≤ k) : fpF starf (k + 1) = lk 0 k (fpF starf k) := by
  have e : starf k = 0 := by rw [starf, if_neg (by omega)]
  rw [fpF, e]
  rfl
theorem binF_succ (k : Nat) (hk : 1 ≤ k) : fpF binf (k + 1) = lk ((k - 1) / 2) k (fpF binf k) := by
  have e : binf k = (((k - 1) / 2 : Nat) : Int) := by rw [binf, if_neg (by omega)]
  rw [fpF, e, if_pos (by omega)]
  rfl
theorem starF_lt (n k : Nat) (hn : n ≤ 16) (hk : k ≤ n) : ∀ j, j < n → fpF starf k j < 65536 := fpF_lt starf hn k hk (fun j hj => by have := starf_ok n; simp only [okP, decide_eq_true_eq] at this; exact (this j (by omega)).2)
theorem binF_lt (n k : Nat) (hn : n ≤ 16) (hk : k ≤ n) : ∀ j, j < n → fpF binf k j < 65536 := fpF_lt binf hn k hk (fun j hj => by have := binf_ok n; simp only [okP, decide_eq_true_eq] at this; exact (this j (by omega)).2)
theorem starSpec_ok (n : Nat) (own : Bool) (w : World) (h : inB n 1 16 = true) : Calls Try.prog 21 #[.int .i64 n, .bool own] w (GraphOk w n (nv (fpF starf n)) own) := by
  have hn : n ≤ 16 := by simp only [inB, decide_eq_true_eq] at h; omega
  have hn1 : 1 ≤ n := by simp only [inB, decide_eq_true_eq] at h; omega
  have hmk := run_make_row' (P := Try.prog) 25 3 (.int .i64 0) 8 Try.underlying25 int_info rfl .i64 .i64 n (by omega) (by omega)
  go_enter Try.func21, Try.ntmps21
  go_wp2_with (go_at_call 28; refine (grSize_any _ _).mono ?_; rintro e w' ⟨rfl, rfl⟩; rw [h])
  go_loopw [7] (fun i wr => ∃ k : Nat, 1 ≤ k ∧ k ≤ n ∧ i = .int .i64 k ∧ Arr wr 3 (w.heap.size + 1) n (iv (nv (fpF starf k))) ∧ Arr wr 27 w.heap.size 2 (bx (.slice none 0 0) (.bool false)) ∧ Arr wr 27 (w.heap.size + 1 + 1) 2 (bx (.slice (some ⟨w.heap.size + 1, 0, none⟩) n n) (.bool own)) ∧ Below w.heap.size w wr)
    (fun i _ => n - (intOf i).toNat)
  case atStart =>
    refine ⟨1, Nat.le_refl _, hn1, rfl, ?_, ?_, ?_, by go_grown⟩
    · exact (Arr.made_at (w.alloc _) _ n 3 (by simp) (fun k hk => rfl)).alloc _
    · exact ((Arr.box w 27 _ _).alloc _).alloc _
    · exact Arr.box_at ((w.alloc _).alloc _) 27 _ _ (by simp)
  case round =>
    obtain ⟨k, hk1, hk, rfl, ha, hr, hb, hw⟩ := hrel
    have c0 : wr.cell? ⟨w.heap.size + 1 + 1, 0, none⟩ = some (.slice (some ⟨w.heap.size + 1, 0, none⟩) n n) := hb.cell (by omega)
    have c1 : wr.cell? ⟨w.heap.size + 1 + 1, 1, none⟩ = some (.bool own) := hb.cell (by omega)
    by_cases hlt : k < n
    · have HA := hide ha
      have HR := hide hr
      have HB := hide hb
      have HW := hide hw
      clear ha hr hb hw
      go_wp2_with (go_at_call 29; refine (grAdd_at _ _ _ _ _ 0 k _ _ _ hn (by omega) hlt rfl rfl (starF_lt n k hn (by omega)) HA.out).mono ?_; rintro e w1 ⟨rfl, ha1, hg1⟩)
      have hz1 := hg1.size
      go_roundw
      case rel =>
        refine ⟨k + 1, by omega, by omega, by go_num, ?_, HR.out.grown hg1 (by omega), HB.out.grown hg1 (by omega), HW.out.grown hg1 HW.out.size (fun j hj => by injection hj; omega)⟩
        rw [starF_succ k hk1]; exact ha1
      case measure => simp [intOf]; omega
    · have r0 := hr.cell (k := 0) (by omega)
      have r1 := hr.cell (k := 1) (by omega)
      have z0 := hr.frozen 0
      have z1 := hr.frozen 1
      have HA := hide ha
      have HW := hide hw
      have hkn : k = n := by omega
      clear ha hr hb hw
      go_wp2
      refine bodyPost_ret (v := .tuple #[.agg #[.slice (some ⟨w.heap.size + 1, 0, none⟩) n n, .bool own], .bool true]) (by simp [results, Try.results21, go_sem, r0, r1]) rfl ?_
      subst hkn
      have hsz := HW.out.size
      exact ⟨_, _, rfl, by omega, (HA.out.far (by simp) _).far (by simp) _, by have h := HW.out; go_grown⟩
theorem lawStar (a : Int) (own : Bool) (w : World) : Calls Try.prog 6 #[.int .i64 a, .bool own] w fun e w' => e = .returned (.bool true) ∧ Below w.heap.size w w' := by
  cases h : inB a 1 16
  · exact lawStar_no a own w (fun w => starSpec_no a own w h) (fun w => starImpl_no a own w h)
  · obtain ⟨n, rfl⟩ : ∃ n : Nat, a = n := ⟨a.toNat, by simp only [inB, decide_eq_true_eq] at h; omega⟩
    have hn : n ≤ 16 := by simp only [inB, decide_eq_true_eq] at h; omega
    exact lawStar_ok n own n _ own w (by omega) (fun w => starSpec_ok n own w h) (fun w => starImpl_ok n own w h)
end Go.Proofs.Ytmcimfblhpflnaa
