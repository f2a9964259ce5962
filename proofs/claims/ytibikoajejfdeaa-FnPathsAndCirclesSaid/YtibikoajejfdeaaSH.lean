import Derived.Test.YtibikoajejfdeaaRC
import Derived.Test.YtibikoajejfdeaaBD
import Derived.Ground.NamesProg
import Derived.Ground.Names2Prog
import Derived.Shelf.Lay
import Derived.Shelf.Small.Bits
import Derived.Shelf.Spec.SlicesInsert
import Derived.Shelf.Spec.SlicesInsertGrow
import Derived.Shelf.Slices.SearchI
import Derived.Shelf.Slices.Empties
namespace Go.Proofs
open Go.Shelf
shelf_lay Lays.n125 Nm 125 at Try as Try.len
shelf_lay Lays2.n21 Nm2 21 at Try as Try.insert
shelf_lay Lays2.n25 Nm2 25 at Try as Try.search
end Go.Proofs
namespace Go.Proofs.Ytibikoajejfdeaa
open Go.RowKit
set_option maxHeartbeats 1000000
theorem OL.mk {w : World} {B g c n : Nat} {cur : Array Value} {L : List Nat} (hB : B ≤ g) (hg : Blk w 3 g cur) (hn : L.length = n) (hnc : n ≤ c) (hm : c ≤ maxLen) (hc : cur.size = c) (h : ∀ j, j < n → cur[j]? = some (lv L j)) : OL w B (.slice (some ⟨g, 0, none⟩) n c) L := by
  subst hn
  refine ⟨by simp [vl], .inr ⟨g, c, cur, rfl, hB, hg, hnc, hm, by omega, ?_⟩⟩
  rw [vl_row]
  apply List.ext_getElem?
  intro j
  by_cases hj : j < L.length
  · rw [rowL_get _ _ _ hj, List.getElem?_take_of_lt (by omega), ← h j hj]; simp
  · rw [List.getElem?_eq_none (by simp; omega), List.getElem?_eq_none (by simp [rowL]; omega)]
theorem OL.cases {w : World} {B c n : Nat} {A : Option Addr} {L : List Nat} (h : OL w B (.slice A n c) L) (hn : L.length = n) :
    (A = none ∧ n = 0 ∧ c = 0 ∧ L = []) ∨ ∃ g cur, A = some ⟨g, 0, none⟩ ∧ B ≤ g ∧ Blk w 3 g cur ∧ n ≤ c ∧ c ≤ maxLen ∧ cur.size = c ∧ ∀ j, j < n → cur[j]? = some (lv L j) := by
  subst hn
  rcases h.2 with ⟨h1, h2⟩ | ⟨g, cap, cur, h1, hB, hg, hnc, hm, hcs, ht⟩
  · injection h1 with a b d
    exact .inl ⟨a, h2, d, List.length_eq_zero_iff.1 h2⟩
  · injection h1 with a b d
    subst a d
    refine .inr ⟨g, cur, rfl, hB, hg, hnc, hm, by omega, fun j hj => ?_⟩
    have h3 : (cur.toList.take (L.length * 1))[j]? = (rowL L.length (lv L))[j]? := by rw [ht, vl_row]
    rw [rowL_get _ _ _ hj, List.getElem?_take_of_lt (by omega)] at h3
    simpa using h3
/-- Cells laid over an array from o on. -/
def layC (cs : Array Value) : Nat → List Value → Array Value
  | _, [] => cs
  | o, v :: r => layC (cs.setIfInBounds o v) (o + 1) r
theorem layC_size (vs : List Value) : ∀ (cs : Array Value) (o : Nat), (layC cs o vs).size = cs.size := by
  induction vs with
  | nil => intro cs o; rfl
  | cons v r ih => intro cs o; rw [layC, ih]; simp
theorem layC_get (vs : List Value) : ∀ (cs : Array Value) (o j : Nat), j < cs.size → (layC cs o vs)[j]? = if o ≤ j ∧ j < o + vs.length then vs[j - o]? else cs[j]? := by
  induction vs with
  | nil => intro cs o j hj; rw [layC, if_neg (by simp only [List.length_nil]; omega)]
  | cons v r ih =>
    intro cs o j hj
    rw [layC, ih _ _ _ (by simpa using hj)]
    by_cases h1 : o + 1 ≤ j ∧ j < o + 1 + r.length
    · rw [if_pos h1, if_pos (by simp; omega), show j - o = (j - (o + 1)) + 1 by omega]; rfl
    · rw [if_neg h1, Array.getElem?_setIfInBounds]
      by_cases h2 : o = j
      · subst h2; rw [if_pos rfl, if_pos (by omega), if_pos (by simp)]; simp
      · rw [if_neg h2, if_neg (by simp; omega)]
theorem Blk.lay {w : World} {t : TypeId} {g : Nat} (vs : List Value) : ∀ {cs : Array Value} (o : Nat), Blk w t g cs → Blk (w.setCells g o vs) t g (layC cs o vs) := by
  induction vs generalizing w with
  | nil => intro cs o h; exact h
  | cons v r ih => intro cs o h; exact ih (o + 1) (h.set o v)
theorem below_lay {B b : Nat} {a : World} (hb : B ≤ b) : ∀ (vs : List Value) (o : Nat) (w : World), Below B a w → Below B a (w.setCells b o vs)
  | [], _, _, h => h
  | v :: r, o, _, h => below_lay hb r (o + 1) _ (h.setCell hb v)
/-- x put in ahead of the element p. -/
def insL (L : List Nat) (p x : Nat) : List Nat := L.take p ++ x :: L.drop p
theorem insL_length (L : List Nat) (p x : Nat) (hp : p ≤ L.length) : (insL L p x).length = L.length + 1 := by
  simp only [insL, List.length_append, List.length_take, List.length_cons, List.length_drop]; omega
theorem insL_get (L : List Nat) (p x : Nat) (hp : p ≤ L.length) (j : Nat) : lv (insL L p x) j = if j < p then lv L j else if j = p then .int .i64 (x : Nat) else lv L (j - 1) := by
  unfold lv insL
  simp only [List.getD_eq_getElem?_getD]
  by_cases h1 : j < p
  · rw [if_pos h1, List.getElem?_append_left (by rw [List.length_take]; omega), List.getElem?_take_of_lt h1]
  · rw [if_neg h1, List.getElem?_append_right (by rw [List.length_take]; omega), List.length_take, Nat.min_eq_left hp]
    by_cases h2 : j = p
    · subst h2; simp
    · rw [if_neg h2, show j - p = (j - 1 - p) + 1 by omega, List.getElem?_cons_succ, List.getElem?_drop, show p + (j - 1 - p) = j - 1 by omega]
theorem vl_get {L : List Nat} {j : Nat} {v : Value} (h : (vl L)[j]? = some v) : j < L.length ∧ v = lv L j := by
  rw [vl_row] at h
  by_cases hj : j < L.length
  · rw [rowL_get _ _ _ hj] at h; injection h with h; exact ⟨hj, h.symm⟩
  · rw [List.getElem?_eq_none (by simp [rowL]; omega)] at h; cases h
theorem vl_one {L : List Nat} : ∀ v ∈ vl L, v.oneCell' = true := by
  intro v hv; simp only [vl, List.mem_map] at hv; obtain ⟨x, _, rfl⟩ := hv; rfl
theorem vl_drop (L : List Nat) (i j : Nat) : ((vl L).drop i)[j]? = (vl L)[i + j]? := by rw [List.getElem?_drop]
theorem vl_at {L : List Nat} {j : Nat} (h : j < L.length) : (vl L)[j]? = some (lv L j) := by rw [vl_row, rowL_get _ _ _ h]
theorem insert_any (B : Nat) (A : Option Addr) (c n : Nat) (L : List Nat) (p x vb : Nat) (w : World) (hown : OL w B (.slice A n c) L) (hn : L.length = n) (hp : p ≤ n) (hn64 : n ≤ 1048576)
    (hv : Blk w 3 vb #[.int .i64 (x : Nat)]) (hne : ∀ g, A = some ⟨g, 0, none⟩ → vb ≠ g) (hB : B ≤ w.heap.size) :
    Calls Try.prog 56 #[.slice A n c, .int .i64 p, .slice (some ⟨vb, 0, none⟩) 1 1] w (GrownL B w (insL L p x)) := by
  have hvs : ∀ j v, [Value.int .i64 (x : Nat)][j]? = some v → w.cell? ⟨vb, 0 + j, none⟩ = some v := by
    intro j v h
    match j, h with
    | 0, h => simp at h; subst h; rw [hv.cell]; rfl
  have h1v : ∀ v ∈ [Value.int .i64 (x : Nat)], v.oneCell' = true := by intro v h; simp at h; subst h; rfl
  have hil := insL_length L p x (by omega)
  rcases hown.cases hn with ⟨rfl, rfl, rfl, rfl⟩ | ⟨g, cur, rfl, hBg, hg, hnc, hm, hcs, hcur⟩
  · have hp0 : p = 0 := by omega
    subst hp0
    refine (Any2.slices_Insert_int_end_grow Try.insert none 0 0 vb 0 1 1 [] [.int .i64 (x : Nat)] w (by omega) (by omega) (by omega) (by omega) rfl rfl (fun _ => rfl) (fun a h => by cases h) hvs h1v).mono ?_
    rintro e w' ⟨rfl, rfl⟩
    have hge := grownCap_ge w (0 + 1) 0 (Try.insert_ren.t 3)
    have hle := grownCap_le_maxLen w (0 + 1) 0 (Try.insert_ren.t 3) (by unfold maxLen; omega)
    refine ⟨_, _, 1, rfl, hil, OL.mk (cur := _) hB (Blk.new _ _ _ rfl) hil hge hle ?_ ?_, (below_drewN (Below.refl _ _) 1).alloc hB _⟩
    · simp only [Array.size_append, size_zeroCells, List.size_toArray, List.length_append, List.length_cons, List.length_nil]
      show 0 + (0 + 1) + (grownCap w (0 + 1) 0 (Try.insert_ren.t 3) - (0 + 1)) * 1 = grownCap w (0 + 1) 0 (Try.insert_ren.t 3)
      omega
    · intro j hj
      have : j = 0 := by omega
      subst this; rw [Array.getElem?_append_left (by simp)]; simp [insL, lv]
  · have hgl := hg.lt
    have hcell : ∀ j v, (vl L)[j]? = some v → w.cell? ⟨g, 0 + j, none⟩ = some v := by
      intro j v h
      obtain ⟨h1, rfl⟩ := vl_get h
      rw [hg.cell, Nat.zero_add]; exact hcur j (by omega)
    have hvl : (vl L).length = n := by simp [vl, hn]
    by_cases hroom : n + 1 ≤ c
    · by_cases hpn : p < n
      · refine (Any2.slices_Insert_int_shift Try.insert g 0 n c p vb 0 1 1 (vl L) [.int .i64 (x : Nat)] w hpn (by omega) hroom (by simpa [maxLen] using hm) (hne g rfl) hvl rfl hcell (fun j hj => ?_) (fun j _ => hg.frozen _) hvs vl_one h1v 3 3 1 c ?_ ?_ (by omega) (hv.frozen _) (hv.frozen _)).mono ?_
        · rw [hg.cell]; simp; omega
        · unfold Blk at hv; simp [World.shape?, hv]
        · unfold Blk at hg; simp [World.shape?, hg, hcs]
        · rintro e w' ⟨rfl, rfl⟩
          have hk := ((Blk.lay ((vl L).drop p) (0 + (p + 1)) hg.drew)).lay [.int .i64 (x : Nat)] (0 + p)
          refine ⟨_, _, n + 1, rfl, by omega, OL.mk hBg hk (by omega) hroom hm (by rw [layC_size, layC_size]; exact hcs) ?_, below_lay hBg _ _ _ (below_lay hBg _ _ _ (below_drewN (Below.refl _ _) 1))⟩
          intro j hj
          rw [layC_get _ _ _ _ (by rw [layC_size]; omega), insL_get _ _ _ (by omega)]
          by_cases h1 : j = p
          · subst h1; rw [if_pos (by simp), if_neg (by omega), if_pos rfl]; simp
          · rw [if_neg (by simp; omega), layC_get _ _ _ _ (by omega), if_neg h1]
            by_cases h2 : j < p
            · rw [if_neg (by omega), if_pos h2]; exact hcur j (by omega)
            · rw [if_pos (by simp [vl]; omega), if_neg h2, vl_drop, show p + (j - (0 + (p + 1))) = j - 1 by omega, vl_at (by omega)]
      · have hpe : p = n := by omega
        subst hpe
        refine (Any2.slices_Insert_int_end_room Try.insert g 0 p c vb 0 1 1 [.int .i64 (x : Nat)] w (by omega) hroom (by simpa [maxLen] using hm) rfl (fun j hj => ?_) (fun j _ => hg.frozen _) hvs h1v).mono ?_
        · rw [hg.cell]; simp; omega
        · rintro e w' ⟨rfl, rfl⟩
          refine ⟨_, _, p + 1, rfl, by omega, OL.mk hBg (hg.lay _ _) (by omega) hroom hm (by rw [layC_size]; exact hcs) ?_, below_lay hBg _ _ _ (Below.refl _ _)⟩
          intro j hj
          rw [layC_get _ _ _ _ (by omega), insL_get _ _ _ (by omega)]
          by_cases h1 : j = p
          · subst h1; rw [if_pos (by simp), if_neg (by omega), if_pos rfl]; simp
          · rw [if_neg (by simp; omega), if_pos (by omega)]; exact hcur j (by omega)
    · by_cases hpn : p < n
      · refine (Any2.slices_Insert_int_grow Try.insert g 0 n c p vb 0 1 1 (vl L) [.int .i64 (x : Nat)] w hpn (by omega) hnc (by omega) (by omega) hvl rfl hcell hvs vl_one h1v).mono ?_
        rintro e w' ⟨rfl, rfl⟩
        have hge := grownCap_ge w (n + 1) c (Try.insert_ren.t 3)
        have hle := grownCap_le_maxLen w (n + 1) c (Try.insert_ren.t 3) (by unfold maxLen; omega)
        have hk0 := Blk.new w (Try.insert_ren.t 3) (((vl L).take p).toArray ++ Builtin.zeroCells (Value.int IntKind.i64 0).cells (n + 1 - p) ++ Builtin.zeroCells (Value.int IntKind.i64 0).cells (grownCap w (n + 1) c (Try.insert_ren.t 3) - (n + 1))) rfl
        have hsz : (((vl L).take p).toArray ++ Builtin.zeroCells (Value.int IntKind.i64 0).cells (n + 1 - p) ++ Builtin.zeroCells (Value.int IntKind.i64 0).cells (grownCap w (n + 1) c (Try.insert_ren.t 3) - (n + 1))).size = grownCap w (n + 1) c (Try.insert_ren.t 3) := by
          simp only [Array.size_append, size_zeroCells, List.size_toArray, List.length_take, hvl]
          show min p n + (n + 1 - p) * 1 + (_ - (n + 1)) * 1 = _
          omega
        have hk := (Blk.lay ((vl L).drop p) (p + 1) (Blk.drew (Blk.lay [.int .i64 (x : Nat)] p (Blk.drew hk0))))
        refine ⟨_, _, n + 1, rfl, by omega, OL.mk hB hk (by omega) hge hle (by rw [layC_size, layC_size]; exact hsz) ?_, below_lay hB _ _ _ (below_drewN (below_lay hB _ _ _ (below_drewN ((Below.refl _ _).alloc hB _) 1)) 1)⟩
        intro j hj
        rw [layC_get _ _ _ _ (by rw [layC_size, hsz]; omega), insL_get _ _ _ (by omega)]
        by_cases h1 : p + 1 ≤ j
        · rw [if_pos (by simp [vl]; omega), if_neg (by omega), if_neg (by omega), vl_drop, show p + (j - (p + 1)) = j - 1 by omega, vl_at (by omega)]
        · rw [if_neg (by omega), layC_get _ _ _ _ (by rw [hsz]; omega)]
          by_cases h2 : j = p
          · subst h2; rw [if_pos (by simp), if_neg (by omega), if_pos rfl]; simp
          · rw [if_neg (by simp; omega), if_pos (by omega), Array.append_assoc, Array.getElem?_append_left (by simp [hvl]; omega)]
            rw [List.getElem?_toArray, List.getElem?_take_of_lt (by omega), vl_at (by omega)]
      · have hpe : p = n := by omega
        subst hpe
        refine (Any2.slices_Insert_int_end_grow Try.insert (some ⟨g, 0, none⟩) p c vb 0 1 1 (vl L) [.int .i64 (x : Nat)] w (by omega) hnc (by omega) (by omega) hvl rfl (fun h => by cases h) (fun a h j v hj => ?_) hvs h1v).mono ?_
        · injection h with h; subst h
          rcases j with _ | j
          · simpa [Addr.add] using hcell 0 v hj
          · simpa [Addr.add] using hcell (j + 1) v hj
        · rintro e w' ⟨rfl, rfl⟩
          have hge := grownCap_ge w (p + 1) c (Try.insert_ren.t 3)
          have hle := grownCap_le_maxLen w (p + 1) c (Try.insert_ren.t 3) (by unfold maxLen; omega)
          refine ⟨_, _, p + 1, rfl, by omega, OL.mk (cur := _) hB (Blk.new _ _ _ rfl) (by omega) hge hle ?_ ?_, (below_drewN (Below.refl _ _) 1).alloc hB _⟩
          · simp only [Array.size_append, size_zeroCells, List.size_toArray, List.length_append, hvl, List.length_cons, List.length_nil]
            show p + (0 + 1) + (_ - (p + 1)) * 1 = _
            omega
          · intro j hj
            rw [insL_get _ _ _ (by omega), Array.getElem?_append_left (by simp [hvl]; omega), List.getElem?_toArray]
            by_cases h1 : j = p
            · subst h1; rw [if_neg (by omega), if_pos rfl, List.getElem?_append_right (by omega), hvl]; simp
            · rw [if_pos (by omega), List.getElem?_append_left (by omega), vl_at (by omega)]
end Go.Proofs.Ytibikoajejfdeaa
