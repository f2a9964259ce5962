import Derived.Test.YtmcimfblhpflnaaDoorWD
import Derived.Deep.RegionHeld3
namespace Go.Proofs.YtmcimfblhpflnaaDoor
open Go.RowKit
set_option maxHeartbeats 2000000
theorem two_below {W w' : World} {a : Nat} {u0 u1 : Value} (hb : Below W.heap.size W w')
    (h : W.cell? ⟨a, 0, none⟩ = some u0 ∧ W.cell? ⟨a, 1, none⟩ = some u1) : w'.cell? ⟨a, 0, none⟩ = some u0 ∧ w'.cell? ⟨a, 1, none⟩ = some u1 := by
  obtain ⟨h1, h2⟩ := h
  have l1 := World.block_lt_of_cell? W _ h1
  exact ⟨(hb.cell (p := ⟨a, 0, none⟩) l1).trans h1, (hb.cell (p := ⟨a, 1, none⟩) l1).trans h2⟩
theorem full_wrap {n : Nat} (hn : n ≤ 16) : RowKit.wrap64 (RowKit.wrap64 (2 ^ n) - 1) = ((2 ^ n - 1 : Nat) : Int) := by
  have h := pow16n hn
  have h0 := Nat.two_pow_pos n
  rw [wrap_pow16 hn]
  generalize 2 ^ n = z at h h0
  rw [IntWalk.wrap64_in _ (by omega)]
  omega
theorem full_bare {n : Nat} (hn : n ≤ 16) : IntKind.i64.wrap (IntKind.i64.wrap (2 ^ n) - 1) = ((2 ^ n - 1 : Nat) : Int) := by
  have h := pow16n hn
  have h0 := Nat.two_pow_pos n
  have e : IntKind.i64.wrap (2 ^ n) = ((2 ^ n : Nat) : Int) := by
    rw [← pow_nat]; generalize 2 ^ n = z at h; exact IntWalk.i64_in _ (by omega)
  rw [e]
  generalize 2 ^ n = z at h h0
  rw [IntWalk.i64_in _ (by omega)]
  omega
/-- The buttons with an even number of neighbours. -/
def evenN (F : Nat → Nat) (n : Nat) : Nat := oddN F n ^^^ (2 ^ n - 1)
/-- Neighbours, and the own one where it is given. -/
def spT (F : Nat → Nat) (d : Nat) : Nat → Nat := fun i => F i ||| (d &&& 2 ^ i)
theorem split_any (g n c : Nat) (F : Nat → Nat) (own : Bool) (d : Nat) (w : World) (hn : n ≤ 16) (hF : ∀ k, k < n → F k < 65536) (hd : d < 65536) (ha : Arr w 3 g n (iv (nv F))) :
    Calls Tryd.prog 117 #[.agg #[.slice (some ⟨g, 0, none⟩) n c, .bool own], .int .i64 d] w fun e w' => ∃ g', e = .returned (.slice (some ⟨g', 0, none⟩) n n) ∧ Arr w' 3 g' n (iv (nv (spT F d))) ∧ Below w.heap.size w w' := by
  have hmk := run_make_row' (P := Tryd.prog) 22 3 (.int .i64 0) 8 Tryd.underlying22 int_info rfl .i64 .i64 n (by omega) (by omega)
  have HF := hide hF
  have HA := hide (ha.alloc (.cells #[.slice (some ⟨g, 0, none⟩) n c, .bool own] 28))
  have hgl := ha.lt
  clear hF ha
  go_enter Tryd.func117, Tryd.ntmps117
  go_wp2
  go_loopw [15] (fun i wr => ∃ k : Nat, k ≤ n ∧ i = .int .i64 k ∧ Arr wr 3 (w.heap.size + 1) n (fun j => if j < k then iv (nv (spT F d)) j else .int .i64 0) ∧ Below (w.heap.size + 1) (w.alloc (.cells #[.slice (some ⟨g, 0, none⟩) n c, .bool own] 28)) wr)
    (fun i _ => n - (intOf i).toNat)
  case atStart => exact ⟨0, Nat.zero_le _, rfl, (Arr.made_at _ _ n 3 (by simp) (fun k hk => by simp)), (by go_grown)⟩
  case round =>
    obtain ⟨k, hk, rfl, ha, hb⟩ := hrel
    by_cases hlt : k < n
    · have hc := (HA.out.all (hb.mono (by simp))).cell hlt
      simp only [iv, nv] at hc
      obtain ⟨x, hx⟩ : ∃ x, F k = x := ⟨_, rfl⟩
      have hx16 := HF.out k hlt
      rw [hx] at hc hx16
      have hlr : w.heap.size < wr.heap.size := by have := hb.size; simp at this; omega
      have hk16 := pow_lt16 (j := k) (by omega)
      have ew := wrap_pow (j := k) (by omega)
      rw [← pow_nat] at ew
      obtain ⟨q, hq⟩ : ∃ q, 2 ^ k = q := ⟨_, rfl⟩
      rw [hq] at hk16 ew
      have ew2 : RowKit.wrap64 (2 ^ k) = (q : Int) := by rw [← ew, ← hq, pow_nat]
      have e1 := i64_and_nat d q (Nat.lt_trans hd (by decide)) (Nat.lt_trans hk16 (by decide))
      obtain ⟨y, hy⟩ : ∃ y, d &&& q = y := ⟨_, rfl⟩
      have hy16 : y < 65536 := by rw [← hy]; exact Nat.lt_of_le_of_lt Nat.and_le_left hd
      rw [hy] at e1
      have e2 := i64_or_nat x y (Nat.lt_trans hx16 (by decide)) (Nat.lt_trans hy16 (by decide))
      have HN : Hid (spT F d k = x ||| y) := hide (by rw [spT, hx, hq, hy])
      have hw := ha.cell hlt
      have hz := ha.frozen k
      have HAr := hide ha
      have HB := hide hb
      clear ha hb hx hq hy ew
      go_wp2
      go_roundw
      case rel =>
        refine ⟨k + 1, by omega, by go_num, (HAr.out.set k _).congr (fun j hj => ?_), HB.out.setCell (Nat.le_refl _) _⟩
        by_cases hjk : j = k
        · subst hjk; simp [iv, nv, HN.out]
        · simp only [hjk, if_false]
          by_cases h2 : j < k
          · rw [if_pos h2, if_pos (by omega)]
          · rw [if_neg h2, if_neg (by omega)]
      case measure => simp [intOf]; omega
    · have HB := hide hb
      have HAr := hide ha
      clear ha hb
      go_wp2
      go_ret
      exact ⟨_, rfl, HAr.out.congr (fun j hj => by rw [if_pos (by omega)]), (by go_grown : Below w.heap.size w _).trans (HB.out.mono (by simp))⟩
end Go.Proofs.YtmcimfblhpflnaaDoor
