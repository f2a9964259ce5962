import Derived.Test.YtmcimfblhpflnaaRD
import Derived.Deep.RegionHeld3
import Derived.Deep.RegionWith
namespace Go.Proofs.Ytmcimfblhpflnaa
open Go.RowKit
set_option maxHeartbeats 1000000
/-- The four cells of a box. -/
def Box4 (w : World) (b : Nat) (v0 v1 v2 v3 : Value) : Prop :=
  w.cell? ⟨b, 0, none⟩ = some v0 ∧ w.cell? ⟨b, 1, none⟩ = some v1 ∧ w.cell? ⟨b, 2, none⟩ = some v2 ∧ w.cell? ⟨b, 3, none⟩ = some v3
theorem Box4.below {W w' : World} {b : Nat} {v0 v1 v2 v3 : Value} (hb : Below W.heap.size W w') (h : Box4 W b v0 v1 v2 v3) : Box4 w' b v0 v1 v2 v3 := by
  obtain ⟨h1, h2, h3, h4⟩ := h
  have l1 := World.block_lt_of_cell? W _ h1
  exact ⟨(hb.cell (p := ⟨b, 0, none⟩) l1).trans h1, (hb.cell (p := ⟨b, 1, none⟩) l1).trans h2, (hb.cell (p := ⟨b, 2, none⟩) l1).trans h3, (hb.cell (p := ⟨b, 3, none⟩) l1).trans h4⟩
theorem Box4.new (w : World) (t : TypeId) (v0 v1 v2 v3 : Value) : Box4 (w.alloc (.cells #[v0, v1, v2, v3] t)) w.heap.size v0 v1 v2 v3 := by
  have h := Blk.new w t #[v0, v1, v2, v3] rfl
  exact ⟨h.cell 0, h.cell 1, h.cell 2, h.cell 3⟩
theorem left_any (R c l f : Nat) (own : Bool) (w : World) (hc : c ≤ 16) (hl : l < 9223372036854775808) (hR : R ≤ 65536) (hf : f < 2 ^ c) :
    Calls Try.prog 44 #[.agg #[.int .i64 R, .int .i64 c, .bool own, .int .i64 l], .int .i64 f] w fun e w' => e = .returned (.int .i64 (prw c own l f R : Nat)) ∧ Below w.heap.size w w' := by
  have HF := Lib.hid hf
  have HL := Lib.hid hl
  clear hf hl
  go_enter Try.func44, Try.ntmps44
  go_wp2_with fail
  obtain ⟨k0, k1, k2, k3⟩ := Box4.new w 52 (.int .i64 R) (.int .i64 c) (.bool own) (.int .i64 l)
  go_region_with ((go_at_call 49; refine (pattern_any R c l f own _ hc HL.out hR HF.out).mono ?_; rintro e w2 ⟨A, d, m, rfl, hm, ho, hb⟩; obtain ⟨b, hA, hBb, hbl, hmd, hdm, hcell⟩ := ho.read hm (k := R) (by rw [rows_length] at hm; omega); subst hA; rw [rows_length] at hm; rw [rows_get (Nat.le_refl R)] at hcell; subst hm; have c0 : w2.cell? ⟨w.heap.size, 0, none⟩ = some (.int .i64 R) := (hb.cell (p := ⟨w.heap.size, 0, none⟩) (by simp)).trans k0; have HB := Lib.hid hb; clear ho hdm hb))
  all_goals
    go_wp2
    go_ret
    exact ⟨rfl, by have h : Below w.heap.size w w2 := (by go_grown : Below w.heap.size w _).trans (HB.out.mono (by simp)); go_grown⟩
theorem presses_step {c l f k p : Nat} {own : Bool} (hf : f < 2 ^ c) (hp : c * k = p) (h16 : c * (k + 1) ≤ 16) :
    bits .or .i64 ((prs c own l f k : Nat) : Int) (RowKit.wrap64 ((prw c own l f k : Nat) * 2 ^ p)) = (prs c own l f (k + 1) : Nat) := by
  have h1 : prs c own l f k < 2 ^ (c * k) := prs_lt hf k
  have h2 : prs c own l f (k + 1) < 2 ^ (c * (k + 1)) := prs_lt hf (k + 1)
  have h3 : prw c own l f k < 2 ^ c := prw_lt hf k
  have h4 := pow16n (show c * k ≤ 16 by rw [Nat.mul_succ] at h16; omega)
  have h5 : 2 ^ c * 2 ^ (c * k) ≤ 65536 := by rw [← Nat.pow_add]; exact pow16n (by rw [Nat.mul_succ] at h16; omega)
  have h6 : prw c own l f k * 2 ^ (c * k) < 65536 := Nat.lt_of_lt_of_le (Nat.mul_lt_mul_of_lt_of_le h3 (Nat.le_refl _) (Nat.two_pow_pos _)) h5
  subst hp
  have e : ((prw c own l f k : Nat) : Int) * 2 ^ (c * k) = ((prw c own l f k * 2 ^ (c * k) : Nat) : Int) := by rw [Int.natCast_mul, pow_nat]
  rw [e, IntWalk.wrap64_in _ (by omega), i64_or_nat _ _ (by omega) (by omega)]
  rfl
theorem presses_any (R c l f : Nat) (own : Bool) (w : World) (hs : Sides R c) (hl : l < 9223372036854775808) (hf : f < 2 ^ c) :
    Calls Try.prog 46 #[.agg #[.int .i64 R, .int .i64 c, .bool own, .int .i64 l], .int .i64 f] w fun e w' => e = .returned (.int .i64 (prs c own l f R : Nat)) ∧ Below w.heap.size w w' := by
  obtain ⟨s1, s2, s3, s4, s5⟩ := hs
  have HF := Lib.hid hf
  have HL := Lib.hid hl
  have HP := Lib.hid s5
  clear hf hl s5
  go_enter Try.func46, Try.ntmps46
  go_wp2_with fail
  obtain ⟨k0, k1, k2, k3⟩ := Box4.new w 52 (.int .i64 R) (.int .i64 c) (.bool own) (.int .i64 l)
  go_region_with ((go_at_call 49; refine (pattern_any R c l f own _ s4 HL.out (by omega) HF.out).mono ?_; rintro e w2 ⟨A, d, m, rfl, hm, ho, hb⟩; obtain ⟨b, hA, hBb, hbl, hmd, hdm, hcell⟩ := ho.read hm (k := R) (by rw [rows_length] at hm; omega); subst hA; have HS := Lib.hid (ho.src hm); rw [rows_length] at hm; subst hm; have c0 : w2.cell? ⟨w.heap.size, 0, none⟩ = some (.int .i64 R) := (hb.cell (p := ⟨w.heap.size, 0, none⟩) (by simp)).trans k0; have c1 : w2.cell? ⟨w.heap.size, 1, none⟩ = some (.int .i64 c) := (hb.cell (p := ⟨w.heap.size, 1, none⟩) (by simp)).trans k1; have HB := Lib.hid hb; clear ho hdm hb hcell))
  all_goals
    go_wp2
    clear k0 k1 k2 k3 c0
    go_simp
    go_loop [5, 15] (fun v i => ∃ k : Nat, k ≤ R ∧ i = .int .i64 k ∧ v = .int .i64 (prs c own l f k : Nat)) (fun _ i => R - (intOf i).toNat)
    case atStart => exact ⟨0, by omega, rfl, rfl⟩
    case round =>
      obtain ⟨k, hk, rfl, rfl⟩ := hrel
      by_cases hlt : k < R
      · obtain ⟨b', off, hA, hbl', hc0⟩ := HS.out k (by omega)
        injection hA with hA
        injection hA with hA1 hA2
        subst hA1 hA2
        rw [Nat.zero_add, rows_get (by omega)] at hc0
        obtain ⟨p, hp⟩ : ∃ p : Nat, c * k = p := ⟨_, rfl⟩
        have hk16 : c * (k + 1) ≤ 16 := by
          have h1 : c * (k + 1) ≤ c * R := Nat.mul_le_mul_left c hlt
          have h2 := HP.out
          rw [Nat.mul_comm R c] at h2
          omega
        have hp16 : p ≤ 16 := by rw [Nat.mul_succ] at hk16; omega
        have hmul : (k : Int) * (c : Int) = (p : Int) := by rw [← hp, Int.mul_comm]; exact (Int.natCast_mul c k).symm
        have HK := Lib.hid (presses_step (own := own) (l := l) HF.out hp hk16)
        clear hp hk16
        go_wp2
        go_round
        case rel => exact ⟨k + 1, by omega, by go_num, congrArg (Value.int .i64) (by first | exact HK.out | (have h := HK.out; exact h))⟩
        case measure => simp [intOf]; omega
      · have hkn : k = R := by omega
        subst hkn
        go_wp2
        go_ret
        exact ⟨rfl, by have h : Below w.heap.size w w2 := (by go_grown : Below w.heap.size w _).trans (HB.out.mono (by simp)); go_grown⟩
end Go.Proofs.Ytmcimfblhpflnaa
