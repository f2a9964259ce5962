import Derived.Test.YtodbhokokdckkaaLA
import Derived.Test.YtodbhokokdckkaaWO
import Derived.Test.YtodbhokokdckkaaMB
namespace Go.Proofs.Ytodbhokokdckkaa
open Go.RowKit
set_option maxHeartbeats 400000
/-- The cells of a list of sets. -/
def lv (L : List Nat) : Nat → Value := fun k => .int .i64 (L.getD k 0 : Nat)
theorem lv_get {L : List Nat} {k : Nat} (h : k < L.length) : lv L k = .int .i64 (L[k] : Nat) := by
  simp [lv, h]
def M40 (L : List Nat) : Prop := ∀ b ∈ L, b < 1099511627776
def NZ (L : List Nat) : Prop := ∀ b ∈ L, b ≠ 0
theorem p40 : (2 : Nat) ^ 40 = 1099511627776 := rfl
theorem log40 {b : Nat} (h0 : b ≠ 0) (h : b < 1099511627776) : b.log2 < 40 := (Nat.log2_lt h0).2 h
theorem stp40 {a b : Nat} (ha : a < 1099511627776) (hb : b < 1099511627776) : stp a b < 1099511627776 := stp_lt (n := 40) ha hb
theorem rdr40 {L : List Nat} {s : Nat} (hL : M40 L) (hs : s < 1099511627776) : rdr L s < 1099511627776 := by
  induction L with
  | nil => exact hs
  | cons b L ih => exact stp40 (ih (fun c hc => hL c (by simp [hc]))) (hL b (by simp))
theorem rd40 {L : List Nat} {s : Nat} (hL : M40 L) (hs : s < 1099511627776) : rd L s < 1099511627776 := by
  induction L generalizing s with
  | nil => exact hs
  | cons b L ih => exact ih (fun c hc => hL c (by simp [hc])) (stp40 hs (hL b (by simp)))
theorem ret_int {k : IntKind} {a b : Int} (h : a = b) : Ending.returned (.int k a) = .returned (.int k b) := by rw [h]
theorem soTop_any (s : Nat) (w : World) (hs : s < 1099511627776) (h0 : s ≠ 0) :
    Calls Try.prog 112 #[.int .i64 s] w fun e w' => e = .returned (.int .i64 (s.log2 : Nat)) ∧ w' = w := by
  have hL := log40 h0 hs
  go_enter Try.func112, Try.ntmps112
  go_wp2
  go_loop [0, 3] (fun x t => ∃ k : Nat, k ≤ s.log2 + 1 ∧ x = .int .i64 ((s / 2 ^ k : Nat) : Int) ∧ t = .int .i64 ((k : Int) - 1)) (fun x _ => (intOf x).toNat)
  case atStart => exact ⟨0, by omega, by simp, rfl⟩
  case round =>
    obtain ⟨k, hk, rfl, rfl⟩ := hrel
    obtain ⟨x, hx⟩ : ∃ x, s / 2 ^ k = x := ⟨_, rfl⟩
    have hx2 : Hid (s / 2 ^ (k + 1) = x / 2) := hide (by rw [Nat.pow_succ, ← Nat.div_div_eq_div_mul, hx])
    have hxs : x ≤ s := by rw [← hx]; exact Nat.div_le_self _ _
    rw [hx]
    by_cases hp : 0 < x
    · have hkl : k ≤ s.log2 := by
        apply (Nat.le_log2 h0).2
        rcases Nat.lt_or_ge s (2 ^ k) with h | h
        · rw [Nat.div_eq_of_lt h] at hx; omega
        · exact h
      clear hx
      go_wp2
      go_round
      case rel => exact ⟨k + 1, by omega, by rw [hx2.out]; go_num, by go_num⟩
      case measure => simp [intOf] <;> omega
    · have hke : s.log2 + 1 = k := by
        have h1 : s < 2 ^ k := by
          have := (Nat.div_eq_zero_iff (a := s) (b := 2 ^ k)).1 (by omega)
          have := Nat.two_pow_pos k
          omega
        have := (Nat.log2_lt h0).2 h1
        omega
      have hz : ((x : Nat) : Int) = 0 := by omega
      rw [hz]
      clear hx hz
      go_wp2
      go_ret
      exact ⟨ret_int (by omega), rfl⟩
theorem soReduce_any (A : Option Addr) (c n : Nat) (L : List Nat) (s : Nat) (w : World) (hL : M40 L) (h0 : NZ L) (hs : s < 1099511627776) (hn : L.length = n) (hlen : n ≤ 64) (hsrc : Src w A n (lv L)) :
    Calls Try.prog 104 #[.slice A n c, .int .i64 s] w fun e w' => e = .returned (.int .i64 (rdr L s : Nat)) ∧ w' = w := by
  have HL := hide hL
  have H0 := hide h0
  have HS := hide hsrc
  clear hL h0 hsrc
  have HN := hide hn
  clear hn
  go_enter Try.func104, Try.ntmps104
  go_wp2
  go_loop [1, 5] (fun t i => ∃ m : Nat, m ≤ n ∧ i = .int .i64 ((m : Int) - 1) ∧ t = .int .i64 (rdr (L.drop m) s : Nat)) (fun _ i => (intOf i + 1).toNat)
  case atStart => exact ⟨n, by omega, rfl, by rw [List.drop_of_length_le (by rw [HN.out]; omega)]; rfl⟩
  case round =>
    obtain ⟨m, hm, rfl, rfl⟩ := hrel
    have hx40 : rdr (L.drop m) s < 1099511627776 := rdr40 (fun b hb => HL.out b (List.mem_of_mem_drop hb)) hs
    obtain ⟨x, hx⟩ : ∃ x, rdr (L.drop m) s = x := ⟨_, rfl⟩
    rw [hx] at hx40 ⊢
    have HX := hide hx
    clear hx
    by_cases hp : 0 < m
    · obtain ⟨j, rfl⟩ : ∃ j, m = j + 1 := ⟨m - 1, by omega⟩
      have hjn : j < L.length := by rw [HN.out]; omega
      obtain ⟨b, off, hA, hbl, hc0⟩ := HS.out j (by omega)
      subst hA
      obtain ⟨y, hy⟩ : ∃ y, L[j] = y := ⟨_, rfl⟩
      have hym : y ∈ L := by rw [← hy]; exact List.getElem_mem hjn
      have hy40 := HL.out y hym
      have hyn := H0.out y hym
      have hc : w.cell? ⟨b, off + j, none⟩ = some (.int .i64 (y : Nat)) := by rw [hc0, lv_get hjn, hy]
      have hlog := log40 hyn hy40
      have HD : Hid (rdr (L.drop j) s = stp x y) := hide (by rw [List.drop_eq_getElem_cons hjn, hy]; show stp (rdr (L.drop (j + 1)) s) y = _; rw [HX.out])
      have e1 := i64_xor_nat x y (by omega) (by omega)
      clear hy hc0 hjn hym
      have ej : ((j + 1 : Nat) : Int) - 1 = j := by omega
      rw [ej]
      cases hb : x.testBit y.log2
      · go_wp2_with (first | (go_at_call 112; refine (soTop_any _ _ hy40 hyn).mono ?_; rintro e w3 ⟨rfl, rfl⟩) | (go_at_call 106; refine (grIn_any _ _ (by omega) (by omega) (by omega) _).mono ?_; rintro e w3 ⟨rfl, rfl⟩; simp only [Int.toNat_natCast, bt_nat, hb]))
        go_round
        case rel => exact ⟨j, by omega, rfl, by rw [HD.out, stp, hb]; rfl⟩
        case measure => simp [intOf] <;> omega
      · go_wp2_with (first | (go_at_call 112; refine (soTop_any _ _ hy40 hyn).mono ?_; rintro e w3 ⟨rfl, rfl⟩) | (go_at_call 106; refine (grIn_any _ _ (by omega) (by omega) (by omega) _).mono ?_; rintro e w3 ⟨rfl, rfl⟩; simp only [Int.toNat_natCast, bt_nat, hb]))
        go_round
        case rel => exact ⟨j, by omega, rfl, by rw [HD.out, stp, hb]; rfl⟩
        case measure => simp [intOf] <;> omega
    · have hz : (m : Int) - 1 = -1 := by omega
      have hm0 : m = 0 := by omega
      rw [hz]
      go_wp2
      go_ret
      exact ⟨ret_int (by have := HX.out; rw [hm0] at this; rw [← this]; rfl), rfl⟩
end Go.Proofs.Ytodbhokokdckkaa
