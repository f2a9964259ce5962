import Derived.Test.YtcpbbpgiicakcaaWP
namespace Go.Proofs.Ytcpbbpgiicakcaa
open Go.RowKit
set_option maxHeartbeats 2000000
theorem and_lt16 {s t : Nat} (h : s < 65536) : s &&& t < 65536 := Nat.lt_of_le_of_lt Nat.and_le_left h
theorem paDeg_any (g n c : Nat) (F : Nat → Nat) (own : Bool) (s i : Nat) (w : World) (hi : i < n) (hF : F i < 65536) (hs : s < 65536) (ha : Arr w 3 g n (iv (nv F))) :
    Calls Try.prog 75 #[.agg #[.slice (some ⟨g, 0, none⟩) n c, .bool own], .int .i64 s, .int .i64 i] w fun e w' => e = .returned (.int .i64 (popN 16 (F i &&& s) : Nat)) ∧ Below w.heap.size w w' := by
  have hc := (ha.alloc (.cells #[.slice (some ⟨g, 0, none⟩) n c, .bool own] 28)).cell hi
  simp only [iv, nv] at hc
  have hgl := ha.lt
  have h16 := and_lt16 (t := s) hF
  have e1 := i64_and_nat (F i) s (Nat.lt_trans hF (by decide)) (Nat.lt_trans hs (by decide))
  obtain ⟨x, hx⟩ : ∃ x, F i = x := ⟨_, rfl⟩
  rw [hx] at hc h16 e1 ⊢
  obtain ⟨y, hy⟩ : ∃ y, x &&& s = y := ⟨_, rfl⟩
  rw [hy] at h16 e1 ⊢
  clear hx hy ha hF
  go_enter Try.func75, Try.ntmps75
  go_wp2_with (go_at_call 84; refine (grCount_any _ _ h16).mono ?_; rintro e w3 ⟨rfl, hw3⟩; subst w3)
  go_ret
  exact ⟨rfl, by go_grown⟩
/-- Has every button of s an even number of neighbours in it? -/
def EvS (F : Nat → Nat) (s k : Nat) : Prop := ∀ j, j < k → s.testBit j = true → popN 16 (F j &&& s) % 2 = 0
open Classical in
noncomputable def evB (F : Nat → Nat) (s k : Nat) : Bool := decide (EvS F s k)
theorem evB_yes {F : Nat → Nat} {s k : Nat} (h : EvS F s k) : evB F s k = true := by simp [evB, h]
theorem evB_iff {F : Nat → Nat} {s k : Nat} : evB F s k = true ↔ EvS F s k := by simp [evB]
theorem paAll_any (g n c : Nat) (F : Nat → Nat) (own : Bool) (s : Nat) (w : World) (hn : n ≤ 16) (hF : ∀ k, k < n → F k < 65536) (hs : s < 65536) (ha : Arr w 3 g n (iv (nv F))) :
    Calls Try.prog 50 #[.agg #[.slice (some ⟨g, 0, none⟩) n c, .bool own], .int .i64 s, .int .i64 0] w fun e w' => e = .returned (.bool (evB F s n)) ∧ Below w.heap.size w w' := by
  have HF := hide hF
  have HA := hide (ha.alloc (.cells #[.slice (some ⟨g, 0, none⟩) n c, .bool own] 28))
  have hgl := ha.lt
  clear hF ha
  go_enter Try.func50, Try.ntmps50
  go_wp2
  go_loopw [11] (fun i wr => ∃ k : Nat, k ≤ n ∧ i = .int .i64 k ∧ Hid (EvS F s k) ∧ Below (w.heap.size + 1) (w.alloc (.cells #[.slice (some ⟨g, 0, none⟩) n c, .bool own] 28)) wr) (fun i _ => n - (intOf i).toNat)
  case atStart => exact ⟨0, by omega, rfl, hide (fun j hj => absurd hj (by omega)), Below.refl _ _⟩
  case round =>
    obtain ⟨k, hk, rfl, HE, hb⟩ := hrel
    by_cases hlt : k < n
    · have hp := (Arr.box w 28 (.slice (some ⟨g, 0, none⟩) n c) (.bool own)).below hb (by omega)
      have c0 : wr.cell? ⟨w.heap.size, 0, none⟩ = some (.slice (some ⟨g, 0, none⟩) n c) := hp.cell (by omega)
      have c1 : wr.cell? ⟨w.heap.size, 1, none⟩ = some (.bool own) := hp.cell (by omega)
      have hlr : w.heap.size < wr.heap.size := hp.lt
      have HAg := hide (HA.out.all (hb.mono (by simp)))
      have HB := hide hb
      have hk64 : (k : Int) < 64 := by omega
      clear hb hp
      cases hbit : s.testBit k
      · have HE2 : Hid (EvS F s (k + 1)) := hide fun j hj hjb => by
          by_cases e : j = k
          · subst e; rw [hbit] at hjb; cases hjb
          · exact HE.out j (by omega) hjb
        go_wp2_with (go_at_call 63; refine (grInG_any _ _ (by omega) (by omega) (by omega) _).mono ?_; rintro e w3 ⟨rfl, hw3⟩; subst w3; simp only [Int.toNat_natCast, bt_nat, hbit])
        go_roundw
        case rel => exact ⟨k + 1, by omega, by go_num, HE2, HB.out⟩
        case measure => simp [intOf]; omega
      · have HP : Hid (popN 16 (F k &&& s) = popN 16 (F k &&& s)) := hide rfl
        obtain ⟨p, hp⟩ : ∃ p, popN 16 (F k &&& s) = p := ⟨_, rfl⟩
        have HPp := hide hp
        have hFk := HF.out k hlt
        by_cases hpar : p % 2 = 0
        · have HE2 : Hid (EvS F s (k + 1)) := hide fun j hj hjb => by
            by_cases e : j = k
            · subst e; rw [hp]; exact hpar
            · exact HE.out j (by omega) hjb
          have em : (p : Int) % 2 = 0 := by omega
          clear hp
          go_wp2_with (first | (go_at_call 63; refine (grInG_any _ _ (by omega) (by omega) (by omega) _).mono ?_; rintro e w3 ⟨rfl, hw3⟩; subst w3; simp only [Int.toNat_natCast, bt_nat, hbit]) | (go_at_call 75; refine (paDeg_any _ _ _ F own s k _ hlt hFk hs HAg.out).mono ?_; rintro e w4 ⟨rfl, hb4⟩; simp only [HPp.out]; have HB4 := hide (HB.out.trans (hb4.mono (by omega))); clear hb4))
          go_roundw
          case rel => exact ⟨k + 1, by omega, by go_num, HE2, HB4.out⟩
          case measure => simp [intOf]; omega
        · have HNo : Hid (evB F s n = false) := hide (by
            unfold evB
            rw [decide_eq_false_iff_not]
            intro h
            have := h k hlt hbit
            rw [hp] at this
            exact hpar this)
          have em : (p : Int) % 2 = 1 := by omega
          clear hp
          go_wp2_with (first | (go_at_call 63; refine (grInG_any _ _ (by omega) (by omega) (by omega) _).mono ?_; rintro e w3 ⟨rfl, hw3⟩; subst w3; simp only [Int.toNat_natCast, bt_nat, hbit]) | (go_at_call 75; refine (paDeg_any _ _ _ F own s k _ hlt hFk hs HAg.out).mono ?_; rintro e w4 ⟨rfl, hb4⟩; simp only [HPp.out]; have HB4 := hide (HB.out.trans (hb4.mono (by omega))); clear hb4))
          go_ret
          exact ⟨by rw [HNo.out]; rfl, (by go_grown : Below w.heap.size w _).trans (HB4.out.mono (by simp))⟩
    · have hkn : k = n := by omega
      subst hkn
      have HB := hide hb
      have HYes : Hid (evB F s k = true) := hide (evB_yes HE.out)
      clear hb
      go_wp2
      go_ret
      exact ⟨by rw [HYes.out]; rfl, (by go_grown : Below w.heap.size w _).trans (HB.out.mono (by simp))⟩
end Go.Proofs.Ytcpbbpgiicakcaa
