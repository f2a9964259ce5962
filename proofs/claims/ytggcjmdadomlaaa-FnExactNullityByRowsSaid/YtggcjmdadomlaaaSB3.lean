import Derived.Test.YtggcjmdadomlaaaSB2
namespace Go.Proofs.Ytggcjmdadomlaaa
open Go.RowKit
set_option maxHeartbeats 2000000
theorem run_slice_tab (b c : Nat) (h1 : c ≤ 16) (w : World) : (Instr.sliceAt 68 (.pointer (some ⟨b, 0, none⟩)) none (some (.int .i64 (c : Nat))) none).run Try.prog w = .ok (.slice (some ⟨b, 0, none⟩) c 16) w := by
  have h2 : (c : Int) ≤ 16 := by omega
  have h3 : (0 : Int) ≤ (c : Int) := by omega
  simp [Instr.sliceAt, run_underlying Try.underlying68, go_sem, h2, h3]
theorem fmImpl_a (r c : Int) (own : Bool) (w : World) (H : Hid (sidesB r c 1 = false)) :
    Calls Try.prog 22 #[.int .i64 r, .int .i64 c, .bool own] w (NoRes w) := by
  go_enter Try.func22, Try.ntmps22
  go_wp2_with (go_at_call 64; refine (swp (isGrid_any _ _ _)).mono ?_; rintro e w' ⟨rfl, rfl⟩; rw [H.out])
  go_ret2
  exact ⟨rfl, Below.refl _ _⟩
theorem fmSpec_a (r c : Int) (own : Bool) (w : World) (H : Hid (sidesB r c 1 = false)) :
    Calls Try.prog 21 #[.int .i64 r, .int .i64 c, .bool own] w (NoRes w) := by
  go_enter Try.func21, Try.ntmps21
  go_wp2_with (go_at_call 63; refine (swp (csGrid_any _ _ _)).mono ?_; rintro e w' ⟨rfl, rfl⟩; rw [H.out])
  go_ret2
  exact ⟨rfl, Below.refl _ _⟩
theorem fmSpec_c (R C : Nat) (own : Bool) (w : World) (hs : Sides R C) (H : Hid (sidesB R C 1 = true)) :
    Calls Try.prog 21 #[.int .i64 R, .int .i64 C, .bool own] w (ArrRes w C (fmF C own R)) := by
  have h4 := hs.2.2.2.1
  have h3 := hs.2.2.1
  go_enter Try.func21, Try.ntmps21
  go_wp2_with (go_at_call 63; refine (swp (csGrid_any _ _ _)).mono ?_; rintro e w' ⟨rfl, rfl⟩; rw [H.out])
  go_loopw [8, 9] (fun v i wr => ∃ (k : Nat) (A : Option Addr) (d : Nat), k ≤ C ∧ i = .int .i64 k ∧ v = .slice A k d ∧ OZ wr w.heap.size (.slice A k d) ((List.range k).map (fmF C own R)) ∧ Below w.heap.size w wr) (fun _ i _ => C - (intOf i).toNat)
  case atStart => exact ⟨0, none, 0, by omega, rfl, rfl, OZ.nil _ _, Below.refl _ _⟩
  case round =>
    obtain ⟨k, A, d, hk, rfl, rfl, ho, hb⟩ := hrel
    have hsz := hb.size
    have HO := Lib.hid ho
    have HB := Lib.hid hb
    clear ho hb
    by_cases hlt : k < C
    · have hF : 2 ^ k < 2 ^ C := Nat.pow_lt_pow_right (by decide) hlt
      have hW : RowKit.wrap64 (2 ^ k) = ((2 ^ k : Nat) : Int) := by rw [wrap_one (by omega)]
      have hV : ((prw C own 0 (2 ^ k) R : Nat) : Int) = fmF C own R k := by unfold fmF tT; rw [if_pos hlt]
      have HS := Lib.hid (show (List.range (k + 1)).map (fmF C own R) = (List.range k).map (fmF C own R) ++ [fmF C own R k] by rw [List.range_succ, List.map_append]; rfl)
      have HL := Lib.hid (show ((List.range k).map (fmF C own R)).length = k by simp)
      have HV := Lib.hid hV
      generalize hP : 2 ^ k = p at hF hW
      rw [hP] at HV
      have HF := Lib.hid hF
      clear hV hP hF
      go_wp2_with (first | (go_at_call 59; refine (csChase_below R C 0 p own _ hs (by omega) HF.out).mono ?_; rintro e w3 ⟨rfl, hb3⟩; rw [HV.out]; have HO3 := Lib.hid (HO.out.all hb3); have hsz3 := hb3.size; have HB3 := Lib.hid (HB.out.trans (hb3.mono hsz)); clear hb3) | (at_builtin; refine wpList_append_int _ rfl _ _ rfl w.heap.size A d k ((List.range k).map (fmF C own R)) (fmF C own R k) w3.heap.size rfl (HO3.out.alloc _) HL.out rfl (by simp [go_sem]) (by omega) (by simp; omega) ?_; intro A2 c2 w5 ho2 hb2; have HO2 := Lib.hid ho2; have HB2 := Lib.hid hb2; clear ho2 hb2))
      go_roundw
      case rel => exact ⟨k + 1, A2, c2, by omega, by go_num, rfl, by rw [HS.out]; exact HO2.out, (HB3.out.alloc (by omega) _).trans HB2.out⟩
      case measure => simp [intOf]; omega
    · have hkn : k = C := by omega
      subst hkn
      obtain ⟨g, rfl, hg, ha⟩ := HO.out.arr h3
      have HA := Lib.hid ha
      clear ha
      go_wp2
      go_ret2
      exact ⟨g, d, rfl, hg, HA.out, HB.out⟩
set_option maxRecDepth 100000 in
theorem fmImpl_c (R C : Nat) (own : Bool) (w : World) (hs : Sides R C) (H : Hid (sidesB R C 1 = true)) :
    Calls Try.prog 22 #[.int .i64 R, .int .i64 C, .bool own] w (ArrRes w C (fmF C own R)) := by
  have h4 := hs.2.2.2.1
  have h3 := hs.2.2.1
  have h2 := hs.2.1
  go_enter Try.func22, Try.ntmps22
  go_wp2_with (first | (go_at_call 64; refine (swp (isGrid_any _ _ _)).mono ?_; rintro e w' ⟨rfl, rfl⟩; rw [H.out]) | fail)
  refine (tables_any R C own _ h4 (by omega)).mono ?_
  rintro e w2 ⟨A, d, rfl, ho, hb⟩
  obtain ⟨g, hA, hg, hgl, hd, hel⟩ := ho.elem
  subst hA
  have hR := hel R (Nat.le_refl R)
  have HR := Lib.hid hR
  have HB := Lib.hid hb
  have hsz := hb.size
  have hri : (R : Int) < (R : Int) + 1 := by omega
  have hsl := run_slice_tab w2.heap.size C h4
  have HT1 : Hid (Tab (w2.alloc (.cells #[.int .i64 0, .int .i64 0, .int .i64 0, .int .i64 0, .int .i64 0, .int .i64 0, .int .i64 0, .int .i64 0, .int .i64 0, .int .i64 0, .int .i64 0, .int .i64 0, .int .i64 0, .int .i64 0, .int .i64 0, .int .i64 0] 68)) w2.heap.size (fun _ => 0)) := Lib.hid (Tab.new w2 zeroT (fun _ => 0) zeroT_eq rfl)
  clear ho hb hel hR
  go_wp2_with (first | (with_reducible refine wpList_load_elem rfl (.tmp 19) rfl g (R * 16) rfl (tT C own R) HR.out ?_) | (with_reducible refine wpList_store_tab rfl (.tmp 8) (.tmp 20) rfl w2.heap.size rfl (fun _ => 0) (tT C own R) rfl HT1.out ?_) | (go_at_call 66; refine (clone_any w2.heap.size C R own _ h3 h4 (Tab.row HT1.out _)).mono ?_; rintro e w5 ⟨g5, d5, rfl, hg5, ha5, hb5⟩; have HA5 := Lib.hid ha5; have HB5 := Lib.hid ((below_row (HB.out.alloc hsz _) hsz _).trans (hb5.mono (by simp; omega))); simp only [setRow_size, World.size_alloc] at hg5; clear ha5 hb5))
  go_ret2
  exact ⟨g5, d5, rfl, by omega, HA5.out, HB5.out⟩
theorem lawMap (r c : Int) (own : Bool) (w : World) :
    Calls Try.prog 5 #[.int .i64 r, .int .i64 c, .bool own] w fun e w' => e = .returned (.bool true) ∧ Below w.heap.size w w' := by
  cases hs : sidesB r c 1
  · exact gMap_no r c own w (Lib.hid fun w => fmSpec_a r c own w (Lib.hid hs)) (Lib.hid fun w => fmImpl_a r c own w (Lib.hid hs))
  · obtain ⟨R, C, rfl, rfl, hS⟩ := sides_nat hs
    exact gMap_arr R C own C _ (by have := hS.2.2.2.1; omega) w (Lib.hid fun w => fmSpec_c R C own w hS (Lib.hid hs)) (Lib.hid fun w => fmImpl_c R C own w hS (Lib.hid hs))
end Go.Proofs.Ytggcjmdadomlaaa
