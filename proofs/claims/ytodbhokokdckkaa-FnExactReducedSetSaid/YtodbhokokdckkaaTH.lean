import Derived.Test.YtodbhokokdckkaaTG
namespace Go.Proofs.Ytodbhokokdckkaa
open Go.RowKit
set_option maxHeartbeats 1000000
theorem soBasis_out (g n : Nat) (f : Nat → Int) (w : World) (hno : allB n f 1 65535 = false) (hn2 : n ≤ 1048576) (ha : Arr w 3 g n (iv f)) :
    Calls Try.prog 102 #[.slice (some ⟨g, 0, none⟩) n n] w fun e w' => e = .returned (.bool false) ∧ w = w' := by
  have hsrc : Src w (some ⟨g, 0, none⟩) n (iv f) := Src.of_arr ha
  have HS := hide hsrc
  clear hsrc ha
  by_cases h16 : 16 < n
  · go_enter Try.func102, Try.ntmps102
    go_wp2
    go_ret
    exact ⟨rfl, rfl⟩
  · go_enter Try.func102, Try.ntmps102
    go_wp2_with fail
    refine (l1All_any _ _ _ _ _ _ _ hn2 HS.out).mono ?_
    rintro e w2 ⟨rfl, rfl⟩
    go_wp2
    go_ret
    exact ⟨rfl, rfl⟩
theorem redSpec_out (g n : Nat) (f : Nat → Int) (s : Int) (w : World) (hno : allB n f 1 65535 = false) (hn2 : n ≤ 1048576) (ha : Arr w 3 g n (iv f)) :
    Calls Try.prog 68 #[.slice (some ⟨g, 0, none⟩) n n, .int .i64 s] w (Two w (.int .i64 0) false) := by
  have HA := hide ha
  have HN := hide hno
  clear ha hno
  go_enter Try.func68, Try.ntmps68
  go_wp2_with fail
  refine (soBasis_out _ _ f _ HN.out hn2 HA.out).mono ?_
  rintro e w2 ⟨rfl, rfl⟩
  go_wp2
  go_ret2
  exact ⟨rfl, Below.refl _ _⟩
theorem redImpl_out (g n : Nat) (f : Nat → Int) (s : Int) (w : World) (hno : allB n f 1 65535 = false) (hn2 : n ≤ 1048576) (ha : Arr w 3 g n (iv f)) :
    Calls Try.prog 70 #[.slice (some ⟨g, 0, none⟩) n n, .int .i64 s] w (Two w (.int .i64 0) false) := by
  have HA := hide ha
  have HN := hide hno
  clear ha hno
  go_enter Try.func70, Try.ntmps70
  go_wp2_with fail
  refine (isBasis_out _ _ f _ HN.out hn2 HA.out).mono ?_
  rintro e w2 ⟨rfl, hb2⟩
  have HB := hide hb2
  clear hb2
  go_wp2
  go_ret2
  exact ⟨rfl, HB.out⟩
/-- The two answers of ReducedSet at a list in range. -/
noncomputable def redB (L : List Nat) (n : Nat) (s : Int) : Bool := decide (L = fS L n) && inB s 0 65535
noncomputable def redV (L : List Nat) (n : Nat) (s : Int) : Nat := if redB L n s then lin L s.toNat else 0
theorem redSpec_in (g n : Nat) (L : List Nat) (s : Int) (w : World) (hL : ∀ b ∈ L, 1 ≤ b ∧ b < 65536) (hn : L.length = n) (hn2 : n ≤ 1048576) (ha : Arr w 3 g n (lv L)) :
    Calls Try.prog 68 #[.slice (some ⟨g, 0, none⟩) n n, .int .i64 s] w (Two w (.int .i64 (redV L n s : Nat)) (redB L n s)) := by
  have HA := hide ha
  have HL := hide hL
  have HN := hide hn
  have hiff := bas_iff hn
  clear ha hL hn
  cases hd : decide (L = fS L n)
  · have HD := hide hd
    have HV : Hid (redB L n s = false) := hide (by rw [redB, hd]; rfl)
    clear hd hiff
    go_enter Try.func68, Try.ntmps68
    go_wp2_with fail
    refine (soBasis_in _ _ L _ HL.out HN.out hn2 HA.out).mono ?_
    rintro e w2 ⟨rfl, rfl⟩
    simp only [HD.out]
    go_wp2
    go_ret2
    exact ⟨by rw [redV, HV.out]; rfl, Below.refl _ _⟩
  · have hbas := hiff.1 (of_decide_eq_true hd)
    have HBas := hide hbas
    have HD := hide hd
    have hl16 : L.length ≤ 16 := bas_length hbas (n := 16) (fun b hb => (HL.out b hb).2)
    have hn16 : n ≤ 64 := by have := HN.out; omega
    have HM40 : Hid (M40 L) := hide (fun b hb => by have := HL.out b hb; omega)
    clear hiff hbas hl16
    cases hin : inB s 0 65535
    · have HV : Hid (redB L n s = false) := hide (by rw [redB, hd, hin]; rfl)
      clear hd
      go_enter Try.func68, Try.ntmps68
      go_wp2_with fail
      refine (soBasis_in _ _ L _ HL.out HN.out hn2 HA.out).mono ?_
      rintro e w2 ⟨rfl, rfl⟩
      simp only [HD.out]
      go_wp2_with (go_at_call 103; refine (l1In_any _ _ _ _).mono ?_; rintro e w3 ⟨rfl, rfl⟩)
      go_ret2
      exact ⟨by rw [redV, HV.out]; rfl, Below.refl _ _⟩
    · have HV : Hid (redB L n s = true) := hide (by rw [redB, hd, hin]; rfl)
      have hs : 0 ≤ s ∧ s ≤ 65535 := by simpa [inB] using hin
      obtain ⟨q, rfl⟩ : ∃ q : Nat, s = q := ⟨s.toNat, by omega⟩
      have hq : q < 1099511627776 := by omega
      have HR : Hid (rdr L q = lin L q) := hide (rdr_lin HBas.out q)
      clear hd
      go_enter Try.func68, Try.ntmps68
      go_wp2_with fail
      refine (soBasis_in _ _ L _ HL.out HN.out hn2 HA.out).mono ?_
      rintro e w2 ⟨rfl, rfl⟩
      simp only [HD.out]
      go_wp2_with (first | (go_at_call 103; refine (l1In_any _ _ _ _).mono ?_; rintro e w3 ⟨rfl, rfl⟩) | (go_at_call 104; refine (soReduce_any _ _ _ L _ _ HM40.out HBas.out.1 hq HN.out hn16 (Src.of_arr HA.out)).mono ?_; rintro e w4 ⟨rfl, rfl⟩))
      go_ret2
      exact ⟨by rw [redV, HV.out, HR.out]; rfl, Below.refl _ _⟩
theorem redImpl_in (g n : Nat) (L : List Nat) (s : Int) (w : World) (hL : ∀ b ∈ L, 1 ≤ b ∧ b < 65536) (hn : L.length = n) (hn2 : n ≤ 1048576) (ha : Arr w 3 g n (lv L)) :
    Calls Try.prog 70 #[.slice (some ⟨g, 0, none⟩) n n, .int .i64 s] w (Two w (.int .i64 (redV L n s : Nat)) (redB L n s)) := by
  have HA := hide ha
  have HL := hide hL
  have HN := hide hn
  have hiff := bas_iff hn
  clear ha hL hn
  cases hd : decide (L = fS L n)
  · have HD := hide hd
    have HV : Hid (redB L n s = false) := hide (by rw [redB, hd]; rfl)
    clear hd hiff
    go_enter Try.func70, Try.ntmps70
    go_wp2_with fail
    refine (isBasis_in _ _ L _ HL.out HN.out hn2 HA.out).mono ?_
    rintro e w2 ⟨rfl, hb2⟩
    simp only [HD.out]
    have HB := hide hb2
    clear hb2
    go_wp2
    go_ret2
    exact ⟨by rw [redV, HV.out]; rfl, HB.out⟩
  · have hbas := hiff.1 (of_decide_eq_true hd)
    have HBas := hide hbas
    have HD := hide hd
    have HM40 : Hid (M40 L) := hide (fun b hb => by have := HL.out b hb; omega)
    clear hiff hbas
    by_cases hin : 0 ≤ s ∧ s ≤ 65535
    · have HV : Hid (redB L n s = true) := hide (by rw [redB, hd]; simp [inB]; omega)
      obtain ⟨hs0, hs1⟩ := hin
      obtain ⟨q, rfl⟩ : ∃ q : Nat, s = q := ⟨s.toNat, by omega⟩
      have hq : q < 1099511627776 := by omega
      have HR : Hid (rd L q = lin L q) := hide (rd_lin HBas.out q)
      clear hd
      go_enter Try.func70, Try.ntmps70
      go_wp2_with fail
      refine (isBasis_in _ _ L _ HL.out HN.out hn2 HA.out).mono ?_
      rintro e w2 ⟨rfl, hb2⟩
      simp only [HD.out]
      have HA2 := hide (HA.out.all hb2)
      have HB := hide hb2
      clear hb2
      go_wp2_with fail
      refine (reduced_any _ _ _ L _ _ HM40.out HBas.out.1 hq HN.out hn2 (Src.of_arr HA2.out)).mono ?_
      rintro e w4 ⟨rfl, rfl⟩
      go_wp2
      go_ret2
      exact ⟨by rw [redV, HV.out, HR.out]; rfl, HB.out⟩
    · have HV : Hid (redB L n s = false) := hide (by rw [redB, hd]; simp [inB]; omega)
      have hs : s < 0 ∨ 65535 < s := by omega
      clear hd hin
      rcases hs with hs | hs
      · go_enter Try.func70, Try.ntmps70
        go_wp2_with fail
        refine (isBasis_in _ _ L _ HL.out HN.out hn2 HA.out).mono ?_
        rintro e w2 ⟨rfl, hb2⟩
        simp only [HD.out]
        have HB := hide hb2
        clear hb2
        go_wp2
        go_ret2
        exact ⟨by rw [redV, HV.out]; rfl, HB.out⟩
      · have hs0 : ¬ s < 0 := by omega
        go_enter Try.func70, Try.ntmps70
        go_wp2_with fail
        refine (isBasis_in _ _ L _ HL.out HN.out hn2 HA.out).mono ?_
        rintro e w2 ⟨rfl, hb2⟩
        simp only [HD.out]
        have HB := hide hb2
        clear hb2
        go_wp2
        go_ret2
        exact ⟨by rw [redV, HV.out]; rfl, HB.out⟩
theorem toIntS_nn (A : Option Addr) (n c : Nat) (f : Nat → Int) (w : World) (hn : n ≤ 1048576) (hs : Src w A n (iv f)) :
    Calls Try.prog 69 #[.slice A n c] w fun e w' => ∃ g, e = .returned (.slice (some ⟨g, 0, none⟩) n n) ∧ w.heap.size ≤ g ∧ Arr w' 3 g n (iv f) ∧ Below w.heap.size w w' :=
  (toIntS_any A n c f w hn hs).mono fun _ _ ⟨h, ha, hb⟩ => ⟨_, h, Nat.le_refl _, ha, hb⟩
end Go.Proofs.Ytodbhokokdckkaa
