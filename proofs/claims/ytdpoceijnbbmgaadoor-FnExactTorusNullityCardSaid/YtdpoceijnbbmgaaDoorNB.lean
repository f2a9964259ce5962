/-
The nullity of a map: both sides.
-/
import Derived.Test.YtdpoceijnbbmgaaDoorSP
import Derived.Test.YtdpoceijnbbmgaaDoorSK
import Derived.Test.YtdpoceijnbbmgaaDoorMA
namespace Go.Proofs.YtdpoceijnbbmgaaDoor
open Go.RowKit
set_option maxHeartbeats 2000000
/-- The basis of the first k sets. -/
def bs (F : Nat → Nat) : Nat → List Nat
  | 0 => []
  | k + 1 => add (bs F k) (F k)
theorem bs_bas (F : Nat → Nat) : ∀ k, Bas (bs F k)
  | 0 => Bas.nil
  | k + 1 => add_bas (bs_bas F k) _
theorem bs_lt {F : Nat → Nat} {m n : Nat} (h : ∀ k, k < n → F k < 2 ^ m) : ∀ k, k ≤ n → ∀ b ∈ bs F k, b < 2 ^ m
  | 0, _ => by simp [bs]
  | k + 1, hk => add_lt (bs_lt h k (by omega)) (h k (by omega))
theorem bs_fit {F : Nat → Nat} {n : Nat} (hn : n ≤ 40) (h : ∀ k, k < n → F k < 2 ^ n) (k : Nat) (hk : k ≤ n) : M40 (bs F k) ∧ (bs F k).length ≤ 64 := by
  have hl := bs_lt h k hk
  have h2 : 2 ^ n ≤ 1099511627776 := Nat.pow_le_pow_right (n := 2) (j := 40) (by decide) hn
  have := bas_length (bs_bas F k) hl
  exact ⟨fun b hb => Nat.lt_of_lt_of_le (hl b hb) h2, by omega⟩
theorem nullF_any (b n i : Nat) (A : Option Addr) (c : Nat) (F : Nat → Nat) (w : World) (hi : i < n) (hb : w.cell? ⟨b, 0, none⟩ = some (.slice A n c)) (hs : Src w A n (iv (nv F))) :
    Calls Tryd.prog 110 #[.int .i64 i, .pointer (some ⟨b, 0, none⟩)] w fun e w' => e = .returned (.int .i64 (F i : Nat)) ∧ Below w.heap.size w w' := by
  obtain ⟨b2, off, hA, hbl, hc0⟩ := hs i hi
  have hc : w.cell? ⟨b2, off + i, none⟩ = some (.int .i64 (F i : Nat)) := hc0
  have hki : (i : Int) < n := by omega
  clear hc0 hs
  subst hA
  go_enter Tryd.func110, Tryd.ntmps110
  go_wp2
  go_ret
  exact ⟨rfl, Below.refl _ _⟩
theorem basisN (Ba n c : Nat) (A0 : Option Addr) (F : Nat → Nat) (w : World) (hn : n ≤ 40) (hF : ∀ k, k < n → F k < 2 ^ n) (hba : Blk w 61 Ba #[.slice A0 n c]) (ha : Src w A0 n (iv (nv F))) :
    Calls Tryd.prog 109 #[.int .i64 n, .func (.func 110) #[] #[.pointer (some ⟨Ba, 0, none⟩)]] w (GrownL w.heap.size w (bs F n)) := by
  have hmf : ∀ (fn : Fn) (first cap : Array Value) (w : World), (Instr.makeFunc fn first cap).run Tryd.prog w = .ok (.func fn first cap) w := fun _ _ _ _ => rfl
  have HBA := hide hba
  have HA := hide ha
  have HF := hide hF
  clear hba ha hF
  go_enter Tryd.func109, Tryd.ntmps109
  go_wp2
  go_loopw [10] (fun i wr => ∃ (k m : Nat) (A : Option Addr) (d : Nat), k ≤ n ∧ i = .int .i64 k ∧ Hid ((bs F k).length = m) ∧ Blk wr 22 w.heap.size #[.slice A m d] ∧ OL wr (w.heap.size + 1) (.slice A m d) (bs F k) ∧ Below w.heap.size w wr) (fun i _ => n - (intOf i).toNat)
  case atStart => exact ⟨0, 0, none, 0, by omega, rfl, hide rfl, Blk.new _ _ _ rfl, OL.nil _ _, by go_grown⟩
  case round =>
    obtain ⟨k, m, A, d, hk, rfl, HM, hx, ho, hb⟩ := hrel
    have hsz := hb.size
    have hxl := hx.lt
    have HX := hide hx
    have HO := hide ho
    have HB := hide hb
    have hcb : wr.cell? ⟨Ba, 0, none⟩ = some (.slice A0 n c) := (HBA.out.all hb).cell 0
    have HCB := hide hcb
    have HAr := hide (HA.out.below hb)
    clear hx ho hb hcb
    by_cases hlt : k < n
    · have HFit := hide (bs_fit hn HF.out k hk)
      have HBas := hide (bs_bas F k)
      have hs40 : F k < 1099511627776 := Nat.lt_of_lt_of_le (HF.out k hlt) (Nat.pow_le_pow_right (n := 2) (j := 40) (by decide) hn)
      have hm64 : m ≤ 64 := by have h1 := HFit.out.2; have h2 := HM.out; omega
      go_wp2_with fail
      refine (nullF_any Ba n k A0 c F _ hlt HCB.out HAr.out).mono ?_
      rintro e w3 ⟨rfl, hb3⟩
      have HX3 := hide (HX.out.all hb3)
      have HO3 := hide (HO.out.all hb3)
      have HB3 := hide (HB.out.trans (hb3.mono (by omega)))
      clear hb3
      go_wp2_with fail
      refine (addF_any w.heap.size _ _ _ _ _ _ HFit.out.1 HBas.out hs40 HM.out hm64 HX3.out HO3.out).mono ?_
      rintro e w4 ⟨rfl, A4, n4, c4, hn4, hx4, ho4, hb4⟩
      have HN4 := hide hn4
      have HX4 := hide hx4
      have HO4 := hide ho4
      have HB4 := hide (HB3.out.trans hb4)
      clear hn4 hx4 ho4 hb4
      go_wp2
      go_roundw
      case rel => exact ⟨k + 1, n4, A4, c4, by omega, by go_num, HN4, HX4.out, HO4.out, HB4.out⟩
      case measure => simp [intOf]; omega
    · have hkn : k = n := by omega
      subst hkn
      have c0 : wr.cell? ⟨w.heap.size, 0, none⟩ = some (.slice A m d) := HX.out.cell 0
      go_wp2
      go_ret
      exact ⟨A, d, m, rfl, HM.out, by have h := HO.out; exact h.mono (by omega), HB.out⟩
/-- The nullity of a map of n sets. -/
def nl (n : Nat) (F : Nat → Nat) : Nat := n - (bs F n).length
theorem bs_len {F : Nat → Nat} {n : Nat} (h : ∀ k, k < n → F k < 2 ^ n) : (bs F n).length ≤ n := bas_length (bs_bas F n) (bs_lt h n (Nat.le_refl _))
theorem mapNullity_any (A : Option Addr) (n c : Nat) (F : Nat → Nat) (w : World) (hn : n ≤ 40) (hF : ∀ k, k < n → F k < 2 ^ n) (hs : Src w A n (iv (nv F))) :
    Calls Tryd.prog 72 #[.agg #[.slice A n c]] w fun e w' => e = .returned (.int .i64 (nl n F : Nat)) ∧ Below w.heap.size w w' := by
  have HS := hide hs
  have HF := hide hF
  have hmf : ∀ (fn : Fn) (first cap : Array Value) (w : World), (Instr.makeFunc fn first cap).run Tryd.prog w = .ok (.func fn first cap) w := fun _ _ _ _ => rfl
  have hle := bs_len hF
  obtain ⟨q, hq⟩ : ∃ q, nl n F = q := ⟨_, rfl⟩
  rw [hq]
  have hq2 : q = n - (bs F n).length := by rw [← hq]; rfl
  clear hs hF hq
  go_enter Tryd.func72, Tryd.ntmps72
  go_wp2_with fail
  refine (basisN w.heap.size n c A F _ hn HF.out (Blk.new _ _ _ rfl) (HS.out.alloc _)).mono ?_
  rintro e w2 ⟨A2, d, m, rfl, hm, ho, hb⟩
  rw [hm] at hle hq2
  have e1 : (n : Int) - (m : Int) = (q : Nat) := by omega
  clear ho hm
  have HB := hide hb
  clear hb
  go_wp2
  go_ret
  exact ⟨by first | rfl | rw [e1] | (rw [hq2]; rfl), (by go_grown : Below w.heap.size w _).trans (HB.out.mono (by simp))⟩
theorem prNullity_any (A : Option Addr) (n c : Nat) (F : Nat → Nat) (w : World) (hn : n ≤ 40) (hF : ∀ k, k < n → F k < 2 ^ n) (hs : Src w A n (iv (nv F))) :
    Calls Tryd.prog 66 #[.slice A n c] w fun e w' => e = .returned (.int .i64 (nl n F : Nat)) ∧ Below w.heap.size w w' := by
  have HS := hide hs
  have HF := hide hF
  have hle := bs_len hF
  obtain ⟨q, hq⟩ : ∃ q, nl n F = q := ⟨_, rfl⟩
  rw [hq]
  have HQ : Hid (q = n - (bs F n).length ∧ (bs F n).length ≤ n) := hide ⟨by rw [← hq]; rfl, hle⟩
  clear hs hF hq hle
  go_enter Tryd.func66, Tryd.ntmps66
  go_wp2
  go_loopw [3, 8] (fun v i wr => ∃ (k m d : Nat) (A : Option Addr), k ≤ n ∧ i = .int .i64 k ∧ v = .slice A m d ∧ Hid ((bs F k).length = m) ∧ Hid (Src wr A m (lv (bs F k))) ∧ Below w.heap.size w wr) (fun _ i _ => n - (intOf i).toNat)
  case atStart => exact ⟨0, 0, 0, none, by omega, rfl, rfl, hide rfl, hide Src.nil, Below.refl _ _⟩
  case round =>
    obtain ⟨k, m, d, A2, hk, rfl, rfl, HM, HS2, hb⟩ := hrel
    have hsz := hb.size
    have HB := hide hb
    by_cases hlt : k < n
    · obtain ⟨b2, off, hA, hbl, hc0⟩ := HS.out k hlt
      have hc : wr.cell? ⟨b2, off + k, none⟩ = some (.int .i64 (F k : Nat)) := (hb.cell (p := ⟨b2, off + k, none⟩) hbl).trans hc0
      have HFit := hide (bs_fit hn HF.out k hk)
      have HBas := hide (bs_bas F k)
      have hs40 : F k < 1099511627776 := Nat.lt_of_lt_of_le (HF.out k hlt) (Nat.pow_le_pow_right (n := 2) (j := 40) (by decide) hn)
      have hm64 : m ≤ 64 := by have h1 := HFit.out.2; have h2 := HM.out; omega
      have HN : Hid (bs F (k + 1) = if lin (bs F k) (F k) = 0 then bs F k else put (bs F k) (lin (bs F k) (F k))) := hide rfl
      clear hb hc0
      subst hA
      by_cases hz : lin (bs F k) (F k) = 0
      · have HZ := hide hz
        clear hz
        go_wp2_with (first | (go_at_call 104; refine (soPut_zero _ _ _ _ _ _ HFit.out.1 HBas.out hs40 HM.out hm64 HZ.out HS2.out).mono ?_; rintro e w' ⟨rfl, hw⟩; subst w'))
        go_roundw
        case rel => exact ⟨k + 1, m, d, A2, by omega, by go_num, rfl, hide (by rw [HN.out, if_pos HZ.out]; exact HM.out), hide (by rw [HN.out, if_pos HZ.out]; exact HS2.out), HB.out⟩
        case measure => simp [intOf]; omega
      · have HZ := hide hz
        clear hz
        go_wp2_with (first | (go_at_call 104; refine (soPut_put _ _ _ _ _ _ HFit.out.1 HBas.out hs40 HM.out hm64 HZ.out HS2.out).mono ?_; rintro e w4 ⟨A4, c4, n4, rfl, hn4, hs4, hb4⟩; have HN4 := hide hn4; have HS4 := hide hs4; have HB4 := hide (HB.out.trans (hb4.mono (by omega))); clear hn4 hs4 hb4))
        go_roundw
        case rel => exact ⟨k + 1, n4, c4, A4, by omega, by go_num, rfl, hide (by rw [HN.out, if_neg HZ.out]; exact HN4.out), hide (by rw [HN.out, if_neg HZ.out]; exact HS4.out), HB4.out⟩
        case measure => simp [intOf]; omega
    · have hkn : k = n := by omega
      subst hkn
      have e1 : (k : Int) - (m : Int) = (q : Nat) := by have h1 := HQ.out; rw [HM.out] at h1; omega
      clear hb
      go_wp2
      go_ret
      exact ⟨by first | rfl | rw [e1], HB.out⟩
end Go.Proofs.YtdpoceijnbbmgaaDoor
