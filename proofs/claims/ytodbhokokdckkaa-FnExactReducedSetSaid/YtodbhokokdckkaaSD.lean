import Derived.Test.YtodbhokokdckkaaSC
import Derived.Deep.RegionHeld3
namespace Go.Proofs.Ytodbhokokdckkaa
open Go.RowKit
set_option maxHeartbeats 1000000
theorem soPut_any (A : Option Addr) (c n : Nat) (L : List Nat) (s : Nat) (w : World) (hL : M40 L) (hB : Bas L) (hs : s < 1099511627776) (hn : L.length = n) (hlen : n ≤ 64) (hsrc : Src w A n (lv L)) :
    Calls Try.prog 110 #[.slice A n c, .int .i64 s] w (NewL w (add L s)) := by
  by_cases hz : lin L s = 0
  · refine (soPut_zero A c n L s w hL hB hs hn hlen hz hsrc).mono ?_
    rintro e w' ⟨rfl, rfl⟩
    exact ⟨A, c, n, rfl, by rw [add, if_pos hz]; exact hn, by rw [add, if_pos hz]; exact hsrc, Below.refl _ _⟩
  · rw [add, if_neg hz]
    exact soPut_put A c n L s w hL hB hs hn hlen hz hsrc
/-- The basis of the first k effects. -/
def iS (T : Nat → Nat) : Nat → List Nat
  | 0 => []
  | k + 1 => add (iS T k) (T k)
theorem iS_bas (T : Nat → Nat) : ∀ k, Bas (iS T k)
  | 0 => Bas.nil
  | k + 1 => add_bas (iS_bas T k) _
theorem iS_lt {T : Nat → Nat} {n : Nat} (hT : ∀ i, i < n → T i < 2 ^ n) : ∀ k, k ≤ n → ∀ b ∈ iS T k, b < 2 ^ n
  | 0, _ => by simp [iS]
  | k + 1, h => add_lt (iS_lt hT k (by omega)) (hT k (by omega))
theorem pow40 {n : Nat} (h : n ≤ 40) : (2 : Nat) ^ n ≤ 1099511627776 := Nat.pow_le_pow_right (n := 2) (j := 40) (by decide) h
theorem iS_fit {T : Nat → Nat} {n : Nat} (hn : n ≤ 16) (hT : ∀ i, i < n → T i < 2 ^ n) {k : Nat} (hk : k ≤ n) : M40 (iS T k) ∧ (iS T k).length ≤ 16 := by
  have h := iS_lt hT k hk
  refine ⟨fun b hb => Nat.lt_of_lt_of_le (h b hb) (pow40 (by omega)), ?_⟩
  have := bas_length (iS_bas T k) h
  omega
theorem tog_all {F : Nat → Nat} {own : Bool} {n : Nat} (hF : ∀ j, j < n → F j < 2 ^ n) : ∀ i, i < n → tog F own i < 2 ^ n := fun i hi => tog_lt_pow hi (hF i hi)
theorem pow16n {n : Nat} (h : n ≤ 16) : (2 : Nat) ^ n ≤ 65536 := Nat.pow_le_pow_right (n := 2) (j := 16) (by decide) h
theorem soImage_any (g n c : Nat) (F : Nat → Nat) (own : Bool) (w : World) (hn : n ≤ 16) (hF : ∀ j, j < n → F j < 2 ^ n) (ha : Arr w 3 g n (iv (nv F))) :
    Calls Try.prog 83 #[.agg #[.slice (some ⟨g, 0, none⟩) n c, .bool own]] w (NewL w (iS (tog F own) n)) := by
  have h16 := pow16n hn
  have HA := hide ha
  have HF := hide hF
  have HT := hide (tog_all (own := own) hF)
  have hgl := ha.lt
  clear ha hF
  go_enter Try.func83, Try.ntmps83
  go_wp2
  go_loopw [3, 8] (fun v i wr => ∃ (k m : Nat) (A : Option Addr) (c' : Nat), k ≤ n ∧ i = .int .i64 k ∧ v = .slice A m c' ∧ Hid ((iS (tog F own) k).length = m) ∧ Src wr A m (lv (iS (tog F own) k)) ∧ Below (w.heap.size + 1) (w.alloc (.cells #[.slice (some ⟨g, 0, none⟩) n c, .bool own] 26)) wr) (fun _ i _ => n - (intOf i).toNat)
  case atStart => exact ⟨0, 0, none, 0, by omega, rfl, rfl, hide rfl, Src.nil, Below.refl _ _⟩
  case round =>
    obtain ⟨k, m, A, c', hk, rfl, rfl, hm, hsrc, hb⟩ := hrel
    have hp := (Arr.box w 26 (.slice (some ⟨g, 0, none⟩) n c) (.bool own)).below hb (by omega)
    have c0 : wr.cell? ⟨w.heap.size, 0, none⟩ = some (.slice (some ⟨g, 0, none⟩) n c) := hp.cell (by omega)
    have c1 : wr.cell? ⟨w.heap.size, 1, none⟩ = some (.bool own) := hp.cell (by omega)
    have HAr := hide ((HA.out.alloc (.cells #[.slice (some ⟨g, 0, none⟩) n c, .bool own] 26)).below hb (by omega))
    have HS := hide hsrc
    have HB := hide hb
    have hsz := hb.size
    simp only [World.size_alloc] at hsz
    clear hp hsrc hb
    by_cases hlt : k < n
    · obtain ⟨hfit, hl16⟩ := iS_fit hn HT.out (Nat.le_of_lt hlt)
      have hm64 : m ≤ 64 := by have := hm.out; omega
      have HFit := hide hfit
      have HBas := hide (iS_bas (tog F own) k)
      have hFk := HF.out k hlt
      have htk := HT.out k hlt
      clear hfit hl16
      go_wp2_with fail
      refine (grToggles_any _ _ _ F _ _ _ hn hlt (by omega) HAr.out).mono ?_
      rintro e w3 ⟨rfl, hb3⟩
      have HS3 := hide (HS.out.below hb3)
      have HB3 := hide (HB.out.trans (hb3.mono (by omega)))
      clear hb3
      go_wp2_with fail
      refine (soPut_any _ _ _ _ _ _ HFit.out HBas.out (by omega) hm.out hm64 HS3.out).mono ?_
      rintro e w4 ⟨A2, c2, m2, rfl, hm2, hs4, hb4⟩
      have HM2 := hide hm2
      have HS4 := hide hs4
      have HB4 := hide (HB3.out.trans (hb4.mono (by have := HB3.out.size; simp only [World.size_alloc] at this; omega)))
      clear hm2 hs4 hb4
      go_wp2
      go_roundw
      case rel => exact ⟨k + 1, m2, A2, c2, by omega, by go_num, rfl, HM2, HS4.out, HB4.out⟩
      case measure => simp [intOf]; omega
    · have hkn : k = n := by omega
      subst hkn
      go_wp2
      go_ret
      exact ⟨A, c', m, rfl, hm.out, HS.out, by have h := HB.out; exact ((Below.refl _ _).alloc (Nat.le_refl _) _).trans (h.mono (by omega))⟩
end Go.Proofs.Ytodbhokokdckkaa
