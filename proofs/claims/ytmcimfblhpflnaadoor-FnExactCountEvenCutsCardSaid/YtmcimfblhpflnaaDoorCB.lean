/-
paEven over a list of pairs.
-/
import Derived.Test.YtmcimfblhpflnaaDoorCA
import Derived.Test.YtmcimfblhpflnaaDoorGN
import Derived.Test.YtmcimfblhpflnaaDoorZa
namespace Go.Proofs.YtmcimfblhpflnaaDoor
open Go.RowKit Go.BigFrame
set_option maxHeartbeats 1000000
/-- The buttons that the first k edges leave with an odd number of ends. -/
def paX (R : Nat → Nat → Int) : Nat → Nat
  | 0 => 0
  | k + 1 => paX R k ^^^ (2 ^ (R k 0).toNat ||| 2 ^ (R k 1).toNat)
theorem pow_below16 {j : Nat} (h : j < 16) : 2 ^ j < 65536 := Nat.pow_lt_pow_right (m := j) (n := 16) (by decide) h
theorem paX_lt {ln : Nat → Nat} {R : Nat → Nat → Int} : ∀ m, (∀ k, k < m → ln k = 2 ∧ ∃ i j : Nat, i < j ∧ j < 16 ∧ R k 0 = (i : Nat) ∧ R k 1 = (j : Nat)) → paX R m < 65536
  | 0, _ => by simp [paX]
  | m + 1, h => by
    obtain ⟨_, i, j, hij, hj, e0, e1⟩ := h m (by omega)
    rw [paX, e0, e1]
    exact Nat.xor_lt_two_pow (n := 16) (paX_lt m fun k hk => h k (by omega)) (Nat.or_lt_two_pow (n := 16) (by simpa using pow_below16 (j := i) (by omega)) (by simpa using pow_below16 (j := j) hj))
theorem paX_paE {P : List (Nat × Nat)} : ∀ k, k ≤ P.length → paX (pairR P) k = paE (P.take k)
  | 0, _ => by simp [paX, paE]
  | k + 1, h => by
    have hk : k < P.length := by omega
    have e : P.getD k (0, 0) = P[k] := by simp [List.getD, hk]
    rw [paX, paX_paE k (by omega), List.take_succ_eq_append_getElem hk, paE_append]
    simp only [paE, Nat.xor_zero, pairR, e]
    rfl
theorem paEvenR (G E : Option Addr) (l c m d : Nat) (own : Bool) (Ai : Nat → Option Addr) (ln C : Nat → Nat) (R : Nat → Nat → Int) (w : World) (hm : m ≤ 1048576) (hr : RD w E m Ai ln C R)
    (ho : ∀ k, k < m → ln k = 2 ∧ ∃ i j : Nat, i < j ∧ j < 16 ∧ R k 0 = (i : Nat) ∧ R k 1 = (j : Nat)) :
    Calls Tryd.prog 68 #[.agg #[.slice G l c, .bool own], .slice E m d] w fun e w' => e = .returned (.bool (((paX R m : Nat) : Int) == 0)) ∧ Below w.heap.size w w' := by
  have HR := hide hr
  have HO := hide ho
  clear hr ho
  go_enter Tryd.func68, Tryd.ntmps68
  go_wp2
  go_loopw [5, 10] (fun t x wr => ∃ k o : Nat, k ≤ m ∧ x = .int .i64 k ∧ t = .int .i64 o ∧ Hid (paX R k = o) ∧ Below w.heap.size w wr) (fun _ x _ => m - (intOf x).toNat)
  case atStart => exact ⟨0, 0, by omega, rfl, rfl, hide rfl, by go_grown⟩
  case round =>
    obtain ⟨k, o, hk, rfl, rfl, HP, hb⟩ := hrel
    by_cases hlt : k < m
    · obtain ⟨b, off, hA, hbl, hc0, hs0⟩ := HR.out k hlt
      have hs1 := hs0.below hb
      have hc1 : wr.cell? ⟨b, off + k, none⟩ = some (.slice (Ai k) (ln k) (C k)) := (hb.cell (p := ⟨b, off + k, none⟩) hbl).trans hc0
      have hlo := paX_lt k (fun q hq => HO.out q (by omega))
      rw [HP.out] at hlo
      obtain ⟨h2, i, j, hij, hj, e0, e1⟩ := HO.out k hlt
      obtain ⟨b', off', hA', hl0, q0⟩ := hs1 0 (by omega)
      obtain ⟨b'', off'', hA'', _, q1⟩ := hs1 1 (by omega)
      rw [hA'] at hA''
      injection hA'' with hA''
      injection hA'' with u0 u1
      subst u0 u1 hA
      have hc : wr.cell? ⟨b, off + k, none⟩ = some (.slice (some ⟨b', off', none⟩) 2 (C k)) := by rw [hc1, hA', h2]
      simp only [iv, e0, Nat.add_zero] at q0
      simp only [iv, e1] at q1
      have hi16 := pow_below16 (j := i) (by omega)
      have hj16 := pow_below16 (j := j) (by omega)
      have hy : 2 ^ i ||| 2 ^ j < 65536 := Nat.or_lt_two_pow (n := 16) hi16 hj16
      have v1 := or_wrap (2 ^ i) j hi16 (by omega)
      rw [pow_nat, ← wrap_pow (by omega : i < 16)] at v1
      obtain ⟨y, hyy⟩ : ∃ y, 2 ^ i ||| 2 ^ j = y := ⟨_, rfl⟩
      rw [hyy] at v1 hy
      have v2 := i64_xor_nat o y (Nat.lt_trans hlo (by decide)) (Nat.lt_trans hy (by decide))
      have HN : Hid (paX R (k + 1) = o ^^^ y) := hide (by rw [paX, HP.out, e0, e1]; simp only [Int.toNat_natCast]; rw [hyy])
      have HB := hide hb
      clear hs1 hs0 hc0 hc1 hA' h2 e0 e1 hi16 hj16 hyy hb
      go_wp2
      go_region
      go_wp2
      go_roundw
      case rel => exact ⟨k + 1, o ^^^ y, by omega, by go_num, rfl, HN, (by have h := HB.out; go_grown)⟩
      case measure => simp [intOf]; omega
    · have hkm : k = m := by omega
      subst hkm
      have HB := hide hb
      clear hb
      go_wp2
      go_ret
      exact ⟨by rw [HP.out]; rfl, by have h := HB.out; go_grown⟩
/-- A list of pairs that a cut has left. -/
theorem paEvenL (G A : Option Addr) (l c m d n : Nat) (own : Bool) (Gb : Nat → Nat) (P : List (Nat × Nat)) (lo hi : Nat) (w : World) (hn : n ≤ 16) (hm : m = P.length) (hm2 : m ≤ 1048576) (hP : ∀ e ∈ P, e.1 < e.2 ∧ e.2 < n) (hs : SS w lo hi A m Gb (fun _ => 2) (fun _ => 2) (pairR P)) :
    Calls Tryd.prog 68 #[.agg #[.slice G l c, .bool own], .slice A m d] w fun e w' => e = .returned (.bool (((paE P : Nat) : Int) == 0)) ∧ Below w.heap.size w w' := by
  have h := paEvenR G A l c m d own _ (fun _ => 2) (fun _ => 2) (pairR P) w hm2 hs.rd (fun k hk => by
    have hkl : k < P.length := by omega
    have e : P.getD k (0, 0) = P[k] := by simp [List.getD, hkl]
    have he := hP P[k] (List.getElem_mem hkl)
    exact ⟨rfl, P[k].1, P[k].2, he.1, by omega, by simp only [pairR, e]; rfl, by simp only [pairR, e]; rfl⟩)
  rw [paX_paE m (by omega), hm, List.take_length] at h
  rw [hm]
  exact h
end Go.Proofs.YtmcimfblhpflnaaDoor
