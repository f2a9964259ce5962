import Derived.Test.YtggcjmdadomlaaaSB3
import Derived.Test.YtggcjmdadomlaaaSK
namespace Go.Proofs.Ytggcjmdadomlaaa
open Go.RowKit
set_option maxHeartbeats 2000000
theorem gB_low {g : Nat → Nat} {n : Nat} : ∀ k, (∀ i, i < k → g (2 ^ i) < 2 ^ n) → ∀ b ∈ gB g k, b < 2 ^ n
  | 0, _ => fun b hb => by cases hb
  | k + 1, hg => add_lt (gB_low k (fun i hi => hg i (by omega))) (hg k (by omega))
/-- The rows n behind first rows: a map of sums. -/
def rowG (c : Nat) (own : Bool) (n : Nat) : Nat → Nat := fun f => prw c own 0 f n
theorem rowG_xor (c : Nat) (own : Bool) (n x y : Nat) : rowG c own n (x ^^^ y) = rowG c own n x ^^^ rowG c own n y := prw_xor x y n
/-- The number for which 2 to its power tells how many first rows have the row n as 0. -/
def nulN (c : Nat) (own : Bool) (n : Nat) : Nat := c - (gB (rowG c own n) c).length
theorem nul_count (c : Nat) (own : Bool) (n : Nat) : (List.range (2 ^ c)).countP (fun f => decide (prw c own 0 f n = 0)) = 2 ^ nulN c own n := gC_kernel (rowG_xor c own n) c
theorem tabfn_any (Bt c i n : Nat) (own : Bool) (w : World) (hc : c ≤ 16) (hi : i < c) (ht : Tab w Bt (tT c own n)) :
    Calls Try.prog 102 #[.int .i64 i, .pointer (some ⟨Bt, 0, none⟩)] w fun e w' => e = .returned (.int .i64 (rowG c own n (2 ^ i) : Nat)) ∧ w = w' := by
  have c0 : w.cell? ⟨Bt, i, none⟩ = some (.int .i64 (tT c own n i : Nat)) := ht.cell (by omega)
  have e : tT c own n i = rowG c own n (2 ^ i) := by unfold tT rowG; rw [if_pos hi]
  rw [e] at c0
  have hi16 : (i : Int) < 16 := by omega
  have hi0 : (0 : Int) ≤ (i : Int) := by omega
  clear e ht
  go_enter Try.func102, Try.ntmps102
  go_wp2
  go_ret
  exact ⟨rfl, rfl⟩
theorem basisOf_tab (Bt c n : Nat) (own : Bool) (w : World) (hc : c ≤ 16) (ht : Tab w Bt (tT c own n)) :
    Calls Try.prog 101 #[.int .i64 c, .func (.func 102) #[] #[.pointer (some ⟨Bt, 0, none⟩)]] w (GrownL w.heap.size w (gB (rowG c own n) c)) := by
  have hmf : ∀ (fn : Fn) (first cap : Array Value) (w : World), (Instr.makeFunc fn first cap).run Try.prog w = .ok (.func fn first cap) w := fun _ _ _ _ => rfl
  have HT := Lib.hid ht
  have hlow : ∀ i, i < c → rowG c own n (2 ^ i) < 2 ^ c := fun i hi => prw_lt (Nat.pow_lt_pow_right (by decide) hi) n
  have HLow := Lib.hid hlow
  have h16 := pow16n hc
  clear ht hlow
  go_enter Try.func101, Try.ntmps101
  go_wp2
  go_loopw [10] (fun i wr => ∃ (k m : Nat) (A : Option Addr) (d : Nat), k ≤ c ∧ i = .int .i64 k ∧ Hid ((gB (rowG c own n) k).length = m) ∧ Blk wr 25 w.heap.size #[.slice A m d] ∧ OL wr (w.heap.size + 1) (.slice A m d) (gB (rowG c own n) k) ∧ Below w.heap.size w wr) (fun i _ => c - (intOf i).toNat)
  case atStart => exact ⟨0, 0, none, 0, by omega, rfl, Lib.hid rfl, Blk.new _ _ _ rfl, OL.nil _ _, by go_grown⟩
  case round =>
    obtain ⟨k, m, A, d, hk, rfl, HM, hx, ho, hb⟩ := hrel
    have hsz := hb.size
    have hxl := hx.lt
    have HX := Lib.hid hx
    have HO := Lib.hid ho
    have HB := Lib.hid hb
    have HTr := Lib.hid (HT.out.all hb)
    clear hx ho hb
    by_cases hlt : k < c
    · have HM40 := Lib.hid (show M40 (gB (rowG c own n) k) from fun b hb => by have := gB_low k (fun i hi => HLow.out i (by omega)) b hb; omega)
      have HBas := Lib.hid (gB_bas (rowG c own n) k)
      have hs40 : rowG c own n (2 ^ k) < 1099511627776 := by have := HLow.out k hlt; omega
      have hm64 : m ≤ 64 := by have h1 := gB_le (rowG c own n) k; have h2 := HM.out; omega
      go_wp2_with fail
      refine (tabfn_any _ c k n own _ hc hlt HTr.out).mono ?_
      rintro e w3 ⟨rfl, rfl⟩
      go_wp2_with fail
      refine (addF_any w.heap.size _ _ _ _ _ _ HM40.out HBas.out hs40 HM.out hm64 HX.out HO.out).mono ?_
      rintro e w4 ⟨rfl, A4, n4, c4, hn4, hx4, ho4, hb4⟩
      have HN4 := Lib.hid hn4
      have HX4 := Lib.hid hx4
      have HO4 := Lib.hid ho4
      have HB4 := Lib.hid (HB.out.trans hb4)
      clear hn4 hx4 ho4 hb4
      go_wp2
      go_roundw
      case rel => exact ⟨k + 1, n4, A4, c4, by omega, by go_num, HN4, HX4.out, HO4.out, HB4.out⟩
      case measure => simp [intOf]; omega
    · have hkn : k = c := by omega
      subst hkn
      have c0 : wr.cell? ⟨w.heap.size, 0, none⟩ = some (.slice A m d) := HX.out.cell 0
      go_wp2
      go_ret
      exact ⟨A, d, m, rfl, HM.out, by have h := HO.out; exact h.mono (by omega), HB.out⟩
theorem nullity_any (c n : Nat) (own : Bool) (C0 : Array Value) (w : World) (hc : c ≤ 16) (hC0 : C0 = tabA (tT c own n)) :
    Calls Try.prog 79 #[.agg C0, .int .i64 c] w fun e w' => e = .returned (.int .i64 (nulN c own n : Nat)) ∧ Below w.heap.size w w' := by
  have hmf : ∀ (fn : Fn) (first cap : Array Value) (w : World), (Instr.makeFunc fn first cap).run Try.prog w = .ok (.func fn first cap) w := fun _ _ _ _ => rfl
  have HT := Lib.hid (Tab.new w C0 _ hC0 rfl)
  have hle := gB_le (rowG c own n) c
  clear hC0
  go_enter Try.func79, Try.ntmps79
  go_wp2_with fail
  refine (basisOf_tab _ c n own _ hc HT.out).mono ?_
  rintro e w2 ⟨A, d, m, rfl, hm, ho, hb⟩
  rw [hm] at hle
  have hv : ((c : Int) - (m : Int)) = ((nulN c own n : Nat) : Int) := by unfold nulN; rw [hm]; omega
  have HV := Lib.hid hv
  have HB := Lib.hid ((by go_grown : Below w.heap.size w _).trans (hb.mono (by simp)))
  clear hv hm ho hb
  go_wp2
  go_ret
  exact ⟨ret_int HV.out, HB.out⟩
end Go.Proofs.Ytggcjmdadomlaaa
