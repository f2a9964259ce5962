import Derived.Test.YtggcjmdadomlaaaRL
namespace Go.Proofs.Ytggcjmdadomlaaa
open Go.RowKit
set_option maxHeartbeats 2000000
/-- The first rows below n that leave no lights. -/
def fls (c : Nat) (own : Bool) (l R n : Nat) : List Nat := (List.range n).filter (fun f => decide (prw c own l f R = 0))
theorem fls_succ (c : Nat) (own : Bool) (l R n : Nat) : fls c own l R (n + 1) = fls c own l R n ++ (if prw c own l n R = 0 then [n] else []) := by
  unfold fls
  rw [List.range_succ, List.filter_append]
  by_cases h : prw c own l n R = 0 <;> simp [h]
theorem fls_len (c : Nat) (own : Bool) (l R n : Nat) : (fls c own l R n).length ≤ n := by
  have h := List.length_filter_le (fun f => decide (prw c own l f R = 0)) (List.range n)
  rw [List.length_range] at h
  exact h
theorem fls_lt {c : Nat} {own : Bool} {l R n f : Nat} (h : f ∈ fls c own l R n) : f < n := by
  simp [fls] at h; exact h.1
theorem csChase_below (R c l f : Nat) (own : Bool) (w : World) (hs : Sides R c) (hl : l < 9223372036854775808) (hf : f < 2 ^ c) :
    Calls Try.prog 59 #[.int .i64 R, .int .i64 c, .bool own, .int .i64 l, .int .i64 f] w fun e w' => e = .returned (.tuple #[.int .i64 (prs c own l f R : Nat), .int .i64 (prw c own l f R : Nat)]) ∧ Below w.heap.size w w' :=
  (csChase_any R c l f own w hs hl hf).mono fun e w' ⟨he, n, hw⟩ => ⟨he, by subst hw; exact below_drewN (Below.refl _ _) n⟩
theorem csFirst_any (R C l : Nat) (own : Bool) (w : World) (hs : Sides R C) (hl : l < 9223372036854775808) :
    Calls Try.prog 67 #[.int .i64 R, .int .i64 C, .bool own, .int .i64 l] w (GrownL w.heap.size w (fls C own l R (2 ^ C))) := by
  obtain ⟨P, hP⟩ : ∃ P : Nat, 2 ^ C = P := ⟨_, rfl⟩
  have hW : RowKit.wrap64 (2 ^ C) = (P : Int) := by rw [wrap_one hs.2.2.2.1, hP]
  have hP2 : P ≤ 65536 := by rw [← hP]; exact pow16n hs.2.2.2.1
  have h4 := hs.2.2.2.1
  have HL := Lib.hid hl
  have HP := Lib.hid hP
  rw [hP]
  clear hl hP
  go_enter Try.func67, Try.ntmps67
  go_wp2
  go_loopw [9, 10] (fun v i wr => ∃ (k m : Nat) (A : Option Addr) (d : Nat), k ≤ P ∧ i = .int .i64 k ∧ v = .slice A m d ∧ Hid ((fls C own l R k).length = m) ∧ OL wr w.heap.size (.slice A m d) (fls C own l R k) ∧ Below w.heap.size w wr) (fun _ i _ => P - (intOf i).toNat)
  case atStart => exact ⟨0, 0, none, 0, by omega, rfl, rfl, Lib.hid rfl, OL.nil _ _, Below.refl _ _⟩
  case round =>
    obtain ⟨k, m, A, d, hk, rfl, rfl, HM, ho, hb⟩ := hrel
    have hsz := hb.size
    have HO := Lib.hid ho
    have HB := Lib.hid hb
    clear ho hb
    by_cases hlt : k < P
    · have hF : k < 2 ^ C := by rw [HP.out]; exact hlt
      have HF := Lib.hid hF
      clear hF
      have hm : m ≤ 65536 := by have h1 := fls_len C own l R k; rw [HM.out] at h1; omega
      by_cases hz : prw C own l k R = 0
      · have t := nat_eq0 hz
        have HS := Lib.hid (show fls C own l R (k + 1) = fls C own l R k ++ [k] by rw [fls_succ, if_pos hz])
        clear hz
        go_wp2_with (first | (go_at_call 59; refine (csChase_below R C l k own _ hs HL.out HF.out).mono ?_; rintro e w3 ⟨rfl, hb3⟩; have HO3 := Lib.hid (HO.out.all hb3); have hsz3 := hb3.size; have HB3 := Lib.hid (HB.out.trans (hb3.mono hsz)); clear hb3) | (at_builtin; refine wpList_append_nat _ rfl _ _ rfl w.heap.size A d m (fls C own l R k) k w3.heap.size rfl (HO3.out.alloc _) HM.out rfl (by simp [go_sem]) (by omega) (by simp; omega) ?_; intro A2 c2 w5 ho2 hb2; have HO2 := Lib.hid ho2; have HB2 := Lib.hid hb2; clear ho2 hb2))
        go_roundw
        case rel => exact ⟨k + 1, m + 1, A2, c2, by omega, by go_num, rfl, Lib.hid (by rw [HS.out, List.length_append, HM.out]; rfl), by rw [HS.out]; exact HO2.out, (HB3.out.alloc (by omega) _).trans HB2.out⟩
        case measure => simp [intOf]; omega
      · have t := nat_neq0 hz
        have HS := Lib.hid (show fls C own l R (k + 1) = fls C own l R k by rw [fls_succ, if_neg hz, List.append_nil])
        clear hz
        go_wp2_with (first | (go_at_call 59; refine (csChase_below R C l k own _ hs HL.out HF.out).mono ?_; rintro e w3 ⟨rfl, hb3⟩; have HO3 := Lib.hid (HO.out.all hb3); have hsz3 := hb3.size; have HB3 := Lib.hid (HB.out.trans (hb3.mono hsz)); clear hb3))
        go_roundw
        case rel => exact ⟨k + 1, m, A, d, by omega, by go_num, rfl, Lib.hid (by rw [HS.out]; exact HM.out), by rw [HS.out]; exact HO3.out, HB3.out⟩
        case measure => simp [intOf]; omega
    · have hkn : k = P := by omega
      subst hkn
      go_wp2
      go_ret
      exact ⟨A, d, m, rfl, HM.out, HO.out, HB.out⟩
end Go.Proofs.Ytggcjmdadomlaaa
