import Derived.Test.YtmlklmdenhhjnaaBW
import Derived.Test.YtmlklmdenhhjnaaZB
namespace Go.Proofs.Ytmlklmdenhhjnaa
open Go.RowKit
set_option maxHeartbeats 400000
/-- The lights behind k letters of a word. -/
def pw (F : Nat → Nat) (own : Bool) (V : Nat → Nat) (s : Nat) : Nat → Nat
  | 0 => s
  | k + 1 => pw F own V s k ^^^ tog F own (V k)
theorem pw_lt {F : Nat → Nat} {own : Bool} {V : Nat → Nat} {s n m : Nat} (hs : s < 2 ^ n) (hF : ∀ j, j < n → F j < 2 ^ n) (hV : ∀ j, j < m → V j < n) : ∀ k, k ≤ m → pw F own V s k < 2 ^ n := by
  intro k
  induction k with
  | zero => intro _; exact hs
  | succ k ih => intro hk; exact Nat.xor_lt_two_pow (ih (by omega)) (tog_lt_pow (hV k (by omega)) (hF _ (hV k (by omega))))
theorem wordSpec_no (g n c : Nat) (f : Nat → Int) (own : Bool) (s : Int) (A : Option Addr) (m mc : Nat) (v : Nat → Int) (w : World) (hn : n ≤ 1048576) (hm : m ≤ 1048576) (hno : (setB n f s && wordB n m v) = false) (ha : Arr w 3 g n (iv f)) (hs : Src w A m (iv v)) :
    Calls Try.prog 37 #[.agg #[.slice (some ⟨g, 0, none⟩) n c, .bool own], .int .i64 s, .slice A m mc] w (Pair w 0 false) := by
  have HA := hide ha
  have HS := hide hs
  clear ha hs
  cases hset : setB n f s
  · clear hno
    go_enter Try.func37, Try.ntmps37
    go_wp2_with fail
    refine (grSet_any _ _ _ f _ _ _ hn (HA.out.alloc _)).mono ?_
    rintro e w1 ⟨rfl, hb1⟩
    go_wp2
    go_ret2
    exact ⟨rfl, (by go_grown : Below w.heap.size w _).trans (hb1.mono (by simp))⟩
  · have hw : wordB n m v = false := by simpa [hset] using hno
    clear hno
    by_cases h200 : 200 < m
    · go_enter Try.func37, Try.ntmps37
      go_wp2_with fail
      refine (grSet_any _ _ _ f _ _ _ hn (HA.out.alloc _)).mono ?_
      rintro e w1 ⟨rfl, hb1⟩
      go_wp2
      go_ret2
      exact ⟨rfl, (by go_grown : Below w.heap.size w _).trans (hb1.mono (by simp))⟩
    · have hall : allB m v 0 (n - 1) = false := by
        simpa [wordB, show m ≤ 200 by omega] using hw
      clear hw
      go_enter Try.func37, Try.ntmps37
      go_wp2_with fail
      refine (grSet_any _ _ _ f _ _ _ hn (HA.out.alloc _)).mono ?_
      rintro e w1 ⟨rfl, hb1⟩
      have hp := (Arr.box w 27 (.slice (some ⟨g, 0, none⟩) n c) (.bool own)).all hb1
      have c0 : w1.cell? ⟨w.heap.size, 0, none⟩ = some (.slice (some ⟨g, 0, none⟩) n c) := hp.cell (by omega)
      have HS1 := hide ((HS.out.alloc _).below hb1)
      have HB := hide ((by go_grown : Below w.heap.size w _).trans (hb1.mono (by simp)))
      clear hb1 hp
      go_wp2_with fail
      refine (l1All_any _ _ _ v _ _ _ hm HS1.out).mono ?_
      rintro e w2 ⟨rfl, rfl⟩
      go_wp2
      go_ret2
      exact ⟨rfl, HB.out⟩
theorem wordSpec_ok (g n c : Nat) (F : Nat → Nat) (own : Bool) (s : Nat) (A : Option Addr) (m mc : Nat) (V : Nat → Nat) (w : World) (hn : n ≤ 16) (hm : m ≤ 200) (hs : s < 2 ^ n) (hF : ∀ j, j < n → F j < 2 ^ n) (hV : ∀ j, j < m → V j < n) (hset : setB n (nv F) s = true) (hall : allB m (nv V) 0 (n - 1) = true) (ha : Arr w 3 g n (iv (nv F))) (hsrc : Src w A m (iv (nv V))) :
    Calls Try.prog 37 #[.agg #[.slice (some ⟨g, 0, none⟩) n c, .bool own], .int .i64 s, .slice A m mc] w (Pair w (pw F own V s m : Nat) true) := by
  have h16 : (2 : Nat) ^ n ≤ 65536 := Nat.pow_le_pow_right (n := 2) (by decide) hn
  have HA := hide ha
  have HS := hide hsrc
  have HF := hide hF
  have HV := hide hV
  have HP := hide (pw_lt (own := own) hs hF hV)
  clear ha hsrc hF hV
  go_enter Try.func37, Try.ntmps37
  go_wp2_with fail
  refine (grSet_any _ _ _ (nv F) _ _ _ (by omega) (HA.out.alloc _)).mono ?_
  rintro e w1 ⟨rfl, hb1⟩
  have hp := (Arr.box w 27 (.slice (some ⟨g, 0, none⟩) n c) (.bool own)).all hb1
  have c0 : w1.cell? ⟨w.heap.size, 0, none⟩ = some (.slice (some ⟨g, 0, none⟩) n c) := hp.cell (by omega)
  have HX := hide hp
  have HS1 := hide ((HS.out.alloc _).below hb1)
  have HA1 := hide ((HA.out.alloc _).all hb1)
  have HB := hide ((by go_grown : Below w.heap.size w _).trans (hb1.mono (by simp)))
  clear hb1 hp
  go_wp2_with fail
  refine (l1All_any _ _ _ (nv V) _ _ _ (by omega) HS1.out).mono ?_
  rintro e w2 ⟨rfl, rfl⟩
  have hsz := HB.out.size
  go_wp2
  go_loopw [1, 30] (fun t i wr => ∃ k : Nat, k ≤ m ∧ i = .int .i64 k ∧ t = .int .i64 (pw F own V s k : Nat) ∧ Below w2.heap.size w2 wr) (fun _ i _ => m - (intOf i).toNat)
  case atStart => exact ⟨0, by omega, rfl, rfl, Below.refl _ _⟩
  case round =>
    obtain ⟨k, hk, rfl, rfl, hb⟩ := hrel
    have HAr := hide (HA1.out.all hb)
    have hp := HX.out.all hb
    have d0 : wr.cell? ⟨w.heap.size, 0, none⟩ = some (.slice (some ⟨g, 0, none⟩) n c) := hp.cell (by omega)
    have d1 : wr.cell? ⟨w.heap.size, 1, none⟩ = some (.bool own) := hp.cell (by omega)
    have HSr := hide (HS1.out.below hb)
    have HBr := hide hb
    clear hb hp
    by_cases hlt : k < m
    · obtain ⟨b, off, hA, hbl, hc0⟩ := HSr.out k hlt
      have hc : wr.cell? ⟨b, off + k, none⟩ = some (.int .i64 (V k : Nat)) := hc0
      clear hc0
      subst hA
      have hvk := HV.out k hlt
      have e1 := i64_xor_nat (pw F own V s k) (tog F own (V k)) (by have := HP.out k hk; omega) (by have := tog_lt_pow (own := own) hvk (HF.out _ hvk); omega)
      go_wp2_with fail
      refine (grToggles_any _ _ _ F _ _ _ hn hvk (by have := HF.out _ hvk; omega) HAr.out).mono ?_
      rintro e w3 ⟨rfl, hb3⟩
      go_wp2
      go_roundw
      case rel => exact ⟨k + 1, by omega, by go_num, rfl, HBr.out.trans (hb3.mono HBr.out.size)⟩
      case measure => simp [intOf]; omega
    · have hkm : k = m := by omega
      subst hkm
      go_wp2
      go_ret2
      exact ⟨rfl, HB.out.trans (HBr.out.mono hsz)⟩
end Go.Proofs.Ytmlklmdenhhjnaa
