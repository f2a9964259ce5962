/-
What the program does with a set of the first graph: its buttons, spread, go into one place of the product.
-/
import Derived.Test.YtdpoceijnbbmgaaDoorPG
import Derived.Test.YtdpoceijnbbmgaaDoorCG
import Derived.Test.YtdpoceijnbbmgaaDoorEA0
import Derived.Test.YtdpoceijnbbmgaaDoorEff
import Derived.Test.YtdpoceijnbbmgaaDoorBD
namespace Go.Proofs.YtdpoceijnbbmgaaDoor
open Go.RowKit
set_option maxHeartbeats 2000000
theorem nand_small (a b : Nat) (ha : a < 9223372036854775808) (hb : b < 9223372036854775808) : bits .and .i64 (a : Int) (b : Int) = ((a &&& b : Nat) : Int) := by
  have h : a &&& b < 9223372036854775808 := Nat.lt_of_le_of_lt Nat.and_le_left ha
  show IntKind.i64.wrap ((BitVec.ofInt 64 (a : Int) &&& BitVec.ofInt 64 (b : Int)).toNat : Int) = _
  rw [BitVec.toNat_and, ofInt_i64 a (by omega), ofInt_i64 b (by omega), IntKind.wrap_i64]
  omega
theorem gcell {w w' : World} {b g o : Nat} {v : Value} (hg : w.grownBy w' (some b)) (hne : g ≠ b) (h : w.cell? ⟨g, o, none⟩ = some v) : w'.cell? ⟨g, o, none⟩ = some v := World.grownBy.cell hg h (fun e => by injection e with e; exact hne e)
theorem Tab.grownP {w w' : World} {b : Nat} (h : Tab w) (hg : w.grownBy w' (some b)) (hb : b ≠ 1) : Tab w' := h.grown hg hb h.lt
/-- The cells that the closure holds. -/
structure EnvP (w : World) (Bn Bp Bk Bj gA N p k j : Nat) : Prop where
  near : w.cell? ⟨Bn, 0, none⟩ = some (.slice (some ⟨gA, 0, none⟩) N N)
  place : w.cell? ⟨Bp, 0, none⟩ = some (.int .i64 (p : Nat))
  k : w.cell? ⟨Bk, 0, none⟩ = some (.int .i64 (k : Nat))
  j : w.cell? ⟨Bj, 0, none⟩ = some (.int .i64 (j : Nat))
  ne : Bn ≠ gA ∧ Bp ≠ gA ∧ Bk ≠ gA ∧ Bj ≠ gA
theorem EnvP.grown {w w' : World} {Bn Bp Bk Bj gA N p k j : Nat} (h : EnvP w Bn Bp Bk Bj gA N p k j) (hg : w.grownBy w' (some gA)) : EnvP w' Bn Bp Bk Bj gA N p k j :=
  ⟨gcell hg h.ne.1 h.near, gcell hg h.ne.2.1 h.place, gcell hg h.ne.2.2.1 h.k, gcell hg h.ne.2.2.2 h.j, h.ne⟩
theorem prodC_any (Bn Bp Bk Bj gA N p k j b : Nat) (R : Nat → Nat) (w : World) (hp : p < N) (hN : N ≤ 16) (hkb : k * b + j < 16) (hR : R p < 65536) (he : EnvP w Bn Bp Bk Bj gA N p k j) (ha : Arr w 3 gA N (iv (nv R))) :
    Calls Tryd.prog 44 #[.int .i64 b, .pointer (some ⟨Bn, 0, none⟩), .pointer (some ⟨Bp, 0, none⟩), .pointer (some ⟨Bk, 0, none⟩), .pointer (some ⟨Bj, 0, none⟩)] w fun e w' => e = .returned (.tuple #[]) ∧ ∃ q, w' = (w.setCell ⟨gA, p, none⟩ (.int .i64 (R p ||| 2 ^ (k * b + j) : Nat))).drewN q := by
  obtain ⟨h1, h2, h3, h4, _⟩ := he
  have hc : w.cell? ⟨gA, p, none⟩ = some (.int .i64 (R p : Nat)) := ha.cell hp
  have hz := ha.frozen p
  have e1 := or_wrap (R p) (k * b + j) hR hkb
  have hkle : k * b ≤ k * b + j := Nat.le_add_right _ _
  obtain ⟨y, hy⟩ : ∃ y, k * b = y := ⟨_, rfl⟩
  have hyc : (k : Int) * (b : Int) = (y : Int) := by rw [← hy, Int.natCast_mul]
  rw [hy] at hkb e1 hkle ⊢
  have hyw : IntKind.i64.wrap (y : Int) = (y : Int) := IntWalk.i64_in _ (by omega)
  have hyj : IntKind.i64.wrap ((y : Int) + (j : Int)) = ((y + j : Nat) : Int) := IntWalk.i64_in _ (by omega)
  clear ha hy
  go_enter Tryd.func44, Tryd.ntmps44
  go_wp2_with fail
  go_region
  all_goals
    go_end0
    exact ⟨rfl, 1, rfl⟩
/-- The row while the buttons r are still to come. -/
def curP (R : Nat → Nat) (p k j n s r : Nat) : Nat → Nat := fun q => if q = p then R p ||| spread k j (s ^^^ r) n else R q
theorem curP_start (R : Nat → Nat) (p k j n s : Nat) : curP R p k j n s s = R := by
  funext q
  unfold curP
  rw [Nat.xor_self, spread_zero, Nat.or_zero]
  split
  · rename_i h; rw [h]
  · rfl
theorem curP_step {R : Nat → Nat} {p k j n s r b : Nat} (hb : b < n) (hr : r.testBit b = true) (hs : s.testBit b = true) : curP R p k j n s (r ^^^ 2 ^ b) = fun q => if q = p then curP R p k j n s r p ||| 2 ^ (k * b + j) else curP R p k j n s r q := by
  funext q
  unfold curP
  by_cases h : q = p
  · simp only [h, if_true]
    rw [← Nat.xor_assoc, spread_more hb (by rw [Nat.testBit_xor, hr, hs]; rfl), Nat.or_assoc]
  · simp only [h, if_false]
theorem curP_lt {R : Nat → Nat} {p k j n s r N : Nat} (hN : N ≤ 16) (hk : n * k ≤ N) (hj : j < k) (hR : ∀ q, q < N → R q < 65536) (q : Nat) (hq : q < N) : curP R p k j n s r q < 65536 := by
  have h : spread k j (s ^^^ r) n < 65536 := Nat.lt_of_lt_of_le (spread_lt hj) (Nat.pow_le_pow_right (n := 2) (j := 16) (by decide) (by omega))
  unfold curP
  split
  · rename_i e; rw [← e]; exact or_lt16 (hR q hq) h
  · exact hR q hq
theorem eachIn_prod (Bn Bp Bk Bj gA N p k j n s : Nat) (R : Nat → Nat) (w : World) (hp : p < N) (hN : N ≤ 16) (hk : n * k ≤ N) (hj : j < k) (hn : n ≤ 16) (hs : s < 2 ^ n) (hR : ∀ q, q < N → R q < 65536) (he : EnvP w Bn Bp Bk Bj gA N p k j) (ha : Arr w 3 gA N (iv (nv R))) (hT : Tab w) (h1 : 1 ≠ gA) :
    Calls Tryd.prog 43 #[.int .i64 s, .func (.func 44) #[] #[.pointer (some ⟨Bn, 0, none⟩), .pointer (some ⟨Bp, 0, none⟩), .pointer (some ⟨Bk, 0, none⟩), .pointer (some ⟨Bj, 0, none⟩)]] w fun e w' => e = .returned (.tuple #[]) ∧ Arr w' 3 gA N (iv (nv (curP R p k j n s 0))) ∧ w.grownBy w' (some gA) := by
  have hp16 : (2 : Nat) ^ n ≤ 65536 := Nat.pow_le_pow_right (n := 2) (j := 16) (by decide) hn
  have HT := hide hT
  have HA := hide ha
  have HE := hide he
  have HR := hide hR
  have HS := hide hs
  have hsb : s < 65536 := by omega
  clear hT ha he hR hs
  go_enter Tryd.func43, Tryd.ntmps43
  go_wp2
  go_loopw [0] (fun x wr => ∃ r : Nat, x = .int .i64 r ∧ r < 65536 ∧ Hid (r < 2 ^ n) ∧ Hid (∀ y, r.testBit y = true → s.testBit y = true) ∧ Hid (Arr wr 3 gA N (iv (nv (curP R p k j n s r)))) ∧ Hid (w.grownBy wr (some gA))) (fun x _ => (intOf x).toNat)
  case atStart => exact ⟨s, rfl, hsb, HS, hide (fun _ h => h), hide (by rw [curP_start]; exact HA.out), hide (grownBy_of_below (Below.refl _ _) _)⟩
  case round =>
    obtain ⟨r, rfl, hr, HRn, HSUB, HB, HG⟩ := hrel
    by_cases h0 : r = 0
    · subst h0
      go_wp2
      go_end0
      exact ⟨rfl, HB.out, HG.out⟩
    · have hlow := ctz_low h0 (by have : (2 : Nat) ^ 64 = 18446744073709551616 := rfl; omega)
      obtain ⟨i, hi⟩ : ∃ i, Lib.ctz 64 r = i := ⟨_, rfl⟩
      rw [hi] at hlow
      have HI := hide hi
      have hin := bit_lt hlow.1 HRn.out
      have hlt := low_lt hlow.1 hlow.2
      have hst : curP R p k j n s (r &&& (r - 1)) = (fun q => if q = p then curP R p k j n s r p ||| 2 ^ (k * i + j) else curP R p k j n s r q) := by rw [low_off hlow.1 hlow.2]; exact curP_step hin hlow.1 (HSUB.out i hlow.1)
      have hsub : ∀ y, (r &&& (r - 1)).testBit y = true → s.testBit y = true := fun y hy => by
        rw [Nat.testBit_and, Bool.and_eq_true] at hy
        exact HSUB.out y hy.1
      have hkb : k * i + j < 16 := by have := row_lt hin hj; omega
      have hcl := fun q hq => curP_lt (s := s) (r := r) (p := p) hN hk hj HR.out q hq
      have hand : bits .and .i64 (r : Int) ((r : Int) - 1) = ((r &&& (r - 1) : Nat) : Int) := by
        rw [show (r : Int) - 1 = ((r - 1 : Nat) : Int) by omega]
        exact nand_small _ _ (by omega) (by omega)
      obtain ⟨r2, hr2⟩ : ∃ x, r &&& (r - 1) = x := ⟨_, rfl⟩
      rw [hr2] at hlt hst hand hsub
      have HST := hide hst
      have HSUB2 := hide hsub
      have HCL := hide hcl
      have hR2 : Hid (r2 < 2 ^ n) := hide (Nat.lt_trans hlt HRn.out)
      have hneq : ((r : Int) == 0) = false := by simp; omega
      have hneq' : ((r : Int) != 0) = true := by simp; omega
      have hwu : IntKind.u64.wrap (r : Int) = (r : Int) := by rw [IntKind.wrap_u64]; omega
      have HTR := hide (HT.out.grownP HG.out (fun e => h1 e.symm))
      have HER := hide (HE.out.grown HG.out)
      clear hlow hr2 hi hst hcl hsub
      go_wp2_with (first
        | (go_at_call 83; refine (ctz_any _ (by omega) _ HTR.out).mono ?_; rintro e w3 ⟨rfl, rfl⟩; rw [HI.out])
        | (go_at_call 44; refine (prodC_any Bn Bp Bk Bj gA N p k j i (curP R p k j n s r) _ hp hN hkb (HCL.out p hp) HER.out HB.out).mono ?_; rintro e w3 ⟨rfl, kk, hw3⟩))
      refine ⟨⟨r2, rfl, by omega, hR2, HSUB2, hide ?_, hide ?_⟩, by simp [intOf]; omega⟩
      · subst hw3
        rw [HST.out]
        refine ((HB.out.set p _).drewN kk).congr fun q _ => ?_
        simp only [iv, nv]
        by_cases h : q = p
        · simp [h]
        · simp [h]
      · subst hw3
        exact grownBy_drewN (grownBy_setCell HG.out _) kk
end Go.Proofs.YtdpoceijnbbmgaaDoor
