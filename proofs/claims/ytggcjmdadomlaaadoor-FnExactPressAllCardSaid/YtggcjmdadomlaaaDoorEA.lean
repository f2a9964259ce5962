import Derived.Test.YtggcjmdadomlaaaDoorBP
import Derived.Test.YtggcjmdadomlaaaDoorEff
import Derived.Ground.Names7Prog
import Derived.Shelf.Lay
import Derived.Shelf.Spec.TrailingZeros
namespace Go.Proofs
open Go.Shelf
shelf_lay Lays7.n27 Nm7 27 at Tryd as Tryd.ctz
end Go.Proofs
namespace Go.Proofs.YtggcjmdadomlaaaDoor
open Go.RowKit
set_option maxHeartbeats 400000
theorem i64_and_nat (a b : Nat) (ha : a < 9223372036854775808) (hb : b < 9223372036854775808) : bits .and .i64 (a : Int) (b : Int) = ((a &&& b : Nat) : Int) := by
  have hx : a &&& b ≤ b := Nat.and_le_right
  show IntKind.i64.wrap ((BitVec.ofInt 64 (a : Int) &&& BitVec.ofInt 64 (b : Int)).toNat : Int) = _
  rw [BitVec.toNat_and, ofInt_i64 a ha, ofInt_i64 b hb, IntKind.wrap_i64]
  omega
/-- The table of the library, in its variable. -/
def Tab (w : World) : Prop := TabAt (Tryd.ctz_ren.g 1) Lib.deBruijn64tab w
theorem Tab.lt {w : World} (h : Tab w) : 1 < w.heap.size := World.block_lt_of_cell? w _ (h 0 (by decide))
theorem Tab.grown {w w' : World} {b : Nat} (h : Tab w) (hg : w.grownBy w' (some b)) (hb : b ≠ Tryd.ctz_ren.g 1) (hl : Tryd.ctz_ren.g 1 < w.heap.size) : Tab w' := fun j hj => by
  rw [← h j hj]
  have := hg.block (Tryd.ctz_ren.g 1) hl (by intro e; injection e with e; exact hb e.symm)
  simp only [World.cell?, this]
theorem ctz_any (x : Nat) (hx : x < 65536) (w : World) (hT : Tab w) :
    Calls Tryd.prog 47 #[.int .u64 x] w fun e w' => e = .returned (.int .i64 (Lib.ctz 64 x)) ∧ w = w' :=
  (Any7.bits_TrailingZeros Tryd.ctz x (by omega) w (fun _ => hT)).mono fun e w' h => ⟨h.1, h.2.symm⟩
/-- The lights while the presses of r are still to come. -/
def leftL (T : Nat → Nat) (L : Nat → Bool) (n p r : Nat) : Nat → Bool := fun j => if j < n then L j ^^ (effN T p n ^^^ effN T r n).testBit j else L j
theorem leftL_step {T : Nat → Nat} {L : Nat → Bool} {n p r i : Nat} (hi : i < n) (hb : r.testBit i = true) (hl : ∀ j, j < i → r.testBit j = false) :
    (fun j => if j < n then leftL T L n p r j ^^ (T i).testBit j else leftL T L n p r j) = leftL T L n p (r &&& (r - 1)) := by
  funext j
  have e : effN T (r &&& (r - 1)) n = effN T r n ^^^ T i := by rw [low_off hb hl, effN_xor, effN_bit, if_pos hi]
  by_cases hj : j < n
  · simp only [leftL, hj, if_true, e, Nat.testBit_xor]
    cases L j <;> cases (effN T p n).testBit j <;> cases (effN T r n).testBit j <;> cases (T i).testBit j <;> rfl
  · simp only [leftL, hj, if_false]
theorem leftL_start (T : Nat → Nat) (L : Nat → Bool) (n p : Nat) : leftL T L n p p = L := by
  funext j; simp [leftL]
theorem leftL_end (T : Nat → Nat) (L : Nat → Bool) (n p : Nat) : leftL T L n p 0 = fun j => if j < n then L j ^^ (effN T p n).testBit j else L j := by
  funext j; simp [leftL, effN_zero]
theorem eachIn_any (b g n c : Nat) (own : Bool) (F : Nat → Nat) (L : Nat → Bool) (p : Nat) (w : World) (hn : n ≤ 16) (hp : p < 2 ^ n) (hF : ∀ i, i < n → F i < 65536)
    (hbk : Blk w 47 b (bd (.slice (some ⟨g, 0, none⟩) n c) (.bool own) L)) (ha : Arr w 3 g n (iv (nv F))) (hT : Tab w) (hb1 : b ≠ 1) :
    Calls Tryd.prog 29 #[.int .i64 p, .func (.func 30) #[.pointer (some ⟨b, 0, none⟩)] #[]] w fun e w' => e = .returned (.tuple #[]) ∧ Blk w' 47 b (bd (.slice (some ⟨g, 0, none⟩) n c) (.bool own) (leftL (tog F own) L n p 0)) ∧ w.grownBy w' (some b) := by
  have hgb : g ≠ b := by
    rintro rfl
    have h1 := hbk
    obtain ⟨cs, h2, _⟩ := ha
    rw [show Blk w 47 g _ = (_ = _) from rfl] at h1
    rw [h2] at h1
    simp at h1
  have hl1 := hT.lt
  have hbl := hbk.lt
  have p16 := pow16 hn
  have hp16 : p < 65536 := by have := pow_nat n; omega
  have HBK := hide hbk
  have HA := hide ha
  have HT := hide hT
  have HF := hide hF
  clear hbk ha hT hF
  go_enter Tryd.func29, Tryd.ntmps29
  go_wp2
  go_loopw [0] (fun i wr => ∃ r : Nat, r ≤ p ∧ r < 2 ^ n ∧ i = .int .i64 r ∧ Blk wr 47 b (bd (.slice (some ⟨g, 0, none⟩) n c) (.bool own) (leftL (tog F own) L n p r)) ∧ w.grownBy wr (some b))
    (fun i _ => (intOf i).toNat)
  case atStart => exact ⟨p, Nat.le_refl _, hp, rfl, by rw [leftL_start]; exact HBK.out, grownBy_of_below (Below.refl _ _) _⟩
  case round =>
    obtain ⟨r, hrp, hr, rfl, hb, hg⟩ := hrel
    by_cases h0 : r = 0
    · subst h0
      go_wp2
      go_end0
      exact ⟨rfl, hb, hg⟩
    · have hlow := ctz_low h0 (by omega)
      obtain ⟨i, hi⟩ : ∃ i, Lib.ctz 64 r = i := ⟨_, rfl⟩
      rw [hi] at hlow
      have hin := bit_lt hlow.1 hr
      have hTr := HT.out.grown hg hb1 hl1
      have HB := hide hb
      have HG := hide hg
      have HTR := hide hTr
      have HLOW := hide hlow
      have HP := hide p16
      have hlt := low_lt hlow.1 hlow.2
      have hneq : ((r : Int) == 0) = false := by simp; omega
      have hneq' : ((r : Int) != 0) = true := by simp; omega
      have hand : bits .and .i64 (r : Int) ((r : Int) - 1) = ((r &&& (r - 1) : Nat) : Int) := by
        rw [show (r : Int) - 1 = ((r - 1 : Nat) : Int) by omega]
        exact i64_and_nat _ _ (by omega) (by omega)
      clear hb hg hTr hlow p16
      have hwu : IntKind.u64.wrap (r : Int) = (r : Int) := by rw [IntKind.wrap_u64]; omega
      go_wp2_with (first
        | (go_at_call 47; refine (ctz_any _ (by omega) _ HTR.out).mono ?_; rintro e w3 ⟨rfl, rfl⟩; rw [hi])
        | (go_at_call 30; refine (press_any b g n c own F _ i _ hn hin (HF.out i hin) HB.out (HA.out.grown HG.out hgb)).mono ?_; rintro e w3 ⟨rfl, ⟨L3, hb3, hL3⟩, hg3⟩))
      refine ⟨⟨r &&& (r - 1), by omega, by omega, rfl, ?_, grownBy_trans HG.out hg3⟩, by simp [intOf]; omega⟩
      have e : L3 = leftL (tog F own) L n p (r &&& (r - 1)) := by
        rw [← leftL_step hin HLOW.out.1 HLOW.out.2]
        funext j
        rw [hL3 j]
        rfl
      rw [← e]
      exact hb3
end Go.Proofs.YtggcjmdadomlaaaDoor
