import Derived.Test.YtggcjmdadomlaaaDoorEB
import Derived.Test.YtggcjmdadomlaaaDoorBL
import Derived.Test.YtggcjmdadomlaaaDoorZB
namespace Go.Proofs.YtggcjmdadomlaaaDoor
open Go.RowKit
set_option maxHeartbeats 1000000
theorem Tab.below {w w' : World} (h : Tab w) (hb : Below w.heap.size w w') : Tab w' := fun j hj => by
  rw [← h j hj]
  exact hb.cell (p := ⟨1, j, none⟩) h.lt
theorem Tab.alloc {w : World} (h : Tab w) (o : Obj) : Tab (w.alloc o) := h.below (by go_grown)
theorem Tab.drew {w : World} (h : Tab w) : Tab w.drew := h
/-- Pressing each button of p once. -/
def paN (F : Nat → Nat) (own : Bool) (n s p : Nat) : Nat := s ^^^ effN (tog F own) p n
theorem pressImpl_ok (g n c : Nat) (F : Nat → Nat) (own : Bool) (s p : Nat) (w : World) (hn : n ≤ 16) (hs : s < 2 ^ n) (hp : p < 2 ^ n) (hF : ∀ j, j < n → F j < 2 ^ n) (hG : setB n (nv F) s = true) (hG2 : setB n (nv F) p = true) (ha : Arr w 3 g n (iv (nv F))) (hT : Tab w) :
    Calls Tryd.prog 13 #[.agg #[.slice (some ⟨g, 0, none⟩) n c, .bool own], .int .i64 s, .int .i64 p] w (Pair w (paN F own n s p : Nat) true) := by
  simp only [setB, Bool.and_eq_true] at hG hG2
  obtain ⟨hgd, hin⟩ := hG
  have hin2 := hG2.2
  have h16 : (2 : Nat) ^ n ≤ 65536 := Nat.pow_le_pow_right (n := 2) (by decide) hn
  have hgl := ha.lt
  have htl := hT.lt
  have HA := hide ha
  have HT := hide hT
  have HSS := hide hs
  have HPP := hide hp
  have HF := hide (fun j (hj : j < n) => (by have := hF j hj; omega : F j < 65536))
  have HE := hide (fun j (hj : j < n) => tog_lt_pow (own := own) hj (hF j hj))
  clear ha hT hs hp hF hG2
  go_enter Tryd.func13, Tryd.ntmps13
  go_wp2_with fail
  refine (isGraph_any _ _ _ (nv F) _ _ (by omega) (HA.out.alloc _)).mono ?_
  rintro e w1 ⟨rfl, hb1⟩
  have hp := (Arr.box w 28 (.slice (some ⟨g, 0, none⟩) n c) (.bool own)).all hb1
  have c0 : w1.cell? ⟨w.heap.size, 0, none⟩ = some (.slice (some ⟨g, 0, none⟩) n c) := hp.cell (by omega)
  have c1 : w1.cell? ⟨w.heap.size, 1, none⟩ = some (.bool own) := hp.cell (by omega)
  have HX := hide hp
  have HB := hide ((by go_grown : Below w.heap.size w _).trans (hb1.mono (by simp)))
  clear hb1 hp
  go_wp2_with fail
  refine (isSet_any _ _ _ _ _ _ hn).mono ?_
  rintro e w2 ⟨rfl, hb2⟩
  have hp := HX.out.all hb2
  have d0 : w2.cell? ⟨w.heap.size, 0, none⟩ = some (.slice (some ⟨g, 0, none⟩) n c) := hp.cell (by omega)
  have d1 : w2.cell? ⟨w.heap.size, 1, none⟩ = some (.bool own) := hp.cell (by omega)
  have HX2 := hide hp
  have HB2 := hide (HB.out.trans (hb2.mono HB.out.size))
  clear hb2 hp c0 c1
  go_wp2_with fail
  refine (isSet_any _ _ _ _ _ _ hn).mono ?_
  rintro e w3 ⟨rfl, hb3⟩
  have hp := HX2.out.all hb3
  have c0 : w3.cell? ⟨w.heap.size, 0, none⟩ = some (.slice (some ⟨g, 0, none⟩) n c) := hp.cell (by omega)
  have c1 : w3.cell? ⟨w.heap.size, 1, none⟩ = some (.bool own) := hp.cell (by omega)
  have HB3 := hide (HB2.out.trans (hb3.mono HB2.out.size))
  have hg3 : g < w3.heap.size := Nat.lt_of_lt_of_le hgl HB3.out.size
  clear hb3 hp d0 d1
  go_wp2_with fail
  refine (boardWith_any _ _ _ _ _ _ hn HSS.out hg3).mono ?_
  rintro e w4 ⟨L0, rfl, hL0, hb4⟩
  have HL0 := hide hL0
  have HB4 := hide (HB3.out.trans (hb4.mono HB3.out.size))
  have HA4 := hide ((HA.out.below HB4.out hgl))
  have HT4 := hide (HT.out.below HB4.out)
  have hg4 : g < w4.heap.size := Nat.lt_of_lt_of_le hgl HB4.out.size
  have hsz := HB4.out.size
  clear hb4 hL0 c0 c1
  go_wp2_with (with_reducible refine wpList_store_board rfl (.tmp 8) (.tmp 26) rfl w4.heap.size _ _ L0 rfl rfl rfl rfl (.slice none 0 0) (.bool false) (fun _ => false) (Blk.new w4 47 _ rfl) ?_)
  have hbr : Below w4.heap.size w4 _ := below_row (w := w4.alloc (Obj.cells (bd (.slice none 0 0) (.bool false) (fun _ => false)) 47)) (g := w4.heap.size) (by go_grown) (Nat.le_refl _) (bd (.slice (some ⟨g, 0, none⟩) n c) (.bool own) L0)
  refine (eachIn_any _ _ _ _ _ F L0 p _ hn HPP.out HF.out (Blk.row (Blk.new w4 47 _ rfl) _) (HA4.out.all hbr) (HT4.out.below hbr) (by omega)).mono ?_
  rintro e w5 ⟨rfl, hb5, hg5⟩
  have HB5 := hide (HB4.out.trans ((hbr.grown hg5 hbr.size (fun j hj => by injection hj; omega)).mono hsz))
  have HBK := hide hb5
  have HL : Hid (litN (leftL (tog F own) L0 n p 0) 16 = paN F own n s p) := hide (litN_eq _ _ (by
      have h1 := effN_lt HE.out p n (Nat.le_refl _)
      have := Nat.xor_lt_two_pow HSS.out h1
      unfold paN; omega) (fun j hj => by
      rw [leftL_end]
      show (if j < n then L0 j ^^ (effN (tog F own) p n).testBit j else L0 j) = (s ^^^ effN (tog F own) p n).testBit j
      rw [Nat.testBit_xor, ← HL0.out j hj]
      by_cases hjn : j < n
      · rw [if_pos hjn]
      · rw [if_neg hjn, bit_above (effN_lt HE.out p n (Nat.le_refl _)) (show n ≤ j by omega)]
        simp))
  clear hb5 hg5 hbr
  go_wp2_with fail
  refine (lit_any _ _ _ _ _ HBK.out).mono ?_
  rintro e w6 ⟨rfl, rfl⟩
  rw [HL.out]
  go_wp2
  go_ret2
  exact ⟨rfl, HB5.out⟩
end Go.Proofs.YtggcjmdadomlaaaDoor
