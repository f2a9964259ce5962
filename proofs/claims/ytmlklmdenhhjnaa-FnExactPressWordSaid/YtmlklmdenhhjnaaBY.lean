import Derived.Test.YtmlklmdenhhjnaaBX
namespace Go.Proofs.Ytmlklmdenhhjnaa
open Go.RowKit
set_option maxHeartbeats 400000
theorem wordImpl_no (g n c : Nat) (f : Nat → Int) (own : Bool) (s : Int) (A : Option Addr) (m mc : Nat) (v : Nat → Int) (w : World) (hn : n ≤ 1048576) (hm : m ≤ 1048576) (hno : (setB n f s && wordB n m v) = false) (ha : Arr w 3 g n (iv f)) (hs : Src w A m (iv v)) :
    Calls Try.prog 39 #[.agg #[.slice (some ⟨g, 0, none⟩) n c, .bool own], .int .i64 s, .slice A m mc] w (Pair w 0 false) := by
  have HA := hide ha
  have HS := hide hs
  clear ha hs
  cases hgd : goodB n f
  · clear hno
    go_enter Try.func39, Try.ntmps39
    go_wp2_with fail
    refine (isGraph_any _ _ _ f _ _ hn (HA.out.alloc _)).mono ?_
    rintro e w1 ⟨rfl, hb1⟩
    go_wp2
    go_ret2
    exact ⟨rfl, (by go_grown : Below w.heap.size w _).trans (hb1.mono (by simp))⟩
  · have hn16 := (goodB_iff.1 hgd).n16
    have hgl := HA.out.lt
    cases hin : inB s 0 (2 ^ n - 1)
    · clear hno
      go_enter Try.func39, Try.ntmps39
      go_wp2_with fail
      refine (isGraph_any _ _ _ f _ _ hn (HA.out.alloc _)).mono ?_
      rintro e w1 ⟨rfl, hb1⟩
      have hp := (Arr.box w 27 (.slice (some ⟨g, 0, none⟩) n c) (.bool own)).all hb1
      have c0 : w1.cell? ⟨w.heap.size, 0, none⟩ = some (.slice (some ⟨g, 0, none⟩) n c) := hp.cell (by omega)
      have c1 : w1.cell? ⟨w.heap.size, 1, none⟩ = some (.bool own) := hp.cell (by omega)
      have HB := hide ((by go_grown : Below w.heap.size w _).trans (hb1.mono (by simp)))
      clear hb1 hp
      go_wp2_with fail
      refine (isSet_any _ _ _ _ _ _ hn16).mono ?_
      rintro e w2 ⟨rfl, hb2⟩
      go_wp2
      go_ret2
      exact ⟨rfl, HB.out.trans (hb2.mono HB.out.size)⟩
    · have hw : wordB n m v = false := by simpa [setB, hgd, hin] using hno
      clear hno
      go_enter Try.func39, Try.ntmps39
      go_wp2_with fail
      refine (isGraph_any _ _ _ f _ _ hn (HA.out.alloc _)).mono ?_
      rintro e w1 ⟨rfl, hb1⟩
      have hp := (Arr.box w 27 (.slice (some ⟨g, 0, none⟩) n c) (.bool own)).all hb1
      have c0 : w1.cell? ⟨w.heap.size, 0, none⟩ = some (.slice (some ⟨g, 0, none⟩) n c) := hp.cell (by omega)
      have c1 : w1.cell? ⟨w.heap.size, 1, none⟩ = some (.bool own) := hp.cell (by omega)
      have HX := hide hp
      have HB := hide ((by go_grown : Below w.heap.size w _).trans (hb1.mono (by simp)))
      clear hb1 hp
      go_wp2_with fail
      refine (isSet_any _ _ _ _ _ _ hn16).mono ?_
      rintro e w2 ⟨rfl, hb2⟩
      have hp := HX.out.all hb2
      have d0 : w2.cell? ⟨w.heap.size, 0, none⟩ = some (.slice (some ⟨g, 0, none⟩) n c) := hp.cell (by omega)
      have d1 : w2.cell? ⟨w.heap.size, 1, none⟩ = some (.bool own) := hp.cell (by omega)
      have HB2 := hide (HB.out.trans (hb2.mono HB.out.size))
      have HS2 := hide (HS.out.below HB2.out)
      have hg2 : g < w2.heap.size := Nat.lt_of_lt_of_le hgl HB2.out.size
      clear hb2 hp c0 c1
      go_wp2_with fail
      refine (isWord_any _ _ _ _ _ _ _ v _ hn hm hg2 HS2.out).mono ?_
      rintro e w3 ⟨rfl, hb3⟩
      go_wp2
      go_ret2
      exact ⟨rfl, HB2.out.trans (hb3.mono HB2.out.size)⟩
theorem board_zero : bd (.slice none 0 0) (.bool false) (fun _ => false) = #[.slice none 0 0, .bool false, .bool false, .bool false, .bool false, .bool false, .bool false, .bool false, .bool false, .bool false, .bool false, .bool false, .bool false, .bool false, .bool false, .bool false, .bool false, .bool false] := rfl
theorem wordImpl_ok (g n c : Nat) (F : Nat → Nat) (own : Bool) (s : Nat) (A : Option Addr) (m mc : Nat) (V : Nat → Nat) (w : World) (hn : n ≤ 16) (hm : m ≤ 200) (hs : s < 2 ^ n) (hF : ∀ j, j < n → F j < 2 ^ n) (hV : ∀ j, j < m → V j < n) (hgd : goodB n (nv F) = true) (hin : inB s 0 (2 ^ n - 1) = true) (hwd : wordB n m (nv V) = true) (ha : Arr w 3 g n (iv (nv F))) (hsrc : Src w A m (iv (nv V))) :
    Calls Try.prog 39 #[.agg #[.slice (some ⟨g, 0, none⟩) n c, .bool own], .int .i64 s, .slice A m mc] w (Pair w (pw F own V s m : Nat) true) := by
  have h16 : (2 : Nat) ^ n ≤ 65536 := Nat.pow_le_pow_right (n := 2) (by decide) hn
  have hgl := ha.lt
  have HA := hide ha
  have HS := hide hsrc
  have HF := hide hF
  have HV := hide hV
  have HP := hide (pw_lt (own := own) hs hF hV)
  have HSS := hide hs
  clear ha hsrc hF hV hs
  go_enter Try.func39, Try.ntmps39
  go_wp2_with fail
  refine (isGraph_any _ _ _ (nv F) _ _ (by omega) (HA.out.alloc _)).mono ?_
  rintro e w1 ⟨rfl, hb1⟩
  have hp := (Arr.box w 27 (.slice (some ⟨g, 0, none⟩) n c) (.bool own)).all hb1
  have c0 : w1.cell? ⟨w.heap.size, 0, none⟩ = some (.slice (some ⟨g, 0, none⟩) n c) := hp.cell (by omega)
  have c1 : w1.cell? ⟨w.heap.size, 1, none⟩ = some (.bool own) := hp.cell (by omega)
  have HX := hide hp
  have HB := hide ((by go_grown : Below w.heap.size w _).trans (hb1.mono (by simp)))
  clear hb1 hp
  go_wp2_with fail
  refine (isSet_any _ _ _ _ _ _ hn).mono ?_
  rintro e w2 ⟨rfl, hb2⟩
  have hp := HX.out.all hb2
  have d0 : w2.cell? ⟨w.heap.size, 0, none⟩ = some (.slice (some ⟨g, 0, none⟩) n c) := hp.cell (by omega)
  have d1 : w2.cell? ⟨w.heap.size, 1, none⟩ = some (.bool own) := hp.cell (by omega)
  have HX2 := hide hp
  have HB2 := hide (HB.out.trans (hb2.mono HB.out.size))
  have HS2 := hide (HS.out.below HB2.out)
  have hg2 : g < w2.heap.size := Nat.lt_of_lt_of_le hgl HB2.out.size
  clear hb2 hp c0 c1
  go_wp2_with fail
  refine (isWord_any _ _ _ _ _ _ _ (nv V) _ (by omega) (by omega) hg2 HS2.out).mono ?_
  rintro e w3 ⟨rfl, hb3⟩
  have hp := HX2.out.all hb3
  have c0 : w3.cell? ⟨w.heap.size, 0, none⟩ = some (.slice (some ⟨g, 0, none⟩) n c) := hp.cell (by omega)
  have c1 : w3.cell? ⟨w.heap.size, 1, none⟩ = some (.bool own) := hp.cell (by omega)
  have HB3 := hide (HB2.out.trans (hb3.mono HB2.out.size))
  have hg3 : g < w3.heap.size := Nat.lt_of_lt_of_le hgl HB3.out.size
  clear hb3 hp d0 d1
  go_wp2_with fail
  refine (boardWith_any _ _ _ _ _ _ hn HSS.out hg3).mono ?_
  rintro e w4 ⟨L0, rfl, hL0, hb4⟩
  have HL0 := hide hL0
  have HB4 := hide (HB3.out.trans (hb4.mono HB3.out.size))
  have HA4 := hide ((HA.out.below HB4.out hgl))
  have HS4 := hide (HS.out.below HB4.out)
  have hg4 : g < w4.heap.size := Nat.lt_of_lt_of_le hgl HB4.out.size
  have hsz := HB4.out.size
  clear hb4 hL0 c0 c1
  go_wp2_with (with_reducible refine wpList_store_board rfl (.tmp 8) (.tmp 28) rfl w4.heap.size _ _ L0 rfl rfl rfl rfl (.slice none 0 0) (.bool false) (fun _ => false) (Blk.new w4 72 _ rfl) ?_)
  go_loopw [31] (fun i wr => ∃ k : Nat, k ≤ m ∧ i = .int .i64 k ∧ (∃ L, Blk wr 72 w4.heap.size (bd (.slice (some ⟨g, 0, none⟩) n c) (.bool own) L) ∧ Hid (∀ j, j < 16 → L j = (pw F own V s k).testBit j)) ∧ Below w4.heap.size w4 wr) (fun i _ => m - (intOf i).toNat)
  case atStart => exact ⟨0, by omega, rfl, ⟨L0, Blk.row (Blk.new w4 72 _ rfl) _, HL0⟩, below_row (by go_grown) (by omega) _⟩
  case round =>
    obtain ⟨k, hk, rfl, ⟨L, hbk, HL⟩, hb⟩ := hrel
    have HAr := hide (HA4.out.all hb)
    have HSr := hide (HS4.out.below hb)
    have hbl := hbk.lt
    have HBK := hide hbk
    have HBr := hide hb
    clear hb hbk
    by_cases hlt : k < m
    · obtain ⟨b, off, hA, hbl, hc0⟩ := HSr.out k hlt
      have hc : wr.cell? ⟨b, off + k, none⟩ = some (.int .i64 (V k : Nat)) := hc0
      clear hc0
      subst hA
      have hvk := HV.out k hlt
      go_wp2_with fail
      refine (press_any _ _ _ _ _ F L _ _ hn hvk (by have := HF.out _ hvk; omega) HBK.out HAr.out).mono ?_
      rintro e w5 ⟨rfl, ⟨L', hbk', hL'⟩, hg5⟩
      have HL' : Hid (∀ j, j < 16 → L' j = (pw F own V s (k + 1)).testBit j) := hide fun j hj => by
        rw [hL' j]
        show pressL L (tog F own (V k)) n j = (pw F own V s k ^^^ tog F own (V k)).testBit j
        rw [Nat.testBit_xor, ← HL.out j hj]
        unfold pressL
        by_cases hjn : j < n
        · rw [if_pos hjn]
        · rw [if_neg hjn, bit_above (tog_lt_pow hvk (HF.out _ hvk)) (show n ≤ j by omega)]
          simp
      clear hL'
      go_wp2
      go_roundw
      case rel => exact ⟨k + 1, by omega, by go_num, ⟨L', hbk', HL'⟩, HBr.out.grown hg5 HBr.out.size (fun j hj => by injection hj; omega)⟩
      case measure => simp [intOf]; omega
    · have hkm : k = m := by omega
      subst hkm
      go_wp2_with fail
      refine (lit_any _ _ _ L _ HBK.out).mono ?_
      rintro e w5 ⟨rfl, rfl⟩
      rw [litN_eq L (pw F own V s k) (by have := HP.out k (Nat.le_refl _); omega) HL.out]
      go_wp2
      go_ret2
      exact ⟨rfl, HB4.out.trans (HBr.out.mono hsz)⟩
end Go.Proofs.Ytmlklmdenhhjnaa
