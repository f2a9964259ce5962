import Derived.Test.YtcpbbpgiicakcaaWE
namespace Go.Proofs.Ytcpbbpgiicakcaa
open Go.RowKit
set_option maxHeartbeats 2000000
theorem onesFree (x : Int) (w : World) : Calls Try.prog 97 #[.int .u64 x] w fun e w' => (∃ v : Int, e = .returned (.int .i64 v)) ∧ w' = w := by
  go_enter Try.func97, Try.ntmps97
  go_wp2
  go_ret
  exact ⟨⟨_, rfl⟩, rfl⟩
theorem ones88Free (x : Int) (w : World) : Calls Try.prog 88 #[.int .u64 x] w fun e w' => (∃ v : Int, e = .returned (.int .i64 v)) ∧ w' = w := by
  go_enter Try.func88, Try.ntmps88
  go_wp2_with (go_at_call 97; refine (onesFree _ _).mono ?_; rintro e w3 ⟨⟨v, rfl⟩, rfl⟩)
  go_ret
  exact ⟨⟨_, rfl⟩, rfl⟩
theorem sizeFree (x : Int) (w : World) : Calls Try.prog 73 #[.int .i64 x] w fun e w' => (∃ v : Int, e = .returned (.int .i64 v)) ∧ w' = w := by
  go_enter Try.func73, Try.ntmps73
  go_wp2_with (go_at_call 88; refine (ones88Free _ _).mono ?_; rintro e w3 ⟨⟨v, rfl⟩, rfl⟩)
  go_ret
  exact ⟨⟨_, rfl⟩, rfl⟩
theorem oddFree (g n c : Nat) (f : Nat → Int) (own : Bool) (w : World) (hn : n ≤ 1048576) (ha : Arr w 3 g n (iv f)) :
    Calls Try.prog 47 #[.agg #[.slice (some ⟨g, 0, none⟩) n c, .bool own]] w fun e w' => ∃ v : Int, e = .returned (.int .i64 v) ∧ Below w.heap.size w w' := by
  have HA := hide (ha.alloc (.cells #[.slice (some ⟨g, 0, none⟩) n c, .bool own] 28))
  have hgl := ha.lt
  clear ha
  go_enter Try.func47, Try.ntmps47
  go_wp2
  go_loop [3, 9] (fun t i => ∃ (k : Nat) (o : Int), k ≤ n ∧ i = .int .i64 k ∧ t = .int .i64 o) (fun _ i => n - (intOf i).toNat)
  case atStart => exact ⟨0, 0, by omega, rfl, rfl⟩
  case round =>
    obtain ⟨k, o, hk, rfl, rfl⟩ := hrel
    by_cases hlt : k < n
    · have hc := HA.out.cell hlt
      simp only [iv] at hc
      go_wp2_with (go_at_call 73; refine (sizeFree _ _).mono ?_; rintro e w3 ⟨⟨v, rfl⟩, rfl⟩)
      go_round
      case rel => exact ⟨k + 1, _, by omega, by go_num, rfl⟩
      case measure => simp [intOf]; omega
    · have hkn : k = n := by omega
      subst hkn
      go_wp2
      go_ret
      exact ⟨⟨_, rfl⟩, by go_grown⟩
theorem evenFree (g n c : Nat) (f : Nat → Int) (own : Bool) (w : World) (hn : n ≤ 1048576) (ha : Arr w 3 g n (iv f)) :
    Calls Try.prog 48 #[.agg #[.slice (some ⟨g, 0, none⟩) n c, .bool own]] w fun e w' => ∃ v : Int, e = .returned (.int .i64 v) ∧ Below w.heap.size w w' := by
  have HA := hide (ha.alloc (.cells #[.slice (some ⟨g, 0, none⟩) n c, .bool own] 28))
  have KK : Hid ((w.alloc (.cells #[.slice (some ⟨g, 0, none⟩) n c, .bool own] 28)).drew.cell? ⟨w.heap.size, 0, none⟩ = some (.slice (some ⟨g, 0, none⟩) n c) ∧ (w.alloc (.cells #[.slice (some ⟨g, 0, none⟩) n c, .bool own] 28)).drew.cell? ⟨w.heap.size, 1, none⟩ = some (.bool own)) := hide ⟨by simp [go_sem], by simp [go_sem]⟩
  clear ha
  go_enter Try.func48, Try.ntmps48
  go_wp2
  go_region_held3 (fun w' => w'.cell? ⟨w.heap.size, 0, none⟩ = some (.slice (some ⟨g, 0, none⟩) n c) ∧ w'.cell? ⟨w.heap.size, 1, none⟩ = some (.bool own)) (first | exact KK.out | exact two_below (by assumption) KK.out) ((go_at_call 47; refine (oddFree _ _ _ f own _ hn (by exact HA.out.drew)).mono ?_; rintro e w3 ⟨v, rfl, hb3⟩))
  have HB := hide (((by go_grown : Below w.heap.size w (w.alloc (.cells #[.slice (some ⟨g, 0, none⟩) n c, .bool own] 28)).drew)).trans (hb3.mono (by simp)))
  clear hb3 KK
  go_wp2
  go_ret
  exact ⟨_, rfl, HB.out⟩
theorem goodB_F {n : Nat} {F : Nat → Nat} (hn : n ≤ 16) (hF : ∀ j, j < n → F j < 2 ^ n) : ∀ j, j < n → F j < 65536 := fun j hj => Nat.lt_of_lt_of_le (hF j hj) (pow16n hn)
theorem spT_lt {n : Nat} {F : Nat → Nat} {d : Nat} (hF : ∀ j, j < n → F j < 2 ^ n) (hd : d < 2 ^ n) : ∀ j, j < n → spT F d j < 2 ^ n := fun j hj => Nat.or_lt_two_pow (hF j hj) (Nat.lt_of_le_of_lt Nat.and_le_left hd)
/-! ### splits of a graph -/
theorem leastSplit_no (g n c : Nat) (f : Nat → Int) (own : Bool) (d : Int) (w : World) (hn : n ≤ 1048576) (hgd : goodB n f = false) (ha : Arr w 3 g n (iv f)) :
    Calls Try.prog 46 #[.agg #[.slice (some ⟨g, 0, none⟩) n c, .bool own], .int .i64 d] w (Two w (.int .i64 0) false) := by
  have HA := hide ha
  have HG := hide hgd
  clear ha hgd
  go_enter Try.func46, Try.ntmps46
  go_wp2_with fail
  refine (isGraph_any _ _ _ f _ _ hn (HA.out.alloc _)).mono ?_
  rintro e w1 ⟨rfl, hb1⟩
  simp only [HG.out]
  have HB1 := hide ((by go_grown : Below w.heap.size w _).trans (hb1.mono (by simp)))
  clear hb1
  go_wp2
  go_ret2
  exact ⟨rfl, HB1.out⟩
theorem leastSplit_ok (g n c : Nat) (F : Nat → Nat) (own : Bool) (d : Nat) (w : World) (hn : n ≤ 16) (hF : ∀ j, j < n → F j < 2 ^ n) (hd : d < 2 ^ n) (hgd : goodB n (nv F) = true) (ha : Arr w 3 g n (iv (nv F))) :
    Calls Try.prog 46 #[.agg #[.slice (some ⟨g, 0, none⟩) n c, .bool own], .int .i64 d] w (Two w (.int .i64 (solV (spT F d) n d : Nat)) (solB (spT F d) n d)) := by
  have HA := hide ha
  have HG := hide hgd
  have HF16 := hide (goodB_F hn hF)
  have HT := hide (spT_lt hF hd)
  have hd16 : d < 65536 := Nat.lt_of_lt_of_le hd (pow16n hn)
  clear ha hgd hF
  go_enter Try.func46, Try.ntmps46
  go_wp2_with fail
  refine (isGraph_any _ _ _ (nv F) _ _ (by omega) (HA.out.alloc _)).mono ?_
  rintro e w1 ⟨rfl, hb1⟩
  simp only [HG.out]
  have hp := (Arr.box w 28 (.slice (some ⟨g, 0, none⟩) n c) (.bool own)).all hb1
  have c0 : w1.cell? ⟨w.heap.size, 0, none⟩ = some (.slice (some ⟨g, 0, none⟩) n c) := hp.cell (by omega)
  have c1 : w1.cell? ⟨w.heap.size, 1, none⟩ = some (.bool own) := hp.cell (by omega)
  have HA1 := hide ((HA.out.alloc _).all hb1)
  have HB1 := hide ((by go_grown : Below w.heap.size w _).trans (hb1.mono (by simp)))
  clear hb1 hp
  go_wp2_with fail
  refine (split_any _ _ _ F own d _ hn HF16.out hd16 HA1.out).mono ?_
  rintro e w2 ⟨g2, rfl, ha2, hb2⟩
  have HA2 := hide ha2
  have HB2 := hide (HB1.out.trans (hb2.mono HB1.out.size))
  clear ha2 hb2 c0 c1
  go_wp2_with fail
  refine (least_any _ _ _ (spT F d) d _ hn HT.out hd HA2.out).mono ?_
  rintro e w3 ⟨rfl, hb3⟩
  have HB3 := hide (HB2.out.trans (hb3.mono HB2.out.size))
  clear hb3
  go_wp2
  go_ret2
  exact ⟨rfl, HB3.out⟩
theorem countSplits_no (g n c : Nat) (f : Nat → Int) (own : Bool) (d : Int) (w : World) (hn : n ≤ 1048576) (hgd : goodB n f = false) (ha : Arr w 3 g n (iv f)) :
    Calls Try.prog 49 #[.agg #[.slice (some ⟨g, 0, none⟩) n c, .bool own], .int .i64 d] w (Two w (.int .i64 0) false) := by
  have HA := hide ha
  have HG := hide hgd
  clear ha hgd
  go_enter Try.func49, Try.ntmps49
  go_wp2_with fail
  refine (isGraph_any _ _ _ f _ _ hn (HA.out.alloc _)).mono ?_
  rintro e w1 ⟨rfl, hb1⟩
  simp only [HG.out]
  have HB1 := hide ((by go_grown : Below w.heap.size w _).trans (hb1.mono (by simp)))
  clear hb1
  go_wp2
  go_ret2
  exact ⟨rfl, HB1.out⟩
theorem countSplits_ok (g n c : Nat) (F : Nat → Nat) (own : Bool) (d : Nat) (w : World) (hn : n ≤ 16) (hF : ∀ j, j < n → F j < 2 ^ n) (hd : d < 2 ^ n) (hgd : goodB n (nv F) = true) (ha : Arr w 3 g n (iv (nv F))) :
    Calls Try.prog 49 #[.agg #[.slice (some ⟨g, 0, none⟩) n c, .bool own], .int .i64 d] w (Two w (.int .i64 (2 ^ (qS (spT F d) n n).1.length : Nat)) true) := by
  have HA := hide ha
  have HG := hide hgd
  have HF16 := hide (goodB_F hn hF)
  have HT := hide (spT_lt hF hd)
  have hd16 : d < 65536 := Nat.lt_of_lt_of_le hd (pow16n hn)
  have hl := quiet_length (n := n) (T := spT F d)
  clear ha hgd hF
  go_enter Try.func49, Try.ntmps49
  go_wp2_with fail
  refine (isGraph_any _ _ _ (nv F) _ _ (by omega) (HA.out.alloc _)).mono ?_
  rintro e w1 ⟨rfl, hb1⟩
  simp only [HG.out]
  have hp := (Arr.box w 28 (.slice (some ⟨g, 0, none⟩) n c) (.bool own)).all hb1
  have c0 : w1.cell? ⟨w.heap.size, 0, none⟩ = some (.slice (some ⟨g, 0, none⟩) n c) := hp.cell (by omega)
  have c1 : w1.cell? ⟨w.heap.size, 1, none⟩ = some (.bool own) := hp.cell (by omega)
  have HA1 := hide ((HA.out.alloc _).all hb1)
  have HB1 := hide ((by go_grown : Below w.heap.size w _).trans (hb1.mono (by simp)))
  clear hb1 hp
  go_wp2_with fail
  refine (split_any _ _ _ F own d _ hn HF16.out hd16 HA1.out).mono ?_
  rintro e w2 ⟨g2, rfl, ha2, hb2⟩
  have HA2 := hide ha2
  have HB2 := hide (HB1.out.trans (hb2.mono HB1.out.size))
  clear ha2 hb2 c0 c1
  go_wp2_with fail
  refine (quietAndImage_any _ _ _ (spT F d) _ hn HT.out HA2.out).mono ?_
  rintro e w3 ⟨A1, A2, n1, n2, d1, d2, rfl, hq1, hq2, _, _, hb3⟩
  have HB3 := hide (HB2.out.trans (hb3.mono HB2.out.size))
  have hn1 : n1 ≤ 16 := by omega
  have ew := wrap_pow16 hn1
  have HQ := hide hq1
  clear hb3 hl hq2 hq1
  go_wp2
  go_ret2
  exact ⟨by rw [HQ.out, ← ew]; rfl, HB3.out⟩
end Go.Proofs.Ytcpbbpgiicakcaa
