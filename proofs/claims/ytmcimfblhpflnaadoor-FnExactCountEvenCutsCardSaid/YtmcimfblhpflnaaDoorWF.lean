import Derived.Test.YtmcimfblhpflnaaDoorWE
namespace Go.Proofs.YtmcimfblhpflnaaDoor
open Go.RowKit
set_option maxHeartbeats 2000000
theorem onesFree (x : Int) (w : World) : Calls Tryd.prog 98 #[.int .u64 x] w fun e w' => (∃ v : Int, e = .returned (.int .i64 v)) ∧ w' = w := by
  go_enter Tryd.func98, Tryd.ntmps98
  go_wp2
  go_ret
  exact ⟨⟨_, rfl⟩, rfl⟩
theorem ones88Free (x : Int) (w : World) : Calls Tryd.prog 78 #[.int .u64 x] w fun e w' => (∃ v : Int, e = .returned (.int .i64 v)) ∧ w' = w := by
  go_enter Tryd.func78, Tryd.ntmps78
  go_wp2_with (go_at_call 98; refine (onesFree _ _).mono ?_; rintro e w3 ⟨⟨v, rfl⟩, rfl⟩)
  go_ret
  exact ⟨⟨_, rfl⟩, rfl⟩
theorem sizeFree (x : Int) (w : World) : Calls Tryd.prog 55 #[.int .i64 x] w fun e w' => (∃ v : Int, e = .returned (.int .i64 v)) ∧ w' = w := by
  go_enter Tryd.func55, Tryd.ntmps55
  go_wp2_with (go_at_call 78; refine (ones88Free _ _).mono ?_; rintro e w3 ⟨⟨v, rfl⟩, rfl⟩)
  go_ret
  exact ⟨⟨_, rfl⟩, rfl⟩
theorem oddFree (g n c : Nat) (f : Nat → Int) (own : Bool) (w : World) (hn : n ≤ 1048576) (ha : Arr w 3 g n (iv f)) :
    Calls Tryd.prog 93 #[.agg #[.slice (some ⟨g, 0, none⟩) n c, .bool own]] w fun e w' => ∃ v : Int, e = .returned (.int .i64 v) ∧ Below w.heap.size w w' := by
  have HA := hide (ha.alloc (.cells #[.slice (some ⟨g, 0, none⟩) n c, .bool own] 28))
  have hgl := ha.lt
  clear ha
  go_enter Tryd.func93, Tryd.ntmps93
  go_wp2
  go_loop [3, 9] (fun t i => ∃ (k : Nat) (o : Int), k ≤ n ∧ i = .int .i64 k ∧ t = .int .i64 o) (fun _ i => n - (intOf i).toNat)
  case atStart => exact ⟨0, 0, by omega, rfl, rfl⟩
  case round =>
    obtain ⟨k, o, hk, rfl, rfl⟩ := hrel
    by_cases hlt : k < n
    · have hc := HA.out.cell hlt
      simp only [iv] at hc
      go_wp2_with (go_at_call 55; refine (sizeFree _ _).mono ?_; rintro e w3 ⟨⟨v, rfl⟩, rfl⟩)
      go_round
      case rel => exact ⟨k + 1, _, by omega, by go_num, rfl⟩
      case measure => simp [intOf]; omega
    · have hkn : k = n := by omega
      subst hkn
      go_wp2
      go_ret
      exact ⟨⟨_, rfl⟩, by go_grown⟩
theorem goodB_F {n : Nat} {F : Nat → Nat} (hn : n ≤ 16) (hF : ∀ j, j < n → F j < 2 ^ n) : ∀ j, j < n → F j < 65536 := fun j hj => Nat.lt_of_lt_of_le (hF j hj) (pow16n hn)
theorem spT_lt {n : Nat} {F : Nat → Nat} {d : Nat} (hF : ∀ j, j < n → F j < 2 ^ n) (hd : d < 2 ^ n) : ∀ j, j < n → spT F d j < 2 ^ n := fun j hj => Nat.or_lt_two_pow (hF j hj) (Nat.lt_of_le_of_lt Nat.and_le_left hd)
/-! ### splits of a graph -/
theorem countSplits_no (g n c : Nat) (f : Nat → Int) (own : Bool) (d : Int) (w : World) (hn : n ≤ 1048576) (hgd : goodB n f = false) (ha : Arr w 3 g n (iv f)) :
    Calls Tryd.prog 92 #[.agg #[.slice (some ⟨g, 0, none⟩) n c, .bool own], .int .i64 d] w (Two w (.int .i64 0) false) := by
  have HA := hide ha
  have HG := hide hgd
  clear ha hgd
  go_enter Tryd.func92, Tryd.ntmps92
  go_wp2_with fail
  refine (isGraph_any _ _ _ f _ _ hn (HA.out.alloc _)).mono ?_
  rintro e w1 ⟨rfl, hb1⟩
  simp only [HG.out]
  have HB1 := hide ((by go_grown : Below w.heap.size w _).trans (hb1.mono (by simp)))
  clear hb1
  go_wp2
  go_ret2
  exact ⟨rfl, HB1.out⟩
theorem countSplits_ok (g n c : Nat) (F : Nat → Nat) (own : Bool) (d : Nat) (w : World) (hn : n ≤ 16) (hF : ∀ j, j < n → F j < 2 ^ n) (hd : d < 2 ^ n) (hgd : goodB n (nv F) = true) (ha : Arr w 3 g n (iv (nv F))) :
    Calls Tryd.prog 92 #[.agg #[.slice (some ⟨g, 0, none⟩) n c, .bool own], .int .i64 d] w (Two w (.int .i64 (2 ^ (qS (spT F d) n n).1.length : Nat)) true) := by
  have HA := hide ha
  have HG := hide hgd
  have HF16 := hide (goodB_F hn hF)
  have HT := hide (spT_lt hF hd)
  have hd16 : d < 65536 := Nat.lt_of_lt_of_le hd (pow16n hn)
  have hl := quiet_length (n := n) (T := spT F d)
  clear ha hgd hF
  go_enter Tryd.func92, Tryd.ntmps92
  go_wp2_with fail
  refine (isGraph_any _ _ _ (nv F) _ _ (by omega) (HA.out.alloc _)).mono ?_
  rintro e w1 ⟨rfl, hb1⟩
  simp only [HG.out]
  have hp := (Arr.box w 28 (.slice (some ⟨g, 0, none⟩) n c) (.bool own)).all hb1
  have c0 : w1.cell? ⟨w.heap.size, 0, none⟩ = some (.slice (some ⟨g, 0, none⟩) n c) := hp.cell (by omega)
  have c1 : w1.cell? ⟨w.heap.size, 1, none⟩ = some (.bool own) := hp.cell (by omega)
  have HA1 := hide ((HA.out.alloc _).all hb1)
  have HB1 := hide ((by go_grown : Below w.heap.size w _).trans (hb1.mono (by simp)))
  clear hb1 hp
  go_wp2_with fail
  refine (split_any _ _ _ F own d _ hn HF16.out hd16 HA1.out).mono ?_
  rintro e w2 ⟨g2, rfl, ha2, hb2⟩
  have HA2 := hide ha2
  have HB2 := hide (HB1.out.trans (hb2.mono HB1.out.size))
  clear ha2 hb2 c0 c1
  go_wp2_with fail
  refine (quietAndImage_any _ _ _ (spT F d) _ hn HT.out HA2.out).mono ?_
  rintro e w3 ⟨A1, A2, n1, n2, d1, d2, rfl, hq1, hq2, _, _, hb3⟩
  have HB3 := hide (HB2.out.trans (hb3.mono HB2.out.size))
  have hn1 : n1 ≤ 16 := by omega
  have ew := wrap_pow16 hn1
  have HQ := hide hq1
  clear hb3 hl hq2 hq1
  go_wp2
  go_ret2
  exact ⟨by rw [HQ.out, ← ew]; rfl, HB3.out⟩
end Go.Proofs.YtmcimfblhpflnaaDoor
