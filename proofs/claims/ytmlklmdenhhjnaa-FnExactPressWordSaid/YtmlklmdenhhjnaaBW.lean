import Derived.Test.YtmlklmdenhhjnaaBL
namespace Go.Proofs.Ytmlklmdenhhjnaa
open Go.RowKit
set_option maxHeartbeats 400000
/-- A word of at most 200 buttons. -/
def wordB (n m : Nat) (f : Nat → Int) : Bool := decide (m ≤ 200) && allB m f 0 (n - 1)
theorem isWord_any (g n c : Nat) (own : Bool) (A : Option Addr) (m mc : Nat) (f : Nat → Int) (w : World) (hn : n ≤ 1048576) (hm : m ≤ 1048576) (hg : g < w.heap.size) (hs : Src w A m (iv f)) :
    Calls Try.prog 76 #[.agg #[.slice (some ⟨g, 0, none⟩) n c, .bool own], .slice A m mc] w fun e w' => e = .returned (.bool (wordB n m f)) ∧ Below w.heap.size w w' := by
  have HS := hide hs
  clear hs
  by_cases h200 : 200 < m
  · go_enter Try.func76, Try.ntmps76
    go_wp2
    go_ret
    refine ⟨?_, by go_grown⟩
    have : wordB n m f = false := by simp [wordB]; omega
    rw [this]; rfl
  · go_enter Try.func76, Try.ntmps76
    go_wp2
    go_loopw [12] (fun i wr => ∃ k : Nat, k ≤ m ∧ i = .int .i64 k ∧ Arr wr 27 w.heap.size 2 (bx (.slice (some ⟨g, 0, none⟩) n c) (.bool own)) ∧ Below w.heap.size w wr ∧ Hid (∀ j, j < k → 0 ≤ f j ∧ f j ≤ n - 1)) (fun i _ => m - (intOf i).toNat)
    case atStart => exact ⟨0, Nat.zero_le _, rfl, Arr.box w 27 _ _, by go_grown, hide (fun j hj => absurd hj (by omega))⟩
    case round =>
      obtain ⟨k, hk, rfl, hb, hw, HK⟩ := hrel
      have c0 : wr.cell? ⟨w.heap.size, 0, none⟩ = some (.slice (some ⟨g, 0, none⟩) n c) := hb.cell (by omega)
      have c1 : wr.cell? ⟨w.heap.size, 1, none⟩ = some (.bool own) := hb.cell (by omega)
      have HB := hide hb
      have HW := hide hw
      clear hb hw
      by_cases hlt : k < m
      · obtain ⟨b, off, hA, hbl, hc0⟩ := HS.out k hlt
        have hc : wr.cell? ⟨b, off + k, none⟩ = some (.int .i64 (f k)) := (HW.out.cell (p := ⟨b, off + k, none⟩) hbl).trans hc0
        clear hc0
        subst hA
        cases hin : inB (f k) 0 (n - 1)
        · go_wp2_with (go_at_call 73; refine (isButton_any _ _ _ _ _ _ hn).mono ?_; rintro e w2 ⟨rfl, hb2⟩)
          go_ret
          refine ⟨?_, HW.out.trans (hb2.mono HW.out.size)⟩
          have : wordB n m f = false := by
            simp only [inB, decide_eq_false_iff_not] at hin
            have h2 : allB m f 0 (n - 1) = false := by
              simp only [allB, decide_eq_false_iff_not]
              exact fun h => hin (h k hlt)
            simp [wordB, h2]
          rw [this]; rfl
        · go_wp2_with (go_at_call 73; refine (isButton_any _ _ _ _ _ _ hn).mono ?_; rintro e w2 ⟨rfl, hb2⟩)
          go_roundw
          case rel =>
            have hrest : Hid (∀ j, j < k + 1 → 0 ≤ f j ∧ f j ≤ n - 1) := hide fun j hj => by
              by_cases hjk : j = k
              · subst hjk; simpa [inB] using hin
              · exact HK.out j (by omega)
            exact ⟨k + 1, by omega, by go_num, HB.out.all hb2, HW.out.trans (hb2.mono HW.out.size), hrest⟩
          case measure => simp [intOf]; omega
      · go_wp2
        go_ret
        refine ⟨?_, HW.out⟩
        have : wordB n m f = true := by
          have h2 : allB m f 0 (n - 1) = true := by
            simp only [allB, decide_eq_true_eq]
            exact fun j hj => HK.out j (by omega)
          simp [wordB, h2]; omega
        rw [this]; rfl
end Go.Proofs.Ytmlklmdenhhjnaa
