import Derived.Test.YtmlklmdenhhjnaaR
namespace Go.Proofs.Ytmlklmdenhhjnaa
open Go.RowKit
theorem lawPath (a : Int) (own : Bool) (w : World) : Calls Try.prog 9 #[.int .i64 a, .bool own] w fun e w' => e = .returned (.bool true) ∧ Below w.heap.size w w' := by
  cases h : inB a 1 16
  · exact lawPath_no a own w (fun w => pathSpec_no a own w h) (fun w => pathImpl_no a own w h)
  · simp only [inB, decide_eq_true_eq] at h
    obtain ⟨n, rfl⟩ : ∃ n : Nat, a = n := ⟨a.toNat, by omega⟩
    exact lawPath_ok n own n _ own w (by omega) (fun w => pathSpec_ok n own w (by omega) (by omega)) (fun w => pathImpl_ok n own w (by omega) (by omega))
theorem lawGrid (a b : Int) (own : Bool) (w : World) : Calls Try.prog 11 #[.int .i64 a, .int .i64 b, .bool own] w fun e w' => e = .returned (.bool true) ∧ Below w.heap.size w w' := by
  cases h : sidesB a b 1
  · exact lawGrid_no a b own w (fun w => gridSpec_no a b own w h) (fun w => gridImpl_no a b own w h)
  · simp only [sidesB, decide_eq_true_eq] at h
    obtain ⟨r, rfl⟩ : ∃ n : Nat, a = n := ⟨a.toNat, by omega⟩
    obtain ⟨c, rfl⟩ : ∃ n : Nat, b = n := ⟨b.toNat, by omega⟩
    have h16 : r * c ≤ 16 := by
      have := h.2.2.2.2
      rw [← Int.natCast_mul] at this
      omega
    exact lawGrid_ok r c own (r * c) _ own w (by omega) (fun w => gridSpec_ok r c (r * c) own w rfl (by omega) (by omega) h16)
      (fun w => (gridImpl_ok r c (r * c) own w rfl (by omega) (by omega) h16).mono fun e w' hh => GraphOk.congr hh (fun k hk => by simp only [nv]; rw [grid_same r (by omega) c (by omega) h16 k hk]))
end Go.Proofs.Ytmlklmdenhhjnaa
