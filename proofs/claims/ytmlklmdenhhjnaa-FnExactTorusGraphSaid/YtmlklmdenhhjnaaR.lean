import Derived.Test.YtmlklmdenhhjnaaQ
namespace Go.Proofs.Ytmlklmdenhhjnaa
open Go.RowKit
set_option maxHeartbeats 400000
theorem GraphOk.congr {w : World} {n : Nat} {f f' : Nat → Int} {own : Bool} {e : Ending} {w' : World} (h : GraphOk w n f own e w') (hf : ∀ k, k < n → f k = f' k) : GraphOk w n f' own e w' := by
  obtain ⟨g, c, he, hg, ha, hb⟩ := h
  exact ⟨g, c, he, hg, ha.congr (fun k hk => by simp only [iv]; rw [hf k hk]), hb⟩
theorem gridSpec_no (r c : Int) (own : Bool) (w : World) (h : sidesB r c 1 = false) : Calls Try.prog 45 #[.int .i64 r, .int .i64 c, .bool own] w (GraphNo w) := by
  go_enter Try.func45, Try.ntmps45
  go_wp2_with (go_at_call 83; refine (grSides_any _ _ _ _ (by omega)).mono ?_; rintro e w' ⟨rfl, rfl⟩)
  refine bodyPost_ret (v := .tuple #[.agg #[.slice none 0 0, .bool false], .bool false]) (by simp [results, Try.results45, go_sem]) rfl ?_
  exact ⟨rfl, by go_grown⟩
theorem gridSpec_ok (r c n : Nat) (own : Bool) (w : World) (hrn : n = r * c) (h1 : 1 ≤ r) (h2 : 1 ≤ c) (h3 : n ≤ 16) : Calls Try.prog 45 #[.int .i64 r, .int .i64 c, .bool own] w (GraphOk w n (nv (gridF c r)) own) := by
  have hs : sidesB r c 1 = true := by
    have hr16 : r ≤ n := by rw [hrn]; exact Nat.le_mul_of_pos_right r (by omega)
    have hc16 : c ≤ n := by rw [hrn]; exact Nat.le_mul_of_pos_left c (by omega)
    have hrc : (r : Int) * (c : Int) = (n : Int) := by rw [hrn]; exact (Int.natCast_mul r c).symm
    simp only [sidesB, decide_eq_true_eq, hrc]
    omega
  have HN := hide hrn
  clear hrn
  go_enter Try.func45, Try.ntmps45
  go_wp2_with fail
  refine (grSides_any _ _ _ _ (by omega)).mono ?_
  rintro e w' ⟨rfl, rfl⟩
  go_wp2_with fail
  refine (grGrid_ok r c n own _ HN.out h1 h2 h3).mono ?_
  rintro e w1 ⟨g, cp, rfl, hg, ha, hb⟩
  simp only [World.size_alloc] at hg
  obtain ⟨hc, hf⟩ := bcell hb
  have hz := hb.size
  simp only [World.size_alloc] at hc hf hz
  have HA := hide ha
  have HB := hide (hb.mono (show w.heap.size ≤ _ by simp))
  clear ha hb
  go_wp2
  refine bodyPost_ret (v := .tuple #[.agg #[.slice (some ⟨g, 0, none⟩) n cp, .bool own], .bool true]) (by simp [results, Try.results45, go_sem, hc]) rfl ?_
  exact ⟨g, cp, rfl, by omega, (HA.out.far (by simp; omega) _).far (by simp; omega) _, by have h := (by go_grown : Below w.heap.size w _).trans HB.out; go_grown⟩

theorem pathSpec_no (a : Int) (own : Bool) (w : World) (h : inB a 1 16 = false) : Calls Try.prog 41 #[.int .i64 a, .bool own] w (GraphNo w) := by
  go_enter Try.func41, Try.ntmps41
  go_wp2_with (go_at_call 65; refine (grSize_any _ _).mono ?_; rintro e w' ⟨rfl, rfl⟩)
  refine bodyPost_ret (v := .tuple #[.agg #[.slice none 0 0, .bool false], .bool false]) (by simp [results, Try.results41, go_sem]) rfl ?_
  exact ⟨rfl, by go_grown⟩
theorem pathSpec_ok (n : Nat) (own : Bool) (w : World) (h1 : 1 ≤ n) (h3 : n ≤ 16) : Calls Try.prog 41 #[.int .i64 n, .bool own] w (GraphOk w n (nv (pathF (n - 1))) own) := by
  have hs : inB n 1 16 = true := by simp [inB]; omega
  go_enter Try.func41, Try.ntmps41
  go_wp2_with fail
  refine (grSize_any _ _).mono ?_
  rintro e w' ⟨rfl, rfl⟩
  go_wp2_with fail
  refine (grPath_any n own _ h1 h3).mono ?_
  rintro e w1 ⟨g, cp, rfl, hg, ha, hb⟩
  simp only [World.size_alloc] at hg
  obtain ⟨hc, hf⟩ := bcell hb
  have hz := hb.size
  simp only [World.size_alloc] at hc hf hz
  have HA := hide ha
  have HB := hide (hb.mono (show w.heap.size ≤ _ by simp))
  clear ha hb
  go_wp2
  refine bodyPost_ret (v := .tuple #[.agg #[.slice (some ⟨g, 0, none⟩) n cp, .bool own], .bool true]) (by simp [results, Try.results41, go_sem, hc]) rfl ?_
  exact ⟨g, cp, rfl, by omega, (HA.out.far (by simp; omega) _).far (by simp; omega) _, by have h := (by go_grown : Below w.heap.size w _).trans HB.out; go_grown⟩
theorem pathImpl_no (a : Int) (own : Bool) (w : World) (h : inB a 1 16 = false) : Calls Try.prog 42 #[.int .i64 a, .bool own] w (GraphNo w) := by
  have hs : sidesB 1 a 1 = false := by
    simp only [inB, decide_eq_false_iff_not] at h
    simp only [sidesB, decide_eq_false_iff_not]
    omega
  go_enter Try.func42, Try.ntmps42
  go_wp2_with fail
  refine (gridImpl_no _ _ _ _ hs).mono ?_
  rintro e w1 ⟨rfl, hb⟩
  obtain ⟨hc, hf⟩ := bcell hb
  have hz := hb.size
  simp only [World.size_alloc] at hc hf hz
  have HB := hide (hb.mono (show w.heap.size ≤ _ by simp))
  clear hb
  go_wp2
  refine bodyPost_ret (v := .tuple #[.agg #[.slice none 0 0, .bool false], .bool false]) (by simp [results, Try.results42, go_sem, hc]) rfl ?_
  exact ⟨rfl, by have h := (by go_grown : Below w.heap.size w _).trans HB.out; go_grown⟩
theorem pathImpl_ok (n : Nat) (own : Bool) (w : World) (h1 : 1 ≤ n) (h3 : n ≤ 16) : Calls Try.prog 42 #[.int .i64 n, .bool own] w (GraphOk w n (nv (pathF (n - 1))) own) := by
  go_enter Try.func42, Try.ntmps42
  go_wp2_with fail
  refine (gridImpl_at 1 n n _ _ _ _ rfl rfl (by omega) (by omega) h1 h3).mono ?_
  rintro e w1 ⟨g, cp, rfl, hg, ha, hb⟩
  simp only [World.size_alloc] at hg
  obtain ⟨hc, hf⟩ := bcell hb
  have hz := hb.size
  simp only [World.size_alloc] at hc hf hz
  have HA := hide (ha.congr (f' := iv (nv (pathF (n - 1)))) (fun k hk => by simp only [iv, nv]; rw [path_same n (by omega) k hk]))
  have HB := hide (hb.mono (show w.heap.size ≤ _ by simp))
  clear ha hb
  go_wp2
  refine bodyPost_ret (v := .tuple #[.agg #[.slice (some ⟨g, 0, none⟩) n cp, .bool own], .bool true]) (by simp [results, Try.results42, go_sem, hc]) rfl ?_
  exact ⟨g, cp, rfl, by omega, (HA.out.far (by simp; omega) _).far (by simp; omega) _, by have h := (by go_grown : Below w.heap.size w _).trans HB.out; go_grown⟩
end Go.Proofs.Ytmlklmdenhhjnaa
