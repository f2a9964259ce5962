import Derived.Test.YtcpbbpgiicakcaaGN
namespace Go.Proofs.Ytcpbbpgiicakcaa
open Go.RowKit
set_option maxHeartbeats 1000000
/-- Is s a set of buttons of a graph? -/
noncomputable def setB (n : Nat) (f : Nat → Int) (s : Int) : Bool := goodB n f && inB s 0 (2 ^ n - 1)
theorem Good.n16 {n : Nat} {f : Nat → Int} (h : Good n f) : n ≤ 16 := h.2.1
theorem grSet_any (g n c : Nat) (f : Nat → Int) (own : Bool) (i : Int) (w : World) (hn : n ≤ 1048576) (ha : Arr w 3 g n (iv f)) :
    Calls Try.prog 57 #[.agg #[.slice (some ⟨g, 0, none⟩) n c, .bool own], .int .i64 i] w fun e w' => e = .returned (.bool (setB n f i)) ∧ Below w.heap.size w w' := by
  have HA := hide ha
  clear ha
  cases hgd : goodB n f
  · go_enter Try.func57, Try.ntmps57
    go_wp2_with fail
    refine (grGood_any _ _ _ f _ _ hn (HA.out.alloc _)).mono ?_
    rintro e w1 ⟨rfl, hb⟩
    go_wp2
    go_ret
    exact ⟨by simp [setB, hgd], (by go_grown : Below w.heap.size w _).trans (hb.mono (by simp))⟩
  · have hn16 := (goodB_iff.1 hgd).n16
    have hp := pow16 hn16
    go_enter Try.func57, Try.ntmps57
    go_wp2_with fail
    refine (grGood_any _ _ _ f _ _ hn (HA.out.alloc _)).mono ?_
    rintro e w1 ⟨rfl, hb⟩
    obtain ⟨hc, hf⟩ := bcell hb
    have hz := hb.size
    simp only [World.size_alloc] at hc hf hz
    have HB := hide (hb.mono (show w.heap.size ≤ _ by simp))
    clear hb
    go_wp2_with fail
    refine (l1InG_any _ _ _ _).mono ?_
    rintro e w2 ⟨rfl, rfl⟩
    go_wp2
    go_ret
    exact ⟨by simp [setB, hgd], (by go_grown : Below w.heap.size w _).trans HB.out⟩
theorem cutSpec_no (g n c : Nat) (f : Nat → Int) (own : Bool) (s : Int) (w : World) (hn : n ≤ 1048576) (hno : setB n f s = false) (ha : Arr w 3 g n (iv f)) :
    Calls Try.prog 33 #[.agg #[.slice (some ⟨g, 0, none⟩) n c, .bool own], .int .i64 s] w fun e w' => e = .returned (.tuple #[.slice none 0 0, .bool false]) ∧ Below w.heap.size w w' := by
  have HA := hide ha
  have HN := hide hno
  clear ha hno
  go_enter Try.func33, Try.ntmps33
  go_wp2_with (go_at_call 57; refine (grSet_any _ _ _ f _ _ _ hn (HA.out.alloc _)).mono ?_; rintro e w1 ⟨rfl, hb1⟩; rw [HN.out])
  go_ret2
  exact ⟨rfl, (by go_grown : Below w.heap.size w _).trans (hb1.mono (by simp))⟩
theorem cutImpl_no (g n c : Nat) (f : Nat → Int) (own : Bool) (s : Int) (w : World) (hn : n ≤ 1048576) (hno : setB n f s = false) (ha : Arr w 3 g n (iv f)) :
    Calls Try.prog 34 #[.agg #[.slice (some ⟨g, 0, none⟩) n c, .bool own], .int .i64 s] w fun e w' => e = .returned (.tuple #[.slice none 0 0, .bool false]) ∧ Below w.heap.size w w' := by
  cases hg : goodB n f
  · exact cutImpl_no1 g n c f own s w hn hg ha
  · obtain ⟨F, he, h2, h16, hG⟩ := good_nat (goodB_iff.1 hg)
    have hq : inB s 0 (2 ^ n - 1) = false := by simpa [setB, hg] using hno
    exact cutImpl_no2 g n c F own s w hG.2.1 (goodB_yes hG) hq (ha.congr fun k hk => by simp [iv, he k hk])
/-- What a call leaves that lists P. -/
def ListedM (w : World) (M : Nat) (P : List (Nat × Nat)) (e : Ending) (w' : World) : Prop :=
  ∃ A d G, e = .returned (.tuple #[.slice A M d, .bool true]) ∧ SS w' (w.heap.size + 1) w'.heap.size A M G (fun _ => 2) (fun _ => 2) (pairR P) ∧ Below w.heap.size w w'
theorem cutImpl_at (g n c : Nat) (F : Nat → Nat) (own : Bool) (q M : Nat) (w : World) (hn : n ≤ 16) (hG : goodB n (nv F) = true) (hq : inB q 0 (2 ^ n - 1) = true) (hM : M = (cutP (allP F n n) q (allP F n n).length).length) (ha : Arr w 3 g n (iv (nv F))) :
    Calls Try.prog 34 #[.agg #[.slice (some ⟨g, 0, none⟩) n c, .bool own], .int .i64 q] w (ListedM w M (cutP (allP F n n) q (allP F n n).length)) :=
  (cutImpl_ok g n c F own q w hn hG hq ha).mono fun e w' ⟨A, m, d, G, h1, h2, _, h3, h4⟩ => by
    rw [← hM] at h2
    subst h2
    exact ⟨A, d, G, h1, h3, h4⟩
theorem cutSpec_at (g n c : Nat) (F : Nat → Nat) (own : Bool) (q M : Nat) (w : World) (hn : n ≤ 16) (hG : goodB n (nv F) = true) (hq : inB q 0 (2 ^ n - 1) = true) (hM : M = (cutP (allP F n n) q (allP F n n).length).length) (ha : Arr w 3 g n (iv (nv F))) :
    Calls Try.prog 33 #[.agg #[.slice (some ⟨g, 0, none⟩) n c, .bool own], .int .i64 q] w (ListedM w M (cutP (allP F n n) q (allP F n n).length)) := by
  have HA := hide ha
  have HS := hide (show setB n (nv F) q = true by simp [setB, hG, hq])
  obtain ⟨P, hP⟩ : ∃ P, cutP (allP F n n) q (allP F n n).length = P := ⟨_, rfl⟩
  rw [hP] at hM ⊢
  have HP := hide hP
  have HM := hide hM
  clear ha hG hq hP hM
  go_enter Try.func33, Try.ntmps33
  go_wp2_with fail
  refine (grSet_any _ _ _ (nv F) _ _ _ (by omega) (HA.out.alloc _)).mono ?_
  rintro e w1 ⟨rfl, hb1⟩
  rw [HS.out]
  have hp := (Arr.box w 28 (.slice (some ⟨g, 0, none⟩) n c) (.bool own)).all hb1
  have c0 : w1.cell? ⟨w.heap.size, 0, none⟩ = some (.slice (some ⟨g, 0, none⟩) n c) := hp.cell (by omega)
  have c1 : w1.cell? ⟨w.heap.size, 1, none⟩ = some (.bool own) := hp.cell (by omega)
  have hz := hp.lt
  have HA1 := hide ((HA.out.alloc (.cells #[.slice (some ⟨g, 0, none⟩) n c, .bool own] 28)).all hb1)
  have HB1 := hide ((by go_grown : Below w.heap.size w _).trans (hb1.mono (by simp)))
  clear hb1 hp
  go_wp2_with fail
  refine (paCut_any _ _ _ F _ _ _ hn HA1.out).mono ?_
  rintro e w2 ⟨A, m, d, G, rfl, hm, hm2, hss, hb2⟩
  rw [HP.out] at hm hss
  have hmM : m = M := by rw [hm, HM.out]
  subst hmM
  have HSS := hide (hss.wide (lo' := w.heap.size + 1) (by omega) (Nat.le_refl _))
  have HB2 := hide (HB1.out.trans (hb2.mono HB1.out.size))
  clear hss hb2 c0 c1 hm
  simp only [id]
  go_wp2
  go_ret2
  exact ⟨A, d, G, rfl, HSS.out, HB2.out⟩
end Go.Proofs.Ytcpbbpgiicakcaa
