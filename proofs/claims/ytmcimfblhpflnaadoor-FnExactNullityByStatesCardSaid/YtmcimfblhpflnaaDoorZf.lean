/-
Texts joined: TZ UA.
-/
import Derived.Test.YtmcimfblhpflnaaDoorTS
import Derived.Test.YtmcimfblhpflnaaDoorFPA
import Derived.Test.YtmcimfblhpflnaaDoorTQ
/-
asked: what a forest's search tells.
-/
namespace Go.Proofs.YtmcimfblhpflnaaDoor
open Go.RowKit
set_option maxHeartbeats 4000000
set_option maxRecDepth 8000 in
theorem askedG (ty : TypeId) (V : (Nat → Int) → Int) (g n c : Nat) (F : Nat → Nat) (own : Bool) (L : Nat) (w : World) (hn : n ≤ 16) (hTr : treeB F n = true) (hs : setB n (nv F) L = true) (ha : Arr w 3 g n (iv (nv F))) (hT : Tab w) (hw1 : 1 < w.heap.size)
    (HK : Hid (∀ (fb gp lb d : Nat) (o t : List Nat) (p : Nat → Int) (W : World), Run F n o t p → Tab W → 1 < W.heap.size →
      W.cell? ⟨fb, 0, none⟩ = some (.slice (some ⟨g, 0, none⟩) n c) → W.cell? ⟨fb, 1, none⟩ = some (.bool own) → W.cell? ⟨fb, 2, none⟩ = some (.slice (some ⟨gp, 0, none⟩) n n) → W.cell? ⟨fb, 3, none⟩ = some (.slice (some ⟨lb, 0, none⟩) n d) →
      Arr W 3 g n (iv (nv F)) → Arr W 3 gp n (iv p) → Arr W 3 lb n (lv (o ++ t)) →
      Calls Tryd.prog 91 #[.pointer (some ⟨fb, 0, none⟩), .iface ty (.agg #[]), .int .i64 (L : Nat)] W fun e w' => e = .returned (.int .i64 (V p)) ∧ Below W.heap.size W w')) :
    Calls Tryd.prog 65 #[.agg #[.slice (some ⟨g, 0, none⟩) n c, .bool own], .int .i64 (L : Nat), .iface ty (.agg #[])] w fun e w' => (∃ o t p, Run F n o t p ∧ e = .returned (.tuple #[.int .i64 (V p), .bool true])) ∧ Below w.heap.size w w' := by
  have hG : goodB n (nv F) = true := by simp only [setB, Bool.and_eq_true] at hs; exact hs.1
  have hset : inB (L : Nat) 0 (2 ^ n - 1) = true := by simp only [setB, Bool.and_eq_true] at hs; exact hs.2
  have hn1 : 1 ≤ n := (goodB_iff.1 hG).1
  have HA := hide ha
  have HT := hide hT
  have hgl := ha.lt
  clear ha hT
  go_enter Tryd.func65, Tryd.ntmps65
  go_wp2_with fail
  refine (forestOf_ok g n c F own _ hn hG hTr (HA.out.alloc _) (HT.out.below (by go_grown)) (by simp; try omega)).mono ?_
  rintro e w1 ⟨gp, m, d, A, o, t, p, rfl, hrun, hlen, hgp, hpa, hol, hb1⟩
  have hm : m = n := by rw [← hlen]; exact hrun.len
  subst hm
  obtain ⟨lb, rfl, hlb, hla⟩ := ol_cases hol hrun.len (by omega)
  have hbx := (Arr.box w 28 (.slice (some ⟨g, 0, none⟩) m c) (.bool own)).all hb1
  have x0 : w1.cell? ⟨w.heap.size, 0, none⟩ = some (.slice (some ⟨g, 0, none⟩) m c) := hbx.cell (by omega)
  have x1 : w1.cell? ⟨w.heap.size, 1, none⟩ = some (.bool own) := hbx.cell (by omega)
  have hbl := hbx.lt
  have HP := hide hpa
  have HL := hide hla
  have HR := hide hrun
  have HB1 := hide ((by go_grown : Below w.heap.size w _).trans (hb1.mono (by simp)))
  clear hpa hla hrun hol hb1 hlen hbx hgp hlb
  go_wp2_with fail
  refine (isSet_any _ m c (L : Nat) own _ hn).mono ?_
  rintro e w2 ⟨rfl, hb2⟩
  rw [hset]
  have hk := (Blk.new w1 56 #[.slice (some ⟨g, 0, none⟩) m c, .bool own, .slice (some ⟨gp, 0, none⟩) m m, .slice (some ⟨lb, 0, none⟩) m d] rfl).all hb2
  have k0 : w2.cell? ⟨w1.heap.size, 0, none⟩ = some (.slice (some ⟨g, 0, none⟩) m c) := hk.cell 0
  have k1 : w2.cell? ⟨w1.heap.size, 1, none⟩ = some (.bool own) := hk.cell 1
  have k2 : w2.cell? ⟨w1.heap.size, 2, none⟩ = some (.slice (some ⟨gp, 0, none⟩) m m) := hk.cell 2
  have k3 : w2.cell? ⟨w1.heap.size, 3, none⟩ = some (.slice (some ⟨lb, 0, none⟩) m d) := hk.cell 3
  have HP2 := hide ((HP.out.alloc _).all hb2)
  have HL2 := hide ((HL.out.alloc _).all hb2)
  have HB2 := hide ((HB1.out.alloc HB1.out.size _).trans (hb2.mono (Nat.le_trans HB1.out.size (by simp))))
  clear hb2 hk
  go_wp2_with fail
  refine (HK.out w1.heap.size gp lb d o t p _ HR.out (HT.out.below HB2.out) (Nat.lt_of_lt_of_le hw1 HB2.out.size) k0 k1 k2 k3 (HA.out.all HB2.out) HP2.out HL2.out).mono ?_
  rintro e w3 ⟨rfl, hb3⟩
  have HB3 := hide (HB2.out.trans (hb3.mono HB2.out.size))
  clear hb3
  go_wp2
  go_ret2
  exact ⟨⟨o, t, p, HR.out, rfl⟩, HB3.out⟩
/-- No forest, or no set of its buttons. -/
theorem asked_none (ty : TypeId) (g n c : Nat) (f : Nat → Int) (own : Bool) (s : Int) (w : World) (ha : Arr w 3 g n (iv f)) (hT : Tab w) (hw1 : 1 < w.heap.size)
    (H : Hid (∀ w', Below w.heap.size w w' → Calls Tryd.prog 57 #[.agg #[.slice (some ⟨g, 0, none⟩) n c, .bool own]] w' (ForestNo w'))) :
    Calls Tryd.prog 65 #[.agg #[.slice (some ⟨g, 0, none⟩) n c, .bool own], .int .i64 s, .iface ty (.agg #[])] w fun e w' => e = .returned (.tuple #[.int .i64 0, .bool false]) ∧ Below w.heap.size w w' := by
  go_enter Tryd.func65, Tryd.ntmps65
  go_wp2_with fail
  refine (H.out _ (by go_grown)).mono ?_
  rintro e w1 ⟨rfl, hb1⟩
  have HB1 := hide ((by go_grown : Below w.heap.size w _).trans (hb1.mono (by simp)))
  clear hb1
  go_wp2
  go_ret2
  exact ⟨rfl, HB1.out.alloc HB1.out.size _⟩
theorem asked_no (ty : TypeId) (g n c : Nat) (F : Nat → Nat) (own : Bool) (s : Int) (w : World) (hn : n ≤ 16) (hG : goodB n (nv F) = true) (hTr : treeB F n = true) (hs : setB n (nv F) s = false) (ha : Arr w 3 g n (iv (nv F))) (hT : Tab w) (hw1 : 1 < w.heap.size) :
    Calls Tryd.prog 65 #[.agg #[.slice (some ⟨g, 0, none⟩) n c, .bool own], .int .i64 s, .iface ty (.agg #[])] w fun e w' => e = .returned (.tuple #[.int .i64 0, .bool false]) ∧ Below w.heap.size w w' := by
  have hset : inB s 0 (2 ^ n - 1) = false := by simpa [setB, hG] using hs
  have hn1 : 1 ≤ n := (goodB_iff.1 hG).1
  have HA := hide ha
  have HT := hide hT
  have hgl := ha.lt
  clear ha hT
  go_enter Tryd.func65, Tryd.ntmps65
  go_wp2_with fail
  refine (forestOf_ok g n c F own _ hn hG hTr (HA.out.alloc _) (HT.out.below (by go_grown)) (by simp; try omega)).mono ?_
  rintro e w1 ⟨gp, m, d, A, o, t, p, rfl, hrun, hlen, hgp, hpa, hol, hb1⟩
  have hbx := (Arr.box w 28 (.slice (some ⟨g, 0, none⟩) n c) (.bool own)).all hb1
  have x0 : w1.cell? ⟨w.heap.size, 0, none⟩ = some (.slice (some ⟨g, 0, none⟩) n c) := hbx.cell (by omega)
  have x1 : w1.cell? ⟨w.heap.size, 1, none⟩ = some (.bool own) := hbx.cell (by omega)
  have hbl := hbx.lt
  have HB1 := hide ((by go_grown : Below w.heap.size w _).trans (hb1.mono (by simp)))
  clear hpa hrun hol hb1 hlen hbx hgp
  go_wp2_with fail
  refine (isSet_any _ n c s own _ hn).mono ?_
  rintro e w2 ⟨rfl, hb2⟩
  rw [hset]
  have HB2 := hide ((HB1.out.alloc HB1.out.size _).trans (hb2.mono (Nat.le_trans HB1.out.size (by simp))))
  clear hb2
  go_wp2
  go_ret2
  exact ⟨rfl, HB2.out⟩
end Go.Proofs.YtmcimfblhpflnaaDoor
/-
CountByStates and LeastByStates: the program's side.
-/
namespace Go.Proofs.YtmcimfblhpflnaaDoor
open Go.RowKit
set_option maxHeartbeats 4000000
theorem getD_at (l : List Nat) (i : Nat) (h : i < l.length) : l.getD i 0 = l[i] := by
  rw [List.getD_eq_getElem?_getD, List.getElem?_eq_getElem h]; rfl
theorem map_back (l : List Nat) (n : Nat) (h : l.length = n) : ((List.range n).map fun j => l.getD (n - 1 - j) 0) = l.reverse := by
  apply List.ext_getElem
  · simp [h]
  · intro i h1 h2
    simp only [List.length_map, List.length_range] at h1
    rw [List.getElem_map, List.getElem_range, List.getElem_reverse]
    simp only [h]
    rw [getD_at _ _ (by omega)]
section
variable {F : Nat → Nat} {n : Nat} {o t : List Nat} {p : Nat → Int}
theorem ask71r (fb g c gp lb d L : Nat) (own : Bool) (W : World) (hG : Good n (nv F)) (hL : L < 65536) (hr : Run F n o t p) (hT : Tab W) (hw1 : 1 < W.heap.size)
    (k0 : W.cell? ⟨fb, 0, none⟩ = some (.slice (some ⟨g, 0, none⟩) n c)) (k1 : W.cell? ⟨fb, 1, none⟩ = some (.bool own)) (k2 : W.cell? ⟨fb, 2, none⟩ = some (.slice (some ⟨gp, 0, none⟩) n n)) (k3 : W.cell? ⟨fb, 3, none⟩ = some (.slice (some ⟨lb, 0, none⟩) n d))
    (kn : Arr W 3 g n (iv (nv F))) (kp : Arr W 3 gp n (iv p)) (kl : Arr W 3 lb n (lv (o ++ t))) :
    Calls Tryd.prog 91 #[.pointer (some ⟨fb, 0, none⟩), .iface 71 (.agg #[]), .int .i64 (L : Nat)] W fun e w' => e = .returned (.int .i64 (askRun accCI (kids p n) (dueB L own) p 0 (ordL F n).reverse).1) ∧ Below W.heap.size W w' := by
  have hn := hG.n16
  have hm := map_back _ _ hr.len
  rw [hr.ord] at hm
  rw [← hm, ← hr.ord]
  refine ask71 fb g n c gp n lb d L F p own (fun j => (o ++ t).getD j 0) W hn hG.1 hL hG.lt16 ?_ hT hw1 (fun i hi => hr.ch_kids hG.sym hi) (fun i hi => ch_range hr hn hi) ?_ hG.irr k0 k1 k2 k3 kn kp ?_
  · intro j hj
    have := hr.len
    show (o ++ t).getD j 0 < n
    rw [getD_at _ _ (by omega)]
    exact hr.qu.gr.lt _ (List.getElem_mem _)
  · intro i hi h
    rcases hr.par_lt hG.irr hi with h1 | ⟨u, h1, h2, h3⟩
    · omega
    · omega
  · intro j hj
    exact kl.cell hj
theorem ask72r (fb g c gp lb d L : Nat) (own : Bool) (W : World) (hG : Good n (nv F)) (hL : L < 65536) (hr : Run F n o t p) (hT : Tab W) (hw1 : 1 < W.heap.size)
    (k0 : W.cell? ⟨fb, 0, none⟩ = some (.slice (some ⟨g, 0, none⟩) n c)) (k1 : W.cell? ⟨fb, 1, none⟩ = some (.bool own)) (k2 : W.cell? ⟨fb, 2, none⟩ = some (.slice (some ⟨gp, 0, none⟩) n n)) (k3 : W.cell? ⟨fb, 3, none⟩ = some (.slice (some ⟨lb, 0, none⟩) n d))
    (kn : Arr W 3 g n (iv (nv F))) (kp : Arr W 3 gp n (iv p)) (kl : Arr W 3 lb n (lv (o ++ t))) :
    Calls Tryd.prog 91 #[.pointer (some ⟨fb, 0, none⟩), .iface 72 (.agg #[]), .int .i64 (L : Nat)] W fun e w' => e = .returned (.int .i64 (askRun accLI (kids p n) (dueB L own) p 0 (ordL F n).reverse).1) ∧ Below W.heap.size W w' := by
  have hn := hG.n16
  have hm := map_back _ _ hr.len
  rw [hr.ord] at hm
  rw [← hm, ← hr.ord]
  refine ask72 fb g n c gp n lb d L F p own (fun j => (o ++ t).getD j 0) W hn hG.1 hL hG.lt16 ?_ hT hw1 (fun i hi => hr.ch_kids hG.sym hi) (fun i hi => ch_range hr hn hi) ?_ hG.irr k0 k1 k2 k3 kn kp ?_
  · intro j hj
    have := hr.len
    show (o ++ t).getD j 0 < n
    rw [getD_at _ _ (by omega)]
    exact hr.qu.gr.lt _ (List.getElem_mem _)
  · intro i hi h
    rcases hr.par_lt hG.irr hi with h1 | ⟨u, h1, h2, h3⟩
    · omega
    · omega
  · intro j hj
    exact kl.cell hj
end
theorem setB_good {n : Nat} {f : Nat → Int} {s : Int} (h : setB n f s = true) : goodB n f = true := by
  simp only [setB, Bool.and_eq_true] at h
  exact h.1
theorem asked71 (g n c : Nat) (F : Nat → Nat) (own : Bool) (L : Nat) (w : World) (hL : L < 65536) (hTr : treeB F n = true) (hs : setB n (nv F) L = true) (ha : Arr w 3 g n (iv (nv F))) (hT : Tab w) (hw1 : 1 < w.heap.size) :
    Calls Tryd.prog 65 #[.agg #[.slice (some ⟨g, 0, none⟩) n c, .bool own], .int .i64 (L : Nat), .iface 71 (.agg #[])] w fun e w' => e = .returned (.tuple #[.int .i64 ((sN F own L n).1 : Nat), .bool true]) ∧ Below w.heap.size w w' := by
  have hG := goodB_iff.1 (setB_good hs)
  refine (askedG 71 (fun p => (askRun accCI (kids p n) (dueB L own) p 0 (ordL F n).reverse).1) g n c F own L w hG.n16 hTr hs ha hT hw1 (hide ?_)).mono ?_
  · intro fb gp lb d o t p W hr hT h1 k0 k1 k2 k3 kn kp kl
    exact ask71r fb g c gp lb d L own W hG hL hr hT h1 k0 k1 k2 k3 kn kp kl
  · rintro e w' ⟨⟨o, t, p, hr, rfl⟩, hb⟩
    have h := (hr.told hG.sym hG.irr hG.n16 own L).1
    exact ⟨by rw [h], hb⟩
theorem asked72 (g n c : Nat) (F : Nat → Nat) (own : Bool) (L : Nat) (w : World) (hL : L < 65536) (hTr : treeB F n = true) (hs : setB n (nv F) L = true) (ha : Arr w 3 g n (iv (nv F))) (hT : Tab w) (hw1 : 1 < w.heap.size) :
    Calls Tryd.prog 65 #[.agg #[.slice (some ⟨g, 0, none⟩) n c, .bool own], .int .i64 (L : Nat), .iface 72 (.agg #[])] w fun e w' => (∃ v : Int, e = .returned (.tuple #[.int .i64 v, .bool true]) ∧ ((sN F own L n).1 = 0 → 16 < v) ∧ ((sN F own L n).1 ≠ 0 → v = ((sN F own L n).2 : Nat) ∧ v ≤ 16)) ∧ Below w.heap.size w w' := by
  have hG := goodB_iff.1 (setB_good hs)
  refine (askedG 72 (fun p => (askRun accLI (kids p n) (dueB L own) p 0 (ordL F n).reverse).1) g n c F own L w hG.n16 hTr hs ha hT hw1 (hide ?_)).mono ?_
  · intro fb gp lb d o t p W hr hT h1 k0 k1 k2 k3 kn kp kl
    exact ask72r fb g c gp lb d L own W hG hL hr hT h1 k0 k1 k2 k3 kn kp kl
  · rintro e w' ⟨⟨o, t, p, hr, rfl⟩, hb⟩
    have h := hr.told hG.sym hG.irr hG.n16 own L
    exact ⟨⟨_, rfl, fun h0 => (h.2.1 h0).2, fun h0 => ⟨(h.2.2 h0).1, by rw [(h.2.2 h0).1]; have := (h.2.2 h0).2; omega⟩⟩, hb⟩
theorem asked_nt (ty : TypeId) (g n c : Nat) (F : Nat → Nat) (own : Bool) (s : Int) (w : World) (hn : n ≤ 16) (hG : goodB n (nv F) = true) (hTr : treeB F n = false) (ha : Arr w 3 g n (iv (nv F))) (hT : Tab w) (hw1 : 1 < w.heap.size) :
    Calls Tryd.prog 65 #[.agg #[.slice (some ⟨g, 0, none⟩) n c, .bool own], .int .i64 s, .iface ty (.agg #[])] w fun e w' => e = .returned (.tuple #[.int .i64 0, .bool false]) ∧ Below w.heap.size w w' :=
  asked_none ty g n c (nv F) own s w ha hT hw1 (hide fun w' hb => forestOf_nt g n c F own w' hn hG hTr (ha.all hb) (hT.below hb) (Nat.lt_of_lt_of_le hw1 hb.size))
theorem asked_out (ty : TypeId) (g n c : Nat) (f : Nat → Int) (own : Bool) (s : Int) (w : World) (hn : n ≤ 1048576) (hs : setB n f s = false) (ha : Arr w 3 g n (iv f)) (hT : Tab w) (hw1 : 1 < w.heap.size) :
    Calls Tryd.prog 65 #[.agg #[.slice (some ⟨g, 0, none⟩) n c, .bool own], .int .i64 s, .iface ty (.agg #[])] w fun e w' => e = .returned (.tuple #[.int .i64 0, .bool false]) ∧ Below w.heap.size w w' := by
  cases hno : goodB n f
  · exact asked_none ty g n c f own s w ha hT hw1 (hide fun w' hb => forestOf_no g n c f own w' hn hno (ha.all hb) (hT.below hb) (Nat.lt_of_lt_of_le hw1 hb.size))
  · obtain ⟨F, he, h2, h16, hG⟩ := good_nat (goodB_iff.1 hno)
    have hg := goodB_yes hG
    have ha' : Arr w 3 g n (iv (nv F)) := ha.congr (fun k hk => by simp only [iv]; rw [he k hk]; try rfl)
    cases hTr : treeB F n
    · exact asked_nt ty g n c F own s w hG.n16 hg hTr ha' hT hw1
    · refine asked_no ty g n c F own s w hG.n16 hg hTr ?_ ha' hT hw1
      simp only [setB, hno, hg] at hs ⊢
      exact hs
theorem cntImpl_by (g n c : Nat) (own : Bool) (s : Int) (w : World) (v : Value)
    (H : Hid (∀ w', Below w.heap.size w w' → Calls Tryd.prog 65 #[.agg #[.slice (some ⟨g, 0, none⟩) n c, .bool own], .int .i64 s, .iface 71 (.agg #[])] w' fun e w2 => e = .returned v ∧ Below w'.heap.size w' w2))
    (a : Int) (b : Bool) (hv : v = .tuple #[.int .i64 a, .bool b]) :
    Calls Tryd.prog 39 #[.agg #[.slice (some ⟨g, 0, none⟩) n c, .bool own], .int .i64 s] w fun e w' => e = .returned v ∧ Below w.heap.size w w' := by
  subst hv
  go_enter Tryd.func39, Tryd.ntmps39
  go_wp2_with fail
  refine (H.out _ (by go_grown)).mono ?_
  rintro e w1 ⟨rfl, hb1⟩
  have HB1 := hide ((by go_grown : Below w.heap.size w _).trans (hb1.mono (by simp)))
  clear hb1
  go_wp2
  go_ret2
  exact ⟨rfl, HB1.out⟩
theorem lstImpl_no (g n c : Nat) (own : Bool) (s : Int) (w : World)
    (H : Hid (∀ w', Below w.heap.size w w' → Calls Tryd.prog 65 #[.agg #[.slice (some ⟨g, 0, none⟩) n c, .bool own], .int .i64 s, .iface 72 (.agg #[])] w' fun e w2 => e = .returned (.tuple #[.int .i64 0, .bool false]) ∧ Below w'.heap.size w' w2)) :
    Calls Tryd.prog 41 #[.agg #[.slice (some ⟨g, 0, none⟩) n c, .bool own], .int .i64 s] w fun e w' => e = .returned (.tuple #[.int .i64 0, .bool false]) ∧ Below w.heap.size w w' := by
  go_enter Tryd.func41, Tryd.ntmps41
  go_wp2_with fail
  refine (H.out _ (by go_grown)).mono ?_
  rintro e w1 ⟨rfl, hb1⟩
  have HB1 := hide ((by go_grown : Below w.heap.size w _).trans (hb1.mono (by simp)))
  clear hb1
  go_wp2
  go_ret2
  exact ⟨rfl, HB1.out⟩
theorem lstImpl_yes (g n c : Nat) (F : Nat → Nat) (own : Bool) (L : Nat) (w : World) (hL : L < 65536) (hTr : treeB F n = true) (hs : setB n (nv F) L = true) (ha : Arr w 3 g n (iv (nv F))) (hT : Tab w) (hw1 : 1 < w.heap.size) :
    Calls Tryd.prog 41 #[.agg #[.slice (some ⟨g, 0, none⟩) n c, .bool own], .int .i64 (L : Nat)] w fun e w' => e = .returned (lOut F own L n) ∧ Below w.heap.size w w' := by
  have HA := hide ha
  have HT := hide hT
  clear ha hT
  go_enter Tryd.func41, Tryd.ntmps41
  go_wp2_with fail
  refine (asked72 g n c F own L _ hL hTr hs (HA.out.alloc _) (HT.out.below (by go_grown)) (by simp; omega)).mono ?_
  rintro e w1 ⟨⟨v, rfl, h0, h1⟩, hb1⟩
  have HB1 := hide ((by go_grown : Below w.heap.size w _).trans (hb1.mono (by simp)))
  clear hb1
  by_cases hz : (sN F own L n).1 = 0
  · have hv := h0 hz
    clear h0 h1
    go_wp2
    go_ret2
    exact ⟨by unfold lOut; rw [if_neg (by rw [hz]; simp)]; rfl, HB1.out⟩
  · obtain ⟨hv, hv16⟩ := h1 hz
    have hv' : ¬ 16 < v := by omega
    clear h0 h1
    go_wp2
    go_ret2
    exact ⟨by unfold lOut; rw [if_pos ⟨hTr, hz⟩]; first | rfl | (simp only [hv]; rfl), HB1.out⟩
theorem cntImpl_no (g n c : Nat) (f : Nat → Int) (own : Bool) (s : Int) (w : World) (hn : n ≤ 1048576) (hs : setB n f s = false) (ha : Arr w 3 g n (iv f)) (hT : Tab w) (hw1 : 1 < w.heap.size) :
    Calls Tryd.prog 39 #[.agg #[.slice (some ⟨g, 0, none⟩) n c, .bool own], .int .i64 s] w fun e w' => e = .returned (.tuple #[.int .i64 0, .bool false]) ∧ Below w.heap.size w w' :=
  cntImpl_by g n c own s w _ (hide fun w' hb => asked_out 71 g n c f own s w' hn hs (ha.all hb) (hT.below hb) (Nat.lt_of_lt_of_le hw1 hb.size)) _ _ rfl
theorem cntImpl_ok (g n c : Nat) (F : Nat → Nat) (own : Bool) (L : Nat) (w : World) (hn : n ≤ 16) (hL : L < 65536) (hs : setB n (nv F) L = true) (ha : Arr w 3 g n (iv (nv F))) (hT : Tab w) (hw1 : 1 < w.heap.size) :
    Calls Tryd.prog 39 #[.agg #[.slice (some ⟨g, 0, none⟩) n c, .bool own], .int .i64 (L : Nat)] w fun e w' => e = .returned (cOut F own L n) ∧ Below w.heap.size w w' := by
  cases hTr : treeB F n
  · refine cntImpl_by g n c own _ w _ (hide fun w' hb => ?_) 0 false (by unfold cOut; rw [if_neg (by rw [hTr]; simp)])
    have h := asked_nt 71 g n c F own (L : Nat) w' hn (setB_good hs) hTr (ha.all hb) (hT.below hb) (Nat.lt_of_lt_of_le hw1 hb.size)
    unfold cOut; rw [if_neg (by rw [hTr]; simp)]
    exact h
  · refine cntImpl_by g n c own _ w _ (hide fun w' hb => ?_) ((sN F own L n).1 : Nat) true (by unfold cOut; rw [if_pos hTr])
    have h := asked71 g n c F own L w' hL hTr hs (ha.all hb) (hT.below hb) (Nat.lt_of_lt_of_le hw1 hb.size)
    unfold cOut; rw [if_pos hTr]
    exact h
theorem lstImpl_out (g n c : Nat) (f : Nat → Int) (own : Bool) (s : Int) (w : World) (hn : n ≤ 1048576) (hs : setB n f s = false) (ha : Arr w 3 g n (iv f)) (hT : Tab w) (hw1 : 1 < w.heap.size) :
    Calls Tryd.prog 41 #[.agg #[.slice (some ⟨g, 0, none⟩) n c, .bool own], .int .i64 s] w fun e w' => e = .returned (.tuple #[.int .i64 0, .bool false]) ∧ Below w.heap.size w w' :=
  lstImpl_no g n c own s w (hide fun w' hb => asked_out 72 g n c f own s w' hn hs (ha.all hb) (hT.below hb) (Nat.lt_of_lt_of_le hw1 hb.size))
theorem lstImpl_ok (g n c : Nat) (F : Nat → Nat) (own : Bool) (L : Nat) (w : World) (hn : n ≤ 16) (hL : L < 65536) (hs : setB n (nv F) L = true) (ha : Arr w 3 g n (iv (nv F))) (hT : Tab w) (hw1 : 1 < w.heap.size) :
    Calls Tryd.prog 41 #[.agg #[.slice (some ⟨g, 0, none⟩) n c, .bool own], .int .i64 (L : Nat)] w fun e w' => e = .returned (lOut F own L n) ∧ Below w.heap.size w w' := by
  cases hTr : treeB F n
  · have h := lstImpl_no g n c own (L : Nat) w (hide fun w' hb => asked_nt 72 g n c F own (L : Nat) w' hn (setB_good hs) hTr (ha.all hb) (hT.below hb) (Nat.lt_of_lt_of_le hw1 hb.size))
    unfold lOut; rw [if_neg (by rw [hTr]; simp)]
    exact h
  · exact lstImpl_yes g n c F own L w hL hTr hs ha hT hw1
/-- A pair, whatever it tells. -/
theorem cOut_two (F : Nat → Nat) (own : Bool) (L n : Nat) : ∃ v b, cOut F own L n = .tuple #[.int .i64 v, .bool b] := by
  unfold cOut
  by_cases h : treeB F n = true
  · rw [if_pos h]; exact ⟨_, _, rfl⟩
  · rw [if_neg h]; exact ⟨_, _, rfl⟩
theorem lOut_two (F : Nat → Nat) (own : Bool) (L n : Nat) : ∃ v b, lOut F own L n = .tuple #[.int .i64 v, .bool b] := by
  unfold lOut
  by_cases h : treeB F n = true ∧ (sN F own L n).1 ≠ 0
  · rw [if_pos h]; exact ⟨_, _, rfl⟩
  · rw [if_neg h]; exact ⟨_, _, rfl⟩
end Go.Proofs.YtmcimfblhpflnaaDoor
