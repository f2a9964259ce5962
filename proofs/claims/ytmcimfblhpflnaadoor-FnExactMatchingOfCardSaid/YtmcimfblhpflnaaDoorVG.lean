/-
MatchingOf: the program's side.
-/
import Derived.Test.YtmcimfblhpflnaaDoorVF
import Derived.Test.YtmcimfblhpflnaaDoorFPA
namespace Go.Proofs.YtmcimfblhpflnaaDoor
open Go.RowKit Go.Shelf Go.BigFrame
set_option maxHeartbeats 4000000
attribute [local go_sem] Oper.semAt_some
/-- What is matched in a forest, in order. -/
noncomputable def matchL (F : Nat → Nat) (n : Nat) : List (Nat × Nat) := sortE (mtRun (parV F n) (ordL F n).reverse).2
theorem getD_at' (l : List Nat) (i : Nat) (h : i < l.length) : l.getD i 0 = l[i] := by
  rw [List.getD_eq_getElem?_getD, List.getElem?_eq_getElem h]; rfl
theorem map_back' (l : List Nat) (n : Nat) (h : l.length = n) : ((List.range n).map fun j => l.getD (n - 1 - j) 0) = l.reverse := by
  apply List.ext_getElem
  · simp [h]
  · intro i h1 h2
    simp only [List.length_map, List.length_range] at h1
    rw [List.getElem_map, List.getElem_range, List.getElem_reverse]
    simp only [h]
    rw [getD_at' _ _ (by omega)]
def MtOk (w : World) (P : List (Nat × Nat)) (e : Ending) (w' : World) : Prop :=
  ∃ (A : Option Addr) (m c : Nat) (Q : List Ent), e = .returned (.tuple #[.slice A m c, .bool true]) ∧ Q.length = m ∧ Q.map (·.2) = P ∧ EQ w' w.heap.size w.heap.size (.slice A m c) Q ∧ Below w.heap.size w w'
theorem EQ.mono {w : World} {B B' lo lo' : Nat} {v : Value} {Q : List Ent} (h : EQ w B lo v Q) (hB : B' ≤ B) (hl : lo' ≤ lo) : EQ w B' lo' v Q := by
  refine ⟨⟨h.row.1, ?_⟩, fun e he => ⟨Nat.le_trans hl (h.ent e he).1, (h.ent e he).2⟩, h.nd⟩
  rcases h.row.2 with h1 | ⟨r, cap, cur, e0, hb, h2⟩
  · exact .inl h1
  · exact .inr ⟨r, cap, cur, e0, Nat.le_trans hB hb, h2⟩
theorem has_natB (q x : Nat) (w : World) (hx : x < 64) : Calls Tryd.prog 60 #[.int .i64 q, .int .i64 x] w fun e w' => e = .returned (.bool (q.testBit x)) ∧ w' = w := by
  have h := hasG_any (q : Int) (x : Int) (by omega) (by omega) w
  rw [Int.toNat_natCast, bt_nat2] at h
  exact h
theorem MI.same {w W : World} {g n c fb gp lb d eb tb bs B : Nat} {own : Bool} {p : Nat → Int} {l l' : List Nat} (h : MI w g n c fb gp lb d eb tb bs B own p l W) (e : mtRun p l' = mtRun p l) : MI w g n c fb gp lb d eb tb bs B own p l' W :=
  ⟨h.be, h.bf, by rw [e]; exact h.bt, h.pa, by rw [e]; exact h.ed, h.top⟩
theorem take_or (s i u : Nat) (hs : s < 65536) (hi : i < 16) (hu : u < 16) : bits .or .i64 (s : Int) (bits .or .i64 (RowKit.wrap64 (2 ^ i)) (RowKit.wrap64 (2 ^ u))) = ((s ||| (2 ^ i ||| 2 ^ u) : Nat) : Int) := by
  have p1 : 2 ^ i < 65536 := Nat.pow_lt_pow_right (m := i) (n := 16) (by decide) hi
  have p2 : 2 ^ u < 65536 := Nat.pow_lt_pow_right (m := u) (n := 16) (by decide) hu
  have e1 : RowKit.wrap64 (2 ^ i) = ((2 ^ i : Nat) : Int) := by rw [wrap_pow hi]; exact (Int.natCast_pow 2 i).symm
  have e2 : RowKit.wrap64 (2 ^ u) = ((2 ^ u : Nat) : Int) := by rw [wrap_pow hu]; exact (Int.natCast_pow 2 u).symm
  have p3 : (2 ^ i ||| 2 ^ u) < 65536 := Nat.or_lt_two_pow (n := 16) p1 p2
  rw [e1, e2]
  generalize 2 ^ i = a at *
  generalize 2 ^ u = b at *
  rw [i64_or_nat _ _ (by omega) (by omega), i64_or_nat _ _ (by omega) (by omega)]
theorem pair_new (w : World) (i u : Nat) : Arr (w.alloc (.cells #[.int .i64 (min (i : Int) (u : Int)), .int .i64 (max (i : Int) (u : Int))] 3)) 3 w.heap.size 2 (pv (min i u, max i u)) := by
  have e1 : min (i : Int) (u : Int) = ((min i u : Nat) : Int) := by omega
  have e2 : max (i : Int) (u : Int) = ((max i u : Nat) : Int) := by omega
  rw [e1, e2]
  exact Arr.box w 3 _ _
theorem EQ.low {w : World} {B lo : Nat} {v : Value} {Q : List Ent} (h : EQ w B lo v Q) {p : Addr} (h1 : p.block < B) (h2 : p.block < lo) (u : Value) : EQ (w.setCell p u) B lo v Q := by
  refine ⟨own_setCell h.row (fun e => ?_) u, fun e he => ⟨(h.ent e he).1, (h.ent e he).2.far (by have := (h.ent e he).1; omega) u⟩, h.nd⟩
  have := (h.row.lt _ e).1
  omega
theorem Blk.of_block {w w' : World} {t : TypeId} {b : Nat} {cs : Array Value} (h : Blk w t b cs) (e : w'.heap[b]? = w.heap[b]?) : Blk w' t b cs := e.trans h
theorem cell_at_new (w : World) (v : Value) (t : TypeId) {b : Nat} (h : b = w.heap.size) : (w.alloc (.cells #[v] t)).cell? ⟨b, 0, none⟩ = some v := by subst h; simp [go_sem]
theorem EQ.not_row {w : World} {B lo r q c D : Nat} {Q : List Ent} {o : Obj} (h : EQ w B lo (.slice (some ⟨r, 0, none⟩) q c) Q) (hd : w.heap[D]? = some o) (ho : o.isCells = false) : D ≠ r := by
  rintro rfl
  rcases h.row.2 with ⟨e0, _⟩ | ⟨r', cap, cur, e0, _, hh, _⟩
  · cases e0
  · injection e0 with e1
    injection e1 with e1
    injection e1 with e1
    subst e1
    rw [hh] at hd
    injection hd with hd
    subst hd
    cases ho
theorem sizes_le {w w' : World} {B r : Nat} (h : Below B w w') (_ : B ≤ w.heap.size) (_ : ∀ k, k ≠ r → w'.heap[k]? = w.heap[k]?) (_ : r < w.heap.size) : w.heap.size ≤ w'.heap.size := h.size
set_option maxRecDepth 100000 in
theorem mtImpl_ok (g n c : Nat) (F : Nat → Nat) (own : Bool) (w : World) (hn : n ≤ 16) (hG : goodB n (nv F) = true) (hTr : treeB F n = true) (ha : Arr w 3 g n (iv (nv F))) (hT : Tab w) (hw1 : 1 < w.heap.size) :
    Calls Tryd.prog 32 #[.agg #[.slice (some ⟨g, 0, none⟩) n c, .bool own]] w (MtOk w (matchL F n)) := by
  have hgd := goodB_iff.1 hG
  have hn1 : 1 ≤ n := hgd.1
  have HA := hide ha
  have HT := hide hT
  have hgl := ha.lt
  clear ha hT
  refine (callsIn_wide (n := 9)).1 ?_
  refine callsIn_of_wp_marks Tryd.func32 rfl trivial ?_ rfl
  simp only [Tryd.ntmps32, List.size_toArray, List.length_cons, List.length_nil, Nat.reduceAdd, Nat.reduceSub, Array.replicate_succ, Array.replicate_zero, List.push_toArray, List.append_toArray, List.nil_append, List.cons_append]
  gi_wp2_with fail
  refine ⟨trivial, ?_⟩
  refine (callsIn_wide.2 (forestOf_ok g n c F own _ hn hG hTr (HA.out.alloc _) (HT.out.below (by go_grown)) (by simp; try omega))).mono ?_
  rintro e w1 ⟨gp, m, d, A, o, t, p, rfl, hrun, hlen, hgp, hpa, hol, hb1⟩
  have hm : m = n := by rw [← hlen]; exact hrun.len
  subst hm
  obtain ⟨lb, rfl, hlb, hla⟩ := ol_cases hol hrun.len (by omega)
  simp only [World.size_alloc] at hgp hlb
  have hbx := (Arr.box w 28 (.slice (some ⟨g, 0, none⟩) m c) (.bool own)).all hb1
  have hbl := hbx.lt
  have HP := hide hpa
  have HL := hide hla
  have HR := hide hrun
  have hz1 : w.heap.size < w1.heap.size := hbx.lt
  have HB1 := hide ((by go_grown : Below w.heap.size w _).trans (hb1.mono (by simp)))
  have hgpl := hpa.lt
  have hlbl := hla.lt
  clear hpa hla hrun hol hb1 hlen hbx
  gi_wp2_with fail
  refine ⟨trivial, ?_⟩
  refine (callsIn_wide.2 (back_any _ _ _ _)).mono ?_
  rintro e w2 ⟨rfl, hw2⟩
  subst w2
  simp only [World.size_alloc]
  obtain ⟨W9, hW9⟩ : ∃ W9, (((w1.alloc (.cells #[.slice (some ⟨g, 0, none⟩) m c, .bool own, .slice (some ⟨gp, 0, none⟩) m m, .slice (some ⟨lb, 0, none⟩) m d] 56)).alloc (.cells #[.slice none 0 0] 39)).alloc (.cells #[.int .i64 0] 3)).alloc (.cells #[.slice (some ⟨lb, 0, none⟩) m d] 22) = W9 := ⟨_, rfl⟩
  have hz9 : W9.heap.size = w1.heap.size + 1 + 1 + 1 + 1 := by rw [← hW9]; simp
  have HB9 : Hid (Below w.heap.size w W9) := hide (by rw [← hW9]; exact (((HB1.out.alloc HB1.out.size _).alloc (by have := HB1.out.size; simp; omega) _).alloc (by have := HB1.out.size; simp; omega) _).alloc (by have := HB1.out.size; simp; omega) _)
  have BF : Hid (Blk W9 56 w1.heap.size #[.slice (some ⟨g, 0, none⟩) m c, .bool own, .slice (some ⟨gp, 0, none⟩) m m, .slice (some ⟨lb, 0, none⟩) m d]) := hide (by rw [← hW9]; exact (((Blk.new _ _ _ rfl).alloc _).alloc _).alloc _)
  have BE : Hid (Blk W9 39 (w1.heap.size + 1) #[.slice none 0 0]) := hide (by rw [← hW9]; exact ((Blk.new _ _ _ (by simp)).alloc _).alloc _)
  have BT : Hid (Blk W9 3 (w1.heap.size + 1 + 1) #[.int .i64 0]) := hide (by rw [← hW9]; exact (Blk.new _ _ _ (by simp)).alloc _)
  have BS : Hid (Blk W9 22 (w1.heap.size + 1 + 1 + 1) #[.slice (some ⟨lb, 0, none⟩) m d]) := hide (by rw [← hW9]; exact Blk.new _ _ _ (by simp))
  have PA : Hid (Arr W9 3 gp m (iv p)) := hide (by rw [← hW9]; exact (((HP.out.alloc _).alloc _).alloc _).alloc _)
  have LB : Hid (Arr W9 3 lb m (lv (o ++ t))) := hide (by rw [← hW9]; exact (((HL.out.alloc _).alloc _).alloc _).alloc _)
  rw [hW9]
  clear hW9
  have hbl9 := BS.out.lt
  obtain ⟨el, hel⟩ : ∃ el : Nat → { x : Nat × Nat // x.2 < m }, ∀ j, j < m → (el j).1 = (j, (o ++ t).getD j 0) := by
    have hf : ∀ j, j < m → (o ++ t).getD j 0 < m := fun j hj => by
      have := HR.out.len
      rw [getD_at' _ _ (by omega)]
      exact HR.out.qu.gr.lt _ (List.getElem_mem _)
    exact ⟨fun j => if h : (o ++ t).getD j 0 < m then ⟨(j, (o ++ t).getD j 0), h⟩ else ⟨(0, 0), hn1⟩, fun j hj => by have h := hf j hj; simp only [dif_pos h]⟩
  have HEL := hide hel
  clear hel
  have hKL9 : ∀ j, j < m → W9.cell? ⟨lb, j, none⟩ = some (.int .i64 ((o ++ t).getD j 0 : Nat)) := fun j hj => LB.out.cell hj
  have hI0 : MI w g m c w1.heap.size gp lb d (w1.heap.size + 1) (w1.heap.size + 1 + 1) (w1.heap.size + 1 + 1 + 1) W9.heap.size own p [] W9 :=
    ⟨HB9.out, BF.out, BT.out, PA.out, ⟨none, 0, 0, [], BE.out, rfl, rfl, EQ.nil _ _ _, fun _ => ⟨rfl, rfl⟩⟩, Nat.le_refl _⟩
  have HI0 := hide hI0
  have hmt : ∀ l : List Nat, (∀ v ∈ l, v < m) → Mat m (mtRun p l) := fun l hl => HR.out.mat hgd.irr l hl
  have HMT := hide hmt
  have hpr : ∀ i, i < m → p i = -1 ∨ ∃ u : Nat, p i = u ∧ u < m ∧ u ≠ i := fun i hi => by
    rcases HR.out.qu.gr.par i (HR.out.all i hi) with h1 | ⟨u, h1, h2, h3⟩
    · exact .inl h1
    · rcases HR.out.par_lt hgd.irr hi with h4 | h4
      · omega
      · exact .inr h4
  have HPR := hide hpr
  clear hI0 hmt hpr
  gi_wp2_with fail
  apply wpIn_rangeFunc_ownF (F := Fence.wide) (n := 9) (α := { x : Nat × Nat // x.2 < m }) rfl (by omega) (gf := 83) (lb := #[.pointer (some ⟨w1.heap.size + 1 + 1 + 1, 0, none⟩)]) rfl trivial (enters_of Tryd.func83 (by kernel_rfl) rfl)
    (back_stops el (fun (x : { x : Nat × Nat // x.2 < m }) => #[.int .i64 (x.1.1 : Nat), .int .i64 (x.1.2 : Nat)]) Fence.wide (9 - 1) trivial rfl (by omega) (w1.heap.size + 1 + 1 + 1) w1.heap.size lb m d (fun j => (o ++ t).getD j 0) (by omega) W9 (by omega) (by omega) (by omega) (BS.out.cell 0) hKL9 (fun j hj => by rw [HEL.out j hj]))
    Kq.trans (fun W l o o' h1 h2 h3 h4 => Kq.put (w := W9) (by omega) (by omega) W l o o' h1 h2 h3 h4) (Below.refl _ _) (fun _ => rfl)
    (fun pre W => MI w g m c w1.heap.size gp lb d (w1.heap.size + 1) (w1.heap.size + 1 + 1) (w1.heap.size + 1 + 1 + 1) W9.heap.size own p (pre.map fun (x : { x : Nat × Nat // x.2 < m }) => x.1.2) W) (fun _ _ _ => False)
    (MI.own (fun (x : { x : Nat × Nat // x.2 < m }) => x.1.2) HB9.out.size) (fun _ _ _ _ _ hs _ _ => hs) HI0.out
  case hassign =>
    intro l x W K hK
    gi_wp2
    exact hK
  case hbody =>
    rintro l pre ⟨⟨xj, i⟩, hi0⟩ W hI _
    have hi : i < m := hi0
    simp only [List.map_append, List.map_cons, List.map_nil]
    obtain ⟨L0, hL0⟩ : ∃ L0, (pre.map fun (x : { x : Nat × Nat // x.2 < m }) => x.1.2) = L0 := ⟨_, rfl⟩
    have hLm : ∀ v ∈ L0, v < m := by
      intro v hv
      rw [← hL0] at hv
      obtain ⟨x, _, rfl⟩ := List.mem_map.1 hv
      exact x.2
    have HM := hide (HMT.out L0 hLm)
    rw [hL0] at hI
    have HL0 := hide hL0
    clear hL0 hLm
    have HI := hide hI
    clear hI
    obtain ⟨s, P, hs⟩ : ∃ s P, mtRun p L0 = (s, P) := ⟨_, _, rfl⟩
    have HS := hide hs
    have cb : W.cell? ⟨w1.heap.size, 2, none⟩ = some (.slice (some ⟨gp, 0, none⟩) m m) := HI.out.bf.cell 2
    have ct : W.cell? ⟨w1.heap.size + 1 + 1, 0, none⟩ = some (.int .i64 (s : Nat)) := by have := HI.out.bt.cell 0; rw [hs] at this; exact this
    have cp : W.cell? ⟨gp, i, none⟩ = some (.int .i64 (p i)) := HI.out.pa.cell hi
    have lb0 := HI.out.bf.lt
    have lt0 := HI.out.bt.lt
    have lp0 := HI.out.pa.lt
    have hiI : (i : Int) < (m : Int) := by omega
    have hi64 : (i : Int) < 64 := by omega
    have hi63 : i < 64 := by omega
    have htop := HI.out.top
    have hD0 : Bdm w1.heap.size (w1.heap.size + 1 + 1 + 1) W W := Bdm.refl _ _ _
    have HD0 := hide hD0
    clear hs hD0
    rcases HPR.out i hi with hp | ⟨u, hp, hu, hne⟩
    · rw [hp] at cp
      have HP0 := hide hp
      clear hp
      gi_wp2_with fail
      refine ⟨trivial, ?_⟩
      gi_wp2_with fail
      refine ⟨trivial, ?_⟩
      gi_wp2
      refine ⟨HD0.out.ko, HD0.out.kq, ?_⟩
      have e : mtRun p (L0 ++ [i]) = mtRun p L0 := by rw [mtRun_snoc]; unfold mtStep; rw [if_pos (by left; rw [HP0.out]; decide)]
      simp only [List.map_append, List.map_cons, List.map_nil]
      rw [HL0.out]
      exact HI.out.same e
    · rw [hp] at cp
      have HP0 := hide hp
      have huI : (u : Int) < (m : Int) := by omega
      have hu64 : (u : Int) < 64 := by omega
      have hu63 : u < 64 := by omega
      have hub : ((u : Int) == -1) = false := by simp
      clear hp
      cases hbi : s.testBit i
      · gi_wp2_with fail
        refine ⟨trivial, ?_⟩
        refine (CallsIn.inRound l (callsIn_wide.2 (has_natB s i _ hi63))).mono ?_
        rintro e w5 ⟨rfl, rfl⟩
        rw [hbi]
        cases hbu : s.testBit u
        · gi_wp2_with fail
          refine ⟨trivial, ?_⟩
          refine (CallsIn.inRound l (callsIn_wide.2 (has_natB s u _ hu63))).mono ?_
          rintro e w5 ⟨rfl, rfl⟩
          rw [hbu]
          have Qt : ∀ x : Later w5, x.w.cell? ⟨w1.heap.size + 1 + 1, 0, none⟩ = some (.int .i64 (s : Nat)) := fun x => x.cell ct
          gi_wp2_with fail
          refine wpIn_later_tail 7 (by kernel_rfl) (by kernel_rfl) (by kernel_rfl) ?_
          simp only [List.take_succ_cons, List.take_zero]
          repeat (first | go_big_quiet_skip | (go_big_quiet_want; go_big_quiet_op; go_big_quiet_on))
          refine wpQuiet_nil ?_
          rintro _ ⟨x, rfl⟩
          have HI6 := hide (HI.out.all x.is)
          have HD6 := hide (HD0.out.trans (Bdm.of_below (m := w1.heap.size) (bs := w1.heap.size + 1 + 1 + 1) x.is (by omega) (by omega)))
          have y0 : x.w.cell? ⟨w1.heap.size + 1 + 1, 0, none⟩ = some (.int .i64 (s : Nat)) := by have := HI6.out.bt.cell 0; rw [HS.out] at this; exact this
          have y1 := HI6.out.bt.frozen 0
          have y2 := HI6.out.bt.lt
          clear Qt
          simp only [List.drop_succ_cons, List.drop_zero]
          have hs16 : s < 65536 := by
            have hm16 : 2 ^ m ≤ 2 ^ 16 := Nat.pow_le_pow_right (by decide) hn
            refine Nat.lt_of_lt_of_le (m := 2 ^ m) ?_ hm16
            refine Nat.lt_pow_two_of_testBit _ fun v hv => ?_
            by_cases hb : s.testBit v = true
            · have h2 := (HM.out.bit v).1 (by rw [HS.out]; exact hb)
              have := HM.out.lt v h2
              omega
            · simpa using hb
          have hv := take_or s i u hs16 (by omega) (by omega)
          rw [hv]
          clear hv
          obtain ⟨s', hs'⟩ : ∃ s', (s ||| (2 ^ i ||| 2 ^ u)) = s' := ⟨_, rfl⟩
          rw [hs']
          obtain ⟨A, m', c', Q, e1, e2, e3, e4, _⟩ := HI6.out.ed
          have f1 : x.w.cell? ⟨w1.heap.size + 1, 0, none⟩ = some (.slice A m' c') := e1.cell 0
          have f2 := e1.frozen 0
          have f3 := e1.lt
          have E1 := hide e1
          have E2 := hide e2
          have E3 := hide e3
          have E4 := hide e4
          clear e1 e2 e3 e4

          have hne2 : ∀ q ∈ Q, q.1 ≠ x.w.heap.size := fun q hq => by have := E4.out.lt hq; omega
          have HNE := hide hne2
          clear hne2
          have hmlen : m' ≤ 1048576 := by
            have h : 2 * P.length ≤ m := by have h := HM.out.len; rw [HS.out] at h; exact h
            have h2 : P.length = m' := by rw [← E2.out, ← List.length_map (f := fun e : Ent => e.2), E3.out, HS.out]
            omega
          have hxs : W9.heap.size ≤ x.w.heap.size := HI6.out.top
          obtain ⟨Y, hY⟩ : ∃ Y, x.w.setCell ⟨w1.heap.size + 1 + 1, 0, none⟩ (.int .i64 (s' : Nat)) = Y := ⟨_, rfl⟩
          have hYs : Y.heap.size = x.w.heap.size := by rw [← hY]; simp [World.setCell]
          have HYE : Hid (Blk Y 39 (w1.heap.size + 1) #[.slice A m' c']) := hide (by rw [← hY]; exact E1.out.far (p := ⟨w1.heap.size + 1 + 1, 0, none⟩) (by show w1.heap.size + 1 ≠ w1.heap.size + 1 + 1; omega) _)
          have HYT : Hid (Blk Y 3 (w1.heap.size + 1 + 1) #[.int .i64 (s' : Nat)]) := hide (by rw [← hY]; have h := HI6.out.bt.set 0 (.int .i64 (s' : Nat)); simpa using h)
          have HYQ : Hid (EQ Y W9.heap.size W9.heap.size (.slice A m' c') Q) := hide (by rw [← hY]; exact E4.out.low (by show w1.heap.size + 1 + 1 < W9.heap.size; omega) (by show w1.heap.size + 1 + 1 < W9.heap.size; omega) _)
          have HYB : Hid (∀ b, b < W9.heap.size → b ≠ w1.heap.size + 1 + 1 → Y.heap[b]? = x.w.heap[b]?) := hide fun b _ hb => by rw [← hY]; exact Below.heap_setCell _ _ _ _ (by exact hb)
          have HYD : Hid (Bdm w1.heap.size (w1.heap.size + 1 + 1 + 1) x.w Y) := hide (by rw [← hY]; exact Bdm.set (by omega) (by omega))
          have HPN : Hid (Arr (Y.alloc (.cells #[.int .i64 (min (i : Int) (u : Int)), .int .i64 (max (i : Int) (u : Int))] 3)) 3 x.w.heap.size 2 (pv (min i u, max i u))) := hide (by rw [← hYs]; exact pair_new Y i u)
          have c1 : Y.cell? ⟨w1.heap.size + 1, 0, none⟩ = some (.slice A m' c') := HYE.out.cell 0
          have c2 := HYE.out.frozen 0
          have c3 := HYE.out.lt
          gi_wp2_with (gi_at_builtin; refine Hid.out ?_)
          refine hide ?_
          (refine wpListIn_append_ent _ rfl _ _ rfl W9.heap.size W9.heap.size A c' m' Q (min i u, max i u) (x.w.heap.size + 1) x.w.heap.size rfl ((HYQ.out.alloc _).alloc _) E2.out rfl (cell_at_new _ _ _ (by rw [World.size_alloc, hYs])) (HPN.out.alloc _) (by omega) (fun q hq => HNE.out q hq) hmlen (by simp; omega) ?_; intro A5 c5 w6 hE5 hb5 hk5 hg5; have HE5 := hide hE5; have HB5 := hide hb5; have HK5 := hide hk5; have z0 : w6.cell? ⟨w1.heap.size + 1, 0, none⟩ = some (.slice A m' c') := ((((HYE.out.alloc _).alloc _).of_block (hb5.block _ (by omega))).cell 0); have z1 := (((HYE.out.alloc _).alloc _).of_block (hb5.block _ (by omega))).frozen 0; have z2 : w1.heap.size + 1 < w6.heap.size := Nat.lt_of_lt_of_le c3 (by have h := Below.size hb5; rw [World.size_alloc, World.size_alloc] at h; omega); clear hE5 hb5 hk5 hg5)
          gi_wp2
          obtain ⟨W', hW'⟩ : ∃ W', w6.setCell ⟨w1.heap.size + 1, 0, none⟩ (.slice A5 (m' + 1) c5) = W' := ⟨_, rfl⟩
          have hst : ∀ b, b < W9.heap.size → b ≠ w1.heap.size + 1 + 1 → b ≠ w1.heap.size + 1 → W'.heap[b]? = x.w.heap[b]? := fun b hb h1 h2 => by
            rw [← hW', Below.heap_setCell _ _ _ _ (by exact h2), HB5.out.block b hb, Below.heap_alloc _ _ _ (by simp; omega), Below.heap_alloc _ _ _ (by omega), HYB.out b hb h1]
          have h6 : Bdm w1.heap.size (w1.heap.size + 1 + 1 + 1) Y w6 := by
            refine Bdm.trans (B := (Y.alloc (.cells #[.int .i64 (min (i : Int) (u : Int)), .int .i64 (max (i : Int) (u : Int))] 3)).alloc (.cells #[.slice (some ⟨x.w.heap.size, 0, none⟩) 2 2] 22)) ?_ ?_
            · refine Bdm.of_below (((Below.refl _ _).alloc (Nat.le_refl _) _).alloc (by simp) _) (by omega) (by omega)
            · exact ⟨⟨HB5.out.mono (by omega), HB5.out.block _ (by omega)⟩, HK5.out⟩
          have HDf : Bdm w1.heap.size (w1.heap.size + 1 + 1 + 1) w5 W' := by
            rw [← hW']
            exact ((HD6.out.trans HYD.out).trans h6).trans (Bdm.set (by omega) (by omega))
          rw [hW']
          refine ⟨HDf.ko, HDf.kq, ?_⟩
          have e : mtRun p (L0 ++ [i]) = (s', P ++ [(min i u, max i u)]) := by
            rw [mtRun_snoc, HS.out]
            unfold mtStep
            rw [HP0.out]
            simp only [Int.toNat_natCast, hbi, hbu, hs']
            rw [if_neg (by simp)]
          simp only [List.map_append, List.map_cons, List.map_nil]
          rw [HL0.out]
          refine ⟨HI.out.be.trans (HDf.kq.1.mono HB1.out.size), HI6.out.bf.of_block (hst _ (by omega) (by omega) (by omega)), ?_, HI6.out.pa.of_block (hst _ (by omega) (by omega) (by omega)), ⟨A5, m' + 1, c5, Q ++ [(x.w.heap.size, (min i u, max i u))], ?_, by simp [E2.out], ?_, ?_, fun h => absurd h (by simp)⟩, ?_⟩
          · rw [e, ← hW']
            exact (((HYT.out.alloc _).alloc _).of_block (HB5.out.block _ (by omega))).far (p := ⟨w1.heap.size + 1, 0, none⟩) (by show w1.heap.size + 1 + 1 ≠ w1.heap.size + 1; omega) _
          · rw [← hW']
            have h := (((HYE.out.alloc _).alloc _).of_block (HB5.out.block _ (by omega))).set 0 (.slice A5 (m' + 1) c5)
            simpa using h
          · rw [List.map_append, E3.out, HS.out, e]
            rfl
          · rw [← hW']
            exact HE5.out.low (by show w1.heap.size + 1 < W9.heap.size; omega) (by show w1.heap.size + 1 < W9.heap.size; omega) _
          · have h := HB5.out.size
            have h2 := HDf.ko.size
            omega
        · gi_wp2_with fail
          refine ⟨trivial, ?_⟩
          refine (CallsIn.inRound l (callsIn_wide.2 (has_natB s u _ hu63))).mono ?_
          rintro e w5 ⟨rfl, rfl⟩
          rw [hbu]
          gi_wp2
          refine ⟨HD0.out.ko, HD0.out.kq, ?_⟩
          have e : mtRun p (L0 ++ [i]) = mtRun p L0 := by rw [mtRun_snoc]; unfold mtStep; rw [if_pos (by right; right; rw [HP0.out, HS.out]; simpa using hbu)]
          simp only [List.map_append, List.map_cons, List.map_nil]
          rw [HL0.out]
          exact HI.out.same e
      · gi_wp2_with fail
        refine ⟨trivial, ?_⟩
        refine (CallsIn.inRound l (callsIn_wide.2 (has_natB s i _ hi63))).mono ?_
        rintro e w5 ⟨rfl, rfl⟩
        rw [hbi]
        gi_wp2_with fail
        refine ⟨trivial, ?_⟩
        gi_wp2
        refine ⟨HD0.out.ko, HD0.out.kq, ?_⟩
        have e : mtRun p (L0 ++ [i]) = mtRun p L0 := by rw [mtRun_snoc]; unfold mtStep; rw [if_pos (by right; left; rw [HS.out]; exact hbi)]
        simp only [List.map_append, List.map_cons, List.map_nil]
        rw [HL0.out]
        exact HI.out.same e
  case hdone =>
    rintro D xs W hD rfl hI hK
    have hseq : ((bk el m m).map fun (x : { x : Nat × Nat // x.2 < m }) => x.1.2) = (ordL F m).reverse := by
      rw [← HR.out.ord, ← map_back' _ _ HR.out.len, bk, List.map_map]
      apply List.map_congr_left
      intro j hj
      have := List.mem_range.1 hj
      simp [HEL.out (m - 1 - j) (by omega)]
    rw [hseq] at hI
    have hlt : ∀ v ∈ (ordL F m).reverse, v < m := fun v hv => by
      rw [← HR.out.ord] at hv
      exact HR.out.qu.gr.lt v (List.mem_reverse.1 hv)
    have HM := hide (HMT.out _ hlt)
    have HPE : Hid ((mtRun p (ordL F m).reverse).2 = (mtRun (parV F m) (ordL F m).reverse).2) := hide (by rw [mtRun_same fun v hv => HR.out.par hgd.sym hn v (hlt v hv)])
    obtain ⟨A, q, c', Q, e1, e2, e3, e4, e5⟩ := hI.ed
    have hbe := hide hI.be
    have htop := hI.top
    have HDK := hide hK
    have y1 : W.cell? ⟨w1.heap.size + 1, 0, none⟩ = some (.slice A q c') := e1.cell 0
    have y2 := e1.lt
    have hq8 : q ≤ 12 := by
      have h := HM.out.len
      rw [← e3, List.length_map, e2] at h
      omega
    have E1 := hide e1
    have E3 := hide e3
    have E4 := hide e4
    clear hseq hlt hI e1 e3 e4 hK
    by_cases hQ : Q = []
    · obtain ⟨rfl, rfl⟩ := e5 hQ
      have hq0 : q = 0 := by rw [← e2, hQ]; rfl
      subst hq0
      gi_wp2_with fail
      refine ⟨trivial, ?_⟩
      refine (callsIn_wide.2 (sort_nil _ _)).mono ?_
      rintro e w5 ⟨rfl, rfl⟩
      gi_wp2
      refine ⟨by simp, .inl ⟨_, _, rfl, run_takeDeferred HDK.out, ?_⟩⟩
      refine ⟨_, results_tmp2 rfl _ _ _, none, 0, 0, [], rfl, rfl, ?_, EQ.nil _ _ _, ?_⟩
      · unfold matchL
        rw [← HPE.out, ← E3.out, hQ]
        rfl
      · exact hbe.out.trans (belowK_b (w := w) (Nat.le_refl _) w5 D _ _ (by have := HB9.out.size; omega) HDK.out rfl rfl)
    · have e2' := e2
      obtain ⟨r, cap, e0, hBr, hrl, hnr, hcs⟩ := E4.out.cells hQ
      rw [e2'] at e0
      injection e0 with ea eb ec
      subst ea ec
      have HCall := hide (sort_any W W9.heap.size W9.heap.size r c' q Q e2 E4.out hQ (by rw [E3.out]; exact HM.out.firsts) hq8 htop)
      clear hcs e5
      gi_wp2_with fail
      refine ⟨trivial, ?_⟩
      refine (callsIn_wide.2 HCall.out).mono ?_
      rintro e w5 ⟨rfl, Q', hQ1, hQ2, hQ3, hb5, hk5⟩
      have hDr : D ≠ r := E4.out.not_row HDK.out rfl
      have x1 : w5.cell? ⟨w1.heap.size + 1, 0, none⟩ = some (.slice (some ⟨r, 0, none⟩) q c') := (hb5.cell (p := ⟨w1.heap.size + 1, 0, none⟩) (by show w1.heap.size + 1 < W9.heap.size; omega)).trans y1
      have x2 : w1.heap.size + 1 < w5.heap.size := Nat.lt_of_lt_of_le y2 (Nat.le_trans (by
        have h := HDK.out
        exact Nat.le_refl _) (sizes_le hb5 htop hk5 hrl))
      have HD5 : Hid (w5.heap[D]? = some (.deferred (some []))) := hide ((hk5 D hDr).trans HDK.out)
      have HQ3 := hide hQ3
      have HQ1 := hide hQ1
      have HQ2 := hide hQ2
      have HB5 := hide (hbe.out.trans (hb5.mono HB9.out.size))
      clear hQ1 hQ2 hQ3 hb5 hk5 y1
      gi_wp2
      refine ⟨by simp, .inl ⟨_, _, rfl, run_takeDeferred HD5.out, ?_⟩⟩
      refine ⟨_, results_tmp2 rfl _ _ _, some ⟨r, 0, none⟩, q, c', Q', rfl, HQ2.out, ?_, ?_, ?_⟩
      · unfold matchL
        rw [HQ1.out, E3.out, HPE.out]
      · refine EQ.mono (HQ3.out.kept (grownBy_putObj' w5 D _) fun r' er => ?_) HB9.out.size HB9.out.size
        injection er with er
        subst er
        refine ⟨fun e => ?_, fun e he e2 => ?_⟩
        · simp only [Value.ownBlock, Option.some.injEq] at e
          exact hDr e.symm
        · obtain ⟨cs, hc, _⟩ := id (HQ3.out.ent e he).2
          rw [e2, HD5.out] at hc
          cases hc
      · exact HB5.out.trans (belowK_b (w := w) (Nat.le_refl _) w5 D _ _ (by have := HB9.out.size; omega) HD5.out rfl rfl)
  case hstop =>
    rintro D c pre W _ _ h _
    exact h.elim
end Go.Proofs.YtmcimfblhpflnaaDoor
