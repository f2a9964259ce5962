/-
askBelow: the numbers for an even and for an odd number of pressed children.
-/
import Derived.Test.YtmcimfblhpflnaaDoorTK
import Derived.Deep.RegionHeld3
namespace Go.Proofs.YtmcimfblhpflnaaDoor
open Go.RowKit Go.BigFrame
set_option maxHeartbeats 4000000
attribute [local go_sem] m_both71 m_both72 m_either71 m_either72 m_none71 m_none72 m_single71 m_single72 n_both71 n_both72 n_either71 n_either72
set_option maxRecDepth 4000 in
theorem children_cells (fb g n c gp cp i : Nat) (F : Nat → Nat) (p : Nat → Int) (w : World) (hi : i < n) (_ : n ≤ 16) (hF : F i < 65536)
    (k0 : w.cell? ⟨fb, 0, none⟩ = some (.slice (some ⟨g, 0, none⟩) n c)) (k2 : w.cell? ⟨fb, 2, none⟩ = some (.slice (some ⟨gp, 0, none⟩) n cp)) (kn : w.cell? ⟨g, i, none⟩ = some (.int .i64 (F i : Nat))) (kp : w.cell? ⟨gp, i, none⟩ = some (.int .i64 (p i))) (hp : p i = -1 ∨ (0 ≤ p i ∧ p i < 16)) :
    Calls Tryd.prog 101 #[.pointer (some ⟨fb, 0, none⟩), .int .i64 i] w fun e w' => e = .returned (.int .i64 (ch F p i : Nat)) ∧ Below w.heap.size w w' := by
  have hin : (i : Int) < (n : Int) := by omega
  by_cases h : p i = -1
  · rw [h] at kp
    have hc : ch F p i = F i := by rw [ch, if_pos h]
    rw [hc]
    clear h hp
    go_enter Tryd.func101, Tryd.ntmps101
    go_wp2
    go_ret
    exact ⟨rfl, Below.refl _ _⟩
  · obtain ⟨q, hq⟩ : ∃ q : Nat, p i = (q : Int) := ⟨(p i).toNat, by omega⟩
    have hq16 : q < 16 := by omega
    have hc : ch F p i = F i ^^^ (F i &&& 2 ^ q) := by rw [ch, if_neg h, hq, Int.toNat_natCast]
    rw [hc]
    rw [hq] at kp
    have e1 := wrap_pow hq16
    have e2 := andNot_nat (F i) (2 ^ q) hF (pow_lt16 hq16)
    have hqn : ((q : Int) == -1) = false := by simp
    have hq0 : (0 : Int) ≤ (q : Int) := by omega
    have hq1 : (q : Int) < 64 := by omega
    rw [pow_nat] at e2
    clear h hp hc hq
    go_enter Tryd.func101, Tryd.ntmps101
    go_wp2_with fail
    go_region
    first | go_ret | (go_wp2; go_ret)
    exact ⟨by simp [e1], below_drewN (Below.refl _ _) 1⟩
def cpA (a : Act) (v11 v12 v13 v14 v15 v16 : Value) : Act := (((((a.put (some 11) v11).put (some 12) v12).put (some 13) v13).put (some 14) v14).put (some 15) v15).put (some 16) v16
theorem keepB {W w' : World} {b o : Nat} {v : Value} (h : Hid (Below W.heap.size W w')) (hc : W.cell? ⟨b, o, none⟩ = some v) : w'.cell? ⟨b, o, none⟩ = some v := (h.out.cell (p := ⟨b, o, none⟩) (World.block_lt_of_cell? W _ hc)).trans hc
theorem keepS {W : World} {b o c d : Nat} {u v : Value} (hc : W.cell? ⟨b, o, none⟩ = some v) (h : b ≠ c) : (W.setCell ⟨c, d, none⟩ u).cell? ⟨b, o, none⟩ = some v := (World.cell?_of_block (Below.heap_setCell W ⟨c, d, none⟩ u b h)).trans hc
/-- A box of one cell, whatever it holds. -/
def Bx1 (w : World) (b : Nat) : Prop := ∃ x, Blk w 3 b #[x]
theorem blk1_set {w : World} {b : Nat} {u : Value} (h : Bx1 w b) : Blk (w.setCell ⟨b, 0, none⟩ u) 3 b #[u] := by
  obtain ⟨x, h⟩ := h
  have := h.set 0 u
  simpa using this
theorem Bx1.new {w : World} {x : Value} : Bx1 (w.alloc (.cells #[x] 3)) w.heap.size := ⟨x, Blk.new _ _ _ rfl⟩
theorem Bx1.new' {w : World} {x : Value} {b : Nat} (h : b = w.heap.size) : Bx1 (w.alloc (.cells #[x] 3)) b := ⟨x, Blk.new _ _ _ h⟩
theorem Bx1.alloc {w : World} {b : Nat} {o : Obj} (h : Bx1 w b) : Bx1 (w.alloc o) b := h.imp fun _ h => h.alloc _
theorem Bx1.drew {w : World} {b : Nat} (h : Bx1 w b) : Bx1 w.drew b := h
theorem Bx1.far {w : World} {b c d : Nat} {u : Value} (h : Bx1 w b) (hne : b ≠ c) : Bx1 (w.setCell ⟨c, d, none⟩ u) b := h.imp fun _ h => h.far (p := ⟨c, d, none⟩) hne _
theorem Bx1.B {W w' : World} {b : Nat} (hb : Hid (Below W.heap.size W w')) (h : Bx1 W b) : Bx1 w' b := h.imp fun _ h => h.all hb.out
theorem blkB {W w' : World} {b : Nat} {cs : Array Value} (h : Hid (Below W.heap.size W w')) (hc : Blk W 3 b cs) : Blk w' 3 b cs := hc.all h.out
theorem belowB {B : Nat} {W0 W w' : World} (h : Hid (Below W.heap.size W w')) (hb : Below B W0 W) (hB : B ≤ W0.heap.size) : Below B W0 w' := hb.trans (h.out.mono (Nat.le_trans hB hb.size))
/-- Behind the start of askBelow: two boxes. -/
def AskX (W0 : World) (A : Acc Int) (v11 v12 : Value) (w' : World) : Prop :=
  ∃ eb ob, v11 = .pointer (some ⟨eb, 0, none⟩) ∧ v12 = .pointer (some ⟨ob, 0, none⟩) ∧ W0.heap.size ≤ eb ∧ W0.heap.size ≤ ob ∧ eb ≠ ob ∧ Blk w' 3 eb #[.int .i64 (A.single 0)] ∧ Blk w' 3 ob #[.int .i64 A.none] ∧ Below W0.heap.size W0 w'
def regA (a : Act) (X : Value → Value → World → Prop) : Exit → Act → World → Prop
  | .normal, a', w' => ∃ (v11 v12 v13 v14 v15 v16 : Value), a' = cpA a v11 v12 v13 v14 v15 v16 ∧ X v11 v12 w'
  | _, _, _ => False
theorem regCutA {P : Program} {c : Code} {Q : Exit → Act → World → Prop} {a : Act} {w : World} (X : Value → Value → World → Prop)
    (reg : c.wp P (regA a X) a w)
    (cont : ∀ (v11 v12 v13 v14 v15 v16 : Value) (w' : World), X v11 v12 w' → Q .normal (cpA a v11 v12 v13 v14 v15 v16) w') : c.wp P Q a w :=
  Code.wp_mono (fun e a' w' h => by
    cases e <;> simp only [regA] at h
    obtain ⟨v11, v12, v13, v14, v15, v16, rfl, h⟩ := h
    exact cont v11 v12 v13 v14 v15 v16 w' h) reg
theorem ch_range {F : Nat → Nat} {n : Nat} {o t : List Nat} {p : Nat → Int} (h : Run F n o t p) (hn : n ≤ 16) {i : Nat} (hi : i < n) : p i = -1 ∨ (0 ≤ p i ∧ p i < 16) := by
  rcases h.qu.gr.par i (h.all i hi) with e | ⟨u, hu, e, _⟩
  · exact .inl e
  · have := h.qu.gr.lt u hu
    exact .inr (by omega)
set_option maxRecDepth 8000 in
theorem askBelow71 (fb g n c gp cp tb nc i pr : Nat) (F : Nat → Nat) (p : Nat → Int) (v : Nat → Nat → Nat → Int) (w : World) (hi : i < n) (hn : n ≤ 16) (hpr : pr < 2) (hF : F i < 65536) (hQ : ∀ j, (ch F p i).testBit j = true ↔ j < n ∧ p j = (i : Nat)) (hT : Tab w) (hw1 : 1 < w.heap.size)
    (k0 : w.cell? ⟨fb, 0, none⟩ = some (.slice (some ⟨g, 0, none⟩) n c)) (k2 : w.cell? ⟨fb, 2, none⟩ = some (.slice (some ⟨gp, 0, none⟩) n cp)) (kn : w.cell? ⟨g, i, none⟩ = some (.int .i64 (F i : Nat))) (kp : w.cell? ⟨gp, i, none⟩ = some (.int .i64 (p i))) (hp : p i = -1 ∨ (0 ≤ p i ∧ p i < 16)) (htb : tb < w.heap.size)
    (hV : ∀ j, j < n → p j = (i : Nat) → w.cell? ⟨tb, j * 4 + pr, none⟩ = some (.int .i64 (v j 0 pr)) ∧ w.cell? ⟨tb, j * 4 + 2 + pr, none⟩ = some (.int .i64 (v j 1 pr))) :
    Calls Tryd.prog 115 #[.pointer (some ⟨fb, 0, none⟩), .iface 71 (.agg #[]), .slice (some ⟨tb, 0, none⟩) n nc, .int .i64 (i : Nat), .int .i64 (pr : Nat)] w fun e w' =>
      e = .returned (.agg #[.int .i64 (kRun accCI v pr (kids p n i)).1, .int .i64 (kRun accCI v pr (kids p n i)).2]) ∧ Below w.heap.size w w' := by
  have HQ := hide hQ
  have HT := hide hT
  have HV := hide hV
  have hq16 := ch_lt F p i hF
  have HP := hide hp
  have K0 := hide k0
  have K2 := hide k2
  have KN := hide kn
  have KP := hide kp
  have e1 : w.heap.size + 1 < w.heap.size + 1 + 1 + 1 + 1 := by omega
  have C1 : Hid (∀ w, Calls Tryd.prog 158 #[.agg #[], .int .i64 0] w fun e w' => e = .returned (.int .i64 (accCI.single 0)) ∧ Below w.heap.size w w') := hide fun w => single71 0 w
  have C2 : Hid (∀ w, Calls Tryd.prog 157 #[.agg #[]] w _) := hide fun w => none71 w
  obtain ⟨W0, hW0⟩ : ∃ W0, (((w.alloc (Obj.cells #[Value.iface 71 (Value.agg #[])] 88)).alloc (Obj.cells #[Value.slice (some ⟨tb, 0, none⟩) n nc] 106)).alloc (Obj.cells #[Value.int .i64 (pr : Nat)] 3)).alloc (Obj.cells #[.int .i64 0, .int .i64 0] 107) = W0 := ⟨_, rfl⟩
  have hB0 : Below w.heap.size w W0 := by rw [← hW0]; go_grown
  have hz0 : W0.heap.size = w.heap.size + 1 + 1 + 1 + 1 := by rw [← hW0]; simp
  have b6 : W0.cell? ⟨w.heap.size, 0, none⟩ = some (.iface 71 (.agg #[])) := by rw [← hW0]; simp [go_sem]
  have b7 : W0.cell? ⟨w.heap.size + 1, 0, none⟩ = some (.slice (some ⟨tb, 0, none⟩) n nc) := by rw [← hW0]; simp [go_sem]
  have b9 : W0.cell? ⟨w.heap.size + 1 + 1, 0, none⟩ = some (.int .i64 (pr : Nat)) := by rw [← hW0]; simp [go_sem]
  have b10 : Blk W0 107 (w.heap.size + 1 + 1 + 1) #[.int .i64 0, .int .i64 0] := by rw [← hW0]; exact Blk.new _ _ _ (by simp)
  have Q : ∀ x : Later W0, x.w.cell? ⟨w.heap.size, 0, none⟩ = some (.iface 71 (.agg #[])) := fun x => x.cell b6
  have HB0 := hide hB0
  have B6 := hide b6
  have B7 := hide b7
  have B9 := hide b9
  have BX : Hid (W0.drew.cell? ⟨w.heap.size, 0, none⟩ = some (.iface 71 (.agg #[]))) := hide b6
  have hwl : w.heap.size < W0.heap.size := by omega
  have HZ0 := hide hz0
  clear hz0
  have B10 := hide b10
  clear hQ hT hV hp k0 k2 kn kp hB0 b10 Q
  go_enter Tryd.func115, Tryd.ntmps115
  go_wp2_with fail
  try rw [hW0]
  clear hW0
  apply regCutA (AskX W0 accCI)
  case reg =>
    go_region_held3 (fun w' => w'.cell? ⟨w.heap.size, 0, none⟩ = some (.iface 71 (.agg #[]))) (((repeat (first | exact BX.out | refine al_cell ?_ _ | refine keepB (by assumption) ?_ | refine keepS ?_ (by simp; omega))); done)) (first
      | (go_simp; go_at_call 158; refine (C1.out _).mono ?_; rintro e w1 ⟨rfl, hb1⟩; have yq1 : w1.cell? ⟨w.heap.size, 0, none⟩ = some (.iface 71 (.agg #[])) := (hb1.cell (p := ⟨w.heap.size, 0, none⟩) (by simp; omega)).trans (by simp [go_sem, b6, hwl]); have yw1 : w.heap.size < w1.heap.size := (by have q := hb1.size; (try simp [go_sem] at q); omega); have ychb10 := fun h => hb1.cell (p := ⟨W0.heap.size, 0, none⟩) h; (try simp [go_sem] at ychb10); have yfhb10 := fun h => hb1.frozen (p := ⟨W0.heap.size, 0, none⟩) h; (try simp [go_sem] at yfhb10); have yshb10 := fun h => Nat.lt_of_lt_of_le (n := W0.heap.size) h hb1.size; (try simp [go_sem] at yshb10); have ybhb10 := fun h => hb1.block (W0.heap.size) h; have ychb11 := fun h => hb1.cell (p := ⟨W0.heap.size + 1, 0, none⟩) h; (try simp [go_sem] at ychb11); have yfhb11 := fun h => hb1.frozen (p := ⟨W0.heap.size + 1, 0, none⟩) h; (try simp [go_sem] at yfhb11); have yshb11 := fun h => Nat.lt_of_lt_of_le (n := W0.heap.size + 1) h hb1.size; (try simp [go_sem] at yshb11); have ybhb11 := fun h => hb1.block (W0.heap.size + 1) h; have hz1 := hb1.size; (try simp only [World.size_alloc, World.size_drew] at hz1); have HB1 := hide hb1; clear hb1; go_simp)
      | (go_simp; go_at_call 157; refine (C2.out _).mono ?_; rintro e w2 ⟨rfl, hb2⟩; have yq2 : w2.cell? ⟨w.heap.size, 0, none⟩ = some (.iface 71 (.agg #[])) := (hb2.cell (p := ⟨w.heap.size, 0, none⟩) (by simp; omega)).trans (by simp [go_sem, yq1, yw1]); have yw2 : w.heap.size < w2.heap.size := (by have q := hb2.size; (try simp [go_sem] at q); omega); have ychb20 := fun h => hb2.cell (p := ⟨W0.heap.size, 0, none⟩) h; (try simp [go_sem] at ychb20); have yfhb20 := fun h => hb2.frozen (p := ⟨W0.heap.size, 0, none⟩) h; (try simp [go_sem] at yfhb20); have yshb20 := fun h => Nat.lt_of_lt_of_le (n := W0.heap.size) h hb2.size; (try simp [go_sem] at yshb20); have ybhb20 := fun h => hb2.block (W0.heap.size) h; have ychb21 := fun h => hb2.cell (p := ⟨W0.heap.size + 1, 0, none⟩) h; (try simp [go_sem] at ychb21); have yfhb21 := fun h => hb2.frozen (p := ⟨W0.heap.size + 1, 0, none⟩) h; (try simp [go_sem] at yfhb21); have yshb21 := fun h => Nat.lt_of_lt_of_le (n := W0.heap.size + 1) h hb2.size; (try simp [go_sem] at yshb21); have ybhb21 := fun h => hb2.block (W0.heap.size + 1) h; have ychb22 := fun h => hb2.cell (p := ⟨w1.heap.size, 0, none⟩) h; (try simp [go_sem] at ychb22); have yfhb22 := fun h => hb2.frozen (p := ⟨w1.heap.size, 0, none⟩) h; (try simp [go_sem] at yfhb22); have yshb22 := fun h => Nat.lt_of_lt_of_le (n := w1.heap.size) h hb2.size; (try simp [go_sem] at yshb22); have ybhb22 := fun h => hb2.block (w1.heap.size) h; have ychb23 := fun h => hb2.cell (p := ⟨w1.heap.size + 1, 0, none⟩) h; (try simp [go_sem] at ychb23); have yfhb23 := fun h => hb2.frozen (p := ⟨w1.heap.size + 1, 0, none⟩) h; (try simp [go_sem] at yfhb23); have yshb23 := fun h => Nat.lt_of_lt_of_le (n := w1.heap.size + 1) h hb2.size; (try simp [go_sem] at yshb23); have ybhb23 := fun h => hb2.block (w1.heap.size + 1) h; have hz2 := hb2.size; (try simp only [World.size_alloc] at hz2); have HB2 := hide hb2; clear hb2; go_simp))
    all_goals
      (refine (show regA _ _ .normal _ _ from ?_); simp only [regA])
      (repeat apply Exists.intro)
      refine ⟨?hF, ?hL⟩
      case hF =>
        simp only [cpA, Act.put, List.setIfInBounds_toArray, List.set_cons_zero, List.set_cons_succ]
        rfl
      case hL =>
        refine ⟨_, _, rfl, rfl, by omega, by omega, by omega, ?_, ?_, ?_⟩
        · (repeat (first | exact Blk.new _ _ _ rfl | exact Blk.new _ _ _ (by simp; done) | refine blk1_set ?_ | exact Bx1.new | (refine Bx1.new' ?hs; case hs => (simp; done)) | (refine Bx1.far ?_ ?hs; case hs => (first | omega | (simp; done) | (simp; omega))) | refine Bx1.B (by assumption) ?_ | refine Bx1.drew ?_ | refine Bx1.alloc ?_ | (refine Blk.far ?_ ?hs _; case hs => (first | omega | (simp; done) | (simp; omega))) | refine blkB (by assumption) ?_ | refine Blk.drew ?_ | refine Blk.alloc ?_ _))
        · (repeat (first | exact Blk.new _ _ _ rfl | exact Blk.new _ _ _ (by simp; done) | refine blk1_set ?_ | exact Bx1.new | (refine Bx1.new' ?hs; case hs => (simp; done)) | (refine Bx1.far ?_ ?hs; case hs => (first | omega | (simp; done) | (simp; omega))) | refine Bx1.B (by assumption) ?_ | refine Bx1.drew ?_ | refine Bx1.alloc ?_ | (refine Blk.far ?_ ?hs _; case hs => (first | omega | (simp; done) | (simp; omega))) | refine blkB (by assumption) ?_ | refine Blk.drew ?_ | refine Blk.alloc ?_ _))
        · (repeat (first | exact Below.refl _ _ | refine Below.drew ?_ | (refine Below.setCell ?_ ?hs _; case hs => (first | omega | (simp; done) | (simp; omega))) | refine belowB (by assumption) ?_ (Nat.le_refl _) | (refine Below.alloc ?_ ?hs _; case hs => (first | omega | (simp; done) | (simp; omega)))))
  case cont =>
    intro v11 v12 v13 v14 v15 v16 w1 hX
    obtain ⟨eb, ob, rfl, rfl, heb, hob, hne, hbe, hbo, hb1⟩ := hX
    simp only [cpA, Act.put, List.setIfInBounds_toArray, List.set_cons_zero, List.set_cons_succ]
    have HE := hide hbe
    have HO := hide hbo
    have HB1 := hide hb1
    have hz1 := hb1.size
    have hzz := HZ0.out
    have HBw := hide (HB0.out.trans (hb1.mono HB0.out.size))
    have old : ∀ (b o : Nat) (v : Value), w.cell? ⟨b, o, none⟩ = some v → w1.cell? ⟨b, o, none⟩ = some v := fun b o v h => (HBw.out.cell (p := ⟨b, o, none⟩) (World.block_lt_of_cell? w _ h)).trans h
    have HCh := hide (children_cells fb g n c gp cp i F p w1 hi hn hF (old _ _ _ K0.out) (old _ _ _ K2.out) (old _ _ _ KN.out) (old _ _ _ KP.out) HP.out)
    have HOld := hide old
    clear hbe hbo hb1 old hzz b6 b7 b9 BX
    have x6 : w1.cell? ⟨w.heap.size, 0, none⟩ = some (.iface 71 (.agg #[])) := (HB1.out.cell (p := ⟨w.heap.size, 0, none⟩) hwl).trans B6.out
    have x7 : w1.cell? ⟨w.heap.size + 1, 0, none⟩ = some (.slice (some ⟨tb, 0, none⟩) n nc) := (HB1.out.cell (p := ⟨w.heap.size + 1, 0, none⟩) (show w.heap.size + 1 < W0.heap.size by have := HZ0.out; omega)).trans B7.out
    have x9 : w1.cell? ⟨w.heap.size + 1 + 1, 0, none⟩ = some (.int .i64 (pr : Nat)) := (HB1.out.cell (p := ⟨w.heap.size + 1 + 1, 0, none⟩) (show w.heap.size + 1 + 1 < W0.heap.size by have := HZ0.out; omega)).trans B9.out
    have X10 := hide (B10.out.below HB1.out (show w.heap.size + 1 + 1 + 1 < W0.heap.size by have := HZ0.out; omega))
    go_wp2_with fail
    refine HCh.out.mono ?_
    rintro e w2 ⟨rfl, hb2⟩
    have HB2 := hide hb2
    have hsz := HZ0.out
    have HEa := hide (eachKids71 (w.heap.size + 1) (w.heap.size + 1 + 1) w.heap.size eb ob tb n nc i pr (ch F p i) p v w2 hn hpr hq16 HQ.out ((HT.out.below' HBw.out hw1).below hb2) (by omega) (by omega) hne
      ((hb2.cell (p := ⟨w.heap.size + 1, 0, none⟩) (World.block_lt_of_cell? w1 _ x7)).trans x7) ((hb2.cell (p := ⟨w.heap.size + 1 + 1, 0, none⟩) (World.block_lt_of_cell? w1 _ x9)).trans x9) ((hb2.cell (p := ⟨w.heap.size, 0, none⟩) (World.block_lt_of_cell? w1 _ x6)).trans x6)
      ⟨by omega, by omega⟩ ⟨by omega, by omega⟩ ⟨by omega, by omega⟩ ⟨by omega, by omega⟩ (HE.out.all hb2) (HO.out.all hb2)
      (fun j hj hp => ⟨(hb2.cell (p := ⟨tb, j * 4 + pr, none⟩) (World.block_lt_of_cell? w1 _ (HOld.out _ _ _ (HV.out j hj hp).1))).trans (HOld.out _ _ _ (HV.out j hj hp).1), (hb2.cell (p := ⟨tb, j * 4 + 2 + pr, none⟩) (World.block_lt_of_cell? w1 _ (HOld.out _ _ _ (HV.out j hj hp).2))).trans (HOld.out _ _ _ (HV.out j hj hp).2)⟩))
    have X10b := hide (X10.out.all hb2)
    have HBw2 := hide (HBw.out.trans (hb2.mono HBw.out.size))
    have hz2 := hb2.size
    clear hb2 x6 x7 x9
    go_wp2_with fail
    refine HEa.out.mono ?_
    rintro e w3 ⟨rfl, hk3, he3, ho3⟩
    have y1 : w3.cell? ⟨eb, 0, none⟩ = some (.int .i64 (kRun accCI v pr (kids p n i)).1) := he3.cell 0
    have y2 : w3.cell? ⟨ob, 0, none⟩ = some (.int .i64 (kRun accCI v pr (kids p n i)).2) := ho3.cell 0
    have HK10 := (hk3.block (w.heap.size + 1 + 1 + 1) X10b.out.lt (by omega) (by omega) (fun h => by cases h)).trans X10b.out
    have X10c : Blk w3 107 (w.heap.size + 1 + 1 + 1) #[.int .i64 0, .int .i64 0] := HK10
    have y3 : w3.cell? ⟨w.heap.size + 1 + 1 + 1, 0, none⟩ = some (.int .i64 0) := X10c.cell 0
    have y4 : w3.cell? ⟨w.heap.size + 1 + 1 + 1, 1, none⟩ = some (.int .i64 0) := X10c.cell 1
    have z3 := X10c.frozen 0
    have z4 := X10c.frozen 1
    have l3 := X10c.lt
    have HBF := hide (hk3.below HBw2.out HBw2.out.size (by omega) (by omega) (fun k h => by cases h))
    clear hk3 he3 ho3 HK10 X10c hsz
    go_wp2
    refine bodyPost_ret (v := .agg #[.int .i64 (kRun accCI v pr (kids p n i)).1, .int .i64 (kRun accCI v pr (kids p n i)).2]) (by simp [results, Tryd.results115, go_sem, y3, y4]) rfl ⟨rfl, ?_⟩
    have hle : w.heap.size ≤ w.heap.size + 1 + 1 + 1 := by omega
    exact (HBF.out.setCell (p := ⟨w.heap.size + 1 + 1 + 1, 0, none⟩) hle _).setCell (p := ⟨w.heap.size + 1 + 1 + 1, 1, none⟩) hle _
set_option maxRecDepth 8000 in
theorem askBelow72 (fb g n c gp cp tb nc i pr : Nat) (F : Nat → Nat) (p : Nat → Int) (v : Nat → Nat → Nat → Int) (w : World) (hi : i < n) (hn : n ≤ 16) (hpr : pr < 2) (hF : F i < 65536) (hQ : ∀ j, (ch F p i).testBit j = true ↔ j < n ∧ p j = (i : Nat)) (hT : Tab w) (hw1 : 1 < w.heap.size)
    (k0 : w.cell? ⟨fb, 0, none⟩ = some (.slice (some ⟨g, 0, none⟩) n c)) (k2 : w.cell? ⟨fb, 2, none⟩ = some (.slice (some ⟨gp, 0, none⟩) n cp)) (kn : w.cell? ⟨g, i, none⟩ = some (.int .i64 (F i : Nat))) (kp : w.cell? ⟨gp, i, none⟩ = some (.int .i64 (p i))) (hp : p i = -1 ∨ (0 ≤ p i ∧ p i < 16)) (htb : tb < w.heap.size)
    (hV : ∀ j, j < n → p j = (i : Nat) → w.cell? ⟨tb, j * 4 + pr, none⟩ = some (.int .i64 (v j 0 pr)) ∧ w.cell? ⟨tb, j * 4 + 2 + pr, none⟩ = some (.int .i64 (v j 1 pr))) :
    Calls Tryd.prog 115 #[.pointer (some ⟨fb, 0, none⟩), .iface 72 (.agg #[]), .slice (some ⟨tb, 0, none⟩) n nc, .int .i64 (i : Nat), .int .i64 (pr : Nat)] w fun e w' =>
      e = .returned (.agg #[.int .i64 (kRun accLI v pr (kids p n i)).1, .int .i64 (kRun accLI v pr (kids p n i)).2]) ∧ Below w.heap.size w w' := by
  have HQ := hide hQ
  have HT := hide hT
  have HV := hide hV
  have hq16 := ch_lt F p i hF
  have HP := hide hp
  have K0 := hide k0
  have K2 := hide k2
  have KN := hide kn
  have KP := hide kp
  have e1 : w.heap.size + 1 < w.heap.size + 1 + 1 + 1 + 1 := by omega
  have C1 : Hid (∀ w, Calls Tryd.prog 162 #[.agg #[], .int .i64 0] w fun e w' => e = .returned (.int .i64 (accLI.single 0)) ∧ Below w.heap.size w w') := hide fun w => single72 0 w
  have C2 : Hid (∀ w, Calls Tryd.prog 161 #[.agg #[]] w _) := hide fun w => none72 w
  obtain ⟨W0, hW0⟩ : ∃ W0, (((w.alloc (Obj.cells #[Value.iface 72 (Value.agg #[])] 88)).alloc (Obj.cells #[Value.slice (some ⟨tb, 0, none⟩) n nc] 106)).alloc (Obj.cells #[Value.int .i64 (pr : Nat)] 3)).alloc (Obj.cells #[.int .i64 0, .int .i64 0] 107) = W0 := ⟨_, rfl⟩
  have hB0 : Below w.heap.size w W0 := by rw [← hW0]; go_grown
  have hz0 : W0.heap.size = w.heap.size + 1 + 1 + 1 + 1 := by rw [← hW0]; simp
  have b6 : W0.cell? ⟨w.heap.size, 0, none⟩ = some (.iface 72 (.agg #[])) := by rw [← hW0]; simp [go_sem]
  have b7 : W0.cell? ⟨w.heap.size + 1, 0, none⟩ = some (.slice (some ⟨tb, 0, none⟩) n nc) := by rw [← hW0]; simp [go_sem]
  have b9 : W0.cell? ⟨w.heap.size + 1 + 1, 0, none⟩ = some (.int .i64 (pr : Nat)) := by rw [← hW0]; simp [go_sem]
  have b10 : Blk W0 107 (w.heap.size + 1 + 1 + 1) #[.int .i64 0, .int .i64 0] := by rw [← hW0]; exact Blk.new _ _ _ (by simp)
  have Q : ∀ x : Later W0, x.w.cell? ⟨w.heap.size, 0, none⟩ = some (.iface 72 (.agg #[])) := fun x => x.cell b6
  have HB0 := hide hB0
  have B6 := hide b6
  have B7 := hide b7
  have B9 := hide b9
  have BX : Hid (W0.drew.cell? ⟨w.heap.size, 0, none⟩ = some (.iface 72 (.agg #[]))) := hide b6
  have hwl : w.heap.size < W0.heap.size := by omega
  have HZ0 := hide hz0
  clear hz0
  have B10 := hide b10
  clear hQ hT hV hp k0 k2 kn kp hB0 b10 Q
  go_enter Tryd.func115, Tryd.ntmps115
  go_wp2_with fail
  try rw [hW0]
  clear hW0
  apply regCutA (AskX W0 accLI)
  case reg =>
    go_region_held3 (fun w' => w'.cell? ⟨w.heap.size, 0, none⟩ = some (.iface 72 (.agg #[]))) (((repeat (first | exact BX.out | refine al_cell ?_ _ | refine keepB (by assumption) ?_ | refine keepS ?_ (by simp; omega))); done)) (first
      | (go_simp; go_at_call 162; refine (C1.out _).mono ?_; rintro e w1 ⟨rfl, hb1⟩; have yq1 : w1.cell? ⟨w.heap.size, 0, none⟩ = some (.iface 72 (.agg #[])) := (hb1.cell (p := ⟨w.heap.size, 0, none⟩) (by simp; omega)).trans (by simp [go_sem, b6, hwl]); have yw1 : w.heap.size < w1.heap.size := (by have q := hb1.size; (try simp [go_sem] at q); omega); have ychb10 := fun h => hb1.cell (p := ⟨W0.heap.size, 0, none⟩) h; (try simp [go_sem] at ychb10); have yfhb10 := fun h => hb1.frozen (p := ⟨W0.heap.size, 0, none⟩) h; (try simp [go_sem] at yfhb10); have yshb10 := fun h => Nat.lt_of_lt_of_le (n := W0.heap.size) h hb1.size; (try simp [go_sem] at yshb10); have ybhb10 := fun h => hb1.block (W0.heap.size) h; have ychb11 := fun h => hb1.cell (p := ⟨W0.heap.size + 1, 0, none⟩) h; (try simp [go_sem] at ychb11); have yfhb11 := fun h => hb1.frozen (p := ⟨W0.heap.size + 1, 0, none⟩) h; (try simp [go_sem] at yfhb11); have yshb11 := fun h => Nat.lt_of_lt_of_le (n := W0.heap.size + 1) h hb1.size; (try simp [go_sem] at yshb11); have ybhb11 := fun h => hb1.block (W0.heap.size + 1) h; have hz1 := hb1.size; (try simp only [World.size_alloc, World.size_drew] at hz1); have HB1 := hide hb1; clear hb1; go_simp)
      | (go_simp; go_at_call 161; refine (C2.out _).mono ?_; rintro e w2 ⟨rfl, hb2⟩; have yq2 : w2.cell? ⟨w.heap.size, 0, none⟩ = some (.iface 72 (.agg #[])) := (hb2.cell (p := ⟨w.heap.size, 0, none⟩) (by simp; omega)).trans (by simp [go_sem, yq1, yw1]); have yw2 : w.heap.size < w2.heap.size := (by have q := hb2.size; (try simp [go_sem] at q); omega); have ychb20 := fun h => hb2.cell (p := ⟨W0.heap.size, 0, none⟩) h; (try simp [go_sem] at ychb20); have yfhb20 := fun h => hb2.frozen (p := ⟨W0.heap.size, 0, none⟩) h; (try simp [go_sem] at yfhb20); have yshb20 := fun h => Nat.lt_of_lt_of_le (n := W0.heap.size) h hb2.size; (try simp [go_sem] at yshb20); have ybhb20 := fun h => hb2.block (W0.heap.size) h; have ychb21 := fun h => hb2.cell (p := ⟨W0.heap.size + 1, 0, none⟩) h; (try simp [go_sem] at ychb21); have yfhb21 := fun h => hb2.frozen (p := ⟨W0.heap.size + 1, 0, none⟩) h; (try simp [go_sem] at yfhb21); have yshb21 := fun h => Nat.lt_of_lt_of_le (n := W0.heap.size + 1) h hb2.size; (try simp [go_sem] at yshb21); have ybhb21 := fun h => hb2.block (W0.heap.size + 1) h; have ychb22 := fun h => hb2.cell (p := ⟨w1.heap.size, 0, none⟩) h; (try simp [go_sem] at ychb22); have yfhb22 := fun h => hb2.frozen (p := ⟨w1.heap.size, 0, none⟩) h; (try simp [go_sem] at yfhb22); have yshb22 := fun h => Nat.lt_of_lt_of_le (n := w1.heap.size) h hb2.size; (try simp [go_sem] at yshb22); have ybhb22 := fun h => hb2.block (w1.heap.size) h; have ychb23 := fun h => hb2.cell (p := ⟨w1.heap.size + 1, 0, none⟩) h; (try simp [go_sem] at ychb23); have yfhb23 := fun h => hb2.frozen (p := ⟨w1.heap.size + 1, 0, none⟩) h; (try simp [go_sem] at yfhb23); have yshb23 := fun h => Nat.lt_of_lt_of_le (n := w1.heap.size + 1) h hb2.size; (try simp [go_sem] at yshb23); have ybhb23 := fun h => hb2.block (w1.heap.size + 1) h; have hz2 := hb2.size; (try simp only [World.size_alloc] at hz2); have HB2 := hide hb2; clear hb2; go_simp))
    all_goals
      (refine (show regA _ _ .normal _ _ from ?_); simp only [regA])
      (repeat apply Exists.intro)
      refine ⟨?hF, ?hL⟩
      case hF =>
        simp only [cpA, Act.put, List.setIfInBounds_toArray, List.set_cons_zero, List.set_cons_succ]
        rfl
      case hL =>
        refine ⟨_, _, rfl, rfl, by omega, by omega, by omega, ?_, ?_, ?_⟩
        · (repeat (first | exact Blk.new _ _ _ rfl | exact Blk.new _ _ _ (by simp; done) | refine blk1_set ?_ | exact Bx1.new | (refine Bx1.new' ?hs; case hs => (simp; done)) | (refine Bx1.far ?_ ?hs; case hs => (first | omega | (simp; done) | (simp; omega))) | refine Bx1.B (by assumption) ?_ | refine Bx1.drew ?_ | refine Bx1.alloc ?_ | (refine Blk.far ?_ ?hs _; case hs => (first | omega | (simp; done) | (simp; omega))) | refine blkB (by assumption) ?_ | refine Blk.drew ?_ | refine Blk.alloc ?_ _))
        · (repeat (first | exact Blk.new _ _ _ rfl | exact Blk.new _ _ _ (by simp; done) | refine blk1_set ?_ | exact Bx1.new | (refine Bx1.new' ?hs; case hs => (simp; done)) | (refine Bx1.far ?_ ?hs; case hs => (first | omega | (simp; done) | (simp; omega))) | refine Bx1.B (by assumption) ?_ | refine Bx1.drew ?_ | refine Bx1.alloc ?_ | (refine Blk.far ?_ ?hs _; case hs => (first | omega | (simp; done) | (simp; omega))) | refine blkB (by assumption) ?_ | refine Blk.drew ?_ | refine Blk.alloc ?_ _))
        · (repeat (first | exact Below.refl _ _ | refine Below.drew ?_ | (refine Below.setCell ?_ ?hs _; case hs => (first | omega | (simp; done) | (simp; omega))) | refine belowB (by assumption) ?_ (Nat.le_refl _) | (refine Below.alloc ?_ ?hs _; case hs => (first | omega | (simp; done) | (simp; omega)))))
  case cont =>
    intro v11 v12 v13 v14 v15 v16 w1 hX
    obtain ⟨eb, ob, rfl, rfl, heb, hob, hne, hbe, hbo, hb1⟩ := hX
    simp only [cpA, Act.put, List.setIfInBounds_toArray, List.set_cons_zero, List.set_cons_succ]
    have HE := hide hbe
    have HO := hide hbo
    have HB1 := hide hb1
    have hz1 := hb1.size
    have hzz := HZ0.out
    have HBw := hide (HB0.out.trans (hb1.mono HB0.out.size))
    have old : ∀ (b o : Nat) (v : Value), w.cell? ⟨b, o, none⟩ = some v → w1.cell? ⟨b, o, none⟩ = some v := fun b o v h => (HBw.out.cell (p := ⟨b, o, none⟩) (World.block_lt_of_cell? w _ h)).trans h
    have HCh := hide (children_cells fb g n c gp cp i F p w1 hi hn hF (old _ _ _ K0.out) (old _ _ _ K2.out) (old _ _ _ KN.out) (old _ _ _ KP.out) HP.out)
    have HOld := hide old
    clear hbe hbo hb1 old hzz b6 b7 b9 BX
    have x6 : w1.cell? ⟨w.heap.size, 0, none⟩ = some (.iface 72 (.agg #[])) := (HB1.out.cell (p := ⟨w.heap.size, 0, none⟩) hwl).trans B6.out
    have x7 : w1.cell? ⟨w.heap.size + 1, 0, none⟩ = some (.slice (some ⟨tb, 0, none⟩) n nc) := (HB1.out.cell (p := ⟨w.heap.size + 1, 0, none⟩) (show w.heap.size + 1 < W0.heap.size by have := HZ0.out; omega)).trans B7.out
    have x9 : w1.cell? ⟨w.heap.size + 1 + 1, 0, none⟩ = some (.int .i64 (pr : Nat)) := (HB1.out.cell (p := ⟨w.heap.size + 1 + 1, 0, none⟩) (show w.heap.size + 1 + 1 < W0.heap.size by have := HZ0.out; omega)).trans B9.out
    have X10 := hide (B10.out.below HB1.out (show w.heap.size + 1 + 1 + 1 < W0.heap.size by have := HZ0.out; omega))
    go_wp2_with fail
    refine HCh.out.mono ?_
    rintro e w2 ⟨rfl, hb2⟩
    have HB2 := hide hb2
    have hsz := HZ0.out
    have HEa := hide (eachKids72 (w.heap.size + 1) (w.heap.size + 1 + 1) w.heap.size eb ob tb n nc i pr (ch F p i) p v w2 hn hpr hq16 HQ.out ((HT.out.below' HBw.out hw1).below hb2) (by omega) (by omega) hne
      ((hb2.cell (p := ⟨w.heap.size + 1, 0, none⟩) (World.block_lt_of_cell? w1 _ x7)).trans x7) ((hb2.cell (p := ⟨w.heap.size + 1 + 1, 0, none⟩) (World.block_lt_of_cell? w1 _ x9)).trans x9) ((hb2.cell (p := ⟨w.heap.size, 0, none⟩) (World.block_lt_of_cell? w1 _ x6)).trans x6)
      ⟨by omega, by omega⟩ ⟨by omega, by omega⟩ ⟨by omega, by omega⟩ ⟨by omega, by omega⟩ (HE.out.all hb2) (HO.out.all hb2)
      (fun j hj hp => ⟨(hb2.cell (p := ⟨tb, j * 4 + pr, none⟩) (World.block_lt_of_cell? w1 _ (HOld.out _ _ _ (HV.out j hj hp).1))).trans (HOld.out _ _ _ (HV.out j hj hp).1), (hb2.cell (p := ⟨tb, j * 4 + 2 + pr, none⟩) (World.block_lt_of_cell? w1 _ (HOld.out _ _ _ (HV.out j hj hp).2))).trans (HOld.out _ _ _ (HV.out j hj hp).2)⟩))
    have X10b := hide (X10.out.all hb2)
    have HBw2 := hide (HBw.out.trans (hb2.mono HBw.out.size))
    have hz2 := hb2.size
    clear hb2 x6 x7 x9
    go_wp2_with fail
    refine HEa.out.mono ?_
    rintro e w3 ⟨rfl, hk3, he3, ho3⟩
    have y1 : w3.cell? ⟨eb, 0, none⟩ = some (.int .i64 (kRun accLI v pr (kids p n i)).1) := he3.cell 0
    have y2 : w3.cell? ⟨ob, 0, none⟩ = some (.int .i64 (kRun accLI v pr (kids p n i)).2) := ho3.cell 0
    have HK10 := (hk3.block (w.heap.size + 1 + 1 + 1) X10b.out.lt (by omega) (by omega) (fun h => by cases h)).trans X10b.out
    have X10c : Blk w3 107 (w.heap.size + 1 + 1 + 1) #[.int .i64 0, .int .i64 0] := HK10
    have y3 : w3.cell? ⟨w.heap.size + 1 + 1 + 1, 0, none⟩ = some (.int .i64 0) := X10c.cell 0
    have y4 : w3.cell? ⟨w.heap.size + 1 + 1 + 1, 1, none⟩ = some (.int .i64 0) := X10c.cell 1
    have z3 := X10c.frozen 0
    have z4 := X10c.frozen 1
    have l3 := X10c.lt
    have HBF := hide (hk3.below HBw2.out HBw2.out.size (by omega) (by omega) (fun k h => by cases h))
    clear hk3 he3 ho3 HK10 X10c hsz
    go_wp2
    refine bodyPost_ret (v := .agg #[.int .i64 (kRun accLI v pr (kids p n i)).1, .int .i64 (kRun accLI v pr (kids p n i)).2]) (by simp [results, Tryd.results115, go_sem, y3, y4]) rfl ⟨rfl, ?_⟩
    have hle : w.heap.size ≤ w.heap.size + 1 + 1 + 1 := by omega
    exact (HBF.out.setCell (p := ⟨w.heap.size + 1 + 1 + 1, 0, none⟩) hle _).setCell (p := ⟨w.heap.size + 1 + 1 + 1, 1, none⟩) hle _
end Go.Proofs.YtmcimfblhpflnaaDoor
