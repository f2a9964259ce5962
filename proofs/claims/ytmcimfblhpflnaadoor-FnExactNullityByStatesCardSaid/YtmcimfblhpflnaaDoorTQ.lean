/-
ask: the numbers of all buttons, from the leaves to the roots.
-/
import Derived.Test.YtmcimfblhpflnaaDoorZd
namespace Go.Proofs.YtmcimfblhpflnaaDoor
open Go.RowKit Go.Shelf Go.BigFrame
set_option maxHeartbeats 4000000
attribute [local go_sem] Oper.semAt_some
attribute [local go_sem] m_both71 m_both72 m_either71 m_either72 m_none71 m_none72 m_single71 m_single72 n_both71 n_both72 n_either71 n_either72
theorem states_info : (Tryd.prog.info? 110).map (fun i => (i.zero, i.size, i.bytes)) = some (some (.agg #[.int .i64 0, .int .i64 0, .int .i64 0, .int .i64 0]), 4, 32) := by kernel_rfl
theorem made4 (W : World) (n : Nat) (hn : n ≤ 16) : (Instr.makeSlice 106 (.int .i64 (n : Int)) (.int .i64 (n : Int))).run Tryd.prog W = .ok (.slice (some ⟨W.heap.size, 0, none⟩) n n) (W.alloc (.cells (madeCells #[.int .i64 0] (n * 4)) 110)) := by
  obtain ⟨i, hi, hzz⟩ := Option.map_eq_some_iff.1 states_info
  simp only [Prod.mk.injEq] at hzz
  obtain ⟨hz, hs, hb⟩ := hzz
  have := run_make (P := Tryd.prog) W 106 110 i _ Tryd.underlying106 hi hz .i64 .i64 (n : Int) (n : Int) (by omega) (by omega) (by rw [hb]; omega) (by omega)
  rw [this, hs, Int.toNat_natCast]
  have e : madeCells (Value.agg #[.int .i64 0, .int .i64 0, .int .i64 0, .int .i64 0]).cells (n * 4) = madeCells #[.int .i64 0] (n * 4) := by
    have hc : (Value.agg #[.int .i64 0, .int .i64 0, .int .i64 0, .int .i64 0]).cells = #[.int .i64 0, .int .i64 0, .int .i64 0, .int .i64 0] := by kernel_rfl
    rw [hc]
    apply Array.ext
    · simp [madeCells]
    · intro k h1 h2
      have h3 : k % 4 = 0 ∨ k % 4 = 1 ∨ k % 4 = 2 ∨ k % 4 = 3 := by omega
      rcases h3 with e | e | e | e <;> simp [madeCells, e, Nat.mod_one]
  rw [e]
theorem sin71 (w : World) : Calls Tryd.prog 158 #[.agg #[], .int .i64 0] w fun e w' => e = .returned (.int .i64 (accCI.single 0)) ∧ Below w.heap.size w w' := single71 0 w
set_option maxRecDepth 100000 in
theorem ask71 (fb g n c gp cp lb d L : Nat) (F : Nat → Nat) (p : Nat → Int) (own : Bool) (f : Nat → Nat) (w : World) (hn : n ≤ 16) (hn1 : 1 ≤ n) (_ : L < 65536) (hF : ∀ i, i < n → F i < 65536) (hf : ∀ j, j < n → f j < n) (hT : Tab w) (hw1 : 1 < w.heap.size)
    (hQ : ∀ i, i < n → ∀ j, (ch F p i).testBit j = true ↔ j < n ∧ p j = (i : Nat)) (hp : ∀ i, i < n → p i = -1 ∨ (0 ≤ p i ∧ p i < 16)) (hpi : ∀ i, i < n → p i ≠ (i : Nat)) (hir : ∀ i, i < n → (F i).testBit i = false)
    (k0 : w.cell? ⟨fb, 0, none⟩ = some (.slice (some ⟨g, 0, none⟩) n c)) (k1 : w.cell? ⟨fb, 1, none⟩ = some (.bool own)) (k2 : w.cell? ⟨fb, 2, none⟩ = some (.slice (some ⟨gp, 0, none⟩) n cp)) (k3 : w.cell? ⟨fb, 3, none⟩ = some (.slice (some ⟨lb, 0, none⟩) n d))
    (kn : Arr w 3 g n (iv (nv F))) (kp : Arr w 3 gp n (iv p)) (kl : ∀ j, j < n → w.cell? ⟨lb, j, none⟩ = some (.int .i64 (f j : Nat))) :
    Calls Tryd.prog 91 #[.pointer (some ⟨fb, 0, none⟩), .iface 71 (.agg #[]), .int .i64 (L : Nat)] w fun e w' =>
      e = .returned (.int .i64 (askRun accCI (kids p n) (dueB L own) p 0 ((List.range n).map fun j => f (n - 1 - j))).1) ∧ Below w.heap.size w w' := by
  obtain ⟨el, hel⟩ : ∃ el : Nat → { x : Nat × Nat // x.2 < n }, ∀ j, j < n → (el j).1 = (j, f j) :=
    ⟨fun j => if h : f j < n then ⟨(j, f j), h⟩ else ⟨(0, 0), hn1⟩, fun j hj => by simp [hf j hj]⟩
  have HEL := hide hel
  clear hel
  have hfl := World.block_lt_of_cell? w _ k0
  have hgl := kn.lt
  have hpl := kp.lt
  have hll := World.block_lt_of_cell? w _ (kl 0 (by omega))
  have HF := hide hF
  have Hf := hide hf
  have HT := hide hT
  have HQ := hide hQ
  have HP := hide hp
  have HPI := hide hpi
  have HIR := hide hir
  have KN := hide kn
  have KP := hide kp
  have KL := hide kl
  clear hF hf hT hQ hp hpi hir kn kp kl
  obtain ⟨W3, hW3⟩ : ∃ W3, ((w.alloc (Obj.cells #[Value.pointer (some ⟨fb, 0, none⟩)] 97)).alloc (Obj.cells #[Value.iface 71 (Value.agg #[])] 88)).alloc (Obj.cells #[Value.int .i64 (L : Nat)] 3) = W3 := ⟨_, rfl⟩
  have hB3 : Below w.heap.size w W3 := by rw [← hW3]; go_grown
  have hz3 : W3.heap.size = w.heap.size + 1 + 1 + 1 := by rw [← hW3]; simp
  have B3 : Hid (Blk W3 97 w.heap.size #[Value.pointer (some ⟨fb, 0, none⟩)]) := hide (by rw [← hW3]; exact ((Blk.new _ _ _ rfl).alloc _).alloc _)
  have B4 : Hid (Blk W3 88 (w.heap.size + 1) #[Value.iface 71 (Value.agg #[])]) := hide (by rw [← hW3]; exact (Blk.new _ _ _ (by simp)).alloc _)
  have B5 : Hid (Blk W3 3 (w.heap.size + 1 + 1) #[Value.int .i64 (L : Nat)]) := hide (by rw [← hW3]; exact Blk.new _ _ _ (by simp))
  have b3 : W3.cell? ⟨w.heap.size, 0, none⟩ = some (Value.pointer (some ⟨fb, 0, none⟩)) := B3.out.cell 0
  have b4 : W3.cell? ⟨w.heap.size + 1, 0, none⟩ = some (Value.iface 71 (Value.agg #[])) := B4.out.cell 0
  have l3 := B3.out.lt
  have l4 := B4.out.lt
  have q0 := (hB3.cell (p := ⟨fb, 0, none⟩) hfl).trans k0
  have q3 := (hB3.cell (p := ⟨fb, 3, none⟩) hfl).trans k3
  have hfl3 : fb < W3.heap.size := Nat.lt_of_lt_of_le hfl hB3.size
  have HB3 := hide hB3
  have HZ3 := hide hz3
  have hmk := made4 W3 n hn
  have K0 := hide k0
  have K1 := hide k1
  have K2 := hide k2
  have K3 := hide k3
  clear hB3 hz3 k0 k1 k2 k3
  refine (callsIn_wide (n := 9)).1 ?_
  refine callsIn_of_wp_marks Tryd.func91 rfl trivial ?_ rfl
  simp only [Tryd.ntmps91, List.size_toArray, List.length_cons, List.length_nil, Nat.reduceAdd, Nat.reduceSub, Array.replicate_succ, Array.replicate_zero, List.push_toArray, List.append_toArray, List.nil_append, List.cons_append]
  gi_wp2_with fail
  refine ⟨trivial, ?_⟩
  refine (callsIn_wide.2 (sin71 _)).mono ?_
  rintro e w1 ⟨rfl, hb1⟩
  have HB1 := hide hb1
  have ta : Arr (W3.alloc (.cells (madeCells #[.int .i64 0] (n * 4)) 110)) 110 W3.heap.size (n * 4) (fun _ => .int .i64 0) := Arr.made W3 _ _ 110
  have B7 := hide ((Blk.new (W3.alloc (.cells (madeCells #[.int .i64 0] (n * 4)) 110)) 106 #[Value.slice (some ⟨W3.heap.size, 0, none⟩) n n] (b := W3.heap.size + 1) (by simp)).all hb1)
  have TA := hide ((ta.alloc _).all hb1)
  have B3 := hide (((B3.out.alloc _).alloc _).all hb1)
  have B4 := hide (((B4.out.alloc _).alloc _).all hb1)
  have B5 := hide (((B5.out.alloc _).alloc _).all hb1)
  have HB1 := hide ((HB3.out.trans ((by go_grown : Below W3.heap.size W3 _).mono HB3.out.size)).trans (hb1.mono (by have := HB3.out.size; simp; omega)))
  have hz1 := hb1.size
  simp only [World.size_alloc] at hz1
  have x3 : w1.cell? ⟨w.heap.size, 0, none⟩ = some (Value.pointer (some ⟨fb, 0, none⟩)) := B3.out.cell 0
  have x4 := HB1.out.cell (p := ⟨fb, 3, none⟩) hfl
  rw [K3.out] at x4
  have l3 := B3.out.lt
  have hfl1 : fb < w1.heap.size := Nat.lt_of_lt_of_le hfl HB1.out.size
  clear hb1 ta q0 q3 b3 b4
  gi_wp2_with fail
  refine ⟨trivial, ?_⟩
  refine (callsIn_wide.2 (back_any _ _ _ _)).mono ?_
  rintro e w2 ⟨rfl, hw2⟩
  subst w2
  simp only [World.size_alloc]
  obtain ⟨W9, hW9⟩ : ∃ W9, (w1.alloc (.cells #[.int .i64 (accCI.single 0)] 3)).alloc (.cells #[.slice (some ⟨lb, 0, none⟩) n d] 22) = W9 := ⟨_, rfl⟩
  have B3 := hide (B3.out.alloc (.cells #[.int .i64 (accCI.single 0)] 3) |>.alloc (.cells #[.slice (some ⟨lb, 0, none⟩) n d] 22))
  have B4 := hide (B4.out.alloc (.cells #[.int .i64 (accCI.single 0)] 3) |>.alloc (.cells #[.slice (some ⟨lb, 0, none⟩) n d] 22))
  have B5 := hide (B5.out.alloc (.cells #[.int .i64 (accCI.single 0)] 3) |>.alloc (.cells #[.slice (some ⟨lb, 0, none⟩) n d] 22))
  have B7 := hide (B7.out.alloc (.cells #[.int .i64 (accCI.single 0)] 3) |>.alloc (.cells #[.slice (some ⟨lb, 0, none⟩) n d] 22))
  have TA := hide (TA.out.alloc (.cells #[.int .i64 (accCI.single 0)] 3) |>.alloc (.cells #[.slice (some ⟨lb, 0, none⟩) n d] 22))
  have B8 := hide ((Blk.new w1 3 #[.int .i64 (accCI.single 0)] rfl).alloc (.cells #[.slice (some ⟨lb, 0, none⟩) n d] 22))
  have B9 := hide (Blk.new (w1.alloc (.cells #[.int .i64 (accCI.single 0)] 3)) 22 #[.slice (some ⟨lb, 0, none⟩) n d] (b := w1.heap.size + 1) (by simp))
  have HB9 := hide (HB1.out.trans ((by go_grown : Below w1.heap.size w1 ((w1.alloc (.cells #[.int .i64 (accCI.single 0)] 3)).alloc (.cells #[.slice (some ⟨lb, 0, none⟩) n d] 22))).mono HB1.out.size))
  have hz9 : W9.heap.size = w1.heap.size + 1 + 1 := by rw [← hW9]; simp
  rw [hW9] at B3 B4 B5 B7 TA B8 B9 HB9
  rw [hW9]
  have HZ9 := hide hz9
  clear hW9 hz9 x3 x4 l3 hfl1 hfl3
  gi_wp2_with fail
  have hll9 := HB9.out.size
  have hz9 := HZ9.out
  have hz3 := HZ3.out
  have hz1' := hz1
  have hb8 := B8.out.lt
  have hb7 := B7.out.lt
  have hta := TA.out.lt
  have hord : w.heap.size + 3 ≤ W3.heap.size ∧ W3.heap.size + 2 ≤ w1.heap.size ∧ w1.heap.size + 2 ≤ W9.heap.size := by omega
  have hKL9 : ∀ j, j < n → W9.cell? ⟨lb, j, none⟩ = some (.int .i64 (f j : Nat)) := fun j hj => (HB9.out.cell (p := ⟨lb, j, none⟩) hll).trans (KL.out j hj)
  have hI0 : AskI w 71 L n fb W3.heap.size (W3.heap.size + 1) w1.heap.size (w1.heap.size + 1) accCI (kids p n) (dueB L own) p [] W9 :=
    ⟨HB9.out, B3.out, B4.out, B5.out, B7.out, B8.out, TA.out.congr (fun c _ => by simp [tv, askRun]), by omega⟩
  clear hz9 hz3 hz1' hz1
  apply wpIn_rangeFunc_ownF (F := Fence.wide) (n := 9) (α := { x : Nat × Nat // x.2 < n }) rfl (by omega) (gf := 83) (lb := #[.pointer (some ⟨w1.heap.size + 1, 0, none⟩)]) rfl trivial (enters_of Tryd.func83 (by kernel_rfl) rfl)
    (back_stops el (fun (x : { x : Nat × Nat // x.2 < n }) => #[.int .i64 (x.1.1 : Nat), .int .i64 (x.1.2 : Nat)]) Fence.wide (9 - 1) trivial rfl (by omega) (w1.heap.size + 1) w.heap.size lb n d f (by omega) W9 (by omega) hll (by omega) (B9.out.cell 0) hKL9 (fun j hj => by rw [HEL.out j hj]))
    Kq.trans (fun W l o o' h1 h2 h3 h4 => Kq.put (w := W9) (by omega) (by omega) W l o o' h1 h2 h3 h4) (Below.refl _ _) (fun _ => rfl)
    (fun pre W => AskI w 71 L n fb W3.heap.size (W3.heap.size + 1) w1.heap.size (w1.heap.size + 1) accCI (kids p n) (dueB L own) p (pre.map fun (x : { x : Nat × Nat // x.2 < n }) => x.1.2) W) (fun _ _ _ => False)
    (AskI.own (w := w) (b7 := W3.heap.size + 1) (b8 := w1.heap.size) (bs := w1.heap.size + 1) (tb := W3.heap.size) (B := W9.heap.size) (fun (x : { x : Nat × Nat // x.2 < n }) => x.1.2) (by omega) (by omega) (by omega) (by omega)) (fun _ _ _ _ _ hs _ _ => hs) hI0
  case hassign =>
    intro l x W K hK
    gi_wp2
    exact hK
  case hbody =>
    rintro l pre ⟨⟨xj, i⟩, hi0⟩ W hI _
    have hi : i < n := hi0
    dsimp only
    obtain ⟨S, hS⟩ : ∃ S, (askRun accCI (kids p n) (dueB L own) p 0 (pre.map fun (x : { x : Nat × Nat // x.2 < n }) => x.1.2)).1 = S := ⟨_, rfl⟩
    obtain ⟨V, hV⟩ : ∃ V, (askRun accCI (kids p n) (dueB L own) p 0 (pre.map fun (x : { x : Nat × Nat // x.2 < n }) => x.1.2)).2 = V := ⟨_, rfl⟩
    have HJ0 : Hid (AskJ w 71 L n fb W3.heap.size (W3.heap.size + 1) w1.heap.size (w1.heap.size + 1) S V W) := hide (by rw [← hS, ← hV]; exact hI)
    have HS := hide hS
    have HV := hide hV
    clear hI hS hV
    have hin : (i : Int) < (n : Int) := by omega
    have hzW := HJ0.out.be.size
    have HFW : Hid (∀ b o v, w.cell? ⟨b, o, none⟩ = some v → ∀ y : World, Below w.heap.size w y → y.cell? ⟨b, o, none⟩ = some v) := hide fun b o v h y hb => (hb.cell (p := ⟨b, o, none⟩) (World.block_lt_of_cell? w _ h)).trans h
    have Q3 : ∀ x : Later W, x.w.cell? ⟨w.heap.size, 0, none⟩ = some (.pointer (some ⟨fb, 0, none⟩)) := fun x => x.cell (HJ0.out.b3.cell 0)
    have Q5 : ∀ x : Later W, x.w.cell? ⟨w.heap.size + 1 + 1, 0, none⟩ = some (.int .i64 (L : Nat)) := fun x => x.cell (HJ0.out.b5.cell 0)
    have Qa : ∀ x : Later W, x.w.cell? ⟨fb, 0, none⟩ = some (.slice (some ⟨g, 0, none⟩) n c) := fun x => x.cell (HFW.out _ _ _ K0.out W HJ0.out.be)
    have Qb : ∀ x : Later W, x.w.cell? ⟨fb, 1, none⟩ = some (.bool own) := fun x => x.cell (HFW.out _ _ _ K1.out W HJ0.out.be)
    have hFi := HF.out i hi
    have HTg : Hid (∀ x : Later W, Calls Tryd.prog 114 #[.agg #[.slice (some ⟨g, 0, none⟩) n c, .bool own], .int .i64 (i : Nat)] x.w fun e w' => e = .returned (.int .i64 (tgN F own i : Nat)) ∧ Below x.w.heap.size x.w w') := hide fun x => toggles_any g n c i F own x.w hi hn hFi (x.cell (HFW.out _ _ _ (KN.out.cell hi) W HJ0.out.be))
    have e1 := light_bit L i
    have e2 := light_bit (tgN F own i) i
    have hi64 : (i : Int) < 64 := by omega
    have hi00 : (0 : Int) ≤ (i : Int) := by omega
    gi_wp2_with fail
    refine wpIn_later (by kernel_rfl) (by kernel_rfl) (by kernel_rfl) ?_
    repeat (first | go_big_quiet_skip | (go_big_quiet_want; go_big_quiet_op; first | go_big_quiet_on | (apply Exists.intro; refine ⟨fun x => ?_, ?_⟩; (· (with_reducible exact Later.call x (HTg.out x))); go_big_quiet_on)))
    refine wpQuiet_nil ?_
    rintro _ ⟨x, rfl⟩
    have HJ1 := hide (HJ0.out.all x.is)
    have HD1 : Hid (Bdy w.heap.size (w1.heap.size + 1) W x.w) := hide (Bdy.of_below x.is hzW HJ0.out.top)
    obtain ⟨lt, hlt⟩ : ∃ lt, L / 2 ^ i % 2 = lt := ⟨_, rfl⟩
    obtain ⟨ow, how⟩ : ∃ ow, tgN F own i / 2 ^ i % 2 = ow := ⟨_, rfl⟩
    have hlt2 : lt < 2 := by rw [← hlt]; exact Nat.mod_lt _ (by decide)
    have how2 : ow < 2 := by rw [← how]; exact Nat.mod_lt _ (by decide)
    have hltI : (L : Int) / 2 ^ i % 2 = (lt : Int) := by rw [← hlt, ← pow_nat]; rfl
    have howI : ((tgN F own i : Nat) : Int) / 2 ^ i % 2 = (ow : Int) := by rw [← how, ← pow_nat]; rfl
    rw [hltI, howI]
    clear hltI howI
    have HOW : Hid (ow = if own then 1 else 0) := hide (by rw [← how]; exact own_bit F own i (HIR.out i hi))
    have HLT := hide hlt
    clear Q3 Q5 Qa Qb e1 e2 hlt how
    have h7t : W3.heap.size + 1 ≠ W3.heap.size := by omega
    gi_wp2_with fail
    gi_loopw [45] (fun y wr => ∃ a : Nat, a ≤ 2 ∧ y = .int .i64 (a : Nat) ∧ Hid (AskJ w 71 L n fb W3.heap.size (W3.heap.size + 1) w1.heap.size (w1.heap.size + 1) S (part (fun j x y => stOf accCI (kids p n) (dueB L own) V j x y) V i a 0) wr) ∧ Hid (Bdy w.heap.size (w1.heap.size + 1) W wr)) (fun y _ => 2 - (intOf y).toNat)
    case atStart => exact ⟨0, by omega, rfl, hide (by rw [part_zero]; exact HJ1.out), HD1⟩
    case round =>
      obtain ⟨a, ha, rfl, HJ2, HD2⟩ := hrel
      by_cases ha2 : a < 2
      · have haI : (a : Int) < 2 := by omega
        have c3 : wr.cell? ⟨w.heap.size, 0, none⟩ = some (.pointer (some ⟨fb, 0, none⟩)) := HJ2.out.b3.cell 0
        have c4 : wr.cell? ⟨w.heap.size + 1, 0, none⟩ = some (.iface 71 (.agg #[])) := HJ2.out.b4.cell 0
        have c7 : wr.cell? ⟨W3.heap.size + 1, 0, none⟩ = some (.slice (some ⟨W3.heap.size, 0, none⟩) n n) := HJ2.out.b7.cell 0
        have l3 := HJ2.out.b3.lt
        have l4 := HJ2.out.b4.lt
        have l7 := HJ2.out.b7.lt
        have hzr := HJ2.out.be.size
        have HAB : Hid (Calls Tryd.prog 115 #[.pointer (some ⟨fb, 0, none⟩), .iface 71 (.agg #[]), .slice (some ⟨W3.heap.size, 0, none⟩) n n, .int .i64 (i : Nat), .int .i64 (a : Nat)] wr _) :=
          hide (askBelow71 fb g n c gp cp W3.heap.size n i a F p V wr hi hn ha2 hFi (HQ.out i hi) (HT.out.below' HJ2.out.be hw1) (by omega) (HFW.out _ _ _ K0.out wr HJ2.out.be) (HFW.out _ _ _ K2.out wr HJ2.out.be) (HFW.out _ _ _ (KN.out.cell hi) wr HJ2.out.be) (HFW.out _ _ _ (KP.out.cell hi) wr HJ2.out.be) (HP.out i hi) HJ2.out.tb.lt
            (fun j hj hpj => by
              have hji : j ≠ i := fun e => HPI.out i hi (by rw [← e]; rw [e] at hpj ⊢; exact hpj)
              have t0 := HJ2.out.tb.cell (k := j * 4 + 0 * 2 + a) (by omega)
              have t1 := HJ2.out.tb.cell (k := j * 4 + 1 * 2 + a) (by omega)
              rw [tv_at _ (by omega) ha2] at t0 t1
              simp only [part, hji, false_and, if_false, Nat.zero_mul, Nat.add_zero, Nat.one_mul] at t0 t1
              exact ⟨t0, t1⟩))
        gi_wp2_with fail
        refine ⟨trivial, ?_⟩
        refine (CallsIn.inRound l (callsIn_wide.2 HAB.out)).mono ?_
        rintro e w4 ⟨rfl, hb4⟩
        have HJ4 := hide ((HJ2.out.all hb4).all ((Below.refl w4.heap.size w4).alloc (Nat.le_refl _) (.cells #[.int .i64 (kRun accCI V a (kids p n i)).1, .int .i64 (kRun accCI V a (kids p n i)).2] 107)))
        have HD4 := hide ((HD2.out.trans (Bdy.of_below hb4 hzr HJ2.out.top)).trans (Bdy.of_below ((Below.refl w4.heap.size w4).alloc (Nat.le_refl _) (.cells #[.int .i64 (kRun accCI V a (kids p n i)).1, .int .i64 (kRun accCI V a (kids p n i)).2] 107)) (Nat.le_trans hzr hb4.size) (Nat.lt_of_lt_of_le HJ2.out.top hb4.size)))
        have HB14 := hide (Blk.new w4 107 #[.int .i64 (kRun accCI V a (kids p n i)).1, .int .i64 (kRun accCI V a (kids p n i)).2] rfl)
        have hz4 := hb4.size
        have htop := HJ2.out.top
        have htb2 := HJ2.out.tb.lt
        have hb82 := HJ2.out.b8.lt
        clear hb4 c3 c4 c7 l3 l4 l7
        gi_wp2_with fail
        gi_loopw [54] (fun y wi => ∃ b : Nat, b ≤ 2 ∧ y = .int .i64 (b : Nat) ∧ Hid (AskJ w 71 L n fb W3.heap.size (W3.heap.size + 1) w1.heap.size (w1.heap.size + 1) S (part (fun j x y => stOf accCI (kids p n) (dueB L own) V j x y) V i a b) wi) ∧ Hid (Bdy w.heap.size (w1.heap.size + 1) W wi) ∧ Hid (Blk wi 107 w4.heap.size #[.int .i64 (kRun accCI V a (kids p n i)).1, .int .i64 (kRun accCI V a (kids p n i)).2])) (fun y _ => 2 - (intOf y).toNat)
        case atStart => exact ⟨0, by omega, rfl, HJ4, HD4, HB14⟩
        case round =>
          obtain ⟨b, hb, rfl, HJ5, HD5, HB5⟩ := hrel
          by_cases hb2 : b < 2
          · have hbI : (b : Int) < 2 := by omega
            have hz5 := HJ5.out.be.size
            have hdd : dueB L own i a b = decide ((lt + ow * a + b) % 2 = 1) := by
              unfold dueB
              rw [HLT.out, HOW.out]
              congr 1
              cases own <;> simp <;> congr 1 <;> omega
            have Q3 : ∀ x : Later wr, x.w.cell? ⟨W3.heap.size + 1, 0, none⟩ = some (.slice (some ⟨W3.heap.size, 0, none⟩) n n) := fun x => x.cell (HJ5.out.b7.cell 0)
            have Q4 : ∀ x : Later wr, x.w.cell? ⟨w.heap.size + 1, 0, none⟩ = some (.iface 71 (.agg #[])) := fun x => x.cell (HJ5.out.b4.cell 0)
            have C0 : Hid (∀ y, Calls Tryd.prog 158 #[.agg #[], .int .i64 (a : Nat)] y _) := hide fun y => single71 a y
            have hneq : w4.heap.size ≠ W3.heap.size := by omega
            cases hd : dueB L own i a b
            · skip
              have hx : (lt + ow * a + b) % 2 = 0 := by
                rw [hdd] at hd
                have := of_decide_eq_false hd; omega
              have e1 : bits .xor .i64 (bits .xor .i64 (lt : Int) (bits .and .i64 (ow : Int) (a : Int))) (b : Int) = 0 := by rw [xor_due lt ow a b hlt2 how2 ha2 hb2, hx]; rfl
              have Q14 : ∀ x : Later wr, x.w.cell? ⟨w4.heap.size, 0, none⟩ = some (.int .i64 (kRun accCI V a (kids p n i)).1) := fun x => x.cell (HB5.out.cell 0)
              have C1 : Hid (∀ y, Calls Tryd.prog 155 #[.agg #[], .int .i64 (accCI.single a), .int .i64 (kRun accCI V a (kids p n i)).1] y _) := hide fun y => both71 (accCI.single a) (kRun accCI V a (kids p n i)).1 y
              have hval : Hid (accCI.both (accCI.single a) (kRun accCI V a (kids p n i)).1 = stOf accCI (kids p n) (dueB L own) V i a b) := hide (by unfold stOf; rw [hd]; rfl)
              clear hx hd hdd
              gi_wp2_with fail
              refine wpIn_later_tail 24 (by kernel_rfl) (by kernel_rfl) (by kernel_rfl) ?_
              simp only [List.take_succ_cons, List.take_zero]
              repeat (first | go_big_quiet_skip | (go_big_quiet_want; go_big_quiet_op; first | go_big_quiet_on | (apply Exists.intro; refine ⟨fun x => ?_, ?_⟩; (· (first | (with_reducible exact Later.call x (C0.out x.w)) | (with_reducible exact Later.call x (C1.out x.w)))); go_big_quiet_on)))
              refine wpQuiet_nil ?_
              rintro _ ⟨x, rfl⟩
              have HJ6 := hide (HJ5.out.all x.is)
              have HD6 := hide (HD5.out.trans (Bdy.of_below x.is hz5 HJ5.out.top))
              have HB6 := hide (HB5.out.all x.is)
              have y0 := HJ6.out.tb.cell (k := i * 4 + a * 2 + b) (by omega)
              have y1 := HJ6.out.tb.frozen (i * 4 + a * 2 + b)
              have y2 := HJ6.out.tb.lt
              clear Q3 Q4 Q14 e1
              simp only [List.drop_succ_cons, List.drop_zero]
              gi_wp2
              go_roundw
              case rel =>
                refine ⟨b + 1, by omega, by go_num, hide ?_, hide (HD6.out.trans (Bdy.set (by omega) (by omega))), hide (HB6.out.far (p := ⟨W3.heap.size, i * 4 + a * 2 + b, none⟩) (by show w4.heap.size ≠ W3.heap.size; omega) _)⟩
                refine HJ6.out.setT (by omega) (by omega) (by omega) (fun c => ?_)
                rw [part_one _ _ ha2 hb2, hval.out]
              case measure => simp [intOf]; omega
            · skip
              have hx : (lt + ow * a + b) % 2 = 1 := by
                rw [hdd] at hd
                exact of_decide_eq_true hd
              have e1 : bits .xor .i64 (bits .xor .i64 (lt : Int) (bits .and .i64 (ow : Int) (a : Int))) (b : Int) = 1 := by rw [xor_due lt ow a b hlt2 how2 ha2 hb2, hx]; rfl
              have Q14 : ∀ x : Later wr, x.w.cell? ⟨w4.heap.size, 1, none⟩ = some (.int .i64 (kRun accCI V a (kids p n i)).2) := fun x => x.cell (HB5.out.cell 1)
              have C1 : Hid (∀ y, Calls Tryd.prog 155 #[.agg #[], .int .i64 (accCI.single a), .int .i64 (kRun accCI V a (kids p n i)).2] y _) := hide fun y => both71 (accCI.single a) (kRun accCI V a (kids p n i)).2 y
              have hval : Hid (accCI.both (accCI.single a) (kRun accCI V a (kids p n i)).2 = stOf accCI (kids p n) (dueB L own) V i a b) := hide (by unfold stOf; rw [hd]; rfl)
              clear hx hd hdd
              gi_wp2_with fail
              refine wpIn_later_tail 24 (by kernel_rfl) (by kernel_rfl) (by kernel_rfl) ?_
              simp only [List.take_succ_cons, List.take_zero]
              repeat (first | go_big_quiet_skip | (go_big_quiet_want; go_big_quiet_op; first | go_big_quiet_on | (apply Exists.intro; refine ⟨fun x => ?_, ?_⟩; (· (first | (with_reducible exact Later.call x (C0.out x.w)) | (with_reducible exact Later.call x (C1.out x.w)))); go_big_quiet_on)))
              refine wpQuiet_nil ?_
              rintro _ ⟨x, rfl⟩
              have HJ6 := hide (HJ5.out.all x.is)
              have HD6 := hide (HD5.out.trans (Bdy.of_below x.is hz5 HJ5.out.top))
              have HB6 := hide (HB5.out.all x.is)
              have y0 := HJ6.out.tb.cell (k := i * 4 + a * 2 + b) (by omega)
              have y1 := HJ6.out.tb.frozen (i * 4 + a * 2 + b)
              have y2 := HJ6.out.tb.lt
              clear Q3 Q4 Q14 e1
              simp only [List.drop_succ_cons, List.drop_zero]
              gi_wp2
              go_roundw
              case rel =>
                refine ⟨b + 1, by omega, by go_num, hide ?_, hide (HD6.out.trans (Bdy.set (by omega) (by omega))), hide (HB6.out.far (p := ⟨W3.heap.size, i * 4 + a * 2 + b, none⟩) (by show w4.heap.size ≠ W3.heap.size; omega) _)⟩
                refine HJ6.out.setT (by omega) (by omega) (by omega) (fun c => ?_)
                rw [part_one _ _ ha2 hb2, hval.out]
              case measure => simp [intOf]; omega
          · have hb3 : b = 2 := by omega
            subst hb3
            gi_wp2
            go_roundw
            case rel => exact ⟨a + 1, by omega, by go_num, hide (HJ5.out.congr fun c _ => (part_row _ _).symm), HD5⟩
            case measure => simp [intOf]; omega
      · have ha3 : a = 2 := by omega
        subst ha3
        have c3 : wr.cell? ⟨w.heap.size, 0, none⟩ = some (.pointer (some ⟨fb, 0, none⟩)) := HJ2.out.b3.cell 0
        have l3 := HJ2.out.b3.lt
        have hzr := HJ2.out.be.size
        have cf := HFW.out _ _ _ K2.out wr HJ2.out.be
        have cp0 := HFW.out _ _ _ (KP.out.cell hi) wr HJ2.out.be
        simp only [iv] at cp0
        have lf : fb < wr.heap.size := by omega
        have lg : gp < wr.heap.size := by omega
        have HJ3 : Hid (AskJ w 71 L n fb W3.heap.size (W3.heap.size + 1) w1.heap.size (w1.heap.size + 1) S (tabStep accCI (kids p n) (dueB L own) V i) wr) := hide (HJ2.out.congr fun c _ => by
          rw [part_all]
          unfold tv tabStep
          congr 1
          dsimp only
          by_cases e : c / 4 = i
          · rw [if_pos e, if_pos e, e]
          · rw [if_neg e, if_neg e])
        by_cases hpm : p i = -1
        · rw [hpm] at cp0
          have Q3 : ∀ x : Later wr, x.w.cell? ⟨W3.heap.size + 1, 0, none⟩ = some (.slice (some ⟨W3.heap.size, 0, none⟩) n n) := fun x => x.cell (HJ2.out.b7.cell 0)
          have Q4 : ∀ x : Later wr, x.w.cell? ⟨w.heap.size + 1, 0, none⟩ = some (.iface 71 (.agg #[])) := fun x => x.cell (HJ2.out.b4.cell 0)
          have Q8 : ∀ x : Later wr, x.w.cell? ⟨w1.heap.size, 0, none⟩ = some (.int .i64 S) := fun x => x.cell (HJ2.out.b8.cell 0)
          have t0 := HJ3.out.tb.cell (k := i * 4 + 0 * 2 + 0) (by omega)
          have t1 := HJ3.out.tb.cell (k := i * 4 + 1 * 2 + 0) (by omega)
          rw [tv_at _ (by omega) (by omega)] at t0 t1
          simp only [Nat.zero_mul, Nat.add_zero, Nat.one_mul] at t0 t1
          obtain ⟨U0, hU0⟩ : ∃ U0, tabStep accCI (kids p n) (dueB L own) V i i 0 0 = U0 := ⟨_, rfl⟩
          obtain ⟨U1, hU1⟩ : ∃ U1, tabStep accCI (kids p n) (dueB L own) V i i 1 0 = U1 := ⟨_, rfl⟩
          rw [hU0] at t0
          rw [hU1] at t1
          have T0 : ∀ x : Later wr, x.w.cell? ⟨W3.heap.size, i * 4, none⟩ = some (.int .i64 U0) := fun x => x.cell t0
          have T1 : ∀ x : Later wr, x.w.cell? ⟨W3.heap.size, i * 4 + 2, none⟩ = some (.int .i64 U1) := fun x => x.cell t1
          have C1 : Hid (∀ y, Calls Tryd.prog 156 #[.agg #[], .int .i64 U0, .int .i64 U1] y _) := hide fun y => either71 U0 U1 y
          have C2 : Hid (∀ y, Calls Tryd.prog 155 #[.agg #[], .int .i64 S, .int .i64 (accCI.either U0 U1)] y _) := hide fun y => both71 S (accCI.either U0 U1) y
          have HU0 := hide hU0
          have HU1 := hide hU1
          have HPM := hide hpm
          clear hpm t0 t1 hU0 hU1
          gi_wp2_with fail
          refine wpIn_later_tail 23 (by kernel_rfl) (by kernel_rfl) (by kernel_rfl) ?_
          simp only [List.take_succ_cons, List.take_zero]
          repeat (first | go_big_quiet_skip | (go_big_quiet_want; go_big_quiet_op; first | go_big_quiet_on | (apply Exists.intro; refine ⟨fun x => ?_, ?_⟩; (· (first | (with_reducible exact Later.call x (C1.out x.w)) | (with_reducible exact Later.call x (C2.out x.w)))); go_big_quiet_on)))
          refine wpQuiet_nil ?_
          rintro _ ⟨x, rfl⟩
          have HJ6 := hide (HJ3.out.all x.is)
          have HD6 := hide (HD2.out.trans (Bdy.of_below x.is hzr HJ2.out.top))
          have y0 : x.w.cell? ⟨w1.heap.size, 0, none⟩ = some (.int .i64 S) := HJ6.out.b8.cell 0
          have y1 := HJ6.out.b8.frozen 0
          have y2 := HJ6.out.b8.lt
          clear Q3 Q4 Q8 T0 T1
          simp only [List.drop_succ_cons, List.drop_zero]
          gi_wp2
          have HDf := HD6.out.trans (Bdy.set (c := w1.heap.size) (d := 0) (u := .int .i64 (accCI.both S (accCI.either U0 U1))) (by omega) (by omega))
          refine ⟨HDf.ko, HDf.kq, ?_⟩
          simp only [AskI, List.map_append, List.map_cons, List.map_nil, askRun_snoc]
          unfold askStep
          rw [HS.out, HV.out, if_pos (by rw [HPM.out]; decide), HU0.out, HU1.out]
          exact HJ6.out.set8 (by omega) (by omega) (by omega) _
        · have hpb : (p i == -1) = false := by simpa using hpm
          have hpn : ¬ p i < 0 := by have := HP.out i hi; omega
          have HPN := hide hpn
          clear hpn hpm
          gi_wp2
          refine ⟨HD2.out.ko, HD2.out.kq, ?_⟩
          simp only [AskI, List.map_append, List.map_cons, List.map_nil, askRun_snoc]
          unfold askStep
          rw [HS.out, HV.out, if_neg (by have := HPN.out; omega)]
          exact HJ3.out
  case hdone =>
    rintro D xs W hD rfl hI hK
    have y8 : W.cell? ⟨w1.heap.size, 0, none⟩ = some (.int .i64 (askRun accCI (kids p n) (dueB L own) p 0 ((bk el n n).map fun (x : { x : Nat × Nat // x.2 < n }) => x.1.2)).1) := hI.b8.cell 0
    have hbe := hI.be
    have hseq : ((bk el n n).map fun (x : { x : Nat × Nat // x.2 < n }) => x.1.2) = (List.range n).map fun j => f (n - 1 - j) := by
      rw [bk, List.map_map]
      apply List.map_congr_left
      intro j hj
      have := List.mem_range.1 hj
      simp [HEL.out (n - 1 - j) (by omega)]
    rw [hseq] at y8
    have HSQ := hide hseq
    have HBE := hide hbe
    have HDK := hide hK
    clear hI hbe hseq hK
    gi_wp2
    refine ⟨by simp, .inl ⟨_, _, rfl, run_takeDeferred HDK.out, ?_⟩⟩
    refine ⟨_, results_tmp rfl _ _ _, rfl, ?_⟩
    exact HBE.out.trans (belowK_b (w := w) (Nat.le_refl _) W D _ _ (by omega) HDK.out rfl rfl)
  case hstop =>
    rintro D c pre W _ _ h _
    exact h.elim
theorem sin72 (w : World) : Calls Tryd.prog 162 #[.agg #[], .int .i64 0] w fun e w' => e = .returned (.int .i64 (accLI.single 0)) ∧ Below w.heap.size w w' := single72 0 w
set_option maxRecDepth 100000 in
theorem ask72 (fb g n c gp cp lb d L : Nat) (F : Nat → Nat) (p : Nat → Int) (own : Bool) (f : Nat → Nat) (w : World) (hn : n ≤ 16) (hn1 : 1 ≤ n) (_ : L < 65536) (hF : ∀ i, i < n → F i < 65536) (hf : ∀ j, j < n → f j < n) (hT : Tab w) (hw1 : 1 < w.heap.size)
    (hQ : ∀ i, i < n → ∀ j, (ch F p i).testBit j = true ↔ j < n ∧ p j = (i : Nat)) (hp : ∀ i, i < n → p i = -1 ∨ (0 ≤ p i ∧ p i < 16)) (hpi : ∀ i, i < n → p i ≠ (i : Nat)) (hir : ∀ i, i < n → (F i).testBit i = false)
    (k0 : w.cell? ⟨fb, 0, none⟩ = some (.slice (some ⟨g, 0, none⟩) n c)) (k1 : w.cell? ⟨fb, 1, none⟩ = some (.bool own)) (k2 : w.cell? ⟨fb, 2, none⟩ = some (.slice (some ⟨gp, 0, none⟩) n cp)) (k3 : w.cell? ⟨fb, 3, none⟩ = some (.slice (some ⟨lb, 0, none⟩) n d))
    (kn : Arr w 3 g n (iv (nv F))) (kp : Arr w 3 gp n (iv p)) (kl : ∀ j, j < n → w.cell? ⟨lb, j, none⟩ = some (.int .i64 (f j : Nat))) :
    Calls Tryd.prog 91 #[.pointer (some ⟨fb, 0, none⟩), .iface 72 (.agg #[]), .int .i64 (L : Nat)] w fun e w' =>
      e = .returned (.int .i64 (askRun accLI (kids p n) (dueB L own) p 0 ((List.range n).map fun j => f (n - 1 - j))).1) ∧ Below w.heap.size w w' := by
  obtain ⟨el, hel⟩ : ∃ el : Nat → { x : Nat × Nat // x.2 < n }, ∀ j, j < n → (el j).1 = (j, f j) :=
    ⟨fun j => if h : f j < n then ⟨(j, f j), h⟩ else ⟨(0, 0), hn1⟩, fun j hj => by simp [hf j hj]⟩
  have HEL := hide hel
  clear hel
  have hfl := World.block_lt_of_cell? w _ k0
  have hgl := kn.lt
  have hpl := kp.lt
  have hll := World.block_lt_of_cell? w _ (kl 0 (by omega))
  have HF := hide hF
  have Hf := hide hf
  have HT := hide hT
  have HQ := hide hQ
  have HP := hide hp
  have HPI := hide hpi
  have HIR := hide hir
  have KN := hide kn
  have KP := hide kp
  have KL := hide kl
  clear hF hf hT hQ hp hpi hir kn kp kl
  obtain ⟨W3, hW3⟩ : ∃ W3, ((w.alloc (Obj.cells #[Value.pointer (some ⟨fb, 0, none⟩)] 97)).alloc (Obj.cells #[Value.iface 72 (Value.agg #[])] 88)).alloc (Obj.cells #[Value.int .i64 (L : Nat)] 3) = W3 := ⟨_, rfl⟩
  have hB3 : Below w.heap.size w W3 := by rw [← hW3]; go_grown
  have hz3 : W3.heap.size = w.heap.size + 1 + 1 + 1 := by rw [← hW3]; simp
  have B3 : Hid (Blk W3 97 w.heap.size #[Value.pointer (some ⟨fb, 0, none⟩)]) := hide (by rw [← hW3]; exact ((Blk.new _ _ _ rfl).alloc _).alloc _)
  have B4 : Hid (Blk W3 88 (w.heap.size + 1) #[Value.iface 72 (Value.agg #[])]) := hide (by rw [← hW3]; exact (Blk.new _ _ _ (by simp)).alloc _)
  have B5 : Hid (Blk W3 3 (w.heap.size + 1 + 1) #[Value.int .i64 (L : Nat)]) := hide (by rw [← hW3]; exact Blk.new _ _ _ (by simp))
  have b3 : W3.cell? ⟨w.heap.size, 0, none⟩ = some (Value.pointer (some ⟨fb, 0, none⟩)) := B3.out.cell 0
  have b4 : W3.cell? ⟨w.heap.size + 1, 0, none⟩ = some (Value.iface 72 (Value.agg #[])) := B4.out.cell 0
  have l3 := B3.out.lt
  have l4 := B4.out.lt
  have q0 := (hB3.cell (p := ⟨fb, 0, none⟩) hfl).trans k0
  have q3 := (hB3.cell (p := ⟨fb, 3, none⟩) hfl).trans k3
  have hfl3 : fb < W3.heap.size := Nat.lt_of_lt_of_le hfl hB3.size
  have HB3 := hide hB3
  have HZ3 := hide hz3
  have hmk := made4 W3 n hn
  have K0 := hide k0
  have K1 := hide k1
  have K2 := hide k2
  have K3 := hide k3
  clear hB3 hz3 k0 k1 k2 k3
  refine (callsIn_wide (n := 9)).1 ?_
  refine callsIn_of_wp_marks Tryd.func91 rfl trivial ?_ rfl
  simp only [Tryd.ntmps91, List.size_toArray, List.length_cons, List.length_nil, Nat.reduceAdd, Nat.reduceSub, Array.replicate_succ, Array.replicate_zero, List.push_toArray, List.append_toArray, List.nil_append, List.cons_append]
  gi_wp2_with fail
  refine ⟨trivial, ?_⟩
  refine (callsIn_wide.2 (sin72 _)).mono ?_
  rintro e w1 ⟨rfl, hb1⟩
  have HB1 := hide hb1
  have ta : Arr (W3.alloc (.cells (madeCells #[.int .i64 0] (n * 4)) 110)) 110 W3.heap.size (n * 4) (fun _ => .int .i64 0) := Arr.made W3 _ _ 110
  have B7 := hide ((Blk.new (W3.alloc (.cells (madeCells #[.int .i64 0] (n * 4)) 110)) 106 #[Value.slice (some ⟨W3.heap.size, 0, none⟩) n n] (b := W3.heap.size + 1) (by simp)).all hb1)
  have TA := hide ((ta.alloc _).all hb1)
  have B3 := hide (((B3.out.alloc _).alloc _).all hb1)
  have B4 := hide (((B4.out.alloc _).alloc _).all hb1)
  have B5 := hide (((B5.out.alloc _).alloc _).all hb1)
  have HB1 := hide ((HB3.out.trans ((by go_grown : Below W3.heap.size W3 _).mono HB3.out.size)).trans (hb1.mono (by have := HB3.out.size; simp; omega)))
  have hz1 := hb1.size
  simp only [World.size_alloc] at hz1
  have x3 : w1.cell? ⟨w.heap.size, 0, none⟩ = some (Value.pointer (some ⟨fb, 0, none⟩)) := B3.out.cell 0
  have x4 := HB1.out.cell (p := ⟨fb, 3, none⟩) hfl
  rw [K3.out] at x4
  have l3 := B3.out.lt
  have hfl1 : fb < w1.heap.size := Nat.lt_of_lt_of_le hfl HB1.out.size
  clear hb1 ta q0 q3 b3 b4
  gi_wp2_with fail
  refine ⟨trivial, ?_⟩
  refine (callsIn_wide.2 (back_any _ _ _ _)).mono ?_
  rintro e w2 ⟨rfl, hw2⟩
  subst w2
  simp only [World.size_alloc]
  obtain ⟨W9, hW9⟩ : ∃ W9, (w1.alloc (.cells #[.int .i64 (accLI.single 0)] 3)).alloc (.cells #[.slice (some ⟨lb, 0, none⟩) n d] 22) = W9 := ⟨_, rfl⟩
  have B3 := hide (B3.out.alloc (.cells #[.int .i64 (accLI.single 0)] 3) |>.alloc (.cells #[.slice (some ⟨lb, 0, none⟩) n d] 22))
  have B4 := hide (B4.out.alloc (.cells #[.int .i64 (accLI.single 0)] 3) |>.alloc (.cells #[.slice (some ⟨lb, 0, none⟩) n d] 22))
  have B5 := hide (B5.out.alloc (.cells #[.int .i64 (accLI.single 0)] 3) |>.alloc (.cells #[.slice (some ⟨lb, 0, none⟩) n d] 22))
  have B7 := hide (B7.out.alloc (.cells #[.int .i64 (accLI.single 0)] 3) |>.alloc (.cells #[.slice (some ⟨lb, 0, none⟩) n d] 22))
  have TA := hide (TA.out.alloc (.cells #[.int .i64 (accLI.single 0)] 3) |>.alloc (.cells #[.slice (some ⟨lb, 0, none⟩) n d] 22))
  have B8 := hide ((Blk.new w1 3 #[.int .i64 (accLI.single 0)] rfl).alloc (.cells #[.slice (some ⟨lb, 0, none⟩) n d] 22))
  have B9 := hide (Blk.new (w1.alloc (.cells #[.int .i64 (accLI.single 0)] 3)) 22 #[.slice (some ⟨lb, 0, none⟩) n d] (b := w1.heap.size + 1) (by simp))
  have HB9 := hide (HB1.out.trans ((by go_grown : Below w1.heap.size w1 ((w1.alloc (.cells #[.int .i64 (accLI.single 0)] 3)).alloc (.cells #[.slice (some ⟨lb, 0, none⟩) n d] 22))).mono HB1.out.size))
  have hz9 : W9.heap.size = w1.heap.size + 1 + 1 := by rw [← hW9]; simp
  rw [hW9] at B3 B4 B5 B7 TA B8 B9 HB9
  rw [hW9]
  have HZ9 := hide hz9
  clear hW9 hz9 x3 x4 l3 hfl1 hfl3
  gi_wp2_with fail
  have hll9 := HB9.out.size
  have hz9 := HZ9.out
  have hz3 := HZ3.out
  have hz1' := hz1
  have hb8 := B8.out.lt
  have hb7 := B7.out.lt
  have hta := TA.out.lt
  have hord : w.heap.size + 3 ≤ W3.heap.size ∧ W3.heap.size + 2 ≤ w1.heap.size ∧ w1.heap.size + 2 ≤ W9.heap.size := by omega
  have hKL9 : ∀ j, j < n → W9.cell? ⟨lb, j, none⟩ = some (.int .i64 (f j : Nat)) := fun j hj => (HB9.out.cell (p := ⟨lb, j, none⟩) hll).trans (KL.out j hj)
  have hI0 : AskI w 72 L n fb W3.heap.size (W3.heap.size + 1) w1.heap.size (w1.heap.size + 1) accLI (kids p n) (dueB L own) p [] W9 :=
    ⟨HB9.out, B3.out, B4.out, B5.out, B7.out, B8.out, TA.out.congr (fun c _ => by simp [tv, askRun]), by omega⟩
  clear hz9 hz3 hz1' hz1
  apply wpIn_rangeFunc_ownF (F := Fence.wide) (n := 9) (α := { x : Nat × Nat // x.2 < n }) rfl (by omega) (gf := 83) (lb := #[.pointer (some ⟨w1.heap.size + 1, 0, none⟩)]) rfl trivial (enters_of Tryd.func83 (by kernel_rfl) rfl)
    (back_stops el (fun (x : { x : Nat × Nat // x.2 < n }) => #[.int .i64 (x.1.1 : Nat), .int .i64 (x.1.2 : Nat)]) Fence.wide (9 - 1) trivial rfl (by omega) (w1.heap.size + 1) w.heap.size lb n d f (by omega) W9 (by omega) hll (by omega) (B9.out.cell 0) hKL9 (fun j hj => by rw [HEL.out j hj]))
    Kq.trans (fun W l o o' h1 h2 h3 h4 => Kq.put (w := W9) (by omega) (by omega) W l o o' h1 h2 h3 h4) (Below.refl _ _) (fun _ => rfl)
    (fun pre W => AskI w 72 L n fb W3.heap.size (W3.heap.size + 1) w1.heap.size (w1.heap.size + 1) accLI (kids p n) (dueB L own) p (pre.map fun (x : { x : Nat × Nat // x.2 < n }) => x.1.2) W) (fun _ _ _ => False)
    (AskI.own (w := w) (b7 := W3.heap.size + 1) (b8 := w1.heap.size) (bs := w1.heap.size + 1) (tb := W3.heap.size) (B := W9.heap.size) (fun (x : { x : Nat × Nat // x.2 < n }) => x.1.2) (by omega) (by omega) (by omega) (by omega)) (fun _ _ _ _ _ hs _ _ => hs) hI0
  case hassign =>
    intro l x W K hK
    gi_wp2
    exact hK
  case hbody =>
    rintro l pre ⟨⟨xj, i⟩, hi0⟩ W hI _
    have hi : i < n := hi0
    dsimp only
    obtain ⟨S, hS⟩ : ∃ S, (askRun accLI (kids p n) (dueB L own) p 0 (pre.map fun (x : { x : Nat × Nat // x.2 < n }) => x.1.2)).1 = S := ⟨_, rfl⟩
    obtain ⟨V, hV⟩ : ∃ V, (askRun accLI (kids p n) (dueB L own) p 0 (pre.map fun (x : { x : Nat × Nat // x.2 < n }) => x.1.2)).2 = V := ⟨_, rfl⟩
    have HJ0 : Hid (AskJ w 72 L n fb W3.heap.size (W3.heap.size + 1) w1.heap.size (w1.heap.size + 1) S V W) := hide (by rw [← hS, ← hV]; exact hI)
    have HS := hide hS
    have HV := hide hV
    clear hI hS hV
    have hin : (i : Int) < (n : Int) := by omega
    have hzW := HJ0.out.be.size
    have HFW : Hid (∀ b o v, w.cell? ⟨b, o, none⟩ = some v → ∀ y : World, Below w.heap.size w y → y.cell? ⟨b, o, none⟩ = some v) := hide fun b o v h y hb => (hb.cell (p := ⟨b, o, none⟩) (World.block_lt_of_cell? w _ h)).trans h
    have Q3 : ∀ x : Later W, x.w.cell? ⟨w.heap.size, 0, none⟩ = some (.pointer (some ⟨fb, 0, none⟩)) := fun x => x.cell (HJ0.out.b3.cell 0)
    have Q5 : ∀ x : Later W, x.w.cell? ⟨w.heap.size + 1 + 1, 0, none⟩ = some (.int .i64 (L : Nat)) := fun x => x.cell (HJ0.out.b5.cell 0)
    have Qa : ∀ x : Later W, x.w.cell? ⟨fb, 0, none⟩ = some (.slice (some ⟨g, 0, none⟩) n c) := fun x => x.cell (HFW.out _ _ _ K0.out W HJ0.out.be)
    have Qb : ∀ x : Later W, x.w.cell? ⟨fb, 1, none⟩ = some (.bool own) := fun x => x.cell (HFW.out _ _ _ K1.out W HJ0.out.be)
    have hFi := HF.out i hi
    have HTg : Hid (∀ x : Later W, Calls Tryd.prog 114 #[.agg #[.slice (some ⟨g, 0, none⟩) n c, .bool own], .int .i64 (i : Nat)] x.w fun e w' => e = .returned (.int .i64 (tgN F own i : Nat)) ∧ Below x.w.heap.size x.w w') := hide fun x => toggles_any g n c i F own x.w hi hn hFi (x.cell (HFW.out _ _ _ (KN.out.cell hi) W HJ0.out.be))
    have e1 := light_bit L i
    have e2 := light_bit (tgN F own i) i
    have hi64 : (i : Int) < 64 := by omega
    have hi00 : (0 : Int) ≤ (i : Int) := by omega
    gi_wp2_with fail
    refine wpIn_later (by kernel_rfl) (by kernel_rfl) (by kernel_rfl) ?_
    repeat (first | go_big_quiet_skip | (go_big_quiet_want; go_big_quiet_op; first | go_big_quiet_on | (apply Exists.intro; refine ⟨fun x => ?_, ?_⟩; (· (with_reducible exact Later.call x (HTg.out x))); go_big_quiet_on)))
    refine wpQuiet_nil ?_
    rintro _ ⟨x, rfl⟩
    have HJ1 := hide (HJ0.out.all x.is)
    have HD1 : Hid (Bdy w.heap.size (w1.heap.size + 1) W x.w) := hide (Bdy.of_below x.is hzW HJ0.out.top)
    obtain ⟨lt, hlt⟩ : ∃ lt, L / 2 ^ i % 2 = lt := ⟨_, rfl⟩
    obtain ⟨ow, how⟩ : ∃ ow, tgN F own i / 2 ^ i % 2 = ow := ⟨_, rfl⟩
    have hlt2 : lt < 2 := by rw [← hlt]; exact Nat.mod_lt _ (by decide)
    have how2 : ow < 2 := by rw [← how]; exact Nat.mod_lt _ (by decide)
    have hltI : (L : Int) / 2 ^ i % 2 = (lt : Int) := by rw [← hlt, ← pow_nat]; rfl
    have howI : ((tgN F own i : Nat) : Int) / 2 ^ i % 2 = (ow : Int) := by rw [← how, ← pow_nat]; rfl
    rw [hltI, howI]
    clear hltI howI
    have HOW : Hid (ow = if own then 1 else 0) := hide (by rw [← how]; exact own_bit F own i (HIR.out i hi))
    have HLT := hide hlt
    clear Q3 Q5 Qa Qb e1 e2 hlt how
    have h7t : W3.heap.size + 1 ≠ W3.heap.size := by omega
    gi_wp2_with fail
    gi_loopw [45] (fun y wr => ∃ a : Nat, a ≤ 2 ∧ y = .int .i64 (a : Nat) ∧ Hid (AskJ w 72 L n fb W3.heap.size (W3.heap.size + 1) w1.heap.size (w1.heap.size + 1) S (part (fun j x y => stOf accLI (kids p n) (dueB L own) V j x y) V i a 0) wr) ∧ Hid (Bdy w.heap.size (w1.heap.size + 1) W wr)) (fun y _ => 2 - (intOf y).toNat)
    case atStart => exact ⟨0, by omega, rfl, hide (by rw [part_zero]; exact HJ1.out), HD1⟩
    case round =>
      obtain ⟨a, ha, rfl, HJ2, HD2⟩ := hrel
      by_cases ha2 : a < 2
      · have haI : (a : Int) < 2 := by omega
        have c3 : wr.cell? ⟨w.heap.size, 0, none⟩ = some (.pointer (some ⟨fb, 0, none⟩)) := HJ2.out.b3.cell 0
        have c4 : wr.cell? ⟨w.heap.size + 1, 0, none⟩ = some (.iface 72 (.agg #[])) := HJ2.out.b4.cell 0
        have c7 : wr.cell? ⟨W3.heap.size + 1, 0, none⟩ = some (.slice (some ⟨W3.heap.size, 0, none⟩) n n) := HJ2.out.b7.cell 0
        have l3 := HJ2.out.b3.lt
        have l4 := HJ2.out.b4.lt
        have l7 := HJ2.out.b7.lt
        have hzr := HJ2.out.be.size
        have HAB : Hid (Calls Tryd.prog 115 #[.pointer (some ⟨fb, 0, none⟩), .iface 72 (.agg #[]), .slice (some ⟨W3.heap.size, 0, none⟩) n n, .int .i64 (i : Nat), .int .i64 (a : Nat)] wr _) :=
          hide (askBelow72 fb g n c gp cp W3.heap.size n i a F p V wr hi hn ha2 hFi (HQ.out i hi) (HT.out.below' HJ2.out.be hw1) (by omega) (HFW.out _ _ _ K0.out wr HJ2.out.be) (HFW.out _ _ _ K2.out wr HJ2.out.be) (HFW.out _ _ _ (KN.out.cell hi) wr HJ2.out.be) (HFW.out _ _ _ (KP.out.cell hi) wr HJ2.out.be) (HP.out i hi) HJ2.out.tb.lt
            (fun j hj hpj => by
              have hji : j ≠ i := fun e => HPI.out i hi (by rw [← e]; rw [e] at hpj ⊢; exact hpj)
              have t0 := HJ2.out.tb.cell (k := j * 4 + 0 * 2 + a) (by omega)
              have t1 := HJ2.out.tb.cell (k := j * 4 + 1 * 2 + a) (by omega)
              rw [tv_at _ (by omega) ha2] at t0 t1
              simp only [part, hji, false_and, if_false, Nat.zero_mul, Nat.add_zero, Nat.one_mul] at t0 t1
              exact ⟨t0, t1⟩))
        gi_wp2_with fail
        refine ⟨trivial, ?_⟩
        refine (CallsIn.inRound l (callsIn_wide.2 HAB.out)).mono ?_
        rintro e w4 ⟨rfl, hb4⟩
        have HJ4 := hide ((HJ2.out.all hb4).all ((Below.refl w4.heap.size w4).alloc (Nat.le_refl _) (.cells #[.int .i64 (kRun accLI V a (kids p n i)).1, .int .i64 (kRun accLI V a (kids p n i)).2] 107)))
        have HD4 := hide ((HD2.out.trans (Bdy.of_below hb4 hzr HJ2.out.top)).trans (Bdy.of_below ((Below.refl w4.heap.size w4).alloc (Nat.le_refl _) (.cells #[.int .i64 (kRun accLI V a (kids p n i)).1, .int .i64 (kRun accLI V a (kids p n i)).2] 107)) (Nat.le_trans hzr hb4.size) (Nat.lt_of_lt_of_le HJ2.out.top hb4.size)))
        have HB14 := hide (Blk.new w4 107 #[.int .i64 (kRun accLI V a (kids p n i)).1, .int .i64 (kRun accLI V a (kids p n i)).2] rfl)
        have hz4 := hb4.size
        have htop := HJ2.out.top
        have htb2 := HJ2.out.tb.lt
        have hb82 := HJ2.out.b8.lt
        clear hb4 c3 c4 c7 l3 l4 l7
        gi_wp2_with fail
        gi_loopw [54] (fun y wi => ∃ b : Nat, b ≤ 2 ∧ y = .int .i64 (b : Nat) ∧ Hid (AskJ w 72 L n fb W3.heap.size (W3.heap.size + 1) w1.heap.size (w1.heap.size + 1) S (part (fun j x y => stOf accLI (kids p n) (dueB L own) V j x y) V i a b) wi) ∧ Hid (Bdy w.heap.size (w1.heap.size + 1) W wi) ∧ Hid (Blk wi 107 w4.heap.size #[.int .i64 (kRun accLI V a (kids p n i)).1, .int .i64 (kRun accLI V a (kids p n i)).2])) (fun y _ => 2 - (intOf y).toNat)
        case atStart => exact ⟨0, by omega, rfl, HJ4, HD4, HB14⟩
        case round =>
          obtain ⟨b, hb, rfl, HJ5, HD5, HB5⟩ := hrel
          by_cases hb2 : b < 2
          · have hbI : (b : Int) < 2 := by omega
            have hz5 := HJ5.out.be.size
            have hdd : dueB L own i a b = decide ((lt + ow * a + b) % 2 = 1) := by
              unfold dueB
              rw [HLT.out, HOW.out]
              congr 1
              cases own <;> simp <;> congr 1 <;> omega
            have Q3 : ∀ x : Later wr, x.w.cell? ⟨W3.heap.size + 1, 0, none⟩ = some (.slice (some ⟨W3.heap.size, 0, none⟩) n n) := fun x => x.cell (HJ5.out.b7.cell 0)
            have Q4 : ∀ x : Later wr, x.w.cell? ⟨w.heap.size + 1, 0, none⟩ = some (.iface 72 (.agg #[])) := fun x => x.cell (HJ5.out.b4.cell 0)
            have C0 : Hid (∀ y, Calls Tryd.prog 162 #[.agg #[], .int .i64 (a : Nat)] y _) := hide fun y => single72 a y
            have hneq : w4.heap.size ≠ W3.heap.size := by omega
            cases hd : dueB L own i a b
            · skip
              have hx : (lt + ow * a + b) % 2 = 0 := by
                rw [hdd] at hd
                have := of_decide_eq_false hd; omega
              have e1 : bits .xor .i64 (bits .xor .i64 (lt : Int) (bits .and .i64 (ow : Int) (a : Int))) (b : Int) = 0 := by rw [xor_due lt ow a b hlt2 how2 ha2 hb2, hx]; rfl
              have Q14 : ∀ x : Later wr, x.w.cell? ⟨w4.heap.size, 0, none⟩ = some (.int .i64 (kRun accLI V a (kids p n i)).1) := fun x => x.cell (HB5.out.cell 0)
              have C1 : Hid (∀ y, Calls Tryd.prog 159 #[.agg #[], .int .i64 (accLI.single a), .int .i64 (kRun accLI V a (kids p n i)).1] y _) := hide fun y => both72 (accLI.single a) (kRun accLI V a (kids p n i)).1 y
              have hval : Hid (accLI.both (accLI.single a) (kRun accLI V a (kids p n i)).1 = stOf accLI (kids p n) (dueB L own) V i a b) := hide (by unfold stOf; rw [hd]; rfl)
              clear hx hd hdd
              gi_wp2_with fail
              refine wpIn_later_tail 24 (by kernel_rfl) (by kernel_rfl) (by kernel_rfl) ?_
              simp only [List.take_succ_cons, List.take_zero]
              repeat (first | go_big_quiet_skip | (go_big_quiet_want; go_big_quiet_op; first | go_big_quiet_on | (apply Exists.intro; refine ⟨fun x => ?_, ?_⟩; (· (first | (with_reducible exact Later.call x (C0.out x.w)) | (with_reducible exact Later.call x (C1.out x.w)))); go_big_quiet_on)))
              refine wpQuiet_nil ?_
              rintro _ ⟨x, rfl⟩
              have HJ6 := hide (HJ5.out.all x.is)
              have HD6 := hide (HD5.out.trans (Bdy.of_below x.is hz5 HJ5.out.top))
              have HB6 := hide (HB5.out.all x.is)
              have y0 := HJ6.out.tb.cell (k := i * 4 + a * 2 + b) (by omega)
              have y1 := HJ6.out.tb.frozen (i * 4 + a * 2 + b)
              have y2 := HJ6.out.tb.lt
              clear Q3 Q4 Q14 e1
              simp only [List.drop_succ_cons, List.drop_zero]
              gi_wp2
              go_roundw
              case rel =>
                refine ⟨b + 1, by omega, by go_num, hide ?_, hide (HD6.out.trans (Bdy.set (by omega) (by omega))), hide (HB6.out.far (p := ⟨W3.heap.size, i * 4 + a * 2 + b, none⟩) (by show w4.heap.size ≠ W3.heap.size; omega) _)⟩
                refine HJ6.out.setT (by omega) (by omega) (by omega) (fun c => ?_)
                rw [part_one _ _ ha2 hb2, hval.out]
              case measure => simp [intOf]; omega
            · skip
              have hx : (lt + ow * a + b) % 2 = 1 := by
                rw [hdd] at hd
                exact of_decide_eq_true hd
              have e1 : bits .xor .i64 (bits .xor .i64 (lt : Int) (bits .and .i64 (ow : Int) (a : Int))) (b : Int) = 1 := by rw [xor_due lt ow a b hlt2 how2 ha2 hb2, hx]; rfl
              have Q14 : ∀ x : Later wr, x.w.cell? ⟨w4.heap.size, 1, none⟩ = some (.int .i64 (kRun accLI V a (kids p n i)).2) := fun x => x.cell (HB5.out.cell 1)
              have C1 : Hid (∀ y, Calls Tryd.prog 159 #[.agg #[], .int .i64 (accLI.single a), .int .i64 (kRun accLI V a (kids p n i)).2] y _) := hide fun y => both72 (accLI.single a) (kRun accLI V a (kids p n i)).2 y
              have hval : Hid (accLI.both (accLI.single a) (kRun accLI V a (kids p n i)).2 = stOf accLI (kids p n) (dueB L own) V i a b) := hide (by unfold stOf; rw [hd]; rfl)
              clear hx hd hdd
              gi_wp2_with fail
              refine wpIn_later_tail 24 (by kernel_rfl) (by kernel_rfl) (by kernel_rfl) ?_
              simp only [List.take_succ_cons, List.take_zero]
              repeat (first | go_big_quiet_skip | (go_big_quiet_want; go_big_quiet_op; first | go_big_quiet_on | (apply Exists.intro; refine ⟨fun x => ?_, ?_⟩; (· (first | (with_reducible exact Later.call x (C0.out x.w)) | (with_reducible exact Later.call x (C1.out x.w)))); go_big_quiet_on)))
              refine wpQuiet_nil ?_
              rintro _ ⟨x, rfl⟩
              have HJ6 := hide (HJ5.out.all x.is)
              have HD6 := hide (HD5.out.trans (Bdy.of_below x.is hz5 HJ5.out.top))
              have HB6 := hide (HB5.out.all x.is)
              have y0 := HJ6.out.tb.cell (k := i * 4 + a * 2 + b) (by omega)
              have y1 := HJ6.out.tb.frozen (i * 4 + a * 2 + b)
              have y2 := HJ6.out.tb.lt
              clear Q3 Q4 Q14 e1
              simp only [List.drop_succ_cons, List.drop_zero]
              gi_wp2
              go_roundw
              case rel =>
                refine ⟨b + 1, by omega, by go_num, hide ?_, hide (HD6.out.trans (Bdy.set (by omega) (by omega))), hide (HB6.out.far (p := ⟨W3.heap.size, i * 4 + a * 2 + b, none⟩) (by show w4.heap.size ≠ W3.heap.size; omega) _)⟩
                refine HJ6.out.setT (by omega) (by omega) (by omega) (fun c => ?_)
                rw [part_one _ _ ha2 hb2, hval.out]
              case measure => simp [intOf]; omega
          · have hb3 : b = 2 := by omega
            subst hb3
            gi_wp2
            go_roundw
            case rel => exact ⟨a + 1, by omega, by go_num, hide (HJ5.out.congr fun c _ => (part_row _ _).symm), HD5⟩
            case measure => simp [intOf]; omega
      · have ha3 : a = 2 := by omega
        subst ha3
        have c3 : wr.cell? ⟨w.heap.size, 0, none⟩ = some (.pointer (some ⟨fb, 0, none⟩)) := HJ2.out.b3.cell 0
        have l3 := HJ2.out.b3.lt
        have hzr := HJ2.out.be.size
        have cf := HFW.out _ _ _ K2.out wr HJ2.out.be
        have cp0 := HFW.out _ _ _ (KP.out.cell hi) wr HJ2.out.be
        simp only [iv] at cp0
        have lf : fb < wr.heap.size := by omega
        have lg : gp < wr.heap.size := by omega
        have HJ3 : Hid (AskJ w 72 L n fb W3.heap.size (W3.heap.size + 1) w1.heap.size (w1.heap.size + 1) S (tabStep accLI (kids p n) (dueB L own) V i) wr) := hide (HJ2.out.congr fun c _ => by
          rw [part_all]
          unfold tv tabStep
          congr 1
          dsimp only
          by_cases e : c / 4 = i
          · rw [if_pos e, if_pos e, e]
          · rw [if_neg e, if_neg e])
        by_cases hpm : p i = -1
        · rw [hpm] at cp0
          have Q3 : ∀ x : Later wr, x.w.cell? ⟨W3.heap.size + 1, 0, none⟩ = some (.slice (some ⟨W3.heap.size, 0, none⟩) n n) := fun x => x.cell (HJ2.out.b7.cell 0)
          have Q4 : ∀ x : Later wr, x.w.cell? ⟨w.heap.size + 1, 0, none⟩ = some (.iface 72 (.agg #[])) := fun x => x.cell (HJ2.out.b4.cell 0)
          have Q8 : ∀ x : Later wr, x.w.cell? ⟨w1.heap.size, 0, none⟩ = some (.int .i64 S) := fun x => x.cell (HJ2.out.b8.cell 0)
          have t0 := HJ3.out.tb.cell (k := i * 4 + 0 * 2 + 0) (by omega)
          have t1 := HJ3.out.tb.cell (k := i * 4 + 1 * 2 + 0) (by omega)
          rw [tv_at _ (by omega) (by omega)] at t0 t1
          simp only [Nat.zero_mul, Nat.add_zero, Nat.one_mul] at t0 t1
          obtain ⟨U0, hU0⟩ : ∃ U0, tabStep accLI (kids p n) (dueB L own) V i i 0 0 = U0 := ⟨_, rfl⟩
          obtain ⟨U1, hU1⟩ : ∃ U1, tabStep accLI (kids p n) (dueB L own) V i i 1 0 = U1 := ⟨_, rfl⟩
          rw [hU0] at t0
          rw [hU1] at t1
          have T0 : ∀ x : Later wr, x.w.cell? ⟨W3.heap.size, i * 4, none⟩ = some (.int .i64 U0) := fun x => x.cell t0
          have T1 : ∀ x : Later wr, x.w.cell? ⟨W3.heap.size, i * 4 + 2, none⟩ = some (.int .i64 U1) := fun x => x.cell t1
          have C1 : Hid (∀ y, Calls Tryd.prog 160 #[.agg #[], .int .i64 U0, .int .i64 U1] y _) := hide fun y => either72 U0 U1 y
          have C2 : Hid (∀ y, Calls Tryd.prog 159 #[.agg #[], .int .i64 S, .int .i64 (accLI.either U0 U1)] y _) := hide fun y => both72 S (accLI.either U0 U1) y
          have HU0 := hide hU0
          have HU1 := hide hU1
          have HPM := hide hpm
          clear hpm t0 t1 hU0 hU1
          gi_wp2_with fail
          refine wpIn_later_tail 23 (by kernel_rfl) (by kernel_rfl) (by kernel_rfl) ?_
          simp only [List.take_succ_cons, List.take_zero]
          repeat (first | go_big_quiet_skip | (go_big_quiet_want; go_big_quiet_op; first | go_big_quiet_on | (apply Exists.intro; refine ⟨fun x => ?_, ?_⟩; (· (first | (with_reducible exact Later.call x (C1.out x.w)) | (with_reducible exact Later.call x (C2.out x.w)))); go_big_quiet_on)))
          refine wpQuiet_nil ?_
          rintro _ ⟨x, rfl⟩
          have HJ6 := hide (HJ3.out.all x.is)
          have HD6 := hide (HD2.out.trans (Bdy.of_below x.is hzr HJ2.out.top))
          have y0 : x.w.cell? ⟨w1.heap.size, 0, none⟩ = some (.int .i64 S) := HJ6.out.b8.cell 0
          have y1 := HJ6.out.b8.frozen 0
          have y2 := HJ6.out.b8.lt
          clear Q3 Q4 Q8 T0 T1
          simp only [List.drop_succ_cons, List.drop_zero]
          gi_wp2
          have HDf := HD6.out.trans (Bdy.set (c := w1.heap.size) (d := 0) (u := .int .i64 (accLI.both S (accLI.either U0 U1))) (by omega) (by omega))
          refine ⟨HDf.ko, HDf.kq, ?_⟩
          simp only [AskI, List.map_append, List.map_cons, List.map_nil, askRun_snoc]
          unfold askStep
          rw [HS.out, HV.out, if_pos (by rw [HPM.out]; decide), HU0.out, HU1.out]
          exact HJ6.out.set8 (by omega) (by omega) (by omega) _
        · have hpb : (p i == -1) = false := by simpa using hpm
          have hpn : ¬ p i < 0 := by have := HP.out i hi; omega
          have HPN := hide hpn
          clear hpn hpm
          gi_wp2
          refine ⟨HD2.out.ko, HD2.out.kq, ?_⟩
          simp only [AskI, List.map_append, List.map_cons, List.map_nil, askRun_snoc]
          unfold askStep
          rw [HS.out, HV.out, if_neg (by have := HPN.out; omega)]
          exact HJ3.out
  case hdone =>
    rintro D xs W hD rfl hI hK
    have y8 : W.cell? ⟨w1.heap.size, 0, none⟩ = some (.int .i64 (askRun accLI (kids p n) (dueB L own) p 0 ((bk el n n).map fun (x : { x : Nat × Nat // x.2 < n }) => x.1.2)).1) := hI.b8.cell 0
    have hbe := hI.be
    have hseq : ((bk el n n).map fun (x : { x : Nat × Nat // x.2 < n }) => x.1.2) = (List.range n).map fun j => f (n - 1 - j) := by
      rw [bk, List.map_map]
      apply List.map_congr_left
      intro j hj
      have := List.mem_range.1 hj
      simp [HEL.out (n - 1 - j) (by omega)]
    rw [hseq] at y8
    have HSQ := hide hseq
    have HBE := hide hbe
    have HDK := hide hK
    clear hI hbe hseq hK
    gi_wp2
    refine ⟨by simp, .inl ⟨_, _, rfl, run_takeDeferred HDK.out, ?_⟩⟩
    refine ⟨_, results_tmp rfl _ _ _, rfl, ?_⟩
    exact HBE.out.trans (belowK_b (w := w) (Nat.le_refl _) W D _ _ (by omega) HDK.out rfl rfl)
  case hstop =>
    rintro D c pre W _ _ h _
    exact h.elim
end Go.Proofs.YtmcimfblhpflnaaDoor
