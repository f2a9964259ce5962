/-
forestOf: the forest of a graph, or none.
-/
import Derived.Test.YtmcimfblhpflnaaDoorFE
import Derived.Test.YtmcimfblhpflnaaDoorZb
import Derived.Test.YtmcimfblhpflnaaDoorRQ
import Derived.Test.YtmcimfblhpflnaaDoorBK
import Derived.Test.YtmcimfblhpflnaaDoorPX
namespace Go.Proofs.YtmcimfblhpflnaaDoor
open Go.RowKit
set_option maxHeartbeats 4000000
def cpG (a : Act) (v19 v20 v21 v22 v23 v24 v25 : Value) (fb : Nat) : Act := ((((((((a.put (some 19) v19).put (some 20) v20).put (some 21) v21).put (some 22) v22).put (some 23) v23).put (some 24) v24).put (some 25) v25).put (some 6) (.pointer (some ⟨fb, 0, none⟩)))
def regG (a : Act) (X : Nat → World → Prop) : Exit → Act → World → Prop
  | .normal, a', w' => ∃ (v19 v20 v21 v22 v23 v24 v25 : Value) (fb : Nat), a' = cpG a v19 v20 v21 v22 v23 v24 v25 fb ∧ X fb w'
  | _, _, _ => False
theorem regCutG {P : Program} {c : Code} {Q : Exit → Act → World → Prop} {a : Act} {w : World} (X : Nat → World → Prop)
    (reg : c.wp P (regG a X) a w)
    (cont : ∀ (v19 v20 v21 v22 v23 v24 v25 : Value) (fb : Nat) (w' : World), X fb w' → Q .normal (cpG a v19 v20 v21 v22 v23 v24 v25 fb) w') : c.wp P Q a w :=
  Code.wp_mono (fun e a' w' h => by
    cases e <;> simp only [regG] at h
    obtain ⟨v19, v20, v21, v22, v23, v24, v25, fb, rfl, h⟩ := h
    exact cont v19 v20 v21 v22 v23 v24 v25 fb w' h) reg
/-- A new forest's block. -/
def NewF (w1 : World) (g n c : Nat) (own : Bool) (fb : Nat) (w' : World) : Prop :=
  ∃ gp, Blk w' 56 fb #[.slice (some ⟨g, 0, none⟩) n c, .bool own, .slice (some ⟨gp, 0, none⟩) n n, .slice none 0 0] ∧ Arr w' 3 gp n (fun _ => .int .i64 (-1)) ∧ Below w1.heap.size w1 w' ∧ w1.heap.size ≤ fb ∧ w1.heap.size ≤ gp ∧ fb ≠ gp
theorem blk_at (w : World) (o : Obj) (b : Nat) (h : b = w.heap.size) : (w.alloc o).heap[b]? = some o := by
  subst h; exact heap_alloc_new w o
theorem newF_a {w1 w2 : World} {g n c gp : Nat} {own : Bool} (ha : Arr w2 3 gp n (fun _ => .int .i64 (-1))) (hb : Below w1.heap.size w1 w2) (hgp : w1.heap.size ≤ gp) (hl : gp < w2.heap.size) :
    NewF w1 g n c own w2.heap.size (w2.alloc (.cells #[.slice (some ⟨g, 0, none⟩) n c, .bool own, .slice (some ⟨gp, 0, none⟩) n n, .slice none 0 0] 56)) :=
  ⟨gp, Blk.new _ _ _ rfl, ha.alloc _, hb.alloc hb.size _, hb.size, hgp, by omega⟩
theorem newF_b {w1 w2 : World} {g n c gp B : Nat} {own : Bool} (ha : Arr w2 3 gp n (fun _ => .int .i64 (-1))) (hb : Below w1.heap.size w1 w2) (hgp : B < gp) (hB : w1.heap.size ≤ B)
    (hk : w2.heap[B]? = some (.cells #[.slice none 0 0, .bool false, .slice none 0 0, .slice none 0 0] 56 (0, 0))) :
    NewF w1 g n c own B ((((w2.setCell ⟨B, 0, none⟩ (.slice (some ⟨g, 0, none⟩) n c)).setCell ⟨B, 1, none⟩ (.bool own)).setCell ⟨B, 2, none⟩ (.slice (some ⟨gp, 0, none⟩) n n)).setCell ⟨B, 3, none⟩ (.slice none 0 0)) := by
  have h : Blk w2 56 B #[.slice none 0 0, .bool false, .slice none 0 0, .slice none 0 0] := hk
  have h4 := (((h.set 0 (.slice (some ⟨g, 0, none⟩) n c)).set 1 (.bool own)).set 2 (.slice (some ⟨gp, 0, none⟩) n n)).set 3 (.slice none 0 0)
  refine ⟨gp, by simpa using h4, ?_, ?_, hB, by omega, by omega⟩
  · have hne : gp ≠ B := by omega
    exact (((ha.far (p := ⟨B, 0, none⟩) hne _).far (p := ⟨B, 1, none⟩) hne _).far (p := ⟨B, 2, none⟩) hne _).far (p := ⟨B, 3, none⟩) hne _
  · exact (((hb.setCell (p := ⟨B, 0, none⟩) hB _).setCell (p := ⟨B, 1, none⟩) hB _).setCell (p := ⟨B, 2, none⟩) hB _).setCell (p := ⟨B, 3, none⟩) hB _
/-- What forestOf leaves. -/
def ForestOk (w : World) (g n c : Nat) (F : Nat → Nat) (own : Bool) (e : Ending) (w' : World) : Prop :=
  ∃ (gp m d : Nat) (A : Option Addr) (o t : List Nat) (p : Nat → Int), e = .returned (.tuple #[.agg #[.slice (some ⟨g, 0, none⟩) n c, .bool own, .slice (some ⟨gp, 0, none⟩) n n, .slice A m d], .bool true]) ∧ Run F n o t p ∧ (o ++ t).length = m ∧ w.heap.size ≤ gp ∧
    Arr w' 3 gp n (iv p) ∧ OL w' w.heap.size (.slice A m d) (o ++ t) ∧ Below w.heap.size w w'
theorem ol_cases {w : World} {B c n : Nat} {A : Option Addr} {L : List Nat} (h : OL w B (.slice A n c) L) (hn : L.length = n) (hpos : 0 < n) :
    ∃ g, A = some ⟨g, 0, none⟩ ∧ B ≤ g ∧ Arr w 3 g n (lv L) := by
  unfold OL at h
  rw [vl_row, hn] at h
  obtain ⟨g, c', hv, hb, ha⟩ := own_pos h hpos
  injection hv with hA
  exact ⟨g, hA, hb, ha⟩
set_option maxHeartbeats 40000000 in
set_option maxRecDepth 8000 in
theorem forestOf_ok (g n c : Nat) (F : Nat → Nat) (own : Bool) (w : World) (hn : n ≤ 16) (hG : goodB n (nv F) = true) (hTr : treeB F n = true) (ha : Arr w 3 g n (iv (nv F))) (hT : Tab w) (hw1 : 1 < w.heap.size) :
    Calls Tryd.prog 57 #[.agg #[.slice (some ⟨g, 0, none⟩) n c, .bool own]] w (ForestOk w g n c F own) := by
  have hgd := goodB_iff.1 hG
  have hn1 : 1 ≤ n := hgd.1
  have HA := hide ha
  have HT := hide hT
  have hgl := ha.lt
  clear ha hT
  go_enter Tryd.func57, Tryd.ntmps57
  go_wp2_with fail
  refine (forImpl_ok _ _ _ F _ _ hn hG ((HA.out.alloc _).alloc _) (by exact HT.out.below (((Below.refl _ _).alloc (Nat.le_refl _) _).alloc (by simp) _)) (by simp; try omega)).mono ?_
  rintro e w1 ⟨rfl, hb1⟩
  rw [hTr]
  have hp := ((Arr.box w 28 (.slice (some ⟨g, 0, none⟩) n c) (.bool own)).alloc _).all hb1
  have c0 : w1.cell? ⟨w.heap.size, 0, none⟩ = some (.slice (some ⟨g, 0, none⟩) n c) := hp.cell (by omega)
  have c1 : w1.cell? ⟨w.heap.size, 1, none⟩ = some (.bool own) := hp.cell (by omega)
  have HAr := hide (((HA.out.alloc _).alloc _).all hb1)
  have HB1 := hide ((by go_grown : Below w.heap.size w _).trans (hb1.mono (by simp; try omega)))
  have hz1 := hb1.size
  simp only [World.size_alloc] at hz1
  have hl1 : w.heap.size < w1.heap.size := by omega
  have HRB := hide ((Blk.new (w.alloc (.cells #[.slice (some ⟨g, 0, none⟩) n c, .bool own] 28)) 56 #[.slice none 0 0, .bool false, .slice none 0 0, .slice none 0 0] (b := w.heap.size + 1) (by simp)).all hb1)
  clear hb1 hp
  go_wp2_with fail
  apply regCutG (NewF w1 g n c own)
  case reg =>
    go_region_law (first
      | (go_simp; go_at_call 79; refine (repeat_any _ n _ _ hn1 (by omega) (by simp; try omega) (by simp [go_sem])).mono ?_; rintro e w2 ⟨gp, rfl, hgp, hgpa, hb2⟩; have x0 := (hb2.cell (p := ⟨w.heap.size, 0, none⟩) (by simp; omega)); have x1 := (hb2.cell (p := ⟨w.heap.size, 1, none⟩) (by simp; omega)); have y00 := fun h => hb2.cell (p := ⟨w1.heap.size, 0, none⟩) h; (try simp [go_sem] at y00); have z00 := fun h => hb2.frozen (p := ⟨w1.heap.size, 0, none⟩) h; (try simp [go_sem] at z00); have y01 := fun h => hb2.cell (p := ⟨w1.heap.size, 1, none⟩) h; (try simp [go_sem] at y01); have z01 := fun h => hb2.frozen (p := ⟨w1.heap.size, 1, none⟩) h; (try simp [go_sem] at z01); have y02 := fun h => hb2.cell (p := ⟨w1.heap.size, 2, none⟩) h; (try simp [go_sem] at y02); have z02 := fun h => hb2.frozen (p := ⟨w1.heap.size, 2, none⟩) h; (try simp [go_sem] at z02); have y03 := fun h => hb2.cell (p := ⟨w1.heap.size, 3, none⟩) h; (try simp [go_sem] at y03); have z03 := fun h => hb2.frozen (p := ⟨w1.heap.size, 3, none⟩) h; (try simp [go_sem] at z03); have s0 := fun h => Nat.lt_of_lt_of_le (n := w1.heap.size) h hb2.size; (try simp [go_sem] at s0); have y10 := fun h => hb2.cell (p := ⟨w1.heap.size + 1, 0, none⟩) h; (try simp [go_sem] at y10); have z10 := fun h => hb2.frozen (p := ⟨w1.heap.size + 1, 0, none⟩) h; (try simp [go_sem] at z10); have y11 := fun h => hb2.cell (p := ⟨w1.heap.size + 1, 1, none⟩) h; (try simp [go_sem] at y11); have z11 := fun h => hb2.frozen (p := ⟨w1.heap.size + 1, 1, none⟩) h; (try simp [go_sem] at z11); have y12 := fun h => hb2.cell (p := ⟨w1.heap.size + 1, 2, none⟩) h; (try simp [go_sem] at y12); have z12 := fun h => hb2.frozen (p := ⟨w1.heap.size + 1, 2, none⟩) h; (try simp [go_sem] at z12); have y13 := fun h => hb2.cell (p := ⟨w1.heap.size + 1, 3, none⟩) h; (try simp [go_sem] at y13); have z13 := fun h => hb2.frozen (p := ⟨w1.heap.size + 1, 3, none⟩) h; (try simp [go_sem] at z13); have s1 := fun h => Nat.lt_of_lt_of_le (n := w1.heap.size + 1) h hb2.size; (try simp [go_sem] at s1); have s2 : w.heap.size < w2.heap.size := (by have q := hb2.size; simp [go_sem] at q; omega); have hbk0 := fun h => hb2.block w1.heap.size h; have hbk1 := fun h => hb2.block (w1.heap.size + 1) h; have hws := hb2.size; (simp only [World.size_alloc, World.size_drew] at hws); have hbl := fun (h : Below w1.heap.size w1 _) => h.trans (hb2.mono h.size); have HGP := hide hgp; have HGA := hide hgpa; have HB2 := hide hb2; clear hgp hgpa hb2; go_simp))
    all_goals
      have hgpl := HGA.out.lt
      have hgp2 := HGP.out
      simp only [World.size_alloc, World.size_drew] at hgp2
      (refine (show regG _ _ .normal _ _ from ?_); simp only [regG])
      (repeat apply Exists.intro)
      refine ⟨?hF, ?hL⟩
      case hF =>
        simp only [cpG, Act.put, List.setIfInBounds_toArray, List.set_cons_zero, List.set_cons_succ]
        rfl
      case hL => first
        | (with_reducible refine newF_a HGA.out ?_ ?_ ?_
           · exact hbl (by go_grown)
           · omega
           · omega)
        | (with_reducible refine newF_b (B := w1.heap.size + 1) HGA.out ?_ ?_ ?_ ?_
           · exact hbl (by go_grown)
           · omega
           · omega
           · exact (hbk1 (by simp)).trans (by first | exact blk_at _ _ _ (by simp) | (simp [go_sem]; done)))
        | (with_reducible refine newF_b (B := w1.heap.size) HGA.out ?_ ?_ ?_ ?_
           · exact hbl (by go_grown)
           · omega
           · omega
           · exact (hbk0 (by simp; omega)).trans (by first | exact (Below.heap_alloc _ _ _ (by simp)).trans (blk_at _ _ _ (by simp)) | (simp [go_sem]; done)))
  case cont =>
    intro v19 v20 v21 v22 v23 v24 v25 fb w3 hX
    obtain ⟨gp, hblk, hpar, hb3, hfb, hgp, hne⟩ := hX
    simp only [cpG, Act.put, List.setIfInBounds_toArray, List.set_cons_zero, List.set_cons_succ]
    have k0 : w3.cell? ⟨w.heap.size, 0, none⟩ = some (.slice (some ⟨g, 0, none⟩) n c) := (hb3.cell (p := ⟨w.heap.size, 0, none⟩) hl1).trans c0
    have k1 : w3.cell? ⟨w.heap.size, 1, none⟩ = some (.bool own) := (hb3.cell (p := ⟨w.heap.size, 1, none⟩) hl1).trans c1
    have HA3 := hide (HAr.out.all hb3)
    have HRB3 := hide (HRB.out.all hb3)
    have HB3 := hide (HB1.out.trans (hb3.mono HB1.out.size))
    have HT3 := hide (HT.out.below' HB3.out hw1)
    have hz3 := hb3.size
    have hfl3 := hblk.lt
    have hgl3 := hpar.lt
    have HBK := hide hblk
    have HPA := hide hpar
    clear hb3 hblk hpar c0 c1
    go_wp2_with fail
    refine (partsImpl_ok _ _ _ F _ _ hn hG (by first | exact HA3.out | exact HA3.out.drew) (by exact HT3.out) (by first | omega | (simp; omega))).mono ?_
    rintro e w4 ⟨A, m, d, rfl, hm, ho, hb4⟩
    have HS0 : Hid (FS w4 w4.heap.size fb g n c gp n own F none 0 0 ([] ++ []) (fun _ => -1)) := hide ⟨HBK.out.all hb4, HA3.out.all hb4, HPA.out.all hb4, OL.nil _ _, rfl, Nat.lt_of_lt_of_le (HA3.out.lt) hb4.size, Nat.lt_of_lt_of_le hfl3 hb4.size, Nat.lt_of_lt_of_le hgl3 hb4.size, by omega, hne, by omega⟩
    have HRB4 := hide (HRB3.out.all hb4)
    have HB4 := hide (HB3.out.trans (hb4.mono HB3.out.size))
    have HT4 := hide (HT3.out.below hb4)
    have hz4 := hb4.size
    have HO := hide ho
    have HM : Hid (m = (roots F n n).length) := hide (by rw [← hm, partL, List.length_map])
    have hml := hm
    clear hb4 ho hm k0 k1
    go_wp2
    go_loopw [33] (fun i wr => ∃ (idx m1 d1 : Nat) (A1 : Option Addr) (o t : List Nat) (pp : Nat → Int), i = .int .i64 idx ∧ idx ≤ m ∧ Hid (Taken F n o t pp m1 idx) ∧ Hid (FS wr w4.heap.size fb g n c gp n own F A1 m1 d1 (o ++ t) pp) ∧ Hid (Kx fb gp none A1 w4 wr))
      (fun i _ => m - (intOf i).toNat)
    case atStart => exact ⟨0, 0, 0, none, [], [], fun _ => -1, rfl, Nat.zero_le _, hide (taken_start F n), HS0, hide (Kx.refl _ _ _ _)⟩
    case round =>
      obtain ⟨idx, m1, d1, A1, o, t, pp, rfl, hidx, HK1, HS1, HX1⟩ := hrel
      have hno : ∀ b : Nat, ob none ≠ some b := fun b h => by cases h
      by_cases hlt : idx < m
      · obtain ⟨r, hr⟩ : ∃ r, (roots F n n)[idx]? = some r := ⟨_, List.getElem?_eq_getElem (by rw [← HM.out]; exact hlt)⟩
        have hrt := roots_mem.1 (List.mem_of_getElem? hr)
        have hlow : Lib.ctz 64 (comp F n r) = r := by
          have h := hrt.2
          unfold root low at h
          exact of_decide_eq_true h
        have HLT := hide hlt
        have hmr : m ≤ 16 := by have := cn_le (root F n) n; rw [← cn_roots, ← HM.out] at this; omega
        have hc16 := (comp_part hgd.sym hrt.1).lt16 hn
        have hpl : (partL F n n)[idx]? = some (comp F n r) := by rw [partL, List.getElem?_map, hr]; rfl
        obtain ⟨b, hA, hBb, hab⟩ := ol_cases HO.out hml (by omega)
        subst hA
        have hcell := hab.cell hlt
        rw [lv_at hpl] at hcell
        have hcr := HX1.out.cell hcell (by omega) (by omega) (hno b)
        have HTr := hide (HX1.out.tab HT4.out (by omega) (by omega) (hno 1))
        have hwu : IntKind.u64.wrap ((comp F n r : Nat) : Int) = ((comp F n r : Nat) : Int) := by rw [IntKind.wrap_u64]; omega
        have hm1 : m1 ≤ 16 := by have := HK1.out.qu.len; rw [HK1.out.len] at this; omega
        have ho1 := HX1.out.off (b := 1) (by omega) (hno 1)
        have hszw := HX1.out.size
        have HTree : Hid (Tree F n) := hide (by simpa [treeB, Tree] using hTr)
        go_wp2_with (first
          | (go_at_call 77; refine (ctz_any (comp F n r) (by omega) _ HTr.out).mono ?_; rintro e w5 ⟨rfl, hw5⟩; subst w5; rw [hlow])
          | (go_at_call 80; refine (reachFrom_any w4.heap.size fb g n c gp n m1 d1 r own F A1 o t pp _ hn hgd HTree.out hszw HS1.out (by have := HK1.out.qu; exact this) (HK1.out.fresh hr) hrt.1 (HK1.out.below hgd.sym hn hr) HTr.out (by omega) (by omega) (by omega) ho1 HK1.out.no).mono ?_; rintro e w6 ⟨rfl, t6, p6, A6, m6, d6, hs6, hq6, hr6, hn6, hk6⟩; have HS6 := hide hs6; have HQ6 := hide hq6; have HR6 := hide hr6; have HN6 := hide hn6; have HX6 := hide (HX1.out.trans hk6); clear hs6 hq6 hr6 hn6 hk6))
        go_roundw
        case rel => exact ⟨idx + 1, m6, d6, A6, o ++ t, t6, p6, by go_num, HLT.out, hide (HK1.out.step hgd.sym hn hr HQ6.out HS6.out.len HR6.out HN6.out), HS6, HX6⟩
        case measure => have hh := HLT.out; simp [intOf]; omega
      · have hidm : idx = m := by omega
        subst hidm
        have x0 : wr.cell? ⟨fb, 0, none⟩ = some (.slice (some ⟨g, 0, none⟩) n c) := HS1.out.blk.cell 0
        have x1 : wr.cell? ⟨fb, 1, none⟩ = some (.bool own) := HS1.out.blk.cell 1
        have x2 : wr.cell? ⟨fb, 2, none⟩ = some (.slice (some ⟨gp, 0, none⟩) n n) := HS1.out.blk.cell 2
        have x3 : wr.cell? ⟨fb, 3, none⟩ = some (.slice A1 m1 d1) := HS1.out.blk.cell 3
        have hrb := HRB4.out.lt
        have hrbw : Blk wr 56 (w.heap.size + 1) #[.slice none 0 0, .bool false, .slice none 0 0, .slice none 0 0] := (HX1.out.block (w.heap.size + 1) hrb (by omega) (by omega) (hno _)).trans HRB4.out
        have r0 : wr.cell? ⟨w.heap.size + 1, 0, none⟩ = some (.slice none 0 0) := hrbw.cell 0
        have r1 : wr.cell? ⟨w.heap.size + 1, 1, none⟩ = some (.bool false) := hrbw.cell 1
        have r2 : wr.cell? ⟨w.heap.size + 1, 2, none⟩ = some (.slice none 0 0) := hrbw.cell 2
        have r3 : wr.cell? ⟨w.heap.size + 1, 3, none⟩ = some (.slice none 0 0) := hrbw.cell 3
        have z0 := hrbw.frozen 0
        have z1 := hrbw.frozen 1
        have z2 := hrbw.frozen 2
        have z3 := hrbw.frozen 3
        have hRun := HK1.out
        rw [HM.out] at hRun
        have HRun := hide (hRun.full hgd.sym hn)
        clear hrbw hRun
        go_wp2
        refine bodyPost_ret (v := .tuple #[.agg #[.slice (some ⟨g, 0, none⟩) n c, .bool own, .slice (some ⟨gp, 0, none⟩) n n, .slice A1 m1 d1], .bool true]) (by simp [results, Tryd.results57, go_sem, r0, r1, r2, r3]) rfl ?_
        have hgpr : gp ≠ w.heap.size + 1 := by omega
        have hzw := HB4.out.size
        have hpar4 := HS1.out.par
        have hlst4 := OL.mono (B' := w4.heap.size) HS1.out.lst (Nat.le_refl _)
        have hrb4 : w.heap.size + 1 < w4.heap.size := hrb
        have hbw : Below w.heap.size w wr := HX1.out.below HB4.out hzw (by omega) (by omega) (fun k hk => by cases hk)
        refine ⟨gp, m1, d1, A1, o, t, pp, rfl, HRun.out, HS1.out.len, by omega, ?_, OL.mono ?_ (show w.heap.size ≤ w4.heap.size by omega), ?_⟩
        · exact (((hpar4.far (p := ⟨w.heap.size + 1, 0, none⟩) hgpr _).far (p := ⟨w.heap.size + 1, 1, none⟩) hgpr _).far (p := ⟨w.heap.size + 1, 2, none⟩) hgpr _).far (p := ⟨w.heap.size + 1, 3, none⟩) hgpr _
        · exact (((hlst4.far (p := ⟨w.heap.size + 1, 0, none⟩) hrb4 _).far (p := ⟨w.heap.size + 1, 1, none⟩) hrb4 _).far (p := ⟨w.heap.size + 1, 2, none⟩) hrb4 _).far (p := ⟨w.heap.size + 1, 3, none⟩) hrb4 _
        · have hle : w.heap.size ≤ w.heap.size + 1 := Nat.le_succ _
          exact (((hbw.setCell (p := ⟨w.heap.size + 1, 0, none⟩) hle _).setCell (p := ⟨w.heap.size + 1, 1, none⟩) hle _).setCell (p := ⟨w.heap.size + 1, 2, none⟩) hle _).setCell (p := ⟨w.heap.size + 1, 3, none⟩) hle _
end Go.Proofs.YtmcimfblhpflnaaDoor
