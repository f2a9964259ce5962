/-
impl.ProductGraph where there is a product: place by place.
-/
import Derived.Test.YtdpoceijnbbmgaaDoorPS
import Derived.Test.YtdpoceijnbbmgaaDoorPT
import Derived.Deep.QuietTactic
import Derived.StillTailTactics
namespace Go.Proofs.YtdpoceijnbbmgaaDoor
open Go.RowKit
set_option maxHeartbeats 2000000
set_option maxRecDepth 100000
/-- The product up to a place. -/
def filled (n m : Nat) (F H : Nat → Nat) (p : Nat) : Nat → Nat := fun q => if q < p then prodI n m F H q else 0
theorem filled_step {n m p V : Nat} {F H : Nat → Nat} (hV : H (p % m) * 2 ^ (m * (p / m)) = V) : curP (fun q => if q = p then V else filled n m F H p q) p m (p % m) n (F (p / m)) 0 = filled n m F H (p + 1) := by
  funext q
  unfold curP filled
  by_cases h : q = p
  · subst h
    simp only [if_true, Nat.xor_zero, Nat.lt_succ_self]
    rw [← hV]
    rfl
  · by_cases h2 : q < p
    · simp only [h, h2, if_false, if_true]
      rw [if_pos (by omega)]
    · simp only [h, h2, if_false]
      rw [if_neg (by omega)]
/-- What holds between two places. -/
structure QIn (w wr : World) (g n c g' m c' : Nat) (own : Bool) (F H : Nat → Nat) (kB gA nB N : Nat) (R : Nat → Nat) : Prop where
  x : Arr wr 26 w.heap.size 2 (bx (.slice (some ⟨g, 0, none⟩) n c) (.bool own))
  y : Arr wr 26 (w.heap.size + 1) 2 (bx (.slice (some ⟨g', 0, none⟩) m c') (.bool own))
  r : Arr wr 26 (w.heap.size + 1 + 1) 2 (bx (.slice none 0 0) (.bool false))
  k : Arr wr 3 kB 1 (fun _ => .int .i64 (m : Nat))
  near : Arr wr 22 nB 1 (fun _ => .slice (some ⟨gA, 0, none⟩) N N)
  o : Arr wr 3 gA N (iv (nv R))
  f : Arr wr 3 g n (iv (nv F))
  h : Arr wr 3 g' m (iv (nv H))
  lt : ∀ q, q < N → R q < 65536
  lo : w.heap.size + 1 + 1 < kB ∧ kB ≠ gA ∧ kB < gA
  far : g < w.heap.size ∧ g' < w.heap.size
  bel : Below w.heap.size w wr
theorem Arr.box1 (w : World) (t : TypeId) (v : Value) {b : Nat} (h : b = w.heap.size) : Arr (w.alloc (.cells #[v] t)) t b 1 (fun _ => v) :=
  ⟨#[v], by subst h; exact heap_alloc_new w _, by simp, fun k hk => by match k, hk with | 0, _ => rfl⟩
section
variable {w wr w' : World} {g n c g' m c' : Nat} {own : Bool} {F H : Nat → Nat} {kB gA nB N : Nat} {R R' : Nat → Nat}
theorem QIn.all (h : QIn w wr g n c g' m c' own F H kB gA nB N R) (hb : Below wr.heap.size wr w') : QIn w w' g n c g' m c' own F H kB gA nB N R :=
  ⟨h.x.all hb, h.y.all hb, h.r.all hb, h.k.all hb, h.near.all hb, h.o.all hb, h.f.all hb, h.h.all hb, h.lt, h.lo, h.far, h.bel.trans (hb.mono h.bel.size)⟩
theorem QIn.step (h : QIn w wr g n c g' m c' own F H kB gA nB N R) (ho : Arr w' 3 gA N (iv (nv R'))) (hl : ∀ q, q < N → R' q < 65536) (hg : wr.grownBy w' (some gA)) : QIn w w' g n c g' m c' own F H kB gA nB N R' := by
  have h1 := h.lo
  have h2 := h.far
  have h3 : nB ≠ gA := h.near.ne_ h.o (by decide)
  exact ⟨h.x.grown hg (by omega), h.y.grown hg (by omega), h.r.grown hg (by omega), h.k.grown hg h1.2.1, h.near.grown hg h3, ho, h.f.grown hg (by omega), h.h.grown hg (by omega), hl, h1, h2, h.bel.grown hg h.bel.size (fun j hj => by injection hj; omega)⟩
theorem QIn.to (h : QIn w wr g n c g' m c' own F H kB gA nB N R) (e : R = R') : QIn w wr g n c g' m c' own F H kB gA nB N R' := e ▸ h
end
theorem prodImpl_ok (g n c g' m c' : Nat) (F H : Nat → Nat) (own : Bool) (w : World) (hG : Good n (nv F)) (hG' : Good m (nv H)) (hnm : n * m ≤ 16) (h2 : ∀ k, k < n → F k < 2 ^ n) (h2' : ∀ k, k < m → H k < 2 ^ m) (hT : Tab w) (ha : Arr w 3 g n (iv (nv F))) (ha' : Arr w 3 g' m (iv (nv H))) :
    Calls Tryd.prog 14 #[.agg #[.slice (some ⟨g, 0, none⟩) n c, .bool own], .agg #[.slice (some ⟨g', 0, none⟩) m c', .bool own]] w (GraphOk w (n * m) (nv (prodI n m F H)) own) := by
  have hn16 := hG.2.1
  have hm16 := hG'.2.1
  have hm1 := hG'.1
  have hN1 : 1 ≤ n * m := Nat.mul_pos hG.1 hG'.1
  obtain ⟨N, hN⟩ : ∃ N, n * m = N := ⟨_, rfl⟩
  rw [hN] at hnm hN1
  have hNc : (n : Int) * (m : Int) = (N : Int) := by rw [← hN, Int.natCast_mul]
  have hNw : IntKind.i64.wrap (N : Int) = (N : Int) := IntWalk.i64_in _ (by omega)
  have hs : inB (N : Int) 1 16 = true := by simp [inB]; omega
  rw [hN]
  have hmk := run_make_row' (P := Tryd.prog) 22 3 (.int .i64 0) 8 Tryd.underlying22 int_info rfl .i64 .i64 N (by omega) (by omega)
  have hoo : (own != own) = false := by simp
  have hgl := ha.lt
  have hgl' := ha'.lt
  have HA := hide ha
  have HA' := hide ha'
  have HG := hide (goodB_yes hG)
  have HG' := hide (goodB_yes hG')
  have HH2 := hide h2'
  have HF2 := hide h2
  have HT := hide hT
  have HNM := hide hN
  clear ha ha' hN hG hG' h2 h2' hT
  go_enter Tryd.func14, Tryd.ntmps14
  go_wp2_with fail
  refine (isGraph_any _ _ _ (nv F) _ _ (by omega) (((HA.out.alloc _).alloc _).alloc _)).mono ?_
  rintro e w1 ⟨rfl, hb1⟩
  rw [HG.out]
  have HX := hide (((Arr.box w 26 (.slice (some ⟨g, 0, none⟩) n c) (.bool own)).alloc (.cells #[.slice (some ⟨g', 0, none⟩) m c', .bool own] 26)).alloc (.cells #[.slice none 0 0, .bool false] 26) |>.all hb1)
  have HY := hide (((Arr.box_at (w.alloc (.cells #[.slice (some ⟨g, 0, none⟩) n c, .bool own] 26)) 26 (.slice (some ⟨g', 0, none⟩) m c') (.bool own) (b := w.heap.size + 1) (by simp)).alloc (.cells #[.slice none 0 0, .bool false] 26)).all hb1)
  have HR := hide ((Arr.box_at ((w.alloc (.cells #[.slice (some ⟨g, 0, none⟩) n c, .bool own] 26)).alloc (.cells #[.slice (some ⟨g', 0, none⟩) m c', .bool own] 26)) 26 (.slice none 0 0) (.bool false) (b := w.heap.size + 1 + 1) (by simp)).all hb1)
  have HA1 := hide ((((HA.out.alloc _).alloc _).alloc _).all hb1)
  have HA1' := hide ((((HA'.out.alloc _).alloc _).alloc _).all hb1)
  have HB := hide ((by go_grown : Below w.heap.size w _).trans (hb1.mono (by simp; omega)))
  have x0 : w1.cell? ⟨w.heap.size, 0, none⟩ = some (.slice (some ⟨g, 0, none⟩) n c) := HX.out.cell (by omega)
  have x1 : w1.cell? ⟨w.heap.size, 1, none⟩ = some (.bool own) := HX.out.cell (by omega)
  have y0 : w1.cell? ⟨w.heap.size + 1, 0, none⟩ = some (.slice (some ⟨g', 0, none⟩) m c') := HY.out.cell (by omega)
  have y1 : w1.cell? ⟨w.heap.size + 1, 1, none⟩ = some (.bool own) := HY.out.cell (by omega)
  clear hb1
  go_wp2_with fail
  refine (isGraph_any _ _ _ (nv H) _ _ (by omega) HA1'.out).mono ?_
  rintro e w2 ⟨rfl, hb2⟩
  rw [HG'.out]
  have HX2 := hide (HX.out.all hb2)
  have HY2 := hide (HY.out.all hb2)
  have HR2 := hide (HR.out.all hb2)
  have HA2 := hide (HA1.out.all hb2)
  have HA2' := hide (HA1'.out.all hb2)
  have HB2 := hide (HB.out.trans (hb2.mono HB.out.size))
  have hsz := HB2.out.size
  have hl2 : w.heap.size + 1 + 1 < w2.heap.size := HR2.out.lt
  have hl1 : w.heap.size + 1 < w2.heap.size := HY2.out.lt
  have hl0 : w.heap.size < w2.heap.size := HX2.out.lt
  clear hb2 x0 x1 y0 y1
  have x0 : w2.cell? ⟨w.heap.size, 0, none⟩ = some (.slice (some ⟨g, 0, none⟩) n c) := HX2.out.cell (by omega)
  have x1 : w2.cell? ⟨w.heap.size, 1, none⟩ = some (.bool own) := HX2.out.cell (by omega)
  have y0 : w2.cell? ⟨w.heap.size + 1, 0, none⟩ = some (.slice (some ⟨g', 0, none⟩) m c') := HY2.out.cell (by omega)
  have y1 : w2.cell? ⟨w.heap.size + 1, 1, none⟩ = some (.bool own) := HY2.out.cell (by omega)
  go_wp2_with fail
  refine (isCount_any _ _).mono ?_
  rintro e w9 ⟨rfl, rfl⟩
  rw [hs]
  go_wp2
  go_loopw [49] (fun x wr => ∃ p : Nat, p ≤ N ∧ x = .int .i64 p ∧ Hid (QIn w wr g n c g' m c' own F H w9.heap.size (w9.heap.size + 1) (w9.heap.size + 1 + 1) N (filled n m F H p)))
    (fun x _ => N - (intOf x).toNat)
  case atStart =>
    refine ⟨0, by omega, rfl, hide ⟨?_, ?_, ?_, ?_, ?_, ?_, ?_, ?_, ?_, ⟨hl2, by omega, by omega⟩, ⟨hgl, hgl'⟩, by have h := HB2.out; go_grown⟩⟩
    · exact HX2.out.all (by go_grown)
    · exact HY2.out.all (by go_grown)
    · exact HR2.out.all (by go_grown)
    · exact ((Arr.box1 w9 3 _ rfl).alloc _).alloc _
    · exact Arr.box1 _ 22 _ (by simp)
    · exact (Arr.made_at _ _ N 3 (by simp) (fun q _ => by simp [iv, nv, filled])).alloc _
    · exact HA2.out.all (by go_grown)
    · exact HA2'.out.all (by go_grown)
    · intro q _; simp [filled]
  case round =>
    obtain ⟨p, hp, rfl, HQ⟩ := hrel
    have hzr := HQ.out.bel.size
    have hlx : w.heap.size < wr.heap.size := HQ.out.x.lt
    have hly : w.heap.size + 1 < wr.heap.size := HQ.out.y.lt
    have hlk : w9.heap.size < wr.heap.size := HQ.out.k.lt
    have hlo : w9.heap.size + 1 < wr.heap.size := HQ.out.o.lt
    have hln : w9.heap.size + 1 + 1 < wr.heap.size := HQ.out.near.lt
    have n0 : wr.cell? ⟨w9.heap.size + 1 + 1, 0, none⟩ = some (.slice (some ⟨w9.heap.size + 1, 0, none⟩) N N) := HQ.out.near.cell (by omega)
    have k0 : wr.cell? ⟨w9.heap.size, 0, none⟩ = some (.int .i64 (m : Nat)) := HQ.out.k.cell (by omega)
    have x0 : wr.cell? ⟨w.heap.size, 0, none⟩ = some (.slice (some ⟨g, 0, none⟩) n c) := HQ.out.x.cell (by omega)
    have x1 : wr.cell? ⟨w.heap.size, 1, none⟩ = some (.bool own) := HQ.out.x.cell (by omega)
    have y0 : wr.cell? ⟨w.heap.size + 1, 0, none⟩ = some (.slice (some ⟨g', 0, none⟩) m c') := HQ.out.y.cell (by omega)
    by_cases hlt : p < N
    · have hmi0 : ((m : Int) == 0) = false := by simp; omega
      obtain ⟨i, hi⟩ : ∃ i, p / m = i := ⟨_, rfl⟩
      obtain ⟨j, hj⟩ : ∃ j, p % m = j := ⟨_, rfl⟩
      have hq : (p : Int).tdiv (m : Int) = (i : Int) := by rw [← hi]; exact (Int.ofNat_tdiv p m).symm
      have hr : (p : Int).tmod (m : Int) = (j : Int) := by rw [← hj]; exact (Int.ofNat_tmod p m).symm
      have hjm : j < m := by rw [← hj]; exact Nat.mod_lt _ hm1
      have hin : i < n := by rw [← hi]; exact Nat.div_lt_of_lt_mul (by rw [Nat.mul_comm, HNM.out]; exact hlt)
      have HI := hide hi
      have HJ := hide hj
      clear hi hj
      go_wp2_with fail
      go_region
      have hbw : Below wr.heap.size wr (((wr.alloc (.cells #[.int .i64 (p : Nat)] 3)).alloc (.cells #[.int .i64 (j : Nat)] 3)).drew) := by go_grown
      have HP := hide ((Arr.box1 wr 3 (.int .i64 (p : Nat)) rfl).alloc (.cells #[.int .i64 (j : Nat)] 3)).drew
      have HJB := hide ((Arr.box1 (wr.alloc (.cells #[.int .i64 (p : Nat)] 3)) 3 (.int .i64 (j : Nat)) (b := wr.heap.size + 1) (by simp)).drew)
      have HQW := hide (HQ.out.all hbw)
      have hWb := hbw.size
      obtain ⟨W, hW⟩ : ∃ W, ((wr.alloc (.cells #[.int .i64 (p : Nat)] 3)).alloc (.cells #[.int .i64 (j : Nat)] 3)).drew = W := ⟨_, rfl⟩
      obtain ⟨pB, hpB⟩ : ∃ b, wr.heap.size = b := ⟨_, rfl⟩
      obtain ⟨kB, hkB⟩ : ∃ b, w9.heap.size = b := ⟨_, rfl⟩
      rw [hW] at HP HJB HQW hWb ⊢
      rw [hpB] at HP HJB ⊢
      rw [hkB] at HQW ⊢
      have hk1 : w.heap.size + 1 + 1 < kB := by rw [← hkB]; exact hl2
      have hp1 : kB + 1 + 1 < pB := by rw [← hpB, ← hkB]; exact hln
      have HKB := hide hkB
      clear HQ hbw hW hpB hkB hWb n0 k0 x0 x1 y0 hlx hly hlk hlo hln hzr hl2 hl1 hl0
      have hmij : ∃ mi, m * i = mi := ⟨_, rfl⟩
      obtain ⟨mi, hmi⟩ := hmij
      have hmic : (m : Int) * (i : Int) = (mi : Int) := by rw [← hmi, Int.natCast_mul]
      have hmib : mi ≤ N := by have := row_lt hin hm1; rw [HNM.out] at this; omega
      have hmiw : IntKind.i64.wrap (mi : Int) = (mi : Int) := IntWalk.i64_in _ (by omega)
      obtain ⟨V, hV⟩ : ∃ V, H j * 2 ^ mi = V := ⟨_, rfl⟩
      have hVb : V < 65536 := by
        have h := shl_lt hin (HH2.out j hjm)
        rw [HNM.out, hmi, hV] at h
        exact Nat.lt_of_lt_of_le h (Nat.pow_le_pow_right (n := 2) (j := 16) (by decide) hnm)
      have hVc : (H j : Int) * 2 ^ mi = (V : Int) := by rw [← hV, Int.natCast_mul, pow_nat]
      have hVw : IntKind.i64.wrap (V : Int) = (V : Int) := IntWalk.i64_in _ (by omega)
      have HVE : Hid (H (p % m) * 2 ^ (m * (p / m)) = V) := hide (by rw [HI.out, HJ.out, hmi, hV])
      clear hmi hV
      have n0 : W.cell? ⟨kB + 1 + 1, 0, none⟩ = some (.slice (some ⟨kB + 1, 0, none⟩) N N) := HQW.out.near.cell (by omega)
      have k0 : W.cell? ⟨kB, 0, none⟩ = some (.int .i64 (m : Nat)) := HQW.out.k.cell (by omega)
      have y0 : W.cell? ⟨w.heap.size + 1, 0, none⟩ = some (.slice (some ⟨g', 0, none⟩) m c') := HQW.out.y.cell (by omega)
      have p0 : W.cell? ⟨pB, 0, none⟩ = some (.int .i64 (p : Nat)) := HP.out.cell (by omega)
      have j0 : W.cell? ⟨pB + 1, 0, none⟩ = some (.int .i64 (j : Nat)) := HJB.out.cell (by omega)
      have h0 : W.cell? ⟨g', j, none⟩ = some (.int .i64 (H j : Nat)) := HQW.out.h.cell hjm
      have q0 : W.cell? ⟨kB + 1, p, none⟩ = some (.int .i64 (filled n m F H p p : Nat)) := HQW.out.o.cell hlt
      have qz := HQW.out.o.frozen p
      go_wp2_with fail
      go_still_tail 12, (by kernel_rfl)
      change wpList _ _ _ _ _ W.drew
      clear hmic hmiw hVc hVw h0 y0 k0 n0 p0 j0
      have hxn : w.heap.size ≠ kB + 1 := by omega
      have hgn : g ≠ kB + 1 := by omega
      have x0 : W.cell? ⟨w.heap.size, 0, none⟩ = some (.slice (some ⟨g, 0, none⟩) n c) := HQW.out.x.cell (by omega)
      have f0 : W.cell? ⟨g, i, none⟩ = some (.int .i64 (F i : Nat)) := HQW.out.f.cell hin
      have hR1 : ∀ q, q < N → (fun q => if q = p then V else filled n m F H p q) q < 65536 := fun q hq => by
        by_cases h : q = p
        · simp only [h, if_true]; exact hVb
        · simp only [h, if_false]; exact HQW.out.lt q hq
      have HR1 := hide hR1
      have HQ2 : Hid (QIn w (W.drew.setCell ⟨kB + 1, p, none⟩ (.int .i64 (V : Nat))) g n c g' m c' own F H kB (kB + 1) (kB + 1 + 1) N (fun q => if q = p then V else filled n m F H p q)) := hide ((HQW.out.all (by go_grown : Below W.heap.size W W.drew)).step ((HQW.out.o.drew.set p (.int .i64 (V : Nat))).congr (fun q _ => by
        simp only [iv, nv]
        by_cases h : q = p
        · simp [h]
        · simp [h])) hR1 (grownBy_setCell (World.grownBy.refl _ _) _))
      have HENV : Hid (EnvP (W.drew.setCell ⟨kB + 1, p, none⟩ (.int .i64 (V : Nat))) (kB + 1 + 1) pB kB (pB + 1) (kB + 1) N p m j) := hide ⟨HQ2.out.near.cell (by omega), (HP.out.drew.far (by simp; omega) _).cell (by omega), HQ2.out.k.cell (by omega), (HJB.out.drew.far (by simp; omega) _).cell (by omega), by omega, by omega, by omega, by omega⟩
      have hTl := HT.out.lt
      clear hR1
      go_wp2_with (go_at_call 43; refine (eachIn_prod (kB + 1 + 1) pB kB (pB + 1) (kB + 1) N p m j n (F i) (fun q => if q = p then V else filled n m F H p q) _ hlt hnm (by rw [HNM.out]; omega) hjm hn16 (HF2.out i hin) HR1.out HENV.out HQ2.out.o (HT.out.below HQ2.out.bel) (by omega)).mono ?_; rintro e w5 ⟨rfl, ha5, hg5⟩)
      have hlt5 := fun q hq => curP_lt (s := F i) (r := 0) (p := p) (n := n) (k := m) (j := j) hnm (by rw [HNM.out]; omega) hjm HR1.out q hq
      have hcur : curP (fun q => if q = p then V else filled n m F H p q) p m j n (F i) 0 = filled n m F H (p + 1) := by
        have h := filled_step (n := n) (F := F) HVE.out
        rw [HI.out, HJ.out] at h
        exact h
      have HQ5 := hide ((HQ2.out.step ha5 hlt5 hg5).to hcur)
      clear ha5 hg5 hlt5 hcur
      have hkb := HKB.out
      subst hkb
      go_roundw
      case rel => exact ⟨p + 1, by omega, by go_num, HQ5⟩
      case measure => simp [intOf]; omega
    · have hpe : N = p := by omega
      subst hpe
      have hr1 := HQ.out.r.cell (k := 0) (by omega)
      have r0 := HQ.out.r.cell (k := 0) (by omega)
      have r1 := HQ.out.r.cell (k := 1) (by omega)
      have z0 := HQ.out.r.frozen 0
      have z1 := HQ.out.r.frozen 1
      have hlr : w.heap.size + 1 + 1 < wr.heap.size := HQ.out.r.lt
      clear hr1
      go_wp2
      refine bodyPost_ret (v := .tuple #[.agg #[.slice (some ⟨w9.heap.size + 1, 0, none⟩) N N, .bool own], .bool true]) (by simp [results, Tryd.results14, go_sem, r0, r1]) rfl ?_
      refine ⟨w9.heap.size + 1, N, rfl, by omega, ((HQ.out.o.congr (fun q hq => ?_)).far (by simp; omega) _).far (by simp; omega) _, by have h := HQ.out.bel; go_grown⟩
      simp only [iv, nv, filled]
      rw [if_pos hq]
end Go.Proofs.YtdpoceijnbbmgaaDoor
