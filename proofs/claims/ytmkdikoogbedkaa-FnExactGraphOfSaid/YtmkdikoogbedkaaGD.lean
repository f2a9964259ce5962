/-
impl.GraphOf and spec.GraphOf: the graph that a list of edges gives, or none.
-/
import Derived.Test.YtmkdikoogbedkaaGC
import Derived.Test.YtmkdikoogbedkaaJ
import Derived.Test.YtmkdikoogbedkaaZB
import Derived.StillTailTactics
namespace Go.Proofs.Ytmkdikoogbedkaa
open Go.RowKit
set_option maxHeartbeats 1000000
theorem edge_ok {N l : Nat} {r : Nat → Int} (h : edgeB N l r = true) : l = 2 ∧ ∃ i j : Nat, i < N ∧ j < N ∧ r 0 = (i : Int) ∧ r 1 = (j : Int) := by
  simp only [edgeB, inB, Bool.and_eq_true, decide_eq_true_eq] at h
  obtain ⟨h1, h2, h3, _⟩ := h
  exact ⟨h1, (r 0).toNat, (r 1).toNat, by omega, by omega, by omega, by omega⟩
/-- The graph that the first k edges give. -/
def gr (R : Nat → Nat → Int) : Nat → Nat → Nat
  | 0 => fun _ => 0
  | k + 1 => lk (R k 0).toNat (R k 1).toNat (gr R k)
/-- Are they all edges? -/
def okE (N m : Nat) (ln : Nat → Nat) (R : Nat → Nat → Int) : Prop := ∀ j, j < m → edgeB N (ln j) (R j) = true
theorem gr_lt {N : Nat} {ln : Nat → Nat} {R : Nat → Nat → Int} (hN : N ≤ 16) : ∀ m, okE N m ln R → ∀ k, k < N → gr R m k < 65536
  | 0, _ => fun k _ => by simp [gr]
  | m + 1, h => by
    obtain ⟨_, i, j, hi, hj, e0, e1⟩ := edge_ok (h m (by omega))
    rw [gr, e0, e1]
    exact lk_lt (by simp; omega) (by simp; omega) (gr_lt hN m fun j hj => h j (by omega))
/-- What a call leaves that makes a graph of edges. -/
def GraphAns (w : World) (N m : Nat) (ln : Nat → Nat) (R : Nat → Nat → Int) (own : Bool) (e : Ending) (w' : World) : Prop :=
  Below w.heap.size w w' ∧ ((okE N m ln R ∧ ∃ g, e = .returned (.tuple #[.agg #[.slice (some ⟨g, 0, none⟩) N N, .bool own], .bool true]) ∧ w.heap.size ≤ g ∧ Arr w' 3 g N (iv (nv (gr R m))))
    ∨ (¬ okE N m ln R ∧ e = .returned (.tuple #[.agg #[.slice none 0 0, .bool false], .bool false])))
theorem goImpl_any (A : Option Addr) (m c : Nat) (Ai : Nat → Option Addr) (ln C : Nat → Nat) (R : Nat → Nat → Int) (own : Bool) (N : Nat) (w : World) (h1 : 1 ≤ N) (h16 : N ≤ 16) (hm : m ≤ 200) (hr : RD w A m Ai ln C R) :
    Calls Try.prog 44 #[.int .i64 N, .slice A m c, .bool own] w (GraphAns w N m ln R own) := by
  have hmk := run_make_row' (P := Try.prog) 31 3 (.int .i64 0) 8 Try.underlying31 int_info rfl .i64 .i64 N (by omega) (by omega)
  have hin : inB (N : Int) 1 16 = true := by simp [inB]; omega
  have HIN := hide hin
  have HR := hide hr
  clear hr hin
  go_enter Try.func44, Try.ntmps44
  go_wp2_with (go_at_call 83; refine (isCount_any _ _).mono ?_; rintro e w' ⟨rfl, rfl⟩; rw [HIN.out])
  go_loopw [26] (fun x wr => ∃ k : Nat, k ≤ m ∧ x = .int .i64 k ∧ Hid (okE N k ln R) ∧ Arr wr 3 (w.heap.size + 1) N (iv (nv (gr R k))) ∧ Arr wr 39 w.heap.size 2 (bx (.slice none 0 0) (.bool false)) ∧ Arr wr 39 (w.heap.size + 1 + 1) 2 (bx (.slice (some ⟨w.heap.size + 1, 0, none⟩) N N) (.bool own)) ∧ Below w.heap.size w wr) (fun x _ => m - (intOf x).toNat)
  case atStart =>
    refine ⟨0, by omega, rfl, hide (fun j hj => absurd hj (by omega)), ?_, ?_, ?_, by go_grown⟩
    · exact ((Arr.made_at (w.alloc (.cells #[.slice none 0 0, .bool false] 39)) (.int .i64 0) N 3 (by simp) (fun _ _ => rfl)).alloc _)
    · exact ((Arr.box w 39 _ _).alloc _).alloc _
    · exact Arr.box_at _ 39 _ _ (by simp)
  case round =>
    obtain ⟨k, hk, rfl, HE, ha, hres, hbox, hb⟩ := hrel
    by_cases hlt : k < m
    · obtain ⟨b, off, hA, hbl, hc0, hs0⟩ := HR.out k hlt
      have hs1 := hs0.below hb
      have hc1 : wr.cell? ⟨b, off + k, none⟩ = some (.slice (Ai k) (ln k) (C k)) := (hb.cell (p := ⟨b, off + k, none⟩) hbl).trans hc0
      have b0 : wr.cell? ⟨w.heap.size + 1 + 1, 0, none⟩ = some (.slice (some ⟨w.heap.size + 1, 0, none⟩) N N) := hbox.cell (by omega)
      have b1 : wr.cell? ⟨w.heap.size + 1 + 1, 1, none⟩ = some (.bool own) := hbox.cell (by omega)
      have HA := hide ha
      have HX := hide hres
      have HBX := hide hbox
      have HB := hide hb
      have HS := hide hs1
      clear ha hres hbox hb hc0 hs0 hs1
      subst hA
      cases hE : edgeB N (ln k) (R k)
      · go_wp2_with fail
        refine (isEdge_any _ _ N N _ _ own (R k) _ (by omega) HS.out).mono ?_
        rintro e w3 ⟨rfl, hb3⟩
        have HX3 := HX.out.all hb3
        have r0 := HX3.cell (k := 0) (by omega)
        have r1 := HX3.cell (k := 1) (by omega)
        have z0 := HX3.frozen 0
        have z1 := HX3.frozen 1
        have hl := HX3.lt
        have HB3 := hide (HB.out.trans (hb3.mono HB.out.size))
        clear hb3 b0 b1 hc1 HX3
        simp only [hE]
        go_wp2
        refine bodyPost_ret (v := .tuple #[.agg #[.slice none 0 0, .bool false], .bool false]) (by simp [results, Try.results44, go_sem, r0, r1]) rfl ?_
        refine ⟨by have h := HB3.out; have hz := h.size; go_grown, .inr ⟨fun h => ?_, rfl⟩⟩
        have := h k hlt
        rw [hE] at this
        cases this
      · obtain ⟨h2, i, j, hi, hj, e0, e1⟩ := edge_ok hE
        obtain ⟨b', off', hA', hl0, q0⟩ := HS.out 0 (by omega)
        obtain ⟨b'', off'', hA'', _, q1⟩ := HS.out 1 (by omega)
        rw [hA'] at hA''
        injection hA'' with hA''
        injection hA'' with u0 u1
        subst u0 u1
        have hc : wr.cell? ⟨b, off + k, none⟩ = some (.slice (some ⟨b', off', none⟩) 2 (C k)) := by rw [hc1, hA', h2]
        have HS2 : Hid (Src wr (some ⟨b', off', none⟩) 2 (iv (R k))) := by have := HS.out; rw [hA', h2] at this; exact this
        have hE2 : edgeB N 2 (R k) = true := by rw [h2] at hE; exact hE
        simp only [iv, e0, Nat.add_zero] at q0
        simp only [iv, e1] at q1
        have HE0 := hide e0
        have HE1 := hide e1
        have HEE := hide hE
        clear hc1 e0 e1 hE hA' h2
        go_wp2_with fail
        refine (isEdge_any _ _ N N _ _ own (R k) _ (by omega) HS2.out).mono ?_
        rintro e w3 ⟨rfl, hb3⟩
        have HX3 := hide (HX.out.all hb3)
        have HBX3 := hide (HBX.out.all hb3)
        have HA3 := hide (HA.out.all hb3)
        have HB3 := hide (HB.out.trans (hb3.mono HB.out.size))
        have c0 : w3.cell? ⟨w.heap.size + 1 + 1, 0, none⟩ = some (.slice (some ⟨w.heap.size + 1, 0, none⟩) N N) := HBX3.out.cell (by omega)
        have c1 : w3.cell? ⟨w.heap.size + 1 + 1, 1, none⟩ = some (.bool own) := HBX3.out.cell (by omega)
        have d0 : w3.cell? ⟨b', off', none⟩ = some (.int .i64 (i : Nat)) := (hb3.cell (p := ⟨b', off', none⟩) hl0).trans q0
        have d1 : w3.cell? ⟨b', off' + 1, none⟩ = some (.int .i64 (j : Nat)) := (hb3.cell (p := ⟨b', off' + 1, none⟩) hl0).trans q1
        clear hb3 b0 b1 q0 q1 hc
        simp only [hE2]
        go_wp2
        go_still_tail 8, (by kernel_rfl)
        change wpList _ _ _ _ _ w3.drew
        go_wp2_with fail
        refine (link_any _ N N (gr R k) i j _ h16 hi hj (gr_lt h16 k HE.out) HA3.out.drew).mono ?_
        rintro e w5 ⟨rfl, ha5, hg5⟩
        have hg6 := grownBy_trans (grownBy_of_below (Below.drew (Below.refl w3.heap.size w3)) _) hg5
        have HA5 := hide ha5
        have HX5 := hide (HX3.out.grown hg6 (by omega))
        have HBX5 := hide (HBX3.out.grown hg6 (by omega))
        have HB5 := hide (HB3.out.grown hg6 HB3.out.size (fun q hq => by injection hq with hq; omega))
        clear ha5 hg5 hg6 c0 c1 d0 d1
        go_wp2
        go_roundw
        case rel =>
          refine ⟨k + 1, by omega, by go_num, hide fun q hq => ?_, ?_, HX5.out, HBX5.out, HB5.out⟩
          · by_cases hqk : q = k
            · subst hqk; exact HEE.out
            · exact HE.out q (by omega)
          · rw [gr, HE0.out, HE1.out]
            exact HA5.out
        case measure => simp [intOf]; omega
    · have hkm : k = m := by omega
      subst hkm
      have b0 : wr.cell? ⟨w.heap.size + 1 + 1, 0, none⟩ = some (.slice (some ⟨w.heap.size + 1, 0, none⟩) N N) := hbox.cell (by omega)
      have b1 : wr.cell? ⟨w.heap.size + 1 + 1, 1, none⟩ = some (.bool own) := hbox.cell (by omega)
      have r0 := hres.cell (k := 0) (by omega)
      have r1 := hres.cell (k := 1) (by omega)
      have z0 := hres.frozen 0
      have z1 := hres.frozen 1
      have hl := hres.lt
      have HA := hide ha
      have HB := hide hb
      clear ha hres hbox hb
      go_wp2
      refine bodyPost_ret (v := .tuple #[.agg #[.slice (some ⟨w.heap.size + 1, 0, none⟩) N N, .bool own], .bool true]) (by simp [results, Try.results44, go_sem, r0, r1]) rfl ?_
      refine ⟨by have h := HB.out; have hz := h.size; go_grown, .inl ⟨HE.out, _, rfl, by omega, ?_⟩⟩
      exact (HA.out.far (by simp) _).far (by simp) _
end Go.Proofs.Ytmkdikoogbedkaa
