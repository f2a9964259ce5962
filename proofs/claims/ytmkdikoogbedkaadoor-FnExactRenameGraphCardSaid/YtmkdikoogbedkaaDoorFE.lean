import Derived.Test.YtmkdikoogbedkaaDoorFD
import Derived.Test.YtmkdikoogbedkaaDoorF
namespace Go.Proofs.YtmkdikoogbedkaaDoor
open Go.RowKit
set_option maxHeartbeats 1000000
def GraphNo (w : World) (e : Ending) (w' : World) : Prop := e = .returned (.tuple #[.agg #[.slice none 0 0, .bool false], .bool false]) ∧ Below w.heap.size w w'
def GraphOk (w : World) (n : Nat) (f : Nat → Int) (own : Bool) (e : Ending) (w' : World) : Prop :=
  ∃ g, e = .returned (.tuple #[.agg #[.slice (some ⟨g, 0, none⟩) n n, .bool own], .bool true]) ∧ w.heap.size ≤ g ∧ Arr w' 3 g n (iv f) ∧ Below w.heap.size w w'
theorem Arr.one_at (w : World) (t : TypeId) (v : Value) {b : Nat} (h : b = w.heap.size) : Arr (w.alloc (.cells #[v] t)) t b 1 (fun _ => v) := by
  subst h
  exact Arr.new w #[v] t _ (fun i hi => by
    have : i = 0 := by simpa using hi
    subst this; rfl)
theorem renImpl_no (g n c : Nat) (f v : Nat → Int) (own : Bool) (A : Option Addr) (m mc : Nat) (w : World) (hn : n ≤ 1048576) (hm : m ≤ 1048576) (hno : (goodB n f && namesB n m v) = false) (ha : Arr w 3 g n (iv f)) (hs : Src w A m (iv v)) :
    Calls Tryd.prog 14 #[.agg #[.slice (some ⟨g, 0, none⟩) n c, .bool own], .slice A m mc] w (GraphNo w) := by
  have HA := hide ha
  have HS := hide hs
  have hgl := ha.lt
  clear ha hs
  cases hgd : goodB n f
  · clear hno
    go_enter Tryd.func14, Tryd.ntmps14
    go_wp2_with fail
    refine (isGraph_any _ _ _ f _ _ hn (((HA.out.alloc _).alloc _).alloc _)).mono ?_
    rintro e w1 ⟨rfl, hb1⟩
    simp only [hgd]
    have HR := hide ((Arr.box_at ((w.alloc (.cells #[.slice (some ⟨g, 0, none⟩) n c, .bool own] 31)).alloc (.cells #[.slice A m mc] 27)) 31 (.slice none 0 0) (.bool false) (b := w.heap.size + 1 + 1) (by simp)).all hb1)
    have HB := hide ((by go_grown : Below w.heap.size w _).trans (hb1.mono (by simp; omega)))
    clear hb1
    have r0 := HR.out.cell (k := 0) (by omega)
    have r1 := HR.out.cell (k := 1) (by omega)
    have z0 := HR.out.frozen 0
    have z1 := HR.out.frozen 1
    have hl := HR.out.lt
    go_wp2
    refine bodyPost_ret (v := .tuple #[.agg #[.slice none 0 0, .bool false], .bool false]) (by simp [results, Tryd.results14, go_sem, r0, r1]) rfl ?_
    exact ⟨rfl, by have h := HB.out; have hz := h.size; go_grown⟩
  · have hn16 := (goodB_iff.1 hgd).n16
    have hw : namesB n m v = false := by simpa [hgd] using hno
    clear hno
    go_enter Tryd.func14, Tryd.ntmps14
    go_wp2_with fail
    refine (isGraph_any _ _ _ f _ _ hn (((HA.out.alloc _).alloc _).alloc _)).mono ?_
    rintro e w1 ⟨rfl, hb1⟩
    simp only [hgd]
    have HX := hide (((Arr.box w 31 (.slice (some ⟨g, 0, none⟩) n c) (.bool own)).alloc (.cells #[.slice A m mc] 27)).alloc (.cells #[.slice none 0 0, .bool false] 31) |>.all hb1)
    have HY := hide (((Arr.one_at (w.alloc (.cells #[.slice (some ⟨g, 0, none⟩) n c, .bool own] 31)) 27 (.slice A m mc) (b := w.heap.size + 1) (by simp)).alloc (.cells #[.slice none 0 0, .bool false] 31)).all hb1)
    have HR := hide ((Arr.box_at ((w.alloc (.cells #[.slice (some ⟨g, 0, none⟩) n c, .bool own] 31)).alloc (.cells #[.slice A m mc] 27)) 31 (.slice none 0 0) (.bool false) (b := w.heap.size + 1 + 1) (by simp)).all hb1)
    have HB := hide ((by go_grown : Below w.heap.size w _).trans (hb1.mono (by simp; omega)))
    have x0 : w1.cell? ⟨w.heap.size, 0, none⟩ = some (.slice (some ⟨g, 0, none⟩) n c) := HX.out.cell (by omega)
    have x1 : w1.cell? ⟨w.heap.size, 1, none⟩ = some (.bool own) := HX.out.cell (by omega)
    have y0 : w1.cell? ⟨w.heap.size + 1, 0, none⟩ = some (.slice A m mc) := HY.out.cell (by omega)
    have hg1 : g < w1.heap.size := Nat.lt_of_lt_of_le hgl HB.out.size
    have HS1 := hide (HS.out.below HB.out)
    clear hb1
    go_wp2_with fail
    refine (isRenaming_any g n c own A m mc v _ hn16 hm hg1 HS1.out).mono ?_
    rintro e w2 ⟨rfl, hb2⟩
    simp only [hw]
    have HR2 := hide (HR.out.all hb2)
    have HB2 := hide (HB.out.trans (hb2.mono HB.out.size))
    clear hb2 x0 x1 y0
    have r0 := HR2.out.cell (k := 0) (by omega)
    have r1 := HR2.out.cell (k := 1) (by omega)
    have z0 := HR2.out.frozen 0
    have z1 := HR2.out.frozen 1
    have hl := HR2.out.lt
    go_wp2
    refine bodyPost_ret (v := .tuple #[.agg #[.slice none 0 0, .bool false], .bool false]) (by simp [results, Tryd.results14, go_sem, r0, r1]) rfl ?_
    exact ⟨rfl, by have h := HB2.out; have hz := h.size; go_grown⟩
end Go.Proofs.YtmkdikoogbedkaaDoor
