import Derived.Test.YtcpbbpgiicakcaaDoorXE
import Derived.Test.YtcpbbpgiicakcaaDoorF
namespace Go.Proofs.YtcpbbpgiicakcaaDoor
open Go.RowKit
set_option maxHeartbeats 2000000
def ListOk (w : World) (L : List Nat) (e : Ending) (w' : World) : Prop :=
  ∃ (A : Option Addr) (m d : Nat), e = .returned (.tuple #[.slice A m d, .bool true]) ∧ L.length = m ∧ OL w' w.heap.size (.slice A m d) L ∧ Below w.heap.size w w'
def ListRead (w : World) (L : List Nat) (e : Ending) (w' : World) : Prop :=
  ∃ (A : Option Addr) (m d : Nat), e = .returned (.tuple #[.slice A m d, .bool true]) ∧ L.length = m ∧ Src w' A m (lv L) ∧ Below w.heap.size w w'
theorem OL.mono {w : World} {B B' : Nat} {v : Value} {L : List Nat} (h : OL w B v L) (hB : B' ≤ B) : OL w B' v L := by
  refine ⟨h.1, ?_⟩
  rcases h.2 with h | ⟨g, cap, cur, h1, h2, h3⟩
  · exact .inl h
  · exact .inr ⟨g, cap, cur, h1, by omega, h3⟩
/-! ### impl.DegreesWithin -/
theorem degImpl_no (g n c : Nat) (f : Nat → Int) (own : Bool) (s : Int) (w : World) (hn : n ≤ 1048576) (hno : setB n f s = false) (ha : Arr w 3 g n (iv f)) :
    Calls Tryd.prog 17 #[.agg #[.slice (some ⟨g, 0, none⟩) n c, .bool own], .int .i64 s] w fun e w' => e = .returned (.tuple #[.slice none 0 0, .bool false]) ∧ Below w.heap.size w w' := by
  have HA := hide ha
  cases hg : goodB n f
  · have HG := hide hg
    clear ha hg hno
    go_enter Tryd.func17, Tryd.ntmps17
    go_wp2_with fail
    refine (isGraph_any _ _ _ f _ _ hn ((HA.out.alloc _).alloc _)).mono ?_
    rintro e w1 ⟨rfl, hb1⟩
    simp only [HG.out]
    have HB1 := hide ((by go_grown : Below w.heap.size w _).trans (hb1.mono (by simp; omega)))
    clear hb1
    go_wp2
    go_ret2
    exact ⟨rfl, HB1.out⟩
  · have HG := hide hg
    have hn16 := (goodB_iff.1 hg).2.1
    have HQ : Hid (inB s 0 (2 ^ n - 1) = false) := hide (by simpa [setB, hg] using hno)
    clear ha hg hno
    go_enter Tryd.func17, Tryd.ntmps17
    go_wp2_with fail
    refine (isGraph_any _ _ _ f _ _ hn ((HA.out.alloc _).alloc _)).mono ?_
    rintro e w1 ⟨rfl, hb1⟩
    simp only [HG.out]
    have hp := ((Arr.box w 28 (.slice (some ⟨g, 0, none⟩) n c) (.bool own)).alloc (.cells #[.int .i64 s] 3)).all hb1
    have hps := (Blk.new (w.alloc (.cells #[.slice (some ⟨g, 0, none⟩) n c, .bool own] 28)) 3 #[.int .i64 s] (b := w.heap.size + 1) (by simp)).all hb1
    have c0 : w1.cell? ⟨w.heap.size, 0, none⟩ = some (.slice (some ⟨g, 0, none⟩) n c) := hp.cell (by omega)
    have c1 : w1.cell? ⟨w.heap.size, 1, none⟩ = some (.bool own) := hp.cell (by omega)
    have c2 : w1.cell? ⟨w.heap.size + 1, 0, none⟩ = some (.int .i64 s) := hps.cell 0
    have HB1 := hide ((by go_grown : Below w.heap.size w _).trans (hb1.mono (by simp; omega)))
    clear hb1 hp hps
    go_wp2_with fail
    refine (isSet_any _ _ _ _ _ _ hn16).mono ?_
    rintro e w2 ⟨rfl, hb2⟩
    rw [HQ.out]
    have HB2 := hide (HB1.out.trans (hb2.mono HB1.out.size))
    clear hb2
    go_wp2
    go_ret2
    exact ⟨rfl, HB2.out⟩
theorem degImpl_ok (g n c : Nat) (F : Nat → Nat) (own : Bool) (q : Nat) (w : World) (hn : n ≤ 16) (hF : ∀ j, j < n → F j < 65536) (hG : goodB n (nv F) = true) (hq : q < 2 ^ n) (ha : Arr w 3 g n (iv (nv F))) (hT : Tab w) :
    Calls Tryd.prog 17 #[.agg #[.slice (some ⟨g, 0, none⟩) n c, .bool own], .int .i64 q] w (ListOk w (degL F q n)) := by
  have hmf : ∀ (fn : Fn) (first cap : Array Value) (w : World), (Instr.makeFunc fn first cap).run Tryd.prog w = .ok (.func fn first cap) w := fun _ _ _ _ => rfl
  have HA := hide ha
  have HG := hide hG
  have HF := hide hF
  have HT := hide hT
  have HQ : Hid (inB q 0 (2 ^ n - 1) = true) := hide (by
    have := Nat.two_pow_pos n
    simp only [inB, decide_eq_true_eq]
    rw [← pow_nat]; omega)
  have hgl := ha.lt
  have hw1 := hT.lt
  clear ha hG hF hT
  go_enter Tryd.func17, Tryd.ntmps17
  go_wp2_with fail
  refine (isGraph_any _ _ _ (nv F) _ _ (by omega) ((HA.out.alloc _).alloc _)).mono ?_
  rintro e w1 ⟨rfl, hb1⟩
  simp only [HG.out]
  have hp := ((Arr.box w 28 (.slice (some ⟨g, 0, none⟩) n c) (.bool own)).alloc (.cells #[.int .i64 q] 3)).all hb1
  have hps := (Blk.new (w.alloc (.cells #[.slice (some ⟨g, 0, none⟩) n c, .bool own] 28)) 3 #[.int .i64 q] (b := w.heap.size + 1) (by simp)).all hb1
  have c0 : w1.cell? ⟨w.heap.size, 0, none⟩ = some (.slice (some ⟨g, 0, none⟩) n c) := hp.cell (by omega)
  have c1 : w1.cell? ⟨w.heap.size, 1, none⟩ = some (.bool own) := hp.cell (by omega)
  have c2 : w1.cell? ⟨w.heap.size + 1, 0, none⟩ = some (.int .i64 q) := hps.cell 0
  have HX1 := hide hp
  have HY1 := hide hps
  have HA1 := hide (((HA.out.alloc (.cells #[.slice (some ⟨g, 0, none⟩) n c, .bool own] 28)).alloc (.cells #[.int .i64 q] 3)).all hb1)
  have HB1 := hide ((by go_grown : Below w.heap.size w _).trans (hb1.mono (by simp; omega)))
  clear hb1 hp hps
  go_wp2_with fail
  refine (isSet_any _ _ _ _ _ _ hn).mono ?_
  rintro e w2 ⟨rfl, hb2⟩
  rw [HQ.out]
  have hx2 := HX1.out.all hb2
  have hy2 := HY1.out.all hb2
  have ha2 := HA1.out.all hb2
  have HB2 := hide (HB1.out.trans (hb2.mono HB1.out.size))
  have e2 : w2.cell? ⟨w.heap.size + 1, 0, none⟩ = some (.int .i64 q) := hy2.cell 0
  have l1 := hx2.lt
  have l2 := hy2.lt
  have l3 := ha2.lt
  have HX2 := hide hx2
  have HY2 := hide hy2
  have HA2 := hide ha2
  have HT2 := hide (HT.out.below HB2.out)
  clear hb2 hx2 hy2 ha2 c0 c1 c2
  go_wp2_with fail
  refine (eachDeg_any w2.heap.size w.heap.size (w.heap.size + 1) g n c q own F _ hn hq HF.out ⟨HX2.out.alloc _, HY2.out.alloc _, HA2.out.alloc _, l3, l1, l2⟩ (Blk.new _ _ _ rfl) (HT2.out.below ((Below.refl _ _).alloc (Nat.le_refl _) _)) (by omega)).mono ?_
  rintro e w3 ⟨rfl, ⟨A, m, d, hx3, ho3, hm3⟩, hb3⟩
  have c3 : w3.cell? ⟨w2.heap.size, 0, none⟩ = some (.slice A m d) := hx3.cell 0
  have hsz := HB2.out.size
  have HO3 := hide (ho3.mono (by omega : w.heap.size ≤ w2.heap.size + 1))
  have HM3 := hide hm3
  have HB3 := hide (HB2.out.trans (((Below.refl w2.heap.size w2).alloc (Nat.le_refl _) _ |>.trans hb3).mono hsz))
  clear hx3 ho3 hm3 hb3
  go_wp2
  go_ret2
  exact ⟨A, m, d, rfl, HM3.out, HO3.out, HB3.out⟩
end Go.Proofs.YtcpbbpgiicakcaaDoor
