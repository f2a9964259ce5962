/-
ProductGraph's law, all cases.
-/
import Derived.Test.YtdpoceijnbbmgaaDoorPLN
import Derived.Test.YtdpoceijnbbmgaaDoorPLY
import Derived.Test.YtdpoceijnbbmgaaDoorPN
import Derived.Test.YtdpoceijnbbmgaaDoorPS
import Derived.Test.YtdpoceijnbbmgaaDoorPU
import Derived.Deep.RegionHeld3
namespace Go.Proofs.YtdpoceijnbbmgaaDoor
open Go.RowKit
set_option maxHeartbeats 4000000
set_option maxRecDepth 8000
theorem lawProd_big (A : Option Addr) (n c : Nat) (own : Bool) (B : Option Addr) (m c' : Nat) (own2 : Bool) (w : World) (hn : n ≤ 9223372036854775807) (hbig : 1048576 < n) :
    Calls Tryd.prog 3 #[.agg #[.slice A n c, .bool own], .agg #[.slice B m c', .bool own2]] w fun e w' => e = .returned (.bool true) ∧ Below w.heap.size w w' := by
  have hbig' : (1048576 : Int) < n := by omega
  go_enter Tryd.func3, Tryd.ntmps3
  go_wp2_with fail
  refine (szGraph_big _ _ _ _ _ _ hn hbig' (by omega) (by omega)).mono ?_
  rintro e w1 ⟨rfl, hb1⟩
  have hs1 : Below w.heap.size w w1 := (by go_grown : Below w.heap.size w _).trans (hb1.mono (by go_size))
  have z1 : w.heap.size ≤ w1.heap.size := hs1.size
  have HW1 := hide hs1
  have c_aG0_1 : w1.cell? ⟨w.heap.size, 0, none⟩ = some (.slice A n c) := (hb1.cell (p := ⟨w.heap.size, 0, none⟩) (by go_size)).trans (by simp [go_sem])
  have c_aG1_1 : w1.cell? ⟨w.heap.size, 1, none⟩ = some (.bool own) := (hb1.cell (p := ⟨w.heap.size, 1, none⟩) (by go_size)).trans (by simp [go_sem])
  have l_aG_1 : w.heap.size < w1.heap.size := Nat.lt_of_lt_of_le (by go_size) hb1.size
  have c_aH0_1 : w1.cell? ⟨w.heap.size + 1, 0, none⟩ = some (.slice B m c') := (hb1.cell (p := ⟨w.heap.size + 1, 0, none⟩) (by go_size)).trans (by simp [go_sem])
  have c_aH1_1 : w1.cell? ⟨w.heap.size + 1, 1, none⟩ = some (.bool own2) := (hb1.cell (p := ⟨w.heap.size + 1, 1, none⟩) (by go_size)).trans (by simp [go_sem])
  have l_aH_1 : w.heap.size + 1 < w1.heap.size := Nat.lt_of_lt_of_le (by go_size) hb1.size
  clear  hb1 hs1
  go_wp2
  go_ret
  exact ⟨rfl, by have h := HW1.out; have hz := h.size; go_grown⟩
theorem lawProd_big2 (A : Option Addr) (n c : Nat) (own : Bool) (B : Option Addr) (m c' : Nat) (own2 : Bool) (w : World) (hn2 : n ≤ 1048576) (hm : m ≤ 9223372036854775807) (hbig : 1048576 - n < m) :
    Calls Tryd.prog 3 #[.agg #[.slice A n c, .bool own], .agg #[.slice B m c', .bool own2]] w fun e w' => e = .returned (.bool true) ∧ Below w.heap.size w w' := by
  have hbig' : (1048576 : Int) - n < m := by omega
  go_enter Tryd.func3, Tryd.ntmps3
  go_wp2_with fail
  refine (szGraph_ok _ _ _ _ _ _ (by omega) (by omega)).mono ?_
  rintro e w1 ⟨rfl, hb1⟩
  have hs1 : Below w.heap.size w w1 := (by go_grown : Below w.heap.size w _).trans (hb1.mono (by go_size))
  have z1 : w.heap.size ≤ w1.heap.size := hs1.size
  have HW1 := hide hs1
  have c_aG0_1 : w1.cell? ⟨w.heap.size, 0, none⟩ = some (.slice A n c) := (hb1.cell (p := ⟨w.heap.size, 0, none⟩) (by go_size)).trans (by simp [go_sem])
  have c_aG1_1 : w1.cell? ⟨w.heap.size, 1, none⟩ = some (.bool own) := (hb1.cell (p := ⟨w.heap.size, 1, none⟩) (by go_size)).trans (by simp [go_sem])
  have l_aG_1 : w.heap.size < w1.heap.size := Nat.lt_of_lt_of_le (by go_size) hb1.size
  have c_aH0_1 : w1.cell? ⟨w.heap.size + 1, 0, none⟩ = some (.slice B m c') := (hb1.cell (p := ⟨w.heap.size + 1, 0, none⟩) (by go_size)).trans (by simp [go_sem])
  have c_aH1_1 : w1.cell? ⟨w.heap.size + 1, 1, none⟩ = some (.bool own2) := (hb1.cell (p := ⟨w.heap.size + 1, 1, none⟩) (by go_size)).trans (by simp [go_sem])
  have l_aH_1 : w.heap.size + 1 < w1.heap.size := Nat.lt_of_lt_of_le (by go_size) hb1.size
  clear  hb1 hs1
  go_wp2_with fail
  refine (szGraph_big _ _ _ _ _ _ hm hbig' (by omega) (by omega)).mono ?_
  rintro e w2 ⟨rfl, hb2⟩
  have hs2 : Below w1.heap.size w1 w2 := (by go_grown : Below w1.heap.size w1 _).trans (hb2.mono (by go_size))
  have z2 : w1.heap.size ≤ w2.heap.size := hs2.size
  have HW2 := hide (HW1.out.trans (hs2.mono HW1.out.size))
  have c_aG0_2 : w2.cell? ⟨w.heap.size, 0, none⟩ = some (.slice A n c) := (hs2.cell (p := ⟨w.heap.size, 0, none⟩) l_aG_1).trans c_aG0_1
  have c_aG1_2 : w2.cell? ⟨w.heap.size, 1, none⟩ = some (.bool own) := (hs2.cell (p := ⟨w.heap.size, 1, none⟩) l_aG_1).trans c_aG1_1
  have l_aG_2 : w.heap.size < w2.heap.size := Nat.lt_of_lt_of_le l_aG_1 z2
  have c_aH0_2 : w2.cell? ⟨w.heap.size + 1, 0, none⟩ = some (.slice B m c') := (hs2.cell (p := ⟨w.heap.size + 1, 0, none⟩) l_aH_1).trans c_aH0_1
  have c_aH1_2 : w2.cell? ⟨w.heap.size + 1, 1, none⟩ = some (.bool own2) := (hs2.cell (p := ⟨w.heap.size + 1, 1, none⟩) l_aH_1).trans c_aH1_1
  have l_aH_2 : w.heap.size + 1 < w2.heap.size := Nat.lt_of_lt_of_le l_aH_1 z2
  clear c_aG0_1 c_aG1_1 l_aG_1 c_aH0_1 c_aH1_1 l_aH_1 hb2 hs2
  go_wp2
  go_ret
  exact ⟨rfl, by have h := HW2.out; have hz := h.size; go_grown⟩
theorem lawProd (A : Option Addr) (n c : Nat) (f : Nat → Int) (own : Bool) (B : Option Addr) (m c' : Nat) (h : Nat → Int) (own2 : Bool) (w : World) (hn : n ≤ 9223372036854775807) (hm : m ≤ 9223372036854775807) (hs : Src w A n (iv f)) (hs' : Src w B m (iv h)) (hT : Tab w) :
    Calls Tryd.prog 3 #[.agg #[.slice A n c, .bool own], .agg #[.slice B m c', .bool own2]] w fun e w' => e = .returned (.bool true) ∧ Below w.heap.size w w' := by
  by_cases hbig : 1048576 < n
  · exact lawProd_big A n c own B m c' own2 w hn hbig
  · by_cases hbig2 : 1048576 - n < m
    · exact lawProd_big2 A n c own B m c' own2 w (by omega) hm hbig2
    · cases hno : (goodB n f && goodB m h && (own == own2) && decide (n * m ≤ 16))
      · exact lawProd_no A n c B m c' f h own own2 w (by omega) (by omega) (by omega)
          (hide fun g c g' c' w ha hb => prodSpec_no g n c g' m c' f h own own2 w (by omega) (by omega) hno ha hb)
          (hide fun g c g' c' w _ ha hb => prodImpl_no g n c g' m c' f h own own2 w (by omega) (by omega) hno ha hb) (hide hs) (hide hs') (hide hT)
      · simp only [Bool.and_eq_true, decide_eq_true_eq, beq_iff_eq] at hno
        obtain ⟨⟨⟨hg, hg'⟩, rfl⟩, hnm⟩ := hno
        obtain ⟨F, he, h2, h16, hG⟩ := good_nat (goodB_iff.1 hg)
        obtain ⟨H, he', h2', h16', hG'⟩ := good_nat (goodB_iff.1 hg')
        have hsF := Sym2.of_good hG h2
        have hsH := Sym2.of_good hG' h2'
        refine lawProd_ok A n c B m c' (nv F) (nv H) own (n * m) (nv (prodS n m F H)) w (by omega) (by omega) (by omega) (by omega)
          (hide fun g c g' c' w ha hb => prodSpec_ok g n c g' m c' F H own w hG hG' hnm h2 h2' ha hb)
          (hide fun g c g' c' w hT ha hb => (prodImpl_ok g n c g' m c' F H own w hG hG' hnm h2 h2' hT ha hb).mono ?_) (hide (hs.nat he)) (hide (hs'.nat he')) (hide hT)
        rintro e w' ⟨g1, c1, rfl, hl, har, hbl⟩
        exact ⟨g1, c1, rfl, hl, har.congr (fun p hp => by simp only [iv, nv]; rw [prod_same hsF hsH p hp]), hbl⟩
end Go.Proofs.YtdpoceijnbbmgaaDoor
