import Derived.Test.YtmkdikoogbedkaaDoorFK
import Derived.Test.YtmkdikoogbedkaaDoorFL
import Derived.Deep.RegionHeld3
namespace Go.Proofs.YtmkdikoogbedkaaDoor
open Go.RowKit
set_option maxHeartbeats 4000000
set_option maxRecDepth 8000
theorem lawRename_big (A : Option Addr) (n c : Nat) (own : Bool) (B : Option Addr) (m mc : Nat) (w : World) (hn : n ≤ 9223372036854775807) (hbig : 1048576 < n) (hm2 : m ≤ 1048576) :
    Calls Tryd.prog 5 #[.agg #[.slice A n c, .bool own], .slice B m mc] w fun e w' => e = .returned (.bool true) ∧ Below w.heap.size w w' := by
  have hbig' : (1048576 : Int) < n := by omega
  go_enter Tryd.func5, Tryd.ntmps5
  go_wp2_with fail
  refine (szGraph_big _ _ _ _ _ _ hn hbig' (by omega) (by omega)).mono ?_
  rintro e w1 ⟨rfl, hb1⟩
  have hs1 : Below w.heap.size w w1 := (by go_grown : Below w.heap.size w _).trans (hb1.mono (by go_size))
  have z1 : w.heap.size ≤ w1.heap.size := hs1.size
  have HW1 := hide hs1
  have c_aG0_1 : w1.cell? ⟨w.heap.size, 0, none⟩ = some (.slice A n c) := (hb1.cell (p := ⟨w.heap.size, 0, none⟩) (by go_size)).trans (by simp [go_sem])
  have c_aG1_1 : w1.cell? ⟨w.heap.size, 1, none⟩ = some (.bool own) := (hb1.cell (p := ⟨w.heap.size, 1, none⟩) (by go_size)).trans (by simp [go_sem])
  have l_aG_1 : w.heap.size < w1.heap.size := Nat.lt_of_lt_of_le (by go_size) hb1.size
  clear  hb1 hs1
  go_wp2
  go_ret
  exact ⟨rfl, by have h := HW1.out; have hz := h.size; go_grown⟩
theorem lawRename_long (A : Option Addr) (n c : Nat) (own : Bool) (B : Option Addr) (m mc : Nat) (w : World) (hm : m ≤ 9223372036854775807) (hbig : 1048576 < m) :
    Calls Tryd.prog 5 #[.agg #[.slice A n c, .bool own], .slice B m mc] w fun e w' => e = .returned (.bool true) ∧ Below w.heap.size w w' := by
  have hbig' : (1048576 : Int) < m := by omega
  go_enter Tryd.func5, Tryd.ntmps5
  go_wp2
  go_ret
  exact ⟨rfl, by go_grown⟩
theorem lawRename (A : Option Addr) (n c : Nat) (f : Nat → Int) (own : Bool) (B : Option Addr) (m mc : Nat) (v : Nat → Int) (w : World) (hn : n ≤ 9223372036854775807) (hm : m ≤ 9223372036854775807) (hs : Src w A n (iv f)) (hs' : Src w B m (iv v)) (hT : Tab w) :
    Calls Tryd.prog 5 #[.agg #[.slice A n c, .bool own], .slice B m mc] w fun e w' => e = .returned (.bool true) ∧ Below w.heap.size w w' := by
  by_cases hbig2 : 1048576 < m
  · exact lawRename_long A n c own B m mc w hm hbig2
  · by_cases hbig : 1048576 < n
    · exact lawRename_big A n c own B m mc w hn hbig (by omega)
    · cases hno : (goodB n f && namesB n m v)
      · exact lawRename_no A n c f own B m mc v w (by omega) (by omega) (hide hno) (hide hs) (hide hs')
      · simp only [Bool.and_eq_true] at hno
        obtain ⟨hg, hnm⟩ := hno
        obtain ⟨F, he, h2, h16, hG⟩ := good_nat (goodB_iff.1 hg)
        obtain ⟨rfl, hN⟩ := namesB_iff.1 hnm
        obtain ⟨V, hv, hV, hN'⟩ := names_nat hN
        exact lawRename_ok A m c F V own B mc w (by omega) hG.2.1 (hide h2) (hide hV) (hide (goodB_yes hG)) (hide (namesB_yes rfl hN')) (hide (hs.nat he)) (hide (hs'.nat hv)) (hide hT)
end Go.Proofs.YtmkdikoogbedkaaDoor
