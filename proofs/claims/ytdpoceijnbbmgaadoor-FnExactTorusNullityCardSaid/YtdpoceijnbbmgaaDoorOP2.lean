/-
A list of maps taken by a set of indices; and the map of a polynomial.
-/
import Derived.Test.YtdpoceijnbbmgaaDoorOP1
import Derived.Test.YtdpoceijnbbmgaaDoorTA
namespace Go.Proofs.YtdpoceijnbbmgaaDoor
open Go.RowKit
set_option maxHeartbeats 4000000
attribute [local go_sem] mm_plus nm_plus
theorem new_box {W w3 : World} {v : Value} {t : TypeId} (hb : Below (W.alloc (.cells #[v] t)).drew.heap.size (W.alloc (.cells #[v] t)).drew w3) : w3.cell? ⟨W.heap.size, 0, none⟩ = some v ∧ w3.frozen? ⟨W.heap.size, 0, none⟩ = false := by
  have h := (Blk.drew (Blk.new W t #[v] (b := W.heap.size) rfl)).all hb
  exact ⟨h.cell 0, h.frozen 0⟩
theorem ofM_any (A : Option Addr) (n c K p : Nat) (G : Nat → Nat) (P : Nat → Nat → Nat) (w : World) (hn : n ≤ 40) (hK1 : 1 ≤ K) (hK : K ≤ 41) (hp : p < 2 ^ K) (hT : Tab w) (hs : Src w A K (fun k => .slice (some ⟨G k, 0, none⟩) n n)) (hP : ∀ k, k < K → Arr w 57 (G k) n (iv (nv (P k)))) (hPl : ∀ k j, k < K → j < n → P k j < 2 ^ n) :
    Calls Tryd.prog 97 #[.slice A K c, .int .i64 p] w (NewMap w n fun j => effN (fun k => P k j) p K) := by
  have hn40 : (2 : Nat) ^ n ≤ 1099511627776 := Nat.pow_le_pow_right (n := 2) (j := 40) (by decide) hn
  obtain ⟨b2, off, hA, hbl, hc0⟩ := hs 0 (by omega)
  have hc : w.cell? ⟨b2, off, none⟩ = some (.slice (some ⟨G 0, 0, none⟩) n n) := hc0
  have hn1 : 0 < K := hK1
  have hn0 : (0 : Int) < K := by omega
  subst hA
  have HS := hide hs
  have HT := hide hT
  have HP := hide hp
  have HPA := hide hP
  have HPL := hide hPl
  have hmf : ∀ (fn : Fn) (first cap : Array Value) (w : World), (Instr.makeFunc fn first cap).run Tryd.prog w = .ok (.func fn first cap) w := fun _ _ _ _ => rfl
  have hb0 : Below w.heap.size w ((w.alloc (.cells #[.slice (some ⟨b2, off, none⟩) K c] 93)).alloc (.cells #[.slice none 0 0] 61)) := by go_grown
  have k0 : ((w.alloc (.cells #[.slice (some ⟨b2, off, none⟩) K c] 93)).alloc (.cells #[.slice none 0 0] 61)).drew.cell? ⟨w.heap.size, 0, none⟩ = some (.slice (some ⟨b2, off, none⟩) K c) := by simp [go_sem]
  have k1 : ((w.alloc (.cells #[.slice (some ⟨b2, off, none⟩) K c] 93)).alloc (.cells #[.slice none 0 0] 61)).drew.cell? ⟨b2, off, none⟩ = some (.slice (some ⟨G 0, 0, none⟩) n n) := (hb0.cell (p := ⟨b2, off, none⟩) hbl).trans hc
  have HB0 := hide hb0
  have HR0 : Hid (Blk ((w.alloc (.cells #[.slice (some ⟨b2, off, none⟩) K c] 93)).alloc (.cells #[.slice none 0 0] 61)) 61 (w.heap.size + 1) #[.slice none 0 0]) := hide (Blk.new _ _ _ (by simp))
  have HF0 : Hid (∀ k, k < n → P 0 k < 4611686018427387904) := hide fun k hk => by have := hPl 0 k (by omega) hk; omega
  have hsz0 : ((w.alloc (.cells #[.slice (some ⟨b2, off, none⟩) K c] 93)).alloc (.cells #[.slice none 0 0] 61)).heap.size = w.heap.size + 1 + 1 := by simp
  have HX0 := hide ((hP 0 hn1).all hb0)
  clear hs hT hp hP hPl hc0 hc hb0
  go_enter Tryd.func97, Tryd.ntmps97
  go_wp2_with fail
  generalize hW : (w.alloc (.cells #[.slice (some ⟨b2, off, none⟩) K c] 93)).alloc (.cells #[.slice none 0 0] 61) = W1 at *
  have hwl1 : w.heap.size < W1.heap.size := by omega
  have hwl2 : w.heap.size + 1 < W1.heap.size := by omega
  have hwl3 : b2 < W1.heap.size := by omega
  have HZ0 := hide hsz0
  clear hsz0
  go_region_held3 (fun w' => w'.cell? ⟨w.heap.size, 0, none⟩ = some (.slice (some ⟨b2, off, none⟩) K c) ∧ w'.cell? ⟨b2, off, none⟩ = some (.slice (some ⟨G 0, 0, none⟩) n n)) (((repeat (first | exact ⟨k0, k1⟩ | exact two_below (by assumption) ⟨k0, k1⟩ | refine two_alloc ?_ | refine two_below (by assumption) ?_ | refine two_far (by simp only []; constructor <;> omega) ?_ | refine two_far (by simp; omega) ?_)); done)) (first | (go_at_call 157; refine (mapPlus_any (some ⟨G 0, 0, none⟩) (some ⟨G 0, 0, none⟩) n n n (P 0) (P 0) _ (by omega) (Src.of_arr (by first | exact HX0.out | exact HX0.out.drew | exact HX0.out.drew.alloc _ | exact (HX0.out.alloc _).drew | exact HX0.out.alloc _)) (Src.of_arr (by first | exact HX0.out | exact HX0.out.drew | exact HX0.out.drew.alloc _ | exact (HX0.out.alloc _).drew | exact HX0.out.alloc _)) HF0.out HF0.out).mono ?_; rintro e w3 ⟨g3, rfl, hlo3, ha3, hb3⟩; have hs3 : W1.heap.size ≤ w3.heap.size := Nat.le_trans (by simp) hb3.size; have q2 := fun h => Nat.lt_of_lt_of_le (n := W1.heap.size) h hb3.size; try simp at q2; have q0 := fun h => Below.cell hb3 (p := ⟨W1.heap.size, 0, none⟩) h; try simp [go_sem] at q0; have q1 := fun h => (bcell hb3).2 W1.heap.size 0 h; try simp [go_sem] at q1))
  · have hbw3 : Below W1.heap.size W1 w3 := (below_drewN (Below.refl _ W1) 1).trans hb3
    have hlo4 : W1.heap.size ≤ g3 := hlo3
    have hsz3 := hb3.size
    have hBt : w.heap.size + 1 < w3.heap.size := by omega
    have hs4 : w3.heap.size < (w3.alloc (.cells #[.slice (some ⟨g3, 0, none⟩) n n] 61)).heap.size := by simp; done
    have HB4 : Hid (Below w.heap.size w (w3.alloc (.cells #[.slice (some ⟨g3, 0, none⟩) n n] 61))) := hide ((HB0.out.trans (hbw3.mono HB0.out.size)).alloc (by omega) _)
    have HTOT : Hid (Tot (w3.alloc (.cells #[.slice (some ⟨g3, 0, none⟩) n n] 61)) w.heap.size w3.heap.size n (fun _ => 0)) := hide ⟨g3, by omega, Blk.new _ _ _ rfl, (ha3.alloc _).congr (fun j hj => by simp only [iv, nv, Nat.xor_self])⟩
    have HRX : Hid (Blk (w3.alloc (.cells #[.slice (some ⟨g3, 0, none⟩) n n] 61)) 61 (w.heap.size + 1) #[.slice none 0 0]) := hide ((HR0.out.all hbw3).alloc _)
    have HBX : Hid ((w3.alloc (.cells #[.slice (some ⟨g3, 0, none⟩) n n] 61)).cell? ⟨w.heap.size, 0, none⟩ = some (.slice (some ⟨b2, off, none⟩) K c)) := hide (cell_below ((Below.refl _ _).alloc (Nat.le_refl _) _) (by omega) (cell_below hbw3 hwl1 k0))
    have HTX := hide (HT.out.below HB4.out)
    have HSX := hide (HS.out.below HB4.out)
    have HPX : Hid (∀ k, k < K → Arr (w3.alloc (.cells #[.slice (some ⟨g3, 0, none⟩) n n] 61)) 57 (G k) n (iv (nv (P k)))) := hide fun k hk => (HPA.out k hk).all HB4.out
    have h1t := HT.out.lt
    have hle : w.heap.size ≤ (w3.alloc (.cells #[.slice (some ⟨g3, 0, none⟩) n n] 61)).heap.size := HB4.out.size
    clear hb3 ha3 hbw3 k0 k1
    try clear q0 q1 q2
    generalize hW5 : w3.alloc (.cells #[.slice (some ⟨g3, 0, none⟩) n n] 61) = W5 at *
    clear hW5
    go_wp2_with fail
    refine (eachIn_ofM w.heap.size w3.heap.size w.heap.size n K p (some ⟨b2, off, none⟩) c G P _ hle hn hK HP.out HTX.out (by omega) (by omega) (fun g o e => by injection e with e; injection e with e; omega) HTOT.out HBX.out HSX.out HPX.out HPL.out).mono ?_
    rintro e w6 ⟨rfl, htot, hg6⟩
    obtain ⟨g6, hlo6, hb6, ha6⟩ := htot.ex
    have x5 : w6.cell? ⟨w3.heap.size, 0, none⟩ = some (.slice (some ⟨g6, 0, none⟩) n n) := hb6.cell 0
    have hr6 : Blk w6 61 (w.heap.size + 1) #[.slice none 0 0] := HRX.out.kept hg6 (fun e => by injection e with e; omega)
    have r0 : w6.cell? ⟨w.heap.size + 1, 0, none⟩ = some (.slice none 0 0) := hr6.cell 0
    have z0 := hr6.frozen 0
    have hl := hr6.lt
    have HA6 := hide ha6
    have HNE := hide (arr_blk_ne ha6 hr6)
    have HB6 := hide (HB4.out.grown hg6 hle (fun k hk => by injection hk with hk; omega))
    clear htot hg6 hb6 ha6 hr6
    go_wp2
    refine bodyPost_ret (v := .agg #[.slice (some ⟨g6, 0, none⟩) n n]) (by simp [results, Tryd.results97, go_sem, r0]) rfl ?_
    exact ⟨g6, rfl, hlo6, HA6.out.far (by simp; exact HNE.out) _, HB6.out.setCell (by simp) _⟩
  · have hbw3 : Below W1.heap.size W1 w3 := (by go_grown : Below W1.heap.size W1 ((W1.alloc (.cells #[.slice none 0 0] 61)).drew)).trans (hb3.mono (by simp))
    have hlo4 : W1.heap.size + 1 ≤ g3 := by simpa using hlo3
    have hbx3 : Blk w3 61 W1.heap.size #[.slice none 0 0] := (Blk.drew (Blk.new W1 _ _ rfl)).all hb3
    have hsz3 := hb3.size
    have hBt : w.heap.size + 1 < W1.heap.size := by omega
    have hs4 : W1.heap.size < (w3.setCell ⟨W1.heap.size, 0, none⟩ (.slice (some ⟨g3, 0, none⟩) n n)).heap.size := by simp; omega
    have HB4 : Hid (Below w.heap.size w (w3.setCell ⟨W1.heap.size, 0, none⟩ (.slice (some ⟨g3, 0, none⟩) n n))) := hide ((HB0.out.trans (hbw3.mono HB0.out.size)).setCell (by simp; omega) _)
    have HTOT : Hid (Tot (w3.setCell ⟨W1.heap.size, 0, none⟩ (.slice (some ⟨g3, 0, none⟩) n n)) w.heap.size W1.heap.size n (fun _ => 0)) := hide ⟨g3, by omega, (by have := (hbx3.set 0 (.slice (some ⟨g3, 0, none⟩) n n)); simpa using this), (ha3.far (by simp; omega) _).congr (fun j hj => by simp only [iv, nv, Nat.xor_self])⟩
    have HRX : Hid (Blk (w3.setCell ⟨W1.heap.size, 0, none⟩ (.slice (some ⟨g3, 0, none⟩) n n)) 61 (w.heap.size + 1) #[.slice none 0 0]) := hide (((HR0.out.all hbw3).far (by simp; omega) _))
    have HBX : Hid ((w3.setCell ⟨W1.heap.size, 0, none⟩ (.slice (some ⟨g3, 0, none⟩) n n)).cell? ⟨w.heap.size, 0, none⟩ = some (.slice (some ⟨b2, off, none⟩) K c)) := hide (cell_far (by omega) (cell_below hbw3 hwl1 k0))
    have HTX := hide (HT.out.below HB4.out)
    have HSX := hide (HS.out.below HB4.out)
    have HPX : Hid (∀ k, k < K → Arr (w3.setCell ⟨W1.heap.size, 0, none⟩ (.slice (some ⟨g3, 0, none⟩) n n)) 57 (G k) n (iv (nv (P k)))) := hide fun k hk => (HPA.out k hk).all HB4.out
    have h1t := HT.out.lt
    have hle : w.heap.size ≤ (w3.setCell ⟨W1.heap.size, 0, none⟩ (.slice (some ⟨g3, 0, none⟩) n n)).heap.size := HB4.out.size
    clear hb3 ha3 hbw3 k0 k1
    try clear q0 q1 q2
    generalize hW5 : w3.setCell ⟨W1.heap.size, 0, none⟩ (.slice (some ⟨g3, 0, none⟩) n n) = W5 at *
    clear hW5
    go_wp2_with fail
    refine (eachIn_ofM w.heap.size W1.heap.size w.heap.size n K p (some ⟨b2, off, none⟩) c G P _ hle hn hK HP.out HTX.out (by omega) (by omega) (fun g o e => by injection e with e; injection e with e; omega) HTOT.out HBX.out HSX.out HPX.out HPL.out).mono ?_
    rintro e w6 ⟨rfl, htot, hg6⟩
    obtain ⟨g6, hlo6, hb6, ha6⟩ := htot.ex
    have x5 : w6.cell? ⟨W1.heap.size, 0, none⟩ = some (.slice (some ⟨g6, 0, none⟩) n n) := hb6.cell 0
    have hr6 : Blk w6 61 (w.heap.size + 1) #[.slice none 0 0] := HRX.out.kept hg6 (fun e => by injection e with e; omega)
    have r0 : w6.cell? ⟨w.heap.size + 1, 0, none⟩ = some (.slice none 0 0) := hr6.cell 0
    have z0 := hr6.frozen 0
    have hl := hr6.lt
    have HA6 := hide ha6
    have HNE := hide (arr_blk_ne ha6 hr6)
    have HB6 := hide (HB4.out.grown hg6 hle (fun k hk => by injection hk with hk; omega))
    clear htot hg6 hb6 ha6 hr6
    go_wp2
    refine bodyPost_ret (v := .agg #[.slice (some ⟨g6, 0, none⟩) n n]) (by simp [results, Tryd.results97, go_sem, r0]) rfl ?_
    exact ⟨g6, rfl, hlo6, HA6.out.far (by simp; exact HNE.out) _, HB6.out.setCell (by simp) _⟩
end Go.Proofs.YtdpoceijnbbmgaaDoor
