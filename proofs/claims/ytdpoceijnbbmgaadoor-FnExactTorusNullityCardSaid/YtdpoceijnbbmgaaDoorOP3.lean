/-
The map of a polynomial: the program's side.
-/
import Derived.Test.YtdpoceijnbbmgaaDoorOP2
import Derived.Test.YtdpoceijnbbmgaaDoorZa
namespace Go.Proofs.YtdpoceijnbbmgaaDoor
open Go.RowKit
set_option maxHeartbeats 2000000
theorem pm_all (n : Nat) (M : Nat → Nat) (p K j : Nat) (h : bl p ≤ K) : pm n M p K j = pm n M p (bl p) j := by
  obtain ⟨d, rfl⟩ : ∃ d, K = bl p + d := ⟨K - bl p, by omega⟩
  exact pm_more j (lt_bl p) d
theorem ofPoly_any (A : Option Addr) (n c p : Nat) (M : Nat → Nat) (w : World) (h1' : 1 ≤ n) (hn : n ≤ 40) (hp : p < 2199023255552) (hT : Tab w) (hs : Src w A n (iv (nv M))) (hM : ∀ i, i < n → M i < 2 ^ n) :
    Calls Tryd.prog 59 #[.agg #[.slice A n c], .int .i64 p] w (NewMap w n fun j => pm n M p (bl p) j) := by
  have hmf : ∀ (fn : Fn) (first cap : Array Value) (w : World), (Instr.makeFunc fn first cap).run Tryd.prog w = .ok (.func fn first cap) w := fun _ _ _ _ => rfl
  have hbl : bl p ≤ 41 := bl_le.2 hp
  obtain ⟨K, hK1, hK2, hK3⟩ : ∃ K : Nat, bl p ≤ K + 1 ∧ K ≤ 40 ∧ ∀ k : Nat, (k : Int) < (bl p : Int) - 1 ↔ k < K := by
    rcases Nat.eq_zero_or_pos (bl p) with h | h
    · exact ⟨0, by omega, by omega, fun k => by omega⟩
    · exact ⟨bl p - 1, by omega, by omega, fun k => by omega⟩
  have hpK : p < 2 ^ (K + 1) := Nat.lt_of_lt_of_le (lt_bl p) (Nat.pow_le_pow_right (by decide) hK1)
  have HPM : Hid (∀ j, pm n M p (K + 1) j = pm n M p (bl p) j) := hide fun j => pm_all n M p (K + 1) j hK1
  obtain ⟨b, hb0⟩ : ∃ b, bl p = b := ⟨_, rfl⟩
  rw [hb0] at HPM hK3 ⊢
  have HB0 := hide hb0
  have HK3 := hide hK3
  have HPK := hide hpK
  have HS := hide hs
  have HT := hide hT
  have HM := hide hM
  have hpb : p < 4611686018427387904 := by omega
  clear hs hT hM hK3 hpK hK1 hb0
  go_enter Tryd.func59, Tryd.ntmps59
  go_wp2_with fail
  have hbx : Below w.heap.size w ((w.alloc (.cells #[.slice A n c] 61)).alloc (.cells #[.slice none 0 0] 61)) := by go_grown
  have HX1 : Hid (Blk ((w.alloc (.cells #[.slice A n c] 61)).alloc (.cells #[.slice none 0 0] 61)) 61 w.heap.size #[.slice A n c]) := hide ((Blk.new w _ _ rfl).alloc _)
  have HR1 : Hid (Blk ((w.alloc (.cells #[.slice A n c] 61)).alloc (.cells #[.slice none 0 0] 61)) 61 (w.heap.size + 1) #[.slice none 0 0]) := hide (Blk.new _ _ _ (by simp))
  refine (identity_any n _ hn).mono ?_
  rintro e w2 ⟨g0, rfl, hlo0, ha0, hb2⟩
  have HX2 := hide (HX1.out.all hb2)
  have HR2 := hide (HR1.out.all hb2)
  have HB2 := hide (hbx.trans (hb2.mono (by simp; omega)))
  have HA0 := hide ha0
  have hz2 : w.heap.size + 1 < w2.heap.size := HR2.out.lt
  clear hb2 ha0 hbx
  go_wp2_with fail
  refine (T.degree_any p _ hpb).mono ?_
  rintro e w' ⟨rfl, hw⟩
  subst w'
  rw [HB0.out]
  go_wp2_with fail
  refine (patternM_any w.heap.size n K ((b : Int) - 1) A c g0 M _ h1' hn (by omega) HK3.out (HT.out.below HB2.out) (HX2.out.cell 0) (HS.out.below HB2.out) (HA0.out.congr (fun j _ => rfl)) HM.out).mono ?_
  rintro e w3 ⟨A', d, G, rfl, hml, hb3⟩
  have HML := hide hml
  have HR3 := hide (HR2.out.all hb3)
  have HB3 := hide (HB2.out.trans (hb3.mono HB2.out.size))
  clear hml hb3
  go_wp2_with fail
  refine (ofM_any A' n d (K + 1) p G (pw n M) _ hn (by omega) (by omega) HPK.out (HT.out.below HB3.out) HML.out.src HML.out.2 (fun k j _ hj => pw_lt HM.out k j hj)).mono ?_
  rintro e w4 ⟨g4, rfl, hlo4, ha4, hb4⟩
  have HR4 := hide (HR3.out.all hb4)
  have HB4 := hide (HB3.out.trans (hb4.mono HB3.out.size))
  have HA4 := hide (ha4.congr (f' := iv (nv fun j => pm n M p b j)) (fun j _ => by simp only [iv, nv]; rw [← HPM.out j]; rfl))
  have r0 : w4.cell? ⟨w.heap.size + 1, 0, none⟩ = some (.slice none 0 0) := HR4.out.cell 0
  have z0 := HR4.out.frozen 0
  have hl := HR4.out.lt
  have hz3 := HB3.out.size
  have hl3 := HR3.out.lt
  clear ha4 hb4
  go_wp2
  refine bodyPost_ret (v := .agg #[.slice (some ⟨g4, 0, none⟩) n n]) (by simp [results, Tryd.results59, go_sem, r0]) rfl ?_
  exact ⟨g4, rfl, by omega, HA4.out.far (by simp; omega) _, HB4.out.setCell (by simp) _⟩
end Go.Proofs.YtdpoceijnbbmgaaDoor
