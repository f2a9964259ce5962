/-
ApplyMap and ComposeMaps: both sides, and the statements, walked.
-/
import Derived.Test.YtdpoceijnbbmgaaDoorOH
import Derived.Test.YtdpoceijnbbmgaaDoorME
namespace Go.Proofs.YtdpoceijnbbmgaaDoor
open Go.RowKit
set_option maxHeartbeats 4000000
def NewInts (w : World) (n : Nat) (f : Nat → Int) (e : Ending) (w' : World) : Prop :=
  ∃ g, e = .returned (.slice (some ⟨g, 0, none⟩) n n) ∧ w.heap.size ≤ g ∧ Arr w' 3 g n (iv f) ∧ Below w.heap.size w w'
theorem toIntS_new (A : Option Addr) (n c : Nat) (f : Nat → Int) (w : World) (hn : n ≤ 1048576) (hs : Src w A n (iv f)) :
    Calls Tryd.prog 19 #[.slice A n c] w (NewInts w n f) :=
  (toIntS_any A n c f w hn hs).mono fun _ _ ⟨h1, h2, h3⟩ => ⟨_, h1, Nat.le_refl _, h2, h3⟩
/-- The first k of the composed sets. -/
def cmL (F G : Nat → Nat) (n k : Nat) : List Nat := (List.range k).map fun i => effN F (G i) n
theorem cmL_succ (F G : Nat → Nat) (n k : Nat) : cmL F G n (k + 1) = cmL F G n k ++ [effN F (G k) n] := by simp [cmL, List.range_succ]
theorem cmL_len (F G : Nat → Nat) (n k : Nat) : (cmL F G n k).length = k := by simp [cmL]
theorem cmL_get (F G : Nat → Nat) (n m k : Nat) (h : k < m) : (cmL F G n m).getD k 0 = effN F (G k) n := by simp [cmL, h]
/-- A list that a call owns, as cells. -/
theorem own_arr {w w' : World} {A : Option Addr} {n d : Nat} {S : Nat → Nat} {L : List Nat} (h1 : 0 < n) (hl : L.length = n) (hL : ∀ k, k < n → L.getD k 0 = S k) (ho : OL w' w.heap.size (.slice A n d) L) : ∃ g, A = some ⟨g, 0, none⟩ ∧ w.heap.size ≤ g ∧ Arr w' 3 g n (iv (nv S)) := by
  obtain ⟨h0, h | ⟨g, cap, cur, h1, h2, h3, h4, h5, h6, h7⟩⟩ := ho
  · omega
  · injection h1 with a b e
    subst a e
    refine ⟨g, rfl, h2, cur, h3, by omega, fun k hk => ?_⟩
    have h8 : (cur.toList.take (L.length * 1))[k]? = (rowL L.length (lv L))[k]? := by rw [h7, vl_row]
    rw [rowL_get _ _ _ (by omega), List.getElem?_take_of_lt (by omega)] at h8
    have h9 : cur[k]? = some (lv L k) := by simpa using h8
    rw [h9]
    simp only [lv, iv, nv, hL k hk]
theorem prCompose_any (A1 A2 : Option Addr) (n m c1 c2 : Nat) (F G : Nat → Nat) (w : World) (h1 : 1 ≤ m) (hn : n ≤ 40) (hm : m ≤ 64) (hs1 : Src w A1 n (iv (nv F))) (hs2 : Src w A2 m (iv (nv G))) (hF : ∀ i, i < n → F i < 2 ^ n) (hG : ∀ i, i < m → G i < 2 ^ n) :
    Calls Tryd.prog 52 #[.slice A1 n c1, .slice A2 m c2] w (NewArr w m (nv fun i => effN F (G i) n)) := by
  have HS1 := hide hs1
  have HS2 := hide hs2
  have HF := hide hF
  have HG := hide hG
  clear hs1 hs2 hF hG
  go_enter Tryd.func52, Tryd.ntmps52
  go_wp2
  go_loopw [5, 10] (fun o i wr => ∃ (k d : Nat) (A : Option Addr), k ≤ m ∧ i = .int .i64 k ∧ o = .slice A k d ∧ Hid (OL wr w.heap.size (.slice A k d) (cmL F G n k)) ∧ Below w.heap.size w wr) (fun _ i _ => m - (intOf i).toNat)
  case atStart => exact ⟨0, 0, none, by omega, rfl, rfl, hide (OL.nil _ _), Below.refl _ _⟩
  case round =>
    obtain ⟨k, d, A, hk, rfl, rfl, HO, hb⟩ := hrel
    have hsz := hb.size
    have HM := hide (cmL_len F G n k)
    have HL := hide (cmL_succ F G n k)
    have HB := hide hb
    by_cases hlt : k < m
    · obtain ⟨b2, off, hA, hbl, hc0⟩ := HS2.out k hlt
      have hc : wr.cell? ⟨b2, off + k, none⟩ = some (.int .i64 (G k : Nat)) := (hb.cell (p := ⟨b2, off + k, none⟩) hbl).trans hc0
      have HGk := hide (HG.out k hlt)
      have HS1r := hide (HS1.out.below hb)
      obtain ⟨y, hy⟩ : ∃ y, effN F (G k) n = y := ⟨_, rfl⟩
      rw [hy] at HL
      have HY := hide hy
      obtain ⟨z, hz⟩ : ∃ z, G k = z := ⟨_, rfl⟩
      rw [hz] at hc HGk HY
      clear hb hc0 hy hz
      subst hA
      go_wp2_with (first | (go_at_call 47; refine (prApply_any _ _ _ _ F _ hn HGk.out HS1r.out HF.out).mono ?_; rintro e w' ⟨rfl, hw⟩; subst w'; rw [HY.out]) | (at_builtin; refine wpList_append_nat _ rfl _ _ rfl w.heap.size A d k (cmL F G n k) y wr.heap.size rfl (HO.out.alloc _) HM.out rfl (by simp [go_sem]) (by omega) (by simp; omega) ?_; intro A2 c2 w5 ho2 hb2; have HO2 := hide ho2; have HB2 := hide hb2; clear ho2 hb2))
      go_roundw
      case rel => exact ⟨k + 1, c2, A2, by omega, by go_num, rfl, hide (by rw [HL.out]; exact HO2.out), (HB.out.alloc (by omega) _).trans HB2.out⟩
      case measure => simp [intOf]; omega
    · have hkn : k = m := by omega
      subst hkn
      obtain ⟨g2, hA2, hlo, ha2⟩ := own_arr (w := w) (by omega) HM.out (fun j hj => cmL_get F G n k j hj) HO.out
      subst hA2
      have HA2 := hide ha2
      clear ha2 hb
      go_wp2
      go_ret
      exact ⟨g2, d, rfl, hlo, HA2.out, HB.out⟩
theorem cmpSpec_ok (A1 A2 : Option Addr) (n c1 c2 : Nat) (F G : Nat → Nat) (w : World) (h1 : 1 ≤ n) (hn : n ≤ 16) (hF : ∀ k, k < n → F k < 2 ^ n) (hG : ∀ k, k < n → G k < 2 ^ n) (hs1 : Src w A1 n (iv (nv F))) (hs2 : Src w A2 n (iv (nv G))) :
    Calls Tryd.prog 22 #[.slice A1 n c1, .slice A2 n c2] w (ArrRes w n (nv fun i => effN F (G i) n)) := by
  have H1 := hide (mapB_of h1 hn hF)
  have H2 := hide (mapB_of h1 hn hG)
  have hp := p16 hn
  have HF := hide hF
  have HG := hide hG
  have HS1 := hide hs1
  have HS2 := hide hs2
  clear hF hG hs1 hs2 hp
  go_enter Tryd.func22, Tryd.ntmps22
  go_wp2_with fail
  refine (prGood_any _ _ _ (nv F) _ (by omega) HS1.out).mono ?_
  rintro e w' ⟨rfl, hw⟩
  subst w'
  rw [H1.out]
  go_wp2_with fail
  refine (prGood_any _ _ _ (nv G) _ (by omega) HS2.out).mono ?_
  rintro e w' ⟨rfl, hw⟩
  subst w'
  rw [H2.out]
  go_wp2_with fail
  refine (prCompose_any _ _ _ _ _ _ F G _ (by omega) (by omega) (by omega) HS1.out HS2.out HF.out HG.out).mono ?_
  rintro e w1 ⟨g, c, rfl, hg, ha, hb⟩
  go_wp2
  go_ret2
  exact ⟨g, c, rfl, hg, ha, hb⟩
theorem cmpSpec_no (A1 A2 : Option Addr) (n m c1 c2 : Nat) (f h : Nat → Int) (w : World) (hn : n ≤ 1048576) (hm : m ≤ 1048576) (hs1 : Src w A1 n (iv f)) (hs2 : Src w A2 m (iv h)) (hno : mapsB n m f h = false) :
    Calls Tryd.prog 22 #[.slice A1 n c1, .slice A2 m c2] w (NoRes w) := by
  have HS1 := hide hs1
  have HS2 := hide hs2
  clear hs1 hs2
  cases h1 : mapB n f
  · have H1 := hide h1
    clear h1 hno
    go_enter Tryd.func22, Tryd.ntmps22
    go_wp2_with (first | (go_at_call 45; refine (prGood_any _ _ _ f _ hn HS1.out).mono ?_; rintro e w' ⟨rfl, hw⟩; subst w'; rw [H1.out]))
    go_ret2
    exact ⟨rfl, Below.refl _ _⟩
  · cases h2 : mapB m h
    · have H1 := hide h1
      have H2 := hide h2
      clear h1 h2 hno
      go_enter Tryd.func22, Tryd.ntmps22
      go_wp2_with fail
      refine (prGood_any _ _ _ f _ hn HS1.out).mono ?_
      rintro e w' ⟨rfl, hw⟩
      subst w'
      rw [H1.out]
      go_wp2_with fail
      refine (prGood_any _ _ _ h _ hm HS2.out).mono ?_
      rintro e w' ⟨rfl, hw⟩
      subst w'
      rw [H2.out]
      go_wp2
      go_ret2
      exact ⟨rfl, Below.refl _ _⟩
    · have H1 := hide h1
      have H2 := hide h2
      have he : n ≠ m := by
        intro he
        rw [mapsB, h1, h2] at hno
        simp [he] at hno
      have e1 : ((n : Int) == (m : Int)) = false := by simp; omega
      have e2 : ((n : Int) != (m : Int)) = true := by rw [bne, e1]; rfl
      clear h1 h2 hno he
      go_enter Tryd.func22, Tryd.ntmps22
      go_wp2_with fail
      refine (prGood_any _ _ _ f _ hn HS1.out).mono ?_
      rintro e w' ⟨rfl, hw⟩
      subst w'
      rw [H1.out]
      go_wp2_with fail
      refine (prGood_any _ _ _ h _ hm HS2.out).mono ?_
      rintro e w' ⟨rfl, hw⟩
      subst w'
      rw [H2.out]
      go_wp2
      go_ret2
      exact ⟨rfl, Below.refl _ _⟩
theorem cmpImpl_no (A1 A2 : Option Addr) (n m c1 c2 : Nat) (f h : Nat → Int) (w : World) (hn : n ≤ 1048576) (hm : m ≤ 1048576) (hs1 : Src w A1 n (iv f)) (hs2 : Src w A2 m (iv h)) (hno : mapsB n m f h = false) :
    Calls Tryd.prog 23 #[.slice A1 n c1, .slice A2 m c2] w (NoRes w) := by
  have HS1 := hide hs1
  have HS2 := hide hs2
  have HN := hide hno
  clear hs1 hs2 hno
  go_enter Tryd.func23, Tryd.ntmps23
  go_wp2_with fail
  refine (mapsSame_any _ _ _ _ _ _ f h _ hn hm HS1.out HS2.out).mono ?_
  rintro e w1 ⟨rfl, hb1⟩
  rw [HN.out]
  go_wp2
  go_ret2
  exact ⟨rfl, hb1⟩
theorem cmpImpl_ok (A1 A2 : Option Addr) (n c1 c2 : Nat) (F G : Nat → Nat) (w : World) (h1 : 1 ≤ n) (hn : n ≤ 16) (hF : ∀ k, k < n → F k < 2 ^ n) (hG : ∀ k, k < n → G k < 2 ^ n) (hT : Tab w) (hs1 : Src w A1 n (iv (nv F))) (hs2 : Src w A2 n (iv (nv G))) :
    Calls Tryd.prog 23 #[.slice A1 n c1, .slice A2 n c2] w (ArrRes w n (nv fun i => effN F (G i) n)) := by
  have HM : Hid (mapsB n n (nv F) (nv G) = true) := hide (by rw [mapsB, mapB_of h1 hn hF, mapB_of h1 hn hG]; simp)
  have hp := p16 hn
  have HF := hide hF
  have HG := hide hG
  have HS1 := hide hs1
  have HS2 := hide hs2
  have HT := hide hT
  clear hF hG hs1 hs2 hp hT
  go_enter Tryd.func23, Tryd.ntmps23
  go_wp2_with fail
  refine (mapsSame_any _ _ _ _ _ _ (nv F) (nv G) _ (by omega) (by omega) HS1.out HS2.out).mono ?_
  rintro e w1 ⟨rfl, hb1⟩
  rw [HM.out]
  have HS1b := hide (HS1.out.below hb1)
  have HS2b := hide (HS2.out.below hb1)
  have HB1 := hide hb1
  clear hb1
  go_wp2_with fail
  refine (setMapWith_any _ _ _ F _ (by omega) HS1b.out).mono ?_
  rintro e w2 ⟨g2, rfl, hl2, ha2, hb2⟩
  have HA2 := hide ha2
  have HS2c := hide (HS2b.out.below hb2)
  have HB2 := hide (HB1.out.trans (hb2.mono HB1.out.size))
  clear ha2 hb2
  go_wp2_with fail
  refine (setMapWith_any _ _ _ G _ (by omega) HS2c.out).mono ?_
  rintro e w3 ⟨g3, rfl, hl3, ha3, hb3⟩
  have HA3 := hide ha3
  have HA2b := hide (HA2.out.all hb3)
  have HB3 := hide (HB2.out.trans (hb3.mono HB2.out.size))
  clear ha3 hb3
  go_wp2_with fail
  refine (mapAfter_any _ _ _ _ _ F G _ h1 (by omega) (HT.out.below HB3.out) (Src.of_arr HA2b.out) (Src.of_arr HA3.out) HF.out HG.out).mono ?_
  rintro e w4 ⟨g4, rfl, hl4, ha4, hb4⟩
  have HA4 := hide ha4
  have HB4 := hide (HB3.out.trans (hb4.mono HB3.out.size))
  clear ha4 hb4
  go_wp2_with fail
  refine (mapList_any _ _ _ (fun i => effN F (G i) n) _ (by omega) (Src.of_arr HA4.out)).mono ?_
  rintro e w5 ⟨g5, rfl, hl5, ha5, hb5⟩
  have hz4 := HB4.out.size
  have HB5 := hide (HB4.out.trans (hb5.mono hz4))
  go_wp2
  go_ret2
  exact ⟨g5, n, rfl, by omega, ha5, HB5.out⟩
theorem lawCmp_arr (A1 : Option Addr) (n1 c1 : Nat) (f1 : Nat → Int) (A2 : Option Addr) (n2 c2 : Nat) (f2 : Nat → Int) (m : Nat) (F : Nat → Int) (hm : m ≤ 1048576) (w : World) (hm1 : n1 ≤ 1048576) (hm2 : n2 ≤ 1048576) (HSP : Hid (∀ (A1 : Option Addr) (c1 : Nat) (A2 : Option Addr) (c2 : Nat) (w : World), Src w A1 n1 (iv f1) → Src w A2 n2 (iv f2) → Calls Tryd.prog 22 #[.slice A1 n1 c1, .slice A2 n2 c2] w (ArrRes w m F))) (HIM : Hid (∀ (A1 : Option Addr) (c1 : Nat) (A2 : Option Addr) (c2 : Nat) (w : World), Tab w → Src w A1 n1 (iv f1) → Src w A2 n2 (iv f2) → Calls Tryd.prog 23 #[.slice A1 n1 c1, .slice A2 n2 c2] w (ArrRes w m F))) (HS_A1 : Hid (Src w A1 n1 (iv f1))) (HS_A2 : Hid (Src w A2 n2 (iv f2))) (HT : Hid (Tab w)) :
    Calls Tryd.prog 5 #[.slice A1 n1 c1, .slice A2 n2 c2] w fun e w' => e = .returned (.bool true) ∧ Below w.heap.size w w' := by
  go_enter Tryd.func5, Tryd.ntmps5
  go_wp2_with fail
  refine (toIntS_new _ _ _ f1 _ hm1 (by first | exact HS_A1.out | exact Src.alloc HS_A1.out _ | exact Src.alloc (Src.alloc HS_A1.out _) _ | exact Src.drew HS_A1.out)).mono ?_
  rintro e w1 ⟨g1, rfl, lo_g1, ha_r, hb1⟩
  try simp only [World.size_alloc] at lo_g1
  have hs1 : Below w.heap.size w w1 := (by go_grown : Below w.heap.size w _).trans (hb1.mono (by go_size))
  have z1 : w.heap.size ≤ w1.heap.size := hs1.size
  have HW1 := hide hs1
  have HA_a1_1 := hide ha_r
  have hi_a1_1 : g1 < w1.heap.size := ha_r.lt
  clear ha_r hb1 hs1
  go_wp2_with fail
  refine (toIntS_new _ _ _ f2 _ hm2 (by first | exact (HS_A2.out.below HW1.out) | exact Src.alloc (HS_A2.out.below HW1.out) _ | exact Src.alloc (Src.alloc (HS_A2.out.below HW1.out) _) _ | exact Src.drew (HS_A2.out.below HW1.out))).mono ?_
  rintro e w2 ⟨g2, rfl, lo_g2, ha_r, hb2⟩
  try simp only [World.size_alloc] at lo_g2
  have hs2 : Below w1.heap.size w1 w2 := (by go_grown : Below w1.heap.size w1 _).trans (hb2.mono (by go_size))
  have z2 : w1.heap.size ≤ w2.heap.size := hs2.size
  have HW2 := hide (HW1.out.trans (hs2.mono HW1.out.size))
  have HA_a1_2 := hide (HA_a1_1.out.all hs2)
  have HA_a2_2 := hide ha_r
  have hi_a2_2 : g2 < w2.heap.size := ha_r.lt
  clear HA_a1_1 ha_r hb2 hs2
  go_wp2_with fail
  refine (HSP.out _ _ _ _ _ (by first | exact Src.of_arr HA_a1_2.out | exact Src.of_arr (HA_a1_2.out.alloc _) | exact Src.of_arr ((HA_a1_2.out.alloc _).alloc _) | exact Src.of_arr HA_a1_2.out.drew) (by first | exact Src.of_arr HA_a2_2.out | exact Src.of_arr (HA_a2_2.out.alloc _) | exact Src.of_arr ((HA_a2_2.out.alloc _).alloc _) | exact Src.of_arr HA_a2_2.out.drew)).mono ?_
  rintro e w3 ⟨g3, c_g3, rfl, lo_g3, ha_r, hb3⟩
  try simp only [World.size_alloc] at lo_g3
  have hs3 : Below w2.heap.size w2 w3 := (by go_grown : Below w2.heap.size w2 _).trans (hb3.mono (by go_size))
  have z3 : w2.heap.size ≤ w3.heap.size := hs3.size
  have HW3 := hide (HW2.out.trans (hs3.mono HW2.out.size))
  have HA_a1_3 := hide (HA_a1_2.out.all hs3)
  have HA_a2_3 := hide (HA_a2_2.out.all hs3)
  have HA_s_3 := hide ha_r
  have hi_s_3 : g3 < w3.heap.size := ha_r.lt
  clear HA_a1_2 HA_a2_2 ha_r hb3 hs3
  go_wp2_with fail
  refine (toIntS_new _ _ _ f1 _ hm1 (by first | exact (HS_A1.out.below HW3.out) | exact Src.alloc (HS_A1.out.below HW3.out) _ | exact Src.alloc (Src.alloc (HS_A1.out.below HW3.out) _) _ | exact Src.drew (HS_A1.out.below HW3.out))).mono ?_
  rintro e w4 ⟨g4, rfl, lo_g4, ha_r, hb4⟩
  try simp only [World.size_alloc] at lo_g4
  have hs4 : Below w3.heap.size w3 w4 := (by go_grown : Below w3.heap.size w3 _).trans (hb4.mono (by go_size))
  have z4 : w3.heap.size ≤ w4.heap.size := hs4.size
  have HW4 := hide (HW3.out.trans (hs4.mono HW3.out.size))
  have HA_a1_4 := hide (HA_a1_3.out.all hs4)
  have HA_a2_4 := hide (HA_a2_3.out.all hs4)
  have HA_s_4 := hide (HA_s_3.out.all hs4)
  have HA_x1_4 := hide ha_r
  have hi_x1_4 : g4 < w4.heap.size := ha_r.lt
  clear HA_a1_3 HA_a2_3 HA_s_3 ha_r hb4 hs4
  go_wp2_with fail
  refine (toIntS_new _ _ _ f2 _ hm2 (by first | exact (HS_A2.out.below HW4.out) | exact Src.alloc (HS_A2.out.below HW4.out) _ | exact Src.alloc (Src.alloc (HS_A2.out.below HW4.out) _) _ | exact Src.drew (HS_A2.out.below HW4.out))).mono ?_
  rintro e w5 ⟨g5, rfl, lo_g5, ha_r, hb5⟩
  try simp only [World.size_alloc] at lo_g5
  have hs5 : Below w4.heap.size w4 w5 := (by go_grown : Below w4.heap.size w4 _).trans (hb5.mono (by go_size))
  have z5 : w4.heap.size ≤ w5.heap.size := hs5.size
  have HW5 := hide (HW4.out.trans (hs5.mono HW4.out.size))
  have HA_a1_5 := hide (HA_a1_4.out.all hs5)
  have HA_a2_5 := hide (HA_a2_4.out.all hs5)
  have HA_s_5 := hide (HA_s_4.out.all hs5)
  have HA_x1_5 := hide (HA_x1_4.out.all hs5)
  have HA_x2_5 := hide ha_r
  have hi_x2_5 : g5 < w5.heap.size := ha_r.lt
  clear HA_a1_4 HA_a2_4 HA_s_4 HA_x1_4 ha_r hb5 hs5
  go_wp2_with fail
  refine (HIM.out _ _ _ _ _ (by first | exact (HT.out.below HW5.out) | exact Tab.below (HT.out.below HW5.out) (by go_grown)) (by first | exact Src.of_arr HA_x1_5.out | exact Src.of_arr (HA_x1_5.out.alloc _) | exact Src.of_arr ((HA_x1_5.out.alloc _).alloc _) | exact Src.of_arr HA_x1_5.out.drew) (by first | exact Src.of_arr HA_x2_5.out | exact Src.of_arr (HA_x2_5.out.alloc _) | exact Src.of_arr ((HA_x2_5.out.alloc _).alloc _) | exact Src.of_arr HA_x2_5.out.drew)).mono ?_
  rintro e w6 ⟨g6, c_g6, rfl, lo_g6, ha_r, hb6⟩
  try simp only [World.size_alloc] at lo_g6
  have hs6 : Below w5.heap.size w5 w6 := (by go_grown : Below w5.heap.size w5 _).trans (hb6.mono (by go_size))
  have z6 : w5.heap.size ≤ w6.heap.size := hs6.size
  have HW6 := hide (HW5.out.trans (hs6.mono HW5.out.size))
  have HA_a1_6 := hide (HA_a1_5.out.all hs6)
  have HA_a2_6 := hide (HA_a2_5.out.all hs6)
  have HA_s_6 := hide (HA_s_5.out.all hs6)
  have HA_x1_6 := hide (HA_x1_5.out.all hs6)
  have HA_x2_6 := hide (HA_x2_5.out.all hs6)
  have HA_i_6 := hide ha_r
  have hi_i_6 : g6 < w6.heap.size := ha_r.lt
  clear HA_a1_5 HA_a2_5 HA_s_5 HA_x1_5 HA_x2_5 ha_r hb6 hs6
  go_wp2_with fail
  refine (eqIntS_below _ _ _ _ _ F _ hm (by first | exact Src.of_arr HA_i_6.out | exact Src.of_arr (HA_i_6.out.alloc _) | exact Src.of_arr ((HA_i_6.out.alloc _).alloc _) | exact Src.of_arr HA_i_6.out.drew) (by first | exact Src.of_arr HA_s_6.out | exact Src.of_arr (HA_s_6.out.alloc _) | exact Src.of_arr ((HA_s_6.out.alloc _).alloc _) | exact Src.of_arr HA_s_6.out.drew)).mono ?_
  rintro e w7 ⟨rfl, hb7⟩
  have hs7 : Below w6.heap.size w6 w7 := (by go_grown : Below w6.heap.size w6 _).trans (hb7.mono (by go_size))
  have z7 : w6.heap.size ≤ w7.heap.size := hs7.size
  have HW7 := hide (HW6.out.trans (hs7.mono HW6.out.size))
  have HA_a1_7 := hide (HA_a1_6.out.all hs7)
  have HA_a2_7 := hide (HA_a2_6.out.all hs7)
  have HA_s_7 := hide (HA_s_6.out.all hs7)
  have HA_x1_7 := hide (HA_x1_6.out.all hs7)
  have HA_x2_7 := hide (HA_x2_6.out.all hs7)
  have HA_i_7 := hide (HA_i_6.out.all hs7)
  clear HA_a1_6 HA_a2_6 HA_s_6 HA_x1_6 HA_x2_6 HA_i_6 hb7 hs7
  go_wp2_with fail
  refine (toIntS_new _ _ _ f1 _ hm1 (by first | exact (HS_A1.out.below HW7.out) | exact Src.alloc (HS_A1.out.below HW7.out) _ | exact Src.alloc (Src.alloc (HS_A1.out.below HW7.out) _) _ | exact Src.drew (HS_A1.out.below HW7.out))).mono ?_
  rintro e w8 ⟨g8, rfl, lo_g8, ha_r, hb8⟩
  try simp only [World.size_alloc] at lo_g8
  have hs8 : Below w7.heap.size w7 w8 := (by go_grown : Below w7.heap.size w7 _).trans (hb8.mono (by go_size))
  have z8 : w7.heap.size ≤ w8.heap.size := hs8.size
  have HW8 := hide (HW7.out.trans (hs8.mono HW7.out.size))
  have HA_a1_8 := hide (HA_a1_7.out.all hs8)
  have HA_a2_8 := hide (HA_a2_7.out.all hs8)
  have HA_s_8 := hide (HA_s_7.out.all hs8)
  have HA_x1_8 := hide (HA_x1_7.out.all hs8)
  have HA_x2_8 := hide (HA_x2_7.out.all hs8)
  have HA_i_8 := hide (HA_i_7.out.all hs8)
  have HA_z1_8 := hide ha_r
  have hi_z1_8 : g8 < w8.heap.size := ha_r.lt
  clear HA_a1_7 HA_a2_7 HA_s_7 HA_x1_7 HA_x2_7 HA_i_7 ha_r hb8 hs8
  go_wp2_with fail
  refine (eqIntS_below _ _ _ _ _ f1 _ hm1 (by first | exact Src.of_arr HA_x1_8.out | exact Src.of_arr (HA_x1_8.out.alloc _) | exact Src.of_arr ((HA_x1_8.out.alloc _).alloc _) | exact Src.of_arr HA_x1_8.out.drew) (by first | exact Src.of_arr HA_z1_8.out | exact Src.of_arr (HA_z1_8.out.alloc _) | exact Src.of_arr ((HA_z1_8.out.alloc _).alloc _) | exact Src.of_arr HA_z1_8.out.drew)).mono ?_
  rintro e w9 ⟨rfl, hb9⟩
  have hs9 : Below w8.heap.size w8 w9 := (by go_grown : Below w8.heap.size w8 _).trans (hb9.mono (by go_size))
  have z9 : w8.heap.size ≤ w9.heap.size := hs9.size
  have HW9 := hide (HW8.out.trans (hs9.mono HW8.out.size))
  have HA_a1_9 := hide (HA_a1_8.out.all hs9)
  have HA_a2_9 := hide (HA_a2_8.out.all hs9)
  have HA_s_9 := hide (HA_s_8.out.all hs9)
  have HA_x1_9 := hide (HA_x1_8.out.all hs9)
  have HA_x2_9 := hide (HA_x2_8.out.all hs9)
  have HA_i_9 := hide (HA_i_8.out.all hs9)
  have HA_z1_9 := hide (HA_z1_8.out.all hs9)
  clear HA_a1_8 HA_a2_8 HA_s_8 HA_x1_8 HA_x2_8 HA_i_8 HA_z1_8 hb9 hs9
  go_wp2_with fail
  refine (toIntS_new _ _ _ f2 _ hm2 (by first | exact (HS_A2.out.below HW9.out) | exact Src.alloc (HS_A2.out.below HW9.out) _ | exact Src.alloc (Src.alloc (HS_A2.out.below HW9.out) _) _ | exact Src.drew (HS_A2.out.below HW9.out))).mono ?_
  rintro e w10 ⟨g10, rfl, lo_g10, ha_r, hb10⟩
  try simp only [World.size_alloc] at lo_g10
  have hs10 : Below w9.heap.size w9 w10 := (by go_grown : Below w9.heap.size w9 _).trans (hb10.mono (by go_size))
  have z10 : w9.heap.size ≤ w10.heap.size := hs10.size
  have HW10 := hide (HW9.out.trans (hs10.mono HW9.out.size))
  have HA_a1_10 := hide (HA_a1_9.out.all hs10)
  have HA_a2_10 := hide (HA_a2_9.out.all hs10)
  have HA_s_10 := hide (HA_s_9.out.all hs10)
  have HA_x1_10 := hide (HA_x1_9.out.all hs10)
  have HA_x2_10 := hide (HA_x2_9.out.all hs10)
  have HA_i_10 := hide (HA_i_9.out.all hs10)
  have HA_z1_10 := hide (HA_z1_9.out.all hs10)
  have HA_z2_10 := hide ha_r
  have hi_z2_10 : g10 < w10.heap.size := ha_r.lt
  clear HA_a1_9 HA_a2_9 HA_s_9 HA_x1_9 HA_x2_9 HA_i_9 HA_z1_9 ha_r hb10 hs10
  go_wp2_with fail
  refine (eqIntS_below _ _ _ _ _ f2 _ hm2 (by first | exact Src.of_arr HA_x2_10.out | exact Src.of_arr (HA_x2_10.out.alloc _) | exact Src.of_arr ((HA_x2_10.out.alloc _).alloc _) | exact Src.of_arr HA_x2_10.out.drew) (by first | exact Src.of_arr HA_z2_10.out | exact Src.of_arr (HA_z2_10.out.alloc _) | exact Src.of_arr ((HA_z2_10.out.alloc _).alloc _) | exact Src.of_arr HA_z2_10.out.drew)).mono ?_
  rintro e w11 ⟨rfl, hb11⟩
  have hs11 : Below w10.heap.size w10 w11 := (by go_grown : Below w10.heap.size w10 _).trans (hb11.mono (by go_size))
  have z11 : w10.heap.size ≤ w11.heap.size := hs11.size
  have HW11 := hide (HW10.out.trans (hs11.mono HW10.out.size))
  have HA_a1_11 := hide (HA_a1_10.out.all hs11)
  have HA_a2_11 := hide (HA_a2_10.out.all hs11)
  have HA_s_11 := hide (HA_s_10.out.all hs11)
  have HA_x1_11 := hide (HA_x1_10.out.all hs11)
  have HA_x2_11 := hide (HA_x2_10.out.all hs11)
  have HA_i_11 := hide (HA_i_10.out.all hs11)
  have HA_z1_11 := hide (HA_z1_10.out.all hs11)
  have HA_z2_11 := hide (HA_z2_10.out.all hs11)
  clear HA_a1_10 HA_a2_10 HA_s_10 HA_x1_10 HA_x2_10 HA_i_10 HA_z1_10 HA_z2_10 hb11 hs11
  go_wp2_with fail
  refine (markIntS_arr _ _ _ f1 _ _ hm1 (by omega) (by omega) (by first | exact HA_x1_11.out | exact HA_x1_11.out.alloc _ | exact (HA_x1_11.out.alloc _).alloc _ | exact HA_x1_11.out.drew)).mono ?_
  rintro e w12 ⟨rfl, ha_m, hb12⟩
  have hs12 : w11.grownBy w12 (some g4) := grownBy_trans (grownBy_of_below (by go_grown) _) hb12
  have z12 : w11.heap.size ≤ w12.heap.size := hs12.size
  have HW12 := hide (HW11.out.grown hs12 HW11.out.size (fun k hk => by injection hk with hk; have := HW11.out.size; omega))
  have HA_a1_12 := hide (HA_a1_11.out.of_block (hs12.block g1 (HA_a1_11.out.lt) (by intro h; injection h with h; omega)))
  have HA_a2_12 := hide (HA_a2_11.out.of_block (hs12.block g2 (HA_a2_11.out.lt) (by intro h; injection h with h; omega)))
  have HA_s_12 := hide (HA_s_11.out.of_block (hs12.block g3 (HA_s_11.out.lt) (by intro h; injection h with h; omega)))
  have HA_x2_12 := hide (HA_x2_11.out.of_block (hs12.block g5 (HA_x2_11.out.lt) (by intro h; injection h with h; omega)))
  have HA_i_12 := hide (HA_i_11.out.of_block (hs12.block g6 (HA_i_11.out.lt) (by intro h; injection h with h; omega)))
  have HA_z1_12 := hide (HA_z1_11.out.of_block (hs12.block g8 (HA_z1_11.out.lt) (by intro h; injection h with h; omega)))
  have HA_z2_12 := hide (HA_z2_11.out.of_block (hs12.block g10 (HA_z2_11.out.lt) (by intro h; injection h with h; omega)))
  have HA_x1_12 := hide ha_m
  have hi_x1_12 : g4 < w12.heap.size := ha_m.lt
  clear HA_a1_11 HA_a2_11 HA_s_11 HA_x2_11 HA_i_11 HA_z1_11 HA_z2_11 ha_m hb12 hs12
  go_wp2_with fail
  refine (markIntS_arr _ _ _ f2 _ _ hm2 (by omega) (by omega) (by first | exact HA_x2_12.out | exact HA_x2_12.out.alloc _ | exact (HA_x2_12.out.alloc _).alloc _ | exact HA_x2_12.out.drew)).mono ?_
  rintro e w13 ⟨rfl, ha_m, hb13⟩
  have hs13 : w12.grownBy w13 (some g5) := grownBy_trans (grownBy_of_below (by go_grown) _) hb13
  have z13 : w12.heap.size ≤ w13.heap.size := hs13.size
  have HW13 := hide (HW12.out.grown hs13 HW12.out.size (fun k hk => by injection hk with hk; have := HW12.out.size; omega))
  have HA_a1_13 := hide (HA_a1_12.out.of_block (hs13.block g1 (HA_a1_12.out.lt) (by intro h; injection h with h; omega)))
  have HA_a2_13 := hide (HA_a2_12.out.of_block (hs13.block g2 (HA_a2_12.out.lt) (by intro h; injection h with h; omega)))
  have HA_s_13 := hide (HA_s_12.out.of_block (hs13.block g3 (HA_s_12.out.lt) (by intro h; injection h with h; omega)))
  have HA_x1_13 := hide (HA_x1_12.out.of_block (hs13.block g4 (HA_x1_12.out.lt) (by intro h; injection h with h; omega)))
  have HA_i_13 := hide (HA_i_12.out.of_block (hs13.block g6 (HA_i_12.out.lt) (by intro h; injection h with h; omega)))
  have HA_z1_13 := hide (HA_z1_12.out.of_block (hs13.block g8 (HA_z1_12.out.lt) (by intro h; injection h with h; omega)))
  have HA_z2_13 := hide (HA_z2_12.out.of_block (hs13.block g10 (HA_z2_12.out.lt) (by intro h; injection h with h; omega)))
  have HA_x2_13 := hide ha_m
  have hi_x2_13 : g5 < w13.heap.size := ha_m.lt
  clear HA_a1_12 HA_a2_12 HA_s_12 HA_x1_12 HA_i_12 HA_z1_12 HA_z2_12 ha_m hb13 hs13
  go_wp2_with fail
  refine (eqIntS_below _ _ _ _ _ F _ hm (by first | exact Src.of_arr HA_i_13.out | exact Src.of_arr (HA_i_13.out.alloc _) | exact Src.of_arr ((HA_i_13.out.alloc _).alloc _) | exact Src.of_arr HA_i_13.out.drew) (by first | exact Src.of_arr HA_s_13.out | exact Src.of_arr (HA_s_13.out.alloc _) | exact Src.of_arr ((HA_s_13.out.alloc _).alloc _) | exact Src.of_arr HA_s_13.out.drew)).mono ?_
  rintro e w14 ⟨rfl, hb14⟩
  have hs14 : Below w13.heap.size w13 w14 := (by go_grown : Below w13.heap.size w13 _).trans (hb14.mono (by go_size))
  have z14 : w13.heap.size ≤ w14.heap.size := hs14.size
  have HW14 := hide (HW13.out.trans (hs14.mono HW13.out.size))
  have HA_a1_14 := hide (HA_a1_13.out.all hs14)
  have HA_a2_14 := hide (HA_a2_13.out.all hs14)
  have HA_s_14 := hide (HA_s_13.out.all hs14)
  have HA_x1_14 := hide (HA_x1_13.out.all hs14)
  have HA_x2_14 := hide (HA_x2_13.out.all hs14)
  have HA_i_14 := hide (HA_i_13.out.all hs14)
  have HA_z1_14 := hide (HA_z1_13.out.all hs14)
  have HA_z2_14 := hide (HA_z2_13.out.all hs14)
  clear HA_a1_13 HA_a2_13 HA_s_13 HA_x1_13 HA_x2_13 HA_i_13 HA_z1_13 HA_z2_13 hb14 hs14
  go_wp2_with fail
  refine (markIntS_arr _ _ _ F _ _ hm (by omega) (by omega) (by first | exact HA_i_14.out | exact HA_i_14.out.alloc _ | exact (HA_i_14.out.alloc _).alloc _ | exact HA_i_14.out.drew)).mono ?_
  rintro e w15 ⟨rfl, ha_n, hb15⟩
  have hs15 : w14.grownBy w15 (some g6) := grownBy_trans (grownBy_of_below (by go_grown) _) hb15
  have z15 : w14.heap.size ≤ w15.heap.size := hs15.size
  have HW15 := hide (HW14.out.grown hs15 HW14.out.size (fun k hk => by injection hk with hk; have := HW14.out.size; omega))
  have HA_a1_15 := hide (HA_a1_14.out.of_block (hs15.block g1 (HA_a1_14.out.lt) (by intro h; injection h with h; omega)))
  have HA_a2_15 := hide (HA_a2_14.out.of_block (hs15.block g2 (HA_a2_14.out.lt) (by intro h; injection h with h; omega)))
  have HA_s_15 := hide (HA_s_14.out.of_block (hs15.block g3 (HA_s_14.out.lt) (by intro h; injection h with h; omega)))
  have HA_x1_15 := hide (HA_x1_14.out.of_block (hs15.block g4 (HA_x1_14.out.lt) (by intro h; injection h with h; omega)))
  have HA_x2_15 := hide (HA_x2_14.out.of_block (hs15.block g5 (HA_x2_14.out.lt) (by intro h; injection h with h; omega)))
  have HA_z1_15 := hide (HA_z1_14.out.of_block (hs15.block g8 (HA_z1_14.out.lt) (by intro h; injection h with h; omega)))
  have HA_z2_15 := hide (HA_z2_14.out.of_block (hs15.block g10 (HA_z2_14.out.lt) (by intro h; injection h with h; omega)))
  have HA_i_15 := hide ha_n
  have hi_i_15 : g6 < w15.heap.size := ha_n.lt
  clear HA_a1_14 HA_a2_14 HA_s_14 HA_x1_14 HA_x2_14 HA_z1_14 HA_z2_14 ha_n hb15 hs15
  go_wp2_with fail
  refine (heldIntS_below _ _ _ _ _ hm (by omega) (by omega) (by first | exact Src.of_arr HA_i_15.out | exact Src.of_arr (HA_i_15.out.alloc _) | exact Src.of_arr ((HA_i_15.out.alloc _).alloc _) | exact Src.of_arr HA_i_15.out.drew)).mono ?_
  rintro e w16 ⟨rfl, hb16⟩
  have hs16 : Below w15.heap.size w15 w16 := (by go_grown : Below w15.heap.size w15 _).trans (hb16.mono (by go_size))
  have z16 : w15.heap.size ≤ w16.heap.size := hs16.size
  have HW16 := hide (HW15.out.trans (hs16.mono HW15.out.size))
  have HA_a1_16 := hide (HA_a1_15.out.all hs16)
  have HA_a2_16 := hide (HA_a2_15.out.all hs16)
  have HA_s_16 := hide (HA_s_15.out.all hs16)
  have HA_x1_16 := hide (HA_x1_15.out.all hs16)
  have HA_x2_16 := hide (HA_x2_15.out.all hs16)
  have HA_i_16 := hide (HA_i_15.out.all hs16)
  have HA_z1_16 := hide (HA_z1_15.out.all hs16)
  have HA_z2_16 := hide (HA_z2_15.out.all hs16)
  clear HA_a1_15 HA_a2_15 HA_s_15 HA_x1_15 HA_x2_15 HA_i_15 HA_z1_15 HA_z2_15 hb16 hs16
  go_wp2_with fail
  refine (toIntS_new _ _ _ f1 _ hm1 (by first | exact (HS_A1.out.below HW16.out) | exact Src.alloc (HS_A1.out.below HW16.out) _ | exact Src.alloc (Src.alloc (HS_A1.out.below HW16.out) _) _ | exact Src.drew (HS_A1.out.below HW16.out))).mono ?_
  rintro e w17 ⟨g17, rfl, lo_g17, ha_r, hb17⟩
  try simp only [World.size_alloc] at lo_g17
  have hs17 : Below w16.heap.size w16 w17 := (by go_grown : Below w16.heap.size w16 _).trans (hb17.mono (by go_size))
  have z17 : w16.heap.size ≤ w17.heap.size := hs17.size
  have HW17 := hide (HW16.out.trans (hs17.mono HW16.out.size))
  have HA_a1_17 := hide (HA_a1_16.out.all hs17)
  have HA_a2_17 := hide (HA_a2_16.out.all hs17)
  have HA_s_17 := hide (HA_s_16.out.all hs17)
  have HA_x1_17 := hide (HA_x1_16.out.all hs17)
  have HA_x2_17 := hide (HA_x2_16.out.all hs17)
  have HA_i_17 := hide (HA_i_16.out.all hs17)
  have HA_z1_17 := hide (HA_z1_16.out.all hs17)
  have HA_z2_17 := hide (HA_z2_16.out.all hs17)
  have HA_q1_17 := hide ha_r
  have hi_q1_17 : g17 < w17.heap.size := ha_r.lt
  clear HA_a1_16 HA_a2_16 HA_s_16 HA_x1_16 HA_x2_16 HA_i_16 HA_z1_16 HA_z2_16 ha_r hb17 hs17
  go_wp2_with fail
  refine (toIntS_new _ _ _ f2 _ hm2 (by first | exact (HS_A2.out.below HW17.out) | exact Src.alloc (HS_A2.out.below HW17.out) _ | exact Src.alloc (Src.alloc (HS_A2.out.below HW17.out) _) _ | exact Src.drew (HS_A2.out.below HW17.out))).mono ?_
  rintro e w18 ⟨g18, rfl, lo_g18, ha_r, hb18⟩
  try simp only [World.size_alloc] at lo_g18
  have hs18 : Below w17.heap.size w17 w18 := (by go_grown : Below w17.heap.size w17 _).trans (hb18.mono (by go_size))
  have z18 : w17.heap.size ≤ w18.heap.size := hs18.size
  have HW18 := hide (HW17.out.trans (hs18.mono HW17.out.size))
  have HA_a1_18 := hide (HA_a1_17.out.all hs18)
  have HA_a2_18 := hide (HA_a2_17.out.all hs18)
  have HA_s_18 := hide (HA_s_17.out.all hs18)
  have HA_x1_18 := hide (HA_x1_17.out.all hs18)
  have HA_x2_18 := hide (HA_x2_17.out.all hs18)
  have HA_i_18 := hide (HA_i_17.out.all hs18)
  have HA_z1_18 := hide (HA_z1_17.out.all hs18)
  have HA_z2_18 := hide (HA_z2_17.out.all hs18)
  have HA_q1_18 := hide (HA_q1_17.out.all hs18)
  have HA_q2_18 := hide ha_r
  have hi_q2_18 : g18 < w18.heap.size := ha_r.lt
  clear HA_a1_17 HA_a2_17 HA_s_17 HA_x1_17 HA_x2_17 HA_i_17 HA_z1_17 HA_z2_17 HA_q1_17 ha_r hb18 hs18
  go_wp2_with fail
  refine (HIM.out _ _ _ _ _ (by first | exact (HT.out.below HW18.out) | exact Tab.below (HT.out.below HW18.out) (by go_grown)) (by first | exact Src.of_arr HA_q1_18.out | exact Src.of_arr (HA_q1_18.out.alloc _) | exact Src.of_arr ((HA_q1_18.out.alloc _).alloc _) | exact Src.of_arr HA_q1_18.out.drew) (by first | exact Src.of_arr HA_q2_18.out | exact Src.of_arr (HA_q2_18.out.alloc _) | exact Src.of_arr ((HA_q2_18.out.alloc _).alloc _) | exact Src.of_arr HA_q2_18.out.drew)).mono ?_
  rintro e w19 ⟨g19, c_g19, rfl, lo_g19, ha_r, hb19⟩
  try simp only [World.size_alloc] at lo_g19
  have hs19 : Below w18.heap.size w18 w19 := (by go_grown : Below w18.heap.size w18 _).trans (hb19.mono (by go_size))
  have z19 : w18.heap.size ≤ w19.heap.size := hs19.size
  have HW19 := hide (HW18.out.trans (hs19.mono HW18.out.size))
  have HA_a1_19 := hide (HA_a1_18.out.all hs19)
  have HA_a2_19 := hide (HA_a2_18.out.all hs19)
  have HA_s_19 := hide (HA_s_18.out.all hs19)
  have HA_x1_19 := hide (HA_x1_18.out.all hs19)
  have HA_x2_19 := hide (HA_x2_18.out.all hs19)
  have HA_i_19 := hide (HA_i_18.out.all hs19)
  have HA_z1_19 := hide (HA_z1_18.out.all hs19)
  have HA_z2_19 := hide (HA_z2_18.out.all hs19)
  have HA_q1_19 := hide (HA_q1_18.out.all hs19)
  have HA_q2_19 := hide (HA_q2_18.out.all hs19)
  have HA_j_19 := hide ha_r
  have hi_j_19 : g19 < w19.heap.size := ha_r.lt
  clear HA_a1_18 HA_a2_18 HA_s_18 HA_x1_18 HA_x2_18 HA_i_18 HA_z1_18 HA_z2_18 HA_q1_18 HA_q2_18 ha_r hb19 hs19
  go_wp2_with fail
  refine (eqIntS_below _ _ _ _ _ F _ hm (by first | exact Src.of_arr HA_j_19.out | exact Src.of_arr (HA_j_19.out.alloc _) | exact Src.of_arr ((HA_j_19.out.alloc _).alloc _) | exact Src.of_arr HA_j_19.out.drew) (by first | exact Src.of_arr HA_s_19.out | exact Src.of_arr (HA_s_19.out.alloc _) | exact Src.of_arr ((HA_s_19.out.alloc _).alloc _) | exact Src.of_arr HA_s_19.out.drew)).mono ?_
  rintro e w20 ⟨rfl, hb20⟩
  have hs20 : Below w19.heap.size w19 w20 := (by go_grown : Below w19.heap.size w19 _).trans (hb20.mono (by go_size))
  have z20 : w19.heap.size ≤ w20.heap.size := hs20.size
  have HW20 := hide (HW19.out.trans (hs20.mono HW19.out.size))
  have HA_a1_20 := hide (HA_a1_19.out.all hs20)
  have HA_a2_20 := hide (HA_a2_19.out.all hs20)
  have HA_s_20 := hide (HA_s_19.out.all hs20)
  have HA_x1_20 := hide (HA_x1_19.out.all hs20)
  have HA_x2_20 := hide (HA_x2_19.out.all hs20)
  have HA_i_20 := hide (HA_i_19.out.all hs20)
  have HA_z1_20 := hide (HA_z1_19.out.all hs20)
  have HA_z2_20 := hide (HA_z2_19.out.all hs20)
  have HA_q1_20 := hide (HA_q1_19.out.all hs20)
  have HA_q2_20 := hide (HA_q2_19.out.all hs20)
  have HA_j_20 := hide (HA_j_19.out.all hs20)
  clear HA_a1_19 HA_a2_19 HA_s_19 HA_x1_19 HA_x2_19 HA_i_19 HA_z1_19 HA_z2_19 HA_q1_19 HA_q2_19 HA_j_19 hb20 hs20
  go_wp2_with fail
  refine (heldIntS_below _ _ _ _ _ hm (by omega) (by omega) (by first | exact Src.of_arr HA_i_20.out | exact Src.of_arr (HA_i_20.out.alloc _) | exact Src.of_arr ((HA_i_20.out.alloc _).alloc _) | exact Src.of_arr HA_i_20.out.drew)).mono ?_
  rintro e w21 ⟨rfl, hb21⟩
  have hs21 : Below w20.heap.size w20 w21 := (by go_grown : Below w20.heap.size w20 _).trans (hb21.mono (by go_size))
  have z21 : w20.heap.size ≤ w21.heap.size := hs21.size
  have HW21 := hide (HW20.out.trans (hs21.mono HW20.out.size))
  have HA_a1_21 := hide (HA_a1_20.out.all hs21)
  have HA_a2_21 := hide (HA_a2_20.out.all hs21)
  have HA_s_21 := hide (HA_s_20.out.all hs21)
  have HA_x1_21 := hide (HA_x1_20.out.all hs21)
  have HA_x2_21 := hide (HA_x2_20.out.all hs21)
  have HA_i_21 := hide (HA_i_20.out.all hs21)
  have HA_z1_21 := hide (HA_z1_20.out.all hs21)
  have HA_z2_21 := hide (HA_z2_20.out.all hs21)
  have HA_q1_21 := hide (HA_q1_20.out.all hs21)
  have HA_q2_21 := hide (HA_q2_20.out.all hs21)
  have HA_j_21 := hide (HA_j_20.out.all hs21)
  clear HA_a1_20 HA_a2_20 HA_s_20 HA_x1_20 HA_x2_20 HA_i_20 HA_z1_20 HA_z2_20 HA_q1_20 HA_q2_20 HA_j_20 hb21 hs21
  go_wp2
  go_ret
  exact ⟨rfl, by have h := HW21.out; have hz := h.size; go_grown⟩
theorem lawCmp_no (A1 : Option Addr) (n1 c1 : Nat) (f1 : Nat → Int) (A2 : Option Addr) (n2 c2 : Nat) (f2 : Nat → Int) (w : World) (hm1 : n1 ≤ 1048576) (hm2 : n2 ≤ 1048576) (HSP : Hid (∀ (A1 : Option Addr) (c1 : Nat) (A2 : Option Addr) (c2 : Nat) (w : World), Src w A1 n1 (iv f1) → Src w A2 n2 (iv f2) → Calls Tryd.prog 22 #[.slice A1 n1 c1, .slice A2 n2 c2] w (NoRes w))) (HIM : Hid (∀ (A1 : Option Addr) (c1 : Nat) (A2 : Option Addr) (c2 : Nat) (w : World), Tab w → Src w A1 n1 (iv f1) → Src w A2 n2 (iv f2) → Calls Tryd.prog 23 #[.slice A1 n1 c1, .slice A2 n2 c2] w (NoRes w))) (HS_A1 : Hid (Src w A1 n1 (iv f1))) (HS_A2 : Hid (Src w A2 n2 (iv f2))) (HT : Hid (Tab w)) :
    Calls Tryd.prog 5 #[.slice A1 n1 c1, .slice A2 n2 c2] w fun e w' => e = .returned (.bool true) ∧ Below w.heap.size w w' := by
  go_enter Tryd.func5, Tryd.ntmps5
  go_wp2_with fail
  refine (toIntS_new _ _ _ f1 _ hm1 (by first | exact HS_A1.out | exact Src.alloc HS_A1.out _ | exact Src.alloc (Src.alloc HS_A1.out _) _ | exact Src.drew HS_A1.out)).mono ?_
  rintro e w1 ⟨g1, rfl, lo_g1, ha_r, hb1⟩
  try simp only [World.size_alloc] at lo_g1
  have hs1 : Below w.heap.size w w1 := (by go_grown : Below w.heap.size w _).trans (hb1.mono (by go_size))
  have z1 : w.heap.size ≤ w1.heap.size := hs1.size
  have HW1 := hide hs1
  have HA_a1_1 := hide ha_r
  have hi_a1_1 : g1 < w1.heap.size := ha_r.lt
  clear ha_r hb1 hs1
  go_wp2_with fail
  refine (toIntS_new _ _ _ f2 _ hm2 (by first | exact (HS_A2.out.below HW1.out) | exact Src.alloc (HS_A2.out.below HW1.out) _ | exact Src.alloc (Src.alloc (HS_A2.out.below HW1.out) _) _ | exact Src.drew (HS_A2.out.below HW1.out))).mono ?_
  rintro e w2 ⟨g2, rfl, lo_g2, ha_r, hb2⟩
  try simp only [World.size_alloc] at lo_g2
  have hs2 : Below w1.heap.size w1 w2 := (by go_grown : Below w1.heap.size w1 _).trans (hb2.mono (by go_size))
  have z2 : w1.heap.size ≤ w2.heap.size := hs2.size
  have HW2 := hide (HW1.out.trans (hs2.mono HW1.out.size))
  have HA_a1_2 := hide (HA_a1_1.out.all hs2)
  have HA_a2_2 := hide ha_r
  have hi_a2_2 : g2 < w2.heap.size := ha_r.lt
  clear HA_a1_1 ha_r hb2 hs2
  go_wp2_with fail
  refine (HSP.out _ _ _ _ _ (by first | exact Src.of_arr HA_a1_2.out | exact Src.of_arr (HA_a1_2.out.alloc _) | exact Src.of_arr ((HA_a1_2.out.alloc _).alloc _) | exact Src.of_arr HA_a1_2.out.drew) (by first | exact Src.of_arr HA_a2_2.out | exact Src.of_arr (HA_a2_2.out.alloc _) | exact Src.of_arr ((HA_a2_2.out.alloc _).alloc _) | exact Src.of_arr HA_a2_2.out.drew)).mono ?_
  rintro e w3 ⟨rfl, hb3⟩
  have hs3 : Below w2.heap.size w2 w3 := (by go_grown : Below w2.heap.size w2 _).trans (hb3.mono (by go_size))
  have z3 : w2.heap.size ≤ w3.heap.size := hs3.size
  have HW3 := hide (HW2.out.trans (hs3.mono HW2.out.size))
  have HA_a1_3 := hide (HA_a1_2.out.all hs3)
  have HA_a2_3 := hide (HA_a2_2.out.all hs3)
  clear HA_a1_2 HA_a2_2 hb3 hs3
  go_wp2_with fail
  refine (toIntS_new _ _ _ f1 _ hm1 (by first | exact (HS_A1.out.below HW3.out) | exact Src.alloc (HS_A1.out.below HW3.out) _ | exact Src.alloc (Src.alloc (HS_A1.out.below HW3.out) _) _ | exact Src.drew (HS_A1.out.below HW3.out))).mono ?_
  rintro e w4 ⟨g4, rfl, lo_g4, ha_r, hb4⟩
  try simp only [World.size_alloc] at lo_g4
  have hs4 : Below w3.heap.size w3 w4 := (by go_grown : Below w3.heap.size w3 _).trans (hb4.mono (by go_size))
  have z4 : w3.heap.size ≤ w4.heap.size := hs4.size
  have HW4 := hide (HW3.out.trans (hs4.mono HW3.out.size))
  have HA_a1_4 := hide (HA_a1_3.out.all hs4)
  have HA_a2_4 := hide (HA_a2_3.out.all hs4)
  have HA_x1_4 := hide ha_r
  have hi_x1_4 : g4 < w4.heap.size := ha_r.lt
  clear HA_a1_3 HA_a2_3 ha_r hb4 hs4
  go_wp2_with fail
  refine (toIntS_new _ _ _ f2 _ hm2 (by first | exact (HS_A2.out.below HW4.out) | exact Src.alloc (HS_A2.out.below HW4.out) _ | exact Src.alloc (Src.alloc (HS_A2.out.below HW4.out) _) _ | exact Src.drew (HS_A2.out.below HW4.out))).mono ?_
  rintro e w5 ⟨g5, rfl, lo_g5, ha_r, hb5⟩
  try simp only [World.size_alloc] at lo_g5
  have hs5 : Below w4.heap.size w4 w5 := (by go_grown : Below w4.heap.size w4 _).trans (hb5.mono (by go_size))
  have z5 : w4.heap.size ≤ w5.heap.size := hs5.size
  have HW5 := hide (HW4.out.trans (hs5.mono HW4.out.size))
  have HA_a1_5 := hide (HA_a1_4.out.all hs5)
  have HA_a2_5 := hide (HA_a2_4.out.all hs5)
  have HA_x1_5 := hide (HA_x1_4.out.all hs5)
  have HA_x2_5 := hide ha_r
  have hi_x2_5 : g5 < w5.heap.size := ha_r.lt
  clear HA_a1_4 HA_a2_4 HA_x1_4 ha_r hb5 hs5
  go_wp2_with fail
  refine (HIM.out _ _ _ _ _ (by first | exact (HT.out.below HW5.out) | exact Tab.below (HT.out.below HW5.out) (by go_grown)) (by first | exact Src.of_arr HA_x1_5.out | exact Src.of_arr (HA_x1_5.out.alloc _) | exact Src.of_arr ((HA_x1_5.out.alloc _).alloc _) | exact Src.of_arr HA_x1_5.out.drew) (by first | exact Src.of_arr HA_x2_5.out | exact Src.of_arr (HA_x2_5.out.alloc _) | exact Src.of_arr ((HA_x2_5.out.alloc _).alloc _) | exact Src.of_arr HA_x2_5.out.drew)).mono ?_
  rintro e w6 ⟨rfl, hb6⟩
  have hs6 : Below w5.heap.size w5 w6 := (by go_grown : Below w5.heap.size w5 _).trans (hb6.mono (by go_size))
  have z6 : w5.heap.size ≤ w6.heap.size := hs6.size
  have HW6 := hide (HW5.out.trans (hs6.mono HW5.out.size))
  have HA_a1_6 := hide (HA_a1_5.out.all hs6)
  have HA_a2_6 := hide (HA_a2_5.out.all hs6)
  have HA_x1_6 := hide (HA_x1_5.out.all hs6)
  have HA_x2_6 := hide (HA_x2_5.out.all hs6)
  clear HA_a1_5 HA_a2_5 HA_x1_5 HA_x2_5 hb6 hs6
  go_wp2_with fail
  refine (eqIntS_below _ _ _ _ _ (fun _ => 0) _ (by omega) Src.nil Src.nil).mono ?_
  rintro e w7 ⟨rfl, hb7⟩
  have hs7 : Below w6.heap.size w6 w7 := (by go_grown : Below w6.heap.size w6 _).trans (hb7.mono (by go_size))
  have z7 : w6.heap.size ≤ w7.heap.size := hs7.size
  have HW7 := hide (HW6.out.trans (hs7.mono HW6.out.size))
  have HA_a1_7 := hide (HA_a1_6.out.all hs7)
  have HA_a2_7 := hide (HA_a2_6.out.all hs7)
  have HA_x1_7 := hide (HA_x1_6.out.all hs7)
  have HA_x2_7 := hide (HA_x2_6.out.all hs7)
  clear HA_a1_6 HA_a2_6 HA_x1_6 HA_x2_6 hb7 hs7
  go_wp2_with fail
  refine (toIntS_new _ _ _ f1 _ hm1 (by first | exact (HS_A1.out.below HW7.out) | exact Src.alloc (HS_A1.out.below HW7.out) _ | exact Src.alloc (Src.alloc (HS_A1.out.below HW7.out) _) _ | exact Src.drew (HS_A1.out.below HW7.out))).mono ?_
  rintro e w8 ⟨g8, rfl, lo_g8, ha_r, hb8⟩
  try simp only [World.size_alloc] at lo_g8
  have hs8 : Below w7.heap.size w7 w8 := (by go_grown : Below w7.heap.size w7 _).trans (hb8.mono (by go_size))
  have z8 : w7.heap.size ≤ w8.heap.size := hs8.size
  have HW8 := hide (HW7.out.trans (hs8.mono HW7.out.size))
  have HA_a1_8 := hide (HA_a1_7.out.all hs8)
  have HA_a2_8 := hide (HA_a2_7.out.all hs8)
  have HA_x1_8 := hide (HA_x1_7.out.all hs8)
  have HA_x2_8 := hide (HA_x2_7.out.all hs8)
  have HA_z1_8 := hide ha_r
  have hi_z1_8 : g8 < w8.heap.size := ha_r.lt
  clear HA_a1_7 HA_a2_7 HA_x1_7 HA_x2_7 ha_r hb8 hs8
  go_wp2_with fail
  refine (eqIntS_below _ _ _ _ _ f1 _ hm1 (by first | exact Src.of_arr HA_x1_8.out | exact Src.of_arr (HA_x1_8.out.alloc _) | exact Src.of_arr ((HA_x1_8.out.alloc _).alloc _) | exact Src.of_arr HA_x1_8.out.drew) (by first | exact Src.of_arr HA_z1_8.out | exact Src.of_arr (HA_z1_8.out.alloc _) | exact Src.of_arr ((HA_z1_8.out.alloc _).alloc _) | exact Src.of_arr HA_z1_8.out.drew)).mono ?_
  rintro e w9 ⟨rfl, hb9⟩
  have hs9 : Below w8.heap.size w8 w9 := (by go_grown : Below w8.heap.size w8 _).trans (hb9.mono (by go_size))
  have z9 : w8.heap.size ≤ w9.heap.size := hs9.size
  have HW9 := hide (HW8.out.trans (hs9.mono HW8.out.size))
  have HA_a1_9 := hide (HA_a1_8.out.all hs9)
  have HA_a2_9 := hide (HA_a2_8.out.all hs9)
  have HA_x1_9 := hide (HA_x1_8.out.all hs9)
  have HA_x2_9 := hide (HA_x2_8.out.all hs9)
  have HA_z1_9 := hide (HA_z1_8.out.all hs9)
  clear HA_a1_8 HA_a2_8 HA_x1_8 HA_x2_8 HA_z1_8 hb9 hs9
  go_wp2_with fail
  refine (toIntS_new _ _ _ f2 _ hm2 (by first | exact (HS_A2.out.below HW9.out) | exact Src.alloc (HS_A2.out.below HW9.out) _ | exact Src.alloc (Src.alloc (HS_A2.out.below HW9.out) _) _ | exact Src.drew (HS_A2.out.below HW9.out))).mono ?_
  rintro e w10 ⟨g10, rfl, lo_g10, ha_r, hb10⟩
  try simp only [World.size_alloc] at lo_g10
  have hs10 : Below w9.heap.size w9 w10 := (by go_grown : Below w9.heap.size w9 _).trans (hb10.mono (by go_size))
  have z10 : w9.heap.size ≤ w10.heap.size := hs10.size
  have HW10 := hide (HW9.out.trans (hs10.mono HW9.out.size))
  have HA_a1_10 := hide (HA_a1_9.out.all hs10)
  have HA_a2_10 := hide (HA_a2_9.out.all hs10)
  have HA_x1_10 := hide (HA_x1_9.out.all hs10)
  have HA_x2_10 := hide (HA_x2_9.out.all hs10)
  have HA_z1_10 := hide (HA_z1_9.out.all hs10)
  have HA_z2_10 := hide ha_r
  have hi_z2_10 : g10 < w10.heap.size := ha_r.lt
  clear HA_a1_9 HA_a2_9 HA_x1_9 HA_x2_9 HA_z1_9 ha_r hb10 hs10
  go_wp2_with fail
  refine (eqIntS_below _ _ _ _ _ f2 _ hm2 (by first | exact Src.of_arr HA_x2_10.out | exact Src.of_arr (HA_x2_10.out.alloc _) | exact Src.of_arr ((HA_x2_10.out.alloc _).alloc _) | exact Src.of_arr HA_x2_10.out.drew) (by first | exact Src.of_arr HA_z2_10.out | exact Src.of_arr (HA_z2_10.out.alloc _) | exact Src.of_arr ((HA_z2_10.out.alloc _).alloc _) | exact Src.of_arr HA_z2_10.out.drew)).mono ?_
  rintro e w11 ⟨rfl, hb11⟩
  have hs11 : Below w10.heap.size w10 w11 := (by go_grown : Below w10.heap.size w10 _).trans (hb11.mono (by go_size))
  have z11 : w10.heap.size ≤ w11.heap.size := hs11.size
  have HW11 := hide (HW10.out.trans (hs11.mono HW10.out.size))
  have HA_a1_11 := hide (HA_a1_10.out.all hs11)
  have HA_a2_11 := hide (HA_a2_10.out.all hs11)
  have HA_x1_11 := hide (HA_x1_10.out.all hs11)
  have HA_x2_11 := hide (HA_x2_10.out.all hs11)
  have HA_z1_11 := hide (HA_z1_10.out.all hs11)
  have HA_z2_11 := hide (HA_z2_10.out.all hs11)
  clear HA_a1_10 HA_a2_10 HA_x1_10 HA_x2_10 HA_z1_10 HA_z2_10 hb11 hs11
  go_wp2_with fail
  refine (markIntS_arr _ _ _ f1 _ _ hm1 (by omega) (by omega) (by first | exact HA_x1_11.out | exact HA_x1_11.out.alloc _ | exact (HA_x1_11.out.alloc _).alloc _ | exact HA_x1_11.out.drew)).mono ?_
  rintro e w12 ⟨rfl, ha_m, hb12⟩
  have hs12 : w11.grownBy w12 (some g4) := grownBy_trans (grownBy_of_below (by go_grown) _) hb12
  have z12 : w11.heap.size ≤ w12.heap.size := hs12.size
  have HW12 := hide (HW11.out.grown hs12 HW11.out.size (fun k hk => by injection hk with hk; have := HW11.out.size; omega))
  have HA_a1_12 := hide (HA_a1_11.out.of_block (hs12.block g1 (HA_a1_11.out.lt) (by intro h; injection h with h; omega)))
  have HA_a2_12 := hide (HA_a2_11.out.of_block (hs12.block g2 (HA_a2_11.out.lt) (by intro h; injection h with h; omega)))
  have HA_x2_12 := hide (HA_x2_11.out.of_block (hs12.block g5 (HA_x2_11.out.lt) (by intro h; injection h with h; omega)))
  have HA_z1_12 := hide (HA_z1_11.out.of_block (hs12.block g8 (HA_z1_11.out.lt) (by intro h; injection h with h; omega)))
  have HA_z2_12 := hide (HA_z2_11.out.of_block (hs12.block g10 (HA_z2_11.out.lt) (by intro h; injection h with h; omega)))
  have HA_x1_12 := hide ha_m
  have hi_x1_12 : g4 < w12.heap.size := ha_m.lt
  clear HA_a1_11 HA_a2_11 HA_x2_11 HA_z1_11 HA_z2_11 ha_m hb12 hs12
  go_wp2_with fail
  refine (markIntS_arr _ _ _ f2 _ _ hm2 (by omega) (by omega) (by first | exact HA_x2_12.out | exact HA_x2_12.out.alloc _ | exact (HA_x2_12.out.alloc _).alloc _ | exact HA_x2_12.out.drew)).mono ?_
  rintro e w13 ⟨rfl, ha_m, hb13⟩
  have hs13 : w12.grownBy w13 (some g5) := grownBy_trans (grownBy_of_below (by go_grown) _) hb13
  have z13 : w12.heap.size ≤ w13.heap.size := hs13.size
  have HW13 := hide (HW12.out.grown hs13 HW12.out.size (fun k hk => by injection hk with hk; have := HW12.out.size; omega))
  have HA_a1_13 := hide (HA_a1_12.out.of_block (hs13.block g1 (HA_a1_12.out.lt) (by intro h; injection h with h; omega)))
  have HA_a2_13 := hide (HA_a2_12.out.of_block (hs13.block g2 (HA_a2_12.out.lt) (by intro h; injection h with h; omega)))
  have HA_x1_13 := hide (HA_x1_12.out.of_block (hs13.block g4 (HA_x1_12.out.lt) (by intro h; injection h with h; omega)))
  have HA_z1_13 := hide (HA_z1_12.out.of_block (hs13.block g8 (HA_z1_12.out.lt) (by intro h; injection h with h; omega)))
  have HA_z2_13 := hide (HA_z2_12.out.of_block (hs13.block g10 (HA_z2_12.out.lt) (by intro h; injection h with h; omega)))
  have HA_x2_13 := hide ha_m
  have hi_x2_13 : g5 < w13.heap.size := ha_m.lt
  clear HA_a1_12 HA_a2_12 HA_x1_12 HA_z1_12 HA_z2_12 ha_m hb13 hs13
  go_wp2_with fail
  refine (eqIntS_below _ _ _ _ _ (fun _ => 0) _ (by omega) Src.nil Src.nil).mono ?_
  rintro e w14 ⟨rfl, hb14⟩
  have hs14 : Below w13.heap.size w13 w14 := (by go_grown : Below w13.heap.size w13 _).trans (hb14.mono (by go_size))
  have z14 : w13.heap.size ≤ w14.heap.size := hs14.size
  have HW14 := hide (HW13.out.trans (hs14.mono HW13.out.size))
  have HA_a1_14 := hide (HA_a1_13.out.all hs14)
  have HA_a2_14 := hide (HA_a2_13.out.all hs14)
  have HA_x1_14 := hide (HA_x1_13.out.all hs14)
  have HA_x2_14 := hide (HA_x2_13.out.all hs14)
  have HA_z1_14 := hide (HA_z1_13.out.all hs14)
  have HA_z2_14 := hide (HA_z2_13.out.all hs14)
  clear HA_a1_13 HA_a2_13 HA_x1_13 HA_x2_13 HA_z1_13 HA_z2_13 hb14 hs14
  go_wp2_with fail
  refine (markIntS_none_below _ _ _ _).mono ?_
  rintro e w15 ⟨rfl, hb15⟩
  have hs15 : Below w14.heap.size w14 w15 := (by go_grown : Below w14.heap.size w14 _).trans (hb15.mono (by go_size))
  have z15 : w14.heap.size ≤ w15.heap.size := hs15.size
  have HW15 := hide (HW14.out.trans (hs15.mono HW14.out.size))
  have HA_a1_15 := hide (HA_a1_14.out.all hs15)
  have HA_a2_15 := hide (HA_a2_14.out.all hs15)
  have HA_x1_15 := hide (HA_x1_14.out.all hs15)
  have HA_x2_15 := hide (HA_x2_14.out.all hs15)
  have HA_z1_15 := hide (HA_z1_14.out.all hs15)
  have HA_z2_15 := hide (HA_z2_14.out.all hs15)
  clear HA_a1_14 HA_a2_14 HA_x1_14 HA_x2_14 HA_z1_14 HA_z2_14 hb15 hs15
  go_wp2_with fail
  refine (heldIntS_below _ 0 _ _ _ (by omega) (by omega) (by omega) Src.nil).mono ?_
  rintro e w16 ⟨rfl, hb16⟩
  have hs16 : Below w15.heap.size w15 w16 := (by go_grown : Below w15.heap.size w15 _).trans (hb16.mono (by go_size))
  have z16 : w15.heap.size ≤ w16.heap.size := hs16.size
  have HW16 := hide (HW15.out.trans (hs16.mono HW15.out.size))
  have HA_a1_16 := hide (HA_a1_15.out.all hs16)
  have HA_a2_16 := hide (HA_a2_15.out.all hs16)
  have HA_x1_16 := hide (HA_x1_15.out.all hs16)
  have HA_x2_16 := hide (HA_x2_15.out.all hs16)
  have HA_z1_16 := hide (HA_z1_15.out.all hs16)
  have HA_z2_16 := hide (HA_z2_15.out.all hs16)
  clear HA_a1_15 HA_a2_15 HA_x1_15 HA_x2_15 HA_z1_15 HA_z2_15 hb16 hs16
  go_wp2_with fail
  refine (toIntS_new _ _ _ f1 _ hm1 (by first | exact (HS_A1.out.below HW16.out) | exact Src.alloc (HS_A1.out.below HW16.out) _ | exact Src.alloc (Src.alloc (HS_A1.out.below HW16.out) _) _ | exact Src.drew (HS_A1.out.below HW16.out))).mono ?_
  rintro e w17 ⟨g17, rfl, lo_g17, ha_r, hb17⟩
  try simp only [World.size_alloc] at lo_g17
  have hs17 : Below w16.heap.size w16 w17 := (by go_grown : Below w16.heap.size w16 _).trans (hb17.mono (by go_size))
  have z17 : w16.heap.size ≤ w17.heap.size := hs17.size
  have HW17 := hide (HW16.out.trans (hs17.mono HW16.out.size))
  have HA_a1_17 := hide (HA_a1_16.out.all hs17)
  have HA_a2_17 := hide (HA_a2_16.out.all hs17)
  have HA_x1_17 := hide (HA_x1_16.out.all hs17)
  have HA_x2_17 := hide (HA_x2_16.out.all hs17)
  have HA_z1_17 := hide (HA_z1_16.out.all hs17)
  have HA_z2_17 := hide (HA_z2_16.out.all hs17)
  have HA_q1_17 := hide ha_r
  have hi_q1_17 : g17 < w17.heap.size := ha_r.lt
  clear HA_a1_16 HA_a2_16 HA_x1_16 HA_x2_16 HA_z1_16 HA_z2_16 ha_r hb17 hs17
  go_wp2_with fail
  refine (toIntS_new _ _ _ f2 _ hm2 (by first | exact (HS_A2.out.below HW17.out) | exact Src.alloc (HS_A2.out.below HW17.out) _ | exact Src.alloc (Src.alloc (HS_A2.out.below HW17.out) _) _ | exact Src.drew (HS_A2.out.below HW17.out))).mono ?_
  rintro e w18 ⟨g18, rfl, lo_g18, ha_r, hb18⟩
  try simp only [World.size_alloc] at lo_g18
  have hs18 : Below w17.heap.size w17 w18 := (by go_grown : Below w17.heap.size w17 _).trans (hb18.mono (by go_size))
  have z18 : w17.heap.size ≤ w18.heap.size := hs18.size
  have HW18 := hide (HW17.out.trans (hs18.mono HW17.out.size))
  have HA_a1_18 := hide (HA_a1_17.out.all hs18)
  have HA_a2_18 := hide (HA_a2_17.out.all hs18)
  have HA_x1_18 := hide (HA_x1_17.out.all hs18)
  have HA_x2_18 := hide (HA_x2_17.out.all hs18)
  have HA_z1_18 := hide (HA_z1_17.out.all hs18)
  have HA_z2_18 := hide (HA_z2_17.out.all hs18)
  have HA_q1_18 := hide (HA_q1_17.out.all hs18)
  have HA_q2_18 := hide ha_r
  have hi_q2_18 : g18 < w18.heap.size := ha_r.lt
  clear HA_a1_17 HA_a2_17 HA_x1_17 HA_x2_17 HA_z1_17 HA_z2_17 HA_q1_17 ha_r hb18 hs18
  go_wp2_with fail
  refine (HIM.out _ _ _ _ _ (by first | exact (HT.out.below HW18.out) | exact Tab.below (HT.out.below HW18.out) (by go_grown)) (by first | exact Src.of_arr HA_q1_18.out | exact Src.of_arr (HA_q1_18.out.alloc _) | exact Src.of_arr ((HA_q1_18.out.alloc _).alloc _) | exact Src.of_arr HA_q1_18.out.drew) (by first | exact Src.of_arr HA_q2_18.out | exact Src.of_arr (HA_q2_18.out.alloc _) | exact Src.of_arr ((HA_q2_18.out.alloc _).alloc _) | exact Src.of_arr HA_q2_18.out.drew)).mono ?_
  rintro e w19 ⟨rfl, hb19⟩
  have hs19 : Below w18.heap.size w18 w19 := (by go_grown : Below w18.heap.size w18 _).trans (hb19.mono (by go_size))
  have z19 : w18.heap.size ≤ w19.heap.size := hs19.size
  have HW19 := hide (HW18.out.trans (hs19.mono HW18.out.size))
  have HA_a1_19 := hide (HA_a1_18.out.all hs19)
  have HA_a2_19 := hide (HA_a2_18.out.all hs19)
  have HA_x1_19 := hide (HA_x1_18.out.all hs19)
  have HA_x2_19 := hide (HA_x2_18.out.all hs19)
  have HA_z1_19 := hide (HA_z1_18.out.all hs19)
  have HA_z2_19 := hide (HA_z2_18.out.all hs19)
  have HA_q1_19 := hide (HA_q1_18.out.all hs19)
  have HA_q2_19 := hide (HA_q2_18.out.all hs19)
  clear HA_a1_18 HA_a2_18 HA_x1_18 HA_x2_18 HA_z1_18 HA_z2_18 HA_q1_18 HA_q2_18 hb19 hs19
  go_wp2_with fail
  refine (eqIntS_below _ _ _ _ _ (fun _ => 0) _ (by omega) Src.nil Src.nil).mono ?_
  rintro e w20 ⟨rfl, hb20⟩
  have hs20 : Below w19.heap.size w19 w20 := (by go_grown : Below w19.heap.size w19 _).trans (hb20.mono (by go_size))
  have z20 : w19.heap.size ≤ w20.heap.size := hs20.size
  have HW20 := hide (HW19.out.trans (hs20.mono HW19.out.size))
  have HA_a1_20 := hide (HA_a1_19.out.all hs20)
  have HA_a2_20 := hide (HA_a2_19.out.all hs20)
  have HA_x1_20 := hide (HA_x1_19.out.all hs20)
  have HA_x2_20 := hide (HA_x2_19.out.all hs20)
  have HA_z1_20 := hide (HA_z1_19.out.all hs20)
  have HA_z2_20 := hide (HA_z2_19.out.all hs20)
  have HA_q1_20 := hide (HA_q1_19.out.all hs20)
  have HA_q2_20 := hide (HA_q2_19.out.all hs20)
  clear HA_a1_19 HA_a2_19 HA_x1_19 HA_x2_19 HA_z1_19 HA_z2_19 HA_q1_19 HA_q2_19 hb20 hs20
  go_wp2_with fail
  refine (heldIntS_below _ 0 _ _ _ (by omega) (by omega) (by omega) Src.nil).mono ?_
  rintro e w21 ⟨rfl, hb21⟩
  have hs21 : Below w20.heap.size w20 w21 := (by go_grown : Below w20.heap.size w20 _).trans (hb21.mono (by go_size))
  have z21 : w20.heap.size ≤ w21.heap.size := hs21.size
  have HW21 := hide (HW20.out.trans (hs21.mono HW20.out.size))
  have HA_a1_21 := hide (HA_a1_20.out.all hs21)
  have HA_a2_21 := hide (HA_a2_20.out.all hs21)
  have HA_x1_21 := hide (HA_x1_20.out.all hs21)
  have HA_x2_21 := hide (HA_x2_20.out.all hs21)
  have HA_z1_21 := hide (HA_z1_20.out.all hs21)
  have HA_z2_21 := hide (HA_z2_20.out.all hs21)
  have HA_q1_21 := hide (HA_q1_20.out.all hs21)
  have HA_q2_21 := hide (HA_q2_20.out.all hs21)
  clear HA_a1_20 HA_a2_20 HA_x1_20 HA_x2_20 HA_z1_20 HA_z2_20 HA_q1_20 HA_q2_20 hb21 hs21
  go_wp2
  go_ret
  exact ⟨rfl, by have h := HW21.out; have hz := h.size; go_grown⟩
theorem lawCmp_big1 (A1 : Option Addr) (n1 c1 : Nat) (f1 : Nat → Int) (A2 : Option Addr) (n2 c2 : Nat) (f2 : Nat → Int) (w : World)  (hn1 : n1 ≤ 9223372036854775807) (hbig : 1048576 < n1) :
    Calls Tryd.prog 5 #[.slice A1 n1 c1, .slice A2 n2 c2] w fun e w' => e = .returned (.bool true) ∧ Below w.heap.size w w' := by
  have hbig' : (1048576 : Int) < n1 := by omega
  go_enter Tryd.func5, Tryd.ntmps5
  go_wp2
  go_ret
  exact ⟨rfl, by go_grown⟩
theorem lawCmp_big2 (A1 : Option Addr) (n1 c1 : Nat) (f1 : Nat → Int) (A2 : Option Addr) (n2 c2 : Nat) (f2 : Nat → Int) (w : World) (hm1 : n1 ≤ 1048576) (hn2 : n2 ≤ 9223372036854775807) (hbig : 1048576 < n2) :
    Calls Tryd.prog 5 #[.slice A1 n1 c1, .slice A2 n2 c2] w fun e w' => e = .returned (.bool true) ∧ Below w.heap.size w w' := by
  have hbig' : (1048576 : Int) < n2 := by omega
  go_enter Tryd.func5, Tryd.ntmps5
  go_wp2
  go_ret
  exact ⟨rfl, by go_grown⟩
theorem lawComposeMaps (A1 : Option Addr) (n1 c1 : Nat) (f1 : Nat → Int) (A2 : Option Addr) (n2 c2 : Nat) (f2 : Nat → Int) (w : World) (hn1 : n1 ≤ 9223372036854775807) (hn2 : n2 ≤ 9223372036854775807) (hs1 : Src w A1 n1 (iv f1)) (hs2 : Src w A2 n2 (iv f2)) (hT : Tab w) :
    Calls Tryd.prog 5 #[.slice A1 n1 c1, .slice A2 n2 c2] w fun e w' => e = .returned (.bool true) ∧ Below w.heap.size w w' := by
  by_cases b1 : 1048576 < n1
  · exact lawCmp_big1 A1 n1 c1 f1 A2 n2 c2 f2 w hn1 b1
  by_cases b2 : 1048576 < n2
  · exact lawCmp_big2 A1 n1 c1 f1 A2 n2 c2 f2 w (by omega) hn2 b2
  cases hk : mapsB n1 n2 f1 f2
  · exact lawCmp_no A1 n1 c1 f1 A2 n2 c2 f2 w (by omega) (by omega) (hide fun A1 c1 A2 c2 w h1 h2 => cmpSpec_no A1 A2 n1 n2 c1 c2 f1 f2 w (by omega) (by omega) h1 h2 hk) (hide fun A1 c1 A2 c2 w _ h1 h2 => cmpImpl_no A1 A2 n1 n2 c1 c2 f1 f2 w (by omega) (by omega) h1 h2 hk) (hide hs1) (hide hs2) (hide hT)
  · simp only [mapsB, Bool.and_eq_true, decide_eq_true_eq] at hk
    obtain ⟨k1, k2, rfl⟩ := hk
    obtain ⟨h1, h16, F, eF, hF⟩ := mapB_nat k1
    obtain ⟨_, _, G, eG, hG⟩ := mapB_nat k2
    exact lawCmp_arr A1 n1 c1 f1 A2 n1 c2 f2 n1 _ (by omega) w (by omega) (by omega) (hide fun A1 c1 A2 c2 w h1' h2' => cmpSpec_ok A1 A2 n1 c1 c2 F G w h1 h16 hF hG (h1'.nat eF) (h2'.nat eG)) (hide fun A1 c1 A2 c2 w ht h1' h2' => cmpImpl_ok A1 A2 n1 c1 c2 F G w h1 h16 hF hG ht (h1'.nat eF) (h2'.nat eG)) (hide hs1) (hide hs2) (hide hT)
end Go.Proofs.YtdpoceijnbbmgaaDoor
