/-
AddMaps: both sides.
-/
import Derived.Test.YtdpoceijnbbmgaaDoorMD
import Derived.Test.YtdpoceijnbbmgaaDoorAL
import Derived.Test.YtdpoceijnbbmgaaDoorZa
namespace Go.Proofs.YtdpoceijnbbmgaaDoor
open Go.RowKit
set_option maxHeartbeats 2000000
theorem own_empty (w : World) (e : TypeId) : (w.alloc (.cells #[] e)).ownsRow w.heap.size e 1 (.slice (some ⟨w.heap.size, 0, none⟩) 0 0) 0 [] :=
  World.ownsRow_made w #[] 0 (Nat.le_refl _) (by simp [maxLen]) rfl
/-- What a call that hands back a new slice leaves. -/
def NewArr (w : World) (n : Nat) (f : Nat → Int) (e : Ending) (w' : World) : Prop :=
  ∃ g c, e = .returned (.slice (some ⟨g, 0, none⟩) n c) ∧ w.heap.size ≤ g ∧ Arr w' 3 g n (iv f) ∧ Below w.heap.size w w'
theorem l1Own_any (A : Option Addr) (n c : Nat) (f : Nat → Int) (w : World) (h1 : 0 < n) (hn : n ≤ 1048576) (hs : Src w A n (iv f)) : Calls Tryd.prog 99 #[.slice A n c] w (NewArr w n f) := by
  obtain ⟨i0, hi, hz0, hz1, hz2⟩ := info_parts int_info
  have HS := hide hs
  clear hs
  go_enter Tryd.func99, Tryd.ntmps99
  go_wp2_with (at_builtin; refine wpList_append_new rfl (.tmp 3) (.tmp 4) 22 rfl w.heap.size 3 i0 (.int .i64 0) 8 Tryd.underlying22 hi hz0 hz1 hz2 rfl (.slice (some ⟨w.heap.size, 0, none⟩) 0 0) rfl (own_empty w 3) A n c (iv f) rfl h1 (HS.out.alloc _) (fun _ _ => rfl) (by omega) (by omega) (by simp) ?_; intro g c' w1 hg ha hgr)
  go_ret
  refine ⟨g, c', rfl, hg, ha, ?_⟩
  exact (by go_grown : Below w.heap.size w _).grown hgr (by simp) (fun k hk => by injection hk with hk; exact Nat.le_of_eq hk)
theorem prAdd_any (A1 A2 : Option Addr) (n c1 c2 : Nat) (F G : Nat → Nat) (w : World) (h1 : 0 < n) (hn : n ≤ 65536) (hs1 : Src w A1 n (iv (nv F))) (hs2 : Src w A2 n (iv (nv G))) (hF : ∀ i, i < n → F i < 4611686018427387904) (hG : ∀ i, i < n → G i < 4611686018427387904) :
    Calls Tryd.prog 91 #[.slice A1 n c1, .slice A2 n c2] w (NewArr w n (nv fun i => F i ^^^ G i)) := by
  have HS1 := hide hs1
  have HS2 := hide hs2
  have HF := hide hF
  have HG := hide hG
  clear hs1 hs2 hF hG
  go_enter Tryd.func91, Tryd.ntmps91
  go_wp2_with fail
  refine (l1Own_any _ _ _ _ _ h1 (by omega) HS1.out).mono ?_
  rintro e w1 ⟨g, c, rfl, hg, ha1, hb1⟩
  have HA1 := hide ha1
  have HB1 := hide hb1
  have HS2b := hide (HS2.out.below hb1)
  clear ha1 hb1
  go_wp2
  go_loopw [11] (fun i wr => ∃ k : Nat, k ≤ n ∧ i = .int .i64 k ∧ Arr wr 3 g n (fun j => if j < k then .int .i64 (F j ^^^ G j : Nat) else .int .i64 (F j : Nat)) ∧ Below w.heap.size w wr) (fun i _ => n - (intOf i).toNat)
  case atStart => exact ⟨0, Nat.zero_le _, rfl, HA1.out.congr (fun k hk => by simp [iv, nv]), HB1.out⟩
  case round =>
    obtain ⟨k, hk, rfl, ha, hb⟩ := hrel
    have HA := hide ha
    have HB := hide hb
    have hal := ha.lt
    by_cases hlt : k < n
    · obtain ⟨b, off, hA, hbl, hc0⟩ := HS2.out k hlt
      have hc : wr.cell? ⟨b, off + k, none⟩ = some (.int .i64 (G k : Nat)) := (hb.cell (p := ⟨b, off + k, none⟩) hbl).trans hc0
      have hw : wr.cell? ⟨g, k, none⟩ = some (.int .i64 (F k : Nat)) := by have := ha.cell hlt; simpa using this
      have hz := ha.frozen k
      have hf := HF.out k hlt
      have hgg := HG.out k hlt
      have e1 := i64_xor_nat (F k) (G k) (by omega) (by omega)
      obtain ⟨x, hx⟩ : ∃ x, F k = x := ⟨_, rfl⟩
      obtain ⟨y, hy⟩ : ∃ y, G k = y := ⟨_, rfl⟩
      have HX := hide hx
      have HY := hide hy
      rw [hx] at hw e1
      rw [hy] at hc e1
      have hki : (k : Int) < n := by omega
      clear ha hb hc0 hx hy hf hgg
      subst hA
      go_wp2_with fail
      go_region
      all_goals
        go_wp2
        go_roundw
        case rel =>
          refine ⟨k + 1, by omega, by go_num, (Arr.drewN (HA.out.set k _) _).congr (fun j hj => ?_), ?_⟩
          · by_cases hjk : j = k
            · subst hjk; simp [HX.out, HY.out]
            · simp only [hjk, if_false]
              by_cases h2 : j < k
              · rw [if_pos h2, if_pos (by omega)]
              · rw [if_neg h2, if_neg (by omega)]
          · exact (below_drewN (HB.out.setCell hg _) _)
        case measure => simp [intOf]; omega
    · have hkn : k = n := by omega
      subst hkn
      clear ha hb
      go_wp2
      go_ret
      exact ⟨g, c, rfl, hg, HA.out.congr (fun j hj => by simp [hj, iv, nv]), HB.out⟩
/-- Maps of as many sets. -/
def mapsB (n m : Nat) (f h : Nat → Int) : Bool := mapB n f && (mapB m h && decide (n = m))
theorem mapsSame_any (A1 A2 : Option Addr) (n m c1 c2 : Nat) (f h : Nat → Int) (w : World) (hn : n ≤ 1048576) (hm : m ≤ 1048576) (hs1 : Src w A1 n (iv f)) (hs2 : Src w A2 m (iv h)) :
    Calls Tryd.prog 53 #[.slice A1 n c1, .slice A2 m c2] w fun e w' => e = .returned (.bool (mapsB n m f h)) ∧ Below w.heap.size w w' := by
  have HS1 := hide hs1
  have HS2 := hide hs2
  clear hs1 hs2
  cases h1 : mapB n f
  · have HR : Hid (mapsB n m f h = false) := hide (by rw [mapsB, h1]; rfl)
    have H1 := hide h1
    rw [HR.out]
    clear h1
    go_enter Tryd.func53, Tryd.ntmps53
    go_wp2_with fail
    refine (isMap_any _ _ _ f _ hn HS1.out).mono ?_
    rintro e w1 ⟨rfl, hb1⟩
    rw [H1.out]
    go_wp2
    go_ret
    exact ⟨rfl, hb1⟩
  · cases h2 : mapB m h
    · have HR : Hid (mapsB n m f h = false) := hide (by rw [mapsB, h1, h2]; rfl)
      have H1 := hide h1
      have H2 := hide h2
      rw [HR.out]
      clear h1 h2
      go_enter Tryd.func53, Tryd.ntmps53
      go_wp2_with fail
      refine (isMap_any _ _ _ f _ hn HS1.out).mono ?_
      rintro e w1 ⟨rfl, hb1⟩
      rw [H1.out]
      go_wp2_with fail
      refine (isMap_any _ _ _ h _ hm (HS2.out.below hb1)).mono ?_
      rintro e w2 ⟨rfl, hb2⟩
      rw [H2.out]
      go_wp2
      go_ret
      exact ⟨rfl, hb1.trans (hb2.mono hb1.size)⟩
    · have H1 := hide h1
      have H2 := hide h2
      by_cases he : n = m
      · have HR : Hid (mapsB n m f h = true) := hide (by rw [mapsB, h1, h2]; simp [he])
        rw [HR.out]
        have e1 : ((n : Int) == (m : Int)) = true := by simp [he]
        clear h1 h2 he
        go_enter Tryd.func53, Tryd.ntmps53
        go_wp2_with fail
        refine (isMap_any _ _ _ f _ hn HS1.out).mono ?_
        rintro e w1 ⟨rfl, hb1⟩
        rw [H1.out]
        go_wp2_with fail
        refine (isMap_any _ _ _ h _ hm (HS2.out.below hb1)).mono ?_
        rintro e w2 ⟨rfl, hb2⟩
        rw [H2.out]
        go_wp2
        go_ret
        exact ⟨rfl, hb1.trans (hb2.mono hb1.size)⟩
      · have HR : Hid (mapsB n m f h = false) := hide (by rw [mapsB, h1, h2]; simp [he])
        rw [HR.out]
        have e1 : ((n : Int) == (m : Int)) = false := by simp; omega
        clear h1 h2 he
        go_enter Tryd.func53, Tryd.ntmps53
        go_wp2_with fail
        refine (isMap_any _ _ _ f _ hn HS1.out).mono ?_
        rintro e w1 ⟨rfl, hb1⟩
        rw [H1.out]
        go_wp2_with fail
        refine (isMap_any _ _ _ h _ hm (HS2.out.below hb1)).mono ?_
        rintro e w2 ⟨rfl, hb2⟩
        rw [H2.out]
        go_wp2
        go_ret
        exact ⟨rfl, hb1.trans (hb2.mono hb1.size)⟩
end Go.Proofs.YtdpoceijnbbmgaaDoor
