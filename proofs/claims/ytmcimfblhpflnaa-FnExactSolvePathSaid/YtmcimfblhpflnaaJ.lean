import Derived.Test.YtmcimfblhpflnaaK
import Derived.RegionTactic
import Derived.ChangeAlike
namespace Go.Proofs.Ytmcimfblhpflnaa
open Go.RowKit
set_option maxHeartbeats 400000
theorem link_any (g n c : Nat) (F : Nat → Nat) (i j : Nat) (w : World) (hn : n ≤ 16) (hi : i < n) (hj : j < n) (hF : ∀ k, k < n → F k < 65536) (ha : Arr w 3 g n (iv (nv F))) :
    Calls Try.prog 31 #[.slice (some ⟨g, 0, none⟩) n c, .int .i64 i, .int .i64 j] w fun e w' => e = .returned (.tuple #[]) ∧ Arr w' 3 g n (iv (nv (lk i j F))) ∧ w.grownBy w' (some g) := by
  have hFi := hF i hi
  have hFj := hF j hj
  have h1 : w.cell? ⟨g, i, none⟩ = some (.int .i64 (F i : Nat)) := ha.cell hi
  have hz1 := ha.frozen i
  have hz2 := ha.frozen j
  have e1 := or_wrap (F i) j hFi (by omega)
  by_cases hij : j = i
  · subst hij
    have e2 := or_wrap (F j ||| 2 ^ j) j (or_lt16 hFi (pow_lt16 (by omega))) (by omega)
    have ha1 : Arr (w.setCell ⟨g, j, none⟩ (.int .i64 (F j ||| 2 ^ j : Nat))).drew 3 g n _ := (ha.set j _).drew
    have ha2 : Arr ((w.setCell ⟨g, j, none⟩ (.int .i64 (F j ||| 2 ^ j : Nat))).setCell ⟨g, j, none⟩ (.int .i64 (F j ||| 2 ^ j ||| 2 ^ j : Nat))).drew 3 g n _ := ((ha.set j _).set j _).drew
    have h3 : (w.setCell ⟨g, j, none⟩ (.int .i64 (F j ||| 2 ^ j : Nat))).drew.cell? ⟨g, j, none⟩ = some (.int .i64 (F j ||| 2 ^ j : Nat)) := by
      have := ha1.cell hj
      simpa using this
    have HA2 := hide ha2
    clear ha ha1 ha2 hF
    go_enter Try.func31, Try.ntmps31
    go_wp2
    go_region
    go_wp2
    go_region
    go_end0
    refine ⟨rfl, HA2.out.congr (fun k hk => ?_), ?_⟩
    · by_cases hkj : k = j
      · simp [hkj, iv, nv, lk]
      · simp [hkj, iv, nv, lk]
    · exact grownBy_drewN (grownBy_setCell (grownBy_setCell (World.grownBy.refl _ _) _) _) 2
  · have e2 := or_wrap (F j) i hFj (by omega)
    have ha1 : Arr (w.setCell ⟨g, i, none⟩ (.int .i64 (F i ||| 2 ^ j : Nat))).drew 3 g n _ := (ha.set i _).drew
    have ha2 : Arr ((w.setCell ⟨g, i, none⟩ (.int .i64 (F i ||| 2 ^ j : Nat))).setCell ⟨g, j, none⟩ (.int .i64 (F j ||| 2 ^ i : Nat))).drew 3 g n _ := ((ha.set i _).set j _).drew
    have h3 : (w.setCell ⟨g, i, none⟩ (.int .i64 (F i ||| 2 ^ j : Nat))).drew.cell? ⟨g, j, none⟩ = some (.int .i64 (F j : Nat)) := by
      have := ha1.cell hj
      simpa [hij, iv, nv] using this
    have HA2 := hide ha2
    clear ha ha1 ha2 hF
    go_enter Try.func31, Try.ntmps31
    go_wp2
    go_region
    go_wp2
    go_region
    go_end0
    refine ⟨rfl, HA2.out.congr (fun k hk => ?_), ?_⟩
    · by_cases hkj : k = j
      · subst hkj
        simp [iv, nv, lk, hij]
      · by_cases hki : k = i
        · subst hki
          simp [iv, nv, lk, hkj]
        · simp [iv, nv, lk, hkj, hki]
    · exact grownBy_drewN (grownBy_setCell (grownBy_setCell (World.grownBy.refl _ _) _) _) 2
theorem grAdd_any (g n c : Nat) (own : Bool) (F : Nat → Nat) (i j : Nat) (w : World) (hn : n ≤ 16) (hi : i < n) (hj : j < n) (hF : ∀ k, k < n → F k < 65536) (ha : Arr w 3 g n (iv (nv F))) :
    Calls Try.prog 29 #[.agg #[.slice (some ⟨g, 0, none⟩) n c, .bool own], .int .i64 i, .int .i64 j] w fun e w' => e = .returned (.tuple #[]) ∧ Arr w' 3 g n (iv (nv (lk i j F))) ∧ w.grownBy w' (some g) := by
  have hgl := ha.lt
  have hFi := hF i hi
  have hFj := hF j hj
  have h1 : w.cell? ⟨g, i, none⟩ = some (.int .i64 (F i : Nat)) := ha.cell hi
  have hz1 := ha.frozen i
  have hz2 := ha.frozen j
  have e1 := or_wrap (F i) j hFi (by omega)
  by_cases hij : j = i
  · subst hij
    have e2 := or_wrap (F j ||| 2 ^ j) j (or_lt16 hFi (pow_lt16 (by omega))) (by omega)
    have ha1 : Arr (w.setCell ⟨g, j, none⟩ (.int .i64 (F j ||| 2 ^ j : Nat))) 3 g n _ := (ha.set j _)
    have ha2 : Arr ((w.setCell ⟨g, j, none⟩ (.int .i64 (F j ||| 2 ^ j : Nat))).setCell ⟨g, j, none⟩ (.int .i64 (F j ||| 2 ^ j ||| 2 ^ j : Nat))) 3 g n _ := ((ha.set j _).set j _)
    have h3 : (w.setCell ⟨g, j, none⟩ (.int .i64 (F j ||| 2 ^ j : Nat))).cell? ⟨g, j, none⟩ = some (.int .i64 (F j ||| 2 ^ j : Nat)) := by
      have := ha1.cell hj
      simpa using this
    have HA2 := hide ha2
    clear ha ha1 ha2 hF
    go_enter Try.func29, Try.ntmps29
    go_wp2
    go_region
    go_wp2
    go_region
    go_end0
    refine ⟨rfl, ((HA2.out.alloc _).drewN 2).congr (fun k hk => ?_), ?_⟩
    · by_cases hkj : k = j
      · simp [hkj, iv, nv, lk]
      · simp [hkj, iv, nv, lk]
    · exact grownBy_drewN (grownBy_trans (grownBy_setCell (grownBy_setCell (World.grownBy.refl _ _) _) _) (World.grownBy_alloc _ _ _)) 2
  · have e2 := or_wrap (F j) i hFj (by omega)
    have ha1 : Arr (w.setCell ⟨g, i, none⟩ (.int .i64 (F i ||| 2 ^ j : Nat))) 3 g n _ := (ha.set i _)
    have ha2 : Arr ((w.setCell ⟨g, i, none⟩ (.int .i64 (F i ||| 2 ^ j : Nat))).setCell ⟨g, j, none⟩ (.int .i64 (F j ||| 2 ^ i : Nat))) 3 g n _ := ((ha.set i _).set j _)
    have h3 : (w.setCell ⟨g, i, none⟩ (.int .i64 (F i ||| 2 ^ j : Nat))).cell? ⟨g, j, none⟩ = some (.int .i64 (F j : Nat)) := by
      have := ha1.cell hj
      simpa [hij, iv, nv] using this
    have HA2 := hide ha2
    clear ha ha1 ha2 hF
    go_enter Try.func29, Try.ntmps29
    go_wp2
    go_region
    go_wp2
    go_region
    go_end0
    refine ⟨rfl, ((HA2.out.alloc _).drewN 2).congr (fun k hk => ?_), ?_⟩
    · by_cases hkj : k = j
      · subst hkj
        simp [iv, nv, lk, hij]
      · by_cases hki : k = i
        · subst hki
          simp [iv, nv, lk, hkj]
        · simp [iv, nv, lk, hkj, hki]
    · exact grownBy_drewN (grownBy_trans (grownBy_setCell (grownBy_setCell (World.grownBy.refl _ _) _) _) (World.grownBy_alloc _ _ _)) 2
theorem link_at (g n c : Nat) (F : Nat → Nat) (i j : Nat) (a b : Int) (w : World) (hn : n ≤ 16) (hi : i < n) (hj : j < n) (ea : a = (i : Int)) (eb : b = (j : Int)) (hF : ∀ k, k < n → F k < 65536) (ha : Arr w 3 g n (iv (nv F))) :
    Calls Try.prog 31 #[.slice (some ⟨g, 0, none⟩) n c, .int .i64 a, .int .i64 b] w fun e w' => e = .returned (.tuple #[]) ∧ Arr w' 3 g n (iv (nv (lk i j F))) ∧ w.grownBy w' (some g) := by
  subst ea eb; exact link_any g n c F i j w hn hi hj hF ha
theorem grAdd_at (g n c : Nat) (own : Bool) (F : Nat → Nat) (i j : Nat) (a b : Int) (w : World) (hn : n ≤ 16) (hi : i < n) (hj : j < n) (ea : a = (i : Int)) (eb : b = (j : Int)) (hF : ∀ k, k < n → F k < 65536) (ha : Arr w 3 g n (iv (nv F))) :
    Calls Try.prog 29 #[.agg #[.slice (some ⟨g, 0, none⟩) n c, .bool own], .int .i64 a, .int .i64 b] w fun e w' => e = .returned (.tuple #[]) ∧ Arr w' 3 g n (iv (nv (lk i j F))) ∧ w.grownBy w' (some g) := by
  subst ea eb; exact grAdd_any g n c own F i j w hn hi hj hF ha
end Go.Proofs.Ytmcimfblhpflnaa
