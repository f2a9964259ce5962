/-
impl.NullityOf: the number of sets in the quiet basis of a graph.
-/
import Derived.Test.YtibikoajejfdeaaTG8
import Derived.Test.YtibikoajejfdeaaWB
namespace Go.Proofs.Ytibikoajejfdeaa
open Go.RowKit
set_option maxHeartbeats 1000000
theorem quietBasis_any (g n c : Nat) (F : Nat → Nat) (own : Bool) (w : World) (hn : n ≤ 16) (hG : goodB n (nv F) = true) (h2 : ∀ k, k < n → F k < 2 ^ n) (ha : Arr w 3 g n (iv (nv F))) :
    Calls Try.prog 20 #[.agg #[.slice (some ⟨g, 0, none⟩) n c, .bool own]] w fun e w' => (∃ A d, e = .returned (.tuple #[.slice A (qS (tog F own) n n).1.length d, .bool true])) ∧ Below w.heap.size w w' := by
  have hpn : (2 : Nat) ^ n ≤ 65536 := Nat.pow_le_pow_right (n := 2) (j := 16) (by decide) hn
  have HA := hide ha
  have HG := hide hG
  have h16 : ∀ k, k < n → F k < 65536 := fun k hk => Nat.lt_of_lt_of_le (h2 k hk) hpn
  have H16 := hide h16
  have HT : Hid (∀ k, k < n → tog F own k < 2 ^ n) := hide fun k hk => tog_lt2 hk (h2 k hk)
  clear ha hG h16 h2
  go_enter Try.func20, Try.ntmps20
  go_wp2_with fail
  refine (isGraph_any _ _ _ (nv F) _ _ (by omega) (HA.out.alloc _)).mono ?_
  rintro e w1 ⟨rfl, hb1⟩
  rw [HG.out]
  have HA1 := hide ((HA.out.alloc (.cells #[.slice (some ⟨g, 0, none⟩) n c, .bool own] 29)).all hb1)
  have HX := hide ((Arr.box w 29 (.slice (some ⟨g, 0, none⟩) n c) (.bool own)).all hb1)
  have HB1 := hide ((by go_grown : Below w.heap.size w _).trans (hb1.mono (by simp)))
  have x0 : w1.cell? ⟨w.heap.size, 0, none⟩ = some (.slice (some ⟨g, 0, none⟩) n c) := HX.out.cell (by omega)
  have x1 : w1.cell? ⟨w.heap.size, 1, none⟩ = some (.bool own) := HX.out.cell (by omega)
  clear hb1
  go_wp2_with fail
  refine (allToggles_any _ _ _ F own _ hn H16.out HA1.out).mono ?_
  rintro e w2 ⟨g2, c2, rfl, lo2, ha2, hb2⟩
  have HA2 := hide ha2
  have HB2 := hide (HB1.out.trans (hb2.mono HB1.out.size))
  clear ha2 hb2
  go_wp2_with fail
  refine (quietAndImage_any _ _ _ (tog F own) _ hn HT.out HA2.out).mono ?_
  rintro e w3 ⟨A1, A2, n1, n2, c1, c2, rfl, hq, hi, _, _, hb3⟩
  have HB3 := hide (HB2.out.trans (hb3.mono HB2.out.size))
  clear hb3
  go_wp2
  go_ret2
  exact ⟨⟨A1, c1, by rw [hq]; rfl⟩, HB3.out⟩
theorem nullityOf_any (g n c : Nat) (F : Nat → Nat) (own : Bool) (w : World) (hn : n ≤ 16) (hG : goodB n (nv F) = true) (h2 : ∀ k, k < n → F k < 2 ^ n) (ha : Arr w 3 g n (iv (nv F))) :
    Calls Try.prog 12 #[.agg #[.slice (some ⟨g, 0, none⟩) n c, .bool own]] w fun e w' => e = .returned (.tuple #[.int .i64 ((qS (tog F own) n n).1.length : Nat), .bool true]) ∧ Below w.heap.size w w' := by
  have HA := hide ha
  have HG := hide hG
  have H2 := hide h2
  clear ha hG h2
  go_enter Try.func12, Try.ntmps12
  go_wp2_with fail
  refine (quietBasis_any _ _ _ F own _ hn HG.out H2.out (HA.out.alloc _)).mono ?_
  rintro e w1 ⟨⟨A, d, rfl⟩, hb1⟩
  have HB1 := hide ((by go_grown : Below w.heap.size w _).trans (hb1.mono (by simp)))
  clear hb1
  go_wp2
  go_ret2
  exact ⟨rfl, HB1.out⟩
end Go.Proofs.Ytibikoajejfdeaa
