import Derived.Test.YtmcimfblhpflnaaDoorWF
import Derived.Deep.RegionHeld3
namespace Go.Proofs.YtmcimfblhpflnaaDoor
open Go.RowKit
set_option maxHeartbeats 2000000
theorem oddB_any (g n c : Nat) (F : Nat → Nat) (own : Bool) (w : World) (hn : n ≤ 16) (hF : ∀ k, k < n → F k < 65536) (ha : Arr w 3 g n (iv (nv F))) :
    Calls Tryd.prog 93 #[.agg #[.slice (some ⟨g, 0, none⟩) n c, .bool own]] w fun e w' => e = .returned (.int .i64 (oddN F n : Nat)) ∧ Below w.heap.size w w' :=
  (odd_any g n c F own w hn hF ha).mono fun _ _ ⟨h1, h2⟩ => ⟨h1, h2 ▸ (Below.refl _ _).alloc (Nat.le_refl _) _⟩
theorem evenN_lt (F : Nat → Nat) (n : Nat) (hn : n ≤ 16) : evenN F n < 2 ^ n := Nat.xor_lt_two_pow (oddN_lt F n hn) (by have := Nat.two_pow_pos n; omega)
theorem cEv_no (g n c : Nat) (f : Nat → Int) (own : Bool) (w : World) (hn : n ≤ 1048576) (hgd : goodB n f = false) (ha : Arr w 3 g n (iv f)) :
    Calls Tryd.prog 70 #[.agg #[.slice (some ⟨g, 0, none⟩) n c, .bool own]] w (Two w (.int .i64 0) false) := by
  have HA := hide (ha.alloc (.cells #[.slice (some ⟨g, 0, none⟩) n c, .bool own] 28))
  have HG := hide hgd
  have KK : Hid ((w.alloc (.cells #[.slice (some ⟨g, 0, none⟩) n c, .bool own] 28)).drew.cell? ⟨w.heap.size, 0, none⟩ = some (.slice (some ⟨g, 0, none⟩) n c) ∧ (w.alloc (.cells #[.slice (some ⟨g, 0, none⟩) n c, .bool own] 28)).drew.cell? ⟨w.heap.size, 1, none⟩ = some (.bool own)) := hide ⟨by simp [go_sem], by simp [go_sem]⟩
  clear ha hgd
  go_enter Tryd.func70, Tryd.ntmps70
  go_wp2
  go_region_held3 (fun w' => w'.cell? ⟨w.heap.size, 0, none⟩ = some (.slice (some ⟨g, 0, none⟩) n c) ∧ w'.cell? ⟨w.heap.size, 1, none⟩ = some (.bool own)) (first | exact KK.out | exact two_below (by assumption) KK.out | exact two_below (by assumption) (two_below (by assumption) KK.out)) (first | (go_at_call 93; refine (oddFree _ _ _ f own _ hn (by exact HA.out.drew)).mono ?_; rintro e w3 ⟨v, rfl, hb3⟩; have HA3 := hide (HA.out.drew.all hb3)) | (go_at_call 92; refine (countSplits_no _ _ _ f own _ _ hn HG.out (by exact HA3.out)).mono ?_; rintro e w4 ⟨rfl, hb4⟩))
  have HB := hide (((by go_grown : Below w.heap.size w (w.alloc (.cells #[.slice (some ⟨g, 0, none⟩) n c, .bool own] 28)).drew)).trans ((hb3.trans (hb4.mono hb3.size)).mono (by simp)))
  clear hb3 hb4 KK
  go_wp2
  go_ret2
  exact ⟨rfl, HB.out⟩
theorem cEv_ok (g n c : Nat) (F : Nat → Nat) (own : Bool) (w : World) (hn : n ≤ 16) (hF : ∀ j, j < n → F j < 2 ^ n) (hgd : goodB n (nv F) = true) (ha : Arr w 3 g n (iv (nv F))) :
    Calls Tryd.prog 70 #[.agg #[.slice (some ⟨g, 0, none⟩) n c, .bool own]] w (Two w (.int .i64 (2 ^ (qS (spT F (oddN F n)) n n).1.length : Nat)) (true)) := by
  have HA := hide (ha.alloc (.cells #[.slice (some ⟨g, 0, none⟩) n c, .bool own] 28))
  have HG := hide hgd
  have HF16 := hide (goodB_F hn hF)
  have HF := hide hF
  have hd := oddN_lt F n hn
  obtain ⟨d, hd0⟩ : ∃ d, oddN F n = d := ⟨_, rfl⟩
  rw [hd0] at hd ⊢
  have HD := hide hd0
  have KK : Hid ((w.alloc (.cells #[.slice (some ⟨g, 0, none⟩) n c, .bool own] 28)).drew.cell? ⟨w.heap.size, 0, none⟩ = some (.slice (some ⟨g, 0, none⟩) n c) ∧ (w.alloc (.cells #[.slice (some ⟨g, 0, none⟩) n c, .bool own] 28)).drew.cell? ⟨w.heap.size, 1, none⟩ = some (.bool own)) := hide ⟨by simp [go_sem], by simp [go_sem]⟩
  clear ha hgd hF hd0
  go_enter Tryd.func70, Tryd.ntmps70
  go_wp2
  go_region_held3 (fun w' => w'.cell? ⟨w.heap.size, 0, none⟩ = some (.slice (some ⟨g, 0, none⟩) n c) ∧ w'.cell? ⟨w.heap.size, 1, none⟩ = some (.bool own)) (first | exact KK.out | exact two_below (by assumption) KK.out | exact two_below (by assumption) (two_below (by assumption) KK.out)) (first | (go_at_call 93; refine (oddB_any _ _ _ F own _ hn HF16.out (by exact HA.out.drew)).mono ?_; rintro e w3 ⟨rfl, hb3⟩; have HA3 := hide (HA.out.drew.all hb3); simp only [HD.out]) | (go_at_call 92; refine (countSplits_ok _ _ _ F own _ _ hn HF.out hd HG.out (by exact HA3.out)).mono ?_; rintro e w4 ⟨rfl, hb4⟩))
  have HB := hide (((by go_grown : Below w.heap.size w (w.alloc (.cells #[.slice (some ⟨g, 0, none⟩) n c, .bool own] 28)).drew)).trans ((hb3.trans (hb4.mono hb3.size)).mono (by simp)))
  clear hb3 hb4 KK
  go_wp2
  go_ret2
  exact ⟨rfl, HB.out⟩
end Go.Proofs.YtmcimfblhpflnaaDoor
