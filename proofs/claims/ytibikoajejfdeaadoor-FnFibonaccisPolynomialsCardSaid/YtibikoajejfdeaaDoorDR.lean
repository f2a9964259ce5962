/-
What the model draws from bytes: a number below a bound, and the cursor one further.
-/
import Derived.Test.YtibikoajejfdeaaDoorC
import Derived.Test.YtibikoajejfdeaaDoorH
import Derived.Test.YtibikoajejfdeaaDoorK
import Derived.Test.YtibikoajejfdeaaDoorBD
namespace Go.Proofs.YtibikoajejfdeaaDoor
open Go.RowKit
set_option maxHeartbeats 1000000
/-- The contents of a slice of bytes. -/
def uv (f : Nat → Int) : Nat → Value := fun k => .int .u8 (f k)
theorem and255 (x : Int) : ∃ v : Nat, v < 256 ∧ RowKit.wrap64 (bits .and .u64 x 255) = (v : Int) := by
  have h : (BitVec.ofInt 64 x &&& BitVec.ofInt 64 255).toNat < 256 := by
    rw [BitVec.toNat_and]
    exact Nat.lt_of_le_of_lt Nat.and_le_right (by decide)
  refine ⟨_, h, ?_⟩
  show RowKit.wrap64 (IntKind.u64.wrap ((BitVec.ofInt 64 x &&& BitVec.ofInt 64 255).toNat : Int)) = _
  generalize (BitVec.ofInt 64 x &&& BitVec.ofInt 64 255).toNat = y at h
  have e : IntKind.u64.wrap (y : Int) = (y : Int) := by rw [IntKind.wrap_u64]; omega
  rw [e]
  exact IntWalk.wrap64_in _ (by omega)
/-- The cursor: the bytes, the place and the seed. -/
def Cur (w : World) (B : Nat) (A : Option Addr) (n c p : Nat) : Prop := ∃ s : Int, Blk w 34 B #[.slice A n c, .int .i64 (p : Nat), .int .u64 s]
theorem next_any (B n c p : Nat) (A : Option Addr) (f : Nat → Int) (w : World) (hp : p ≤ 1000) (hn : n ≤ 1048576) (hc : Cur w B A n c p) (hs : Src w A n (uv f)) (hf : ∀ k, k < n → 0 ≤ f k ∧ f k < 256) :
    Calls Tryd.prog 34 #[.pointer (some ⟨B, 0, none⟩)] w fun e w' => (∃ v : Nat, v < 256 ∧ e = .returned (.int .i64 v)) ∧ Cur w' B A n c (p + 1) ∧ w.grownBy w' (some B) := by
  obtain ⟨s, hb⟩ := hc
  have c0 := hb.cell 0
  have c1 := hb.cell 1
  have c2 := hb.cell 2
  have z1 := hb.frozen 1
  have z2 := hb.frozen 2
  have HB := hide hb
  simp at c0 c1 c2
  clear hb
  by_cases hlt : p < n
  · obtain ⟨b, off, rfl, hbl, hc0⟩ := hs p hlt
    have hcp : w.cell? ⟨b, off + p, none⟩ = some (.int .u8 (f p)) := hc0
    obtain ⟨hf0, hf1⟩ := hf p hlt
    have hw : IntKind.i64.wrap (f p) = f p := IntWalk.i64_in _ (by omega)
    have hle : p + 1 ≤ n := hlt
    clear hs hf hc0
    go_enter Tryd.func34, Tryd.ntmps34
    go_wp2
    go_region
    all_goals go_wp2
    all_goals go_region
    all_goals go_wp2
    all_goals go_region
    all_goals go_wp2
    all_goals
      go_ret
      obtain ⟨v, hv⟩ : ∃ v : Nat, f p = v := ⟨(f p).toNat, by omega⟩
      exact ⟨⟨v, by omega, by rw [hv]; rfl⟩, ⟨_, (((HB.out.set 1 _).set 2 _).drewN 3)⟩, grownBy_drewN (grownBy_setCell (grownBy_setCell (World.grownBy.refl _ _) _) _) 3⟩
  · have hle : ¬ p + 1 ≤ n := by omega
    clear hs hf
    go_enter Tryd.func34, Tryd.ntmps34
    go_wp2
    go_region
    all_goals go_wp2
    all_goals go_region
    all_goals go_wp2
    all_goals
      go_ret
      obtain ⟨v, hv1, hv2⟩ := and255 (IntKind.u64.wrap (IntKind.u64.wrap (IntKind.u64.wrap (s * 6364136223846793005)) + 1442695040888963407) / 1099511627776)
      exact ⟨⟨v, hv1, by rw [← hv2]; rfl⟩, ⟨_, (((HB.out.set 1 _).set 2 _).drewN 2)⟩, grownBy_drewN (grownBy_setCell (grownBy_setCell (World.grownBy.refl _ _) _) _) 2⟩
theorem pick_any (B n c p : Nat) (A : Option Addr) (f : Nat → Int) (k : Nat) (w : World) (hk : 2 ≤ k) (hk2 : k ≤ 200) (hp : p ≤ 1000) (hn : n ≤ 1048576) (hc : Cur w B A n c p) (hs : Src w A n (uv f)) (hf : ∀ k, k < n → 0 ≤ f k ∧ f k < 256) :
    Calls Tryd.prog 16 #[.pointer (some ⟨B, 0, none⟩), .int .i64 (k : Nat)] w fun e w' => (∃ v : Nat, v < k ∧ e = .returned (.int .i64 v)) ∧ Cur w' B A n c (p + 1) ∧ w.grownBy w' (some B) := by
  have HC := hide hc
  have HS := hide hs
  have HF := hide hf
  clear hc hs hf
  go_enter Tryd.func16, Tryd.ntmps16
  go_wp2_with (go_at_call 34; refine (next_any B n c p A f _ hp hn HC.out HS.out HF.out).mono ?_; rintro e w3 ⟨⟨v, hv, rfl⟩, hc3, hg3⟩)
  have hm : (v : Int).tmod (k : Int) = ((v % k : Nat) : Int) := (Int.ofNat_tmod v k).symm
  have hmk : v % k < k := Nat.mod_lt _ (by omega)
  go_ret
  exact ⟨⟨v % k, hmk, by rw [← hm]; rfl⟩, hc3, hg3⟩
theorem among_any (B n c p : Nat) (A : Option Addr) (f : Nat → Int) (k c' g : Nat) (h : Nat → Int) (w : World) (hk : 2 ≤ k) (hk2 : k ≤ 200) (hp : p ≤ 1000) (hn : n ≤ 1048576) (hc : Cur w B A n c p) (hs : Src w A n (uv f)) (hf : ∀ k, k < n → 0 ≤ f k ∧ f k < 256) (hg : Arr w 3 g k (iv h)) :
    Calls Tryd.prog 26 #[.pointer (some ⟨B, 0, none⟩), .slice (some ⟨g, 0, none⟩) k c'] w fun e w' => (∃ v : Int, e = .returned (.int .i64 v)) ∧ Cur w' B A n c (p + 1) ∧ w.grownBy w' (some B) := by
  have hne : g ≠ B := by
    obtain ⟨s, hb⟩ := hc
    intro e
    subst e
    obtain ⟨cs, h1, _, _⟩ := hg
    have h2 : w.heap[g]? = some (.cells #[.slice A n c, .int .i64 (p : Nat), .int .u64 s] 34 (0, 0)) := hb
    rw [h1] at h2
    injection h2 with h2
    injection h2 with _ h3
    cases h3
  have HC := hide hc
  have HS := hide hs
  have HF := hide hf
  have HG := hide hg
  clear hc hs hf hg
  go_enter Tryd.func26, Tryd.ntmps26
  go_wp2_with fail
  refine (pick_any B n c p A f k _ hk hk2 hp hn HC.out HS.out HF.out).mono ?_
  rintro e w3 ⟨⟨v, hv, rfl⟩, hc3, hg3⟩
  have hcell : w3.cell? ⟨g, v, none⟩ = some (.int .i64 (h v)) := (HG.out.grown hg3 hne).cell hv
  go_wp2
  go_ret
  exact ⟨⟨_, rfl⟩, hc3, hg3⟩
end Go.Proofs.YtibikoajejfdeaaDoor
