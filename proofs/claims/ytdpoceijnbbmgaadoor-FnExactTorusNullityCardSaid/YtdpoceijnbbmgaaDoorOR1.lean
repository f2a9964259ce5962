/-
CircleProduct: pairs of sets and their steps; both sides, and the statement, walked.
-/
import Derived.Test.YtdpoceijnbbmgaaDoorOQ
namespace Go.Proofs.YtdpoceijnbbmgaaDoor
open Go.RowKit
set_option maxHeartbeats 4000000
attribute [local go_sem] mm_plus nm_plus
/-- A step of pairs of sets. -/
def psT (T : Nat → Nat) (n : Nat) : Nat → Nat := fun i => if i < n then T i ||| 2 ^ (n + i) else 2 ^ (i - n)
theorem psT_lt {T : Nat → Nat} {n : Nat} (hT : ∀ k, k < n → T k < 2 ^ n) (i : Nat) (hi : i < n + n) : psT T n i < 2 ^ (n + n) := by
  unfold psT
  split
  · rename_i h
    exact Nat.or_lt_two_pow (Nat.lt_of_lt_of_le (hT i h) (Nat.pow_le_pow_right (by decide) (by omega))) (Nat.pow_lt_pow_right (by decide) (by omega))
  · exact Nat.pow_lt_pow_right (by decide) (by omega)
theorem or40 (a k : Nat) (ha : a < 1099511627776) (hk : k < 40) : bits .or .i64 (a : Int) (RowKit.wrap64 (2 ^ k)) = ((a ||| 2 ^ k : Nat) : Int) := by
  have hp : (2 : Nat) ^ k < 1099511627776 := Nat.pow_lt_pow_right (a := 2) (by decide) hk
  rw [wr40 (by omega)]
  exact i64_or_nat _ _ (by omega) (by omega)
theorem wi40 {k : Nat} (h : k ≤ 40) : IntKind.i64.wrap ((2 : Int) ^ k) = ((2 ^ k : Nat) : Int) := by
  have hp : (2 : Nat) ^ k ≤ 1099511627776 := Nat.pow_le_pow_right (n := 2) (j := 40) (by decide) h
  rw [pow_i]
  generalize 2 ^ k = P at *
  exact IntWalk.i64_in _ (by omega)
theorem psF_any (b1 b2 n c i : Nat) (A : Option Addr) (T : Nat → Nat) (w : World) (hn : n ≤ 16) (hi : i < n + n) (h1 : w.cell? ⟨b1, 0, none⟩ = some (.int .i64 (n : Nat))) (h2 : w.cell? ⟨b2, 0, none⟩ = some (.slice A n c)) (hs : Src w A n (iv (nv T))) (hT : ∀ k, k < n → T k < 2 ^ n) :
    Calls Tryd.prog 111 #[.int .i64 i, .pointer (some ⟨b1, 0, none⟩), .pointer (some ⟨b2, 0, none⟩)] w fun e w' => e = .returned (.int .i64 (psT T n i : Nat)) ∧ Below w.heap.size w w' := by
  by_cases h : i < n
  · have hps : psT T n i = T i ||| 2 ^ (n + i) := by rw [psT, if_pos h]
    rw [hps]
    obtain ⟨g, off, hA, hb, hc0⟩ := hs i h
    have hc : w.cell? ⟨g, off + i, none⟩ = some (.int .i64 (T i : Nat)) := hc0
    have hTi := hT i h
    have hp := p16 hn
    have e1 := or40 (T i) (n + i) (by omega) (by omega)
    have hin : (i : Int) < n := by omega
    obtain ⟨k, hk⟩ : ∃ k, n + i = k := ⟨_, rfl⟩
    have e2 : (n : Int) + (i : Int) = (k : Nat) := by omega
    have e3 : IntKind.i64.wrap ((k : Nat) : Int) = (k : Nat) := IntWalk.i64_in _ (by omega)
    have hk64 : (k : Int) < 64 := by omega
    obtain ⟨t, ht⟩ : ∃ t, T i = t := ⟨_, rfl⟩
    rw [ht, hk] at e1 ⊢
    rw [ht] at hc
    clear hc0 hs hT hTi hp hps hk ht
    subst hA
    go_enter Tryd.func111, Tryd.ntmps111
    go_wp2_with fail
    go_region_held3 (fun w' => w' = w.drew) (first | rfl | assumption) (fail)
    all_goals
      go_wp2
      go_ret
      exact ⟨by show Ending.returned (.int .i64 (bits .or .i64 (t : Int) (IntKind.i64.wrap (2 ^ k)))) = _; rw [wi40 (by omega), ← wr40 (by omega), e1], (Below.refl _ _).drew⟩
  · have hps : psT T n i = 2 ^ (i - n) := by rw [psT, if_neg h]
    rw [hps]
    obtain ⟨k, hk⟩ : ∃ k, i - n = k := ⟨_, rfl⟩
    have e2 : (i : Int) - (n : Int) = (k : Nat) := by omega
    have e1 := wr40 (k := k) (by omega)
    have hk64 : (k : Int) < 64 := by omega
    have hin : ¬ (i : Int) < n := by omega
    rw [hk]
    clear hs hT hps hk
    go_enter Tryd.func111, Tryd.ntmps111
    go_wp2
    go_ret
    exact ⟨by first | rfl | rw [← e1]; rfl, Below.refl _ _⟩
theorem setMapOf_ps (b1 b2 n : Nat) (S : Nat → Nat) (w : World) (hn : n ≤ 65536)
    (hs : ∀ i wr, i < n → Below w.heap.size w wr → Calls Tryd.prog 111 #[.int .i64 i, .pointer (some ⟨b1, 0, none⟩), .pointer (some ⟨b2, 0, none⟩)] wr fun e w' => e = .returned (.int .i64 (S i : Nat)) ∧ Below wr.heap.size wr w') :
    Calls Tryd.prog 86 #[.int .i64 n, .func (.func 111) #[] #[.pointer (some ⟨b1, 0, none⟩), .pointer (some ⟨b2, 0, none⟩)]] w (NewMap w n S) := by
  have hmk := run_make_row' (P := Tryd.prog) 59 57 (.int .i64 0) 8 Tryd.underlying59 sub_info rfl .i64 .i64 n (by omega) (by omega)
  have HS := hide hs
  clear hs
  go_enter Tryd.func86, Tryd.ntmps86
  go_wp2
  go_loopw [13] (fun i wr => ∃ k : Nat, k ≤ n ∧ i = .int .i64 k ∧ Arr wr 57 (w.heap.size + 1) n (fun j => if j < k then iv (nv S) j else .int .i64 0) ∧ Blk wr 61 (w.heap.size + 1 + 1) #[.slice (some ⟨w.heap.size + 1, 0, none⟩) n n] ∧ Blk wr 61 w.heap.size #[.slice none 0 0] ∧ Below w.heap.size w wr) (fun i _ => n - (intOf i).toNat)
  case atStart => exact ⟨0, Nat.zero_le _, rfl, (Arr.made_at (w.alloc _) _ n 57 (by simp) (fun k hk => by simp)).alloc _, Blk.new _ _ _ (by simp), ((Blk.new w _ _ rfl).alloc _).alloc _, by go_grown⟩
  case round =>
    obtain ⟨k, hk, rfl, ha, hx, hr, hb⟩ := hrel
    have HA := hide ha
    have HX := hide hx
    have HR := hide hr
    have HB := hide hb
    have c0 : wr.cell? ⟨w.heap.size + 1 + 1, 0, none⟩ = some (.slice (some ⟨w.heap.size + 1, 0, none⟩) n n) := hx.cell 0
    have r0 : wr.cell? ⟨w.heap.size, 0, none⟩ = some (.slice none 0 0) := hr.cell 0
    have z0 := hr.frozen 0
    have hsz := hb.size
    have hxl := hx.lt
    have hrl := hr.lt
    have hal := ha.lt
    clear ha hx hr hb
    by_cases hlt : k < n
    · have HC := hide (HS.out k wr.drew hlt (Below.drew HB.out))
      obtain ⟨y, hy⟩ : ∃ y, S k = y := ⟨_, rfl⟩
      rw [hy] at HC
      have HY := hide hy
      clear hy
      have hki : (k : Int) < n := by omega
      go_wp2_with fail
      go_region_held3 (fun w' => w'.cell? ⟨w.heap.size + 1 + 1, 0, none⟩ = some (.slice (some ⟨w.heap.size + 1, 0, none⟩) n n)) (first | exact c0 | exact cell_below (by assumption) hxl c0 | exact cell_far (by omega) (cell_below (by assumption) hxl c0)) (first | (go_at_call 111; refine HC.out.mono ?_; rintro e w3 ⟨rfl, hb3⟩; have hb3 := (below_drewN (Below.refl _ wr) 1).trans hb3; have ha3 := HA.out.all hb3; have hw := ha3.cell hlt; have hz := ha3.frozen k; have hl3 := ha3.lt; clear ha3))
      have HA3 := hide (HA.out.all hb3)
      have HX3 := hide (HX.out.all hb3)
      have HR3 := hide (HR.out.all hb3)
      have HB3 := hide (HB.out.trans (hb3.mono hsz))
      clear hb3 hw hz
      go_wp2
      go_roundw
      case rel =>
        refine ⟨k + 1, by omega, by go_num, (HA3.out.set k _).congr (fun j hj => ?_), HX3.out.far (by simp) _, HR3.out.far (by simp) _, HB3.out.setCell (by simp) _⟩
        by_cases hjk : j = k
        · subst hjk; simp [iv, nv, HY.out]
        · simp only [hjk, if_false]
          by_cases h2 : j < k
          · rw [if_pos h2, if_pos (by omega)]
          · rw [if_neg h2, if_neg (by omega)]
      case measure => simp [intOf]; omega
    · have hkn : k = n := by omega
      subst hkn
      have HA2 := hide (HA.out.congr (f' := iv (nv S)) (fun j hj => by simp [hj]))
      go_wp2
      refine bodyPost_ret (v := .agg #[.slice (some ⟨w.heap.size + 1, 0, none⟩) k k]) (by simp [results, Tryd.results86, go_sem, r0]) rfl ?_
      exact ⟨w.heap.size + 1, rfl, by omega, HA2.out.far (by simp) _, HB.out.setCell (Nat.le_refl _) _⟩
theorem pairSteps_any (A : Option Addr) (n c : Nat) (T : Nat → Nat) (w : World) (hn : n ≤ 16) (hs : Src w A n (iv (nv T))) (hT : ∀ k, k < n → T k < 2 ^ n) :
    Calls Tryd.prog 74 #[.agg #[.slice A n c]] w (NewMap w (n + n) (psT T n)) := by
  have HS := hide hs
  have HT := hide hT
  have hmf : ∀ (fn : Fn) (first cap : Array Value) (w : World), (Instr.makeFunc fn first cap).run Tryd.prog w = .ok (.func fn first cap) w := fun _ _ _ _ => rfl
  obtain ⟨N, hN⟩ : ∃ N, n + n = N := ⟨_, rfl⟩
  have e1 : 2 * (n : Int) = (N : Nat) := by omega
  have hN32 : N ≤ 32 := by omega
  rw [hN]
  have HN := hide hN
  clear hs hT hN
  go_enter Tryd.func74, Tryd.ntmps74
  go_wp2_with fail
  refine (setMapOf_ps (w.heap.size + 1 + 1) w.heap.size N (psT T n) _ (by omega) (fun i wr hi hb => psF_any _ _ n c i A T wr hn (by have := HN.out; omega) ((hb.cell (p := ⟨w.heap.size + 1 + 1, 0, none⟩) (by simp)).trans (by simp [go_sem])) ((hb.cell (p := ⟨w.heap.size, 0, none⟩) (by simp; omega)).trans (by simp [go_sem])) (((((HS.out.alloc _).alloc _).alloc _)).below hb) HT.out)).mono ?_
  rintro e w2 ⟨g, rfl, hlo, ha, hb⟩
  have HA := hide ha
  have HB := hide hb
  have hr := (((Blk.new (w.alloc (.cells #[.slice A n c] 61)) 61 #[.slice none 0 0] (b := w.heap.size + 1) (by simp))).alloc (.cells #[.int .i64 n] 3)).all hb
  have r0 : w2.cell? ⟨w.heap.size + 1, 0, none⟩ = some (.slice none 0 0) := hr.cell 0
  have z0 := hr.frozen 0
  have hl := hr.lt
  clear ha hb hr
  go_wp2
  refine bodyPost_ret (v := .agg #[.slice (some ⟨g, 0, none⟩) N N]) (by simp [results, Tryd.results74, go_sem, r0]) rfl ?_
  simp at hlo
  exact ⟨g, rfl, by omega, HA.out.far (by simp; omega) _, ((by go_grown : Below w.heap.size w _).trans (HB.out.mono (by simp; omega))).setCell (by simp) _⟩
end Go.Proofs.YtdpoceijnbbmgaaDoor
