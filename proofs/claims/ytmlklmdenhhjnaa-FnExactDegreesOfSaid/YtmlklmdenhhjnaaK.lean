import Derived.Test.YtmlklmdenhhjnaaJ
import Derived.Handy
import Derived.Test.YtmlklmdenhhjnaaN
namespace Go.Proofs.Ytmlklmdenhhjnaa
open Go.RowKit
set_option maxHeartbeats 400000
/-- The two cells of a graph's struct. -/
def bx (v0 v1 : Value) : Nat → Value := fun k => if k = 0 then v0 else v1
theorem Arr.box (w : World) (t : TypeId) (v0 v1 : Value) : Arr (w.alloc (.cells #[v0, v1] t)) t w.heap.size 2 (bx v0 v1) :=
  Arr.new w #[v0, v1] t _ (fun i hi => by
    have : i = 0 ∨ i = 1 := by simp at hi; omega
    rcases this with rfl | rfl <;> rfl)
theorem Arr.box_at (w : World) (t : TypeId) (v0 v1 : Value) {b : Nat} (h : b = w.heap.size) : Arr (w.alloc (.cells #[v0, v1] t)) t b 2 (bx v0 v1) := by subst h; exact Arr.box w t v0 v1
theorem Arr.made_at (w : World) (z : Value) (n : Nat) (t : TypeId) {f : Nat → Value} {b : Nat} (h : b = w.heap.size) (hf : ∀ k, k < n → f k = z) : Arr (w.alloc (.cells (madeCells #[z] n) t)) t b n f := by
  subst h; exact (Arr.made w z n t).congr (fun k hk => (hf k hk).symm)
theorem Arr.grown {w w' : World} {t : TypeId} {g n : Nat} {f : Nat → Value} {row : Nat} (h : Arr w t g n f) (hg : w.grownBy w' (some row)) (hne : g ≠ row) : Arr w' t g n f :=
  h.of_block (hg.block g h.lt (by intro e; injection e with e; exact hne e))
/-- What a call that hands back a new graph leaves. -/
def GraphVal (w : World) (n : Nat) (f : Nat → Int) (own : Bool) (e : Ending) (w' : World) : Prop :=
  ∃ g c, e = .returned (.agg #[.slice (some ⟨g, 0, none⟩) n c, .bool own]) ∧ w.heap.size ≤ g ∧ Arr w' 3 g n (iv f) ∧ Below w.heap.size w w'
theorem pathF_lt (m : Nat) (hm : m < 16) : ∀ k, k < 16 → pathF m k < 65536 := by
  induction m with
  | zero => intro k _; simp [pathF]
  | succ m ih => exact lk_lt (by omega) hm (ih (by omega))
theorem grPath_any (n : Nat) (own : Bool) (w : World) (h1 : 1 ≤ n) (hn : n ≤ 16) :
    Calls Try.prog 80 #[.int .i64 n, .bool own] w (GraphVal w n (nv (pathF (n - 1))) own) := by
  have hmk := run_make_row' (P := Try.prog) 22 3 (.int .i64 0) 8 Try.underlying22 int_info rfl .i64 .i64 n (by omega) (by omega)
  go_enter Try.func80, Try.ntmps80
  go_wp2
  go_loopw [6] (fun i wr => ∃ k : Nat, 1 ≤ k ∧ k ≤ n ∧ i = .int .i64 k ∧ Arr wr 3 (w.heap.size + 1) n (iv (nv (pathF (k - 1)))) ∧ Arr wr 27 w.heap.size 2 (bx (.slice none 0 0) (.bool false)) ∧ Arr wr 27 (w.heap.size + 1 + 1) 2 (bx (.slice (some ⟨w.heap.size + 1, 0, none⟩) n n) (.bool own)) ∧ Below w.heap.size w wr)
    (fun i _ => n - (intOf i).toNat)
  case atStart => 
    refine ⟨1, Nat.le_refl _, h1, rfl, ?_, ?_, ?_, by go_grown⟩
    · exact (Arr.made_at (w.alloc _) _ n 3 (by simp) (fun k hk => rfl)).alloc _
    · exact ((Arr.box w 27 _ _).alloc _).alloc _
    · exact Arr.box_at ((w.alloc _).alloc _) 27 _ _ (by simp)
  case round =>
    obtain ⟨k, hk1, hk, rfl, ha, hr, hb, hw⟩ := hrel
    have c0 : wr.cell? ⟨w.heap.size + 1 + 1, 0, none⟩ = some (.slice (some ⟨w.heap.size + 1, 0, none⟩) n n) := hb.cell (by omega)
    have c1 : wr.cell? ⟨w.heap.size + 1 + 1, 1, none⟩ = some (.bool own) := hb.cell (by omega)
    by_cases hlt : k < n
    · have HA := hide ha
      have HR := hide hr
      have HB := hide hb
      have HW := hide hw
      clear ha hr hb hw
      go_wp2_with (go_at_call 67; refine (grAdd_at _ _ _ _ _ (k - 1) k _ _ _ hn (by omega) hlt (by omega) rfl (fun j hj => pathF_lt _ (by omega) j (by omega)) HA.out).mono ?_; rintro e w1 ⟨rfl, ha1, hg1⟩)
      have hz1 := hg1.size
      go_roundw
      case rel => 
        refine ⟨k + 1, by omega, by omega, by go_num, ?_, HR.out.grown hg1 (by omega), HB.out.grown hg1 (by omega), HW.out.grown hg1 HW.out.size (fun j hj => by injection hj; omega)⟩
        have e : pathF (k + 1 - 1) = lk (k - 1) k (pathF (k - 1)) := by
          obtain ⟨m, rfl⟩ : ∃ m, k = m + 1 := ⟨k - 1, by omega⟩
          rfl
        rw [e]; exact ha1
      case measure => simp [intOf]; omega
    · have r0 := hr.cell (k := 0) (by omega)
      have r1 := hr.cell (k := 1) (by omega)
      have z0 := hr.frozen 0
      have z1 := hr.frozen 1
      have HA := hide ha
      have HW := hide hw
      clear ha hr hb hw
      go_wp2
      refine bodyPost_ret (v := .agg #[.slice (some ⟨w.heap.size + 1, 0, none⟩) n n, .bool own]) (by simp [results, Try.results80, go_sem, r0, r1]) rfl ?_
      have hkn : k = n := by omega
      subst hkn
      have hsz := HW.out.size
      exact ⟨_, _, rfl, by omega, (HA.out.far (by simp) _).far (by simp) _, by have h := HW.out; go_grown⟩
end Go.Proofs.Ytmlklmdenhhjnaa
