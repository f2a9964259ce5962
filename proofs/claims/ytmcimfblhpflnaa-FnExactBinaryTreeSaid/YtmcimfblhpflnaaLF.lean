/-
The forest that parents give: both sides of FromParents, and the stars and trees of the model.
-/
import Derived.Test.YtmcimfblhpflnaaJ
import Derived.Test.YtmcimfblhpflnaaI
namespace Go.Proofs.Ytmcimfblhpflnaa
open Go.RowKit
set_option maxHeartbeats 2000000
/-- The neighbours behind k buttons' parents. -/
def fpF (f : Nat → Int) : Nat → Nat → Nat
  | 0 => fun _ => 0
  | k + 1 => if 0 ≤ f k then lk (f k).toNat k (fpF f k) else fpF f k
theorem fpF_lt (f : Nat → Int) {n : Nat} (hn : n ≤ 16) (k : Nat) (hk : k ≤ n) (hf : ∀ j, j < k → f j ≤ (j : Int) - 1) : ∀ j, j < n → fpF f k j < 65536 := by
  induction k with
  | zero => intro j _; show 0 < 65536; decide
  | succ k ih =>
    have ih := ih (by omega) (fun j hj => hf j (by omega))
    have h := hf k (by omega)
    rw [fpF]
    split
    · exact lk_lt (by omega) (by omega) ih
    · exact ih
/-- Are all of them parents? -/
def okP (f : Nat → Int) (n : Nat) : Bool := decide (∀ k, k < n → -1 ≤ f k ∧ f k ≤ (k : Int) - 1)
/-- What FromParents leaves. -/
def FPost (w : World) (n : Nat) (f : Nat → Int) (own : Bool) (e : Ending) (w' : World) : Prop :=
  if okP f n = true then GraphOk w n (nv (fpF f n)) own e w' else GraphNo w e w'
theorem FPost.yes {w : World} {n : Nat} {f : Nat → Int} {own : Bool} {e : Ending} {w' : World} (h : GraphOk w n (nv (fpF f n)) own e w') (hk : ∀ k, k < n → -1 ≤ f k ∧ f k ≤ (k : Int) - 1) : FPost w n f own e w' := by
  have : okP f n = true := by simpa [okP] using hk
  unfold FPost
  rw [if_pos this]
  exact h
theorem FPost.no {w : World} {n : Nat} {f : Nat → Int} {own : Bool} {e : Ending} {w' : World} (h : GraphNo w e w') {k : Nat} (hk : k < n) (hf : ¬ (-1 ≤ f k ∧ f k ≤ (k : Int) - 1)) : FPost w n f own e w' := by
  have : ¬ okP f n = true := by
    simp only [okP, decide_eq_true_eq]
    exact fun h => hf (h k hk)
  unfold FPost
  rw [if_neg this]
  exact h
theorem fpSpec_size (A : Option Addr) (n c : Nat) (own : Bool) (w : World) (h : inB n 1 16 = false) :
    Calls Try.prog 13 #[.slice A n c, .bool own] w (GraphNo w) := by
  go_enter Try.func13, Try.ntmps13
  go_wp2_with (go_at_call 28; refine (grSize_any _ _).mono ?_; rintro e w' ⟨rfl, rfl⟩; rw [h])
  refine bodyPost_ret (v := .tuple #[.agg #[.slice none 0 0, .bool false], .bool false]) (by simp [results, Try.results13, go_sem]) rfl ?_
  exact ⟨rfl, by go_grown⟩
theorem fpImpl_size (A : Option Addr) (n c : Nat) (own : Bool) (w : World) (h : inB n 1 16 = false) :
    Calls Try.prog 15 #[.slice A n c, .bool own] w (GraphNo w) := by
  go_enter Try.func15, Try.ntmps15
  go_wp2_with (go_at_call 30; refine (isCount_any _ _).mono ?_; rintro e w' ⟨rfl, rfl⟩; rw [h])
  refine bodyPost_ret (v := .tuple #[.agg #[.slice none 0 0, .bool false], .bool false]) (by simp [results, Try.results15, go_sem]) rfl ?_
  exact ⟨rfl, by go_grown⟩
theorem fpSpec_any (A : Option Addr) (n c : Nat) (f : Nat → Int) (own : Bool) (w : World) (h : inB n 1 16 = true) (hs : Src w A n (iv f)) :
    Calls Try.prog 13 #[.slice A n c, .bool own] w (FPost w n f own) := by
  have hn : n ≤ 16 := by simp only [inB, decide_eq_true_eq] at h; omega
  have hmk := run_make_row' (P := Try.prog) 25 3 (.int .i64 0) 8 Try.underlying25 int_info rfl .i64 .i64 n (by omega) (by omega)
  have HS := hide hs
  clear hs
  go_enter Try.func13, Try.ntmps13
  go_wp2_with (go_at_call 28; refine (grSize_any _ _).mono ?_; rintro e w' ⟨rfl, rfl⟩; rw [h])
  go_loopw [21] (fun i wr => ∃ k : Nat, k ≤ n ∧ i = .int .i64 k ∧ Hid (∀ j, j < k → -1 ≤ f j ∧ f j ≤ (j : Int) - 1) ∧ Arr wr 3 (w.heap.size + 1) n (iv (nv (fpF f k))) ∧ Arr wr 27 w.heap.size 2 (bx (.slice none 0 0) (.bool false)) ∧ Arr wr 27 (w.heap.size + 1 + 1) 2 (bx (.slice (some ⟨w.heap.size + 1, 0, none⟩) n n) (.bool own)) ∧ Below w.heap.size w wr)
    (fun i _ => n - (intOf i).toNat)
  case atStart =>
    refine ⟨0, Nat.zero_le _, rfl, hide (fun j hj => absurd hj (by omega)), ?_, ?_, ?_, by go_grown⟩
    · exact (Arr.made_at (w.alloc _) _ n 3 (by simp) (fun k hk => rfl)).alloc _
    · exact ((Arr.box w 27 _ _).alloc _).alloc _
    · exact Arr.box_at ((w.alloc _).alloc _) 27 _ _ (by simp)
  case round =>
    obtain ⟨k, hk, rfl, HK, ha, hr, hb, hw⟩ := hrel
    have c0 : wr.cell? ⟨w.heap.size + 1 + 1, 0, none⟩ = some (.slice (some ⟨w.heap.size + 1, 0, none⟩) n n) := hb.cell (by omega)
    have c1 : wr.cell? ⟨w.heap.size + 1 + 1, 1, none⟩ = some (.bool own) := hb.cell (by omega)
    have r0 := hr.cell (k := 0) (by omega)
    have r1 := hr.cell (k := 1) (by omega)
    have z0 := hr.frozen 0
    have z1 := hr.frozen 1
    by_cases hlt : k < n
    · obtain ⟨b, off, hA, hbl, hc0⟩ := HS.out k hlt
      have hc : wr.cell? ⟨b, off + k, none⟩ = some (.int .i64 (f k)) := (hw.cell (p := ⟨b, off + k, none⟩) hbl).trans hc0
      subst hA
      have HA := hide ha
      have HR := hide hr
      have HB := hide hb
      have HW := hide hw
      clear ha hr hb hw hc0
      by_cases hok : -1 ≤ f k ∧ f k ≤ (k : Int) - 1
      · have hin : inB (f k) (-1) ((k : Int) - 1) = true := by simpa only [inB, decide_eq_true_eq] using hok
        have HK2 : Hid (∀ j, j < k + 1 → -1 ≤ f j ∧ f j ≤ (j : Int) - 1) := hide fun j hj => by
          by_cases e : j = k
          · subst e; exact hok
          · exact HK.out j (by omega)
        by_cases hp : 0 ≤ f k
        · have hp2 : ¬ f k < 0 := by omega
          obtain ⟨hok1, hok2⟩ := hok
          go_wp2_with (first | (go_at_call 27; refine (l1InG_any _ _ _ _).mono ?_; rintro e w' ⟨rfl, rfl⟩; rw [hin]) | (go_at_call 29; refine (grAdd_at _ _ _ _ _ (f k).toNat k _ _ _ hn (by omega) hlt (by omega) rfl (fpF_lt f hn k (by omega) (fun j hj => (HK.out j hj).2)) HA.out).mono ?_; rintro e w1 ⟨rfl, ha1, hg1⟩))
          have hz1 := hg1.size
          go_roundw
          case rel =>
            refine ⟨k + 1, by omega, by go_num, HK2, ?_, HR.out.grown hg1 (by omega), HB.out.grown hg1 (by omega), HW.out.grown hg1 HW.out.size (fun j hj => by injection hj; omega)⟩
            rw [fpF, if_pos hp]; exact ha1
          case measure => simp [intOf]; omega
        · have hp2 : f k < 0 := by omega
          go_wp2_with (first | (go_at_call 27; refine (l1InG_any _ _ _ _).mono ?_; rintro e w' ⟨rfl, rfl⟩; rw [hin]))
          go_roundw
          case rel =>
            refine ⟨k + 1, by omega, by go_num, HK2, ?_, HR.out, HB.out, HW.out⟩
            rw [fpF, if_neg (by omega)]; exact HA.out
          case measure => simp [intOf]; omega
      · have hin : inB (f k) (-1) ((k : Int) - 1) = false := by simpa only [inB, decide_eq_false_iff_not] using hok
        go_wp2_with (first | (go_at_call 27; refine (l1InG_any _ _ _ _).mono ?_; rintro e w' ⟨rfl, rfl⟩; rw [hin]))
        refine bodyPost_ret (v := .tuple #[.agg #[.slice none 0 0, .bool false], .bool false]) (by simp [results, Try.results13, go_sem, r0, r1]) rfl ?_
        exact FPost.no ⟨rfl, by have h := HW.out; have hz := h.size; go_grown⟩ hlt hok
    · have HA := hide ha
      have HW := hide hw
      have hkn : k = n := by omega
      clear ha hr hb hw
      go_wp2
      refine bodyPost_ret (v := .tuple #[.agg #[.slice (some ⟨w.heap.size + 1, 0, none⟩) n n, .bool own], .bool true]) (by simp [results, Try.results13, go_sem, r0, r1]) rfl ?_
      refine FPost.yes ⟨_, _, rfl, by omega, ?_, by have h := HW.out; have hz := h.size; go_grown⟩ (by rw [← hkn]; exact HK.out)
      have := HA.out
      rw [hkn] at this
      exact (this.far (by simp) _).far (by simp) _
theorem lk_comm {i j : Nat} (h : i ≠ j) (F : Nat → Nat) : lk i j F = lk j i F := by
  funext k
  unfold lk
  by_cases h1 : k = j
  · have h2 : ¬ k = i := by omega
    rw [if_pos h1, if_neg (by omega), if_neg h2, if_pos h1]
  · by_cases h2 : k = i
    · rw [if_neg h1, if_pos h2, if_pos h2, if_neg (by omega)]
    · rw [if_neg h1, if_neg h2, if_neg h2, if_neg h1]
theorem fpImpl_any (A : Option Addr) (n c : Nat) (f : Nat → Int) (own : Bool) (w : World) (h : inB n 1 16 = true) (hs : Src w A n (iv f)) :
    Calls Try.prog 15 #[.slice A n c, .bool own] w (FPost w n f own) := by
  have hn : n ≤ 16 := by simp only [inB, decide_eq_true_eq] at h; omega
  have hmk := run_make_row' (P := Try.prog) 25 3 (.int .i64 0) 8 Try.underlying25 int_info rfl .i64 .i64 n (by omega) (by omega)
  have HS := hide hs
  clear hs
  go_enter Try.func15, Try.ntmps15
  go_wp2_with (go_at_call 30; refine (isCount_any _ _).mono ?_; rintro e w' ⟨rfl, rfl⟩; rw [h])
  go_loopw [19] (fun i wr => ∃ k : Nat, k ≤ n ∧ i = .int .i64 k ∧ Hid (∀ j, j < k → -1 ≤ f j ∧ f j ≤ (j : Int) - 1) ∧ Arr wr 3 (w.heap.size + 1) n (iv (nv (fpF f k))) ∧ Arr wr 27 w.heap.size 2 (bx (.slice none 0 0) (.bool false)) ∧ Below w.heap.size w wr)
    (fun i _ => n - (intOf i).toNat)
  case atStart =>
    refine ⟨0, Nat.zero_le _, rfl, hide (fun j hj => absurd hj (by omega)), ?_, ?_, by go_grown⟩
    · exact Arr.made_at (w.alloc _) _ n 3 (by simp) (fun k hk => rfl)
    · exact (Arr.box w 27 _ _).alloc _
  case round =>
    obtain ⟨k, hk, rfl, HK, ha, hr, hw⟩ := hrel
    have r0 := hr.cell (k := 0) (by omega)
    have r1 := hr.cell (k := 1) (by omega)
    have z0 := hr.frozen 0
    have z1 := hr.frozen 1
    by_cases hlt : k < n
    · obtain ⟨b, off, hA, hbl, hc0⟩ := HS.out k hlt
      have hc : wr.cell? ⟨b, off + k, none⟩ = some (.int .i64 (f k)) := (hw.cell (p := ⟨b, off + k, none⟩) hbl).trans hc0
      subst hA
      have HA := hide ha
      have HR := hide hr
      have HW := hide hw
      clear ha hr hw hc0
      by_cases hb1 : f k < -1
      · go_wp2
        refine bodyPost_ret (v := .tuple #[.agg #[.slice none 0 0, .bool false], .bool false]) (by simp [results, Try.results15, go_sem, r0, r1]) rfl ?_
        exact FPost.no ⟨rfl, by have h := HW.out; have hz := h.size; go_grown⟩ hlt (by omega)
      · by_cases hb2 : (k : Int) ≤ f k
        · have hb3 : ¬ f k < (k : Int) := by omega
          go_wp2
          refine bodyPost_ret (v := .tuple #[.agg #[.slice none 0 0, .bool false], .bool false]) (by simp [results, Try.results15, go_sem, r0, r1]) rfl ?_
          exact FPost.no ⟨rfl, by have h := HW.out; have hz := h.size; go_grown⟩ hlt (by omega)
        · have hb3 : f k < (k : Int) := by omega
          have HK2 : Hid (∀ j, j < k + 1 → -1 ≤ f j ∧ f j ≤ (j : Int) - 1) := hide fun j hj => by
            by_cases e : j = k
            · subst e; omega
            · exact HK.out j (by omega)
          by_cases hp : f k = -1
          · go_wp2
            go_roundw
            case rel =>
              refine ⟨k + 1, by omega, by go_num, HK2, ?_, HR.out, HW.out⟩
              rw [fpF, if_neg (by omega)]; exact HA.out
            case measure => simp [intOf]; omega
          · have hp1 : (f k == -1) = false := by simpa using hp
            go_wp2_with (first | (go_at_call 31; refine (link_at _ _ _ _ k (f k).toNat _ _ _ hn hlt (by omega) rfl (by omega) (fpF_lt f hn k (by omega) (fun j hj => (HK.out j hj).2)) HA.out).mono ?_; rintro e w1 ⟨rfl, ha1, hg1⟩))
            have hz1 := hg1.size
            go_roundw
            case rel =>
              refine ⟨k + 1, by omega, by go_num, HK2, ?_, HR.out.grown hg1 (by omega), HW.out.grown hg1 HW.out.size (fun j hj => by injection hj; omega)⟩
              rw [fpF, if_pos (by omega), lk_comm (by omega)]; exact ha1
            case measure => simp [intOf]; omega
    · have HA := hide ha
      have HW := hide hw
      have hkn : k = n := by omega
      clear ha hr hw
      go_wp2
      refine bodyPost_ret (v := .tuple #[.agg #[.slice (some ⟨w.heap.size + 1, 0, none⟩) n n, .bool own], .bool true]) (by simp [results, Try.results15, go_sem, r0, r1]) rfl ?_
      refine FPost.yes ⟨_, _, rfl, by omega, ?_, by have h := HW.out; have hz := h.size; go_grown⟩ (by rw [← hkn]; exact HK.out)
      have := HA.out
      rw [hkn] at this
      exact (this.far (by simp) _).far (by simp) _
end Go.Proofs.Ytmcimfblhpflnaa
