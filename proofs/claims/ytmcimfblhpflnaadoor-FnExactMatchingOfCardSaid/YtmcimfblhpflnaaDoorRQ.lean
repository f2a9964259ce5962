import Derived.Test.YtmcimfblhpflnaaDoorK
import Derived.Test.YtmcimfblhpflnaaDoorZa
import Derived.Ground.NamesProg
import Derived.Shelf.Lay
import Derived.Shelf.Bits.Mul64
import Derived.Deep.RegionLaw
import Derived.Deep.Cut
namespace Go.Proofs
open Go.Shelf
shelf_lay Lays.n212 Nm 212 at Tryd as Tryd.mul
end Go.Proofs
namespace Go.Proofs.YtmcimfblhpflnaaDoor
open Go.RowKit
set_option maxHeartbeats 1000000
theorem wrap_in {x : Int} (h : -9223372036854775808 ≤ x ∧ x ≤ 9223372036854775807) : IntKind.i64.wrap x = x := IntWalk.i64_in _ h
theorem mul_one (n : Nat) (w : World) (hn : n ≤ 1048576) : Calls Tryd.prog 99 #[.int .u64 1, .int .u64 n] w fun e w' => e = .returned (.tuple #[.int .u64 0, .int .u64 n]) ∧ w = w' := by
  have h := Any.bits_Mul Tryd.mul 1 n (by omega) (by omega) w
  rw [Nat.one_mul, Nat.div_eq_of_lt (by omega), Nat.mod_eq_of_lt (by omega)] at h
  exact h.mono fun e w' ⟨he, hw⟩ => ⟨he, hw.symm⟩
theorem int_size : (Tryd.prog.info? 3).map (·.size) = some 1 := by kernel_rfl
/-- k cells v, then z up to n. -/
def repL (v z : Value) (n k : Nat) : List Value := List.replicate k v ++ List.replicate (n - k) z
theorem repL_length (v z : Value) {n k : Nat} (h : k ≤ n) : (repL v z n k).length = n := by simp [repL]; omega
theorem repL_get (v z : Value) {n k j : Nat} (h : j < k) : (repL v z n k)[j]? = some v := by
  unfold repL
  rw [List.getElem?_append_left (by simpa using h)]
  simp [h]
theorem repL_splice (v z : Value) {n k j : Nat} (h : k + j ≤ n) : splice (repL v z n k) k (List.replicate j v) = repL v z n (k + j) := by
  unfold splice repL
  rw [List.take_append_of_le_length (by simp), List.take_of_length_le (by simp), List.length_replicate, List.drop_append, List.drop_eq_nil_of_le (by simp), List.nil_append, List.drop_replicate, ← List.append_assoc, List.replicate_append_replicate]
  simp only [List.length_replicate]
  congr 2
  omega
theorem made_rep (v z : Value) (n : Nat) : madeCells #[z] n = (repL v z n 0).toArray := by
  apply Array.ext_getElem?
  intro i
  by_cases h : i < n
  · simp [madeCells, repL, h, Nat.mod_one]
  · simp [madeCells, repL, h]
theorem rep_cell {w : World} {g n k j : Nat} {v z : Value} (h : w.heap[g]? = some (.cells (repL v z n k).toArray 3 (0, 0))) (hj : j < k) : w.cell? ⟨g, j, none⟩ = some v := by
  rw [cell_of_row w g j _ 3 (0, 0) h]
  simpa using repL_get v z hj
theorem one_src (w : World) (b : Nat) (v : Value) (h : w.cell? ⟨b, 0, none⟩ = some v) (dp : Option Addr) : 0 < [v].length → dp = dp ∧ ∃ ad, (some (⟨b, 0, none⟩ : Addr)) = some ad ∧ ∀ j u, [v][j]? = some u → w.cell? (ad.add j) = some u :=
  fun _ => ⟨rfl, _, rfl, fun j u hj => by
    match j, hj with
    | 0, hj => simp at hj; subst hj; simpa [Addr.add] using h⟩
/-- The first j of k cells as a source of a copy. -/
structure RepSrc (w : World) (g j : Nat) (v : Value) (dp : Option Addr) : Prop where
  src : 0 < (List.replicate j v).length → dp = dp ∧ ∃ ad, (some (⟨g, 0, none⟩ : Addr)) = some ad ∧ ∀ i u, (List.replicate j v)[i]? = some u → w.cell? (ad.add i) = some u
theorem rep_src (w : World) (g n k j : Nat) (v z : Value) (h : Hid (w.heap[g]? = some (.cells (repL v z n k).toArray 3 (0, 0)))) (hj : j ≤ k) (dp : Option Addr) : RepSrc w g j v dp :=
  ⟨fun _ => ⟨rfl, _, rfl, fun i u hu => by
    rw [List.getElem?_replicate] at hu
    split at hu
    · injection hu with hu
      subst hu
      rw [Go.WideShapes.add_plain, Nat.zero_add]
      exact rep_cell h.out (by omega)
    · cases hu⟩⟩
/-- What a call leaves that hands back n new cells, all -1. -/
def RepRes (w : World) (n : Nat) (e : Ending) (w' : World) : Prop :=
  ∃ g, e = .returned (.slice (some ⟨g, 0, none⟩) n n) ∧ w.heap.size ≤ g ∧ Arr w' 3 g n (fun _ => .int .i64 (-1)) ∧ Below w.heap.size w w'
set_option maxRecDepth 100000 in
theorem repeat_any (b n d : Nat) (w : World) (hn1 : 1 ≤ n) (hn : n ≤ 1048576) (hb : b < w.heap.size) (hc : w.cell? ⟨b, 0, none⟩ = some (.int .i64 (-1))) :
    Calls Tryd.prog 79 #[.slice (some ⟨b, 0, none⟩) 1 d, .int .i64 n] w (RepRes w n) := by
  have hmk := run_make_row' (P := Tryd.prog) 22 3 (.int .i64 0) 8 Tryd.underlying22 int_info rfl .i64 .i64 n (by omega) (by omega)
  have hW : IntKind.u64.wrap (n : Int) = n := by rw [IntKind.wrap_u64]; omega
  have hd : decide ((9223372036854775807 : Int) < (n : Int)) = false := by simp; omega
  go_enter Tryd.func79, Tryd.ntmps79
  go_wp2_with fail
  refine (mul_one n _ hn).mono ?_
  rintro e w' ⟨rfl, rfl⟩
  have HC := Lib.hid hc
  clear hc
  have hcell : (w.alloc (.cells (madeCells #[.int .i64 0] n) 3)).cell? ⟨b, 0, none⟩ = some (.int .i64 (-1)) := by
    have h : Below w.heap.size w (w.alloc (.cells (madeCells #[.int .i64 0] n) 3)) := (Below.refl _ _).alloc (Nat.le_refl _) _
    exact (h.cell (p := ⟨b, 0, none⟩) hb).trans HC.out
  have HC2 := Lib.hid hcell
  clear hcell
  have q1 : (w.alloc (.cells (madeCells #[.int .i64 0] n) 3)).heap[w.heap.size]? = some (.cells (repL (.int .i64 (-1)) (.int .i64 0) n 0).toArray 3 (0, 0)) := (heap_alloc_new w _).trans (by rw [made_rep (.int .i64 (-1))])
  have q2 : [Value.int .i64 (-1)].length = Nat.min 1 n := (Nat.min_eq_left hn1).symm
  have q4 : 0 + [Value.int .i64 (-1)].length ≤ (repL (.int .i64 (-1)) (.int .i64 0) n 0).length := by rw [repL_length _ _ (Nat.zero_le _)]; simpa using hn1
  have q5 : ∀ v ∈ [Value.int .i64 (-1)], v.oneCell' = true := by simp [Value.oneCell']
  have q6 : Below w.heap.size w (w.alloc (.cells (madeCells #[.int .i64 0] n) 3)) := (Below.refl _ _).alloc (Nat.le_refl _) _
  have Q1 := Lib.hid q1; have Q2 := Lib.hid q2; have Q4 := Lib.hid q4; have Q5 := Lib.hid q5; have Q6 := Lib.hid q6
  clear q1 q2 q4 q5 q6
  go_upto_region 7 with (fail)
  go_wp2_with (((with_reducible refine wpList_copy_splice rfl (.tmp 31) (.tmp 32) 22 22 rfl 3 Tryd.underlying22 int_size (some ⟨w.heap.size, 0, none⟩) (some ⟨b, 0, none⟩) n n 1 d rfl rfl w.heap.size 0 (repL (.int .i64 (-1)) (.int .i64 0) n 0) 3 Q1.out [.int .i64 (-1)] Q2.out (one_src _ b _ HC2.out _) Q4.out Q5.out w.heap.size w Q6.out (Nat.le_refl _) ?_)); intro w2 HG HB)
  have hg1 := HG.out
  rw [show [Value.int .i64 (-1)] = List.replicate 1 (Value.int .i64 (-1)) from rfl, repL_splice _ _ (by omega : 0 + 1 ≤ n)] at hg1
  have HG1 := Lib.hid hg1
  clear hg1 HG HC HC2 Q1 Q2 Q4 Q5 Q6 hmk hW hd
  go_loopw [8] (fun i wr => ∃ k : Nat, 1 ≤ k ∧ k ≤ n ∧ i = .int .i64 k ∧ Hid (wr.heap[w.heap.size]? = some (.cells (repL (.int .i64 (-1)) (.int .i64 0) n k).toArray 3 (0, 0))) ∧ Below w.heap.size w wr) (fun i _ => n - (intOf i).toNat)
  case atStart => exact ⟨1, by omega, by omega, rfl, HG1, HB⟩
  case round =>
    obtain ⟨k, hk1, hk, rfl, HR, hb⟩ := hrel
    have HBr := Lib.hid hb
    clear hb HG1 HB
    by_cases hlt : k < n
    · obtain ⟨j, hj⟩ : ∃ j, Nat.min k (n - k) = j := ⟨_, rfl⟩
      have hj1 : 1 ≤ j ∧ k + j ≤ n := by
        have h1 : Nat.min k (n - k) ≤ n - k := Nat.min_le_right _ _
        have h2 : 1 ≤ Nat.min k (n - k) := Nat.le_min.2 ⟨hk1, by omega⟩
        omega
      have hki : (0 : Int) ≤ (k : Int) := Int.natCast_nonneg _
      have hkn : (k : Int) ≤ (n : Int) := by omega
      have Q1 : Hid (wr.drew.heap[w.heap.size]? = some (.cells (repL (.int .i64 (-1)) (.int .i64 0) n k).toArray 3 (0, 0))) := HR
      have Q2 := Lib.hid (show (List.replicate j (Value.int .i64 (-1))).length = Nat.min k (n - k) by simp [hj])
      have Q4 := Lib.hid (show k + (List.replicate j (Value.int .i64 (-1))).length ≤ (repL (.int .i64 (-1)) (.int .i64 0) n k).length by rw [repL_length _ _ hk]; simp; omega)
      have Q5 := Lib.hid (show ∀ v ∈ List.replicate j (Value.int .i64 (-1)), v.oneCell' = true by simp [Value.oneCell'])
      have Q6 := Lib.hid (show Below w.heap.size w wr.drew from HBr.out.drew)
      have Q3 := rep_src wr.drew w.heap.size n k j (.int .i64 (-1)) (.int .i64 0) Q1 (by rw [← hj]; exact Nat.min_le_left _ _) (some ⟨w.heap.size, k, none⟩)
      have hw1 : IntKind.i64.wrap ((k : Int) + (j : Int)) = ((k + j : Nat) : Int) := by rw [wrap_in (by omega)]; omega
      have hne : ¬ (n = k) := by omega
      have HJ := Lib.hid hj
      clear hj
      go_wp2_with (fail)
      go_region_law (first | ((refine step_copy_splice rfl (.tmp 41) (.tmp 44) 22 22 rfl 3 Tryd.underlying22 int_size (some ⟨w.heap.size, k, none⟩) (some ⟨w.heap.size, 0, none⟩) (n - k) (n - k) k n (by simp [go_sem]) (by simp [go_sem]) w.heap.size k (repL (.int .i64 (-1)) (.int .i64 0) n k) 3 Q1.out (List.replicate j (.int .i64 (-1))) Q2.out Q3.src Q4.out Q5.out w.heap.size w Q6.out (Nat.le_refl _) ?_); intro w4 hg4 hb4))
      go_simp
      go_roundw
      case rel =>
        have hg5 : Hid (w4.heap[w.heap.size]? = some (.cells (repL (.int .i64 (-1)) (.int .i64 0) n (k + j)).toArray 3 (0, 0))) := Lib.hid (by have h := hg4.out; rw [repL_splice _ _ hj1.2] at h; exact h)
        (repeat apply Exists.intro)
        exact ⟨⟨k + j, by omega, by omega, by first | rfl | go_num, hg5, hb4⟩, rfl⟩
      case measure => simp [intOf]; omega
    · have hkn : k = n := by omega
      subst hkn
      have HA : Arr wr 3 w.heap.size k (fun _ => .int .i64 (-1)) := ⟨_, HR.out, by simp [repL], fun j hj => by simpa using repL_get _ _ hj⟩
      go_wp2
      go_ret
      exact ⟨_, rfl, Nat.le_refl _, HA, HBr.out⟩
end Go.Proofs.YtmcimfblhpflnaaDoor
