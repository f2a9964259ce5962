import Derived.Test.YtibikoajejfdeaaDoorTG
import Derived.Test.YtibikoajejfdeaaDoorSB
import Derived.Test.YtibikoajejfdeaaDoorC
import Derived.Handy
import Derived.Deep.RegionWith
namespace Go.Proofs.YtibikoajejfdeaaDoor
open Go.RowKit
set_option maxHeartbeats 1000000
/-- What a call leaves that hands back a list of its own. -/
def GrownL (B : Nat) (w : World) (L : List Nat) (e : Ending) (w' : World) : Prop :=
  ∃ (A : Option Addr) (d m : Nat), e = .returned (.slice A m d) ∧ L.length = m ∧ OL w' B (.slice A m d) L ∧ Below B w w'
/-- F 1, .., F (n + 1). -/
def fl (F : Nat → Nat) (n : Nat) : List Nat := (List.range (n + 1)).map (fun k => F (k + 1))
theorem fl_succ (F : Nat → Nat) (n : Nat) : fl F (n + 1) = fl F n ++ [F (n + 2)] := by simp [fl, List.range_succ]
theorem fl_length (F : Nat → Nat) (n : Nat) : (fl F n).length = n + 1 := by simp [fl]
theorem fl_get {F : Nat → Nat} {n k : Nat} (h : k ≤ n) : lv (fl F n) k = .int .i64 (F (k + 1) : Nat) := by
  simp [lv, fl, show k < n + 1 by omega]
theorem OL.one (w : World) (x : Nat) {B : Nat} (hB : B ≤ w.heap.size) : OL (w.alloc (.cells #[.int .i64 (x : Nat)] 3)) B (.slice (some ⟨w.heap.size, 0, none⟩) 1 1) [x] := by
  refine ⟨rfl, .inr ⟨w.heap.size, 1, #[.int .i64 (x : Nat)], rfl, hB, heap_alloc_new w _, Nat.le_refl _, by decide, rfl, rfl⟩⟩
/-- The next of a row of numbers, as a closure tells it. -/
def Next (F : Nat → Nat) (n B : Nat) (w : World) : Prop :=
  ∀ k wr, k < n → Below w.heap.size w wr → Calls Tryd.prog 36 #[.int .i64 k, .int .i64 (F k : Nat), .int .i64 (F (k + 1) : Nat), .pointer (some ⟨B, 0, none⟩)] wr fun e w' => e = .returned (.int .i64 (F (k + 2) : Nat)) ∧ Below wr.heap.size wr w'
theorem patternOf_any (B n : Nat) (F : Nat → Nat) (w : World) (hn : n ≤ 65536) (h0 : F 0 = 0) (h1 : F 1 = 1) (hs : Next F n B w) :
    Calls Tryd.prog 35 #[.int .i64 1, .int .i64 n, .func (.func 36) #[] #[.pointer (some ⟨B, 0, none⟩)]] w (GrownL w.heap.size w (fl F n)) := by
  have HS := hide hs
  have H0 := hide h0
  have H1 := hide h1
  clear hs h0 h1
  go_enter Tryd.func35, Tryd.ntmps35
  go_wp2
  go_loopw [0, 7, 8, 13] (fun x v b i wr => ∃ (k : Nat) (A : Option Addr) (d : Nat), k ≤ n ∧ i = .int .i64 k ∧ x = .int .i64 (F (k + 1) : Nat) ∧ b = .int .i64 (F k : Nat) ∧ v = .slice A (k + 1) d ∧ OL wr w.heap.size (.slice A (k + 1) d) (fl F k) ∧ Below w.heap.size w wr) (fun _ _ _ i _ => n - (intOf i).toNat)
  case atStart =>
    refine ⟨0, _, 1, by omega, rfl, by rw [H1.out]; rfl, by rw [H0.out]; rfl, rfl, ?_, (Below.refl _ _).alloc (Nat.le_refl _) _⟩
    have e : fl F 0 = [1] := by show [F (0 + 1)] = _; rw [H1.out]
    rw [e]
    exact OL.one w 1 (Nat.le_refl _)
  case round =>
    obtain ⟨k, A, d, hk, rfl, rfl, rfl, rfl, ho, hb⟩ := hrel
    have hsz := hb.size
    have HO := Lib.hid ho
    have HB := Lib.hid hb
    clear ho hb
    have hm := Lib.hid (fl_length F k)
    by_cases hlt : k < n
    · have HL := Lib.hid (fl_succ F k)
      go_wp2_with fail
      refine (HS.out k _ hlt HB.out).mono ?_
      rintro e w3 ⟨rfl, hb3⟩
      have HO3 := Lib.hid (HO.out.all hb3)
      have HB3 := Lib.hid (HB.out.trans (hb3.mono (by omega)))
      have hsz3 := hb3.size
      clear hb3
      go_wp2_with (first | (at_builtin; refine wpList_append_nat _ rfl _ _ rfl w.heap.size A d (k + 1) (fl F k) (F (k + 2)) w3.heap.size rfl (HO3.out.alloc _) hm.out rfl (by simp [go_sem]) (by omega) (by simp; omega) ?_; intro A2 c2 w5 ho2 hb2; have HO2 := Lib.hid ho2; have HB2 := Lib.hid hb2; clear ho2 hb2))
      go_roundw
      case rel => exact ⟨k + 1, A2, c2, by omega, by go_num, rfl, rfl, rfl, by rw [HL.out]; exact HO2.out, (HB3.out.alloc (by omega) _).trans HB2.out⟩
      case measure => simp [intOf]; omega
    · have hkn : k = n := by omega
      subst hkn
      go_wp2
      go_ret
      exact ⟨A, d, k + 1, rfl, hm.out, HO.out, HB.out⟩
theorem fibonacci_any (n K : Nat) (g : FuncId) (caps : Array Value) (F : Nat → Nat) (w : World) (hK : (n : Int) - 1 = K) (hn : K ≤ 65536) (h0 : F 0 = 0) (h1 : F 1 = 1)
    (hs : Next F K w.heap.size (w.alloc (.cells #[.func (.func g) #[] caps] 35))) :
    Calls Tryd.prog 17 #[.int .i64 n, .func (.func g) #[] caps] w (GrownL w.heap.size w (fl F K)) := by
  have hmf : ∀ (fn : Fn) (first cap : Array Value) (w : World), (Instr.makeFunc fn first cap).run Tryd.prog w = .ok (.func fn first cap) w := fun _ _ _ _ => rfl
  have HS := hide hs
  clear hs
  go_enter Tryd.func17, Tryd.ntmps17
  go_wp2_with fail
  refine (patternOf_any _ K F _ hn h0 h1 HS.out).mono ?_
  rintro e w2 ⟨A, d, m, rfl, hm, ho, hb⟩
  have HM := Lib.hid hm
  have HO := Lib.hid ho
  have HB := Lib.hid hb
  clear hm ho hb
  go_wp2
  go_ret
  refine ⟨A, d, m, rfl, HM.out, ?_, (by go_grown : Below w.heap.size w _).trans (HB.out.mono (by simp))⟩
  exact ⟨HO.out.1, by
    rcases HO.out.2 with h | ⟨g, cap, cur, h1, h2, h3⟩
    · exact .inl h
    · exact .inr ⟨g, cap, cur, h1, by simp at h2; omega, h3⟩⟩
/-- Two numbers in memory that has just been made. -/
def f2 (a b : Nat) : Nat → Nat := fun k => if k = 0 then a else b
theorem src2 (w : World) (a b : Nat) : Src (w.alloc (.cells #[.int .i64 (a : Nat), .int .i64 (b : Nat)] 3)) (some ⟨w.heap.size, 0, none⟩) 2 (fun k => .int .i64 (f2 a b k : Nat)) := by
  apply Src.of_arr
  refine (Arr.new w #[.int .i64 (a : Nat), .int .i64 (b : Nat)] 3 (fun k => .int .i64 (f2 a b k : Nat)) ?_)
  intro i hi
  match i, hi with
  | 0, _ => rfl
  | 1, _ => rfl
theorem xs2 (a b : Nat) : xs (f2 a b) 2 = a ^^^ b := by
  show ((0 ^^^ a) ^^^ b) = _
  rw [Nat.zero_xor]
theorem f2_lt {a b : Nat} (ha : a < 4611686018427387904) (hb : b < 4611686018427387904) : ∀ k, k < 2 → f2 a b k < 2 ^ 62 := by
  intro k _
  have : (2 : Nat) ^ 62 = 4611686018427387904 := rfl
  unfold f2; split <;> omega
theorem sum2_any (g a b c : Nat) (w : World) (h0 : w.cell? ⟨g, 0, none⟩ = some (.int .i64 (a : Nat))) (h1 : w.cell? ⟨g, 1, none⟩ = some (.int .i64 (b : Nat))) (ha : a < 4611686018427387904) (hb : b < 4611686018427387904) :
    Calls Tryd.prog 37 #[.slice (some ⟨g, 0, none⟩) 2 c] w fun e w' => e = .returned (.int .i64 (a ^^^ b : Nat)) ∧ w' = w := by
  have hl := World.block_lt_of_cell? w _ h0
  rw [← xs2 a b]
  refine sum_any _ 2 c (f2 a b) w (by omega) (fun k hk => ⟨g, 0, rfl, hl, ?_⟩) (f2_lt ha hb)
  match k, hk with
  | 0, _ => exact h0
  | 1, _ => exact h1
theorem keep_id (f : Int) (w : World) : Calls Tryd.prog 18 #[.int .i64 f] w fun e w' => e = .returned (.int .i64 f) ∧ w' = w := by
  go_enter Tryd.func18, Tryd.ntmps18
  go_wp2
  go_ret
  exact ⟨rfl, rfl⟩
theorem next_id (B b f : Nat) (k : Int) (w : World) (hc : w.cell? ⟨B, 0, none⟩ = some (.func (.func 18) #[] #[])) (hf : f < 1152921504606846976) (hb : b < 4611686018427387904) :
    Calls Tryd.prog 36 #[.int .i64 k, .int .i64 (b : Nat), .int .i64 (f : Nat), .pointer (some ⟨B, 0, none⟩)] w fun e w' => e = .returned (.int .i64 (f * 2 ^^^ b : Nat)) ∧ Below w.heap.size w w' := by
  have hBl := World.block_lt_of_cell? w _ hc
  have e2 : IntKind.i64.wrap ((f : Int) * 2) = ((f * 2 : Nat) : Int) := by rw [IntWalk.i64_in _ (by omega)]; omega
  have e3 : RowKit.wrap64 ((f : Int) * 2) = ((f * 2 : Nat) : Int) := by rw [IntWalk.wrap64_in _ (by omega)]; omega
  simp only at hBl
  go_enter Tryd.func36, Tryd.ntmps36
  go_wp2
  go_region_with (first | (go_at_call 37; refine (sum2_any _ (f * 2) b _ _ (by simp [go_sem]) (by simp [go_sem]) (by omega) hb).mono ?_; rintro e w' ⟨rfl, hw⟩; subst w') | (go_at_call 18; refine (keep_id _ _).mono ?_; rintro e w' ⟨rfl, hw⟩; subst w'))
  all_goals
    go_wp2
    go_ret
    exact ⟨rfl, by go_grown⟩
theorem keep_rm (C P f : Nat) (w : World) (hc : w.cell? ⟨C, 0, none⟩ = some (.int .i64 (P : Nat))) (hP : P < 4398046511104) (hf : f < 4398046511104) (h0 : P ≠ 0) :
    Calls Tryd.prog 28 #[.int .i64 (f : Nat), .pointer (some ⟨C, 0, none⟩)] w fun e w' => e = .returned (.int .i64 (rm f P : Nat)) ∧ w' = w := by
  go_enter Tryd.func28, Tryd.ntmps28
  go_wp2_with (go_at_call 22; refine (remainder_any _ _ _ hf hP h0).mono ?_; rintro e w' ⟨rfl, hw⟩; subst w')
  go_ret
  exact ⟨rfl, rfl⟩
theorem next_rm (B C P b f : Nat) (k : Int) (w : World) (hc : w.cell? ⟨B, 0, none⟩ = some (.func (.func 28) #[] #[.pointer (some ⟨C, 0, none⟩)])) (hc2 : w.cell? ⟨C, 0, none⟩ = some (.int .i64 (P : Nat)))
    (hf : f < 1073741824) (hb : b < 1073741824) (hP : P < 4398046511104) (h0 : P ≠ 0) :
    Calls Tryd.prog 36 #[.int .i64 k, .int .i64 (b : Nat), .int .i64 (f : Nat), .pointer (some ⟨B, 0, none⟩)] w fun e w' => e = .returned (.int .i64 (rm (f * 2 ^^^ b) P : Nat)) ∧ Below w.heap.size w w' := by
  have hBl := World.block_lt_of_cell? w _ hc
  have hCl := World.block_lt_of_cell? w _ hc2
  have e2 : IntKind.i64.wrap ((f : Int) * 2) = ((f * 2 : Nat) : Int) := by rw [IntWalk.i64_in _ (by omega)]; omega
  have e3 : RowKit.wrap64 ((f : Int) * 2) = ((f * 2 : Nat) : Int) := by rw [IntWalk.wrap64_in _ (by omega)]; omega
  have hx : f * 2 ^^^ b < 4398046511104 := xor42 (by omega) (by omega)
  simp only at hBl hCl
  go_enter Tryd.func36, Tryd.ntmps36
  go_wp2
  go_region_with (first | (go_at_call 37; refine (sum2_any _ (f * 2) b _ _ (by simp [go_sem]) (by simp [go_sem]) (by omega) (by omega)).mono ?_; rintro e w' ⟨rfl, hw⟩; subst w') | (go_at_call 28; refine (keep_rm _ P _ _ (by first | exact hc2 | simpa [go_sem] using hc2 | simp [go_sem, hc2, hCl]) hP hx h0).mono ?_; rintro e w' ⟨rfl, hw⟩; subst w'))
  all_goals
    go_wp2
    go_ret
    exact ⟨rfl, by go_grown⟩
end Go.Proofs.YtibikoajejfdeaaDoor
