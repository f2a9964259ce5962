import Derived.Test.YtmcimfblhpflnaaRB
namespace Go.Proofs.Ytmcimfblhpflnaa
open Go.RowKit
set_option maxHeartbeats 1000000
/-- What a call leaves that hands back a list of its own. -/
def GrownL (B : Nat) (w : World) (L : List Nat) (e : Ending) (w' : World) : Prop :=
  ∃ (A : Option Addr) (d m : Nat), e = .returned (.slice A m d) ∧ L.length = m ∧ OL w' B (.slice A m d) L ∧ Below B w w'
/-- The rows 0..n. -/
def rows (c : Nat) (own : Bool) (l f n : Nat) : List Nat := (List.range (n + 1)).map (prw c own l f)
theorem rows_succ (c : Nat) (own : Bool) (l f n : Nat) : rows c own l f (n + 1) = rows c own l f n ++ [prw c own l f (n + 1)] := by simp [rows, List.range_succ]
theorem rows_zero (c : Nat) (own : Bool) (l f : Nat) : rows c own l f 0 = [f] := rfl
theorem rows_length (c : Nat) (own : Bool) (l f n : Nat) : (rows c own l f n).length = n + 1 := by simp [rows]
theorem rows_get {c : Nat} {own : Bool} {l f n k : Nat} (h : k ≤ n) : lv (rows c own l f n) k = .int .i64 (prw c own l f k : Nat) := by
  simp [lv, rows, show k < n + 1 by omega]
theorem OL.one (w : World) (x : Nat) {B : Nat} (hB : B ≤ w.heap.size) : OL (w.alloc (.cells #[.int .i64 (x : Nat)] 3)) B (.slice (some ⟨w.heap.size, 0, none⟩) 1 1) [x] := by
  refine ⟨rfl, .inr ⟨w.heap.size, 1, #[.int .i64 (x : Nat)], rfl, hB, heap_alloc_new w _, Nat.le_refl _, by decide, rfl, rfl⟩⟩
theorem patternOf_any (R c l f n : Nat) (own : Bool) (w : World) (hc : c ≤ 16) (hl : l < 9223372036854775808) (hn : n ≤ 65536) (hf : f < 2 ^ c) :
    Calls Try.prog 50 #[.int .i64 f, .int .i64 n, .func (.func 51) #[.agg #[.int .i64 R, .int .i64 c, .bool own, .int .i64 l]] #[]] w (GrownL w.heap.size w (rows c own l f n)) := by
  have HF := Lib.hid hf
  have HL := Lib.hid hl
  clear hf hl
  go_enter Try.func50, Try.ntmps50
  go_wp2
  go_loopw [0, 7, 8, 13] (fun x v b i wr => ∃ (k : Nat) (A : Option Addr) (d : Nat), k ≤ n ∧ i = .int .i64 k ∧ x = .int .i64 (prw c own l f k : Nat) ∧ b = .int .i64 (prb c own l f k : Nat) ∧ v = .slice A (k + 1) d ∧ OL wr w.heap.size (.slice A (k + 1) d) (rows c own l f k) ∧ Below w.heap.size w wr) (fun _ _ _ i _ => n - (intOf i).toNat)
  case atStart => exact ⟨0, _, 1, by omega, rfl, rfl, rfl, rfl, OL.one w f (Nat.le_refl _), (Below.refl _ _).alloc (Nat.le_refl _) _⟩
  case round =>
    obtain ⟨k, A, d, hk, rfl, rfl, rfl, rfl, ho, hb⟩ := hrel
    have hsz := hb.size
    have HO := Lib.hid ho
    have HB := Lib.hid hb
    clear ho hb
    have hm := Lib.hid (rows_length c own l f k)
    by_cases hlt : k < n
    · have HP := Lib.hid (prw_succ (c := c) (own := own) (l := l) (f := f) k)
      have HS := Lib.hid (rows_succ c own l f k)
      have hb1 := prb_lt (own := own) (l := l) HF.out k
      have hx1 := prw_lt (own := own) (l := l) HF.out k
      go_wp2_with fail
      refine (next_any R c l k _ _ own _ hc HL.out (by omega) hb1 hx1).mono ?_
      rintro e w3 ⟨rfl, hb3⟩
      rw [← HP.out]
      have HO3 := Lib.hid (HO.out.all hb3)
      have HB3 := Lib.hid (HB.out.trans (hb3.mono (by omega)))
      have hsz3 := hb3.size
      clear hb3 hb1 hx1
      go_wp2_with (first | (at_builtin; refine wpList_append_nat _ rfl _ _ rfl w.heap.size A d (k + 1) (rows c own l f k) (prw c own l f (k + 1)) w3.heap.size rfl (HO3.out.alloc _) hm.out rfl (by simp [go_sem]) (by omega) (by simp; omega) ?_; intro A2 c2 w5 ho2 hb2; have HO2 := Lib.hid ho2; have HB2 := Lib.hid hb2; clear ho2 hb2))
      go_roundw
      case rel => exact ⟨k + 1, A2, c2, by omega, by go_num, rfl, rfl, rfl, by rw [HS.out]; exact HO2.out, (HB3.out.alloc (by omega) _).trans HB2.out⟩
      case measure => simp [intOf]; omega
    · have hkn : k = n := by omega
      subst hkn
      go_wp2
      go_ret
      exact ⟨A, d, k + 1, rfl, hm.out, HO.out, HB.out⟩
theorem pattern_any (R c l f : Nat) (own : Bool) (w : World) (hc : c ≤ 16) (hl : l < 9223372036854775808) (hR : R ≤ 65536) (hf : f < 2 ^ c) :
    Calls Try.prog 49 #[.agg #[.int .i64 R, .int .i64 c, .bool own, .int .i64 l], .int .i64 f] w (GrownL w.heap.size w (rows c own l f R)) := by
  have hmf : ∀ (fn : Fn) (first cap : Array Value) (w : World), (Instr.makeFunc fn first cap).run Try.prog w = .ok (.func fn first cap) w := fun _ _ _ _ => rfl
  go_enter Try.func49, Try.ntmps49
  go_wp2_with fail
  refine (patternOf_any R c l f R own _ hc hl hR hf).mono ?_
  rintro e w2 ⟨A, d, m, rfl, hm, ho, hb⟩
  have HM := Lib.hid hm
  have HO := Lib.hid ho
  have HB := Lib.hid hb
  clear hm ho hb
  go_wp2
  go_ret
  refine ⟨A, d, m, rfl, HM.out, ?_, (by go_grown : Below w.heap.size w _).trans (HB.out.mono (by simp))⟩
  exact ⟨HO.out.1, by
    rcases HO.out.2 with h | ⟨g, cap, cur, h1, h2, h3⟩
    · exact .inl h
    · exact .inr ⟨g, cap, cur, h1, by simp at h2; omega, h3⟩⟩
end Go.Proofs.Ytmcimfblhpflnaa
