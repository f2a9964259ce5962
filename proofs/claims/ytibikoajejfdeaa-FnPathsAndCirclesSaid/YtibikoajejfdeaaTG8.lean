/-
The map of a graph: both sides.
-/
import Derived.Test.YtibikoajejfdeaaAL
import Derived.Test.YtibikoajejfdeaaF
import Derived.Test.YtibikoajejfdeaaK
import Derived.Test.YtibikoajejfdeaaZB
import Derived.RegionTactic
import Derived.Deep.RegionHeld3
import Derived.Handy
namespace Go.Proofs.Ytibikoajejfdeaa
open Go.RowKit
set_option maxHeartbeats 2000000
/-- What the button i toggles. -/
def tog (F : Nat → Nat) (own : Bool) (i : Nat) : Nat := if own then F i ||| 2 ^ i else F i
theorem tog_lt2 {F : Nat → Nat} {own : Bool} {n i : Nat} (hi : i < n) (h : F i < 2 ^ n) : tog F own i < 2 ^ n := by
  unfold tog
  split
  · exact Nat.or_lt_two_pow h (Nat.pow_lt_pow_right (by decide) hi)
  · exact h
theorem toggles_any (g n c : Nat) (F : Nat → Nat) (own : Bool) (i : Nat) (w : World) (hn : n ≤ 16) (hi : i < n) (hF : F i < 65536) (ha : Arr w 3 g n (iv (nv F))) :
    Calls Try.prog 43 #[.agg #[.slice (some ⟨g, 0, none⟩) n c, .bool own], .int .i64 i] w fun e w' => e = .returned (.int .i64 (tog F own i : Nat)) ∧ Below w.heap.size w w' := by
  have hgl := ha.lt
  have h1 : w.cell? ⟨g, i, none⟩ = some (.int .i64 (F i : Nat)) := ha.cell hi
  have e1 := or_wrap (F i) i hF (by omega)
  clear ha
  cases own
  · go_enter Try.func43, Try.ntmps43
    go_wp2
    go_ret
    exact ⟨rfl, by go_grown⟩
  · go_enter Try.func43, Try.ntmps43
    go_wp2
    go_region
    all_goals
      go_wp2
      go_ret
      exact ⟨rfl, by go_grown⟩
/-- What a call leaves that hands back a list of n > 0 numbers. -/
def NewSets (w : World) (n : Nat) (S : Nat → Nat) (e : Ending) (w' : World) : Prop :=
  ∃ g d, e = .returned (.slice (some ⟨g, 0, none⟩) n d) ∧ w.heap.size ≤ g ∧ Arr w' 3 g n (iv (nv S)) ∧ Below w.heap.size w w'
theorem allToggles_any (g n c : Nat) (F : Nat → Nat) (own : Bool) (w : World) (hn : n ≤ 16) (hF : ∀ k, k < n → F k < 65536) (ha : Arr w 3 g n (iv (nv F))) :
    Calls Try.prog 30 #[.agg #[.slice (some ⟨g, 0, none⟩) n c, .bool own]] w (NewSets w n (tog F own)) := by
  have hmk := run_make_row' (P := Try.prog) 27 3 (.int .i64 0) 8 Try.underlying27 int_info rfl .i64 .i64 n (by omega) (by omega)
  have HF := hide hF
  have HA := hide (ha.alloc (.cells #[.slice (some ⟨g, 0, none⟩) n c, .bool own] 29))
  have hgl := ha.lt
  clear hF ha
  go_enter Try.func30, Try.ntmps30
  go_wp2
  go_loopw [11] (fun i wr => ∃ k : Nat, k ≤ n ∧ i = .int .i64 k ∧ Arr wr 3 (w.heap.size + 1) n (fun j => if j < k then iv (nv (tog F own)) j else .int .i64 0) ∧ Below (w.heap.size + 1) (w.alloc (.cells #[.slice (some ⟨g, 0, none⟩) n c, .bool own] 29)) wr)
    (fun i _ => n - (intOf i).toNat)
  case atStart => exact ⟨0, Nat.zero_le _, rfl, (Arr.made_at _ _ n 3 (by simp) (fun k hk => by simp)), (by go_grown)⟩
  case round =>
    obtain ⟨k, hk, rfl, ha, hb⟩ := hrel
    have hp := (Arr.box w 29 (.slice (some ⟨g, 0, none⟩) n c) (.bool own)).below hb (by omega)
    by_cases hlt : k < n
    · have c0 : wr.cell? ⟨w.heap.size, 0, none⟩ = some (.slice (some ⟨g, 0, none⟩) n c) := hp.cell (by omega)
      have c1 : wr.cell? ⟨w.heap.size, 1, none⟩ = some (.bool own) := hp.cell (by omega)
      have hlr : w.heap.size < wr.heap.size := hp.lt
      have HAg := hide (HA.out.all (hb.mono (by simp)))
      have hx16 := HF.out k hlt
      obtain ⟨y, hy⟩ : ∃ y, tog F own k = y := ⟨_, rfl⟩
      have HAr := hide ha
      have HB := hide hb
      have HY := hide hy
      have hki : (k : Int) < n := by omega
      clear ha hb hp hy
      go_wp2_with fail
      refine (toggles_any _ _ _ F own k _ hn hlt hx16 HAg.out).mono ?_
      rintro e w3 ⟨rfl, hb3⟩
      rw [HY.out]
      have ha3 := HAr.out.all hb3
      have hw := ha3.cell hlt
      have hz := ha3.frozen k
      have hl3 : w.heap.size + 1 < w3.heap.size := ha3.lt
      have HA3 := hide ha3
      have HB3 := hide (HB.out.trans (hb3.mono (by omega)))
      clear ha3 hb3 c0 c1
      go_wp2
      go_roundw
      case rel =>
        refine ⟨k + 1, by omega, by go_num, (HA3.out.set k _).congr (fun j hj => ?_), HB3.out.setCell (Nat.le_refl _) _⟩
        by_cases hjk : j = k
        · subst hjk; simp [iv, nv, HY.out]
        · simp only [hjk, if_false]
          by_cases h2 : j < k
          · rw [if_pos h2, if_pos (by omega)]
          · rw [if_neg h2, if_neg (by omega)]
      case measure => simp [intOf]; omega
    · have HB := hide hb
      have HAr := hide ha
      have hkn : k = n := by omega
      subst hkn
      clear ha hb hp
      go_wp2
      go_ret
      exact ⟨w.heap.size + 1, k, rfl, by omega, HAr.out.congr (fun j hj => by simp [hj]), (by go_grown : Below w.heap.size w _).trans (HB.out.mono (by simp))⟩
/-- What the first k buttons toggle. -/
def tgL (F : Nat → Nat) (own : Bool) (k : Nat) : List Nat := (List.range k).map (tog F own)
theorem tgL_succ (F : Nat → Nat) (own : Bool) (k : Nat) : tgL F own (k + 1) = tgL F own k ++ [tog F own k] := by simp [tgL, List.range_succ]
theorem tgL_len (F : Nat → Nat) (own : Bool) (k : Nat) : (tgL F own k).length = k := by simp [tgL]
/-- A list that a call owns, as cells. -/
theorem own_arr {w w' : World} {A : Option Addr} {n d : Nat} {S : Nat → Nat} {L : List Nat} (h1 : 0 < n) (hl : L.length = n) (hL : ∀ k, k < n → L.getD k 0 = S k) (ho : OL w' w.heap.size (.slice A n d) L) : ∃ g, A = some ⟨g, 0, none⟩ ∧ w.heap.size ≤ g ∧ Arr w' 3 g n (iv (nv S)) := by
  obtain ⟨h0, h | ⟨g, cap, cur, h1, h2, h3, h4, h5, h6, h7⟩⟩ := ho
  · omega
  · injection h1 with a b e
    subst a e
    refine ⟨g, rfl, h2, cur, h3, by omega, fun k hk => ?_⟩
    have h8 : (cur.toList.take (L.length * 1))[k]? = (rowL L.length (lv L))[k]? := by rw [h7, vl_row]
    rw [rowL_get _ _ _ (by omega), List.getElem?_take_of_lt (by omega)] at h8
    have h9 : cur[k]? = some (lv L k) := by simpa using h8
    rw [h9]
    simp only [lv, iv, nv, hL k hk]
theorem tgL_get (F : Nat → Nat) (own : Bool) (n k : Nat) (h : k < n) : (tgL F own n).getD k 0 = tog F own k := by simp [tgL, h]
end Go.Proofs.Ytibikoajejfdeaa
