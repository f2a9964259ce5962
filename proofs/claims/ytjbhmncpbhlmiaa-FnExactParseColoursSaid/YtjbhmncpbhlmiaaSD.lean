/-
ParseColours: both sides.
-/
import Derived.Test.YtjbhmncpbhlmiaaSA
import Derived.Test.YtjbhmncpbhlmiaaCC
import Derived.Test.YtjbhmncpbhlmiaaSB
namespace Go.Proofs.Ytjbhmncpbhlmiaa
open Go.RowKit
set_option maxHeartbeats 1000000
/-- A string's byte, less '0'. -/
def sb (s : ByteArray) (k : Nat) : Int := ((s.data[k]?.getD 0).toNat : Int)
def sq (s : ByteArray) (k : Nat) : Int := sb s k - 48
theorem sb_range (s : ByteArray) (k : Nat) : 0 ≤ sb s k ∧ sb s k ≤ 255 := by
  unfold sb
  have := (s.data[k]?.getD 0).toNat_lt
  omega
/-- Are these 1 to 10 digits? -/
def digB (s : ByteArray) : Bool := inB s.size 1 10 && allB s.size (sq s) 0 9
def ParNo (w : World) (e : Ending) (w' : World) : Prop := e = .returned (.tuple #[.slice none 0 0, .bool false]) ∧ Below w.heap.size w w'
def ParSrc (w : World) (n : Nat) (p : Nat → Int) (e : Ending) (w' : World) : Prop := ∃ A d, e = .returned (.tuple #[.slice A n d, .bool true]) ∧ Src w' A n (iv p) ∧ Below w.heap.size w w'
def ParArr (w : World) (n : Nat) (p : Nat → Int) (e : Ending) (w' : World) : Prop := ∃ g d, e = .returned (.tuple #[.slice (some ⟨g, 0, none⟩) n d, .bool true]) ∧ w.heap.size ≤ g ∧ Arr w' 3 g n (iv p) ∧ Below w.heap.size w w'
def ParImpl (s : ByteArray) (w : World) (e : Ending) (w' : World) : Prop := if digB s = true then ParArr w s.size (sq s) e w' else ParNo w e w'
theorem parImpl_any (s : ByteArray) (w : World) (hn : s.size ≤ 1048576) :
    Calls Try.prog 16 #[.string s] w (ParImpl s w) := by
  have hmk := run_make_row' (P := Try.prog) 22 3 (.int .i64 0) 8 Try.underlying22 int_info rfl .i64 .i64 s.size (by omega) (by omega)
  go_enter Try.func16, Try.ntmps16
  go_wp2
  go_loopw [13] (fun i wr => ∃ k : Nat, k ≤ s.size ∧ i = .int .i64 k ∧ Hid (Arr wr 3 w.heap.size s.size (fun j => if j < k then .int .i64 (sq s j) else .int .i64 0)) ∧ Below w.heap.size w wr) (fun i _ => s.size - (intOf i).toNat)
  case atStart => exact ⟨0, Nat.zero_le _, rfl, hide ((Arr.made w _ s.size 3).congr (fun k hk => by simp)), by go_grown⟩
  case round =>
    obtain ⟨k, hk, rfl, HK, hb⟩ := hrel
    have HB := hide hb
    have hz := hb.size
    by_cases hlt : k < s.size
    · have hck := HK.out.cell hlt
      have hfk := HK.out.frozen k
      have hl := HK.out.lt
      have e1 : RowKit.wrap64 (RowKit.wrap64 ((s[k]'hlt).toNat : Int) - 48) = sq s k := by
        have h1 : ((s[k]'hlt).toNat : Int) = sb s k := by
          have : s.data[k]? = some s[k] := by rw [Array.getElem?_eq_getElem hlt]; rfl
          simp [sb, this]
        have h2 := sb_range s k
        rw [h1, IntWalk.wrap64_in (sb s k) (by omega), IntWalk.wrap64_in _ (by omega)]
        rfl
      clear hb
      go_wp2
      try simp only [e1]
      go_roundw
      case rel =>
        refine ⟨k + 1, by omega, by go_num, hide ((HK.out.set k _).congr fun j hj => ?_), HB.out.setCell (Nat.le_refl _) _⟩
        by_cases hjk : j = k
        · subst hjk; simp
        · simp only [hjk, if_false]
          by_cases h3 : j < k
          · rw [if_pos h3, if_pos (by omega)]
          · rw [if_neg h3, if_neg (by omega)]
      case measure => simp [intOf]; omega
    · have hkn : k = s.size := by omega
      subst hkn
      have HA := hide (HK.out.congr (f' := iv (sq s)) (fun j hj => by rw [if_pos hj]; rfl))
      clear hb
      cases hd : digB s
      · have hd' : (inB s.size 1 10 && allB s.size (sq s) 0 9) = false := hd
        go_wp2_with (go_at_call 14; refine (textImpl_any _ _ _ (sq s) _ hn (Src.of_arr HA.out)).mono ?_; rintro e w3 ⟨rfl, hb3⟩; rw [hd'])
        go_ret2
        unfold ParImpl
        rw [if_neg (by rw [hd]; simp)]
        exact ⟨rfl, HB.out.trans (hb3.mono hz)⟩
      · have hd' : (inB s.size 1 10 && allB s.size (sq s) 0 9) = true := hd
        go_wp2_with (go_at_call 14; refine (textImpl_any _ _ _ (sq s) _ hn (Src.of_arr HA.out)).mono ?_; rintro e w3 ⟨rfl, hb3⟩; rw [hd'])
        go_ret2
        unfold ParImpl
        rw [if_pos hd]
        exact ⟨_, _, rfl, Nat.le_refl _, HA.out.all hb3, HB.out.trans (hb3.mono hz)⟩
def ParSpec (s : ByteArray) (w : World) (e : Ending) (w' : World) : Prop := if digB s = true then ParSrc w s.size (sq s) e w' else ParNo w e w'
theorem ParSpec.no {s : ByteArray} {w : World} {e : Ending} {w' : World} (h : digB s = false) (h2 : ParNo w e w') : ParSpec s w e w' := by unfold ParSpec; rw [if_neg (by rw [h]; simp)]; exact h2
theorem ParSpec.yes {s : ByteArray} {w : World} {e : Ending} {w' : World} (h : digB s = true) (h2 : ParSrc w s.size (sq s) e w') : ParSpec s w e w' := by unfold ParSpec; rw [if_pos h]; exact h2
/-- The digits as natural numbers. -/
def dl (s : ByteArray) (k : Nat) : List Nat := (List.range k).map fun j => (sq s j).toNat
theorem dl_succ (s : ByteArray) (k : Nat) : dl s (k + 1) = dl s k ++ [(sq s k).toNat] := by simp [dl, List.range_succ]
theorem dl_length (s : ByteArray) (k : Nat) : (dl s k).length = k := by simp [dl]
theorem parC_any (s : ByteArray) (w : World) (hn : s.size ≤ 1048576) : Calls Try.prog 27 #[.string s] w (ParSpec s w) := by
  cases h1 : inB s.size 1 10
  · have hd : digB s = false := by simp [digB, h1]
    go_enter Try.func27, Try.ntmps27
    go_wp2_with (go_at_call 24; refine (l1InG_any _ _ _ _).mono ?_; rintro e w' ⟨rfl, hw'⟩; subst w'; rw [h1])
    go_ret2
    exact ParSpec.no hd ⟨rfl, Below.refl _ _⟩
  · have hn10 : s.size ≤ 10 := by simp [inB] at h1; omega
    go_enter Try.func27, Try.ntmps27
    go_wp2_with (go_at_call 24; refine (l1InG_any _ _ _ _).mono ?_; rintro e w' ⟨rfl, hw'⟩; subst w'; rw [h1])
    go_loopw [4, 5] (fun O i wr => ∃ (k d : Nat) (A : Option Addr), k ≤ s.size ∧ i = .int .i64 k ∧ O = .slice A k d ∧ Hid (OL wr w.heap.size (.slice A k d) (dl s k)) ∧ Hid (∀ j, j < k → 0 ≤ sq s j ∧ sq s j ≤ 9) ∧ Below w.heap.size w wr) (fun _ i _ => s.size - (intOf i).toNat)
    case atStart => exact ⟨0, 0, none, Nat.zero_le _, rfl, rfl, hide (OL.nil _ _), hide (fun j hj => absurd hj (by omega)), Below.refl _ _⟩
    case round =>
      obtain ⟨k, d, A, hk, rfl, rfl, HO, HJ, hb⟩ := hrel
      have HB := hide hb
      have hz := hb.size
      clear hb
      by_cases hlt : k < s.size
      · have h0 : ((s[k]'hlt).toNat : Int) = sb s k := by
          have : s.data[k]? = some s[k] := by rw [Array.getElem?_eq_getElem hlt]; rfl
          simp [sb, this]
        have hr := sb_range s k
        by_cases g1 : sb s k < 48
        · have hd : digB s = false := by
            simp only [digB, Bool.and_eq_false_iff]
            right
            simp only [allB, decide_eq_false_iff_not]
            intro h
            have := h k hlt
            unfold sq at this; omega
          have g1' : ((s[k]'hlt).toNat : Int) < 48 := by omega
          go_wp2
          go_ret2
          exact ParSpec.no hd ⟨rfl, HB.out⟩
        · have g1' : ¬ ((s[k]'hlt).toNat : Int) < 48 := by omega
          by_cases g2 : 57 < sb s k
          · have hd : digB s = false := by
              simp only [digB, Bool.and_eq_false_iff]
              right
              simp only [allB, decide_eq_false_iff_not]
              intro h
              have := h k hlt
              unfold sq at this; omega
            have g2' : (57 : Int) < ((s[k]'hlt).toNat : Int) := by omega
            go_wp2
            go_ret2
            exact ParSpec.no hd ⟨rfl, HB.out⟩
          · have g2' : ¬ (57 : Int) < ((s[k]'hlt).toNat : Int) := by omega
            obtain ⟨x, hx⟩ : ∃ x : Nat, sq s k = (x : Int) := ⟨(sq s k).toNat, by unfold sq; omega⟩
            have hx9 : x ≤ 9 := by unfold sq at hx; omega
            have hxs : ((s[k]'hlt).toNat : Int) - 48 = (x : Int) := by rw [h0]; exact hx
            have HX := hide hx
            have e2 : IntKind.u8.wrap (((s[k]'hlt).toNat : Int) - 48) = (x : Int) := by rw [hxs, IntKind.wrap_u8]; omega
            have e3 : IntKind.i64.wrap (x : Int) = (x : Int) := by rw [IntKind.wrap_i64]; omega
            have e4 : RowKit.wrap64 (x : Int) = (x : Int) := IntWalk.wrap64_in _ (by omega)
            clear hx hxs h0
            go_wp2_with (at_builtin; refine wpList_append_nat _ rfl _ _ rfl w.heap.size A d k (dl s k) x _ rfl (HO.out.alloc _) (dl_length s k) rfl (by simp [go_sem, e2, e3, e4]) (by omega) (by simp; omega) ?_; intro A5 c5 w5 ho5 hb5; have HO5 := hide ho5; have HB5 := hide hb5; clear ho5 hb5)
            go_roundw
            case rel =>
              refine ⟨k + 1, c5, A5, by omega, by go_num, rfl, hide (by rw [dl_succ, HX.out]; exact HO5.out), hide (fun j hj => ?_), by have h := HB.out; exact (by go_grown : Below w.heap.size w _).trans HB5.out⟩
              by_cases hjk : j = k
              · subst hjk; have := HX.out; omega
              · exact HJ.out j (by omega)
            case measure => simp [intOf]; omega
      · have hkn : k = s.size := by omega
        subst hkn
        have hd : digB s = true := by
          simp only [digB, h1, Bool.true_and, allB, decide_eq_true_eq]
          exact HJ.out
        have hsrc := (HO.out.src (dl_length s s.size)).congr (f' := iv (sq s)) (fun j hj => by
          have h2 := HJ.out j hj
          simp only [lv, iv, dl, List.getD_eq_getElem?_getD, List.getElem?_map, List.getElem?_range hj, Option.map_some, Option.getD_some]
          congr 1; omega)
        have HSR := hide hsrc
        clear hsrc
        go_wp2
        go_ret2
        exact ParSpec.yes hd ⟨_, _, rfl, HSR.out, HB.out⟩
theorem parSpec_any (s : ByteArray) (w : World) (hn : s.size ≤ 1048576) : Calls Try.prog 15 #[.string s] w (ParSpec s w) := by
  have HC := hide (parC_any s w hn)
  cases hd : digB s
  · have HC2 : Hid (Calls Try.prog 27 #[.string s] w (ParNo w)) := hide (HC.out.mono fun e w' h => by unfold ParSpec at h; rwa [if_neg (by rw [hd]; simp)] at h)
    clear HC
    go_enter Try.func15, Try.ntmps15
    go_wp2_with (go_at_call 27; refine HC2.out.mono ?_; rintro e w3 ⟨rfl, hb3⟩)
    go_ret2
    exact ParSpec.no hd ⟨rfl, hb3⟩
  · have HC2 : Hid (Calls Try.prog 27 #[.string s] w (ParSrc w s.size (sq s))) := hide (HC.out.mono fun e w' h => by unfold ParSpec at h; rwa [if_pos hd] at h)
    clear HC
    go_enter Try.func15, Try.ntmps15
    go_wp2_with (go_at_call 27; refine HC2.out.mono ?_; rintro e w3 ⟨A3, d3, rfl, hs3, hb3⟩; have HS3 := hide hs3; clear hs3)
    go_ret2
    exact ParSpec.yes hd ⟨_, _, rfl, HS3.out, hb3⟩
end Go.Proofs.Ytjbhmncpbhlmiaa
