import Derived.Test.YtmkdikoogbedkaaDoorJ
import Derived.Test.YtmkdikoogbedkaaDoorY
import Derived.Test.YtmkdikoogbedkaaDoorMB
namespace Go.Proofs.YtmkdikoogbedkaaDoor
open Go.RowKit
set_option maxHeartbeats 1000000
/-- The first k names are buttons, and no two are the same. -/
def NamesTo (n k : Nat) (v : Nat → Int) : Prop := ∀ j, j < k → (0 ≤ v j ∧ v j ≤ (n : Int) - 1) ∧ ∀ i, i < j → v i ≠ v j
/-- Is v a list of names, each button once? -/
noncomputable def namesB (n m : Nat) (v : Nat → Int) : Bool := @decide (m = n ∧ NamesTo n m v) (Classical.propDecidable _)
theorem namesB_yes {n m : Nat} {v : Nat → Int} (h : m = n) (h2 : NamesTo n m v) : namesB n m v = true := by simp [namesB, h]; exact h ▸ h2
theorem namesB_no {n m : Nat} {v : Nat → Int} (h : ¬ (m = n ∧ NamesTo n m v)) : namesB n m v = false := by simp only [namesB, decide_eq_false_iff_not]; exact h
theorem namesB_iff {n m : Nat} {v : Nat → Int} : namesB n m v = true ↔ m = n ∧ NamesTo n m v := by simp only [namesB, decide_eq_true_eq]
theorem NamesTo.zero (n : Nat) (v : Nat → Int) : NamesTo n 0 v := fun j hj => absurd hj (by omega)
theorem NamesTo.step {n k : Nat} {v : Nat → Int} (h : NamesTo n k v) (h1 : 0 ≤ v k ∧ v k ≤ (n : Int) - 1) (h2 : ∀ i, i < k → v i ≠ v k) : NamesTo n (k + 1) v := fun j hj => by
  by_cases e : j = k
  · subst e; exact ⟨h1, h2⟩
  · exact h j (by omega)
theorem isRenaming_any (g n c : Nat) (own : Bool) (A : Option Addr) (m mc : Nat) (v : Nat → Int) (w : World) (hn : n ≤ 16) (hm : m ≤ 1048576) (_ : g < w.heap.size) (hs : Src w A m (iv v)) :
    Calls Tryd.prog 36 #[.agg #[.slice (some ⟨g, 0, none⟩) n c, .bool own], .slice A m mc] w fun e w' => e = .returned (.bool (namesB n m v)) ∧ Below w.heap.size w w' := by
  have HS := hide hs
  clear hs
  by_cases hmn : m = n
  · subst hmn
    have e1 : ((m : Int) != (m : Int)) = false := by simp
    go_enter Tryd.func36, Tryd.ntmps36
    go_wp2
    go_loopw [5, 16] (fun s i wr => ∃ k S : Nat, k ≤ m ∧ i = .int .i64 k ∧ s = .int .i64 S ∧ S < 65536 ∧ Hid (∀ x, S.testBit x = true ↔ ∃ j, j < k ∧ v j = (x : Int)) ∧ Hid (NamesTo m k v) ∧ Arr wr 31 w.heap.size 2 (bx (.slice (some ⟨g, 0, none⟩) m c) (.bool own)) ∧ Below w.heap.size w wr) (fun _ i _ => m - (intOf i).toNat)
    case atStart => exact ⟨0, 0, by omega, rfl, rfl, by omega, hide fun x => by simp, hide (NamesTo.zero _ _), Arr.box w 31 _ _, by go_grown⟩
    case round =>
      obtain ⟨k, S, hk, rfl, rfl, hS, HK, HN, hbx, hb⟩ := hrel
      have c0 : wr.cell? ⟨w.heap.size, 0, none⟩ = some (.slice (some ⟨g, 0, none⟩) m c) := hbx.cell (by omega)
      have c1 : wr.cell? ⟨w.heap.size, 1, none⟩ = some (.bool own) := hbx.cell (by omega)
      have HB := hide hb
      have HX := hide hbx
      clear hb hbx
      by_cases hlt : k < m
      · obtain ⟨b, off, hA, hbl, hc0⟩ := HS.out k hlt
        have hc : wr.cell? ⟨b, off + k, none⟩ = some (.int .i64 (v k)) := (HB.out.cell (p := ⟨b, off + k, none⟩) hbl).trans hc0
        clear hc0
        subst hA
        cases hin : inB (v k) 0 (m - 1)
        · go_wp2_with (go_at_call 56; refine (isButton_any _ _ _ _ _ _ (by omega)).mono ?_; rintro e w2 ⟨rfl, hb2⟩; simp only [hin])
          go_ret
          have hno : namesB m m v = false := namesB_no fun h => by
            simp only [inB, decide_eq_false_iff_not] at hin
            exact hin (h.2 k hlt).1
          exact ⟨by rw [hno]; rfl, HB.out.trans (hb2.mono HB.out.size)⟩
        · have hin' := hin
          simp only [inB, decide_eq_true_eq] at hin'
          obtain ⟨x, hx⟩ : ∃ x : Nat, v k = (x : Int) := ⟨(v k).toNat, by omega⟩
          have hxm : x < m := by omega
          rw [hx] at hc hin
          have hbt : bt (S : Int) x = S.testBit x := bt_nat S x
          cases hbit : S.testBit x
          · have hor := or_wrap S x hS (by omega)
            go_wp2_with (first | (go_at_call 56; refine (isButton_any _ _ _ _ _ _ (by omega)).mono ?_; rintro e w2 ⟨rfl, hb2⟩; simp only [hin]) | (go_at_call 54; refine (has_any _ _ (by omega) (by omega) _).mono ?_; rintro e w3 ⟨rfl, rfl⟩; simp only [Int.toNat_natCast, hbt, hbit]))
            go_roundw
            case rel =>
              refine ⟨k + 1, S ||| 2 ^ x, by omega, by go_num, rfl, or_lt16 hS (pow_lt16 (by omega)), hide fun y => ?_, hide (HN.out.step hin' fun i hi e => ?_), HX.out.all hb2, HB.out.trans (hb2.mono HB.out.size)⟩
              · rw [Nat.testBit_or, Nat.testBit_two_pow, Bool.or_eq_true, HK.out y, decide_eq_true_eq]
                constructor
                · rintro (⟨j, hj, e⟩ | rfl)
                  · exact ⟨j, by omega, e⟩
                  · exact ⟨k, by omega, hx⟩
                · rintro ⟨j, hj, e⟩
                  by_cases hjk : j = k
                  · subst hjk; right; omega
                  · left; exact ⟨j, by omega, e⟩
              · have := (HK.out x).2 ⟨i, hi, by rw [e, hx]⟩
                rw [hbit] at this
                cases this
            case measure => simp [intOf]; omega
          · go_wp2_with (first | (go_at_call 56; refine (isButton_any _ _ _ _ _ _ (by omega)).mono ?_; rintro e w2 ⟨rfl, hb2⟩; simp only [hin]) | (go_at_call 54; refine (has_any _ _ (by omega) (by omega) _).mono ?_; rintro e w3 ⟨rfl, rfl⟩; simp only [Int.toNat_natCast, hbt, hbit]))
            go_ret
            have hno : namesB m m v = false := namesB_no fun h => by
              obtain ⟨j, hj, e⟩ := (HK.out x).1 hbit
              exact (h.2 k hlt).2 j hj (by rw [e, hx])
            exact ⟨by rw [hno]; rfl, HB.out.trans (hb2.mono HB.out.size)⟩
      · have hkm : k = m := by omega
        subst hkm
        go_wp2
        go_ret
        exact ⟨by rw [namesB_yes rfl HN.out]; rfl, HB.out⟩
  · have e1 : ((m : Int) != (n : Int)) = true := by simp; omega
    go_enter Tryd.func36, Tryd.ntmps36
    go_wp2
    go_ret
    exact ⟨by rw [namesB_no (fun h => hmn h.1)]; rfl, by go_grown⟩
end Go.Proofs.YtmkdikoogbedkaaDoor
