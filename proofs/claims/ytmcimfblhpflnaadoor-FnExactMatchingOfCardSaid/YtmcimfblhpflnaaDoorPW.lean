/-
The parts of a graph, as the model lists them.
-/
import Derived.Test.YtmcimfblhpflnaaDoorKQ
import Derived.Test.YtmcimfblhpflnaaDoorSB
import Derived.Test.YtmcimfblhpflnaaDoorD
namespace Go.Proofs.YtmcimfblhpflnaaDoor
open Go.RowKit
set_option maxHeartbeats 2000000
theorem Good.sym {n : Nat} {F : Nat → Nat} (h : Good n (nv F)) : Sym F n := by
  obtain ⟨_, _, h3, h4⟩ := h
  constructor
  · intro i hi j hj
    apply Nat.lt_of_not_le
    intro hle
    have h5 := (h3 i hi).2
    have h6 : F i < 2 ^ n := by have : ((F i : Nat) : Int) < ((2 ^ n : Nat) : Int) := by rw [pow_nat]; exact h5
                                omega
    rw [bit_above h6 hle] at hj
    cases hj
  · intro i j hi hj hb
    have := (h4 i hi j hj (by rw [nv, bt_nat]; exact hb)).2
    rwa [nv, bt_nat] at this
theorem Good.irr {n : Nat} {F : Nat → Nat} (h : Good n (nv F)) : ∀ i, i < n → (F i).testBit i = false := by
  intro i hi
  cases hb : (F i).testBit i
  · rfl
  · exact absurd rfl (h.2.2.2 i hi i hi (by rw [nv, bt_nat]; exact hb)).1
theorem Good.lt16 {n : Nat} {F : Nat → Nat} (h : Good n (nv F)) : ∀ j, j < n → F j < 65536 := by
  intro j hj
  have h5 := (h.2.2.1 j hj).2
  have h6 := (pow16 h.2.1).2
  simp only [nv] at h5
  omega
theorem grIn_nat (q x : Nat) (w : World) (hx : x < 64) : Calls Tryd.prog 73 #[.int .i64 q, .int .i64 x] w fun e w' => e = .returned (.bool (q.testBit x)) ∧ w' = w :=
  (grInG_any (q : Int) (x : Int) (by omega) (by omega) (by omega) w).mono fun e w' ⟨h1, h2⟩ => ⟨by rw [h1, Int.toNat_natCast, bt_nat], h2⟩
/-- The parts, each at its least button. -/
def partL (F : Nat → Nat) (n k : Nat) : List Nat := (roots F n k).map (comp F n)
theorem partL_succ (F : Nat → Nat) (n k : Nat) : partL F n (k + 1) = if root F n k = true then partL F n k ++ [comp F n k] else partL F n k := by
  unfold partL
  rw [roots_succ]
  split <;> simp
theorem partL_len (F : Nat → Nat) (n k : Nat) : (partL F n k).length ≤ k := by
  rw [partL, List.length_map, cn_roots]; exact cn_le _ _
def seenF (F : Nat → Nat) (n : Nat) : Nat → Nat
  | 0 => 0
  | i + 1 => if (seenF F n i).testBit i = true then seenF F n i else seenF F n i ||| comp F n i
section
variable {F : Nat → Nat} {n : Nat}
theorem seenF_bit (hF : Sym F n) (j : Nat) : ∀ i, i ≤ n → ((seenF F n i).testBit j = true ↔ ∃ a, a < i ∧ (comp F n a).testBit j = true)
  | 0, _ => by simp [seenF]
  | i + 1, hi => by
    have ih := fun j => seenF_bit hF j i (by omega)
    rw [seenF]
    split
    · rename_i hs
      rw [ih j]
      constructor
      · rintro ⟨a, ha, h⟩; exact ⟨a, by omega, h⟩
      · rintro ⟨a, ha, h⟩
        by_cases e : a = i
        · subst e
          obtain ⟨b, hb, h2⟩ := (ih a).1 hs
          rw [← comp_mem hF (by omega) h2] at h
          exact ⟨b, hb, h⟩
        · exact ⟨a, by omega, h⟩
    · rw [Nat.testBit_or, Bool.or_eq_true, ih j]
      constructor
      · rintro (⟨a, ha, h⟩ | h)
        · exact ⟨a, by omega, h⟩
        · exact ⟨i, by omega, h⟩
      · rintro ⟨a, ha, h⟩
        by_cases e : a = i
        · subst e; exact .inr h
        · exact .inl ⟨a, by omega, h⟩
theorem seenF_root (hF : Sym F n) (hn : n ≤ 16) {i : Nat} (hi : i < n) : (seenF F n i).testBit i = !root F n i := by
  rw [Bool.eq_iff_iff, seenF_bit hF i i (by omega), Bool.not_eq_true', ← Bool.not_eq_true, root_iff hF hn hi]
  constructor
  · rintro ⟨a, ha, h⟩ hr
    have h2 := comp_mem hF (by omega) h
    have h3 := hr a ha
    rw [← h2, comp_self] at h3
    cases h3
  · intro h
    apply Classical.byContradiction
    intro hno
    apply h
    intro j hj
    cases hb : (comp F n i).testBit j
    · rfl
    · have h2 := comp_mem hF hi hb
      exact absurd ⟨j, hj, by rw [← h2]; exact comp_self F n i⟩ hno
theorem seenF_lt (hF : Sym F n) (hn : n ≤ 16) {i : Nat} (hi : i ≤ n) : seenF F n i < 65536 := by
  have : seenF F n i < 2 ^ 16 := Nat.lt_pow_two_of_testBit _ fun j hj => by
    cases hb : (seenF F n i).testBit j
    · rfl
    · obtain ⟨a, ha, h⟩ := (seenF_bit hF j i hi).1 hb
      have := (comp_part hF (show a < n by omega)).lt j h
      omega
  exact this
theorem rds_lt (hF : Sym F n) (hn : n ≤ 16) (r i : Nat) (hi : i < n) : rds F n r (2 ^ i) < 65536 := by
  have : rds F n r (2 ^ i) < 2 ^ 16 := Nat.lt_pow_two_of_testBit _ fun j hj => by
    cases hb : (rds F n r (2 ^ i)).testBit j
    · rfl
    · have := rds_in (S := fun j => j < n) (fun _ j _ hj _ _ => hj) hF.lt r _ (fun j hj => by rw [Nat.testBit_two_pow] at hj; simp at hj; omega) j hb
      omega
  exact this
theorem pass_lt (hF16 : ∀ j, j < n → F j < 65536) {m p : Nat} (hm : m ≤ n) (hp : p < 65536) : pass F m p < 65536 := by
  induction m with
  | zero => exact hp
  | succ m ih =>
    rw [pass]
    split
    · exact or_lt16 (ih (by omega)) (hF16 m (by omega))
    · exact ih (by omega)
end
theorem OL.mono {w : World} {B B' : Nat} {v : Value} {L : List Nat} (h : OL w B v L) (hB : B' ≤ B) : OL w B' v L := by
  refine ⟨h.1, ?_⟩
  rcases h.2 with h | ⟨g, cap, cur, h1, h2, h3⟩
  · exact .inl h
  · exact .inr ⟨g, cap, cur, h1, by omega, h3⟩
/-! ### impl.DegreesWithin -/
/-- A new list, alone in its memory. -/
def NewO (w : World) (L : List Nat) (e : Ending) (w' : World) : Prop :=
  ∃ A m c, e = .returned (.slice A m c) ∧ L.length = m ∧ OL w' w.heap.size (.slice A m c) L ∧ Below w.heap.size w w'
set_option maxRecDepth 4000 in
theorem paParts_any (g n c : Nat) (F : Nat → Nat) (own : Bool) (w : World) (hn : n ≤ 16) (hF : Sym F n) (hF16 : ∀ j, j < n → F j < 65536) (ha : Arr w 3 g n (iv (nv F))) :
    Calls Tryd.prog 48 #[.agg #[.slice (some ⟨g, 0, none⟩) n c, .bool own]] w (NewO w (partL F n n)) := by
  have HA := hide ha
  have HF := hide hF
  have HF16 := hide hF16
  clear ha hF hF16
  go_enter Tryd.func48, Tryd.ntmps48
  go_wp2
  go_loopw [3, 4, 13] (fun P s i wr => ∃ (k m d : Nat) (A : Option Addr), k ≤ n ∧ i = .int .i64 k ∧ s = .int .i64 (seenF F n k : Nat) ∧ P = .slice A m d ∧ Hid ((partL F n k).length = m) ∧ Hid (OL wr (w.heap.size + 1) (.slice A m d) (partL F n k)) ∧ Hid (Arr wr 28 w.heap.size 2 (bx (.slice (some ⟨g, 0, none⟩) n c) (.bool own))) ∧ Below w.heap.size w wr)
    (fun _ _ i _ => n - (intOf i).toNat)
  case atStart => exact ⟨0, 0, 0, none, Nat.zero_le _, rfl, rfl, rfl, hide rfl, hide (OL.nil _ _), hide (Arr.box w 28 _ _), by go_grown⟩
  case round =>
    obtain ⟨k, m, d, A, hk, rfl, rfl, rfl, HL, HO, HX, hw⟩ := hrel
    have hsz := hw.size
    have hm16 : m ≤ 16 := by have := partL_len F n k; rw [HL.out] at this; omega
    have hxl := HX.out.lt
    have c0 : wr.cell? ⟨w.heap.size, 0, none⟩ = some (.slice (some ⟨g, 0, none⟩) n c) := HX.out.cell (by omega)
    have HW := hide hw
    have HAr := hide (HA.out.below hw HA.out.lt)
    clear hw
    by_cases hlt : k < n
    · have hs16 := seenF_lt HF.out hn (show k ≤ n by omega)
      have hsr := seenF_root HF.out hn hlt
      have hsu := partL_succ F n k
      cases hr : root F n k
      · -- seen already
        rw [hr] at hsr hsu
        simp only [Bool.not_false, Bool.false_eq_true, if_false] at hsr hsu
        have hse : seenF F n (k + 1) = seenF F n k := by rw [seenF, if_pos hsr]
        go_wp2_with (first | (go_at_call 73; refine (grIn_nat _ _ _ (by omega)).mono ?_; rintro e w2 ⟨rfl, hw2⟩; subst w2; rw [hsr]))
        go_roundw
        case rel => exact ⟨k + 1, m, d, A, by omega, by go_num, by rw [hse], rfl, hide (by rw [hsu]; exact HL.out), hide (by rw [hsu]; exact HO.out), HX, HW.out⟩
        case measure => simp [intOf]; omega
      · rw [hr] at hsr hsu
        simp only [Bool.not_true, if_true] at hsr hsu
        have hse : seenF F n (k + 1) = seenF F n k ||| comp F n k := by rw [seenF, if_neg (by rw [hsr]; simp)]
        have e1 := wrap_pow (j := k) (by omega)
        obtain ⟨wq, hwq⟩ : ∃ wq : World, wq = wr := ⟨_, rfl⟩
        subst hwq
        go_wp2_with (first | (go_at_call 73; refine (grIn_nat _ _ _ (by omega)).mono ?_; rintro e w2 ⟨rfl, hw2⟩; subst w2; rw [hsr]))
        simp only [e1]
        go_loopw [6, 7] (fun p j wi => ∃ r : Nat, r ≤ n ∧ j = .int .i64 r ∧ p = .int .i64 (rds F n r (2 ^ k) : Nat) ∧ wi = wq)
          (fun _ j _ => n - (intOf j).toNat)
        case atStart => exact ⟨0, Nat.zero_le _, rfl, by rw [rds, pow_nat], rfl⟩
        case round =>
          obtain ⟨r, hr2, rfl, rfl, rfl⟩ := hrel
          by_cases hrn : r < n
          · have hp16 := rds_lt HF.out hn r k hlt
            obtain ⟨p, hp⟩ : ∃ p, rds F n r (2 ^ k) = p := ⟨_, rfl⟩
            have hps : rds F n (r + 1) (2 ^ k) = pass F n p := by rw [rds, hp]
            rw [hp] at hp16 ⊢
            go_wp2
            go_loopw [6, 31] (fun q j wi => ∃ s : Nat, s ≤ n ∧ j = .int .i64 s ∧ q = .int .i64 (pass F s p : Nat) ∧ wi = wr)
              (fun _ j _ => n - (intOf j).toNat)
            case atStart => exact ⟨0, Nat.zero_le _, rfl, by rw [pass], rfl⟩
            case round =>
              obtain ⟨s, hs2, rfl, rfl, rfl⟩ := hrel
              by_cases hsn : s < n
              · have hq16 := pass_lt HF16.out (show s ≤ n by omega) hp16
                have hcell := HAr.out.cell hsn
                have hFs := HF16.out s hsn
                have e3 := i64_or_nat (pass F s p) (F s) (by omega) (by omega)
                simp only [iv, nv] at hcell
                cases hb : (pass F s p).testBit s
                · go_wp2_with (first | (go_at_call 73; refine (grIn_nat _ _ _ (by omega)).mono ?_; rintro e w2 ⟨rfl, hw2⟩; subst w2; rw [hb]))
                  go_roundw
                  case rel => exact ⟨s + 1, by omega, by go_num, by rw [pass, if_neg (by rw [hb]; simp)], trivial⟩
                  case measure => simp [intOf]; omega
                · go_wp2_with (first | (go_at_call 73; refine (grIn_nat _ _ _ (by omega)).mono ?_; rintro e w2 ⟨rfl, hw2⟩; subst w2; rw [hb]))
                  go_roundw
                  case rel => exact ⟨s + 1, by omega, by go_num, by rw [pass, if_pos hb], trivial⟩
                  case measure => simp [intOf]; omega
              · have hsn2 : s = n := by omega
                subst hsn2
                go_wp2
                go_roundw
                case rel => exact ⟨r + 1, by omega, by go_num, by rw [hps], trivial⟩
                case measure => simp [intOf]; omega
          · have hrn2 : r = n := by omega
            subst hrn2
            have hc16 := (comp_part HF.out hlt).lt16 hn
            have e3 := i64_or_nat (seenF F r k) (comp F r k) (by omega) (by omega)
            have hcm : rds F r r (2 ^ k) = comp F r k := rfl
            rw [hcm]
            go_wp2_with (at_builtin; refine wpList_append_nat _ rfl _ _ rfl (w.heap.size + 1) A d m (partL F r k) (comp F r k) wr.heap.size rfl (HO.out.alloc _) HL.out rfl (by simp [go_sem]) (by omega) (by simp; omega) ?_; intro A2 c2 w5 ho2 hb2; have HO2 := hide ho2; have HB2 := hide hb2; clear ho2 hb2)
            go_roundw
            case rel =>
              refine ⟨k + 1, m + 1, c2, A2, by omega, by go_num, by rw [hse], rfl, hide (by rw [hsu, List.length_append, HL.out]; rfl), hide (by rw [hsu]; exact HO2.out), hide ((HX.out.alloc _).below HB2.out (by omega)), ?_⟩
              exact (HW.out.alloc hsz _).trans (HB2.out.mono (by omega))
            case measure => simp [intOf]; omega
    · have hkn : k = n := by omega
      subst hkn
      go_wp2
      go_ret
      exact ⟨A, m, d, rfl, HL.out, OL.mono HO.out (by omega), HW.out⟩
end Go.Proofs.YtmcimfblhpflnaaDoor
