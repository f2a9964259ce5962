/-
trParents: the model's search, level by level from the least buttons.
-/
import Derived.Test.YtmcimfblhpflnaaDoorBT
import Derived.Test.YtmcimfblhpflnaaDoorPW
import Derived.Test.YtmcimfblhpflnaaDoorEA
import Derived.OwnWalk
namespace Go.Proofs.YtmcimfblhpflnaaDoor
open Go.RowKit
set_option maxHeartbeats 4000000
/-- No edge leads round. -/
def Tree (F : Nat → Nat) (n : Nat) : Prop := (allP F n n).length + (roots F n n).length = n
/-- What the search leaves. -/
def Searched (w : World) (n : Nat) (F : Nat → Nat) (e : Ending) (w' : World) : Prop :=
  (¬ Tree F n ∧ e = .returned (.tuple #[.slice none 0 0, .slice none 0 0, .bool false]) ∧ Below w.heap.size w w') ∨
  (Tree F n ∧ ∃ (g m c : Nat) (A : Option Addr) (o t : List Nat) (p : Nat → Int), e = .returned (.tuple #[.slice (some ⟨g, 0, none⟩) n n, .slice A m c, .bool true]) ∧ Qu F n o t p m ∧ (o ++ t).length = m ∧ (∀ v, v < n → v ∈ o ++ t) ∧
    w.heap.size ≤ g ∧ Arr w' 3 g n (iv p) ∧ OL w' (g + 1) (.slice A m c) (o ++ t) ∧ Below w.heap.size w w')
/-- s tells what is on the list. -/
def Seen (s : Nat) (l : List Nat) : Prop := s < 65536 ∧ ∀ v, s.testBit v = true ↔ v ∈ l
theorem Seen.add {s : Nat} {l l' : List Nat} {j : Nat} (h : Seen s l) (hj : j < 16) (hl : ∀ v, v ∈ l' ↔ v ∈ l ∨ v = j) : Seen (s ||| 2 ^ j) l' := by
  refine ⟨or_lt16 h.1 (pow_lt16 hj), fun v => ?_⟩
  rw [Nat.testBit_or, Bool.or_eq_true, h.2 v, hl v, Nat.testBit_two_pow]
  simp only [decide_eq_true_eq]
  constructor
  · rintro (h | h)
    · exact .inl h
    · exact .inr h.symm
  · rintro (h | h)
    · exact .inl h
    · exact .inr h.symm
theorem nodup_le {n : Nat} {l : List Nat} (hd : l.Nodup) (hl : ∀ v ∈ l, v < n) : l.length ≤ n := by
  have h : ∀ (n : Nat) (l : List Nat), l.Nodup → (∀ v ∈ l, v < n) → l.length ≤ n := by
    intro n
    induction n with
    | zero =>
      intro l _ hl
      cases l with
      | nil => simp
      | cons a r => have := hl a (by simp); omega
    | succ n ih =>
      intro l hd hl
      have h1 := ih (l.erase n) (hd.erase n) (fun v hv => by
        have h2 := hl v (List.mem_of_mem_erase hv)
        have h3 : v ≠ n := fun e => by
          rw [e] at hv
          exact absurd hv (by rw [hd.mem_erase_iff]; simp)
        omega)
      have h2 := List.length_erase (a := n) (l := l)
      by_cases hm : n ∈ l
      · rw [if_pos hm] at h2
        have := List.length_pos_of_mem hm
        omega
      · rw [if_neg hm] at h2; omega
  exact h n l hd hl
theorem upto {rr : Nat} {l : List Nat} (h : ∀ u, u < rr → u ∈ l) (hr : rr ∈ l) : ∀ u, u < rr + 1 → u ∈ l := fun u hu => by
  by_cases e : u = rr
  · exact e ▸ hr
  · exact h u (by omega)
theorem lv_at {l : List Nat} {k i : Nat} (h : l[k]? = some i) : lv l k = .int .i64 (i : Nat) := by
  simp [lv, List.getD, h]
set_option maxRecDepth 8000 in
theorem search_any (g n c : Nat) (F : Nat → Nat) (own : Bool) (w : World) (hn : n ≤ 16) (hG : Good n (nv F)) (ha : Arr w 3 g n (iv (nv F))) :
    Calls Tryd.prog 52 #[.agg #[.slice (some ⟨g, 0, none⟩) n c, .bool own]] w (Searched w n F) := by
  have hF := hG.sym
  have hI : Irr F n := hG.irr
  have hF16 := hG.lt16
  have hmk := run_make_row' (P := Tryd.prog) 22 3 (.int .i64 0) 8 Tryd.underlying22 int_info rfl .i64 .i64 n (by omega) (by omega)
  have HA := hide ha
  have HF := hide hF
  have HI := hide hI
  have HF16 := hide hF16
  have hgl := ha.lt
  clear ha hF hI hF16 hG
  go_enter Tryd.func52, Tryd.ntmps52
  go_wp2
  go_loopw [7, 8, 9] (fun O s r wr => ∃ (m d rr sb : Nat) (A : Option Addr) (o t : List Nat) (p : Nat → Int), rr ≤ n ∧ r = .int .i64 rr ∧ s = .int .i64 sb ∧ O = .slice A m d ∧ Hid (Seen sb (o ++ t)) ∧ Hid ((o ++ t).length = m) ∧ Hid (Qu F n o t p m) ∧ Hid (∀ u, u < rr → u ∈ o ++ t) ∧
      Hid (OL wr (w.heap.size + 2) (.slice A m d) (o ++ t)) ∧ Hid (Arr wr 3 (w.heap.size + 1) n (iv p)) ∧ Hid (Arr wr 28 w.heap.size 2 (bx (.slice (some ⟨g, 0, none⟩) n c) (.bool own))) ∧ Below w.heap.size w wr)
    (fun _ _ r _ => n - (intOf r).toNat)
  case atStart =>
    refine ⟨0, 0, 0, 0, none, [], [], fun _ => 0, Nat.zero_le _, rfl, rfl, rfl, hide ⟨by decide, by simp⟩, hide rfl, hide (qu_start F n _), hide (fun u hu => absurd hu (by omega)), hide (OL.nil _ _), hide ?_, hide ?_, by go_grown⟩
    · exact Arr.made_at (w.alloc _) _ n 3 (by simp) (fun k hk => rfl)
    · exact (Arr.box w 28 _ _).alloc _
  case round =>
    obtain ⟨m, d, rr, sb, A, o, t, p, hrr, rfl, rfl, rfl, HS, HL, HQ, HU, HO, HP, HX, hw⟩ := hrel
    have HW := hide hw
    have hsz := hw.size
    have hs16 := HS.out.1
    have hm16 : m ≤ 16 := by have := nodup_le HQ.out.gr.nodup HQ.out.gr.lt; rw [HL.out] at this; omega
    have hpl := HP.out.lt
    have c0 : wr.cell? ⟨w.heap.size, 0, none⟩ = some (.slice (some ⟨g, 0, none⟩) n c) := HX.out.cell (by omega)
    clear hw
    by_cases hlt : rr < n
    · cases hb : sb.testBit rr
      · -- a new root
        have hrm : rr ∉ o ++ t := fun h => by rw [(HS.out.2 rr).2 h] at hb; cases hb
        have e1 := or_wrap sb rr hs16 (by omega)
        have hz := HP.out.frozen rr
        have hcl := HP.out.cell hlt
        have HQ2 := hide (HQ.out.plant HL.out.symm hrm hlt HU.out)
        have HP2 := hide (HP.out.set rr (.int .i64 (-1)))
        have HO2 := hide (HO.out.far (p := ⟨w.heap.size + 1, rr, none⟩) (by simp) (.int .i64 (-1)))
        have HX2 := hide (HX.out.far (p := ⟨w.heap.size + 1, rr, none⟩) (by simp) (.int .i64 (-1)))
        clear hz hcl
        have hzf := HP.out.frozen rr
        have hcl := HP.out.cell hlt
        go_wp2_with (first
          | (go_at_call 73; refine (grIn_nat _ _ _ (by omega)).mono ?_; rintro e w2 ⟨rfl, hw2⟩; subst w2; rw [hb])
          | (at_builtin; refine wpList_append_nat _ rfl _ _ rfl (w.heap.size + 2) A d m (o ++ t) rr _ rfl (HO2.out.alloc _) HL.out rfl (by simp [go_sem]) (by omega) (by simp; omega) ?_; intro A2 c2 w5 ho2 hb2; have HO5 := hide ho2; have HP5 := hide ((HP2.out.alloc _).below hb2 (by omega)); have HX5 := hide ((HX2.out.alloc _).below hb2 (by omega)); have HB5 := hide hb2; clear ho2 hb2))
        have HW5 : Hid (Below w.heap.size w w5) := hide (((HW.out.setCell (p := ⟨w.heap.size + 1, rr, none⟩) (by simp) (.int .i64 (-1))).alloc (by simpa using hsz) _).trans (HB5.out.mono (show w.heap.size ≤ w.heap.size + 2 by omega)))
        go_loopw [7, 8, 10] (fun O s a wi => ∃ (k m1 d1 sb1 : Nat) (A1 : Option Addr) (t1 : List Nat) (p1 : Nat → Int), k ≤ m1 ∧ a = .int .i64 k ∧ s = .int .i64 sb1 ∧ O = .slice A1 m1 d1 ∧ Hid (Seen sb1 ((o ++ t) ++ t1)) ∧ Hid (((o ++ t) ++ t1).length = m1) ∧ Hid (Qu F n (o ++ t) t1 p1 k) ∧ Hid (rr ∈ (o ++ t) ++ t1) ∧
            Hid (OL wi (w.heap.size + 2) (.slice A1 m1 d1) ((o ++ t) ++ t1)) ∧ Hid (Arr wi 3 (w.heap.size + 1) n (iv p1)) ∧ Hid (Arr wi 28 w.heap.size 2 (bx (.slice (some ⟨g, 0, none⟩) n c) (.bool own))) ∧ Below w.heap.size w wi)
          (fun _ _ a _ => n - (intOf a).toNat)
        case atStart =>
          refine ⟨m, m + 1, c2, sb ||| 2 ^ rr, A2, [rr], upd p rr (-1), by omega, rfl, by first | rfl | rw [e1], rfl, hide (HS.out.add (by omega) (fun v => by simp [or_assoc])), hide (by rw [List.length_append, HL.out]; rfl), HQ2, hide (by simp), HO5, hide (HP5.out.congr (fun k hk => ?_)), HX5, HW5.out⟩
          simp only [iv, upd]
          split <;> rfl
        case round =>
          obtain ⟨k, m1, d1, sb1, A1, t1, p1, hk, rfl, rfl, rfl, HS1, HL1, HQ1, HR1, HO1, HP1, HX1, hw1⟩ := hrel
          have HW1 := hide hw1
          have hsz1 := hw1.size
          have hs16' := HS1.out.1
          have hm16' : m1 ≤ n := by have := nodup_le HQ1.out.gr.nodup HQ1.out.gr.lt; rw [HL1.out] at this; omega
          clear hw1
          by_cases hkm : k < m1
          · obtain ⟨i, hi⟩ : ∃ i, ((o ++ t) ++ t1)[k]? = some i := ⟨_, List.getElem?_eq_getElem (by rw [HL1.out]; exact hkm)⟩
            have hin : i < n := HQ1.out.gr.lt i (List.mem_of_getElem? hi)
            obtain ⟨b1, off1, hA1, hbl1, hc1⟩ := (HO1.out.src HL1.out) k hkm
            rw [lv_at hi] at hc1
            subst hA1
            have HLk := hide (HQ1.out.enter hi)
            go_wp2
            go_loopw [7, 8, 12] (fun O s j wj => ∃ (jj m2 d2 sb2 : Nat) (A2 : Option Addr) (t2 : List Nat) (p2 : Nat → Int), jj ≤ n ∧ j = .int .i64 jj ∧ s = .int .i64 sb2 ∧ O = .slice A2 m2 d2 ∧ Hid (Seen sb2 ((o ++ t) ++ t2)) ∧ Hid (((o ++ t) ++ t2).length = m2) ∧ Hid (Lk F n (o ++ t) t2 p2 k i jj) ∧ Hid (rr ∈ (o ++ t) ++ t2) ∧
                Hid (OL wj (w.heap.size + 2) (.slice A2 m2 d2) ((o ++ t) ++ t2)) ∧ Hid (Arr wj 3 (w.heap.size + 1) n (iv p2)) ∧ Hid (Arr wj 28 w.heap.size 2 (bx (.slice (some ⟨g, 0, none⟩) n c) (.bool own))) ∧ Below w.heap.size w wj)
              (fun _ _ j _ => n - (intOf j).toNat)
            case atStart => exact ⟨0, m1, d1, sb1, _, t1, p1, Nat.zero_le _, rfl, rfl, rfl, HS1, HL1, HLk, HR1, HO1, HP1, HX1, HW1.out⟩
            case round =>
              obtain ⟨jj, m2, d2, sb2, A2, t2, p2, hjj, rfl, rfl, rfl, HS2, HL2, HK2, HR2, HO2', HP2', HX2', hw2⟩ := hrel
              have HW2 := hide hw2
              have hsz2 := hw2.size
              have hs162 := HS2.out.1
              have hm162 : m2 ≤ n := by have := nodup_le HK2.out.gr.nodup HK2.out.gr.lt; rw [HL2.out] at this; omega
              have x0 : wr.cell? ⟨w.heap.size, 0, none⟩ = some (.slice (some ⟨g, 0, none⟩) n c) := HX2'.out.cell (by omega)
              have hFi := (HA.out.below hw2 hgl).cell hin
              have hpi := HP2'.out.cell hin
              simp only [iv, nv] at hFi hpi
              clear hw2
              by_cases hjn : jj < n
              · cases hbit : (F i).testBit jj
                · go_wp2_with (first | (go_at_call 73; refine (grIn_nat _ _ _ (by omega)).mono ?_; rintro e w2 ⟨rfl, hw2⟩; subst w2; rw [hbit]))
                  go_roundw
                  case rel => exact ⟨jj + 1, m2, d2, sb2, A2, t2, p2, by omega, by go_num, rfl, rfl, HS2, HL2, hide (HK2.out.skip (fun h => by rw [hbit] at h; cases h) (fun h => by rw [hbit] at h; cases h)), HR2, HO2', HP2', HX2', HW2.out⟩
                  case measure => simp [intOf]; omega
                · by_cases hp : p2 i = (jj : Int)
                  · rw [hp] at hpi
                    go_wp2_with (first | (go_at_call 73; refine (grIn_nat _ _ _ (by omega)).mono ?_; rintro e w2 ⟨rfl, hw2⟩; subst w2; rw [hbit]))
                    go_roundw
                    case rel => exact ⟨jj + 1, m2, d2, sb2, A2, t2, p2, by omega, by go_num, rfl, rfl, HS2, HL2, hide (HK2.out.skip (fun _ => hp) (fun _ => HK2.out.par_mem hp)), HR2, HO2', HP2', HX2', HW2.out⟩
                    case measure => simp [intOf]; omega
                  · have hpe : ((jj : Int) == p2 i) = false := by simp; omega
                    cases hsj : sb2.testBit jj
                    · have hjm : jj ∉ (o ++ t) ++ t2 := fun h => by rw [(HS2.out.2 jj).2 h] at hsj; cases hsj
                      have e2 := or_wrap sb2 jj hs162 (by omega)
                      have hzj := HP2'.out.frozen jj
                      have hpl2 := HP2'.out.lt
                      have hcj := HP2'.out.cell hjn
                      have HP3 := hide (HP2'.out.set jj (.int .i64 (i : Nat)))
                      have HO3 := hide (HO2'.out.far (p := ⟨w.heap.size + 1, jj, none⟩) (by simp) (.int .i64 (i : Nat)))
                      have HX3 := hide (HX2'.out.far (p := ⟨w.heap.size + 1, jj, none⟩) (by simp) (.int .i64 (i : Nat)))
                      go_wp2_with (first
                        | (go_at_call_of 73 (Value.int .i64 ((F i : Nat) : Int)); refine (grIn_nat _ _ _ (by omega)).mono ?_; rintro e w2 ⟨rfl, hw2⟩; subst w2; rw [hbit])
                        | (go_at_call_of 73 (Value.int .i64 ((sb2 : Nat) : Int)); refine (grIn_nat _ _ _ (by omega)).mono ?_; rintro e w2 ⟨rfl, hw2⟩; subst w2; rw [hsj])
                        | (at_builtin; refine wpList_append_nat _ rfl _ _ rfl (w.heap.size + 2) A2 d2 m2 ((o ++ t) ++ t2) jj _ rfl (HO3.out.alloc _) HL2.out rfl (by simp [go_sem]) (by omega) (by simp; omega) ?_; intro A4 c4 w4 ho4 hb4; have HO4 := hide ho4; have HP4 := hide ((HP3.out.alloc _).below hb4 (by omega)); have HX4 := hide ((HX3.out.alloc _).below hb4 (by omega)); have HB4 := hide hb4; clear ho4 hb4))
                      have HW4 : Hid (Below w.heap.size w w4) := hide (((HW2.out.setCell (p := ⟨w.heap.size + 1, jj, none⟩) (by simp) (.int .i64 (i : Nat))).alloc (by simpa using hsz2) _).trans (HB4.out.mono (show w.heap.size ≤ w.heap.size + 2 by omega)))
                      go_roundw
                      case rel =>
                        refine ⟨jj + 1, m2 + 1, c4, sb2 ||| 2 ^ jj, A4, t2 ++ [jj], upd p2 jj i, by omega, by go_num, by first | rfl | rw [e2], rfl, hide (HS2.out.add (by omega) (fun v => mem_snoc)), hide (by rw [← List.append_assoc, List.length_append, HL2.out]; rfl), hide (HK2.out.add hbit hjm hjn), hide (mem_snoc.2 (.inl HR2.out)), hide (by rw [← List.append_assoc]; exact HO4.out), hide (HP4.out.congr (fun k hk => ?_)), HX4, HW4.out⟩
                        simp only [iv, upd]
                        split <;> rfl
                      case measure => simp [intOf]; omega
                    · have hjm : jj ∈ (o ++ t) ++ t2 := (HS2.out.2 jj).1 hsj
                      have hro := HK2.out.round hn HF.out HI.out hbit hp hjm
                      go_wp2_with (first
                        | (go_at_call_of 73 (Value.int .i64 ((F i : Nat) : Int)); refine (grIn_nat _ _ _ (by omega)).mono ?_; rintro e w2 ⟨rfl, hw2⟩; subst w2; rw [hbit])
                        | (go_at_call_of 73 (Value.int .i64 ((sb2 : Nat) : Int)); refine (grIn_nat _ _ _ (by omega)).mono ?_; rintro e w2 ⟨rfl, hw2⟩; subst w2; rw [hsj]))
                      go_ret3
                      exact .inl ⟨by unfold Tree; omega, rfl, HW2.out⟩
              · go_wp2
                go_roundw
                case rel => exact ⟨k + 1, m2, d2, sb2, A2, t2, p2, by have := HK2.out.next (fun b hb => by have := HF.out.lt i hin b hb; omega); have := this.hi; rw [HL2.out] at this; exact this, by go_num, rfl, rfl, HS2, HL2, hide (HK2.out.next (fun b hb => by have := HF.out.lt i hin b hb; omega)), HR2, HO2', HP2', HX2', HW2.out⟩
                case measure => simp [intOf]; omega
          · have hkm2 : k = m1 := by omega
            subst hkm2
            go_wp2
            go_roundw
            case rel => exact ⟨k, d1, rr + 1, sb1, A1, o ++ t, t1, p1, by omega, by go_num, rfl, rfl, HS1, HL1, HQ1, hide (upto (fun u hu => List.mem_append.2 (.inl (HU.out u hu))) HR1.out), HO1, HP1, HX1, HW1.out⟩
            case measure => simp [intOf]; omega
      · -- reached already
        have hrm : rr ∈ o ++ t := (HS.out.2 rr).1 hb
        go_wp2_with (first | (go_at_call 73; refine (grIn_nat _ _ _ (by omega)).mono ?_; rintro e w2 ⟨rfl, hw2⟩; subst w2; rw [hb]))
        go_roundw
        case rel => exact ⟨m, d, rr + 1, sb, A, o, t, p, by omega, by go_num, rfl, rfl, HS, HL, HQ, hide (upto HU.out hrm), HO, HP, HX, HW.out⟩
        case measure => simp [intOf]; omega
    · have hrn : rr = n := by omega
      subst hrn
      go_wp2
      go_ret3
      exact .inr ⟨HQ.out.all hn HF.out HI.out HL.out.symm HU.out, _, m, d, A, o, t, p, rfl, HQ.out, HL.out, HU.out, by omega, HP.out, HO.out, HW.out⟩
end Go.Proofs.YtmcimfblhpflnaaDoor
