/-
spec.grEdges, impl.EdgesOf, spec.EdgesOf: the pairs of a graph, in their order.
-/
import Derived.Test.YtdpoceijnbbmgaaDoorGE
import Derived.Test.YtdpoceijnbbmgaaDoorF
namespace Go.Proofs.YtdpoceijnbbmgaaDoor
open Go.RowKit
set_option maxHeartbeats 1000000
theorem SS.wide {w : World} {lo hi lo' hi' : Nat} {A : Option Addr} {n : Nat} {G ln C : Nat → Nat} {R : Nat → Nat → Int} (h : SS w lo hi A n G ln C R) (h0 : lo' ≤ lo) (h1 : hi ≤ hi') : SS w lo' hi' A n G ln C R := by
  refine ⟨fun k hk => ?_, fun k hk => ?_⟩
  · obtain ⟨b, off, e, hl, hc, hn⟩ := h.top k hk
    exact ⟨b, off, e, ⟨by omega, by omega, hl.2.2⟩, hc, hn⟩
  · obtain ⟨h2, h3, h4, h5⟩ := h.row k hk
    exact ⟨by omega, by omega, h4, h5⟩
theorem bt_nat2 (s i : Nat) : bt (s : Int) i = s.testBit i := by
  rw [Nat.testBit_eq_decide_div_mod_eq]
  simp only [bt]
  rw [decide_eq_decide, ← pow_nat]
  omega
/-- What a call leaves that lists the pairs. -/
def Listed (w : World) (n : Nat) (F : Nat → Nat) (mk : Value → Value) (e : Ending) (w' : World) : Prop :=
  ∃ A m d G, e = .returned (mk (.slice A m d)) ∧ m = (allP F n n).length ∧ m ≤ 272 ∧ SS w' (w.heap.size + 1) w'.heap.size A m G (fun _ => 2) (fun _ => 2) (pairR (allP F n n)) ∧ Below w.heap.size w w'
theorem grEdges_any (g n c : Nat) (F : Nat → Nat) (own : Bool) (w : World) (hn : n ≤ 16) (ha : Arr w 3 g n (iv (nv F))) :
    Calls Tryd.prog 39 #[.agg #[.slice (some ⟨g, 0, none⟩) n c, .bool own]] w (Listed w n F id) := by
  have HA := hide ha
  have hgl := ha.lt
  clear ha
  go_enter Tryd.func39, Tryd.ntmps39
  go_wp2
  go_loopw [3, 10] (fun o x wr => ∃ (i m d : Nat) (A : Option Addr) (G : Nat → Nat), i ≤ n ∧ x = .int .i64 i ∧ o = .slice A m d ∧ Hid ((allP F n i).length = m) ∧ m ≤ 17 * i ∧ Hid (EL wr (w.heap.size + 1) (.slice A m d) G (allP F n i)) ∧ Arr wr 26 w.heap.size 2 (bx (.slice (some ⟨g, 0, none⟩) n c) (.bool own)) ∧ Below w.heap.size w wr) (fun _ x _ => n - (intOf x).toNat)
  case atStart => exact ⟨0, 0, 0, none, fun _ => 0, by omega, rfl, rfl, hide rfl, by omega, hide (EL.nil _ _ _), Arr.box w 26 _ _, by go_grown⟩
  case round =>
    obtain ⟨i, m, d, A, G, hi, rfl, rfl, HM, hml, HEL, hbx, hb⟩ := hrel
    have HB := hide hb
    have HX := hide hbx
    have c0 : wr.cell? ⟨w.heap.size, 0, none⟩ = some (.slice (some ⟨g, 0, none⟩) n c) := hbx.cell (by omega)
    have hgr : ∀ j : Nat, bt (F i : Int) j = (F i).testBit j := fun j => bt_nat2 _ _
    have HGR := hide hgr
    clear hb hbx hgr
    by_cases hlt : i < n
    · have hc : wr.cell? ⟨g, i, none⟩ = some (.int .i64 (F i : Nat)) := (HA.out.below HB.out hgl).cell hlt
      go_wp2
      clear c0 hc
      go_loopw [3, 6] (fun o x w2 => ∃ (j m d : Nat) (A : Option Addr) (G : Nat → Nat), i < j ∧ j ≤ n ∧ x = .int .i64 j ∧ o = .slice A m d ∧ Hid ((allP F n i ++ rowP F i j).length = m) ∧ m ≤ 17 * i + j ∧ Hid (EL w2 (w.heap.size + 1) (.slice A m d) G (allP F n i ++ rowP F i j)) ∧ Arr w2 26 w.heap.size 2 (bx (.slice (some ⟨g, 0, none⟩) n c) (.bool own)) ∧ Below w.heap.size w w2) (fun _ x _ => n - (intOf x).toNat)
      case atStart => exact ⟨i + 1, m, d, A, G, by omega, by omega, by go_num, rfl, hide (by rw [rowP_low F i (i + 1) (Nat.le_refl _), List.append_nil]; exact HM.out), by omega, hide (by rw [rowP_low F i (i + 1) (Nat.le_refl _), List.append_nil]; exact HEL.out), HX.out, HB.out⟩
      case round =>
        clear HB HX HEL HM
        obtain ⟨j, m, d, A, G, hij, hjn, rfl, rfl, HM, hml, HEL, hbx, hb⟩ := hrel
        have HB := hide hb
        have HX := hide hbx
        have c0 : wr.cell? ⟨w.heap.size, 0, none⟩ = some (.slice (some ⟨g, 0, none⟩) n c) := hbx.cell (by omega)
        have hsz := hb.size
        have hxl := hbx.lt
        clear hb hbx
        by_cases hltj : j < n
        · cases hbit : (F i).testBit j
          · have HBT := hide hbit
            go_wp2_with (first | (go_at_call 79; refine (grInG_any _ _ (by omega) (by omega) (by omega) _).mono ?_; rintro e wr ⟨rfl, rfl⟩; simp only [Int.toNat_natCast, HGR.out, hbit]))
            go_roundw
            case rel =>
              have e : rowP F i (j + 1) = rowP F i j := by rw [rowP, if_neg (by rw [HBT.out]; simp)]
              exact ⟨j + 1, m, d, A, G, by omega, by omega, by go_num, rfl, hide (by rw [e]; exact HM.out), by omega, hide (by rw [e]; exact HEL.out), HX.out, HB.out⟩
            case measure => simp [intOf]; omega
          · have HBT := hide hbit
            go_wp2_with (first | (go_at_call 79; refine (grInG_any _ _ (by omega) (by omega) (by omega) _).mono ?_; rintro e wr ⟨rfl, rfl⟩; simp only [Int.toNat_natCast, HGR.out, hbit]) | (at_builtin; refine wpList_append_pair _ rfl _ _ rfl (w.heap.size + 1) A d m G (allP F n i ++ rowP F i j) (i, j) (wr.heap.size + 1) wr.heap.size rfl ((HEL.out.alloc _).alloc _) HM.out rfl (by simp [go_sem]) ((Arr.box wr 3 _ _).alloc _) (by omega) (fun k hk => HEL.out.lt (by rw [HM.out]; exact hk)) (by omega) (by simp; omega) ?_; intro A2 c2 w5 ho2 hb2; have HO2 := hide ho2; have HB2 := hide hb2; clear ho2 hb2))
            go_roundw
            case rel =>
              have e : rowP F i (j + 1) = rowP F i j ++ [(i, j)] := by rw [rowP, if_pos ⟨hij, HBT.out⟩]
              have hbz : Below w.heap.size w w5 := (by have h := HB.out; go_grown : Below w.heap.size w _).trans (HB2.out.mono (by omega))
              exact ⟨j + 1, m + 1, c2, A2, _, by omega, by omega, by go_num, rfl, hide (by rw [e, ← List.append_assoc, List.length_append, HM.out]; rfl), by omega, hide (by rw [e, ← List.append_assoc]; exact HO2.out), ((HX.out.alloc _).alloc _).below HB2.out (by omega), hbz⟩
            case measure => simp [intOf]; omega
        · have hj : j = n := by omega
          subst hj
          go_wp2
          exact ⟨⟨i + 1, m, d, A, G, by omega, by go_num, rfl, HM, by omega, HEL, HX.out, HB.out⟩, by simp [intOf]; omega⟩
    · have hin : i = n := by omega
      subst hin
      go_wp2
      go_ret
      exact ⟨A, m, d, G, rfl, HM.out.symm, by omega, HEL.out.ss HM.out, HB.out⟩
end Go.Proofs.YtdpoceijnbbmgaaDoor
