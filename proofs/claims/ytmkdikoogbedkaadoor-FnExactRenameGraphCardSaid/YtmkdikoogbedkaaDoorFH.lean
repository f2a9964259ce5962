import Derived.Test.YtmkdikoogbedkaaDoorFG
namespace Go.Proofs.YtmkdikoogbedkaaDoor
open Go.RowKit
set_option maxHeartbeats 1000000
theorem EL.alloc {w : World} {B : Nat} {v : Value} {P : List (Nat × Nat)} (h : EL w B v P) (o : Obj) : EL (w.alloc o) B v P := h.all ((Below.refl _ _).alloc (Nat.le_refl _) _)
/-- P holds the pairs a < b of F with a below i, and of i those below j; each of them once or more. -/
def Pairs (n : Nat) (F : Nat → Nat) (i j : Nat) (P : List (Nat × Nat)) : Prop :=
  ∀ a b, (a, b) ∈ P ↔ (a < b ∧ b < n ∧ (F a).testBit b = true ∧ (a < i ∨ (a = i ∧ b < j)))
theorem Pairs.zero (n : Nat) (F : Nat → Nat) : Pairs n F 0 0 [] := fun a b => by simp
theorem Pairs.row {n : Nat} {F : Nat → Nat} {i : Nat} {P : List (Nat × Nat)} (h : Pairs n F i 0 P) : Pairs n F i (i + 1) P := fun a b => by
  rw [h a b]
  constructor
  · rintro ⟨h1, h2, h3, h4⟩; exact ⟨h1, h2, h3, by omega⟩
  · rintro ⟨h1, h2, h3, h4⟩; exact ⟨h1, h2, h3, by omega⟩
theorem Pairs.next {n : Nat} {F : Nat → Nat} {i : Nat} {P : List (Nat × Nat)} (h : Pairs n F i n P) : Pairs n F (i + 1) 0 P := fun a b => by
  rw [h a b]
  constructor
  · rintro ⟨h1, h2, h3, h4⟩; exact ⟨h1, h2, h3, by omega⟩
  · rintro ⟨h1, h2, h3, h4⟩; exact ⟨h1, h2, h3, by omega⟩
theorem Pairs.skip {n : Nat} {F : Nat → Nat} {i j : Nat} {P : List (Nat × Nat)} (h : Pairs n F i j P) (hb : (F i).testBit j = false) : Pairs n F i (j + 1) P := fun a b => by
  rw [h a b]
  constructor
  · rintro ⟨h1, h2, h3, h4⟩; exact ⟨h1, h2, h3, by omega⟩
  · rintro ⟨h1, h2, h3, h4⟩
    refine ⟨h1, h2, h3, ?_⟩
    by_cases e : a = i ∧ b = j
    · obtain ⟨rfl, rfl⟩ := e
      rw [hb] at h3; cases h3
    · omega
theorem Pairs.put {n : Nat} {F : Nat → Nat} {i j : Nat} {P : List (Nat × Nat)} (h : Pairs n F i j P) (hb : (F i).testBit j = true) (hij : i < j) (hj : j < n) : Pairs n F i (j + 1) (P ++ [(i, j)]) := fun a b => by
  rw [List.mem_append, h a b, List.mem_singleton, Prod.mk.injEq]
  constructor
  · rintro (⟨h1, h2, h3, h4⟩ | ⟨rfl, rfl⟩)
    · exact ⟨h1, h2, h3, by omega⟩
    · exact ⟨hij, hj, hb, by omega⟩
  · rintro ⟨h1, h2, h3, h4⟩
    by_cases e : a = i ∧ b = j
    · exact .inr e
    · exact .inl ⟨h1, h2, h3, by omega⟩
theorem grEdges_any (g n c : Nat) (F : Nat → Nat) (own : Bool) (w : World) (hn : n ≤ 16) (ha : Arr w 3 g n (iv (nv F))) :
    Calls Tryd.prog 33 #[.agg #[.slice (some ⟨g, 0, none⟩) n c, .bool own]] w fun e w' => ∃ A m d P, e = .returned (.slice A m d) ∧ P.length = m ∧ m ≤ 272 ∧ EL w' (w.heap.size + 1) (.slice A m d) P ∧ Pairs n F n 0 P ∧ Below w.heap.size w w' := by
  have HA := hide ha
  have hgl := ha.lt
  clear ha
  go_enter Tryd.func33, Tryd.ntmps33
  go_wp2
  go_loopw [3, 10] (fun o x wr => ∃ (i m d : Nat) (A : Option Addr) (P : List (Nat × Nat)), i ≤ n ∧ x = .int .i64 i ∧ o = .slice A m d ∧ P.length = m ∧ m ≤ 17 * i ∧ EL wr (w.heap.size + 1) (.slice A m d) P ∧ Hid (Pairs n F i 0 P) ∧ Arr wr 31 w.heap.size 2 (bx (.slice (some ⟨g, 0, none⟩) n c) (.bool own)) ∧ Below w.heap.size w wr) (fun _ x _ => n - (intOf x).toNat)
  case atStart => exact ⟨0, 0, 0, none, [], by omega, rfl, rfl, rfl, by omega, EL.nil _ _, hide (Pairs.zero n F), Arr.box w 31 _ _, by go_grown⟩
  case round =>
    obtain ⟨i, m, d, A, P, hi, rfl, rfl, hm, hml, hel, HP, hbx, hb⟩ := hrel
    have HB := hide hb
    have HX := hide hbx
    have HEL := hide hel
    have c0 : wr.cell? ⟨w.heap.size, 0, none⟩ = some (.slice (some ⟨g, 0, none⟩) n c) := hbx.cell (by omega)
    clear hb hbx hel
    by_cases hlt : i < n
    · have hc : wr.cell? ⟨g, i, none⟩ = some (.int .i64 (F i : Nat)) := (HA.out.below HB.out hgl).cell hlt
      have hgr : ∀ j : Nat, bt (F i : Int) j = (F i).testBit j := fun j => bt_nat _ _
      have HGR := hide hgr
      clear hc hgr
      have hc : wr.cell? ⟨g, i, none⟩ = some (.int .i64 (F i : Nat)) := (HA.out.below HB.out hgl).cell hlt
      go_wp2
      clear c0 hc
      go_loopw [3, 6] (fun o x w2 => ∃ (j m d : Nat) (A : Option Addr) (P : List (Nat × Nat)), i < j ∧ j ≤ n ∧ x = .int .i64 j ∧ o = .slice A m d ∧ P.length = m ∧ m ≤ 17 * i + j ∧ EL w2 (w.heap.size + 1) (.slice A m d) P ∧ Hid (Pairs n F i j P) ∧ Arr w2 31 w.heap.size 2 (bx (.slice (some ⟨g, 0, none⟩) n c) (.bool own)) ∧ Below w.heap.size w w2) (fun _ x _ => n - (intOf x).toNat)
      case atStart => exact ⟨i + 1, m, d, A, P, by omega, by omega, by go_num, rfl, hm, by omega, HEL.out, hide HP.out.row, HX.out, HB.out⟩
      case round =>
        clear HB HX HEL HP
        obtain ⟨j, m, d, A, P, hij, hjn, rfl, rfl, hm, hml, hel, HP, hbx, hb⟩ := hrel
        have HB := hide hb
        have HX := hide hbx
        have HEL := hide hel
        have HM := hide hm
        have c0 : wr.cell? ⟨w.heap.size, 0, none⟩ = some (.slice (some ⟨g, 0, none⟩) n c) := hbx.cell (by omega)
        have hsz := hb.size
        have hxl := hbx.lt
        clear hb hbx hel hm
        by_cases hltj : j < n
        · cases hbit : (F i).testBit j
          · go_wp2_with (first | (go_at_call 50; refine (grIn_any _ _ (by omega) (by omega) (by omega) _).mono ?_; rintro e wr ⟨rfl, rfl⟩; simp only [Int.toNat_natCast, HGR.out, hbit]))
            go_roundw
            case rel => exact ⟨j + 1, m, d, A, P, by omega, by omega, by go_num, rfl, HM.out, by omega, HEL.out, hide (HP.out.skip hbit), HX.out, HB.out⟩
            case measure => simp [intOf]; omega
          · go_wp2_with (first | (go_at_call 50; refine (grIn_any _ _ (by omega) (by omega) (by omega) _).mono ?_; rintro e wr ⟨rfl, rfl⟩; simp only [Int.toNat_natCast, HGR.out, hbit]) | (at_builtin; refine wpList_append_pair _ rfl _ _ rfl (w.heap.size + 1) A d m P (i, j) (wr.heap.size + 1) wr.heap.size rfl ((HEL.out.alloc _).alloc _) HM.out rfl (by simp [go_sem]) ((Arr.box wr 3 _ _).alloc _) (by omega) (by omega) (by simp; omega) ?_; intro A2 c2 w5 ho2 hb2; have HO2 := hide ho2; have HB2 := hide hb2; clear ho2 hb2))
            go_roundw
            case rel => 
              have hbz : Below w.heap.size w w5 := (by have h := HB.out; go_grown : Below w.heap.size w _).trans (HB2.out.mono (by omega))
              exact ⟨j + 1, m + 1, c2, A2, P ++ [(i, j)], by omega, by omega, by go_num, rfl, by rw [List.length_append, HM.out]; rfl, by omega, HO2.out, hide (HP.out.put hbit hij hltj), ((HX.out.alloc _).alloc _).below HB2.out (by omega), hbz⟩
            case measure => simp [intOf]; omega
        · have hj : j = n := by omega
          subst hj
          go_wp2
          exact ⟨⟨i + 1, m, d, A, P, by omega, by go_num, rfl, HM.out, by omega, HEL.out, hide HP.out.next, HX.out, HB.out⟩, by simp [intOf]; omega⟩
    · have hin : i = n := by omega
      subst hin
      go_wp2
      go_ret
      exact ⟨A, m, d, P, rfl, hm, by omega, HEL.out, HP.out, HB.out⟩
end Go.Proofs.YtmkdikoogbedkaaDoor
