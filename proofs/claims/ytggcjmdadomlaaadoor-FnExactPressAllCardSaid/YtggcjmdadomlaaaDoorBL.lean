import Derived.Test.YtggcjmdadomlaaaDoorBP
namespace Go.Proofs.YtggcjmdadomlaaaDoor
open Go.RowKit
set_option maxHeartbeats 400000
theorem ltL_length (L : Nat → Bool) : (ltL L).length = 16 := by simp [ltL]
theorem lights_info : (Tryd.prog.info? 45).map (·.size) = some 16 := by kernel_rfl
theorem bool_info : (Tryd.prog.info? 4).map (·.size) = some 1 := by kernel_rfl
theorem range_of_board {w : World} {b : Nat} {near own : Value} {L : Nat → Bool} (h : Blk w 47 b (bd near own L)) : w.rangeAt b 2 (ltL L) := fun j v hv => by
  have hj : j < 16 := by
    rcases Nat.lt_or_ge j 16 with h | h
    · exact h
    · rw [List.getElem?_eq_none (by rw [ltL_length]; exact h)] at hv; cases hv
  rw [ltL_get _ _ hj] at hv
  rw [h.cell, bd_get _ _ _ _ hj]
  exact hv
theorem wpList_load_lights {ops : Array Oper} {rest : List Oper} {o : Oper} {a : Act} {w : World} {Q : Exit → Act → World → Prop} (hgd : o.guard = none) (x : Operand) (ho : o.op = .load 45 x)
    (b : Nat) (hx : a.eval x = .pointer (some ⟨b, 2, none⟩)) (near own : Value) (L : Nat → Bool) (hg : Blk w 47 b (bd near own L))
    (h : wpList Tryd.prog ops Q rest (a.put o.dst (.agg (ltL L).toArray)) w) : wpList Tryd.prog ops Q (o :: rest) a w :=
  wpList_load_mid hgd 45 x ho b 2 hx (ltL L) _ (range_of_board hg) Tryd.underlying45 rfl (by rw [ltL_length]; exact lights_info) h
theorem run_index_lights (L : Nat → Bool) (C : Array Value) (hC : C = (ltL L).toArray) (k : Nat) (hk : k < 16) (w : World) : (Instr.index 45 (.agg C) (.int .i64 (k : Int))).run Tryd.prog w = .ok (.bool (L k)) w := by
  subst hC
  have h0 : (0 : Int) ≤ (k : Int) := by omega
  have h1 : (k : Int) < 16 := by omega
  have h2 : (ltL L).toArray[k]? = some (.bool (L k)) := by simpa using ltL_get L k hk
  have h3 : (ltL L)[k]? = some (.bool (L k)) := ltL_get L k hk
  simp [Instr.index, run_underlying Tryd.underlying45, asIntOf, h0, part, isAgg, run_underlying Tryd.underlying4, h3]
  intro h; omega

theorem lit_any (b : Nat) (near own : Value) (L : Nat → Bool) (w : World) (hbk : Blk w 47 b (bd near own L)) :
    Calls Tryd.prog 31 #[.pointer (some ⟨b, 0, none⟩)] w fun e w' => e = .returned (.int .i64 (litN L 16 : Nat)) ∧ w' = w := by
  obtain ⟨C, hC⟩ : ∃ C, C = (ltL L).toArray := ⟨_, rfl⟩
  have HC := hide hC
  have HBK := hide hbk
  clear hbk
  go_enter Tryd.func31, Tryd.ntmps31
  go_wp2_with (with_reducible refine wpList_load_lights rfl (.tmp 8) rfl b rfl _ _ L HBK.out ?_)
  go_loop [3, 10] (fun t i => ∃ k : Nat, k ≤ 16 ∧ i = .int .i64 k ∧ t = .int .i64 (litN L k : Nat)) (fun _ i => 16 - (intOf i).toNat)
  case atStart => exact ⟨0, by omega, rfl, rfl⟩
  case round =>
    obtain ⟨k, hk, rfl, rfl⟩ := hrel
    by_cases hlt : k < 16
    · have hidx := run_index_lights L _ rfl k hlt
      have e1 := or_wrap (litN L k) k (litN_lt L k (by omega)) hlt
      cases hL : L k
      · rw [hL] at hidx
        go_wp2
        go_round
        case rel => exact ⟨k + 1, by omega, by go_num, by simp [litN, hL]⟩
        case measure => simp [intOf]; omega
      · rw [hL] at hidx
        go_wp2
        go_round
        case rel => exact ⟨k + 1, by omega, by go_num, by simp [litN, hL]⟩
        case measure => simp [intOf]; omega
    · have hkn : k = 16 := by omega
      subst hkn
      go_wp2
      go_ret
      exact ⟨rfl, rfl⟩
end Go.Proofs.YtggcjmdadomlaaaDoor
