/-
The two accounts: their methods, and one child more.
-/
import Derived.Test.YtmcimfblhpflnaaDoorZb
import Derived.Test.YtmcimfblhpflnaaDoorFC
import Derived.Test.YtmcimfblhpflnaaDoorLT
namespace Go.Proofs.YtmcimfblhpflnaaDoor
open Go.RowKit Go.BigFrame
set_option maxHeartbeats 4000000
theorem m_both71 (v : Value) (w : World) : (method 250 71 v "loop.example/g01146/impl.both").run Tryd.prog w = .ok (155, v) w := by kernel_rfl
theorem m_both72 (v : Value) (w : World) : (method 250 72 v "loop.example/g01146/impl.both").run Tryd.prog w = .ok (159, v) w := by kernel_rfl
theorem m_either71 (v : Value) (w : World) : (method 250 71 v "loop.example/g01146/impl.either").run Tryd.prog w = .ok (156, v) w := by kernel_rfl
theorem m_either72 (v : Value) (w : World) : (method 250 72 v "loop.example/g01146/impl.either").run Tryd.prog w = .ok (160, v) w := by kernel_rfl
theorem m_none71 (v : Value) (w : World) : (method 250 71 v "loop.example/g01146/impl.none").run Tryd.prog w = .ok (157, v) w := by kernel_rfl
theorem m_none72 (v : Value) (w : World) : (method 250 72 v "loop.example/g01146/impl.none").run Tryd.prog w = .ok (161, v) w := by kernel_rfl
theorem m_single71 (v : Value) (w : World) : (method 250 71 v "loop.example/g01146/impl.single").run Tryd.prog w = .ok (158, v) w := by kernel_rfl
theorem m_single72 (v : Value) (w : World) : (method 250 72 v "loop.example/g01146/impl.single").run Tryd.prog w = .ok (162, v) w := by kernel_rfl
theorem n_both71 (w : World) : (nilAhead 250 71 (.agg #[]) "loop.example/g01146/impl.both").run Tryd.prog w = .ok (some false) w := by kernel_rfl
theorem n_both72 (w : World) : (nilAhead 250 72 (.agg #[]) "loop.example/g01146/impl.both").run Tryd.prog w = .ok (some false) w := by kernel_rfl
theorem n_either71 (w : World) : (nilAhead 250 71 (.agg #[]) "loop.example/g01146/impl.either").run Tryd.prog w = .ok (some false) w := by kernel_rfl
theorem n_either72 (w : World) : (nilAhead 250 72 (.agg #[]) "loop.example/g01146/impl.either").run Tryd.prog w = .ok (some false) w := by kernel_rfl
attribute [local go_sem] n_both71 n_both72 n_either71 n_either72
attribute [local go_sem] m_both71 m_both72 m_either71 m_either72 m_none71 m_none72 m_single71 m_single72
/-- The accounts as the program reckons. -/
def accCI : Acc Int where
  none := 0
  single _ := 1
  either a b := RowKit.wrap64 (a + b)
  both a b := RowKit.wrap64 (a * b)
def accLI : Acc Int where
  none := 17
  single k := (k : Nat)
  either a b := min a b
  both a b := RowKit.wrap64 (a + b)
theorem both71 (a b : Int) (w : World) : Calls Tryd.prog 155 #[.agg #[], .int .i64 a, .int .i64 b] w fun e w' => e = .returned (.int .i64 (accCI.both a b)) ∧ Below w.heap.size w w' := by
  go_enter Tryd.func155, Tryd.ntmps155
  go_wp2
  go_ret
  exact ⟨rfl, by go_grown⟩
theorem either71 (a b : Int) (w : World) : Calls Tryd.prog 156 #[.agg #[], .int .i64 a, .int .i64 b] w fun e w' => e = .returned (.int .i64 (accCI.either a b)) ∧ Below w.heap.size w w' := by
  go_enter Tryd.func156, Tryd.ntmps156
  go_wp2
  go_ret
  exact ⟨rfl, by go_grown⟩
theorem none71 (w : World) : Calls Tryd.prog 157 #[.agg #[]] w fun e w' => e = .returned (.int .i64 accCI.none) ∧ Below w.heap.size w w' := by
  go_enter Tryd.func157, Tryd.ntmps157
  go_wp2
  go_ret
  exact ⟨rfl, by go_grown⟩
theorem single71 (k : Nat) (w : World) : Calls Tryd.prog 158 #[.agg #[], .int .i64 (k : Nat)] w fun e w' => e = .returned (.int .i64 (accCI.single k)) ∧ Below w.heap.size w w' := by
  go_enter Tryd.func158, Tryd.ntmps158
  go_wp2
  go_ret
  exact ⟨rfl, by go_grown⟩
theorem both72 (a b : Int) (w : World) : Calls Tryd.prog 159 #[.agg #[], .int .i64 a, .int .i64 b] w fun e w' => e = .returned (.int .i64 (accLI.both a b)) ∧ Below w.heap.size w w' := by
  go_enter Tryd.func159, Tryd.ntmps159
  go_wp2
  go_ret
  exact ⟨rfl, by go_grown⟩
theorem either72 (a b : Int) (w : World) : Calls Tryd.prog 160 #[.agg #[], .int .i64 a, .int .i64 b] w fun e w' => e = .returned (.int .i64 (accLI.either a b)) ∧ Below w.heap.size w w' := by
  by_cases hab : a ≤ b
  · go_enter Tryd.func160, Tryd.ntmps160
    go_wp2
    go_ret
    refine ⟨?_, by go_grown⟩
    have : accLI.either a b = a := Int.min_eq_left hab
    rw [this]; simp <;> omega
  · go_enter Tryd.func160, Tryd.ntmps160
    go_wp2
    go_ret
    refine ⟨?_, by go_grown⟩
    have : accLI.either a b = b := Int.min_eq_right (by omega)
    rw [this]; simp <;> omega
theorem none72 (w : World) : Calls Tryd.prog 161 #[.agg #[]] w fun e w' => e = .returned (.int .i64 accLI.none) ∧ Below w.heap.size w w' := by
  go_enter Tryd.func161, Tryd.ntmps161
  go_wp2
  go_ret
  exact ⟨rfl, by go_grown⟩
theorem single72 (k : Nat) (w : World) : Calls Tryd.prog 162 #[.agg #[], .int .i64 (k : Nat)] w fun e w' => e = .returned (.int .i64 (accLI.single k)) ∧ Below w.heap.size w w' := by
  go_enter Tryd.func162, Tryd.ntmps162
  go_wp2
  go_ret
  exact ⟨rfl, by go_grown⟩
theorem child71 (tb0 pb ab eb ob tb n nc j pr : Nat) (V0 V1 E O : Int) (w : World) (hj : j < n) (_ : n ≤ 16) (hpr : pr < 2)
    (h0 : w.cell? ⟨tb0, 0, none⟩ = some (.slice (some ⟨tb, 0, none⟩) n nc)) (h1 : w.cell? ⟨pb, 0, none⟩ = some (.int .i64 (pr : Nat))) (h2 : w.cell? ⟨ab, 0, none⟩ = some (.iface 71 (.agg #[])))
    (h3 : w.cell? ⟨eb, 0, none⟩ = some (.int .i64 E)) (h4 : w.cell? ⟨ob, 0, none⟩ = some (.int .i64 O)) (z3 : w.frozen? ⟨eb, 0, none⟩ = false) (z4 : w.frozen? ⟨ob, 0, none⟩ = false) (hne : eb ≠ ob)
    (k0 : w.cell? ⟨tb, j * 4 + pr, none⟩ = some (.int .i64 V0)) (k1 : w.cell? ⟨tb, j * 4 + 2 + pr, none⟩ = some (.int .i64 V1)) :
    Calls Tryd.prog 125 #[.int .i64 (j : Nat), .pointer (some ⟨tb0, 0, none⟩), .pointer (some ⟨pb, 0, none⟩), .pointer (some ⟨ab, 0, none⟩), .pointer (some ⟨eb, 0, none⟩), .pointer (some ⟨ob, 0, none⟩)] w fun e w' =>
      e = .returned (.tuple #[]) ∧ ∃ x : Later w, w' = (x.w.setCell ⟨eb, 0, none⟩ (.int .i64 (accCI.either (accCI.both E V0) (accCI.both O V1)))).setCell ⟨ob, 0, none⟩ (.int .i64 (accCI.either (accCI.both O V0) (accCI.both E V1))) := by
  have hjn : (j : Int) < (n : Int) := by omega
  have hp2 : (pr : Int) < 2 := by omega
  go_enter Tryd.func125, Tryd.ntmps125
  go_wp2_with fail
  go_quiet (fail)
  have C1 : Hid (∀ w, Calls Tryd.prog 155 #[.agg #[], .int .i64 E, .int .i64 V0] w _) := hide fun w => both71 E V0 w
  have C2 : Hid (∀ w, Calls Tryd.prog 155 #[.agg #[], .int .i64 O, .int .i64 V1] w _) := hide fun w => both71 O V1 w
  have C3 : Hid (∀ w, Calls Tryd.prog 155 #[.agg #[], .int .i64 O, .int .i64 V0] w _) := hide fun w => both71 O V0 w
  have C4 : Hid (∀ w, Calls Tryd.prog 155 #[.agg #[], .int .i64 E, .int .i64 V1] w _) := hide fun w => both71 E V1 w
  have C5 : Hid (∀ w, Calls Tryd.prog 156 #[.agg #[], .int .i64 (accCI.both E V0), .int .i64 (accCI.both O V1)] w _) := hide fun w => either71 (accCI.both E V0) (accCI.both O V1) w
  have C6 : Hid (∀ w, Calls Tryd.prog 156 #[.agg #[], .int .i64 (accCI.both O V0), .int .i64 (accCI.both E V1)] w _) := hide fun w => either71 (accCI.both O V0) (accCI.both E V1) w
  have Q2 : ∀ x : Later (w.drewN nq), x.w.cell? ⟨ab, 0, none⟩ = some (.iface 71 (.agg #[])) := fun x => x.cell h2
  have Q3 : ∀ x : Later (w.drewN nq), x.w.cell? ⟨eb, 0, none⟩ = some (.int .i64 E) := fun x => x.cell h3
  have Q4 : ∀ x : Later (w.drewN nq), x.w.cell? ⟨ob, 0, none⟩ = some (.int .i64 O) := fun x => x.cell h4
  have l3 := World.block_lt_of_cell? w _ h3
  have l4 := World.block_lt_of_cell? w _ h4
  clear h0 h1 h2 k0 k1
  go_wp2_with fail
  refine wp_region_later_tail 26 (by kernel_rfl) (by kernel_rfl) ?_
  simp only [List.take_succ_cons, List.take_zero]
  repeat (first | go_big_quiet_skip | (go_big_quiet_want; go_big_quiet_op; first | go_big_quiet_on | (apply Exists.intro; refine ⟨fun x => ?_, ?_⟩; (· first
    | (with_reducible exact Later.call x (C1.out x.w)) | (with_reducible exact Later.call x (C2.out x.w)) | (with_reducible exact Later.call x (C3.out x.w)) | (with_reducible exact Later.call x (C4.out x.w)) | (with_reducible exact Later.call x (C5.out x.w)) | (with_reducible exact Later.call x (C6.out x.w))); go_big_quiet_on)))
  refine wpQuiet_nil ?_
  rintro _ ⟨x, rfl⟩
  have hx := x.is
  have y3 : x.w.cell? ⟨eb, 0, none⟩ = some (.int .i64 E) := x.cell h3
  have y4 : x.w.cell? ⟨ob, 0, none⟩ = some (.int .i64 O) := x.cell h4
  have f3 : x.w.frozen? ⟨eb, 0, none⟩ = false := (hx.frozen (p := ⟨eb, 0, none⟩) l3).trans z3
  have f4 : x.w.frozen? ⟨ob, 0, none⟩ = false := (hx.frozen (p := ⟨ob, 0, none⟩) l4).trans z4
  have xl3 := World.block_lt_of_cell? x.w _ y3
  have xl4 := World.block_lt_of_cell? x.w _ y4
  have HX := hide hx
  clear Q2 Q3 Q4 h3 h4 hx z3 z4
  simp only [List.drop_succ_cons, List.drop_zero]
  go_wp2
  go_end0
  exact ⟨rfl, ⟨x.w, (below_drewN (Below.refl _ _) nq).trans HX.out⟩, rfl⟩
theorem child72 (tb0 pb ab eb ob tb n nc j pr : Nat) (V0 V1 E O : Int) (w : World) (hj : j < n) (_ : n ≤ 16) (hpr : pr < 2)
    (h0 : w.cell? ⟨tb0, 0, none⟩ = some (.slice (some ⟨tb, 0, none⟩) n nc)) (h1 : w.cell? ⟨pb, 0, none⟩ = some (.int .i64 (pr : Nat))) (h2 : w.cell? ⟨ab, 0, none⟩ = some (.iface 72 (.agg #[])))
    (h3 : w.cell? ⟨eb, 0, none⟩ = some (.int .i64 E)) (h4 : w.cell? ⟨ob, 0, none⟩ = some (.int .i64 O)) (z3 : w.frozen? ⟨eb, 0, none⟩ = false) (z4 : w.frozen? ⟨ob, 0, none⟩ = false) (hne : eb ≠ ob)
    (k0 : w.cell? ⟨tb, j * 4 + pr, none⟩ = some (.int .i64 V0)) (k1 : w.cell? ⟨tb, j * 4 + 2 + pr, none⟩ = some (.int .i64 V1)) :
    Calls Tryd.prog 125 #[.int .i64 (j : Nat), .pointer (some ⟨tb0, 0, none⟩), .pointer (some ⟨pb, 0, none⟩), .pointer (some ⟨ab, 0, none⟩), .pointer (some ⟨eb, 0, none⟩), .pointer (some ⟨ob, 0, none⟩)] w fun e w' =>
      e = .returned (.tuple #[]) ∧ ∃ x : Later w, w' = (x.w.setCell ⟨eb, 0, none⟩ (.int .i64 (accLI.either (accLI.both E V0) (accLI.both O V1)))).setCell ⟨ob, 0, none⟩ (.int .i64 (accLI.either (accLI.both O V0) (accLI.both E V1))) := by
  have hjn : (j : Int) < (n : Int) := by omega
  have hp2 : (pr : Int) < 2 := by omega
  go_enter Tryd.func125, Tryd.ntmps125
  go_wp2_with fail
  go_quiet (fail)
  have C1 : Hid (∀ w, Calls Tryd.prog 159 #[.agg #[], .int .i64 E, .int .i64 V0] w _) := hide fun w => both72 E V0 w
  have C2 : Hid (∀ w, Calls Tryd.prog 159 #[.agg #[], .int .i64 O, .int .i64 V1] w _) := hide fun w => both72 O V1 w
  have C3 : Hid (∀ w, Calls Tryd.prog 159 #[.agg #[], .int .i64 O, .int .i64 V0] w _) := hide fun w => both72 O V0 w
  have C4 : Hid (∀ w, Calls Tryd.prog 159 #[.agg #[], .int .i64 E, .int .i64 V1] w _) := hide fun w => both72 E V1 w
  have C5 : Hid (∀ w, Calls Tryd.prog 160 #[.agg #[], .int .i64 (accLI.both E V0), .int .i64 (accLI.both O V1)] w _) := hide fun w => either72 (accLI.both E V0) (accLI.both O V1) w
  have C6 : Hid (∀ w, Calls Tryd.prog 160 #[.agg #[], .int .i64 (accLI.both O V0), .int .i64 (accLI.both E V1)] w _) := hide fun w => either72 (accLI.both O V0) (accLI.both E V1) w
  have Q2 : ∀ x : Later (w.drewN nq), x.w.cell? ⟨ab, 0, none⟩ = some (.iface 72 (.agg #[])) := fun x => x.cell h2
  have Q3 : ∀ x : Later (w.drewN nq), x.w.cell? ⟨eb, 0, none⟩ = some (.int .i64 E) := fun x => x.cell h3
  have Q4 : ∀ x : Later (w.drewN nq), x.w.cell? ⟨ob, 0, none⟩ = some (.int .i64 O) := fun x => x.cell h4
  have l3 := World.block_lt_of_cell? w _ h3
  have l4 := World.block_lt_of_cell? w _ h4
  clear h0 h1 h2 k0 k1
  go_wp2_with fail
  refine wp_region_later_tail 26 (by kernel_rfl) (by kernel_rfl) ?_
  simp only [List.take_succ_cons, List.take_zero]
  repeat (first | go_big_quiet_skip | (go_big_quiet_want; go_big_quiet_op; first | go_big_quiet_on | (apply Exists.intro; refine ⟨fun x => ?_, ?_⟩; (· first
    | (with_reducible exact Later.call x (C1.out x.w)) | (with_reducible exact Later.call x (C2.out x.w)) | (with_reducible exact Later.call x (C3.out x.w)) | (with_reducible exact Later.call x (C4.out x.w)) | (with_reducible exact Later.call x (C5.out x.w)) | (with_reducible exact Later.call x (C6.out x.w))); go_big_quiet_on)))
  refine wpQuiet_nil ?_
  rintro _ ⟨x, rfl⟩
  have hx := x.is
  have y3 : x.w.cell? ⟨eb, 0, none⟩ = some (.int .i64 E) := x.cell h3
  have y4 : x.w.cell? ⟨ob, 0, none⟩ = some (.int .i64 O) := x.cell h4
  have f3 : x.w.frozen? ⟨eb, 0, none⟩ = false := (hx.frozen (p := ⟨eb, 0, none⟩) l3).trans z3
  have f4 : x.w.frozen? ⟨ob, 0, none⟩ = false := (hx.frozen (p := ⟨ob, 0, none⟩) l4).trans z4
  have xl3 := World.block_lt_of_cell? x.w _ y3
  have xl4 := World.block_lt_of_cell? x.w _ y4
  have HX := hide hx
  clear Q2 Q3 Q4 h3 h4 hx z3 z4
  simp only [List.drop_succ_cons, List.drop_zero]
  go_wp2
  go_end0
  exact ⟨rfl, ⟨x.w, (below_drewN (Below.refl _ _) nq).trans HX.out⟩, rfl⟩
end Go.Proofs.YtmcimfblhpflnaaDoor
