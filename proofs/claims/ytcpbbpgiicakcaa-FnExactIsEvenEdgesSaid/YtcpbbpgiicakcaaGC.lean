/-
A region whose calls make memory of their own and write nothing that was there: one walk in the order of the text serves every order. And with it isEdge.
-/
import Derived.Test.YtcpbbpgiicakcaaGB
import Derived.Test.YtcpbbpgiicakcaaF
namespace Go.Proofs.Ytcpbbpgiicakcaa
open Go.RowKit Go.BigFrame
set_option maxHeartbeats 400000
/-- A world in which all that was in w1 is as it was. -/
structure Later (w1 : World) where
  w : World
  is : Below w1.heap.size w1 w
instance (w1 : World) : Nonempty (Later w1) := ⟨⟨w1, Below.refl _ _⟩⟩
theorem wp_region_later {id : Nat} {Q : Exit → Act → World → Prop} {a : Act} {w1 : World} {l : List Oper} (hm : Try.prog.follows .mixedOrders = true) (hB : Region.lexB .any l.toArray = true)
    (h : wpQuiet Try.prog l.toArray (fun w' => ∃ x : Later w1, w' = x.w) (fun a' => ∀ w', (∃ x : Later w1, w' = x.w) → Q .normal a' w') l a) : (Code.region id l.toArray true).wp Try.prog Q a w1 :=
  wp_region_quiet (C := fun w' => ∃ x : Later w1, w' = x.w) hm hB ⟨⟨w1.drew, Below.drew (Below.refl _ _)⟩, rfl⟩ (by simpa using h)
theorem Later.cell {w1 : World} (x : Later w1) {p : Addr} {v : Value} (h : w1.cell? p = some v) : x.w.cell? p = some v := (x.is.cell (World.block_lt_of_cell? w1 p h)).trans h
theorem Later.call {w1 : World} (x : Later w1) {f : FuncId} {args : Array Value} {v : Value} (h : Calls Try.prog f args x.w fun e w' => e = .returned v ∧ Below x.w.heap.size x.w w') :
    Calls Try.prog f args x.w fun e w'' => e = .returned v ∧ ∃ y : Later w1, w'' = y.w :=
  h.mono fun _ w' ⟨he, hb⟩ => ⟨he, ⟨w', x.is.trans (hb.mono x.is.size)⟩, rfl⟩
/-- Is a list of length l, of the contents r, an edge of a graph of n buttons? -/
def edgeB (n l : Nat) (r : Nat → Int) : Bool := decide (l = 2) && (inB (r 0) 0 (n - 1) && (inB (r 1) 0 (n - 1) && !(r 0 == r 1)))
theorem isEdge_xout (G : Option Addr) (n c d b off : Nat) (own : Bool) (X Y : Int) (w : World) (hn : n ≤ 1048576) (hX : inB X 0 (n - 1) = false)
    (h0 : w.cell? ⟨b, off, none⟩ = some (.int .i64 X)) (h1 : w.cell? ⟨b, off + 1, none⟩ = some (.int .i64 Y)) :
    Calls Try.prog 83 #[.agg #[.slice G n c, .bool own], .slice (some ⟨b, off, none⟩) 2 d] w fun e w' => e = .returned (.bool false) ∧ Below w.heap.size w w' := by
  have hl : b < w.heap.size := World.block_lt_of_cell? w _ h0
  have H0 : ∀ x : Later (w.alloc (.cells #[.slice G n c, .bool own] 28)), x.w.cell? ⟨b, off, none⟩ = some (.int .i64 X) := fun x => x.cell ((Below.cell ((Below.refl w.heap.size w).alloc (Nat.le_refl _) _) (p := ⟨b, off, none⟩) hl).trans h0)
  have H1 : ∀ x : Later (w.alloc (.cells #[.slice G n c, .bool own] 28)), x.w.cell? ⟨b, off + 1, none⟩ = some (.int .i64 Y) := fun x => x.cell ((Below.cell ((Below.refl w.heap.size w).alloc (Nat.le_refl _) _) (p := ⟨b, off + 1, none⟩) hl).trans h1)
  have B0 : ∀ x : Later (w.alloc (.cells #[.slice G n c, .bool own] 28)), x.w.cell? ⟨w.heap.size, 0, none⟩ = some (.slice G n c) := fun x => x.cell (by simp [go_sem])
  have B1 : ∀ x : Later (w.alloc (.cells #[.slice G n c, .bool own] 28)), x.w.cell? ⟨w.heap.size, 1, none⟩ = some (.bool own) := fun x => x.cell (by simp [go_sem])
  have CX : Hid (∀ x : Later (w.alloc (.cells #[.slice G n c, .bool own] 28)), Calls Try.prog 91 #[.agg #[.slice G n c, .bool own], .int .i64 X] x.w fun e w' => e = .returned (.bool (inB X 0 (n - 1))) ∧ Below x.w.heap.size x.w w') := hide fun x => isButton_any _ _ _ _ _ _ hn
  have CY : Hid (∀ x : Later (w.alloc (.cells #[.slice G n c, .bool own] 28)), Calls Try.prog 91 #[.agg #[.slice G n c, .bool own], .int .i64 Y] x.w fun e w' => e = .returned (.bool (inB Y 0 (n - 1))) ∧ Below x.w.heap.size x.w w') := hide fun x => isButton_any _ _ _ _ _ _ hn
  have EX : inB X 0 (n - 1) = false := hX
  rw [EX] at CX
  clear h0 h1
  go_enter Try.func83, Try.ntmps83
  go_wp2_with fail
  refine wp_region_later (by kernel_rfl) (by kernel_rfl) ?_
  repeat (first | go_big_quiet_skip | (go_big_quiet_want; go_big_quiet_op; first | go_big_quiet_on | (apply Exists.intro; refine ⟨fun x => ?_, ?_⟩; (· first | (go_at_call_of 91 (Value.int .i64 X); exact Later.call x (CX.out x)) | (go_at_call_of 91 (Value.int .i64 Y); exact Later.call x (CY.out x))); go_big_quiet_on)))
  refine wpQuiet_nil ?_
  rintro _ ⟨x, rfl⟩
  have hx := x.is
  clear H0 H1 B0 B1
  go_wp2
  go_ret
  exact ⟨rfl, ((Below.refl w.heap.size w).alloc (Nat.le_refl _) _).trans (hx.mono (by simp))⟩
theorem isEdge_yout (G : Option Addr) (n c d b off : Nat) (own : Bool) (X Y : Int) (w : World) (hn : n ≤ 1048576) (hX : inB X 0 (n - 1) = true) (hY : inB Y 0 (n - 1) = false)
    (h0 : w.cell? ⟨b, off, none⟩ = some (.int .i64 X)) (h1 : w.cell? ⟨b, off + 1, none⟩ = some (.int .i64 Y)) :
    Calls Try.prog 83 #[.agg #[.slice G n c, .bool own], .slice (some ⟨b, off, none⟩) 2 d] w fun e w' => e = .returned (.bool false) ∧ Below w.heap.size w w' := by
  have hl : b < w.heap.size := World.block_lt_of_cell? w _ h0
  have H0 : ∀ x : Later (w.alloc (.cells #[.slice G n c, .bool own] 28)), x.w.cell? ⟨b, off, none⟩ = some (.int .i64 X) := fun x => x.cell ((Below.cell ((Below.refl w.heap.size w).alloc (Nat.le_refl _) _) (p := ⟨b, off, none⟩) hl).trans h0)
  have H1 : ∀ x : Later (w.alloc (.cells #[.slice G n c, .bool own] 28)), x.w.cell? ⟨b, off + 1, none⟩ = some (.int .i64 Y) := fun x => x.cell ((Below.cell ((Below.refl w.heap.size w).alloc (Nat.le_refl _) _) (p := ⟨b, off + 1, none⟩) hl).trans h1)
  have B0 : ∀ x : Later (w.alloc (.cells #[.slice G n c, .bool own] 28)), x.w.cell? ⟨w.heap.size, 0, none⟩ = some (.slice G n c) := fun x => x.cell (by simp [go_sem])
  have B1 : ∀ x : Later (w.alloc (.cells #[.slice G n c, .bool own] 28)), x.w.cell? ⟨w.heap.size, 1, none⟩ = some (.bool own) := fun x => x.cell (by simp [go_sem])
  have CX : Hid (∀ x : Later (w.alloc (.cells #[.slice G n c, .bool own] 28)), Calls Try.prog 91 #[.agg #[.slice G n c, .bool own], .int .i64 X] x.w fun e w' => e = .returned (.bool (inB X 0 (n - 1))) ∧ Below x.w.heap.size x.w w') := hide fun x => isButton_any _ _ _ _ _ _ hn
  have CY : Hid (∀ x : Later (w.alloc (.cells #[.slice G n c, .bool own] 28)), Calls Try.prog 91 #[.agg #[.slice G n c, .bool own], .int .i64 Y] x.w fun e w' => e = .returned (.bool (inB Y 0 (n - 1))) ∧ Below x.w.heap.size x.w w') := hide fun x => isButton_any _ _ _ _ _ _ hn
  have EX : inB X 0 (n - 1) = true := hX
  rw [EX] at CX
  have EY : inB Y 0 (n - 1) = false := hY
  rw [EY] at CY
  clear h0 h1
  go_enter Try.func83, Try.ntmps83
  go_wp2_with fail
  refine wp_region_later (by kernel_rfl) (by kernel_rfl) ?_
  repeat (first | go_big_quiet_skip | (go_big_quiet_want; go_big_quiet_op; first | go_big_quiet_on | (apply Exists.intro; refine ⟨fun x => ?_, ?_⟩; (· first | (go_at_call_of 91 (Value.int .i64 X); exact Later.call x (CX.out x)) | (go_at_call_of 91 (Value.int .i64 Y); exact Later.call x (CY.out x))); go_big_quiet_on)))
  refine wpQuiet_nil ?_
  rintro _ ⟨x, rfl⟩
  have hx := x.is
  clear H0 H1 B0 B1
  go_wp2
  go_ret
  exact ⟨rfl, ((Below.refl w.heap.size w).alloc (Nat.le_refl _) _).trans (hx.mono (by simp))⟩
theorem isEdge_same (G : Option Addr) (n c d b off : Nat) (own : Bool) (X Y : Int) (w : World) (hn : n ≤ 1048576) (hX : inB X 0 (n - 1) = true) (hY : inB Y 0 (n - 1) = true) (hq : (X != Y) = false)
    (h0 : w.cell? ⟨b, off, none⟩ = some (.int .i64 X)) (h1 : w.cell? ⟨b, off + 1, none⟩ = some (.int .i64 Y)) :
    Calls Try.prog 83 #[.agg #[.slice G n c, .bool own], .slice (some ⟨b, off, none⟩) 2 d] w fun e w' => e = .returned (.bool false) ∧ Below w.heap.size w w' := by
  have hl : b < w.heap.size := World.block_lt_of_cell? w _ h0
  have H0 : ∀ x : Later (w.alloc (.cells #[.slice G n c, .bool own] 28)), x.w.cell? ⟨b, off, none⟩ = some (.int .i64 X) := fun x => x.cell ((Below.cell ((Below.refl w.heap.size w).alloc (Nat.le_refl _) _) (p := ⟨b, off, none⟩) hl).trans h0)
  have H1 : ∀ x : Later (w.alloc (.cells #[.slice G n c, .bool own] 28)), x.w.cell? ⟨b, off + 1, none⟩ = some (.int .i64 Y) := fun x => x.cell ((Below.cell ((Below.refl w.heap.size w).alloc (Nat.le_refl _) _) (p := ⟨b, off + 1, none⟩) hl).trans h1)
  have B0 : ∀ x : Later (w.alloc (.cells #[.slice G n c, .bool own] 28)), x.w.cell? ⟨w.heap.size, 0, none⟩ = some (.slice G n c) := fun x => x.cell (by simp [go_sem])
  have B1 : ∀ x : Later (w.alloc (.cells #[.slice G n c, .bool own] 28)), x.w.cell? ⟨w.heap.size, 1, none⟩ = some (.bool own) := fun x => x.cell (by simp [go_sem])
  have CX : Hid (∀ x : Later (w.alloc (.cells #[.slice G n c, .bool own] 28)), Calls Try.prog 91 #[.agg #[.slice G n c, .bool own], .int .i64 X] x.w fun e w' => e = .returned (.bool (inB X 0 (n - 1))) ∧ Below x.w.heap.size x.w w') := hide fun x => isButton_any _ _ _ _ _ _ hn
  have CY : Hid (∀ x : Later (w.alloc (.cells #[.slice G n c, .bool own] 28)), Calls Try.prog 91 #[.agg #[.slice G n c, .bool own], .int .i64 Y] x.w fun e w' => e = .returned (.bool (inB Y 0 (n - 1))) ∧ Below x.w.heap.size x.w w') := hide fun x => isButton_any _ _ _ _ _ _ hn
  have EX : inB X 0 (n - 1) = true := hX
  rw [EX] at CX
  have EY : inB Y 0 (n - 1) = true := hY
  rw [EY] at CY
  clear h0 h1
  go_enter Try.func83, Try.ntmps83
  go_wp2_with fail
  refine wp_region_later (by kernel_rfl) (by kernel_rfl) ?_
  repeat (first | go_big_quiet_skip | (go_big_quiet_want; go_big_quiet_op; first | go_big_quiet_on | (apply Exists.intro; refine ⟨fun x => ?_, ?_⟩; (· first | (go_at_call_of 91 (Value.int .i64 X); exact Later.call x (CX.out x)) | (go_at_call_of 91 (Value.int .i64 Y); exact Later.call x (CY.out x))); go_big_quiet_on)))
  refine wpQuiet_nil ?_
  rintro _ ⟨x, rfl⟩
  have hx := x.is
  clear H0 H1 B0 B1
  go_wp2
  go_ret
  exact ⟨rfl, ((Below.refl w.heap.size w).alloc (Nat.le_refl _) _).trans (hx.mono (by simp))⟩
theorem isEdge_ok (G : Option Addr) (n c d b off : Nat) (own : Bool) (X Y : Int) (w : World) (hn : n ≤ 1048576) (hX : inB X 0 (n - 1) = true) (hY : inB Y 0 (n - 1) = true) (hq : (X != Y) = true)
    (h0 : w.cell? ⟨b, off, none⟩ = some (.int .i64 X)) (h1 : w.cell? ⟨b, off + 1, none⟩ = some (.int .i64 Y)) :
    Calls Try.prog 83 #[.agg #[.slice G n c, .bool own], .slice (some ⟨b, off, none⟩) 2 d] w fun e w' => e = .returned (.bool true) ∧ Below w.heap.size w w' := by
  have hl : b < w.heap.size := World.block_lt_of_cell? w _ h0
  have H0 : ∀ x : Later (w.alloc (.cells #[.slice G n c, .bool own] 28)), x.w.cell? ⟨b, off, none⟩ = some (.int .i64 X) := fun x => x.cell ((Below.cell ((Below.refl w.heap.size w).alloc (Nat.le_refl _) _) (p := ⟨b, off, none⟩) hl).trans h0)
  have H1 : ∀ x : Later (w.alloc (.cells #[.slice G n c, .bool own] 28)), x.w.cell? ⟨b, off + 1, none⟩ = some (.int .i64 Y) := fun x => x.cell ((Below.cell ((Below.refl w.heap.size w).alloc (Nat.le_refl _) _) (p := ⟨b, off + 1, none⟩) hl).trans h1)
  have B0 : ∀ x : Later (w.alloc (.cells #[.slice G n c, .bool own] 28)), x.w.cell? ⟨w.heap.size, 0, none⟩ = some (.slice G n c) := fun x => x.cell (by simp [go_sem])
  have B1 : ∀ x : Later (w.alloc (.cells #[.slice G n c, .bool own] 28)), x.w.cell? ⟨w.heap.size, 1, none⟩ = some (.bool own) := fun x => x.cell (by simp [go_sem])
  have CX : Hid (∀ x : Later (w.alloc (.cells #[.slice G n c, .bool own] 28)), Calls Try.prog 91 #[.agg #[.slice G n c, .bool own], .int .i64 X] x.w fun e w' => e = .returned (.bool (inB X 0 (n - 1))) ∧ Below x.w.heap.size x.w w') := hide fun x => isButton_any _ _ _ _ _ _ hn
  have CY : Hid (∀ x : Later (w.alloc (.cells #[.slice G n c, .bool own] 28)), Calls Try.prog 91 #[.agg #[.slice G n c, .bool own], .int .i64 Y] x.w fun e w' => e = .returned (.bool (inB Y 0 (n - 1))) ∧ Below x.w.heap.size x.w w') := hide fun x => isButton_any _ _ _ _ _ _ hn
  have EX : inB X 0 (n - 1) = true := hX
  rw [EX] at CX
  have EY : inB Y 0 (n - 1) = true := hY
  rw [EY] at CY
  clear h0 h1
  go_enter Try.func83, Try.ntmps83
  go_wp2_with fail
  refine wp_region_later (by kernel_rfl) (by kernel_rfl) ?_
  repeat (first | go_big_quiet_skip | (go_big_quiet_want; go_big_quiet_op; first | go_big_quiet_on | (apply Exists.intro; refine ⟨fun x => ?_, ?_⟩; (· first | (go_at_call_of 91 (Value.int .i64 X); exact Later.call x (CX.out x)) | (go_at_call_of 91 (Value.int .i64 Y); exact Later.call x (CY.out x))); go_big_quiet_on)))
  refine wpQuiet_nil ?_
  rintro _ ⟨x, rfl⟩
  have hx := x.is
  clear H0 H1 B0 B1
  go_wp2
  go_ret
  exact ⟨rfl, ((Below.refl w.heap.size w).alloc (Nat.le_refl _) _).trans (hx.mono (by simp))⟩
theorem isEdge_len (G A : Option Addr) (n c l d : Nat) (own : Bool) (w : World) (hl : l ≠ 2) :
    Calls Try.prog 83 #[.agg #[.slice G n c, .bool own], .slice A l d] w fun e w' => e = .returned (.bool false) ∧ Below w.heap.size w w' := by
  have hd : ((l : Int) == 2) = false := by simp; omega
  go_enter Try.func83, Try.ntmps83
  go_wp2_with fail
  go_quiet (fail)
  go_wp2
  go_ret
  exact ⟨rfl, below_drewN ((Below.refl w.heap.size w).alloc (Nat.le_refl _) _) _⟩
theorem isEdge_any (G A : Option Addr) (n c l d : Nat) (own : Bool) (r : Nat → Int) (w : World) (hn : n ≤ 1048576) (hs : Src w A l (iv r)) :
    Calls Try.prog 83 #[.agg #[.slice G n c, .bool own], .slice A l d] w fun e w' => e = .returned (.bool (edgeB n l r)) ∧ Below w.heap.size w w' := by
  by_cases hl : l = 2
  · subst hl
    obtain ⟨b, off, hA, _, h0⟩ := hs 0 (by omega)
    obtain ⟨b', off', hA', _, h1⟩ := hs 1 (by omega)
    subst hA
    injection hA' with hA'
    injection hA' with e1 e2
    subst e1 e2
    cases hX : inB (r 0) 0 (n - 1)
    · refine (isEdge_xout G n c d b off own _ _ w hn hX h0 h1).mono fun e w' h => ?_
      simpa [edgeB, hX] using h
    · cases hY : inB (r 1) 0 (n - 1)
      · refine (isEdge_yout G n c d b off own _ _ w hn hX hY h0 h1).mono fun e w' h => ?_
        simpa [edgeB, hX, hY] using h
      · cases hq : (r 0 != r 1)
        · refine (isEdge_same G n c d b off own _ _ w hn hX hY hq h0 h1).mono fun e w' h => ?_
          have : r 0 = r 1 := by simpa using hq
          simpa [edgeB, hX, hY, this] using h
        · refine (isEdge_ok G n c d b off own _ _ w hn hX hY hq h0 h1).mono fun e w' h => ?_
          have : (r 0 == r 1) = false := by simpa using hq
          simpa [edgeB, hX, hY, this] using h
  · refine (isEdge_len G A n c l d own w hl).mono fun e w' h => ?_
    simpa [edgeB, hl] using h
end Go.Proofs.Ytcpbbpgiicakcaa
