/-
isOrderedEdge: an edge of the graph, told with its lesser button first.
-/
import Derived.Test.YtcpbbpgiicakcaaGC
namespace Go.Proofs.Ytcpbbpgiicakcaa
open Go.RowKit Go.BigFrame
set_option maxHeartbeats 1000000
theorem isOrd_no (G A : Option Addr) (n c l d : Nat) (own : Bool) (r : Nat → Int) (w : World) (hn : n ≤ 1048576) (hs : Src w A l (iv r)) (hE : edgeB n l r = false) :
    Calls Try.prog 66 #[.agg #[.slice G n c, .bool own], .slice A l d] w fun e w' => e = .returned (.bool false) ∧ Below w.heap.size w w' := by
  have B0 : ∀ x : Later (w.alloc (.cells #[.slice G n c, .bool own] 28)), x.w.cell? ⟨w.heap.size, 0, none⟩ = some (.slice G n c) := fun x => x.cell (by simp [go_sem])
  have B1 : ∀ x : Later (w.alloc (.cells #[.slice G n c, .bool own] 28)), x.w.cell? ⟨w.heap.size, 1, none⟩ = some (.bool own) := fun x => x.cell (by simp [go_sem])
  have CE : Hid (∀ x : Later (w.alloc (.cells #[.slice G n c, .bool own] 28)), Calls Try.prog 83 #[.agg #[.slice G n c, .bool own], .slice A l d] x.w fun e w' => e = .returned (.bool (edgeB n l r)) ∧ Below x.w.heap.size x.w w') := hide fun x => isEdge_any G A n c l d own r x.w hn ((hs.alloc _).below x.is)
  rw [hE] at CE
  clear hs hE
  go_enter Try.func66, Try.ntmps66
  go_wp2_with fail
  refine wp_region_later (by kernel_rfl) (by kernel_rfl) ?_
  repeat (first | go_big_quiet_skip | (go_big_quiet_want; go_big_quiet_op; first | go_big_quiet_on | (apply Exists.intro; refine ⟨fun x => ?_, ?_⟩; (· (go_at_call 83; exact Later.call x (CE.out x))); go_big_quiet_on)))
  refine wpQuiet_nil ?_
  rintro _ ⟨x, rfl⟩
  have hx := x.is
  clear B0 B1
  go_wp2
  go_ret
  exact ⟨rfl, ((Below.refl w.heap.size w).alloc (Nat.le_refl _) _).trans (hx.mono (by simp))⟩
theorem isOrd_back (G : Option Addr) (n c b off d : Nat) (own : Bool) (r : Nat → Int) (X Y : Int) (w : World) (hn : n ≤ 1048576) (hs : Src w (some ⟨b, off, none⟩) 2 (iv r)) (hE : edgeB n 2 r = true)
    (hX : r 0 = X) (hY : r 1 = Y) (hlt : ¬ X < Y) (h0 : w.cell? ⟨b, off, none⟩ = some (.int .i64 X)) (h1 : w.cell? ⟨b, off + 1, none⟩ = some (.int .i64 Y)) :
    Calls Try.prog 66 #[.agg #[.slice G n c, .bool own], .slice (some ⟨b, off, none⟩) 2 d] w fun e w' => e = .returned (.bool false) ∧ Below w.heap.size w w' := by
  have hl : b < w.heap.size := World.block_lt_of_cell? w _ h0
  have H0 : ∀ x : Later (w.alloc (.cells #[.slice G n c, .bool own] 28)), x.w.cell? ⟨b, off, none⟩ = some (.int .i64 X) := fun x => x.cell ((Below.cell ((Below.refl w.heap.size w).alloc (Nat.le_refl _) _) (p := ⟨b, off, none⟩) hl).trans h0)
  have H1 : ∀ x : Later (w.alloc (.cells #[.slice G n c, .bool own] 28)), x.w.cell? ⟨b, off + 1, none⟩ = some (.int .i64 Y) := fun x => x.cell ((Below.cell ((Below.refl w.heap.size w).alloc (Nat.le_refl _) _) (p := ⟨b, off + 1, none⟩) hl).trans h1)
  have B0 : ∀ x : Later (w.alloc (.cells #[.slice G n c, .bool own] 28)), x.w.cell? ⟨w.heap.size, 0, none⟩ = some (.slice G n c) := fun x => x.cell (by simp [go_sem])
  have B1 : ∀ x : Later (w.alloc (.cells #[.slice G n c, .bool own] 28)), x.w.cell? ⟨w.heap.size, 1, none⟩ = some (.bool own) := fun x => x.cell (by simp [go_sem])
  have CE : Hid (∀ x : Later (w.alloc (.cells #[.slice G n c, .bool own] 28)), Calls Try.prog 83 #[.agg #[.slice G n c, .bool own], .slice (some ⟨b, off, none⟩) 2 d] x.w fun e w' => e = .returned (.bool (edgeB n 2 r)) ∧ Below x.w.heap.size x.w w') := hide fun x => isEdge_any G _ n c 2 d own r x.w hn ((hs.alloc _).below x.is)
  rw [hE] at CE
  have hd : decide (X < Y) = false := by simpa using hlt
  clear hs hE h0 h1 hX hY
  go_enter Try.func66, Try.ntmps66
  go_wp2_with fail
  refine wp_region_later (by kernel_rfl) (by kernel_rfl) ?_
  repeat (first | go_big_quiet_skip | (go_big_quiet_want; go_big_quiet_op; first | go_big_quiet_on | (apply Exists.intro; refine ⟨fun x => ?_, ?_⟩; (· (go_at_call 83; exact Later.call x (CE.out x))); go_big_quiet_on)))
  refine wpQuiet_nil ?_
  rintro _ ⟨x, rfl⟩
  have hx := x.is
  clear H0 H1 B0 B1
  go_wp2
  go_ret
  exact ⟨rfl, ((Below.refl w.heap.size w).alloc (Nat.le_refl _) _).trans (hx.mono (by simp))⟩
theorem isOrd_ok (n c b off d gb go_ x y : Nat) (own : Bool) (f r : Nat → Int) (w : World) (hn : n ≤ 64) (hs : Src w (some ⟨b, off, none⟩) 2 (iv r)) (hE : edgeB n 2 r = true)
    (hX : r 0 = x) (hY : r 1 = y) (hlt : x < y) (hy : y < n) (h0 : w.cell? ⟨b, off, none⟩ = some (.int .i64 (x : Nat))) (h1 : w.cell? ⟨b, off + 1, none⟩ = some (.int .i64 (y : Nat)))
    (h2 : w.cell? ⟨gb, go_ + x, none⟩ = some (.int .i64 (f x))) :
    Calls Try.prog 66 #[.agg #[.slice (some ⟨gb, go_, none⟩) n c, .bool own], .slice (some ⟨b, off, none⟩) 2 d] w fun e w' => e = .returned (.bool (bt (f x) y)) ∧ Below w.heap.size w w' := by
  have hl : b < w.heap.size := World.block_lt_of_cell? w _ h0
  have hl2 : gb < w.heap.size := World.block_lt_of_cell? w _ h2
  have H0 : ∀ z : Later (w.alloc (.cells #[.slice (some ⟨gb, go_, none⟩) n c, .bool own] 28)), z.w.cell? ⟨b, off, none⟩ = some (.int .i64 (x : Nat)) := fun z => z.cell ((Below.cell ((Below.refl w.heap.size w).alloc (Nat.le_refl _) _) (p := ⟨b, off, none⟩) hl).trans h0)
  have H1 : ∀ z : Later (w.alloc (.cells #[.slice (some ⟨gb, go_, none⟩) n c, .bool own] 28)), z.w.cell? ⟨b, off + 1, none⟩ = some (.int .i64 (y : Nat)) := fun z => z.cell ((Below.cell ((Below.refl w.heap.size w).alloc (Nat.le_refl _) _) (p := ⟨b, off + 1, none⟩) hl).trans h1)
  have H2 : ∀ z : Later (w.alloc (.cells #[.slice (some ⟨gb, go_, none⟩) n c, .bool own] 28)), z.w.cell? ⟨gb, go_ + x, none⟩ = some (.int .i64 (f x)) := fun z => z.cell ((Below.cell ((Below.refl w.heap.size w).alloc (Nat.le_refl _) _) (p := ⟨gb, go_ + x, none⟩) hl2).trans h2)
  have B0 : ∀ z : Later (w.alloc (.cells #[.slice (some ⟨gb, go_, none⟩) n c, .bool own] 28)), z.w.cell? ⟨w.heap.size, 0, none⟩ = some (.slice (some ⟨gb, go_, none⟩) n c) := fun z => z.cell (by simp [go_sem])
  have B1 : ∀ z : Later (w.alloc (.cells #[.slice (some ⟨gb, go_, none⟩) n c, .bool own] 28)), z.w.cell? ⟨w.heap.size, 1, none⟩ = some (.bool own) := fun z => z.cell (by simp [go_sem])
  have CE : Hid (∀ z : Later (w.alloc (.cells #[.slice (some ⟨gb, go_, none⟩) n c, .bool own] 28)), Calls Try.prog 83 #[.agg #[.slice (some ⟨gb, go_, none⟩) n c, .bool own], .slice (some ⟨b, off, none⟩) 2 d] z.w fun e w' => e = .returned (.bool (edgeB n 2 r)) ∧ Below z.w.heap.size z.w w') := hide fun z => isEdge_any _ _ n c 2 d own r z.w (by omega) ((hs.alloc _).below z.is)
  rw [hE] at CE
  have CH : Hid (∀ z : Later (w.alloc (.cells #[.slice (some ⟨gb, go_, none⟩) n c, .bool own] 28)), Calls Try.prog 61 #[.int .i64 (f x), .int .i64 (y : Nat)] z.w fun e w' => e = .returned (.bool (bt (f x) y)) ∧ Below z.w.heap.size z.w w') := hide fun z => (hasG_any (f x) (y : Nat) (by omega) (by omega) z.w).mono fun e w' ⟨h, h'⟩ => ⟨h, h' ▸ Below.refl _ _⟩
  have hd : decide ((x : Int) < (y : Nat)) = true := by simpa using hlt
  have i0 : (0 : Int) ≤ (x : Nat) := by omega
  have i1 : ((x : Nat) : Int) < (n : Nat) := by omega
  clear hs hE h0 h1 h2 hX hY
  go_enter Try.func66, Try.ntmps66
  go_wp2_with fail
  refine wp_region_later (by kernel_rfl) (by kernel_rfl) ?_
  repeat (first | go_big_quiet_skip | (go_big_quiet_want; go_big_quiet_op; first | go_big_quiet_on | (apply Exists.intro; refine ⟨fun z => ?_, ?_⟩; (· first | (go_at_call 83; exact Later.call z (CE.out z)) | (go_at_call 61; exact Later.call z (CH.out z))); go_big_quiet_on)))
  refine wpQuiet_nil ?_
  rintro _ ⟨z, rfl⟩
  have hx := z.is
  clear H0 H1 H2 B0 B1
  go_wp2
  go_ret
  exact ⟨rfl, ((Below.refl w.heap.size w).alloc (Nat.le_refl _) _).trans (hx.mono (by simp))⟩
/-- Is it an edge of the graph, its lesser button first? -/
def ordB (n l : Nat) (f r : Nat → Int) : Bool := edgeB n l r && (decide (r 0 < r 1) && bt (f (r 0).toNat) (r 1).toNat)
theorem isOrd_any (G A : Option Addr) (n c l d : Nat) (own : Bool) (f r : Nat → Int) (w : World) (hn : n ≤ 64) (hg : Src w G n (iv f)) (hs : Src w A l (iv r)) :
    Calls Try.prog 66 #[.agg #[.slice G n c, .bool own], .slice A l d] w fun e w' => e = .returned (.bool (ordB n l f r)) ∧ Below w.heap.size w w' := by
  cases hE : edgeB n l r
  · refine (isOrd_no G A n c l d own r w (by omega) hs hE).mono fun e w' h => ?_
    simpa [ordB, hE] using h
  · have hk := hE
    simp only [edgeB, inB, Bool.and_eq_true, decide_eq_true_eq] at hk
    obtain ⟨h1, h2, h3, _⟩ := hk
    subst h1
    obtain ⟨b, off, hA, _, q0⟩ := hs 0 (by omega)
    obtain ⟨b', off', hA', _, q1⟩ := hs 1 (by omega)
    subst hA
    injection hA' with hA'
    injection hA' with e1 e2
    subst e1 e2
    by_cases hlt : r 0 < r 1
    · obtain ⟨x, hx⟩ : ∃ x : Nat, r 0 = x := ⟨(r 0).toNat, by omega⟩
      obtain ⟨y, hy⟩ : ∃ y : Nat, r 1 = y := ⟨(r 1).toNat, by omega⟩
      obtain ⟨gb, go_, hG, _, q2⟩ := hg x (by omega)
      subst hG
      simp only [iv, hx, Nat.add_zero] at q0
      simp only [iv, hy] at q1
      refine (isOrd_ok n c b off d gb go_ x y own f r w hn hs hE hx hy (by omega) (by omega) q0 q1 q2).mono fun e w' h => ?_
      have h4 : decide ((x : Int) < (y : Nat)) = true := by simp; omega
      simpa only [ordB, hE, hx, hy, h4, Bool.true_and, Int.toNat_natCast] using h
    · refine (isOrd_back G n c b off d own r (r 0) (r 1) w (by omega) hs hE rfl rfl hlt q0 q1).mono fun e w' h => ?_
      simpa [ordB, hE, hlt] using h
theorem ord_ok {n l : Nat} {f r : Nat → Int} (h : ordB n l f r = true) : l = 2 ∧ ∃ i j : Nat, i < j ∧ j < n ∧ r 0 = (i : Int) ∧ r 1 = (j : Int) ∧ bt (f i) j = true := by
  simp only [ordB, edgeB, inB, Bool.and_eq_true, decide_eq_true_eq] at h
  obtain ⟨⟨h1, h2, h3, _⟩, h5, h6⟩ := h
  exact ⟨h1, (r 0).toNat, (r 1).toNat, by omega, by omega, by omega, by omega, h6⟩
end Go.Proofs.Ytcpbbpgiicakcaa
