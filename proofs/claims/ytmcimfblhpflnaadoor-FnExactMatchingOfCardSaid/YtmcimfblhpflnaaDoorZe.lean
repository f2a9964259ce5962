/-
Texts joined: GA GB.
-/
import Derived.Test.YtmcimfblhpflnaaDoorH
import Derived.Test.YtmcimfblhpflnaaDoorC
/-
Lists of lists of ints: what is read of them, what a call owns of them, and three small functions of the laws over them.
-/
namespace Go.Proofs.YtmcimfblhpflnaaDoor
open Go.RowKit
set_option maxHeartbeats 400000

/-- A list of lists, read alone. -/
def RD (w : World) (A : Option Addr) (n : Nat) (Ai : Nat → Option Addr) (ln C : Nat → Nat) (R : Nat → Nat → Int) : Prop :=
  ∀ k, k < n → ∃ b off, A = some ⟨b, off, none⟩ ∧ b < w.heap.size ∧ w.cell? ⟨b, off + k, none⟩ = some (.slice (Ai k) (ln k) (C k)) ∧ Src w (Ai k) (ln k) (iv (R k))

/-- Nothing is written but into blocks from lo to hi. -/
structure KB (lo hi : Nat) (w w' : World) : Prop where
  os : w'.os = w.os
  tape : w'.tape = w.tape
  output : w'.output = w.output
  size : w.heap.size ≤ w'.heap.size
  block : ∀ k, k < w.heap.size → (k < lo ∨ hi ≤ k) → w'.heap[k]? = w.heap[k]?

section
variable {w w' w'' : World} {A : Option Addr} {n lo hi B : Nat} {Ai : Nat → Option Addr} {ln C : Nat → Nat} {R : Nat → Nat → Int}

theorem RD.below (h : RD w A n Ai ln C R) (hb : Below w.heap.size w w') : RD w' A n Ai ln C R := fun k hk => by
  obtain ⟨b, off, e, hl, hc, hs⟩ := h k hk
  exact ⟨b, off, e, Nat.lt_of_lt_of_le hl hb.size, (hb.cell (p := ⟨b, off + k, none⟩) hl).trans hc, hs.below hb⟩
theorem RD.alloc (h : RD w A n Ai ln C R) (o : Obj) : RD (w.alloc o) A n Ai ln C R := h.below ((Below.refl _ _).alloc (Nat.le_refl _) _)
theorem RD.drew (h : RD w A n Ai ln C R) : RD w.drew A n Ai ln C R := h
theorem RD.drewN (h : RD w A n Ai ln C R) (k : Nat) : RD (w.drewN k) A n Ai ln C R := h

theorem KB.refl (lo hi : Nat) (w : World) : KB lo hi w w := ⟨rfl, rfl, rfl, Nat.le_refl _, fun _ _ _ => rfl⟩
theorem KB.trans (h : KB lo hi w w') (k : KB lo hi w' w'') : KB lo hi w w'' :=
  ⟨k.os.trans h.os, k.tape.trans h.tape, k.output.trans h.output, Nat.le_trans h.size k.size, fun i hi hx => (k.block i (Nat.lt_of_lt_of_le hi h.size) hx).trans (h.block i hi hx)⟩
theorem KB.of_grown {g : Nat} (h : w.grownBy w' (some g)) (h0 : lo ≤ g) (h1 : g < hi) : KB lo hi w w' :=
  ⟨h.os, h.tape, h.output, h.size, fun k hk hx => h.block k hk (fun e => by injection e with e; omega)⟩
theorem KB.of_below (h : Below w.heap.size w w') : KB lo hi w w' := ⟨h.os, h.tape, h.output, h.size, fun k hk _ => h.block k hk⟩
theorem KB.below (h : KB lo hi w w') (h0 : B ≤ lo) (h1 : B ≤ w.heap.size) : Below B w w' :=
  ⟨h.os, h.tape, h.output, h.size, fun k hk => h.block k (by omega) (.inl (by omega))⟩
theorem KB.arr {t : TypeId} {g m : Nat} {f : Nat → Value} (h : KB lo hi w w') (ha : Arr w t g m f) (hx : g < lo ∨ hi ≤ g) : Arr w' t g m f := ha.of_block (h.block g ha.lt hx)
theorem KB.cell (h : KB lo hi w w') {b o : Nat} (hb : b < w.heap.size) (hx : b < lo ∨ hi ≤ b) : w'.cell? ⟨b, o, none⟩ = w.cell? ⟨b, o, none⟩ := World.cell?_of_block (w := w) (h.block b hb hx)
theorem KB.frozen (h : KB lo hi w w') {b o : Nat} (hb : b < w.heap.size) (hx : b < lo ∨ hi ≤ b) : w'.frozen? ⟨b, o, none⟩ = w.frozen? ⟨b, o, none⟩ := World.frozen?_of_block (w := w) (h.block b hb hx)
theorem KB.drewN (h : KB lo hi w w') (k : Nat) : KB lo hi w (w'.drewN k) := ⟨h.os, h.tape, h.output, h.size, h.block⟩
theorem KB.src {f : Nat → Value} (h : KB lo hi w w') (hs : Src w A n f) (hx : ∀ b off, A = some ⟨b, off, none⟩ → b < lo ∨ hi ≤ b) : Src w' A n f := fun k hk => by
  obtain ⟨b, off, e, hl, hc⟩ := hs k hk
  exact ⟨b, off, e, Nat.lt_of_lt_of_le hl h.size, (h.cell hl (hx b off e)).trans hc⟩

/-- A list of lists that lies between the blocks lo and hi: the list itself, and its rows each in a block of its own. -/
structure SS (w : World) (lo hi : Nat) (A : Option Addr) (n : Nat) (G : Nat → Nat) (ln C : Nat → Nat) (R : Nat → Nat → Int) : Prop where
  top : ∀ k, k < n → ∃ b off, A = some ⟨b, off, none⟩ ∧ (lo ≤ b ∧ b < hi ∧ b < w.heap.size) ∧ w.cell? ⟨b, off + k, none⟩ = some (.slice (some ⟨G k, 0, none⟩) (ln k) (C k)) ∧ ∀ j, j < n → G j ≠ b
  row : ∀ k, k < n → lo ≤ G k ∧ G k < hi ∧ Arr w 3 (G k) (ln k) (iv (R k)) ∧ ∀ j, j < k → G j < G k

variable {G : Nat → Nat}
theorem SS.rd (h : SS w lo hi A n G ln C R) : RD w A n (fun k => some ⟨G k, 0, none⟩) ln C R := fun k hk => by
  obtain ⟨b, off, e, hl, hc, _⟩ := h.top k hk
  exact ⟨b, off, e, hl.2.2, hc, Src.of_arr (h.row k hk).2.2.1⟩
theorem SS.nil : SS w lo hi A 0 G ln C R := ⟨fun k hk => absurd hk (by omega), fun k hk => absurd hk (by omega)⟩
theorem SS.all (h : SS w lo hi A n G ln C R) (hb : Below w.heap.size w w') : SS w' lo hi A n G ln C R := by
  refine ⟨fun k hk => ?_, fun k hk => ?_⟩
  · obtain ⟨b, off, e, hl, hc, hn⟩ := h.top k hk
    exact ⟨b, off, e, ⟨hl.1, hl.2.1, Nat.lt_of_lt_of_le hl.2.2 hb.size⟩, (hb.cell (p := ⟨b, off + k, none⟩) hl.2.2).trans hc, hn⟩
  · obtain ⟨h1, h2, h3, h4⟩ := h.row k hk
    exact ⟨h1, h2, h3.all hb, h4⟩
theorem SS.alloc (h : SS w lo hi A n G ln C R) (o : Obj) : SS (w.alloc o) lo hi A n G ln C R := h.all ((Below.refl _ _).alloc (Nat.le_refl _) _)
theorem SS.drew (h : SS w lo hi A n G ln C R) : SS w.drew lo hi A n G ln C R := ⟨h.top, h.row⟩
theorem SS.drewN (h : SS w lo hi A n G ln C R) (k : Nat) : SS (w.drewN k) lo hi A n G ln C R := ⟨h.top, h.row⟩
theorem SS.kept {lo' hi' : Nat} (h : SS w lo hi A n G ln C R) (hb : KB lo' hi' w w') (hx : hi' ≤ lo ∨ hi ≤ lo') : SS w' lo hi A n G ln C R := by
  refine ⟨fun k hk => ?_, fun k hk => ?_⟩
  · obtain ⟨b, off, e, hl, hc, hn⟩ := h.top k hk
    exact ⟨b, off, e, ⟨hl.1, hl.2.1, Nat.lt_of_lt_of_le hl.2.2 hb.size⟩, (hb.cell hl.2.2 (by omega)).trans hc, hn⟩
  · obtain ⟨h1, h2, h3, h4⟩ := h.row k hk
    exact ⟨h1, h2, hb.arr h3 (by omega), h4⟩
theorem RD.kept (h : RD w A n Ai ln C R) (hb : KB lo hi w w') (hs : w.heap.size ≤ lo) : RD w' A n Ai ln C R := h.below (hb.below hs (Nat.le_refl _))
end

/-- The lengths of the first rows, added up. -/
def sumL (ln : Nat → Nat) : Nat → Nat
  | 0 => 0
  | k + 1 => sumL ln k + ln k
theorem sumL_le {ln : Nat → Nat} {n m : Nat} (h : ∀ k, k < n → ln k ≤ m) : sumL ln n ≤ n * m := by
  induction n with
  | zero => simp [sumL]
  | succ n ih =>
    have h1 := ih fun k hk => h k (by omega)
    have h2 := h n (by omega)
    rw [sumL, Nat.succ_mul]
    omega

theorem slice_info : (Tryd.prog.info? 22).map (fun i => (i.zero, i.size, i.bytes)) = some (some (.slice none 0 0), 1, 24) := by kernel_rfl

end Go.Proofs.YtmcimfblhpflnaaDoor
/-
Lists of lists: compared, marked, held.
-/
namespace Go.Proofs.YtmcimfblhpflnaaDoor
open Go.RowKit
set_option maxHeartbeats 400000

theorem eqIntSS_any (A A' : Option Addr) (n c c' : Nat) (Ai Ai' : Nat → Option Addr) (ln C C' : Nat → Nat) (R : Nat → Nat → Int) (w : World) (hn : n ≤ 1048576) (hln : ∀ k, k < n → ln k ≤ 1048576) (h1 : RD w A n Ai ln C R) (h2 : RD w A' n Ai' ln C' R) :
    Calls Tryd.prog 33 #[.slice A n c, .slice A' n c'] w fun e w' => e = .returned (.bool true) ∧ Below w.heap.size w w' := by
  have HR := hide h1
  have HR' := hide h2
  have HL := hide hln
  clear h1 h2 hln
  go_enter Tryd.func33, Tryd.ntmps33
  go_wp2
  go_loopw [5] (fun i wr => ∃ k : Nat, k ≤ n ∧ i = .int .i64 k ∧ ∃ j, wr = w.drewN j)
    (fun i _ => n - (intOf i).toNat)
  case atStart => exact ⟨0, Nat.zero_le _, rfl, 0, rfl⟩
  case round =>
    obtain ⟨k, hk, rfl, j, rfl⟩ := hrel
    by_cases hlt : k < n
    · obtain ⟨b, off, hA, hbl, hc0, hs0⟩ := HR.out k hlt
      obtain ⟨b', off', hA', hbl', hc0', hs0'⟩ := HR'.out k hlt
      have hc : w.cell? ⟨b, off + k, none⟩ = some (.slice (Ai k) (ln k) (C k)) := hc0
      have hc' : w.cell? ⟨b', off' + k, none⟩ = some (.slice (Ai' k) (ln k) (C' k)) := hc0'
      have hlk := HL.out k hlt
      have H1 := hide hs0
      have H2 := hide hs0'
      clear hc0 hc0' hs0 hs0'
      subst hA hA'
      go_wp2
      go_quiet (first | (go_at_call 18; exact quiet_add (eqIntS_true _ _ _ _ _ (R k) _ hlk (H1.out.drewN _) (H2.out.drewN _))))
      go_wp2
      go_roundw
      case rel => exact ⟨k + 1, by omega, by go_num, _, rfl⟩
      case measure => simp [intOf]; omega
    · go_wp2
      go_ret
      exact ⟨rfl, below_drewN (Below.refl _ _) _⟩

/-- The marks of a list of lists: k0, k0 + 1, .. through all rows. -/
def mks (k0 : Int) (ln : Nat → Nat) : Nat → Nat → Int := fun k j => k0 + sumL ln k + j
theorem mks_iv (k0 : Int) (ln : Nat → Nat) (k : Nat) : iv (mks k0 ln k) = iv (marks (k0 + sumL ln k)) := rfl

theorem markIntSS_any (A : Option Addr) (n c lo hi : Nat) (G ln C : Nat → Nat) (R : Nat → Nat → Int) (k0 : Int) (w : World) (hn : n ≤ 1048576) (hln : ∀ k, k < n → ln k ≤ 1048576) (h0 : 0 ≤ k0) (h1 : k0 ≤ 4000000000000000000) (hs : SS w lo hi A n G ln C R) :
    Calls Tryd.prog 34 #[.slice A n c, .int .i64 k0] w fun e w' => e = .returned (.int .i64 (k0 + sumL ln n)) ∧ SS w' lo hi A n G ln C (mks k0 ln) ∧ KB lo hi w w' := by
  have HS := hide hs
  have HL := hide hln
  clear hs hln
  go_enter Tryd.func34, Tryd.ntmps34
  go_wp2
  go_loopw [1, 5] (fun kk i wr => ∃ k s : Nat, k ≤ n ∧ i = .int .i64 k ∧ kk = .int .i64 (k0 + s) ∧ s ≤ k * 1048576 ∧ Hid (s = sumL ln k) ∧ Hid (SS wr lo hi A n G ln C (fun i j => if i < k then mks k0 ln i j else R i j)) ∧ Hid (KB lo hi w wr)) (fun _ i _ => n - (intOf i).toNat)
  case atStart => exact ⟨0, 0, Nat.zero_le _, rfl, by simp, by omega, hide rfl, hide (by simpa using HS.out), hide (KB.refl _ _ _)⟩
  case round =>
    obtain ⟨k, s, hk, rfl, rfl, hsk, HT, HX, HK⟩ := hrel
    by_cases hlt : k < n
    · obtain ⟨b, off, hA, hbl, hc0, hne⟩ := HX.out.top k hlt
      have hc : wr.cell? ⟨b, off + k, none⟩ = some (.slice (some ⟨G k, 0, none⟩) (ln k) (C k)) := hc0
      obtain ⟨hr1, hr2, hr3, hr4⟩ := HX.out.row k hlt
      have HA := hide hA
      have hlk := HL.out k hlt
      have HR3 := hide hr3
      have HR4 := hide hr4
      have HNE := hide hne
      clear hc0 hr3 hr4 hne
      subst hA
      go_wp2_with (go_at_call 21; refine (markIntS_arr _ _ _ (fun j => if k < k then mks k0 ln k j else R k j) _ _ hlk (by omega) (by omega) HR3.out).mono ?_; rintro e w1 ⟨rfl, ha1, hg1⟩)
      have HA1 := hide ha1
      have HG1 := hide hg1
      clear ha1 hg1
      go_roundw
      case rel =>
        have hsum : s = sumL ln k := HT.out
        refine ⟨k + 1, s + ln k, by omega, by go_num, by go_num, by omega, hide (by rw [sumL, ← hsum]), hide ⟨fun i hi => ?_, fun i hi => ?_⟩, hide (HK.out.trans (KB.of_grown HG1.out hr1 hr2))⟩
        · obtain ⟨b2, off2, e2, hl2, hc2, hn2⟩ := HX.out.top i hi
          refine ⟨b2, off2, e2, ⟨hl2.1, hl2.2.1, Nat.lt_of_lt_of_le hl2.2.2 HG1.out.size⟩, HG1.out.cell hc2 (fun e => ?_), hn2⟩
          injection e with e
          exact hn2 k hlt e.symm
        · obtain ⟨q1, q2, q3, q4⟩ := HX.out.row i hi
          refine ⟨q1, q2, ?_, q4⟩
          by_cases hik : i = k
          · subst hik
            refine HA1.out.congr fun j hj => ?_
            simp [iv, marks, mks, hsum]
          · have hne : G i ≠ G k := by
              rcases Nat.lt_or_ge i k with hh | hh
              · have := HR4.out i hh; omega
              · have := q4 k (by omega); omega
            refine (q3.of_block (HG1.out.block _ q3.lt (fun e => hne (by injection e)))).congr fun j hj => ?_
            by_cases h2 : i < k
            · simp only [iv, h2, if_true, (show i < k + 1 by omega)]
            · simp only [iv, h2, if_false, (show ¬ i < k + 1 by omega)]
      case measure => simp [intOf]; omega
    · have hkn : k = n := by omega
      subst hkn
      have hsum := HT.out
      subst hsum
      go_wp2
      go_ret
      refine ⟨rfl, ⟨HX.out.top, fun i hi => ?_⟩, HK.out⟩
      obtain ⟨q1, q2, q3, q4⟩ := HX.out.row i hi
      exact ⟨q1, q2, q3.congr (fun j hj => by simp only [iv, hi, if_true]), q4⟩

theorem heldIntSS_any (A : Option Addr) (n c : Nat) (Ai : Nat → Option Addr) (ln C : Nat → Nat) (k0 : Int) (w : World) (hn : n ≤ 1048576) (hln : ∀ k, k < n → ln k ≤ 1048576) (h0 : 0 ≤ k0) (h1 : k0 ≤ 4000000000000000000) (hr : RD w A n Ai ln C (mks k0 ln)) :
    Calls Tryd.prog 35 #[.slice A n c, .int .i64 k0] w fun e w' => e = .returned (.int .i64 (k0 + sumL ln n)) ∧ Below w.heap.size w w' := by
  have HR := hide hr
  have HL := hide hln
  clear hr hln
  go_enter Tryd.func35, Tryd.ntmps35
  go_wp2
  go_loop [1, 5] (fun kk i => ∃ k s : Nat, k ≤ n ∧ i = .int .i64 k ∧ kk = .int .i64 (k0 + s) ∧ s ≤ k * 1048576 ∧ Hid (s = sumL ln k)) (fun _ i => n - (intOf i).toNat)
  case atStart => exact ⟨0, 0, Nat.zero_le _, rfl, by simp, by omega, hide rfl⟩
  case round =>
    obtain ⟨k, s, hk, rfl, rfl, hsk, HT⟩ := hrel
    by_cases hlt : k < n
    · obtain ⟨b, off, hA, hbl, hc0, hs0⟩ := HR.out k hlt
      have hc : w.cell? ⟨b, off + k, none⟩ = some (.slice (Ai k) (ln k) (C k)) := hc0
      have hlk := HL.out k hlt
      have HSR : Hid (Src w (Ai k) (ln k) (iv (marks (k0 + s)))) := hide (by rw [HT.out]; exact hs0)
      clear hc0 hs0
      subst hA
      obtain ⟨t, ht⟩ : ∃ t : Int, t = k0 + s + ln k := ⟨_, rfl⟩
      have ht0 : ¬ t < 0 := by omega
      have HTT := hide ht
      clear ht
      go_wp2_with (go_at_call 22; refine (heldIntS_any _ _ _ _ _ hlk (by omega) (by omega) HSR.out).mono ?_; rintro e w1 ⟨rfl, hw⟩; subst w1; rw [← HTT.out])
      go_round
      case rel =>
        have hsum : s = sumL ln k := HT.out
        have ht := HTT.out
        refine ⟨k + 1, s + ln k, by omega, by go_num, ?_, by omega, hide (by rw [sumL, ← hsum])⟩
        rw [ht]
        go_num
      case measure => simp [intOf]; omega
    · have hkn : k = n := by omega
      subst hkn
      have hsum := HT.out
      subst hsum
      go_wp2
      go_ret
      exact ⟨rfl, Below.refl _ _⟩
end Go.Proofs.YtmcimfblhpflnaaDoor
