/-
A list of lists whose blocks are all distinct, in whatever order they lie: its marks.
-/
import Derived.Test.YtmcimfblhpflnaaDoorZe
import Derived.Test.YtmcimfblhpflnaaDoorGI
namespace Go.Proofs.YtmcimfblhpflnaaDoor
open Go.RowKit
section
variable {w w' w'' : World} {A : Option Addr} {n lo hi B : Nat} {Ai : Nat → Option Addr} {ln C : Nat → Nat} {R : Nat → Nat → Int}
/-- A list of lists that lies between the blocks lo and hi: the list itself, and its rows each in a block of its own. -/
structure SQ (w : World) (lo hi : Nat) (A : Option Addr) (n : Nat) (G : Nat → Nat) (ln C : Nat → Nat) (R : Nat → Nat → Int) : Prop where
  top : ∀ k, k < n → ∃ b off, A = some ⟨b, off, none⟩ ∧ (lo ≤ b ∧ b < hi ∧ b < w.heap.size) ∧ w.cell? ⟨b, off + k, none⟩ = some (.slice (some ⟨G k, 0, none⟩) (ln k) (C k)) ∧ ∀ j, j < n → G j ≠ b
  row : ∀ k, k < n → lo ≤ G k ∧ G k < hi ∧ Arr w 3 (G k) (ln k) (iv (R k)) ∧ ∀ j, j < n → j ≠ k → G j ≠ G k

variable {G : Nat → Nat}
theorem SQ.rd (h : SQ w lo hi A n G ln C R) : RD w A n (fun k => some ⟨G k, 0, none⟩) ln C R := fun k hk => by
  obtain ⟨b, off, e, hl, hc, _⟩ := h.top k hk
  exact ⟨b, off, e, hl.2.2, hc, Src.of_arr (h.row k hk).2.2.1⟩
theorem SQ.nil : SQ w lo hi A 0 G ln C R := ⟨fun k hk => absurd hk (by omega), fun k hk => absurd hk (by omega)⟩
theorem SQ.all (h : SQ w lo hi A n G ln C R) (hb : Below w.heap.size w w') : SQ w' lo hi A n G ln C R := by
  refine ⟨fun k hk => ?_, fun k hk => ?_⟩
  · obtain ⟨b, off, e, hl, hc, hn⟩ := h.top k hk
    exact ⟨b, off, e, ⟨hl.1, hl.2.1, Nat.lt_of_lt_of_le hl.2.2 hb.size⟩, (hb.cell (p := ⟨b, off + k, none⟩) hl.2.2).trans hc, hn⟩
  · obtain ⟨h1, h2, h3, h4⟩ := h.row k hk
    exact ⟨h1, h2, h3.all hb, h4⟩
theorem SQ.alloc (h : SQ w lo hi A n G ln C R) (o : Obj) : SQ (w.alloc o) lo hi A n G ln C R := h.all ((Below.refl _ _).alloc (Nat.le_refl _) _)
theorem SQ.drew (h : SQ w lo hi A n G ln C R) : SQ w.drew lo hi A n G ln C R := ⟨h.top, h.row⟩
theorem SQ.drewN (h : SQ w lo hi A n G ln C R) (k : Nat) : SQ (w.drewN k) lo hi A n G ln C R := ⟨h.top, h.row⟩
theorem SQ.kept {lo' hi' : Nat} (h : SQ w lo hi A n G ln C R) (hb : KB lo' hi' w w') (hx : hi' ≤ lo ∨ hi ≤ lo') : SQ w' lo hi A n G ln C R := by
  refine ⟨fun k hk => ?_, fun k hk => ?_⟩
  · obtain ⟨b, off, e, hl, hc, hn⟩ := h.top k hk
    exact ⟨b, off, e, ⟨hl.1, hl.2.1, Nat.lt_of_lt_of_le hl.2.2 hb.size⟩, (hb.cell hl.2.2 (by omega)).trans hc, hn⟩
  · obtain ⟨h1, h2, h3, h4⟩ := h.row k hk
    exact ⟨h1, h2, hb.arr h3 (by omega), h4⟩
end
set_option maxHeartbeats 1000000 in
theorem markIntSQ_any (A : Option Addr) (n c lo hi : Nat) (G ln C : Nat → Nat) (R : Nat → Nat → Int) (k0 : Int) (w : World) (hn : n ≤ 1048576) (hln : ∀ k, k < n → ln k ≤ 1048576) (h0 : 0 ≤ k0) (h1 : k0 ≤ 4000000000000000000) (hs : SQ w lo hi A n G ln C R) :
    Calls Tryd.prog 34 #[.slice A n c, .int .i64 k0] w fun e w' => e = .returned (.int .i64 (k0 + sumL ln n)) ∧ SQ w' lo hi A n G ln C (mks k0 ln) ∧ KB lo hi w w' := by
  have HS := hide hs
  have HL := hide hln
  clear hs hln
  go_enter Tryd.func34, Tryd.ntmps34
  go_wp2
  go_loopw [1, 5] (fun kk i wr => ∃ k s : Nat, k ≤ n ∧ i = .int .i64 k ∧ kk = .int .i64 (k0 + s) ∧ s ≤ k * 1048576 ∧ Hid (s = sumL ln k) ∧ Hid (SQ wr lo hi A n G ln C (fun i j => if i < k then mks k0 ln i j else R i j)) ∧ Hid (KB lo hi w wr)) (fun _ i _ => n - (intOf i).toNat)
  case atStart => exact ⟨0, 0, Nat.zero_le _, rfl, by simp, by omega, hide rfl, hide (by simpa using HS.out), hide (KB.refl _ _ _)⟩
  case round =>
    obtain ⟨k, s, hk, rfl, rfl, hsk, HT, HX, HK⟩ := hrel
    by_cases hlt : k < n
    · obtain ⟨b, off, hA, hbl, hc0, hne⟩ := HX.out.top k hlt
      have hc : wr.cell? ⟨b, off + k, none⟩ = some (.slice (some ⟨G k, 0, none⟩) (ln k) (C k)) := hc0
      obtain ⟨hr1, hr2, hr3, hr4⟩ := HX.out.row k hlt
      have HA := hide hA
      have hlk := HL.out k hlt
      have HR3 := hide hr3
      have HR4 := hide hr4
      have HNE := hide hne
      clear hc0 hr3 hr4 hne
      subst hA
      go_wp2_with (go_at_call 21; refine (markIntS_arr _ _ _ (fun j => if k < k then mks k0 ln k j else R k j) _ _ hlk (by omega) (by omega) HR3.out).mono ?_; rintro e w1 ⟨rfl, ha1, hg1⟩)
      have HA1 := hide ha1
      have HG1 := hide hg1
      clear ha1 hg1
      go_roundw
      case rel =>
        have hsum : s = sumL ln k := HT.out
        refine ⟨k + 1, s + ln k, by omega, by go_num, by go_num, by omega, hide (by rw [sumL, ← hsum]), hide ⟨fun i hi => ?_, fun i hi => ?_⟩, hide (HK.out.trans (KB.of_grown HG1.out hr1 hr2))⟩
        · obtain ⟨b2, off2, e2, hl2, hc2, hn2⟩ := HX.out.top i hi
          refine ⟨b2, off2, e2, ⟨hl2.1, hl2.2.1, Nat.lt_of_lt_of_le hl2.2.2 HG1.out.size⟩, HG1.out.cell hc2 (fun e => ?_), hn2⟩
          injection e with e
          exact hn2 k hlt e.symm
        · obtain ⟨q1, q2, q3, q4⟩ := HX.out.row i hi
          refine ⟨q1, q2, ?_, q4⟩
          by_cases hik : i = k
          · subst hik
            refine HA1.out.congr fun j hj => ?_
            simp [iv, marks, mks, hsum]
          · have hne : G i ≠ G k := HR4.out i hi hik
            refine (q3.of_block (HG1.out.block _ q3.lt (fun e => hne (by injection e)))).congr fun j hj => ?_
            by_cases h2 : i < k
            · simp only [iv, h2, if_true, (show i < k + 1 by omega)]
            · simp only [iv, h2, if_false, (show ¬ i < k + 1 by omega)]
      case measure => simp [intOf]; omega
    · have hkn : k = n := by omega
      subst hkn
      have hsum := HT.out
      subst hsum
      go_wp2
      go_ret
      refine ⟨rfl, ⟨HX.out.top, fun i hi => ?_⟩, HK.out⟩
      obtain ⟨q1, q2, q3, q4⟩ := HX.out.row i hi
      exact ⟨q1, q2, q3.congr (fun j hj => by simp only [iv, hi, if_true]), q4⟩

end Go.Proofs.YtmcimfblhpflnaaDoor
