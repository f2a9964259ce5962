import Derived.Test.YtggcjmdadomlaaaSA3
namespace Go.Proofs.Ytggcjmdadomlaaa
open Go.RowKit
set_option maxHeartbeats 2000000
/-- Single buttons, j of them. -/
def sglT (j : Nat) : Nat → Nat := fun i => if i < j then 2 ^ i else 0
theorem sgl_all (c : Nat) (own : Bool) : sglT c = tT c own 0 := rfl
/-- The tables 0..n come back, in memory from B on. -/
def PatB (B : Nat) (w : World) (c n : Nat) (own : Bool) (e : Ending) (w' : World) : Prop :=
  ∃ A d, e = .returned (.slice A (n + 1) d) ∧ OT w' B c own (.slice A (n + 1) d) n ∧ Below w.heap.size w w'
theorem OT.mono {w : World} {B B' c k : Nat} {own : Bool} {v : Value} (h : OT w B c own v k) (hB : B' ≤ B) : OT w B' c own v k := by
  refine ⟨h.1, ?_⟩
  rcases h.2 with h | ⟨g, cap, cur, h1, h2, h3⟩
  · exact .inl h
  · exact .inr ⟨g, cap, cur, h1, by omega, h3⟩
set_option maxRecDepth 100000 in
theorem tables_any (R c : Nat) (own : Bool) (w : World) (hc : c ≤ 16) (hR : R ≤ 1024) :
    Calls Try.prog 65 #[.agg #[.int .i64 R, .int .i64 c, .bool own, .int .i64 0]] w (PatB w.heap.size w c R own) := by
  have hmf : ∀ (fn : Fn) (first cap : Array Value) (w : World), (Instr.makeFunc fn first cap).run Try.prog w = .ok (.func fn first cap) w := fun _ _ _ _ => rfl
  go_enter Try.func65, Try.ntmps65
  go_upto_region 2 with (fail)
  obtain ⟨W2, hW2⟩ : ∃ W2, (w.alloc (.cells #[.int .i64 R, .int .i64 c, .bool own, .int .i64 0] 63)).alloc (.cells zeroT 68) = W2 := ⟨_, rfl⟩
  have hb2 : Below w.heap.size w W2 := by rw [← hW2]; exact ((Below.refl _ _).alloc (Nat.le_refl _) _).alloc (by simp) _
  have hbx : Box4 W2 w.heap.size (.int .i64 R) (.int .i64 c) (.bool own) (.int .i64 0) := by rw [← hW2]; exact (Box4.new w 63 _ _ _ _).below ((Below.refl _ _).alloc (Nat.le_refl _) _)
  have ht : Tab W2 (w.heap.size + 1) (sglT 0) := by rw [← hW2]; exact Tab.new _ zeroT _ zeroT_eq (by simp)
  rw [show (#[.int .i64 0, .int .i64 0, .int .i64 0, .int .i64 0, .int .i64 0, .int .i64 0, .int .i64 0, .int .i64 0, .int .i64 0, .int .i64 0, .int .i64 0, .int .i64 0, .int .i64 0, .int .i64 0, .int .i64 0, .int .i64 0] : Array Value) = zeroT from rfl, hW2]
  clear hW2
  have HBX := Lib.hid hbx
  have HT := Lib.hid ht
  have HB := Lib.hid hb2
  obtain ⟨k0, k1, k2, k3⟩ := hbx
  clear ht hb2
  go_wp2_with fail
  clear k0 k1 k2 k3
  go_loopw [7] (fun i wr => ∃ j : Nat, j ≤ c ∧ i = .int .i64 j ∧ Tab wr (w.heap.size + 1) (sglT j) ∧ Box4 wr w.heap.size (.int .i64 R) (.int .i64 c) (.bool own) (.int .i64 0) ∧ Below w.heap.size w wr) (fun i _ => c - (intOf i).toNat)
  case atStart => exact ⟨0, by omega, rfl, HT.out, HBX.out, HB.out⟩
  case round =>
    clear HT HBX HB
    obtain ⟨j, hj, rfl, h6, hbx, hb⟩ := hrel
    have H6 := Lib.hid h6
    have HX := Lib.hid hbx
    have HB := Lib.hid hb
    have hsz := hb.size
    have l6 := h6.lt
    by_cases hlt : j < c
    · have hj16 : (j : Int) < 16 := by omega
      have hj0 : (0 : Int) ≤ (j : Int) := by omega
      have c6 : wr.cell? ⟨w.heap.size + 1, j, none⟩ = some (.int .i64 (sglT j j : Nat)) := h6.cell (by omega)
      have f6 : wr.frozen? ⟨w.heap.size + 1, j, none⟩ = false := h6.frozen j
      have hW : RowKit.wrap64 (2 ^ j) = ((2 ^ j : Nat) : Int) := by rw [wrap_one (by omega)]
      have HST : Hid (∀ i, i < 16 → (if i = j then 2 ^ j else sglT j i) = sglT (j + 1) i) := Lib.hid (fun i _ => by
        unfold sglT
        by_cases hij : i = j
        · subst hij; simp
        · rw [if_neg hij]
          by_cases h2 : i < j
          · rw [if_pos h2, if_pos (by omega)]
          · rw [if_neg h2, if_neg (by omega)])
      clear h6 hbx hb
      go_wp2_with fail
      go_roundw
      case rel => exact ⟨j + 1, by omega, by go_num, (H6.out.set j _).congr HST.out, (by obtain ⟨x1, x2, x3, x4⟩ := HX.out; exact ⟨(cell_apart (by simp) x1), (cell_apart (by simp) x2), (cell_apart (by simp) x3), (cell_apart (by simp) x4)⟩), HB.out.setCell (by simp) _⟩
      case measure => simp [intOf]; omega
    · have hjc : j = c := by omega
      subst hjc
      obtain ⟨k0, k1, k2, k3⟩ := hbx
      clear h6 hb
      go_wp2_with (first | (with_reducible refine wpList_load_tab rfl (.tmp 3) rfl (w.heap.size + 1) rfl _ H6.out ?_) | (go_at_call 96; refine (patternT_any R j R w.heap.size own _ wr hc hR rfl HX.out).mono ?_; rintro e w5 ⟨A, d, rfl, ho, hb5⟩; have HO := Lib.hid ho; have HB5 := Lib.hid (HB.out.trans (hb5.mono hsz)); clear ho hb5))
      go_ret
      exact ⟨A, d, rfl, HO.out.mono (by omega), HB5.out⟩
end Go.Proofs.Ytggcjmdadomlaaa
