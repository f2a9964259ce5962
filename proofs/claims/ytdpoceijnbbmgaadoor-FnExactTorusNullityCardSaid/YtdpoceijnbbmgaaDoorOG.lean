/-
A set taken by a map; the model's side, too.
-/
import Derived.Test.YtdpoceijnbbmgaaDoorOF
namespace Go.Proofs.YtdpoceijnbbmgaaDoor
open Go.RowKit
set_option maxHeartbeats 4000000
attribute [local go_sem] m_plus n_plus
theorem two_alloc {W : World} {a b o p : Nat} {u v : Value} {X : Obj} (h : W.cell? ⟨a, o, none⟩ = some u ∧ W.cell? ⟨b, p, none⟩ = some v) : (W.alloc X).cell? ⟨a, o, none⟩ = some u ∧ (W.alloc X).cell? ⟨b, p, none⟩ = some v := by
  have hb := (Below.refl W.heap.size W).alloc (Nat.le_refl _) X
  exact ⟨cell_below hb (World.block_lt_of_cell? W _ h.1) h.1, cell_below hb (World.block_lt_of_cell? W _ h.2) h.2⟩
theorem two_far {W : World} {a b o p g k : Nat} {u v x : Value} (hne : a ≠ g ∧ b ≠ g) (h : W.cell? ⟨a, o, none⟩ = some u ∧ W.cell? ⟨b, p, none⟩ = some v) : (W.setCell ⟨g, k, none⟩ x).cell? ⟨a, o, none⟩ = some u ∧ (W.setCell ⟨g, k, none⟩ x).cell? ⟨b, p, none⟩ = some v := ⟨cell_far hne.1 h.1, cell_far hne.2 h.2⟩
/-- Behind a region whose orders all end alike. -/
def oneQ (A : Act) (W : World) : Exit → Act → World → Prop
  | .normal, a', w' => a' = A ∧ w' = W
  | _, _, _ => False
theorem oneCut {P : Program} {c : Code} {Q : Exit → Act → World → Prop} {a : Act} {w : World} {A : Act} {W : World} (reg : c.wp P (oneQ A W) a w) (cont : Q .normal A W) : c.wp P Q a w :=
  Code.wp_mono (fun e a' w' h => by
    cases e <;> simp only [oneQ] at h
    obtain ⟨rfl, rfl⟩ := h
    exact cont) reg
theorem of_any (A : Option Addr) (n c p : Nat) (F : Nat → Nat) (w : World) (h1 : 1 ≤ n) (hn : n ≤ 40) (hp : p < 2 ^ n) (hT : Tab w) (hs : Src w A n (iv (nv F))) (hF : ∀ k, k < n → F k < 2 ^ n) :
    Calls Tryd.prog 51 #[.slice A n c, .int .i64 p] w fun e w' => e = .returned (.int .i64 (effN F p n : Nat)) ∧ Below w.heap.size w w' := by
  have hp40 : (2 : Nat) ^ n ≤ 1099511627776 := Nat.pow_le_pow_right (n := 2) (j := 40) (by decide) hn
  obtain ⟨b2, off, hA, hbl, hc0⟩ := hs 0 (by omega)
  have hc : w.cell? ⟨b2, off, none⟩ = some (.int .i64 (F 0 : Nat)) := hc0
  have hF0 := hF 0 (by omega)
  have hf0 : F 0 < 4611686018427387904 := by omega
  have hn0 : (0 : Int) < n := by omega
  have hn1 : 0 < n := h1
  have HS := hide hs
  have HF := hide hF
  have HT := hide hT
  have HP := hide hp
  have hmf : ∀ (fn : Fn) (first cap : Array Value) (w : World), (Instr.makeFunc fn first cap).run Tryd.prog w = .ok (.func fn first cap) w := fun _ _ _ _ => rfl
  subst hA
  clear hs hF hT hp hF0 hc0
  go_enter Tryd.func51, Tryd.ntmps51
  go_wp2_with fail
  have k0 : (w.alloc (.cells #[.slice (some ⟨b2, off, none⟩) n c] 59)).drew.cell? ⟨w.heap.size, 0, none⟩ = some (.slice (some ⟨b2, off, none⟩) n c) := by simp [go_sem]
  have k1 : (w.alloc (.cells #[.slice (some ⟨b2, off, none⟩) n c] 59)).drew.cell? ⟨b2, off, none⟩ = some (.int .i64 (F 0 : Nat)) := (Below.cell ((Below.refl w.heap.size w).alloc (Nat.le_refl _) (.cells #[.slice (some ⟨b2, off, none⟩) n c] 59)) (p := ⟨b2, off, none⟩) hbl).trans hc
  go_region_held3 (fun w' => w'.cell? ⟨w.heap.size, 0, none⟩ = some (.slice (some ⟨b2, off, none⟩) n c) ∧ w'.cell? ⟨b2, off, none⟩ = some (.int .i64 (F 0 : Nat))) (first | exact ⟨k0, k1⟩ | exact two_alloc ⟨k0, k1⟩ | exact two_far (by simp; omega) (two_alloc ⟨k0, k1⟩)) (first | (go_at_call 156; refine (subPlus_any _ _ _ hf0 hf0).mono ?_; rintro e w' ⟨rfl, rfl⟩))
  all_goals
    have hw1 : w.heap.size ≤ w.heap.size := Nat.le_refl _
    have hT1 := HT.out.lt
    have hb0 : Below w.heap.size w ((w.alloc (.cells #[.slice (some ⟨b2, off, none⟩) n c] 59)).alloc (.cells #[.int .i64 0] 57)).drew := by go_grown
    have HTW := hide (HT.out.below hb0)
    have HSW := hide (HS.out.below hb0)
    have HBW := hide hb0
    have hblk : Blk ((w.alloc (.cells #[.slice (some ⟨b2, off, none⟩) n c] 59)).alloc (.cells #[.int .i64 0] 57)).drew 57 (w.heap.size + 1) #[.int .i64 ((0 : Nat) : Int)] := (Blk.new _ _ _ (by simp)).drew
    have hbox : ((w.alloc (.cells #[.slice (some ⟨b2, off, none⟩) n c] 59)).alloc (.cells #[.int .i64 0] 57)).drew.cell? ⟨w.heap.size, 0, none⟩ = some (.slice (some ⟨b2, off, none⟩) n c) := by simp [go_sem]
    have HBLK := hide hblk
    have HBOX := hide hbox
    clear hb0 hblk hbox k0 k1 hc
    go_wp2_with fail
    refine (eachIn_of (w.heap.size + 1) w.heap.size n p 0 _ c F _ hn HP.out HTW.out (by omega) (by omega) (fun g o e => by injection e with e; injection e with e; omega) HBLK.out HBOX.out HSW.out (Nat.two_pow_pos n) HF.out).mono ?_
    rintro e w3 ⟨rfl, hb3, hg3⟩
    rw [Nat.zero_xor] at hb3
    have c3 : w3.cell? ⟨w.heap.size + 1, 0, none⟩ = some (.int .i64 (effN F p n : Nat)) := hb3.cell 0
    have HB3 := hide (HBW.out.grown hg3 (by simp; omega) (fun k hk => by injection hk with hk; omega))
    clear hb3 hg3
    go_wp2
    go_ret
    exact ⟨rfl, HB3.out⟩
/-- What a set leaves of a map behind k sets, the model's way. -/
theorem prApply_any (A : Option Addr) (n c p : Nat) (F : Nat → Nat) (w : World) (hn : n ≤ 40) (hp : p < 2 ^ n) (hs : Src w A n (iv (nv F))) (hF : ∀ k, k < n → F k < 2 ^ n) :
    Calls Tryd.prog 47 #[.slice A n c, .int .i64 p] w fun e w' => e = .returned (.int .i64 (effN F p n : Nat)) ∧ w' = w := by
  have hp40 : (2 : Nat) ^ n ≤ 1099511627776 := Nat.pow_le_pow_right (n := 2) (j := 40) (by decide) hn
  have HS := hide hs
  have HF := hide hF
  clear hs hF
  go_enter Tryd.func47, Tryd.ntmps47
  go_wp2
  go_loop [5, 10] (fun o i => ∃ (k v : Nat), k ≤ n ∧ i = .int .i64 k ∧ o = .int .i64 v ∧ v < 1099511627776 ∧ Hid (v < 2 ^ n) ∧ Hid (v = effN F p k)) (fun _ i => n - (intOf i).toNat)
  case atStart => exact ⟨0, 0, by omega, rfl, rfl, by omega, hide (Nat.two_pow_pos n), hide rfl⟩
  case round =>
    obtain ⟨k, v, hk, rfl, rfl, hv, HV, HE⟩ := hrel
    by_cases hlt : k < n
    · obtain ⟨b2, off, hA, hbl, hc0⟩ := HS.out k hlt
      have hc : w.cell? ⟨b2, off + k, none⟩ = some (.int .i64 (F k : Nat)) := hc0
      have hFk := HF.out k hlt
      have hFb : F k < 4611686018427387904 := by omega
      have e1 := i64_xor_nat v (F k) (by omega) (by omega)
      have hx : v ^^^ F k < 2 ^ n := Nat.xor_lt_two_pow HV.out hFk
      have hxb : v ^^^ F k < 1099511627776 := by omega
      have HX := hide hx
      obtain ⟨y, hy⟩ : ∃ y, F k = y := ⟨_, rfl⟩
      have HY := hide hy
      rw [hy] at hc e1 hFb hxb HX
      have hki : (k : Int) < n := by omega
      have hp0 : (0 : Int) ≤ (p : Int) := by omega
      clear hc0 hFk hx hy
      subst hA
      cases hbit : p.testBit k
      · have HBit : Hid (bt (p : Int) k = false) := hide (by rw [bt_nat]; exact hbit)
        have HN : Hid (v = effN F p (k + 1)) := hide (by rw [effN, hbit, ← HE.out]; rfl)
        clear hbit HE
        go_wp2_with (first | (go_at_call 79; refine (grInG_any _ _ hp0 (by omega) (by omega) _).mono ?_; rintro e w' ⟨rfl, rfl⟩; simp only [Int.toNat_natCast, HBit.out]))
        go_round
        case rel => exact ⟨k + 1, v, by omega, by go_num, rfl, hv, HV, HN⟩
        case measure => simp [intOf]; omega
      · have HBit : Hid (bt (p : Int) k = true) := hide (by rw [bt_nat]; exact hbit)
        have HN : Hid (v ^^^ y = effN F p (k + 1)) := hide (by rw [effN, hbit, if_pos rfl, ← HE.out, HY.out])
        clear hbit HE
        go_wp2_with (first | (go_at_call 79; refine (grInG_any _ _ hp0 (by omega) (by omega) _).mono ?_; rintro e w' ⟨rfl, rfl⟩; simp only [Int.toNat_natCast, HBit.out]))
        go_round
        case rel => exact ⟨k + 1, v ^^^ y, by omega, by go_num, by go_num, hxb, HX, HN⟩
        case measure => simp [intOf]; omega
    · have hkn : k = n := by omega
      subst hkn
      go_wp2
      go_ret
      exact ⟨by rw [← HE.out]; rfl, rfl⟩
end Go.Proofs.YtdpoceijnbbmgaaDoor
