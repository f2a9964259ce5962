/-
Which lists are maps: both sides.
-/
import Derived.Test.YtdpoceijnbbmgaaDoorF
import Derived.Test.YtdpoceijnbbmgaaDoorK
import Derived.Test.YtdpoceijnbbmgaaDoorZB
import Derived.Test.YtdpoceijnbbmgaaDoorZa
namespace Go.Proofs.YtdpoceijnbbmgaaDoor
open Go.RowKit
set_option maxHeartbeats 1000000
theorem sub_info : (Tryd.prog.info? 57).map (fun i => (i.zero, i.size, i.bytes)) = some (some (.int .i64 0), 1, 8) := by kernel_rfl
/-- A map: 1 to 16 sets of their numbers. -/
def mapB (n : Nat) (f : Nat → Int) : Bool := inB n 1 16 && allB n f 0 (2 ^ n - 1)
theorem p16 {n : Nat} (h : n ≤ 16) : 2 ^ n ≤ 65536 := Nat.pow_le_pow_right (n := 2) (j := 16) (by decide) h
theorem pow_i (n : Nat) : ((2 : Int) ^ n) = ((2 ^ n : Nat) : Int) := by rw [Int.natCast_pow]; rfl
theorem wr_pow {n : Nat} (h : n ≤ 16) : RowKit.wrap64 ((2 : Int) ^ n) = 2 ^ n := by
  have := p16 h
  rw [pow_i]
  generalize 2 ^ n = P at *
  exact IntWalk.wrap64_in _ (by omega)
theorem wr_pow1 {n : Nat} (h : n ≤ 16) : RowKit.wrap64 ((2 : Int) ^ n - 1) = 2 ^ n - 1 := by
  have := p16 h
  rw [pow_i]
  generalize 2 ^ n = P at *
  exact IntWalk.wrap64_in _ (by omega)
theorem mapB_nat {n : Nat} {f : Nat → Int} (h : mapB n f = true) : 1 ≤ n ∧ n ≤ 16 ∧ ∃ F : Nat → Nat, (∀ k, k < n → f k = nv F k) ∧ ∀ k, k < n → F k < 2 ^ n := by
  simp only [mapB, Bool.and_eq_true, inB, allB, decide_eq_true_eq] at h
  obtain ⟨h1, h2⟩ := h
  refine ⟨by omega, by omega, fun k => (f k).toNat, fun k hk => ?_, fun k hk => ?_⟩
  · have := h2 k hk; simp only [nv]; omega
  · have := h2 k hk
    rw [pow_i] at this
    show (f k).toNat < 2 ^ n
    omega
theorem mapB_of {n : Nat} {F : Nat → Nat} (h1 : 1 ≤ n) (h2 : n ≤ 16) (hF : ∀ k, k < n → F k < 2 ^ n) : mapB n (nv F) = true := by
  simp only [mapB, Bool.and_eq_true, inB, allB, decide_eq_true_eq]
  refine ⟨by omega, fun k hk => ?_⟩
  have := hF k hk
  rw [pow_i]
  simp only [nv]
  omega
theorem prGood_any (A : Option Addr) (n c : Nat) (f : Nat → Int) (w : World) (hn : n ≤ 1048576) (hs : Src w A n (iv f)) :
    Calls Tryd.prog 45 #[.slice A n c] w fun e w' => e = .returned (.bool (mapB n f)) ∧ w' = w := by
  have HS := hide hs
  clear hs
  cases h1 : inB n 1 16
  · have HB : Hid (mapB n f = false) := hide (by rw [mapB, h1]; rfl)
    have H1 := hide h1
    rw [HB.out]
    clear h1
    go_enter Tryd.func45, Tryd.ntmps45
    go_wp2_with (first | (go_at_call 38; refine (grSize_any _ _).mono ?_; rintro e w' ⟨rfl, rfl⟩; rw [H1.out]))
    go_ret
    exact ⟨rfl, rfl⟩
  · have hn16 : n ≤ 16 := by simp only [inB, decide_eq_true_eq] at h1; omega
    have HB : Hid (mapB n f = allB n f 0 (2 ^ n - 1)) := hide (by rw [mapB, h1]; rfl)
    have H1 := hide h1
    have hp := p16 hn16
    have e1 := wr_pow hn16
    have e2 := wr_pow1 hn16
    rw [HB.out]
    clear h1
    go_enter Tryd.func45, Tryd.ntmps45
    go_wp2_with (first | (go_at_call 38; refine (grSize_any _ _).mono ?_; rintro e w' ⟨rfl, rfl⟩; rw [H1.out]) | (go_at_call 78; refine (l1All_any _ _ _ f _ _ _ hn HS.out).mono ?_; rintro e w' ⟨rfl, rfl⟩))
    go_ret
    exact ⟨rfl, rfl⟩
theorem isMapF_any (b n : Nat) (A : Option Addr) (c : Nat) (s : Int) (w : World) (hn : n ≤ 16) (hb : w.cell? ⟨b, 0, none⟩ = some (.slice A n c)) :
    Calls Tryd.prog 85 #[.int .i64 s, .pointer (some ⟨b, 0, none⟩)] w fun e w' => e = .returned (.bool (!inB s 0 (2 ^ n - 1))) ∧ w' = w := by
  go_enter Tryd.func85, Tryd.ntmps85
  go_wp2_with (first | (go_at_call 49; refine (isSetOf_any _ _ _ hn).mono ?_; rintro e w' ⟨rfl, rfl⟩))
  go_ret
  exact ⟨rfl, rfl⟩
/-- An index that tells whether there is one. -/
def IdxPost (b : Bool) (w : World) (e : Ending) (w' : World) : Prop := ∃ v : Int, e = .returned (.int .i64 v) ∧ decide (0 ≤ v) = b ∧ w' = w
theorem indexF_any (b n : Nat) (A : Option Addr) (c : Nat) (f : Nat → Int) (w : World) (hn : n ≤ 16) (hb : w.cell? ⟨b, 0, none⟩ = some (.slice A n c)) (hs : Src w A n (iv f)) :
    Calls Tryd.prog 117 #[.slice A n c, .func (.func 85) #[] #[.pointer (some ⟨b, 0, none⟩)]] w (IdxPost (!allB n f 0 (2 ^ n - 1)) w) := by
  have HS := hide hs
  clear hs
  go_enter Tryd.func117, Tryd.ntmps117
  go_wp2
  go_loop [8] (fun i => ∃ k : Nat, k ≤ n ∧ i = .int .i64 k ∧ Hid (∀ j, j < k → inB (f j) 0 (2 ^ n - 1) = true)) (fun i => n - (intOf i).toNat)
  case atStart => exact ⟨0, Nat.zero_le _, rfl, hide (fun j hj => absurd hj (by omega))⟩
  case round =>
    obtain ⟨k, hk, rfl, HK⟩ := hrel
    by_cases hlt : k < n
    · obtain ⟨b2, off, hA, hbl, hc0⟩ := HS.out k hlt
      have hc : w.cell? ⟨b2, off + k, none⟩ = some (.int .i64 (f k)) := hc0
      clear hc0
      subst hA
      cases hx : inB (f k) 0 (2 ^ n - 1)
      · have HX := hide hx
        have HR : Hid (allB n f 0 (2 ^ n - 1) = false) := hide (by
          simp only [allB, decide_eq_false_iff_not]
          intro h
          have := h k hlt
          simp only [inB, decide_eq_false_iff_not] at hx
          exact hx this)
        clear hx
        go_wp2_with (first | (go_at_call 85; refine (isMapF_any b n _ _ _ _ hn hb).mono ?_; rintro e w' ⟨rfl, rfl⟩; rw [HX.out]))
        go_ret
        rw [HR.out]
        exact ⟨k, rfl, by simp, rfl⟩
      · have HX := hide hx
        clear hx
        go_wp2_with (first | (go_at_call 85; refine (isMapF_any b n _ _ _ _ hn hb).mono ?_; rintro e w' ⟨rfl, rfl⟩; rw [HX.out]))
        go_round
        case rel =>
          refine ⟨k + 1, by omega, by go_num, hide fun j hj => ?_⟩
          by_cases hjk : j = k
          · subst hjk; exact HX.out
          · exact HK.out j (by omega)
        case measure => simp [intOf]; omega
    · have HR : Hid (allB n f 0 (2 ^ n - 1) = true) := hide (by
        simp only [allB, decide_eq_true_eq]
        intro j hj
        have := HK.out j (by omega)
        simpa only [inB, decide_eq_true_eq] using this)
      go_wp2
      go_ret
      rw [HR.out]
      exact ⟨-1, rfl, by decide, rfl⟩
theorem containsF_any (b n : Nat) (A : Option Addr) (c : Nat) (f : Nat → Int) (w : World) (hn : n ≤ 16) (hb : w.cell? ⟨b, 0, none⟩ = some (.slice A n c)) (hs : Src w A n (iv f)) :
    Calls Tryd.prog 84 #[.slice A n c, .func (.func 85) #[] #[.pointer (some ⟨b, 0, none⟩)]] w fun e w' => e = .returned (.bool (!allB n f 0 (2 ^ n - 1))) ∧ w' = w := by
  obtain ⟨q, hq⟩ : ∃ q, (!allB n f 0 (2 ^ n - 1)) = q := ⟨_, rfl⟩
  have HI := hide (indexF_any b n A c f w hn hb hs)
  rw [hq] at HI ⊢
  clear hs hb hq
  go_enter Tryd.func84, Tryd.ntmps84
  go_wp2_with fail
  refine HI.out.mono ?_
  rintro e w' ⟨v, rfl, hv, rfl⟩
  have HV := hide hv
  clear hv
  go_wp2
  go_ret
  exact ⟨by first | rfl | (rw [HV.out]; rfl), rfl⟩
theorem isMap_any (A : Option Addr) (n c : Nat) (f : Nat → Int) (w : World) (hn : n ≤ 1048576) (hs : Src w A n (iv f)) :
    Calls Tryd.prog 48 #[.slice A n c] w fun e w' => e = .returned (.bool (mapB n f)) ∧ Below w.heap.size w w' := by
  have HS := hide hs
  clear hs
  cases h1 : inB n 1 16
  · have HB : Hid (mapB n f = false) := hide (by rw [mapB, h1]; rfl)
    have H1 := hide h1
    rw [HB.out]
    clear h1
    go_enter Tryd.func48, Tryd.ntmps48
    go_wp2_with (first | (go_at_call 42; refine (isCount_any _ _).mono ?_; rintro e w' ⟨rfl, rfl⟩; rw [H1.out]))
    go_ret
    exact ⟨rfl, by go_grown⟩
  · have hn16 : n ≤ 16 := by simp only [inB, decide_eq_true_eq] at h1; omega
    obtain ⟨q, hq⟩ : ∃ q, allB n f 0 (2 ^ n - 1) = q := ⟨_, rfl⟩
    have HB : Hid (mapB n f = q) := hide (by rw [mapB, h1, hq]; rfl)
    have H1 := hide h1
    have HC := hide (containsF_any w.heap.size n A c f (w.alloc (.cells #[.slice A n c] 22)) hn16 (by simp [go_sem]) (HS.out.alloc _))
    rw [hq] at HC
    have hmf : ∀ (fn : Fn) (first cap : Array Value) (w : World), (Instr.makeFunc fn first cap).run Tryd.prog w = .ok (.func fn first cap) w := fun _ _ _ _ => rfl
    rw [HB.out]
    clear h1 hq
    go_enter Tryd.func48, Tryd.ntmps48
    go_wp2_with (first | (go_at_call 42; refine (isCount_any _ _).mono ?_; rintro e w' ⟨rfl, rfl⟩; rw [H1.out]) | (go_at_call 84; refine HC.out.mono ?_; rintro e w' ⟨rfl, rfl⟩))
    go_ret
    exact ⟨by cases q <;> rfl, by go_grown⟩
end Go.Proofs.YtdpoceijnbbmgaaDoor
