import Derived.Test.YtmkdikoogbedkaaDoorFA
namespace Go.Proofs.YtmkdikoogbedkaaDoor
open Go.RowKit
set_option maxHeartbeats 1000000
/-- Is x among the first n of v? -/
noncomputable def amongB (n : Nat) (v : Nat → Int) (x : Int) : Bool := @decide (∃ j, j < n ∧ v j = x) (Classical.propDecidable _)
theorem amongB_yes {n : Nat} {v : Nat → Int} {x : Int} (j : Nat) (hj : j < n) (h : v j = x) : amongB n v x = true := by simp only [amongB, decide_eq_true_eq]; exact ⟨j, hj, h⟩
theorem amongB_no {n : Nat} {v : Nat → Int} {x : Int} (h : ∀ j, j < n → v j ≠ x) : amongB n v x = false := by
  simp only [amongB, decide_eq_false_iff_not]; rintro ⟨j, hj, e⟩; exact h j hj e
theorem l1Has_any (A : Option Addr) (n c : Nat) (v : Nat → Int) (x : Int) (w : World) (hn : n ≤ 1048576) (hs : Src w A n (iv v)) :
    Calls Tryd.prog 51 #[.slice A n c, .int .i64 x] w fun e w' => e = .returned (.bool (amongB n v x)) ∧ w = w' := by
  have HS := hide hs
  clear hs
  go_enter Tryd.func51, Tryd.ntmps51
  go_wp2
  go_loop [9] (fun i => ∃ k : Nat, k ≤ n ∧ i = .int .i64 k ∧ Hid (∀ j, j < k → v j ≠ x)) (fun i => n - (intOf i).toNat)
  case atStart => exact ⟨0, Nat.zero_le _, rfl, hide (fun j hj => absurd hj (by omega))⟩
  case round =>
    obtain ⟨k, hk, rfl, HK⟩ := hrel
    by_cases hlt : k < n
    · obtain ⟨b, off, hA, hbl, hc0⟩ := HS.out k hlt
      have hc : w.cell? ⟨b, off + k, none⟩ = some (.int .i64 (v k)) := hc0
      clear hc0
      subst hA
      by_cases hx : v k = x
      · have hq : (v k == x) = true := by simp [hx]
        go_wp2
        go_ret
        exact ⟨by rw [amongB_yes k hlt hx]; rfl, rfl⟩
      · have hq : (v k == x) = false := by simp [hx]
        go_wp2
        go_round
        case rel =>
          refine ⟨k + 1, by omega, by go_num, hide fun j hj => ?_⟩
          by_cases hjk : j = k
          · subst hjk; exact hx
          · exact HK.out j (by omega)
        case measure => simp [intOf]; omega
    · have hkn : k = n := by omega
      subst hkn
      go_wp2
      go_ret
      exact ⟨by rw [amongB_no HK.out]; rfl, rfl⟩
theorem grNames_any (n : Nat) (A : Option Addr) (m mc : Nat) (v : Nat → Int) (w : World) (hn : n ≤ 16) (hm : m ≤ 1048576) (hmc : m ≤ mc) (hs : Src w A m (iv v)) :
    Calls Tryd.prog 32 #[.slice A m mc, .int .i64 n] w fun e w' => e = .returned (.bool (namesB n m v)) ∧ w = w' := by
  have HS := hide hs
  clear hs
  by_cases hmn : m = n
  · subst hmn
    have e1 : ((m : Int) != (m : Int)) = false := by simp
    cases hall : allB m v 0 ((m : Int) - 1)
    · go_enter Tryd.func32, Tryd.ntmps32
      go_wp2_with (go_at_call 49; refine (l1All_any _ _ _ v _ _ _ hm (by exact HS.out)).mono ?_; rintro e w' ⟨rfl, rfl⟩; simp only [hall])
      go_ret
      have hno : namesB m m v = false := namesB_no fun h => by
        simp only [allB, decide_eq_false_iff_not] at hall
        exact hall fun j hj => (h.2 j hj).1
      exact ⟨by rw [hno]; rfl, rfl⟩
    · have hall' := hall
      simp only [allB, decide_eq_true_eq] at hall'
      have HALL := hide hall'
      clear hall'
      go_enter Tryd.func32, Tryd.ntmps32
      go_wp2_with (go_at_call 49; refine (l1All_any _ _ _ v _ _ _ hm (by exact HS.out)).mono ?_; rintro e w' ⟨rfl, rfl⟩; simp only [hall])
      go_loop [20] (fun i => ∃ k : Nat, k ≤ m ∧ i = .int .i64 k ∧ Hid (NamesTo m k v)) (fun i => m - (intOf i).toNat)
      case atStart => exact ⟨0, Nat.zero_le _, rfl, hide (NamesTo.zero _ _)⟩
      case round =>
        obtain ⟨k, hk, rfl, HN⟩ := hrel
        by_cases hlt : k < m
        · obtain ⟨b, off, hA, hbl, hc0⟩ := HS.out k hlt
          have hc : _ = some (Value.int .i64 (v k)) := hc0
          clear hc0
          subst hA
          have HSk := hide (show Src _ _ k _ from fun j hj => HS.out j (by omega))
          cases hq : amongB k v (v k)
          · go_wp2_with (go_at_call 51; refine (l1Has_any _ _ _ v _ _ (by omega) (by exact HSk.out)).mono ?_; rintro e w' ⟨rfl, rfl⟩; simp only [hq])
            go_round
            case rel =>
              refine ⟨k + 1, by omega, by go_num, hide (HN.out.step (HALL.out k hlt) fun i hi e => ?_)⟩
              rw [amongB_yes i hi e] at hq
              cases hq
            case measure => simp [intOf]; omega
          · go_wp2_with (go_at_call 51; refine (l1Has_any _ _ _ v _ _ (by omega) (by exact HSk.out)).mono ?_; rintro e w' ⟨rfl, rfl⟩; simp only [hq])
            go_ret
            have hno : namesB m m v = false := namesB_no fun h => by
              rw [amongB_no (h.2 k hlt).2] at hq
              cases hq
            exact ⟨by rw [hno]; rfl, rfl⟩
        · have hkm : k = m := by omega
          subst hkm
          go_wp2
          go_ret
          exact ⟨by rw [namesB_yes rfl HN.out]; rfl, rfl⟩
  · have e1 : ((m : Int) != (n : Int)) = true := by simp; omega
    go_enter Tryd.func32, Tryd.ntmps32
    go_wp2
    go_ret
    exact ⟨by rw [namesB_no (fun h => hmn h.1)]; rfl, rfl⟩
end Go.Proofs.YtmkdikoogbedkaaDoor
