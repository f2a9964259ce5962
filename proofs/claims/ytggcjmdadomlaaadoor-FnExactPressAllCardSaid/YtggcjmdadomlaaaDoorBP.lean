import Derived.Test.YtggcjmdadomlaaaDoorBD
import Derived.RegionTactic
namespace Go.Proofs.YtggcjmdadomlaaaDoor
open Go.RowKit
set_option maxHeartbeats 400000
theorem Blk.grown {w w' : World} {t : TypeId} {g row : Nat} {cs : Array Value} (h : Blk w t g cs) (hg : w.grownBy w' (some row)) (hne : g ≠ row) : Blk w' t g cs :=
  (hg.block g h.lt (by intro e; injection e with e; exact hne e)).trans h
/-- What pressing leaves of the lights. -/
def pressL (L : Nat → Bool) (t : Nat) (n : Nat) : Nat → Bool := fun j => if j < n then L j ^^ t.testBit j else L j
theorem press_any (b g n c : Nat) (own : Bool) (F : Nat → Nat) (L : Nat → Bool) (i : Nat) (w : World) (hn : n ≤ 16) (hi : i < n) (hF : F i < 65536) (hbk : Blk w 47 b (bd (.slice (some ⟨g, 0, none⟩) n c) (.bool own) L)) (ha : Arr w 3 g n (iv (nv F))) :
    Calls Tryd.prog 30 #[.pointer (some ⟨b, 0, none⟩), .int .i64 i] w fun e w' => e = .returned (.tuple #[]) ∧ (∃ L', Blk w' 47 b (bd (.slice (some ⟨g, 0, none⟩) n c) (.bool own) L') ∧ ∀ j, L' j = pressL L (tog F own i) n j) ∧ w.grownBy w' (some b) := by
  have hbl := hbk.lt
  have c0 : w.cell? ⟨b, 0, none⟩ = some (.slice (some ⟨g, 0, none⟩) n c) := (hbk.cell 0).trans (bd_0 _ _ _)
  have c1 : w.cell? ⟨b, 1, none⟩ = some (.bool own) := (hbk.cell 1).trans (bd_1 _ _ _)
  have HBK := hide hbk
  have HA := hide ha
  clear hbk ha
  go_enter Tryd.func30, Tryd.ntmps30
  go_wp2_with fail
  refine (toggles_any _ _ _ F _ _ _ hn hi hF HA.out).mono ?_
  rintro e w1 ⟨rfl, hb1⟩
  have HB1 := hide (HBK.out.all hb1)
  have d0 : w1.cell? ⟨b, 0, none⟩ = some (.slice (some ⟨g, 0, none⟩) n c) := (HB1.out.cell 0).trans (bd_0 _ _ _)
  have HG1 := hide (grownBy_of_below hb1 (some b))
  obtain ⟨T, hT⟩ : ∃ T, tog F own i = T := ⟨_, rfl⟩
  rw [hT]
  have HT := hide hT
  clear hT hb1
  go_wp2
  go_loopw [18] (fun i wr => ∃ k : Nat, k ≤ n ∧ i = .int .i64 k ∧ Blk wr 47 b (bd (.slice (some ⟨g, 0, none⟩) n c) (.bool own) (pressL L T k)) ∧ w.grownBy wr (some b))
    (fun i _ => n - (intOf i).toNat)
  case atStart => exact ⟨0, by omega, rfl, HB1.out, HG1.out⟩
  case round =>
    obtain ⟨k, hk, rfl, hb, hg⟩ := hrel
    by_cases hlt : k < n
    · have hc := (hb.cell (2 + k)).trans (bd_get _ _ _ k (by omega))
      have hz := hb.frozen (2 + k)
      have HB := hide hb
      have HG := hide hg
      have hnext : Hid (∀ x, (if x = k then (pressL L T k k ^^ T.testBit k) else pressL L T k x) = pressL L T (k + 1) x) := hide fun x => by
        by_cases hx : x = k
        · subst hx; simp [pressL]
        · simp only [pressL, hx, if_false]
          by_cases h2 : x < k
          · rw [if_pos h2, if_pos (by omega)]
          · rw [if_neg h2, if_neg (by omega)]
      clear hb hg
      cases hbit : T.testBit k
      · go_wp2_with (go_at_call 44; refine (has_any _ _ (by omega) (by omega) _).mono ?_; rintro e w3 ⟨rfl, rfl⟩; simp only [Int.toNat_natCast, bt_nat, hbit])
        go_roundw
        case rel =>
          have e : pressL L T k = pressL L T (k + 1) := by
            funext x
            rw [← hnext.out x, hbit]
            by_cases hx : x = k
            · subst hx; simp
            · simp [hx]
          exact ⟨k + 1, by omega, by go_num, e ▸ HB.out, HG.out⟩
        case measure => simp [intOf]; omega
      · go_wp2_with (go_at_call 44; refine (has_any _ _ (by omega) (by omega) _).mono ?_; rintro e w3 ⟨rfl, rfl⟩; simp only [Int.toNat_natCast, bt_nat, hbit])
        go_region
        all_goals
          go_wp2
          go_roundw
          case rel =>
            refine ⟨k + 1, by omega, by go_num, ?_, grownBy_drewN (grownBy_setCell HG.out _) 1⟩
            have h := HB.out.set (2 + k) (.bool (!pressL L T k k))
            rw [bd_set] at h
            have e : (fun x => if x = k then !pressL L T k k else pressL L T k x) = pressL L T (k + 1) := by
              funext x
              rw [← hnext.out x, hbit]
              simp
            rw [e] at h
            exact h.drew
          case measure => simp [intOf]; omega
    · have hkn : k = n := by omega
      subst hkn
      go_wp2
      go_end0
      refine ⟨rfl, ⟨_, hb, fun j => ?_⟩, hg⟩
      rw [HT.out]
end Go.Proofs.YtggcjmdadomlaaaDoor
