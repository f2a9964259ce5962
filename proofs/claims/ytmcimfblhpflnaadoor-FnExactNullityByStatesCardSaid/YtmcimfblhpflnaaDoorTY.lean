/-
trAll: what can be done in a forest.
-/
import Derived.Test.YtmcimfblhpflnaaDoorTX
import Derived.Test.YtmcimfblhpflnaaDoorZb
namespace Go.Proofs.YtmcimfblhpflnaaDoor
open Go.RowKit Go.BigFrame
set_option maxHeartbeats 4000000
set_option maxRecDepth 8000 in
theorem trAll_any (A : Option Addr) (m c gp cp n L : Nat) (own : Bool) (F : Nat → Nat) (p : Nat → Int) (w : World) (hn : n ≤ 16) (hA : BndA F p n (dueB L own)) (ha : Arr w 3 gp n (iv p))
    (IH : ∀ j, j < n → BelowOk (.slice A m c) own n gp cp L p j) :
    Calls Tryd.prog 64 #[.agg #[.slice A m c, .bool own], .slice (some ⟨gp, 0, none⟩) n cp, .int .i64 (L : Nat)] w fun e w' =>
      e = .returned (.agg #[.int .i64 ((aRun accM (st accM (kids p n) (dueB L own) n) p (List.range n)).1 : Nat), .int .i64 ((aRun accM (st accM (kids p n) (dueB L own) n) p (List.range n)).2 : Nat)]) ∧ Below w.heap.size w w' := by
  have HA := hide ha
  have HB := hide hA
  have HI := hide IH
  have hgl := ha.lt
  clear ha hA IH
  go_enter Tryd.func64, Tryd.ntmps64
  go_wp2
  go_loopw [13] (fun x wr => ∃ (k : Nat) (E : Nat × Nat), x = .int .i64 k ∧ k ≤ n ∧ Hid (aRun accM (st accM (kids p n) (dueB L own) n) p (List.range k) = E) ∧ Hid (Blk wr 67 (w.heap.size + 1 + 1) (sc E)) ∧
      Hid (Blk wr 67 (w.heap.size + 1) (sc (0, 0))) ∧ Hid (Arr wr 28 w.heap.size 2 (bx (.slice A m c) (.bool own))) ∧ Below w.heap.size w wr)
    (fun x _ => n - (intOf x).toNat)
  case atStart =>
    refine ⟨0, (1, 0), rfl, Nat.zero_le _, hide rfl, hide ?_, hide ?_, hide ?_, by go_grown⟩
    · exact Blk.new _ _ _ (by simp)
    · exact (Blk.new _ _ _ (by simp)).alloc _
    · exact ((Arr.box w 28 _ _).alloc _).alloc _
  case round =>
    obtain ⟨k, E, rfl, hk, HR, HE, HZ, HX, hw⟩ := hrel
    have HW := hide hw
    have hsz := hw.size
    have hel := HE.out.lt
    have hzl := HZ.out.lt
    have hak := HA.out.below hw hgl
    have hpl := hak.lt
    have HAW := hide hak
    clear hw
    by_cases hlt : k < n
    · have hck := hak.cell hlt
      simp only [iv] at hck
      clear hak
      by_cases hp : p k < 0
      · have bE := HB.out.m k hk
        have bV := HB.out.e k hlt
        have bX := HB.out.x k hlt hp
        rw [HR.out] at bE bX
        obtain ⟨V0, hV0⟩ : ∃ V0, st accM (kids p n) (dueB L own) n k 0 0 = V0 := ⟨_, rfl⟩
        obtain ⟨V1, hV1⟩ : ∃ V1, st accM (kids p n) (dueB L own) n k 1 0 = V1 := ⟨_, rfl⟩
        have e1 : (accM.either V0 V1).1 ≤ 4294967296 := by rw [← hV0, ← hV1]; exact bV.1
        have hsum : V0.1 + V1.1 < 2 ^ 62 := by
          by_cases h0 : V0.1 = 0
          · have e : accM.either V0 V1 = V1 := by simp [accM, h0]
            rw [e] at e1
            omega
          · by_cases h1 : V1.1 = 0
            · have e : accM.either V0 V1 = V0 := by simp [accM, h0, h1]
              rw [e] at e1
              omega
            · have e : accM.either V0 V1 = (V0.1 + V1.1, min V0.2 V1.2) := by simp [accM, h0, h1]
              rw [e] at e1
              have : V0.1 + V1.1 ≤ 4294967296 := e1
              omega
        rw [hV0, hV1] at bV bX
        have C1 : Hid (∀ w, Arr w 3 gp n (iv p) → Calls Tryd.prog 90 #[.agg #[.slice A m c, .bool own], .slice (some ⟨gp, 0, none⟩) n cp, .int .i64 (L : Nat), .int .i64 (k : Nat), .int .i64 0, .int .i64 0] w fun e w' => e = .returned (.agg #[.int .i64 (V0.1 : Nat), .int .i64 (V0.2 : Nat)]) ∧ Below w.heap.size w w') :=
          hide fun w ha => by have := (HI.out k hlt).at0 0 w (by omega) ha; rw [hV0] at this; exact this
        have C2 : Hid (∀ w, Arr w 3 gp n (iv p) → Calls Tryd.prog 90 #[.agg #[.slice A m c, .bool own], .slice (some ⟨gp, 0, none⟩) n cp, .int .i64 (L : Nat), .int .i64 (k : Nat), .int .i64 1, .int .i64 0] w fun e w' => e = .returned (.agg #[.int .i64 (V1.1 : Nat), .int .i64 (V1.2 : Nat)]) ∧ Below w.heap.size w w') :=
          hide fun w ha => by have := (HI.out k hlt).at1 0 w (by omega) ha; rw [hV1] at this; exact this
        have C3 : Hid (∀ w, Calls Tryd.prog 89 #[.agg #[.int .i64 (V0.1 : Nat), .int .i64 (V0.2 : Nat)], .agg #[.int .i64 (V1.1 : Nat), .int .i64 (V1.2 : Nat)]] w _) := hide fun w => trBoth_sv V0 V1 w hsum
        have C4 : Hid (∀ w, Calls Tryd.prog 88 #[.agg #[.int .i64 (E.1 : Nat), .int .i64 (E.2 : Nat)], .agg #[.int .i64 ((accM.either V0 V1).1 : Nat), .int .i64 ((accM.either V0 V1).2 : Nat)]] w _) := hide fun w => trNext_sv E _ w (by omega) (by omega)
        have HV0 := hide hV0
        have HV1 := hide hV1
        clear bE bV bX e1 hsum hV0 hV1
        have Q0 : ∀ x : Later wr, x.w.cell? ⟨w.heap.size, 0, none⟩ = some (.slice A m c) := fun x => x.cell (HX.out.cell (by omega))
        have Q1 : ∀ x : Later wr, x.w.cell? ⟨w.heap.size, 1, none⟩ = some (.bool own) := fun x => x.cell (HX.out.cell (by omega))
        have Q2 : ∀ x : Later wr, x.w.cell? ⟨w.heap.size + 1 + 1, 0, none⟩ = some (.int .i64 (E.1 : Nat)) := fun x => x.cell (HE.out.cell 0)
        have Q3 : ∀ x : Later wr, x.w.cell? ⟨w.heap.size + 1 + 1, 1, none⟩ = some (.int .i64 (E.2 : Nat)) := fun x => x.cell (HE.out.cell 1)
        have QA : Hid (∀ x : Later wr, Arr x.w 3 gp n (iv p)) := hide fun x => HAW.out.all x.is
        go_wp2_with fail
        refine wp_region_later_tail 13 (by kernel_rfl) (by kernel_rfl) ?_
        simp only [List.take_succ_cons, List.take_zero]
        repeat (first | go_big_quiet_skip | (go_big_quiet_want; go_big_quiet_op; first | go_big_quiet_on | (apply Exists.intro; refine ⟨fun x => ?_, ?_⟩; (· first
          | (with_reducible exact Later.call x (C1.out x.w (QA.out x))) | (with_reducible exact Later.call x (C2.out x.w (QA.out x))) | (with_reducible exact Later.call x (C3.out x.w)) | (with_reducible exact Later.call x (C4.out x.w))); go_big_quiet_on)))
        refine wpQuiet_nil ?_
        rintro _ ⟨x, rfl⟩
        have hx := x.is
        have KE := hide (HE.out.all hx)
        have HW5 : Hid (Below w.heap.size w x.w) := hide (HW.out.trans (hx.mono hsz))
        have HX5 := hide (HX.out.all hx)
        have HZ5 := hide (HZ.out.all hx)
        have xl1 := KE.out.lt
        have z1 := KE.out.frozen 0
        have z2 := KE.out.frozen 1
        have y1 : x.w.cell? ⟨w.heap.size + 1 + 1, 0, none⟩ = some (.int .i64 (E.1 : Nat)) := KE.out.cell 0
        have y2 : x.w.cell? ⟨w.heap.size + 1 + 1, 1, none⟩ = some (.int .i64 (E.2 : Nat)) := KE.out.cell 1
        clear Q0 Q1 Q2 Q3 hx
        simp only [List.drop_succ_cons, List.drop_zero]
        go_wp2
        go_roundw
        case rel =>
          refine ⟨k + 1, accM.both E (accM.either V0 V1), by go_num, by omega, hide ?_, hide ?_, hide ?_, hide ?_, ?_⟩
          · rw [List.range_succ, aRun_snoc, HR.out]
            unfold aStep
            rw [if_pos hp, HV0.out, HV1.out]
          · exact sc_put KE.out _ _
          · exact (HZ5.out.far (p := ⟨w.heap.size + 1 + 1, 0, none⟩) (by simp) _).far (p := ⟨w.heap.size + 1 + 1, 1, none⟩) (by simp) _
          · exact (HX5.out.far (p := ⟨w.heap.size + 1 + 1, 0, none⟩) (by simp; try omega) _).far (p := ⟨w.heap.size + 1 + 1, 1, none⟩) (by simp; try omega) _
          · exact (HW5.out.setCell (p := ⟨w.heap.size + 1 + 1, 0, none⟩) (by simp; omega) _).setCell (p := ⟨w.heap.size + 1 + 1, 1, none⟩) (by simp; omega) _
        case measure => simp [intOf]; omega
      · have hp' : ¬ (p k < 0) := hp
        go_wp2
        go_roundw
        case rel => exact ⟨k + 1, E, by go_num, by omega, hide (by rw [List.range_succ, aRun_snoc, HR.out]; unfold aStep; rw [if_neg hp]), HE, HZ, HX, HW.out⟩
        case measure => simp [intOf]; omega
    · have hkn : k = n := by omega
      subst hkn
      have y1 : wr.cell? ⟨w.heap.size + 1 + 1, 0, none⟩ = some (.int .i64 (E.1 : Nat)) := HE.out.cell 0
      have y2 : wr.cell? ⟨w.heap.size + 1 + 1, 1, none⟩ = some (.int .i64 (E.2 : Nat)) := HE.out.cell 1
      have y5 : wr.cell? ⟨w.heap.size + 1, 0, none⟩ = some (.int .i64 0) := HZ.out.cell 0
      have y6 : wr.cell? ⟨w.heap.size + 1, 1, none⟩ = some (.int .i64 0) := HZ.out.cell 1
      have z5 := HZ.out.frozen 0
      have z6 := HZ.out.frozen 1
      go_wp2
      refine bodyPost_ret (v := .agg #[.int .i64 (E.1 : Nat), .int .i64 (E.2 : Nat)]) (by simp [results, Tryd.results64, go_sem, y5, y6]) rfl ⟨?_, ?_⟩
      · rw [HR.out]
      · have hb := HW.out
        go_grown
end Go.Proofs.YtmcimfblhpflnaaDoor
