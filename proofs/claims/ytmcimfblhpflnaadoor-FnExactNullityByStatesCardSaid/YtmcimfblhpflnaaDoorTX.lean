/-
trBelow: what can be done below a button.
-/
import Derived.Test.YtmcimfblhpflnaaDoorTW
import Derived.Test.YtmcimfblhpflnaaDoorZb
import Derived.Test.YtmcimfblhpflnaaDoorLT
import Derived.Deep.Cut
namespace Go.Proofs.YtmcimfblhpflnaaDoor
open Go.RowKit Go.BigFrame
set_option maxHeartbeats 4000000
/-- Must the number of pressed children be odd? -/
def dueB (L : Nat) (own : Bool) (i pr ab : Nat) : Bool := decide ((L / 2 ^ i % 2 + ab + (if own then pr else 0)) % 2 = 1)
/-- A state in two cells. -/
def sc (s : Nat × Nat) : Array Value := #[.int .i64 (s.1 : Nat), .int .i64 (s.2 : Nat)]
theorem trNext_sv (a b : Nat × Nat) (w : World) (h1 : a.1 * b.1 < 2 ^ 62) (h2 : a.2 + b.2 < 2 ^ 62) : Calls Tryd.prog 88 #[.agg #[.int .i64 (a.1 : Nat), .int .i64 (a.2 : Nat)], .agg #[.int .i64 (b.1 : Nat), .int .i64 (b.2 : Nat)]] w fun e w' => e = .returned (.agg #[.int .i64 ((accM.both a b).1 : Nat), .int .i64 ((accM.both a b).2 : Nat)]) ∧ Below w.heap.size w w' :=
  trNext_any a b w h1 h2
theorem trBoth_sv (a b : Nat × Nat) (w : World) (h1 : a.1 + b.1 < 2 ^ 62) : Calls Tryd.prog 89 #[.agg #[.int .i64 (a.1 : Nat), .int .i64 (a.2 : Nat)], .agg #[.int .i64 (b.1 : Nat), .int .i64 (b.2 : Nat)]] w fun e w' => e = .returned (.agg #[.int .i64 ((accM.either a b).1 : Nat), .int .i64 ((accM.either a b).2 : Nat)]) ∧ Below w.heap.size w w' :=
  trBoth_any a b w h1
theorem both_le (a b : Nat × Nat) : (accM.both a b).1 ≤ a.1 * b.1 := by
  unfold accM
  dsimp only
  split
  · exact Nat.zero_le _
  · exact Nat.le_refl _
theorem mul_lt62 {a b : Nat} (ha : a ≤ 1073741824) (hb : b ≤ 536870912) : a * b < 2 ^ 62 ∧ a * b ≤ 576460752303423488 := by
  have := Nat.mul_le_mul ha hb
  omega
theorem either_comm (a b c d : Nat × Nat) : accM.either (accM.both a b) (accM.both c d) = accM.either (accM.both c d) (accM.both a b) := by
  have z : ∀ x y : Nat × Nat, (accM.both x y).1 = 0 → accM.both x y = (0, 0) := by
    intro x y h
    by_cases h0 : x.1 = 0 ∨ y.1 = 0
    · simp [accM, h0]
    · have e : accM.both x y = (x.1 * y.1, x.2 + y.2) := by simp [accM, h0]
      rw [e] at h
      rw [not_or] at h0
      exact absurd h (Nat.mul_ne_zero h0.1 h0.2)
  have h1 := z a b
  have h2 := z c d
  generalize accM.both a b = X at *
  generalize accM.both c d = Y at *
  by_cases hx : X.1 = 0
  · by_cases hy : Y.1 = 0
    · rw [h1 hx, h2 hy]
    · simp [accM, hx, hy]
  · by_cases hy : Y.1 = 0
    · simp [accM, hx, hy]
    · simp [accM, hx, hy, Nat.add_comm, Nat.min_comm]
/-- What is asked of trBelow for a button. -/
def BelowOk (gv : Value) (own : Bool) (n gp cp L : Nat) (p : Nat → Int) (j : Nat) : Prop :=
  ∀ (pr ab : Nat) (w : World), pr < 2 → ab < 2 → Arr w 3 gp n (iv p) → Calls Tryd.prog 90 #[.agg #[gv, .bool own], .slice (some ⟨gp, 0, none⟩) n cp, .int .i64 (L : Nat), .int .i64 (j : Nat), .int .i64 (pr : Nat), .int .i64 (ab : Nat)] w fun e w' =>
    e = .returned (.agg #[.int .i64 ((st accM (kids p n) (dueB L own) n j pr ab).1 : Nat), .int .i64 ((st accM (kids p n) (dueB L own) n j pr ab).2 : Nat)]) ∧ Below w.heap.size w w'
theorem BelowOk.at0 {gv : Value} {own : Bool} {n gp cp L j : Nat} {p : Nat → Int} (h : BelowOk gv own n gp cp L p j) (ab : Nat) (w : World) (hab : ab < 2) (ha : Arr w 3 gp n (iv p)) :
    Calls Tryd.prog 90 #[.agg #[gv, .bool own], .slice (some ⟨gp, 0, none⟩) n cp, .int .i64 (L : Nat), .int .i64 (j : Nat), .int .i64 0, .int .i64 (ab : Nat)] w fun e w' =>
      e = .returned (.agg #[.int .i64 ((st accM (kids p n) (dueB L own) n j 0 ab).1 : Nat), .int .i64 ((st accM (kids p n) (dueB L own) n j 0 ab).2 : Nat)]) ∧ Below w.heap.size w w' := h 0 ab w (by omega) hab ha
theorem BelowOk.at1 {gv : Value} {own : Bool} {n gp cp L j : Nat} {p : Nat → Int} (h : BelowOk gv own n gp cp L p j) (ab : Nat) (w : World) (hab : ab < 2) (ha : Arr w 3 gp n (iv p)) :
    Calls Tryd.prog 90 #[.agg #[gv, .bool own], .slice (some ⟨gp, 0, none⟩) n cp, .int .i64 (L : Nat), .int .i64 (j : Nat), .int .i64 1, .int .i64 (ab : Nat)] w fun e w' =>
      e = .returned (.agg #[.int .i64 ((st accM (kids p n) (dueB L own) n j 1 ab).1 : Nat), .int .i64 ((st accM (kids p n) (dueB L own) n j 1 ab).2 : Nat)]) ∧ Below w.heap.size w w' := h 1 ab w (by omega) hab ha
/-- A state is put into its block, cell by cell. -/
theorem sc_put {w : World} {b : Nat} {s : Nat × Nat} (h : Blk w 67 b (sc s)) (u v : Value) : Blk ((w.setCell ⟨b, 0, none⟩ u).setCell ⟨b, 1, none⟩ v) 67 b #[u, v] := by
  have := (h.set 0 u).set 1 v
  simpa [sc] using this
set_option maxRecDepth 8000 in
theorem trBelow_step (A : Option Addr) (m c gp cp n L i pr ab : Nat) (own : Bool) (p : Nat → Int) (w : World) (hn : n ≤ 16) (hL : L < 65536) (hi : i < n) (hpr : pr < 2) (hab : ab < 2) (hB : Bnd p n (dueB L own)) (ha : Arr w 3 gp n (iv p))
    (IH : ∀ j, j ∈ kids p n i → BelowOk (.slice A m c) own n gp cp L p j) :
    Calls Tryd.prog 90 #[.agg #[.slice A m c, .bool own], .slice (some ⟨gp, 0, none⟩) n cp, .int .i64 (L : Nat), .int .i64 (i : Nat), .int .i64 (pr : Nat), .int .i64 (ab : Nat)] w fun e w' =>
      e = .returned (.agg #[.int .i64 ((st accM (kids p n) (dueB L own) n i pr ab).1 : Nat), .int .i64 ((st accM (kids p n) (dueB L own) n i pr ab).2 : Nat)]) ∧ Below w.heap.size w w' := by
  have HA := hide ha
  have HB := hide hB
  have HI := hide IH
  have hgl := ha.lt
  clear ha hB IH
  go_enter Tryd.func90, Tryd.ntmps90
  go_wp2
  go_loopw [24] (fun x wr => ∃ (k : Nat) (E O : Nat × Nat), x = .int .i64 k ∧ k ≤ n ∧ Hid (kRun accM (st accM (kids p n) (dueB L own) n) pr (kids p k i) = (E, O)) ∧ Hid (Blk wr 67 (w.heap.size + 1 + 1) (sc E)) ∧ Hid (Blk wr 67 (w.heap.size + 1 + 1 + 1) (sc O)) ∧
      Hid (Blk wr 67 (w.heap.size + 1) (sc (0, 0))) ∧ Hid (Arr wr 28 w.heap.size 2 (bx (.slice A m c) (.bool own))) ∧ Below w.heap.size w wr)
    (fun x _ => n - (intOf x).toNat)
  case atStart =>
    refine ⟨0, (1, 0), (0, 0), rfl, Nat.zero_le _, hide rfl, hide ?_, hide ?_, hide ?_, hide ?_, by go_grown⟩
    · exact (Blk.new _ _ _ (by simp)).alloc _
    · exact Blk.new _ _ _ (by simp)
    · exact ((Blk.new _ _ _ (by simp)).alloc _).alloc _
    · exact (((Arr.box w 28 _ _).alloc _).alloc _).alloc _
  case round =>
    obtain ⟨k, E, O, rfl, hk, HR, HE, HO, HZ, HX, hw⟩ := hrel
    have HW := hide hw
    have hsz := hw.size
    have hel := HE.out.lt
    have hol := HO.out.lt
    have hzl := HZ.out.lt
    have hak := HA.out.below hw hgl
    have HAW := hide hak
    have hpl := hak.lt
    clear hw
    by_cases hlt : k < n
    · have hck := hak.cell hlt
      simp only [iv] at hck
      clear hak
      by_cases hp : p k = (i : Int)
      · have hmem : k ∈ kids p n i := kids_mem.2 ⟨hlt, hp⟩
        have c0 : wr.cell? ⟨w.heap.size, 0, none⟩ = some (.slice A m c) := HX.out.cell (by omega)
        have c1 : wr.cell? ⟨w.heap.size, 1, none⟩ = some (.bool own) := HX.out.cell (by omega)
        rw [hp] at hck
        obtain ⟨bE, bO⟩ := HB.out.r i hi k hk pr hpr
        rw [HR.out] at bE bO
        dsimp only at bE bO
        have bV := HB.out.vk i k hi hmem
        obtain ⟨V0, hV0⟩ : ∃ V0, st accM (kids p n) (dueB L own) n k 0 pr = V0 := ⟨_, rfl⟩
        obtain ⟨V1, hV1⟩ : ∃ V1, st accM (kids p n) (dueB L own) n k 1 pr = V1 := ⟨_, rfl⟩
        have bV0 := bV 0 pr (by omega)
        have bV1 := bV 1 pr (by omega)
        have bW0 := (HB.out.v k hlt 0 pr (by omega)).2
        have bW1 := (HB.out.v k hlt 1 pr (by omega)).2
        rw [hV0] at bV0 bW0
        rw [hV1] at bV1 bW1
        obtain ⟨⟨m1, m1'⟩, m2, m2'⟩ := And.intro (mul_lt62 bE.1 bV0) (mul_lt62 bO.1 bV1)
        obtain ⟨⟨m3, m3'⟩, m4, m4'⟩ := And.intro (mul_lt62 bE.1 bV1) (mul_lt62 bO.1 bV0)
        have n1 := both_le E V0
        have n2 := both_le O V1
        have n3 := both_le E V1
        have n4 := both_le O V0
        have C1 : Hid (∀ w, Calls Tryd.prog 88 #[.agg #[.int .i64 (E.1 : Nat), .int .i64 (E.2 : Nat)], .agg #[.int .i64 (V0.1 : Nat), .int .i64 (V0.2 : Nat)]] w _) := hide fun w => trNext_sv E V0 w m1 (by omega)
        have C2 : Hid (∀ w, Calls Tryd.prog 88 #[.agg #[.int .i64 (O.1 : Nat), .int .i64 (O.2 : Nat)], .agg #[.int .i64 (V1.1 : Nat), .int .i64 (V1.2 : Nat)]] w _) := hide fun w => trNext_sv O V1 w m2 (by omega)
        have C3 : Hid (∀ w, Calls Tryd.prog 88 #[.agg #[.int .i64 (E.1 : Nat), .int .i64 (E.2 : Nat)], .agg #[.int .i64 (V1.1 : Nat), .int .i64 (V1.2 : Nat)]] w _) := hide fun w => trNext_sv E V1 w m3 (by omega)
        have C4 : Hid (∀ w, Calls Tryd.prog 88 #[.agg #[.int .i64 (O.1 : Nat), .int .i64 (O.2 : Nat)], .agg #[.int .i64 (V0.1 : Nat), .int .i64 (V0.2 : Nat)]] w _) := hide fun w => trNext_sv O V0 w m4 (by omega)
        have C5 : Hid (∀ w, Calls Tryd.prog 89 #[.agg #[.int .i64 ((accM.both E V0).1 : Nat), .int .i64 ((accM.both E V0).2 : Nat)], .agg #[.int .i64 ((accM.both O V1).1 : Nat), .int .i64 ((accM.both O V1).2 : Nat)]] w _) := hide fun w => trBoth_sv _ _ w (by omega)
        have C6 : Hid (∀ w, Calls Tryd.prog 89 #[.agg #[.int .i64 ((accM.both E V1).1 : Nat), .int .i64 ((accM.both E V1).2 : Nat)], .agg #[.int .i64 ((accM.both O V0).1 : Nat), .int .i64 ((accM.both O V0).2 : Nat)]] w _) := hide fun w => trBoth_sv _ _ w (by omega)
        have IK := hide (HI.out k hmem)
        have HV0 := hide hV0
        have HV1 := hide hV1
        clear m1 m1' m2 m2' m3 m3' m4 m4' n1 n2 n3 n4 bE bO bV bV0 bV1 bW0 bW1 hmem hV0 hV1
        go_wp2_with fail
        refine (IK.out.at0 pr _ hpr HAW.out).mono ?_
        rintro e w3 ⟨rfl, hb3⟩
        rw [HV0.out]
        have hz3 := hb3.size
        have hl3 : w.heap.size < w3.heap.size := by omega
        have c0' : w3.cell? ⟨w.heap.size, 0, none⟩ = some (.slice A m c) := (hb3.cell (p := ⟨w.heap.size, 0, none⟩) (show w.heap.size < wr.heap.size by omega)).trans c0
        have c1' : w3.cell? ⟨w.heap.size, 1, none⟩ = some (.bool own) := (hb3.cell (p := ⟨w.heap.size, 1, none⟩) (show w.heap.size < wr.heap.size by omega)).trans c1
        have HA3 := hide (HAW.out.all hb3)
        have HB3 := hide hb3
        clear hb3 c0 c1 hck
        go_wp2_with fail
        refine (IK.out.at1 pr _ hpr (HA3.out.alloc _)).mono ?_
        rintro e w4 ⟨rfl, hb4⟩
        rw [HV1.out]
        have hz4 := hb4.size
        simp only [World.size_alloc] at hz4
        have HB4 : Hid (Below wr.heap.size wr w4) := hide (((by have h := HB3.out; go_grown) : Below wr.heap.size wr _).trans (hb4.mono (by simp; omega)))
        have k17 := (Blk.new w3 67 #[.int .i64 (V0.1 : Nat), .int .i64 (V0.2 : Nat)] rfl).all hb4
        have K17 := hide k17
        have K13 := hide (HE.out.all HB4.out)
        have K14 := hide (HO.out.all HB4.out)
        clear k17 c0' c1' hb4
        have hl4 : w3.heap.size < w4.heap.size := by omega
        have Q13a : ∀ x : Later (w4.alloc (.cells #[.int .i64 (V1.1 : Nat), .int .i64 (V1.2 : Nat)] 67)), x.w.cell? ⟨w.heap.size + 1 + 1, 0, none⟩ = some (.int .i64 (E.1 : Nat)) := fun x => x.cell ((K13.out.alloc _).cell 0)
        have Q13b : ∀ x : Later (w4.alloc (.cells #[.int .i64 (V1.1 : Nat), .int .i64 (V1.2 : Nat)] 67)), x.w.cell? ⟨w.heap.size + 1 + 1, 1, none⟩ = some (.int .i64 (E.2 : Nat)) := fun x => x.cell ((K13.out.alloc _).cell 1)
        have Q14a : ∀ x : Later (w4.alloc (.cells #[.int .i64 (V1.1 : Nat), .int .i64 (V1.2 : Nat)] 67)), x.w.cell? ⟨w.heap.size + 1 + 1 + 1, 0, none⟩ = some (.int .i64 (O.1 : Nat)) := fun x => x.cell ((K14.out.alloc _).cell 0)
        have Q14b : ∀ x : Later (w4.alloc (.cells #[.int .i64 (V1.1 : Nat), .int .i64 (V1.2 : Nat)] 67)), x.w.cell? ⟨w.heap.size + 1 + 1 + 1, 1, none⟩ = some (.int .i64 (O.2 : Nat)) := fun x => x.cell ((K14.out.alloc _).cell 1)
        have Q17a : ∀ x : Later (w4.alloc (.cells #[.int .i64 (V1.1 : Nat), .int .i64 (V1.2 : Nat)] 67)), x.w.cell? ⟨w3.heap.size, 0, none⟩ = some (.int .i64 (V0.1 : Nat)) := fun x => x.cell ((K17.out.alloc _).cell 0)
        have Q17b : ∀ x : Later (w4.alloc (.cells #[.int .i64 (V1.1 : Nat), .int .i64 (V1.2 : Nat)] 67)), x.w.cell? ⟨w3.heap.size, 1, none⟩ = some (.int .i64 (V0.2 : Nat)) := fun x => x.cell ((K17.out.alloc _).cell 1)
        have Q18a : ∀ x : Later (w4.alloc (.cells #[.int .i64 (V1.1 : Nat), .int .i64 (V1.2 : Nat)] 67)), x.w.cell? ⟨w4.heap.size, 0, none⟩ = some (.int .i64 (V1.1 : Nat)) := fun x => x.cell ((Blk.new w4 67 _ rfl).cell 0)
        have Q18b : ∀ x : Later (w4.alloc (.cells #[.int .i64 (V1.1 : Nat), .int .i64 (V1.2 : Nat)] 67)), x.w.cell? ⟨w4.heap.size, 1, none⟩ = some (.int .i64 (V1.2 : Nat)) := fun x => x.cell ((Blk.new w4 67 _ rfl).cell 1)
        go_wp2_with fail
        refine wp_region_later_tail 14 (by kernel_rfl) (by kernel_rfl) ?_
        simp only [List.take_succ_cons, List.take_zero]
        repeat (first | go_big_quiet_skip | (go_big_quiet_want; go_big_quiet_op; first | go_big_quiet_on | (apply Exists.intro; refine ⟨fun x => ?_, ?_⟩; (· first
          | (with_reducible exact Later.call x (C1.out x.w)) | (with_reducible exact Later.call x (C2.out x.w)) | (with_reducible exact Later.call x (C3.out x.w)) | (with_reducible exact Later.call x (C4.out x.w)) | (with_reducible exact Later.call x (C5.out x.w)) | (with_reducible exact Later.call x (C6.out x.w))); go_big_quiet_on)))
        refine wpQuiet_nil ?_
        rintro _ ⟨x, rfl⟩
        have hx := x.is
        have KE := hide ((K13.out.alloc _).all hx)
        have KO := hide ((K14.out.alloc _).all hx)
        have HW5 : Hid (Below w.heap.size w x.w) := hide ((HW.out.trans ((HB4.out.alloc (by exact HB4.out.size) _).mono hsz)).trans (hx.mono (by have := HB4.out.size; simp; omega)))
        have HX5 := hide (((HX.out.all HB4.out).alloc (.cells #[.int .i64 (V1.1 : Nat), .int .i64 (V1.2 : Nat)] 67)).all hx)
        have HZ5 := hide (((HZ.out.all HB4.out).alloc (.cells #[.int .i64 (V1.1 : Nat), .int .i64 (V1.2 : Nat)] 67)).all hx)
        have xl1 := KE.out.lt
        have xl2 := KO.out.lt
        have z1 := KE.out.frozen 0
        have z2 := KE.out.frozen 1
        have z3 := KO.out.frozen 0
        have z4 := KO.out.frozen 1
        have y1 : x.w.cell? ⟨w.heap.size + 1 + 1, 0, none⟩ = some (.int .i64 (E.1 : Nat)) := KE.out.cell 0
        have y2 : x.w.cell? ⟨w.heap.size + 1 + 1, 1, none⟩ = some (.int .i64 (E.2 : Nat)) := KE.out.cell 1
        have y3 : x.w.cell? ⟨w.heap.size + 1 + 1 + 1, 0, none⟩ = some (.int .i64 (O.1 : Nat)) := KO.out.cell 0
        have y4 : x.w.cell? ⟨w.heap.size + 1 + 1 + 1, 1, none⟩ = some (.int .i64 (O.2 : Nat)) := KO.out.cell 1
        clear Q13a Q13b Q14a Q14b Q17a Q17b Q18a Q18b hx
        simp only [List.drop_succ_cons, List.drop_zero]
        go_wp2
        go_roundw
        case rel =>
          refine ⟨k + 1, accM.either (accM.both E V0) (accM.both O V1), accM.either (accM.both E V1) (accM.both O V0), by go_num, by omega, hide ?_, hide ?_, hide ?_, hide ?_, hide ?_, ?_⟩
          · rw [kids_succ, if_pos hp, kRun_snoc, HR.out]
            show kStep accM _ pr (E, O) k = _
            unfold kStep
            rw [HV0.out, HV1.out, either_comm O V0 E V1]
          · exact ((sc_put KE.out _ _).far (p := ⟨w.heap.size + 1 + 1 + 1, 0, none⟩) (by simp) _).far (p := ⟨w.heap.size + 1 + 1 + 1, 1, none⟩) (by simp) _
          · exact sc_put ((KO.out.far (p := ⟨w.heap.size + 1 + 1, 0, none⟩) (by simp) _).far (p := ⟨w.heap.size + 1 + 1, 1, none⟩) (by simp) _) _ _
          · exact (((HZ5.out.far (p := ⟨w.heap.size + 1 + 1, 0, none⟩) (by simp) _).far (p := ⟨w.heap.size + 1 + 1, 1, none⟩) (by simp) _).far (p := ⟨w.heap.size + 1 + 1 + 1, 0, none⟩) (by simp; try omega) _).far (p := ⟨w.heap.size + 1 + 1 + 1, 1, none⟩) (by simp; try omega) _
          · exact (((HX5.out.far (p := ⟨w.heap.size + 1 + 1, 0, none⟩) (by simp; omega) _).far (p := ⟨w.heap.size + 1 + 1, 1, none⟩) (by simp; omega) _).far (p := ⟨w.heap.size + 1 + 1 + 1, 0, none⟩) (by simp; omega) _).far (p := ⟨w.heap.size + 1 + 1 + 1, 1, none⟩) (by simp; omega) _
          · exact (((HW5.out.setCell (p := ⟨w.heap.size + 1 + 1, 0, none⟩) (by simp; omega) _).setCell (p := ⟨w.heap.size + 1 + 1, 1, none⟩) (by simp; omega) _).setCell (p := ⟨w.heap.size + 1 + 1 + 1, 0, none⟩) (by simp; try omega) _).setCell (p := ⟨w.heap.size + 1 + 1 + 1, 1, none⟩) (by simp; try omega) _
        case measure => simp [intOf]; omega
      · have hpe : (p k != (i : Int)) = true := by simpa using hp
        have hpe' : (p k == (i : Int)) = false := by simpa using hp
        go_wp2
        go_roundw
        case rel => exact ⟨k + 1, E, O, by go_num, by omega, hide (by rw [kids_succ, if_neg hp]; exact HR.out), HE, HO, HZ, HX, HW.out⟩
        case measure => simp [intOf]; omega
    · have hkn : k = n := by omega
      subst hkn
      obtain ⟨b, hb⟩ : ∃ b, L / 2 ^ i % 2 = b := ⟨_, rfl⟩
      have hb2 : b < 2 := by omega
      have hbt : ((L : Int) / 2 ^ i).tmod 2 = (b : Int) := by
        rw [← hb, Int.tmod_eq_emod_of_nonneg (Int.ediv_nonneg (by omega) (Int.le_of_lt (Int.pow_pos (by decide)))), ← pow_nat]
        rfl
      have c1 : wr.cell? ⟨w.heap.size, 1, none⟩ = some (.bool own) := HX.out.cell (by omega)
      have hwl : w.heap.size < wr.heap.size := by omega
      have y1 : wr.cell? ⟨w.heap.size + 1 + 1, 0, none⟩ = some (.int .i64 (E.1 : Nat)) := HE.out.cell 0
      have y2 : wr.cell? ⟨w.heap.size + 1 + 1, 1, none⟩ = some (.int .i64 (E.2 : Nat)) := HE.out.cell 1
      have y3 : wr.cell? ⟨w.heap.size + 1 + 1 + 1, 0, none⟩ = some (.int .i64 (O.1 : Nat)) := HO.out.cell 0
      have y4 : wr.cell? ⟨w.heap.size + 1 + 1 + 1, 1, none⟩ = some (.int .i64 (O.2 : Nat)) := HO.out.cell 1
      have y5 : wr.cell? ⟨w.heap.size + 1, 0, none⟩ = some (.int .i64 0) := HZ.out.cell 0
      have y6 : wr.cell? ⟨w.heap.size + 1, 1, none⟩ = some (.int .i64 0) := HZ.out.cell 1
      have z1 := HE.out.frozen 0
      have z2 := HE.out.frozen 1
      have z5 := HZ.out.frozen 0
      have z6 := HZ.out.frozen 1
      obtain ⟨⟨_, bE⟩, _, bO⟩ := HB.out.r i hi k hk pr hpr
      rw [HR.out] at bE bO
      dsimp only at bE bO
      have HF : Hid (st accM (kids p k) (dueB L own) k i pr ab = accM.both (1, pr) (if dueB L own i pr ab then O else E)) := hide (by
        rw [HB.out.fix accM i hi]
        unfold stOf
        rw [HR.out]
        rfl)
      have HDu : Hid (dueB L own i pr ab = decide ((b + ab + (if own then pr else 0)) % 2 = 1)) := hide (by unfold dueB; rw [hb])
      have HBt := hide hbt
      have HZE := hide (HB.out.rz i hi k hk pr hpr)
      have hwz := HW.out.size
      clear hak hb hbt
      cases own
      · have HDu2 : Hid (dueB L false i pr ab = decide ((b + ab) % 2 = 1)) := hide (by rw [HDu.out]; simp)
        clear HDu
        by_cases hd : (b + ab) % 2 = 1
        · have t1 : ((b : Int) + (ab : Int)) % 2 = 1 := by omega
          have ht := HBt.out
          by_cases h0 : 0 < (O.1 : Int)
          · skip
            go_upto_region 15 with (fail)
            have KE2 := sc_put HE.out (.int .i64 (O.1 : Nat)) (.int .i64 (O.2 : Nat))
            have HB2 := hide ((HW.out.setCell (p := ⟨w.heap.size + 1 + 1, 0, none⟩) (by simp; omega) (.int .i64 (O.1 : Nat))).setCell (p := ⟨w.heap.size + 1 + 1, 1, none⟩) (by simp; omega) (.int .i64 (O.2 : Nat)))
            have KZ2 := (HZ.out.far (p := ⟨w.heap.size + 1 + 1, 0, none⟩) (by simp) (.int .i64 (O.1 : Nat))).far (p := ⟨w.heap.size + 1 + 1, 1, none⟩) (by simp) (.int .i64 (O.2 : Nat))
            clear y1 y2 y3 y4 y5 y6 z1 z2 z5 z6
            generalize hW2 : (wr.setCell ⟨w.heap.size + 1 + 1, 0, none⟩ (.int .i64 (O.1 : Nat))).setCell ⟨w.heap.size + 1 + 1, 1, none⟩ (.int .i64 (O.2 : Nat)) = W2 at *
            have y1 : W2.cell? ⟨w.heap.size + 1 + 1, 0, none⟩ = some (.int .i64 (O.1 : Nat)) := KE2.cell 0
            have y2 : W2.cell? ⟨w.heap.size + 1 + 1, 1, none⟩ = some (.int .i64 (O.2 : Nat)) := KE2.cell 1
            have z1 := KE2.frozen 0
            have z2 := KE2.frozen 1
            have xl := KE2.lt
            have y5 : W2.cell? ⟨w.heap.size + 1, 0, none⟩ = some (.int .i64 0) := KZ2.cell 0
            have y6 : W2.cell? ⟨w.heap.size + 1, 1, none⟩ = some (.int .i64 0) := KZ2.cell 1
            have z5 := KZ2.frozen 0
            have z6 := KZ2.frozen 1
            have xz := KZ2.lt
            have HK2 := hide KE2
            have HKZ := hide KZ2
            clear KE2 KZ2
            go_wp2
            refine bodyPost_ret (v := .agg #[.int .i64 (O.1 : Nat), .int .i64 ((O.2 : Nat) + (pr : Nat))]) (by simp [results, Tryd.results90, go_sem, y5, y6]) rfl ⟨?_, ?_⟩
            · have e1 : accM.both (1, pr) O = (O.1, pr + O.2) := by
                have : O.1 ≠ 0 := by omega
                simp [accM, this]
              rw [HF.out, HDu2.out, if_pos (decide_eq_true hd), e1]
              dsimp only
              rw [Int.natCast_add, Int.add_comm (pr : Int)]
            · have hb := HB2.out
              go_grown
          · skip
            go_upto_region 15 with (fail)
            have KE2 := sc_put HE.out (.int .i64 (O.1 : Nat)) (.int .i64 (O.2 : Nat))
            have HB2 := hide ((HW.out.setCell (p := ⟨w.heap.size + 1 + 1, 0, none⟩) (by simp; omega) (.int .i64 (O.1 : Nat))).setCell (p := ⟨w.heap.size + 1 + 1, 1, none⟩) (by simp; omega) (.int .i64 (O.2 : Nat)))
            have KZ2 := (HZ.out.far (p := ⟨w.heap.size + 1 + 1, 0, none⟩) (by simp) (.int .i64 (O.1 : Nat))).far (p := ⟨w.heap.size + 1 + 1, 1, none⟩) (by simp) (.int .i64 (O.2 : Nat))
            clear y1 y2 y3 y4 y5 y6 z1 z2 z5 z6
            generalize hW2 : (wr.setCell ⟨w.heap.size + 1 + 1, 0, none⟩ (.int .i64 (O.1 : Nat))).setCell ⟨w.heap.size + 1 + 1, 1, none⟩ (.int .i64 (O.2 : Nat)) = W2 at *
            have y1 : W2.cell? ⟨w.heap.size + 1 + 1, 0, none⟩ = some (.int .i64 (O.1 : Nat)) := KE2.cell 0
            have y2 : W2.cell? ⟨w.heap.size + 1 + 1, 1, none⟩ = some (.int .i64 (O.2 : Nat)) := KE2.cell 1
            have z1 := KE2.frozen 0
            have z2 := KE2.frozen 1
            have xl := KE2.lt
            have y5 : W2.cell? ⟨w.heap.size + 1, 0, none⟩ = some (.int .i64 0) := KZ2.cell 0
            have y6 : W2.cell? ⟨w.heap.size + 1, 1, none⟩ = some (.int .i64 0) := KZ2.cell 1
            have z5 := KZ2.frozen 0
            have z6 := KZ2.frozen 1
            have xz := KZ2.lt
            have HK2 := hide KE2
            have HKZ := hide KZ2
            clear KE2 KZ2
            go_wp2
            refine bodyPost_ret (v := .agg #[.int .i64 (O.1 : Nat), .int .i64 (O.2 : Nat)]) (by simp [results, Tryd.results90, go_sem, y5, y6]) rfl ⟨?_, ?_⟩
            · have h1 : O.1 = 0 := by omega
              have hz := HZE.out
              rw [HR.out] at hz
              have h2 : O.2 = 0 := hz.2 h1
              have e1 : accM.both (1, pr) O = (0, 0) := by simp [accM, h1]
              rw [HF.out, HDu2.out, if_pos (decide_eq_true hd), e1, h1, h2]
            · have hb := HB2.out
              go_grown
        · have t1 : ((b : Int) + (ab : Int)) % 2 = 0 := by omega
          have ht := HBt.out
          by_cases h0 : 0 < (E.1 : Int)
          · skip
            have HB2 := HW
            go_wp2
            refine bodyPost_ret (v := .agg #[.int .i64 (E.1 : Nat), .int .i64 ((E.2 : Nat) + (pr : Nat))]) (by simp [results, Tryd.results90, go_sem, y5, y6]) rfl ⟨?_, ?_⟩
            · have e1 : accM.both (1, pr) E = (E.1, pr + E.2) := by
                have : E.1 ≠ 0 := by omega
                simp [accM, this]
              rw [HF.out, HDu2.out, if_neg (by simp [hd]), e1]
              dsimp only
              rw [Int.natCast_add, Int.add_comm (pr : Int)]
            · have hb := HB2.out
              go_grown
          · skip
            have HB2 := HW
            go_wp2
            refine bodyPost_ret (v := .agg #[.int .i64 (E.1 : Nat), .int .i64 (E.2 : Nat)]) (by simp [results, Tryd.results90, go_sem, y5, y6]) rfl ⟨?_, ?_⟩
            · have h1 : E.1 = 0 := by omega
              have hz := HZE.out
              rw [HR.out] at hz
              have h2 : E.2 = 0 := hz.1 h1
              have e1 : accM.both (1, pr) E = (0, 0) := by simp [accM, h1]
              rw [HF.out, HDu2.out, if_neg (by simp [hd]), e1, h1, h2]
            · have hb := HB2.out
              go_grown
      · have HDu2 : Hid (dueB L true i pr ab = decide ((b + ab + pr) % 2 = 1)) := hide (by rw [HDu.out]; simp)
        clear HDu
        by_cases hd : (b + ab + pr) % 2 = 1
        · have t1 : ((b : Int) + (ab : Int) + (pr : Int)) % 2 = 1 := by omega
          have ht := HBt.out
          by_cases h0 : 0 < (O.1 : Int)
          · skip
            go_upto_region 15 with (fail)
            have KE2 := sc_put HE.out (.int .i64 (O.1 : Nat)) (.int .i64 (O.2 : Nat))
            have HB2 := hide ((HW.out.setCell (p := ⟨w.heap.size + 1 + 1, 0, none⟩) (by simp; omega) (.int .i64 (O.1 : Nat))).setCell (p := ⟨w.heap.size + 1 + 1, 1, none⟩) (by simp; omega) (.int .i64 (O.2 : Nat)))
            have KZ2 := (HZ.out.far (p := ⟨w.heap.size + 1 + 1, 0, none⟩) (by simp) (.int .i64 (O.1 : Nat))).far (p := ⟨w.heap.size + 1 + 1, 1, none⟩) (by simp) (.int .i64 (O.2 : Nat))
            clear y1 y2 y3 y4 y5 y6 z1 z2 z5 z6
            generalize hW2 : (wr.setCell ⟨w.heap.size + 1 + 1, 0, none⟩ (.int .i64 (O.1 : Nat))).setCell ⟨w.heap.size + 1 + 1, 1, none⟩ (.int .i64 (O.2 : Nat)) = W2 at *
            have y1 : W2.cell? ⟨w.heap.size + 1 + 1, 0, none⟩ = some (.int .i64 (O.1 : Nat)) := KE2.cell 0
            have y2 : W2.cell? ⟨w.heap.size + 1 + 1, 1, none⟩ = some (.int .i64 (O.2 : Nat)) := KE2.cell 1
            have z1 := KE2.frozen 0
            have z2 := KE2.frozen 1
            have xl := KE2.lt
            have y5 : W2.cell? ⟨w.heap.size + 1, 0, none⟩ = some (.int .i64 0) := KZ2.cell 0
            have y6 : W2.cell? ⟨w.heap.size + 1, 1, none⟩ = some (.int .i64 0) := KZ2.cell 1
            have z5 := KZ2.frozen 0
            have z6 := KZ2.frozen 1
            have xz := KZ2.lt
            have HK2 := hide KE2
            have HKZ := hide KZ2
            clear KE2 KZ2
            go_wp2
            refine bodyPost_ret (v := .agg #[.int .i64 (O.1 : Nat), .int .i64 ((O.2 : Nat) + (pr : Nat))]) (by simp [results, Tryd.results90, go_sem, y5, y6]) rfl ⟨?_, ?_⟩
            · have e1 : accM.both (1, pr) O = (O.1, pr + O.2) := by
                have : O.1 ≠ 0 := by omega
                simp [accM, this]
              rw [HF.out, HDu2.out, if_pos (decide_eq_true hd), e1]
              dsimp only
              rw [Int.natCast_add, Int.add_comm (pr : Int)]
            · have hb := HB2.out
              go_grown
          · skip
            go_upto_region 15 with (fail)
            have KE2 := sc_put HE.out (.int .i64 (O.1 : Nat)) (.int .i64 (O.2 : Nat))
            have HB2 := hide ((HW.out.setCell (p := ⟨w.heap.size + 1 + 1, 0, none⟩) (by simp; omega) (.int .i64 (O.1 : Nat))).setCell (p := ⟨w.heap.size + 1 + 1, 1, none⟩) (by simp; omega) (.int .i64 (O.2 : Nat)))
            have KZ2 := (HZ.out.far (p := ⟨w.heap.size + 1 + 1, 0, none⟩) (by simp) (.int .i64 (O.1 : Nat))).far (p := ⟨w.heap.size + 1 + 1, 1, none⟩) (by simp) (.int .i64 (O.2 : Nat))
            clear y1 y2 y3 y4 y5 y6 z1 z2 z5 z6
            generalize hW2 : (wr.setCell ⟨w.heap.size + 1 + 1, 0, none⟩ (.int .i64 (O.1 : Nat))).setCell ⟨w.heap.size + 1 + 1, 1, none⟩ (.int .i64 (O.2 : Nat)) = W2 at *
            have y1 : W2.cell? ⟨w.heap.size + 1 + 1, 0, none⟩ = some (.int .i64 (O.1 : Nat)) := KE2.cell 0
            have y2 : W2.cell? ⟨w.heap.size + 1 + 1, 1, none⟩ = some (.int .i64 (O.2 : Nat)) := KE2.cell 1
            have z1 := KE2.frozen 0
            have z2 := KE2.frozen 1
            have xl := KE2.lt
            have y5 : W2.cell? ⟨w.heap.size + 1, 0, none⟩ = some (.int .i64 0) := KZ2.cell 0
            have y6 : W2.cell? ⟨w.heap.size + 1, 1, none⟩ = some (.int .i64 0) := KZ2.cell 1
            have z5 := KZ2.frozen 0
            have z6 := KZ2.frozen 1
            have xz := KZ2.lt
            have HK2 := hide KE2
            have HKZ := hide KZ2
            clear KE2 KZ2
            go_wp2
            refine bodyPost_ret (v := .agg #[.int .i64 (O.1 : Nat), .int .i64 (O.2 : Nat)]) (by simp [results, Tryd.results90, go_sem, y5, y6]) rfl ⟨?_, ?_⟩
            · have h1 : O.1 = 0 := by omega
              have hz := HZE.out
              rw [HR.out] at hz
              have h2 : O.2 = 0 := hz.2 h1
              have e1 : accM.both (1, pr) O = (0, 0) := by simp [accM, h1]
              rw [HF.out, HDu2.out, if_pos (decide_eq_true hd), e1, h1, h2]
            · have hb := HB2.out
              go_grown
        · have t1 : ((b : Int) + (ab : Int) + (pr : Int)) % 2 = 0 := by omega
          have ht := HBt.out
          by_cases h0 : 0 < (E.1 : Int)
          · skip
            have HB2 := HW
            go_wp2
            refine bodyPost_ret (v := .agg #[.int .i64 (E.1 : Nat), .int .i64 ((E.2 : Nat) + (pr : Nat))]) (by simp [results, Tryd.results90, go_sem, y5, y6]) rfl ⟨?_, ?_⟩
            · have e1 : accM.both (1, pr) E = (E.1, pr + E.2) := by
                have : E.1 ≠ 0 := by omega
                simp [accM, this]
              rw [HF.out, HDu2.out, if_neg (by simp [hd]), e1]
              dsimp only
              rw [Int.natCast_add, Int.add_comm (pr : Int)]
            · have hb := HB2.out
              go_grown
          · skip
            have HB2 := HW
            go_wp2
            refine bodyPost_ret (v := .agg #[.int .i64 (E.1 : Nat), .int .i64 (E.2 : Nat)]) (by simp [results, Tryd.results90, go_sem, y5, y6]) rfl ⟨?_, ?_⟩
            · have h1 : E.1 = 0 := by omega
              have hz := HZE.out
              rw [HR.out] at hz
              have h2 : E.2 = 0 := hz.1 h1
              have e1 : accM.both (1, pr) E = (0, 0) := by simp [accM, h1]
              rw [HF.out, HDu2.out, if_neg (by simp [hd]), e1, h1, h2]
            · have hb := HB2.out
              go_grown
theorem trBelow_any (A : Option Addr) (m c gp cp n L : Nat) (own : Bool) (p : Nat → Int) (hn : n ≤ 16) (hL : L < 65536) (hB : Bnd p n (dueB L own)) (r : Nat → Nat) (hr : ∀ i, ∀ j ∈ kids p n i, r j < r i) :
    ∀ (f i : Nat), r i < f → i < n → BelowOk (.slice A m c) own n gp cp L p i := by
  intro f
  induction f with
  | zero => intro i h; omega
  | succ f ih =>
    intro i h hi pr ab w hpr hab ha
    exact trBelow_step A m c gp cp n L i pr ab own p w hn hL hi hpr hab hB ha fun j hj => ih j (by have := hr i j hj; omega) (kids_mem.1 hj).1
end Go.Proofs.YtmcimfblhpflnaaDoor
