/-
The law of paths and circles, case by case.
-/
import Derived.Test.YtibikoajejfdeaaPV
import Derived.Test.YtibikoajejfdeaaDP
namespace Go.Proofs.Ytibikoajejfdeaa
open Go.RowKit
set_option maxHeartbeats 4000000
set_option maxRecDepth 100000
/-- A call that leaves memory as it was. -/
theorem BW {P : Program} {f : FuncId} {args : Array Value} {w : World} {r : Ending} (h : Calls P f args w fun e w' => e = r ∧ w' = w) : Calls P f args w fun e w' => e = r ∧ Below w.heap.size w w' :=
  h.mono fun _ _ ⟨h1, h2⟩ => ⟨h1, by rw [h2]; exact Below.refl _ _⟩
theorem pathN_impl (n : Nat) (own : Bool) (w : World) (v : Nat) (hv : pnN n own = v) (h : inB n 1 1000000 = true) : Calls Try.prog 6 #[.int .i64 (n : Nat), .bool own] w fun e w' => e = .returned (.tuple #[.int .i64 (v : Nat), .bool true]) ∧ w' = w := by
  have e : pnV n own = ((v : Nat) : Int) := by rw [← hv]; cases own <;> simp [pnV, pnN]
  rw [← e]
  exact pathOk_impl n own w h
theorem pathN_spec (n : Nat) (own : Bool) (w : World) (v : Nat) (hv : pnN n own = v) (h : inB n 1 1000000 = true) : Calls Try.prog 7 #[.int .i64 (n : Nat), .bool own] w fun e w' => e = .returned (.tuple #[.int .i64 (v : Nat), .bool true]) ∧ w' = w := by
  have e : pnV n own = ((v : Nat) : Int) := by rw [← hv]; cases own <;> simp [pnV, pnN]
  rw [← e]
  exact pathOk_spec n own w h
theorem cn_e (n : Nat) (own : Bool) : cnV n own = ((cnN n own : Nat) : Int) := by
  cases own
  · simp [cnV, cnN]
  · by_cases h : n % 3 = 0
    · simp [cnV, cnN, h]
    · simp [cnV, cnN, h]
theorem circleN_impl (n : Nat) (own : Bool) (w : World) (v : Nat) (hv : cnN n own = v) (h : inB n 3 1000000 = true) : Calls Try.prog 9 #[.int .i64 (n : Nat), .bool own] w fun e w' => e = .returned (.tuple #[.int .i64 (v : Nat), .bool true]) ∧ w' = w := by
  rw [← hv, ← cn_e]
  exact circleOk_impl n own w h
theorem circleN_spec (n : Nat) (own : Bool) (w : World) (v : Nat) (hv : cnN n own = v) (h : inB n 3 1000000 = true) : Calls Try.prog 10 #[.int .i64 (n : Nat), .bool own] w fun e w' => e = .returned (.tuple #[.int .i64 (v : Nat), .bool true]) ∧ w' = w := by
  rw [← hv, ← cn_e]
  exact circleOk_spec n own w h
theorem nullityV (g n c : Nat) (F : Nat → Nat) (own : Bool) (v : Nat) (w : World) (hn : n ≤ 16) (hG : goodB n (nv F) = true) (h2 : ∀ k, k < n → F k < 2 ^ n) (hv : (qS (tog F own) n n).1.length = v) (ha : Arr w 3 g n (iv (nv F))) :
    Calls Try.prog 12 #[.agg #[.slice (some ⟨g, 0, none⟩) n c, .bool own]] w fun e w' => e = .returned (.tuple #[.int .i64 (v : Nat), .bool true]) ∧ Below w.heap.size w w' := by
  rw [← hv]
  exact nullityOf_any g n c F own w hn hG h2 ha
theorem gridV (r c : Nat) (a b : Nat) (own : Bool) (v : Nat) (w : World) (ea : a = r) (eb : b = c) (hr : r ≤ 40) (hc : c ≤ 40) (hr1 : 1 ≤ r) (hc1 : 1 ≤ c) (hv : T.gn r c own = v) :
    Calls Try.prog 14 #[.int .i64 (a : Nat), .int .i64 (b : Nat), .bool own] w fun e w' => e = .returned (.tuple #[.int .i64 (v : Nat), .bool true]) ∧ Below w.heap.size w w' := by
  subst ea eb
  rw [← hv]
  exact T.gnImpl_ok a b own w hr hc (hide (by simp [inB]; omega)) (hide (by simp [inB]; omega))
theorem in_nat1 {a : Int} (h : inB a 1 1000000 = true) : ∃ n : Nat, a = (n : Int) ∧ 1 ≤ n ∧ n ≤ 1000000 := by
  simp only [inB, decide_eq_true_eq] at h
  exact ⟨a.toNat, by omega, by omega, by omega⟩
theorem in_nat3 {a : Int} (h : inB a 3 1000000 = true) : ∃ n : Nat, a = (n : Int) ∧ 3 ≤ n ∧ n ≤ 1000000 := by
  simp only [inB, decide_eq_true_eq] at h
  exact ⟨a.toNat, by omega, by omega, by omega⟩
theorem lawPC_no (A A' : Option Addr) (n c n' c' : Nat) (f f' : Nat → Int) (w : World) (hn : n ≤ 1048576) (hn' : n' ≤ 1048576 - n) (HS_A : Hid (Src w A n (uv f))) (HS_B : Hid (Src w A' n' (uv f'))) (HF_A : Hid (∀ k, k < n → 0 ≤ f k ∧ f k < 256)) (HF_B : Hid (∀ k, k < n' → 0 ≤ f' k ∧ f' k < 256)) :
    Calls Try.prog 3 #[.slice A n c, .slice A' n' c'] w fun e w' => e = .returned (.bool true) ∧ Below w.heap.size w w' := by
  go_enter Try.func3, Try.ntmps3
  go_wp2_with fail
  refine (BW ((big_no A A' n c n' c' _ hn hn').mono (fun _ _ h => ⟨h.1, h.2.symm⟩))).mono ?_
  rintro e w1 ⟨rfl, hb1⟩
  have hs1 : Below w.heap.size w w1 := (by go_grown : Below w.heap.size w _).trans (hb1.mono (by go_size))
  have HW1 := hide hs1
  clear hs1 hb1
  go_wp2_with fail
  refine (drawPath_any _ _ _ f _ hn (HS_A.out.below HW1.out) HF_A.out).mono ?_
  rintro e w2 ⟨a1, b1, rfl, hb2⟩
  have hs2 : Below w1.heap.size w1 w2 := (by go_grown : Below w1.heap.size w1 _).trans (hb2.mono (by go_size))
  have HW2 := hide (HW1.out.trans (hs2.mono HW1.out.size))
  clear hs2 hb2
  cases HP : inB a1 1 1000000
  · have HP := hide HP
    go_wp2_with fail
    refine (BW (pathNo_impl a1 b1 _ HP.out)).mono ?_
    rintro e w3 ⟨rfl, hb3⟩
    have hs3 : Below w2.heap.size w2 w3 := (by go_grown : Below w2.heap.size w2 _).trans (hb3.mono (by go_size))
    have HW3 := hide (HW2.out.trans (hs3.mono HW2.out.size))
    clear hs3 hb3
    go_wp2_with fail
    refine (BW (pathNo_spec a1 b1 _ HP.out)).mono ?_
    rintro e w4 ⟨rfl, hb4⟩
    have hs4 : Below w3.heap.size w3 w4 := (by go_grown : Below w3.heap.size w3 _).trans (hb4.mono (by go_size))
    have HW4 := hide (HW3.out.trans (hs4.mono HW3.out.size))
    clear hs4 hb4
    go_wp2_with fail
    refine (drawCircle_any _ _ _ f' _ (by omega) (HS_B.out.below HW4.out) HF_B.out).mono ?_
    rintro e w5 ⟨a2, b2, rfl, hb5⟩
    have hs5 : Below w4.heap.size w4 w5 := (by go_grown : Below w4.heap.size w4 _).trans (hb5.mono (by go_size))
    have HW5 := hide (HW4.out.trans (hs5.mono HW4.out.size))
    clear hs5 hb5
    cases HC : inB a2 3 1000000
    · have HC := hide HC
      go_wp2_with fail
      refine (BW (circleNo_impl a2 b2 _ HC.out)).mono ?_
      rintro e w6 ⟨rfl, hb6⟩
      have hs6 : Below w5.heap.size w5 w6 := (by go_grown : Below w5.heap.size w5 _).trans (hb6.mono (by go_size))
      have HW6 := hide (HW5.out.trans (hs6.mono HW5.out.size))
      clear hs6 hb6
      go_wp2_with fail
      refine (BW (circleNo_spec a2 b2 _ HC.out)).mono ?_
      rintro e w7 ⟨rfl, hb7⟩
      have hs7 : Below w6.heap.size w6 w7 := (by go_grown : Below w6.heap.size w6 _).trans (hb7.mono (by go_size))
      have HW7 := hide (HW6.out.trans (hs7.mono HW6.out.size))
      clear hs7 hb7
      go_wp2
      go_ret
      exact ⟨rfl, by have h := HW7.out; have hz := h.size; go_grown⟩
    · obtain ⟨n2, rfl, hc3, hcm⟩ := in_nat3 HC
      have HC := hide HC
      obtain ⟨cv, HCV⟩ : ∃ v, Hid (cnN n2 b2 = v) := ⟨_, rfl⟩
      go_wp2_with fail
      refine (BW (circleN_impl n2 b2 _ cv HCV.out HC.out)).mono ?_
      rintro e w6 ⟨rfl, hb6⟩
      have hs6 : Below w5.heap.size w5 w6 := (by go_grown : Below w5.heap.size w5 _).trans (hb6.mono (by go_size))
      have HW6 := hide (HW5.out.trans (hs6.mono HW5.out.size))
      clear hs6 hb6
      go_wp2_with fail
      refine (BW (circleN_spec n2 b2 _ cv HCV.out HC.out)).mono ?_
      rintro e w7 ⟨rfl, hb7⟩
      have hs7 : Below w6.heap.size w6 w7 := (by go_grown : Below w6.heap.size w6 _).trans (hb7.mono (by go_size))
      have HW7 := hide (HW6.out.trans (hs7.mono HW6.out.size))
      clear hs7 hb7
      by_cases hc16 : n2 ≤ 16
      · skip
        go_wp2_with fail
        refine (circleImpl_ok n2 b2 _ hc3 hc16).mono ?_
        rintro e w8 ⟨g7, c7, rfl, lo7, ha7, hb8⟩
        have HA7 := hide ha7
        clear ha7 lo7
        have hs8 : Below w7.heap.size w7 w8 := (by go_grown : Below w7.heap.size w7 _).trans (hb8.mono (by go_size))
        have HW8 := hide (HW7.out.trans (hs8.mono HW7.out.size))
        clear hs8 hb8
        go_wp2_with fail
        refine (nullityV _ n2 _ _ b2 cv _ hc16 (goodC_good (by omega) hc16 (ring_facts hc3 hc16).1) (goodC_lt (ring_facts hc3 hc16).1) (by rw [(ring_facts hc3 hc16).2]; exact HCV.out) (HA7.out.alloc _)).mono ?_
        rintro e w9 ⟨rfl, hb9⟩
        have hs9 : Below w8.heap.size w8 w9 := (by go_grown : Below w8.heap.size w8 _).trans (hb9.mono (by go_size))
        have HW9 := hide (HW8.out.trans (hs9.mono HW8.out.size))
        clear hs9 hb9
        go_wp2
        go_ret
        exact ⟨rfl, by have h := HW9.out; have hz := h.size; go_grown⟩
      · skip
        go_wp2
        go_ret
        exact ⟨rfl, by have h := HW7.out; have hz := h.size; go_grown⟩
  · obtain ⟨n1, rfl, hp1, hpm⟩ := in_nat1 HP
    have HP := hide HP
    obtain ⟨pv, HPV⟩ : ∃ v, Hid (pnN n1 b1 = v) := ⟨_, rfl⟩
    go_wp2_with fail
    refine (BW (pathN_impl n1 b1 _ pv HPV.out HP.out)).mono ?_
    rintro e w3 ⟨rfl, hb3⟩
    have hs3 : Below w2.heap.size w2 w3 := (by go_grown : Below w2.heap.size w2 _).trans (hb3.mono (by go_size))
    have HW3 := hide (HW2.out.trans (hs3.mono HW2.out.size))
    clear hs3 hb3
    go_wp2_with fail
    refine (BW (pathN_spec n1 b1 _ pv HPV.out HP.out)).mono ?_
    rintro e w4 ⟨rfl, hb4⟩
    have hs4 : Below w3.heap.size w3 w4 := (by go_grown : Below w3.heap.size w3 _).trans (hb4.mono (by go_size))
    have HW4 := hide (HW3.out.trans (hs4.mono HW3.out.size))
    clear hs4 hb4
    by_cases hp16 : n1 ≤ 16
    · skip
      go_wp2_with fail
      refine (drawCircle_any _ _ _ f' _ (by omega) (HS_B.out.below HW4.out) HF_B.out).mono ?_
      rintro e w5 ⟨a2, b2, rfl, hb5⟩
      have hs5 : Below w4.heap.size w4 w5 := (by go_grown : Below w4.heap.size w4 _).trans (hb5.mono (by go_size))
      have HW5 := hide (HW4.out.trans (hs5.mono HW4.out.size))
      clear hs5 hb5
      cases HC : inB a2 3 1000000
      · have HC := hide HC
        go_wp2_with fail
        refine (BW (circleNo_impl a2 b2 _ HC.out)).mono ?_
        rintro e w6 ⟨rfl, hb6⟩
        have hs6 : Below w5.heap.size w5 w6 := (by go_grown : Below w5.heap.size w5 _).trans (hb6.mono (by go_size))
        have HW6 := hide (HW5.out.trans (hs6.mono HW5.out.size))
        clear hs6 hb6
        go_wp2_with fail
        refine (BW (circleNo_spec a2 b2 _ HC.out)).mono ?_
        rintro e w7 ⟨rfl, hb7⟩
        have hs7 : Below w6.heap.size w6 w7 := (by go_grown : Below w6.heap.size w6 _).trans (hb7.mono (by go_size))
        have HW7 := hide (HW6.out.trans (hs7.mono HW6.out.size))
        clear hs7 hb7
        go_wp2_with fail
        refine (pathImpl_ok n1 b1 _ hp1 hp16).mono ?_
        rintro e w8 ⟨g9, c9, rfl, lo9, ha9, hb8⟩
        have HA9 := hide ha9
        clear ha9 lo9
        have hs8 : Below w7.heap.size w7 w8 := (by go_grown : Below w7.heap.size w7 _).trans (hb8.mono (by go_size))
        have HW8 := hide (HW7.out.trans (hs8.mono HW7.out.size))
        clear hs8 hb8
        go_wp2_with fail
        refine (nullityV _ n1 _ _ b1 pv _ hp16 (goodC_good hp1 hp16 (path_facts hp1 hp16).1) (goodC_lt (path_facts hp1 hp16).1) (by rw [(path_facts hp1 hp16).2]; exact HPV.out) (HA9.out.alloc _)).mono ?_
        rintro e w9 ⟨rfl, hb9⟩
        have hs9 : Below w8.heap.size w8 w9 := (by go_grown : Below w8.heap.size w8 _).trans (hb9.mono (by go_size))
        have HW9 := hide (HW8.out.trans (hs9.mono HW8.out.size))
        clear hs9 hb9
        go_wp2_with fail
        refine (gridV n1 1 n1 1 b1 pv _ rfl rfl (by omega) (by omega) hp1 (by omega) (by rw [(grids_line hp1 (by omega) b1).1]; exact HPV.out)).mono ?_
        rintro e w10 ⟨rfl, hb10⟩
        have hs10 : Below w9.heap.size w9 w10 := (by go_grown : Below w9.heap.size w9 _).trans (hb10.mono (by go_size))
        have HW10 := hide (HW9.out.trans (hs10.mono HW9.out.size))
        clear hs10 hb10
        go_wp2_with fail
        refine (gridV 1 n1 1 n1 b1 pv _ rfl rfl (by omega) (by omega) (by omega) hp1 (by rw [(grids_line hp1 (by omega) b1).2]; exact HPV.out)).mono ?_
        rintro e w11 ⟨rfl, hb11⟩
        have hs11 : Below w10.heap.size w10 w11 := (by go_grown : Below w10.heap.size w10 _).trans (hb11.mono (by go_size))
        have HW11 := hide (HW10.out.trans (hs11.mono HW10.out.size))
        clear hs11 hb11
        go_wp2
        go_ret
        exact ⟨rfl, by have h := HW11.out; have hz := h.size; go_grown⟩
      · obtain ⟨n2, rfl, hc3, hcm⟩ := in_nat3 HC
        have HC := hide HC
        obtain ⟨cv, HCV⟩ : ∃ v, Hid (cnN n2 b2 = v) := ⟨_, rfl⟩
        go_wp2_with fail
        refine (BW (circleN_impl n2 b2 _ cv HCV.out HC.out)).mono ?_
        rintro e w6 ⟨rfl, hb6⟩
        have hs6 : Below w5.heap.size w5 w6 := (by go_grown : Below w5.heap.size w5 _).trans (hb6.mono (by go_size))
        have HW6 := hide (HW5.out.trans (hs6.mono HW5.out.size))
        clear hs6 hb6
        go_wp2_with fail
        refine (BW (circleN_spec n2 b2 _ cv HCV.out HC.out)).mono ?_
        rintro e w7 ⟨rfl, hb7⟩
        have hs7 : Below w6.heap.size w6 w7 := (by go_grown : Below w6.heap.size w6 _).trans (hb7.mono (by go_size))
        have HW7 := hide (HW6.out.trans (hs7.mono HW6.out.size))
        clear hs7 hb7
        by_cases hc16 : n2 ≤ 16
        · skip
          go_wp2_with fail
          refine (circleImpl_ok n2 b2 _ hc3 hc16).mono ?_
          rintro e w8 ⟨g7, c7, rfl, lo7, ha7, hb8⟩
          have HA7 := hide ha7
          clear ha7 lo7
          have hs8 : Below w7.heap.size w7 w8 := (by go_grown : Below w7.heap.size w7 _).trans (hb8.mono (by go_size))
          have HW8 := hide (HW7.out.trans (hs8.mono HW7.out.size))
          clear hs8 hb8
          go_wp2_with fail
          refine (nullityV _ n2 _ _ b2 cv _ hc16 (goodC_good (by omega) hc16 (ring_facts hc3 hc16).1) (goodC_lt (ring_facts hc3 hc16).1) (by rw [(ring_facts hc3 hc16).2]; exact HCV.out) (HA7.out.alloc _)).mono ?_
          rintro e w9 ⟨rfl, hb9⟩
          have hs9 : Below w8.heap.size w8 w9 := (by go_grown : Below w8.heap.size w8 _).trans (hb9.mono (by go_size))
          have HW9 := hide (HW8.out.trans (hs9.mono HW8.out.size))
          clear hs9 hb9
          go_wp2_with fail
          refine (pathImpl_ok n1 b1 _ hp1 hp16).mono ?_
          rintro e w10 ⟨g9, c9, rfl, lo9, ha9, hb10⟩
          have HA9 := hide ha9
          clear ha9 lo9
          have hs10 : Below w9.heap.size w9 w10 := (by go_grown : Below w9.heap.size w9 _).trans (hb10.mono (by go_size))
          have HW10 := hide (HW9.out.trans (hs10.mono HW9.out.size))
          clear hs10 hb10
          go_wp2_with fail
          refine (nullityV _ n1 _ _ b1 pv _ hp16 (goodC_good hp1 hp16 (path_facts hp1 hp16).1) (goodC_lt (path_facts hp1 hp16).1) (by rw [(path_facts hp1 hp16).2]; exact HPV.out) (HA9.out.alloc _)).mono ?_
          rintro e w11 ⟨rfl, hb11⟩
          have hs11 : Below w10.heap.size w10 w11 := (by go_grown : Below w10.heap.size w10 _).trans (hb11.mono (by go_size))
          have HW11 := hide (HW10.out.trans (hs11.mono HW10.out.size))
          clear hs11 hb11
          go_wp2_with fail
          refine (gridV n1 1 n1 1 b1 pv _ rfl rfl (by omega) (by omega) hp1 (by omega) (by rw [(grids_line hp1 (by omega) b1).1]; exact HPV.out)).mono ?_
          rintro e w12 ⟨rfl, hb12⟩
          have hs12 : Below w11.heap.size w11 w12 := (by go_grown : Below w11.heap.size w11 _).trans (hb12.mono (by go_size))
          have HW12 := hide (HW11.out.trans (hs12.mono HW11.out.size))
          clear hs12 hb12
          go_wp2_with fail
          refine (gridV 1 n1 1 n1 b1 pv _ rfl rfl (by omega) (by omega) (by omega) hp1 (by rw [(grids_line hp1 (by omega) b1).2]; exact HPV.out)).mono ?_
          rintro e w13 ⟨rfl, hb13⟩
          have hs13 : Below w12.heap.size w12 w13 := (by go_grown : Below w12.heap.size w12 _).trans (hb13.mono (by go_size))
          have HW13 := hide (HW12.out.trans (hs13.mono HW12.out.size))
          clear hs13 hb13
          go_wp2
          go_ret
          exact ⟨rfl, by have h := HW13.out; have hz := h.size; go_grown⟩
        · skip
          go_wp2_with fail
          refine (pathImpl_ok n1 b1 _ hp1 hp16).mono ?_
          rintro e w8 ⟨g9, c9, rfl, lo9, ha9, hb8⟩
          have HA9 := hide ha9
          clear ha9 lo9
          have hs8 : Below w7.heap.size w7 w8 := (by go_grown : Below w7.heap.size w7 _).trans (hb8.mono (by go_size))
          have HW8 := hide (HW7.out.trans (hs8.mono HW7.out.size))
          clear hs8 hb8
          go_wp2_with fail
          refine (nullityV _ n1 _ _ b1 pv _ hp16 (goodC_good hp1 hp16 (path_facts hp1 hp16).1) (goodC_lt (path_facts hp1 hp16).1) (by rw [(path_facts hp1 hp16).2]; exact HPV.out) (HA9.out.alloc _)).mono ?_
          rintro e w9 ⟨rfl, hb9⟩
          have hs9 : Below w8.heap.size w8 w9 := (by go_grown : Below w8.heap.size w8 _).trans (hb9.mono (by go_size))
          have HW9 := hide (HW8.out.trans (hs9.mono HW8.out.size))
          clear hs9 hb9
          go_wp2_with fail
          refine (gridV n1 1 n1 1 b1 pv _ rfl rfl (by omega) (by omega) hp1 (by omega) (by rw [(grids_line hp1 (by omega) b1).1]; exact HPV.out)).mono ?_
          rintro e w10 ⟨rfl, hb10⟩
          have hs10 : Below w9.heap.size w9 w10 := (by go_grown : Below w9.heap.size w9 _).trans (hb10.mono (by go_size))
          have HW10 := hide (HW9.out.trans (hs10.mono HW9.out.size))
          clear hs10 hb10
          go_wp2_with fail
          refine (gridV 1 n1 1 n1 b1 pv _ rfl rfl (by omega) (by omega) (by omega) hp1 (by rw [(grids_line hp1 (by omega) b1).2]; exact HPV.out)).mono ?_
          rintro e w11 ⟨rfl, hb11⟩
          have hs11 : Below w10.heap.size w10 w11 := (by go_grown : Below w10.heap.size w10 _).trans (hb11.mono (by go_size))
          have HW11 := hide (HW10.out.trans (hs11.mono HW10.out.size))
          clear hs11 hb11
          go_wp2
          go_ret
          exact ⟨rfl, by have h := HW11.out; have hz := h.size; go_grown⟩
    · by_cases hp40 : n1 ≤ 40
      · skip
        go_wp2_with fail
        refine (drawCircle_any _ _ _ f' _ (by omega) (HS_B.out.below HW4.out) HF_B.out).mono ?_
        rintro e w5 ⟨a2, b2, rfl, hb5⟩
        have hs5 : Below w4.heap.size w4 w5 := (by go_grown : Below w4.heap.size w4 _).trans (hb5.mono (by go_size))
        have HW5 := hide (HW4.out.trans (hs5.mono HW4.out.size))
        clear hs5 hb5
        cases HC : inB a2 3 1000000
        · have HC := hide HC
          go_wp2_with fail
          refine (BW (circleNo_impl a2 b2 _ HC.out)).mono ?_
          rintro e w6 ⟨rfl, hb6⟩
          have hs6 : Below w5.heap.size w5 w6 := (by go_grown : Below w5.heap.size w5 _).trans (hb6.mono (by go_size))
          have HW6 := hide (HW5.out.trans (hs6.mono HW5.out.size))
          clear hs6 hb6
          go_wp2_with fail
          refine (BW (circleNo_spec a2 b2 _ HC.out)).mono ?_
          rintro e w7 ⟨rfl, hb7⟩
          have hs7 : Below w6.heap.size w6 w7 := (by go_grown : Below w6.heap.size w6 _).trans (hb7.mono (by go_size))
          have HW7 := hide (HW6.out.trans (hs7.mono HW6.out.size))
          clear hs7 hb7
          go_wp2_with fail
          refine (gridV n1 1 n1 1 b1 pv _ rfl rfl (by omega) (by omega) hp1 (by omega) (by rw [(grids_line hp1 (by omega) b1).1]; exact HPV.out)).mono ?_
          rintro e w8 ⟨rfl, hb8⟩
          have hs8 : Below w7.heap.size w7 w8 := (by go_grown : Below w7.heap.size w7 _).trans (hb8.mono (by go_size))
          have HW8 := hide (HW7.out.trans (hs8.mono HW7.out.size))
          clear hs8 hb8
          go_wp2_with fail
          refine (gridV 1 n1 1 n1 b1 pv _ rfl rfl (by omega) (by omega) (by omega) hp1 (by rw [(grids_line hp1 (by omega) b1).2]; exact HPV.out)).mono ?_
          rintro e w9 ⟨rfl, hb9⟩
          have hs9 : Below w8.heap.size w8 w9 := (by go_grown : Below w8.heap.size w8 _).trans (hb9.mono (by go_size))
          have HW9 := hide (HW8.out.trans (hs9.mono HW8.out.size))
          clear hs9 hb9
          go_wp2
          go_ret
          exact ⟨rfl, by have h := HW9.out; have hz := h.size; go_grown⟩
        · obtain ⟨n2, rfl, hc3, hcm⟩ := in_nat3 HC
          have HC := hide HC
          obtain ⟨cv, HCV⟩ : ∃ v, Hid (cnN n2 b2 = v) := ⟨_, rfl⟩
          go_wp2_with fail
          refine (BW (circleN_impl n2 b2 _ cv HCV.out HC.out)).mono ?_
          rintro e w6 ⟨rfl, hb6⟩
          have hs6 : Below w5.heap.size w5 w6 := (by go_grown : Below w5.heap.size w5 _).trans (hb6.mono (by go_size))
          have HW6 := hide (HW5.out.trans (hs6.mono HW5.out.size))
          clear hs6 hb6
          go_wp2_with fail
          refine (BW (circleN_spec n2 b2 _ cv HCV.out HC.out)).mono ?_
          rintro e w7 ⟨rfl, hb7⟩
          have hs7 : Below w6.heap.size w6 w7 := (by go_grown : Below w6.heap.size w6 _).trans (hb7.mono (by go_size))
          have HW7 := hide (HW6.out.trans (hs7.mono HW6.out.size))
          clear hs7 hb7
          by_cases hc16 : n2 ≤ 16
          · skip
            go_wp2_with fail
            refine (circleImpl_ok n2 b2 _ hc3 hc16).mono ?_
            rintro e w8 ⟨g7, c7, rfl, lo7, ha7, hb8⟩
            have HA7 := hide ha7
            clear ha7 lo7
            have hs8 : Below w7.heap.size w7 w8 := (by go_grown : Below w7.heap.size w7 _).trans (hb8.mono (by go_size))
            have HW8 := hide (HW7.out.trans (hs8.mono HW7.out.size))
            clear hs8 hb8
            go_wp2_with fail
            refine (nullityV _ n2 _ _ b2 cv _ hc16 (goodC_good (by omega) hc16 (ring_facts hc3 hc16).1) (goodC_lt (ring_facts hc3 hc16).1) (by rw [(ring_facts hc3 hc16).2]; exact HCV.out) (HA7.out.alloc _)).mono ?_
            rintro e w9 ⟨rfl, hb9⟩
            have hs9 : Below w8.heap.size w8 w9 := (by go_grown : Below w8.heap.size w8 _).trans (hb9.mono (by go_size))
            have HW9 := hide (HW8.out.trans (hs9.mono HW8.out.size))
            clear hs9 hb9
            go_wp2_with fail
            refine (gridV n1 1 n1 1 b1 pv _ rfl rfl (by omega) (by omega) hp1 (by omega) (by rw [(grids_line hp1 (by omega) b1).1]; exact HPV.out)).mono ?_
            rintro e w10 ⟨rfl, hb10⟩
            have hs10 : Below w9.heap.size w9 w10 := (by go_grown : Below w9.heap.size w9 _).trans (hb10.mono (by go_size))
            have HW10 := hide (HW9.out.trans (hs10.mono HW9.out.size))
            clear hs10 hb10
            go_wp2_with fail
            refine (gridV 1 n1 1 n1 b1 pv _ rfl rfl (by omega) (by omega) (by omega) hp1 (by rw [(grids_line hp1 (by omega) b1).2]; exact HPV.out)).mono ?_
            rintro e w11 ⟨rfl, hb11⟩
            have hs11 : Below w10.heap.size w10 w11 := (by go_grown : Below w10.heap.size w10 _).trans (hb11.mono (by go_size))
            have HW11 := hide (HW10.out.trans (hs11.mono HW10.out.size))
            clear hs11 hb11
            go_wp2
            go_ret
            exact ⟨rfl, by have h := HW11.out; have hz := h.size; go_grown⟩
          · skip
            go_wp2_with fail
            refine (gridV n1 1 n1 1 b1 pv _ rfl rfl (by omega) (by omega) hp1 (by omega) (by rw [(grids_line hp1 (by omega) b1).1]; exact HPV.out)).mono ?_
            rintro e w8 ⟨rfl, hb8⟩
            have hs8 : Below w7.heap.size w7 w8 := (by go_grown : Below w7.heap.size w7 _).trans (hb8.mono (by go_size))
            have HW8 := hide (HW7.out.trans (hs8.mono HW7.out.size))
            clear hs8 hb8
            go_wp2_with fail
            refine (gridV 1 n1 1 n1 b1 pv _ rfl rfl (by omega) (by omega) (by omega) hp1 (by rw [(grids_line hp1 (by omega) b1).2]; exact HPV.out)).mono ?_
            rintro e w9 ⟨rfl, hb9⟩
            have hs9 : Below w8.heap.size w8 w9 := (by go_grown : Below w8.heap.size w8 _).trans (hb9.mono (by go_size))
            have HW9 := hide (HW8.out.trans (hs9.mono HW8.out.size))
            clear hs9 hb9
            go_wp2
            go_ret
            exact ⟨rfl, by have h := HW9.out; have hz := h.size; go_grown⟩
      · skip
        go_wp2_with fail
        refine (drawCircle_any _ _ _ f' _ (by omega) (HS_B.out.below HW4.out) HF_B.out).mono ?_
        rintro e w5 ⟨a2, b2, rfl, hb5⟩
        have hs5 : Below w4.heap.size w4 w5 := (by go_grown : Below w4.heap.size w4 _).trans (hb5.mono (by go_size))
        have HW5 := hide (HW4.out.trans (hs5.mono HW4.out.size))
        clear hs5 hb5
        cases HC : inB a2 3 1000000
        · have HC := hide HC
          go_wp2_with fail
          refine (BW (circleNo_impl a2 b2 _ HC.out)).mono ?_
          rintro e w6 ⟨rfl, hb6⟩
          have hs6 : Below w5.heap.size w5 w6 := (by go_grown : Below w5.heap.size w5 _).trans (hb6.mono (by go_size))
          have HW6 := hide (HW5.out.trans (hs6.mono HW5.out.size))
          clear hs6 hb6
          go_wp2_with fail
          refine (BW (circleNo_spec a2 b2 _ HC.out)).mono ?_
          rintro e w7 ⟨rfl, hb7⟩
          have hs7 : Below w6.heap.size w6 w7 := (by go_grown : Below w6.heap.size w6 _).trans (hb7.mono (by go_size))
          have HW7 := hide (HW6.out.trans (hs7.mono HW6.out.size))
          clear hs7 hb7
          go_wp2
          go_ret
          exact ⟨rfl, by have h := HW7.out; have hz := h.size; go_grown⟩
        · obtain ⟨n2, rfl, hc3, hcm⟩ := in_nat3 HC
          have HC := hide HC
          obtain ⟨cv, HCV⟩ : ∃ v, Hid (cnN n2 b2 = v) := ⟨_, rfl⟩
          go_wp2_with fail
          refine (BW (circleN_impl n2 b2 _ cv HCV.out HC.out)).mono ?_
          rintro e w6 ⟨rfl, hb6⟩
          have hs6 : Below w5.heap.size w5 w6 := (by go_grown : Below w5.heap.size w5 _).trans (hb6.mono (by go_size))
          have HW6 := hide (HW5.out.trans (hs6.mono HW5.out.size))
          clear hs6 hb6
          go_wp2_with fail
          refine (BW (circleN_spec n2 b2 _ cv HCV.out HC.out)).mono ?_
          rintro e w7 ⟨rfl, hb7⟩
          have hs7 : Below w6.heap.size w6 w7 := (by go_grown : Below w6.heap.size w6 _).trans (hb7.mono (by go_size))
          have HW7 := hide (HW6.out.trans (hs7.mono HW6.out.size))
          clear hs7 hb7
          by_cases hc16 : n2 ≤ 16
          · skip
            go_wp2_with fail
            refine (circleImpl_ok n2 b2 _ hc3 hc16).mono ?_
            rintro e w8 ⟨g7, c7, rfl, lo7, ha7, hb8⟩
            have HA7 := hide ha7
            clear ha7 lo7
            have hs8 : Below w7.heap.size w7 w8 := (by go_grown : Below w7.heap.size w7 _).trans (hb8.mono (by go_size))
            have HW8 := hide (HW7.out.trans (hs8.mono HW7.out.size))
            clear hs8 hb8
            go_wp2_with fail
            refine (nullityV _ n2 _ _ b2 cv _ hc16 (goodC_good (by omega) hc16 (ring_facts hc3 hc16).1) (goodC_lt (ring_facts hc3 hc16).1) (by rw [(ring_facts hc3 hc16).2]; exact HCV.out) (HA7.out.alloc _)).mono ?_
            rintro e w9 ⟨rfl, hb9⟩
            have hs9 : Below w8.heap.size w8 w9 := (by go_grown : Below w8.heap.size w8 _).trans (hb9.mono (by go_size))
            have HW9 := hide (HW8.out.trans (hs9.mono HW8.out.size))
            clear hs9 hb9
            go_wp2
            go_ret
            exact ⟨rfl, by have h := HW9.out; have hz := h.size; go_grown⟩
          · skip
            go_wp2
            go_ret
            exact ⟨rfl, by have h := HW7.out; have hz := h.size; go_grown⟩
theorem lawPC_big (A A' : Option Addr) (n c n' c' : Nat) (w : World) (hn : n ≤ 9223372036854775807) (hn' : n' ≤ 9223372036854775807) (hb : 1048576 < n ∨ 1048576 - n < n') :
    Calls Try.prog 3 #[.slice A n c, .slice A' n' c'] w fun e w' => e = .returned (.bool true) ∧ Below w.heap.size w w' := by
  have HBG := hide hb
  clear hb
  go_enter Try.func3, Try.ntmps3
  go_wp2_with fail
  refine (big_yes A A' n c n' c' _ hn hn' HBG.out).mono ?_
  rintro e w1 ⟨rfl, rfl⟩
  go_wp2
  go_ret
  exact ⟨rfl, by go_grown⟩
theorem lawPC (A A' : Option Addr) (n c n' c' : Nat) (f f' : Nat → Int) (w : World) (hn : n ≤ 9223372036854775807) (hn' : n' ≤ 9223372036854775807) (hs : Src w A n (uv f)) (hs' : Src w A' n' (uv f')) (hf : ∀ k, k < n → 0 ≤ f k ∧ f k < 256) (hf' : ∀ k, k < n' → 0 ≤ f' k ∧ f' k < 256) :
    Calls Try.prog 3 #[.slice A n c, .slice A' n' c'] w fun e w' => e = .returned (.bool true) ∧ Below w.heap.size w w' := by
  by_cases hb : 1048576 < n ∨ 1048576 - n < n'
  · exact lawPC_big A A' n c n' c' w hn hn' hb
  · exact lawPC_no A A' n c n' c' f f' w (by omega) (by omega) (hide hs) (hide hs') (hide hf) (hide hf')
end Go.Proofs.Ytibikoajejfdeaa
