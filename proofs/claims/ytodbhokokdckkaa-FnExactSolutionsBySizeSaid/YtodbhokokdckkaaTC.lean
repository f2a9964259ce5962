import Derived.Test.YtodbhokokdckkaaTB
namespace Go.Proofs.Ytodbhokokdckkaa
open Go.RowKit
set_option maxHeartbeats 2000000
theorem popN_le_of : ∀ (k n x : Nat), x < 2 ^ n → popN k x ≤ n := by
  intro k
  induction k with
  | zero => intro n x _; simp [popN]
  | succ k ih =>
    intro n x hx
    cases n with
    | zero => have : x = 0 := by simp at hx; omega
              subst this; rw [pop_zero]; omega
    | succ n =>
      have h1 : x / 2 < 2 ^ n := by rw [Nat.pow_succ] at hx; omega
      have := ih n (x / 2) h1
      simp only [popN]; omega
theorem pop_le_of {n x : Nat} (h : x < 2 ^ n) : pop x ≤ n := by rw [pop_eq]; exact popN_le_of 16 n x h
/-- One more at its size. -/
noncomputable def bump (C : List Nat) (s : Nat) : List Nat := C.set (pop s) (C.getD (pop s) 0 + 1)
theorem bump_len (C : List Nat) (s : Nat) : (bump C s).length = C.length := by simp [bump]
noncomputable def cntL (n : Nat) (L : List Nat) : List Nat := L.foldl bump (List.replicate (n + 1) 0)
theorem cntL_snoc (n : Nat) (L : List Nat) (s : Nat) : cntL n (L ++ [s]) = bump (cntL n L) s := by simp [cntL]
theorem cntL_len (n : Nat) (L : List Nat) : (cntL n L).length = n + 1 := by
  induction L using snoc_ind with
  | h0 => simp [cntL]
  | h1 L a ih => rw [cntL_snoc, bump_len, ih]
theorem cntL_le (n : Nat) (L : List Nat) (j : Nat) : (cntL n L).getD j 0 ≤ L.length := by
  induction L using snoc_ind generalizing j with
  | h0 => simp [cntL, List.getD_eq_getElem?_getD, List.getElem?_replicate]; split <;> simp
  | h1 L a ih =>
    rw [cntL_snoc, bump, List.length_append]
    simp only [List.getD_eq_getElem?_getD, List.getElem?_set]
    have h1 := ih (pop a)
    have h2 := ih j
    simp only [List.getD_eq_getElem?_getD] at h1 h2
    split
    · split
      · simp; omega
      · simp
    · simp; omega
theorem OL.made (w : World) (m : Nat) {B : Nat} (hB : B ≤ w.heap.size) (hm : m ≤ 1048576) : OL (w.alloc (.cells (madeCells #[.int .i64 0] m) 3)) B (.slice (some ⟨w.heap.size, 0, none⟩) m m) (List.replicate m 0) := by
  refine OL.mk hB (Blk.new w 3 _ rfl) (by simp) (Nat.le_refl _) (by unfold maxLen; omega) (size_madeCells _ _) (fun j hj => ?_)
  simp [madeCells, hj, Nat.mod_one, lv]
theorem Blk.grown' {w w' : World} {t : TypeId} {g row : Nat} {cs : Array Value} (h : Blk w t g cs) (hg : w.grownBy w' (some row)) (hne : g ≠ row) : Blk w' t g cs :=
  (hg.block g h.lt (by intro e; injection e with e; exact hne e)).trans h
/-- How many solutions there are of each size. -/
noncomputable def sizesL (T : Nat → Nat) (n q : Nat) : List Nat := cntL n (solL T n q)
theorem sizes_spec (T : Nat → Nat) (n q : Nat) (h : solB T n q = true) : sizesL T n q = (sums (qS T n n).1).foldl (fun C s => bump C (solV T n q ^^^ s)) (List.replicate (n + 1) 0) := by
  unfold sizesL cntL solL
  rw [if_pos h, List.foldl_map]
  congr 1
  funext C s
  rw [Nat.xor_comm]
theorem sizes_none (T : Nat → Nat) (n q : Nat) (h : solB T n q = false) : sizesL T n q = List.replicate (n + 1) 0 := by
  unfold sizesL cntL solL
  rw [h]; rfl
theorem solL_low {T : Nat → Nat} {n q : Nat} : ∀ b ∈ solL T n q, b < 2 ^ n := by
  intro b hb
  unfold solL at hb
  split at hb
  · simp only [List.mem_map] at hb
    obtain ⟨s, hs, rfl⟩ := hb
    exact Nat.xor_lt_two_pow (sums_lt (inv_at T n n (by omega)).low s hs) solV_lt
  · cases hb
theorem sbsSpec_big (g n c : Nat) (F : Nat → Nat) (own : Bool) (q : Nat) (w : World) (hn : n ≤ 16) (hF : ∀ j, j < n → F j < 2 ^ n) (hq : q < 2 ^ n) (hset : setB n (nv F) q = true) (h8 : 8 < ((qS (tog F own) n n).1).length) (ha : Arr w 3 g n (iv (nv F))) :
    Calls Try.prog 66 #[.agg #[.slice (some ⟨g, 0, none⟩) n c, .bool own], .int .i64 q] w (Two w (.slice none 0 0) false) := by
  have h16 := pow16n hn
  have HA := hide ha
  have HF := hide hF
  have HT := hide (tog_all (own := own) hF)
  have HSet := hide hset
  have hgd : goodB n (nv F) = true := by simp only [setB, Bool.and_eq_true] at hset; exact hset.1
  have hin : inB q 0 (2 ^ n - 1) = true := by simp only [setB, Bool.and_eq_true] at hset; exact hset.2
  have HG := hide hgd
  have HIn := hide hin
  have H8 := hide h8
  clear ha hF hset hgd hin h8
  go_enter Try.func66, Try.ntmps66
  go_wp2_with fail
  refine (grSet_any _ _ _ (nv F) _ _ _ (by omega) (HA.out.alloc _)).mono ?_
  rintro e w1 ⟨rfl, hb1⟩
  simp only [HSet.out]
  have hp := (Arr.box w 26 (.slice (some ⟨g, 0, none⟩) n c) (.bool own)).all hb1
  have HA1 := hide ((HA.out.alloc _).all hb1)
  have HB1 := hide ((by go_grown : Below w.heap.size w _).trans (hb1.mono (by simp)))
  have c0_1 : w1.cell? ⟨w.heap.size, 0, none⟩ = some (.slice (some ⟨g, 0, none⟩) n c) := hp.cell (by omega)
  have c1_1 : w1.cell? ⟨w.heap.size, 1, none⟩ = some (.bool own) := hp.cell (by omega)
  have HX1 := hide hp
  clear hp hb1
  go_wp2_with fail
  refine (soQuiet_any _ _ _ F _ _ hn HF.out HA1.out).mono ?_
  rintro e w2 ⟨A, d, m, rfl, hm, hs, hb2⟩
  have hm8 : 8 < m := by have := H8.out; omega
  have HB2 := hide (HB1.out.trans (hb2.mono HB1.out.size))
  clear hm hs hb2
  go_wp2
  go_ret2
  exact ⟨rfl, HB2.out⟩
theorem sbsImpl_big (g n c : Nat) (F : Nat → Nat) (own : Bool) (q : Nat) (w : World) (hn : n ≤ 16) (hF : ∀ j, j < n → F j < 2 ^ n) (hq : q < 2 ^ n) (hset : setB n (nv F) q = true) (h8 : 8 < ((qS (tog F own) n n).1).length) (ha : Arr w 3 g n (iv (nv F))) :
    Calls Try.prog 67 #[.agg #[.slice (some ⟨g, 0, none⟩) n c, .bool own], .int .i64 q] w (Two w (.slice none 0 0) false) := by
  have h16 := pow16n hn
  have HA := hide ha
  have HF := hide hF
  have HT := hide (tog_all (own := own) hF)
  have HSet := hide hset
  have hgd : goodB n (nv F) = true := by simp only [setB, Bool.and_eq_true] at hset; exact hset.1
  have hin : inB q 0 (2 ^ n - 1) = true := by simp only [setB, Bool.and_eq_true] at hset; exact hset.2
  have HG := hide hgd
  have HIn := hide hin
  have H8 := hide h8
  clear ha hF hset hgd hin h8
  obtain ⟨m, hm⟩ : ∃ m, ((qS (tog F own) n n).1).length = m := ⟨_, rfl⟩
  have hm8 : 8 < m := by have := H8.out; omega
  have HM := hide hm
  clear hm
  go_enter Try.func67, Try.ntmps67
  go_wp2_with fail
  refine (nullImpl_ok _ _ _ F _ _ hn HF.out HG.out (HA.out.alloc _)).mono ?_
  rintro e w1 ⟨rfl, hb1⟩
  simp only [HM.out]
  have HB1 := hide ((by go_grown : Below w.heap.size w _).trans (hb1.mono (by simp)))
  clear hb1
  go_wp2
  go_ret2
  exact ⟨rfl, HB1.out⟩
theorem sbsSpec_no (g n c : Nat) (f : Nat → Int) (own : Bool) (s : Int) (w : World) (hn : n ≤ 1048576) (hno : setB n f s = false) (ha : Arr w 3 g n (iv f)) :
    Calls Try.prog 66 #[.agg #[.slice (some ⟨g, 0, none⟩) n c, .bool own], .int .i64 s] w (Two w (.slice none 0 0) false) := by
  have HA := hide ha
  clear ha
  go_enter Try.func66, Try.ntmps66
  go_wp2_with fail
  refine (grSet_any _ _ _ f _ _ _ hn (HA.out.alloc _)).mono ?_
  rintro e w1 ⟨rfl, hb1⟩
  go_wp2
  go_ret2
  exact ⟨rfl, (by go_grown : Below w.heap.size w _).trans (hb1.mono (by simp))⟩
theorem sbsImpl_no1 (g n c : Nat) (f : Nat → Int) (own : Bool) (s : Int) (w : World) (hn : n ≤ 1048576) (hgd : goodB n f = false) (ha : Arr w 3 g n (iv f)) :
    Calls Try.prog 67 #[.agg #[.slice (some ⟨g, 0, none⟩) n c, .bool own], .int .i64 s] w (Two w (.slice none 0 0) false) := by
  have HA := hide ha
  have HG := hide hgd
  clear ha hgd
  go_enter Try.func67, Try.ntmps67
  go_wp2_with fail
  refine (nullImpl_no _ _ _ f _ _ hn HG.out (HA.out.alloc _)).mono ?_
  rintro e w1 ⟨rfl, hb1⟩
  go_wp2
  go_ret2
  exact ⟨rfl, (by go_grown : Below w.heap.size w _).trans (hb1.mono (by simp))⟩
theorem sbsImpl_no2 (g n c : Nat) (F : Nat → Nat) (own : Bool) (s : Int) (w : World) (hn : n ≤ 16) (hF : ∀ j, j < n → F j < 2 ^ n) (hgd : goodB n (nv F) = true) (hno : inB s 0 (2 ^ n - 1) = false) (ha : Arr w 3 g n (iv (nv F))) :
    Calls Try.prog 67 #[.agg #[.slice (some ⟨g, 0, none⟩) n c, .bool own], .int .i64 s] w (Two w (.slice none 0 0) false) := by
  have HA := hide ha
  have HF := hide hF
  have HG := hide hgd
  obtain ⟨m, hm⟩ : ∃ m, ((qS (tog F own) n n).1).length = m := ⟨_, rfl⟩
  have HM := hide hm
  clear ha hF hgd hm
  by_cases hm8 : 8 < m
  · go_enter Try.func67, Try.ntmps67
    go_wp2_with fail
    refine (nullImpl_ok _ _ _ F _ _ hn HF.out HG.out (HA.out.alloc _)).mono ?_
    rintro e w1 ⟨rfl, hb1⟩
    simp only [HM.out]
    have HB1 := hide ((by go_grown : Below w.heap.size w _).trans (hb1.mono (by simp)))
    clear hb1
    go_wp2
    go_ret2
    exact ⟨rfl, HB1.out⟩
  · go_enter Try.func67, Try.ntmps67
    go_wp2_with fail
    refine (nullImpl_ok _ _ _ F _ _ hn HF.out HG.out (HA.out.alloc _)).mono ?_
    rintro e w1 ⟨rfl, hb1⟩
    simp only [HM.out]
    have hp := (Arr.box w 26 (.slice (some ⟨g, 0, none⟩) n c) (.bool own)).all hb1
    have HA1 := hide ((HA.out.alloc _).all hb1)
    have HB1 := hide ((by go_grown : Below w.heap.size w _).trans (hb1.mono (by simp)))
    have c0_1 : w1.cell? ⟨w.heap.size, 0, none⟩ = some (.slice (some ⟨g, 0, none⟩) n c) := hp.cell (by omega)
    have c1_1 : w1.cell? ⟨w.heap.size, 1, none⟩ = some (.bool own) := hp.cell (by omega)
    have HX1 := hide hp
    clear hp hb1
    go_wp2_with fail
    refine (isSet_any _ _ _ _ _ _ hn).mono ?_
    rintro e w2 ⟨rfl, hb2⟩
    have HB2 := hide (HB1.out.trans (hb2.mono HB1.out.size))
    clear hb2
    go_wp2
    go_ret2
    exact ⟨rfl, HB2.out⟩
theorem sbsImpl_no (g n c : Nat) (f : Nat → Int) (own : Bool) (s : Int) (w : World) (hn : n ≤ 1048576) (hno : setB n f s = false) (ha : Arr w 3 g n (iv f)) :
    Calls Try.prog 67 #[.agg #[.slice (some ⟨g, 0, none⟩) n c, .bool own], .int .i64 s] w (Two w (.slice none 0 0) false) := by
  cases hgd : goodB n f
  · exact sbsImpl_no1 g n c f own s w hn hgd ha
  · obtain ⟨F, he, h2, h16, hG⟩ := good_nat (goodB_iff.1 hgd)
    refine sbsImpl_no2 g n c F own s w hG.n16 h2 (goodB_yes hG) ?_ (ha.congr fun k hk => by simp only [iv]; rw [he k hk])
    simpa [setB, hgd] using hno
end Go.Proofs.Ytodbhokokdckkaa
