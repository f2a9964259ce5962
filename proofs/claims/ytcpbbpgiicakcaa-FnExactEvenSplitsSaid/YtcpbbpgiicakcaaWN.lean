import Derived.Test.YtcpbbpgiicakcaaWM
import Derived.Deep.RegionHeld3
namespace Go.Proofs.Ytcpbbpgiicakcaa
open Go.RowKit
set_option maxHeartbeats 2000000
theorem qS_le (T : Nat → Nat) (n : Nat) : (qS T n n).1.length ≤ n := by have := quiet_length (n := n) (T := T); omega
theorem good_pos {n : Nat} {F : Nat → Nat} (hG : goodB n (nv F) = true) : 0 < n := (goodB_iff.1 hG).1
theorem paSplit_ok (g n c : Nat) (F : Nat → Nat) (own odd : Bool) (w : World) (hn : n ≤ 16) (hF : ∀ j, j < n → F j < 2 ^ n) (hgd : goodB n (nv F) = true) (ha : Arr w 3 g n (iv (nv F))) :
    Calls Try.prog 44 #[.agg #[.slice (some ⟨g, 0, none⟩) n c, .bool own], .bool odd] w fun e w' => e = .returned (.tuple #[.int .i64 (2 ^ (qS (spT F (gvN F odd n)) n n).1.length : Nat), .int .i64 (solV (spT F (gvN F odd n)) n (gvN F odd n) : Nat)]) ∧ Below w.heap.size w w' := by
  have HA := hide ha
  have HF := hide hF
  obtain ⟨hsy, hdi⟩ := spT_sym hF (gvN_lt F odd n hn) hgd
  have HSy := hide hsy
  have HDi := hide hdi
  have h0 := good_pos hgd
  have hq := qS_le (spT F (gvN F odd n)) n
  obtain ⟨q, hq0⟩ : ∃ q, (qS (spT F (gvN F odd n)) n n).1.length = q := ⟨_, rfl⟩
  rw [hq0] at hq ⊢
  have HQ := hide hq0
  have hq16 : q ≤ 16 := by omega
  have ew := wrap_pow16 hq16
  clear ha hF hgd hsy hdi hq0
  go_enter Try.func44, Try.ntmps44
  go_wp2_with fail
  refine (eqs_any _ _ _ F own odd _ hn HF.out (HA.out.alloc _)).mono ?_
  rintro e w1 ⟨A1, d1, rfl, hs1, hb1⟩
  have hp := (Arr.box w 28 (.slice (some ⟨g, 0, none⟩) n c) (.bool own)).all hb1
  have c0 : w1.cell? ⟨w.heap.size, 0, none⟩ = some (.slice (some ⟨g, 0, none⟩) n c) := hp.cell (by omega)
  have c1 : w1.cell? ⟨w.heap.size, 1, none⟩ = some (.bool own) := hp.cell (by omega)
  have hl1 := hp.lt
  have HS1 := hide hs1
  have HB1 := hide ((by go_grown : Below w.heap.size w _).trans (hb1.mono (by simp)))
  clear hp hs1 hb1
  go_wp2_with fail
  refine (sols_any _ _ _ (spT F (gvN F odd n)) (gvN F odd n) _ h0 hn HSy.out HDi.out HS1.out).mono ?_
  rintro e w2 ⟨rfl, hb2⟩
  rw [HQ.out]
  have HB2 := hide (HB1.out.trans (hb2.mono HB1.out.size))
  clear hb2
  go_wp2
  go_ret2
  exact ⟨by rw [← ew]; rfl, HB2.out⟩
/-- Each button with its own one. -/
theorem spT_full (F : Nat → Nat) {n i : Nat} (hi : i < n) : spT F (2 ^ n - 1) i = F i ||| 2 ^ i := by
  rw [spT_eq, Nat.testBit_two_pow_sub_one]; simp [hi]
theorem full_lt (n : Nat) : 2 ^ n - 1 < 2 ^ n := by have := Nat.two_pow_pos n; omega
theorem paDom_ok (g n c : Nat) (F : Nat → Nat) (own : Bool) (w : World) (hn : n ≤ 16) (hF : ∀ j, j < n → F j < 2 ^ n) (hgd : goodB n (nv F) = true) (ha : Arr w 3 g n (iv (nv F))) :
    Calls Try.prog 53 #[.agg #[.slice (some ⟨g, 0, none⟩) n c, .bool own]] w fun e w' => e = .returned (.tuple #[.int .i64 (2 ^ (qS (spT F (2 ^ n - 1)) n n).1.length : Nat), .int .i64 (solV (spT F (2 ^ n - 1)) n (2 ^ n - 1) : Nat)]) ∧ Below w.heap.size w w' := by
  have HF16 := hide (goodB_F hn hF)
  have HA := hide (ha.alloc (.cells #[.slice (some ⟨g, 0, none⟩) n c, .bool own] 28))
  have hgl := ha.lt
  obtain ⟨hsy, hdi⟩ := spT_sym hF (full_lt n) hgd
  have h0 := good_pos hgd
  have hq := qS_le (spT F (2 ^ n - 1)) n
  have HT : Hid (∀ k, k < n → spT F (2 ^ n - 1) k = F k ||| 2 ^ k) := hide fun k hk => spT_full F hk
  have ef := full_bare hn
  obtain ⟨z, hz⟩ : ∃ z, 2 ^ n - 1 = z := ⟨_, rfl⟩
  rw [hz] at hsy hdi HT hq ef ⊢
  obtain ⟨T, hT⟩ : ∃ T, spT F z = T := ⟨_, rfl⟩
  rw [hT] at hsy hdi HT hq ⊢
  obtain ⟨q, hq0⟩ : ∃ q, (qS T n n).1.length = q := ⟨_, rfl⟩
  rw [hq0] at hq ⊢
  have HQ := hide hq0
  have hq16 : q ≤ 16 := by omega
  have ew := wrap_pow16 hq16
  have HSy := hide hsy
  have HDi := hide hdi
  clear hF ha hgd hT hz hsy hdi hq0
  go_enter Try.func53, Try.ntmps53
  go_wp2
  go_loopw [4, 13] (fun rv i wr => ∃ (k : Nat) (A : Option Addr) (e : Nat), k ≤ n ∧ i = .int .i64 k ∧ rv = .slice A k e ∧ OL wr (w.heap.size + 1) (.slice A k e) (rowsT T k) ∧ Below (w.heap.size + 1) (w.alloc (.cells #[.slice (some ⟨g, 0, none⟩) n c, .bool own] 28)) wr) (fun _ i _ => n - (intOf i).toNat)
  case atStart => exact ⟨0, none, 0, by omega, rfl, rfl, OL.nil _ _, Below.refl _ _⟩
  case round =>
    obtain ⟨k, A, e, hk, rfl, rfl, ho, hb⟩ := hrel
    have hsz := hb.size
    simp only [World.size_alloc] at hsz
    by_cases hlt : k < n
    · have hc := (HA.out.all (hb.mono (by simp))).cell hlt
      simp only [iv, nv] at hc
      have hTk := HT.out k hlt
      obtain ⟨x, hx⟩ : ∃ x, F k = x := ⟨_, rfl⟩
      have hx16 := HF16.out k hlt
      rw [hx] at hc hx16 hTk
      have hk16 := pow_lt16 (j := k) (by omega)
      have ew0 := wrap_pow (j := k) (by omega)
      rw [← pow_nat] at ew0
      obtain ⟨p, hp⟩ : ∃ p, 2 ^ k = p := ⟨_, rfl⟩
      have ew3 : RowKit.wrap64 (2 ^ k) = (p : Int) := by rw [← hp, ← pow_nat]; exact ew0
      rw [hp] at hk16 hTk
      have e1 := i64_or_nat x p (Nat.lt_trans hx16 (by decide)) (Nat.lt_trans hk16 (by decide))
      have HL := hide ho
      have HB := hide hb
      have hk64 : k ≤ 1048576 := by omega
      have HSu : Hid (rowsT T (k + 1) = rowsT T k ++ [x ||| p]) := hide (by rw [rowsT_succ, hTk])
      have HLe : Hid ((rowsT T k).length = k) := hide (rowsT_len T k)
      clear hx ew0 hp hTk ho hb
      go_wp2_with (at_builtin; refine wpList_append_nat _ rfl _ _ rfl (w.heap.size + 1) A e k (rowsT T k) (x ||| p) wr.heap.size rfl (HL.out.alloc _) HLe.out rfl (by simp [go_sem]) hk64 (by simp; omega) ?_; intro A5 c5 w5 ho5 hb5; have HO5 := hide ho5; have HB5 := hide ((HB.out.alloc (by omega) _).trans hb5); clear ho5 hb5)
      go_roundw
      case rel => exact ⟨k + 1, A5, c5, by omega, by go_num, rfl, by rw [HSu.out]; exact HO5.out, HB5.out⟩
      case measure => simp [intOf]; omega
    · have hkn : k = n := by omega
      subst hkn
      have hp := (Arr.box w 28 (.slice (some ⟨g, 0, none⟩) k c) (.bool own)).below hb (by omega)
      have HX := hide hp
      have HSr := hide (rowsT_src (ho.src (rowsT_len T k)))
      have HB := hide ((by go_grown : Below w.heap.size w _).trans (hb.mono (by simp)))
      have KK : Hid (wr.drew.cell? ⟨w.heap.size, 0, none⟩ = some (.slice (some ⟨g, 0, none⟩) k c) ∧ wr.drew.cell? ⟨w.heap.size, 1, none⟩ = some (.bool own)) := hide ⟨hp.cell (by omega), hp.cell (by omega)⟩
      clear hp hb ho
      go_wp2
      go_region_held3 (fun w' => w'.cell? ⟨w.heap.size, 0, none⟩ = some (.slice (some ⟨g, 0, none⟩) k c) ∧ w'.cell? ⟨w.heap.size, 1, none⟩ = some (.bool own)) (first | exact KK.out | exact two_below (by assumption) KK.out) ((go_at_call 71; refine (sols_any _ _ _ T z _ h0 hn HSy.out HDi.out (by exact HSr.out.drew)).mono ?_; rintro e w3 ⟨rfl, hb3⟩; simp only [HQ.out]))
      have HB3 := hide (HB.out.trans (((Below.drew (Below.refl wr.heap.size wr)).trans hb3).mono HB.out.size))
      clear hb3 KK
      go_wp2
      go_ret2
      exact ⟨by rw [← ew]; rfl, HB3.out⟩
theorem spEv_no (g n c : Nat) (f : Nat → Int) (own : Bool) (w : World) (hn : n ≤ 1048576) (hgd : goodB n f = false) (ha : Arr w 3 g n (iv f)) :
    Calls Try.prog 13 #[.agg #[.slice (some ⟨g, 0, none⟩) n c, .bool own]] w (Two w (.int .i64 0) false) := by
  have HA := hide ha
  have HG := hide hgd
  clear ha hgd
  go_enter Try.func13, Try.ntmps13
  go_wp2_with fail
  refine (grGood_any _ _ _ f _ _ hn (HA.out.alloc _)).mono ?_
  rintro e w1 ⟨rfl, hb1⟩
  simp only [HG.out]
  have HB1 := hide ((by go_grown : Below w.heap.size w _).trans (hb1.mono (by simp)))
  clear hb1
  go_wp2
  go_ret2
  exact ⟨rfl, HB1.out⟩
theorem spEv_ok (g n c : Nat) (F : Nat → Nat) (own : Bool) (w : World) (hn : n ≤ 16) (hF : ∀ j, j < n → F j < 2 ^ n) (hgd : goodB n (nv F) = true) (ha : Arr w 3 g n (iv (nv F))) :
    Calls Try.prog 13 #[.agg #[.slice (some ⟨g, 0, none⟩) n c, .bool own]] w (Two w (.int .i64 (solV (spT F (oddN F n)) n (oddN F n) : Nat)) true) := by
  have HA := hide ha
  have HG := hide hgd
  have HF := hide hF
  clear ha hgd hF
  go_enter Try.func13, Try.ntmps13
  go_wp2_with fail
  refine (grGood_any _ _ _ (nv F) _ _ (by omega) (HA.out.alloc _)).mono ?_
  rintro e w1 ⟨rfl, hb1⟩
  simp only [HG.out]
  have hp := (Arr.box w 28 (.slice (some ⟨g, 0, none⟩) n c) (.bool own)).all hb1
  have c0 : w1.cell? ⟨w.heap.size, 0, none⟩ = some (.slice (some ⟨g, 0, none⟩) n c) := hp.cell (by omega)
  have c1 : w1.cell? ⟨w.heap.size, 1, none⟩ = some (.bool own) := hp.cell (by omega)
  have HA1 := hide ((HA.out.alloc _).all hb1)
  have HB1 := hide ((by go_grown : Below w.heap.size w _).trans (hb1.mono (by simp)))
  clear hb1 hp
  go_wp2_with fail
  refine (paSplit_ok _ _ _ F own false _ hn HF.out HG.out HA1.out).mono ?_
  rintro e w2 ⟨rfl, hb2⟩
  have HB2 := hide (HB1.out.trans (hb2.mono HB1.out.size))
  clear hb2 c0 c1
  go_wp2
  go_ret2
  exact ⟨rfl, HB2.out⟩
theorem spEo_no (g n c : Nat) (f : Nat → Int) (own : Bool) (w : World) (hn : n ≤ 1048576) (hgd : goodB n f = false) (ha : Arr w 3 g n (iv f)) :
    Calls Try.prog 17 #[.agg #[.slice (some ⟨g, 0, none⟩) n c, .bool own]] w (Two w (.int .i64 0) false) := by
  have HA := hide ha
  have HG := hide hgd
  clear ha hgd
  go_enter Try.func17, Try.ntmps17
  go_wp2_with fail
  refine (grGood_any _ _ _ f _ _ hn (HA.out.alloc _)).mono ?_
  rintro e w1 ⟨rfl, hb1⟩
  simp only [HG.out]
  have HB1 := hide ((by go_grown : Below w.heap.size w _).trans (hb1.mono (by simp)))
  clear hb1
  go_wp2
  go_ret2
  exact ⟨rfl, HB1.out⟩
theorem spEo_ok (g n c : Nat) (F : Nat → Nat) (own : Bool) (w : World) (hn : n ≤ 16) (hF : ∀ j, j < n → F j < 2 ^ n) (hgd : goodB n (nv F) = true) (ha : Arr w 3 g n (iv (nv F))) :
    Calls Try.prog 17 #[.agg #[.slice (some ⟨g, 0, none⟩) n c, .bool own]] w (Two w (.int .i64 (solV (spT F (evenN F n)) n (evenN F n) : Nat)) true) := by
  have HA := hide ha
  have HG := hide hgd
  have HF := hide hF
  clear ha hgd hF
  go_enter Try.func17, Try.ntmps17
  go_wp2_with fail
  refine (grGood_any _ _ _ (nv F) _ _ (by omega) (HA.out.alloc _)).mono ?_
  rintro e w1 ⟨rfl, hb1⟩
  simp only [HG.out]
  have hp := (Arr.box w 28 (.slice (some ⟨g, 0, none⟩) n c) (.bool own)).all hb1
  have c0 : w1.cell? ⟨w.heap.size, 0, none⟩ = some (.slice (some ⟨g, 0, none⟩) n c) := hp.cell (by omega)
  have c1 : w1.cell? ⟨w.heap.size, 1, none⟩ = some (.bool own) := hp.cell (by omega)
  have HA1 := hide ((HA.out.alloc _).all hb1)
  have HB1 := hide ((by go_grown : Below w.heap.size w _).trans (hb1.mono (by simp)))
  clear hb1 hp
  go_wp2_with fail
  refine (paSplit_ok _ _ _ F own true _ hn HF.out HG.out HA1.out).mono ?_
  rintro e w2 ⟨rfl, hb2⟩
  have HB2 := hide (HB1.out.trans (hb2.mono HB1.out.size))
  clear hb2 c0 c1
  go_wp2
  go_ret2
  exact ⟨rfl, HB2.out⟩
theorem spCEv_no (g n c : Nat) (f : Nat → Int) (own : Bool) (w : World) (hn : n ≤ 1048576) (hgd : goodB n f = false) (ha : Arr w 3 g n (iv f)) :
    Calls Try.prog 19 #[.agg #[.slice (some ⟨g, 0, none⟩) n c, .bool own]] w (Two w (.int .i64 0) false) := by
  have HA := hide ha
  have HG := hide hgd
  clear ha hgd
  go_enter Try.func19, Try.ntmps19
  go_wp2_with fail
  refine (grGood_any _ _ _ f _ _ hn (HA.out.alloc _)).mono ?_
  rintro e w1 ⟨rfl, hb1⟩
  simp only [HG.out]
  have HB1 := hide ((by go_grown : Below w.heap.size w _).trans (hb1.mono (by simp)))
  clear hb1
  go_wp2
  go_ret2
  exact ⟨rfl, HB1.out⟩
theorem spCEv_ok (g n c : Nat) (F : Nat → Nat) (own : Bool) (w : World) (hn : n ≤ 16) (hF : ∀ j, j < n → F j < 2 ^ n) (hgd : goodB n (nv F) = true) (ha : Arr w 3 g n (iv (nv F))) :
    Calls Try.prog 19 #[.agg #[.slice (some ⟨g, 0, none⟩) n c, .bool own]] w (Two w (.int .i64 (2 ^ (qS (spT F (oddN F n)) n n).1.length : Nat)) true) := by
  have HA := hide ha
  have HG := hide hgd
  have HF := hide hF
  clear ha hgd hF
  go_enter Try.func19, Try.ntmps19
  go_wp2_with fail
  refine (grGood_any _ _ _ (nv F) _ _ (by omega) (HA.out.alloc _)).mono ?_
  rintro e w1 ⟨rfl, hb1⟩
  simp only [HG.out]
  have hp := (Arr.box w 28 (.slice (some ⟨g, 0, none⟩) n c) (.bool own)).all hb1
  have c0 : w1.cell? ⟨w.heap.size, 0, none⟩ = some (.slice (some ⟨g, 0, none⟩) n c) := hp.cell (by omega)
  have c1 : w1.cell? ⟨w.heap.size, 1, none⟩ = some (.bool own) := hp.cell (by omega)
  have HA1 := hide ((HA.out.alloc _).all hb1)
  have HB1 := hide ((by go_grown : Below w.heap.size w _).trans (hb1.mono (by simp)))
  clear hb1 hp
  go_wp2_with fail
  refine (paSplit_ok _ _ _ F own false _ hn HF.out HG.out HA1.out).mono ?_
  rintro e w2 ⟨rfl, hb2⟩
  have HB2 := hide (HB1.out.trans (hb2.mono HB1.out.size))
  clear hb2 c0 c1
  go_wp2
  go_ret2
  exact ⟨rfl, HB2.out⟩
theorem spCEo_no (g n c : Nat) (f : Nat → Int) (own : Bool) (w : World) (hn : n ≤ 1048576) (hgd : goodB n f = false) (ha : Arr w 3 g n (iv f)) :
    Calls Try.prog 21 #[.agg #[.slice (some ⟨g, 0, none⟩) n c, .bool own]] w (Two w (.int .i64 0) false) := by
  have HA := hide ha
  have HG := hide hgd
  clear ha hgd
  go_enter Try.func21, Try.ntmps21
  go_wp2_with fail
  refine (grGood_any _ _ _ f _ _ hn (HA.out.alloc _)).mono ?_
  rintro e w1 ⟨rfl, hb1⟩
  simp only [HG.out]
  have HB1 := hide ((by go_grown : Below w.heap.size w _).trans (hb1.mono (by simp)))
  clear hb1
  go_wp2
  go_ret2
  exact ⟨rfl, HB1.out⟩
theorem spCEo_ok (g n c : Nat) (F : Nat → Nat) (own : Bool) (w : World) (hn : n ≤ 16) (hF : ∀ j, j < n → F j < 2 ^ n) (hgd : goodB n (nv F) = true) (ha : Arr w 3 g n (iv (nv F))) :
    Calls Try.prog 21 #[.agg #[.slice (some ⟨g, 0, none⟩) n c, .bool own]] w (Two w (.int .i64 (2 ^ (qS (spT F (evenN F n)) n n).1.length : Nat)) true) := by
  have HA := hide ha
  have HG := hide hgd
  have HF := hide hF
  clear ha hgd hF
  go_enter Try.func21, Try.ntmps21
  go_wp2_with fail
  refine (grGood_any _ _ _ (nv F) _ _ (by omega) (HA.out.alloc _)).mono ?_
  rintro e w1 ⟨rfl, hb1⟩
  simp only [HG.out]
  have hp := (Arr.box w 28 (.slice (some ⟨g, 0, none⟩) n c) (.bool own)).all hb1
  have c0 : w1.cell? ⟨w.heap.size, 0, none⟩ = some (.slice (some ⟨g, 0, none⟩) n c) := hp.cell (by omega)
  have c1 : w1.cell? ⟨w.heap.size, 1, none⟩ = some (.bool own) := hp.cell (by omega)
  have HA1 := hide ((HA.out.alloc _).all hb1)
  have HB1 := hide ((by go_grown : Below w.heap.size w _).trans (hb1.mono (by simp)))
  clear hb1 hp
  go_wp2_with fail
  refine (paSplit_ok _ _ _ F own true _ hn HF.out HG.out HA1.out).mono ?_
  rintro e w2 ⟨rfl, hb2⟩
  have HB2 := hide (HB1.out.trans (hb2.mono HB1.out.size))
  clear hb2 c0 c1
  go_wp2
  go_ret2
  exact ⟨rfl, HB2.out⟩
theorem spDom_no (g n c : Nat) (f : Nat → Int) (own : Bool) (w : World) (hn : n ≤ 1048576) (hgd : goodB n f = false) (ha : Arr w 3 g n (iv f)) :
    Calls Try.prog 29 #[.agg #[.slice (some ⟨g, 0, none⟩) n c, .bool own]] w (Two w (.int .i64 0) false) := by
  have HA := hide ha
  have HG := hide hgd
  clear ha hgd
  go_enter Try.func29, Try.ntmps29
  go_wp2_with fail
  refine (grGood_any _ _ _ f _ _ hn (HA.out.alloc _)).mono ?_
  rintro e w1 ⟨rfl, hb1⟩
  simp only [HG.out]
  have HB1 := hide ((by go_grown : Below w.heap.size w _).trans (hb1.mono (by simp)))
  clear hb1
  go_wp2
  go_ret2
  exact ⟨rfl, HB1.out⟩
theorem spDom_ok (g n c : Nat) (F : Nat → Nat) (own : Bool) (w : World) (hn : n ≤ 16) (hF : ∀ j, j < n → F j < 2 ^ n) (hgd : goodB n (nv F) = true) (ha : Arr w 3 g n (iv (nv F))) :
    Calls Try.prog 29 #[.agg #[.slice (some ⟨g, 0, none⟩) n c, .bool own]] w (Two w (.int .i64 (solV (spT F (2 ^ n - 1)) n (2 ^ n - 1) : Nat)) true) := by
  have HA := hide ha
  have HG := hide hgd
  have HF := hide hF
  clear ha hgd hF
  go_enter Try.func29, Try.ntmps29
  go_wp2_with fail
  refine (grGood_any _ _ _ (nv F) _ _ (by omega) (HA.out.alloc _)).mono ?_
  rintro e w1 ⟨rfl, hb1⟩
  simp only [HG.out]
  have hp := (Arr.box w 28 (.slice (some ⟨g, 0, none⟩) n c) (.bool own)).all hb1
  have c0 : w1.cell? ⟨w.heap.size, 0, none⟩ = some (.slice (some ⟨g, 0, none⟩) n c) := hp.cell (by omega)
  have c1 : w1.cell? ⟨w.heap.size, 1, none⟩ = some (.bool own) := hp.cell (by omega)
  have HA1 := hide ((HA.out.alloc _).all hb1)
  have HB1 := hide ((by go_grown : Below w.heap.size w _).trans (hb1.mono (by simp)))
  clear hb1 hp
  go_wp2_with fail
  refine (paDom_ok _ _ _ F own _ hn HF.out HG.out HA1.out).mono ?_
  rintro e w2 ⟨rfl, hb2⟩
  have HB2 := hide (HB1.out.trans (hb2.mono HB1.out.size))
  clear hb2 c0 c1
  go_wp2
  go_ret2
  exact ⟨rfl, HB2.out⟩
theorem spCDom_no (g n c : Nat) (f : Nat → Int) (own : Bool) (w : World) (hn : n ≤ 1048576) (hgd : goodB n f = false) (ha : Arr w 3 g n (iv f)) :
    Calls Try.prog 31 #[.agg #[.slice (some ⟨g, 0, none⟩) n c, .bool own]] w (Two w (.int .i64 0) false) := by
  have HA := hide ha
  have HG := hide hgd
  clear ha hgd
  go_enter Try.func31, Try.ntmps31
  go_wp2_with fail
  refine (grGood_any _ _ _ f _ _ hn (HA.out.alloc _)).mono ?_
  rintro e w1 ⟨rfl, hb1⟩
  simp only [HG.out]
  have HB1 := hide ((by go_grown : Below w.heap.size w _).trans (hb1.mono (by simp)))
  clear hb1
  go_wp2
  go_ret2
  exact ⟨rfl, HB1.out⟩
theorem spCDom_ok (g n c : Nat) (F : Nat → Nat) (own : Bool) (w : World) (hn : n ≤ 16) (hF : ∀ j, j < n → F j < 2 ^ n) (hgd : goodB n (nv F) = true) (ha : Arr w 3 g n (iv (nv F))) :
    Calls Try.prog 31 #[.agg #[.slice (some ⟨g, 0, none⟩) n c, .bool own]] w (Two w (.int .i64 (2 ^ (qS (spT F (2 ^ n - 1)) n n).1.length : Nat)) true) := by
  have HA := hide ha
  have HG := hide hgd
  have HF := hide hF
  clear ha hgd hF
  go_enter Try.func31, Try.ntmps31
  go_wp2_with fail
  refine (grGood_any _ _ _ (nv F) _ _ (by omega) (HA.out.alloc _)).mono ?_
  rintro e w1 ⟨rfl, hb1⟩
  simp only [HG.out]
  have hp := (Arr.box w 28 (.slice (some ⟨g, 0, none⟩) n c) (.bool own)).all hb1
  have c0 : w1.cell? ⟨w.heap.size, 0, none⟩ = some (.slice (some ⟨g, 0, none⟩) n c) := hp.cell (by omega)
  have c1 : w1.cell? ⟨w.heap.size, 1, none⟩ = some (.bool own) := hp.cell (by omega)
  have HA1 := hide ((HA.out.alloc _).all hb1)
  have HB1 := hide ((by go_grown : Below w.heap.size w _).trans (hb1.mono (by simp)))
  clear hb1 hp
  go_wp2_with fail
  refine (paDom_ok _ _ _ F own _ hn HF.out HG.out HA1.out).mono ?_
  rintro e w2 ⟨rfl, hb2⟩
  have HB2 := hide (HB1.out.trans (hb2.mono HB1.out.size))
  clear hb2 c0 c1
  go_wp2
  go_ret2
  exact ⟨rfl, HB2.out⟩
end Go.Proofs.Ytcpbbpgiicakcaa
