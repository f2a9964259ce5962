import Derived.Test.YtibikoajejfdeaaSH
import Derived.Lib.ItoaNum
namespace Go.Proofs.Ytibikoajejfdeaa
open Go.RowKit
set_option maxHeartbeats 1000000
theorem bitLen_log {x : Nat} (h0 : x ≠ 0) (h : x < 1099511627776) : Lib.bitLen x = x.log2 + 1 := by
  have hb := Lib.bitLenAux_bounds 64 x (by have : (2 : Nat) ^ 64 = 18446744073709551616 := rfl; omega) h0
  show Lib.bitLenAux 64 x = _
  obtain ⟨h1, h2, h3⟩ := hb
  have a1 := (Nat.le_log2 h0).2 h2
  have a2 := (Nat.log2_lt h0).2 h3
  omega
theorem greatest_any (s : Nat) (w : World) (hs : s < 1099511627776) (h0 : s ≠ 0) :
    Calls Try.prog 37 #[.int .i64 s] w fun e w' => e = .returned (.int .i64 (s.log2 : Nat)) ∧ w' = w := by
  have hb := bitLen_log h0 hs
  have hcon := Any.bits_Len Try.len (s : Int) w (by omega) (by omega)
  change Calls Try.prog 48 _ _ _ at hcon
  rw [Int.toNat_natCast, hb] at hcon
  have hl := log40 h0 hs
  have HC := hide hcon
  clear hcon hb
  go_enter Try.func37, Try.ntmps37
  go_wp2_with (go_at_call 48; refine HC.out.mono ?_; rintro e w3 ⟨rfl, rfl⟩)
  go_ret
  exact ⟨ret_int (by omega), rfl⟩
theorem rd_snoc (L : List Nat) (b s : Nat) : rd (L ++ [b]) s = stp (rd L s) b := by simp [rd]
theorem reduced_any (A : Option Addr) (c n : Nat) (L : List Nat) (s : Nat) (w : World) (hL : M40 L) (h0 : NZ L) (hs : s < 1099511627776) (hn : L.length = n) (hlen : n ≤ 1048576) (hsrc : Src w A n (lv L)) :
    Calls Try.prog 54 #[.slice A n c, .int .i64 s] w fun e w' => e = .returned (.int .i64 (rd L s : Nat)) ∧ w' = w := by
  have HL := hide hL
  have H0 := hide h0
  have HS := hide hsrc
  have HN := hide hn
  clear hL h0 hsrc hn
  go_enter Try.func54, Try.ntmps54
  go_wp2
  go_loop [1, 9] (fun t i => ∃ m : Nat, m ≤ n ∧ i = .int .i64 m ∧ t = .int .i64 (rd (L.take m) s : Nat)) (fun _ i => n - (intOf i).toNat)
  case atStart => exact ⟨0, by omega, rfl, rfl⟩
  case round =>
    obtain ⟨m, hm, rfl, rfl⟩ := hrel
    have hx40 : rd (L.take m) s < 1099511627776 := rd40 (fun b hb => HL.out b (List.mem_of_mem_take hb)) hs
    obtain ⟨x, hx⟩ : ∃ x, rd (L.take m) s = x := ⟨_, rfl⟩
    rw [hx] at hx40 ⊢
    have HX := hide hx
    clear hx
    by_cases hp : m < n
    · have hjn : m < L.length := by rw [HN.out]; exact hp
      obtain ⟨b, off, hA, hbl, hc0⟩ := HS.out m hp
      subst hA
      obtain ⟨y, hy⟩ : ∃ y, L[m] = y := ⟨_, rfl⟩
      have hym : y ∈ L := by rw [← hy]; exact List.getElem_mem hjn
      have hy40 := HL.out y hym
      have hyn := H0.out y hym
      have hc : w.cell? ⟨b, off + m, none⟩ = some (.int .i64 (y : Nat)) := by rw [hc0, lv_get hjn, hy]
      have hlog := log40 hyn hy40
      have HD : Hid (rd (L.take (m + 1)) s = stp x y) := hide (by rw [List.take_succ_eq_append_getElem hjn, hy, rd_snoc, HX.out])
      have e1 := i64_xor_nat x y (by omega) (by omega)
      clear hy hc0 hjn hym
      cases hb : x.testBit y.log2
      · go_wp2_with (first | (go_at_call 37; refine (greatest_any _ _ hy40 hyn).mono ?_; rintro e w3 ⟨rfl, rfl⟩) | (go_at_call 40; refine (hasG_any _ _ (by omega) (by omega) _).mono ?_; rintro e w3 ⟨rfl, rfl⟩; simp only [Int.toNat_natCast, bt_nat, hb]))
        go_round
        case rel => exact ⟨m + 1, by omega, by go_num, by rw [HD.out, stp, hb]; rfl⟩
        case measure => simp [intOf] <;> omega
      · go_wp2_with (first | (go_at_call 37; refine (greatest_any _ _ hy40 hyn).mono ?_; rintro e w3 ⟨rfl, rfl⟩) | (go_at_call 40; refine (hasG_any _ _ (by omega) (by omega) _).mono ?_; rintro e w3 ⟨rfl, rfl⟩; simp only [Int.toNat_natCast, bt_nat, hb]))
        go_round
        case rel => exact ⟨m + 1, by omega, by go_num, by rw [HD.out, stp, hb]; rfl⟩
        case measure => simp [intOf] <;> omega
    · have hmn : m = n := by omega
      subst hmn
      go_wp2
      go_ret
      exact ⟨ret_int (by have := HX.out; rw [List.take_of_length_le (by rw [HN.out]; omega)] at this; rw [this]), rfl⟩
/-- Numbers with greater greatest elements are greater. -/
theorem lt_of_log {a b : Nat} (hb : b ≠ 0) (h : a.log2 < b.log2) : a < b :=
  Nat.lt_of_lt_of_le (Nat.lt_of_lt_of_le Nat.lt_log2_self (Nat.pow_le_pow_right (by decide) h)) (Nat.log2_self_le hb)
theorem ins_put {L : List Nat} {r : Nat} (h : Bas L) (hr : r ≠ 0) (hc : Cl L r) : insL (L.map (fun b => stp b r)) ((L.map (fun b => stp b r)).countP (fun x => decide (x < r))) r = put L r := by
  have hs := h.split r.log2 (fun b hb => hc.ne hr hb)
  obtain ⟨L1, h1⟩ : ∃ L1, L.filter (fun b => decide (b.log2 < r.log2)) = L1 := ⟨_, rfl⟩
  obtain ⟨L2, h2⟩ : ∃ L2, L.filter (fun b => decide (r.log2 < b.log2)) = L2 := ⟨_, rfl⟩
  have m1 : ∀ b ∈ L1, b ∈ L ∧ b.log2 < r.log2 := by intro b hb; rw [← h1] at hb; simpa using hb
  have m2 : ∀ b ∈ L2, b ∈ L ∧ r.log2 < b.log2 := by intro b hb; rw [← h2] at hb; simpa using hb
  rw [h1, h2] at hs
  have e1 : L1.map (fun b => stp b r) = L1 := by
    conv => rhs; rw [← List.map_id L1]
    apply List.map_congr_left
    intro b hb
    simp only [stp, bit_hi (m1 b hb).2, id]; simp
  have eM : L.map (fun b => stp b r) = L1 ++ L2.map (fun b => stp b r) := by rw [hs, List.map_append, e1]
  have ec : (L.map (fun b => stp b r)).countP (fun x => decide (x < r)) = L1.length := by
    rw [eM, List.countP_append]
    have a1 : L1.countP (fun x => decide (x < r)) = L1.length := by
      rw [List.countP_eq_length]; intro b hb; exact decide_eq_true (lt_of_log hr (m1 b hb).2)
    have a2 : (L2.map (fun b => stp b r)).countP (fun x => decide (x < r)) = 0 := by
      rw [List.countP_eq_zero]
      intro b hb
      simp only [List.mem_map] at hb
      obtain ⟨a, ha, rfl⟩ := hb
      have hne := h.1 a (m2 a ha).1
      have := lt_of_log (a := r) (stp_ne hne (m2 a ha).2) (by rw [stp_log2 hne (m2 a ha).2]; exact (m2 a ha).2)
      simp; omega
    omega
  rw [ec, eM, insL, put, h1, h2]
  simp
theorem stp_sorted {L : List Nat} {r : Nat} (h : Bas L) (hr : r ≠ 0) (hc : Cl L r) : (L.map (fun b => stp b r)).Pairwise (· < ·) := by
  have hp := put_bas h hr hc
  rw [← ins_put h hr hc] at hp
  have h3 : (insL (L.map (fun b => stp b r)) ((L.map (fun b => stp b r)).countP (fun x => decide (x < r))) r).Pairwise (· < ·) :=
    List.Pairwise.imp_of_mem (fun {a b} _ hb hab => lt_of_log (hp.1 b hb) hab.1) hp.2
  refine h3.sublist ?_
  generalize (L.map (fun b => stp b r)).countP (fun x => decide (x < r)) = p
  generalize L.map (fun b => stp b r) = M
  conv => lhs; rw [← List.take_append_drop p M]
  exact List.Sublist.append (List.Sublist.refl _) (List.sublist_cons_self _ _)
theorem search_any (B : Nat) (A : Option Addr) (c n : Nat) (M : List Nat) (r : Nat) (w : World) (hown : OL w B (.slice A n c) M) (hn : M.length = n) (hlen : n ≤ 1048576) (hs : M.Pairwise (· < ·)) :
    Calls Try.prog 55 #[.slice A n c, .int .i64 r] w fun e w' => (∃ b, e = .returned (.tuple #[.int .i64 (M.countP (fun x => decide (x < r)) : Nat), .bool b])) ∧ ∃ q, w' = w.drewN q := by
  subst hn
  by_cases h0 : M.length = 0
  · have : M = [] := List.length_eq_zero_iff.1 h0
    subst this
    refine (Any.slices_BinarySearch_int_empty Try.search A c r w).mono ?_
    rintro e w' ⟨rfl, rfl⟩
    exact ⟨⟨false, rfl⟩, 0, rfl⟩
  · rcases hown.cases rfl with ⟨rfl, h1, _⟩ | ⟨g, cur, rfl, hBg, hg, hnc, hm, hcs, hcur⟩
    · omega
    · have hzl : (M.map (fun x : Nat => (x : Int))).length = M.length := by simp
      refine (Any.slices_BinarySearch_int Try.search g 0 M.length c (M.map (fun x : Nat => (x : Int))) r w (by omega) (by omega) (fun j hj => ?_) ?_).mono ?_
      · rw [hzl] at hj
        rw [hg.cell, Nat.zero_add, hcur j hj]
        simp [lv, hj]
      · rw [List.take_of_length_le (by omega), List.pairwise_map]
        exact hs.imp (fun h => by omega)
      · rintro e w' ⟨he, q, rfl⟩
        have ec : (List.take M.length (M.map (fun x : Nat => (x : Int)))).countP (fun x => decide (x < (r : Int))) = M.countP (fun x => decide (x < r)) := by
          rw [List.take_of_length_le (by omega), List.countP_map]
          congr 1
          funext x; simp [Function.comp]
        rw [ec] at he
        exact ⟨⟨_, he⟩, q, rfl⟩
end Go.Proofs.Ytibikoajejfdeaa
