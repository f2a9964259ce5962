import Derived.Test.YtmcimfblhpflnaaRL0
namespace Go.Proofs.Ytmcimfblhpflnaa
open Go.RowKit
set_option maxHeartbeats 2000000
theorem zero_in (C : Nat) : inB 0 0 (2 ^ C - 1) = true := by
  simp only [inB, decide_eq_true_eq]
  rw [← pow_nat]
  have := Nat.two_pow_pos C
  omega
theorem frImpl_a (r c l : Int) (own : Bool) (w : World) (H : Hid (sidesB r c 1 = false)) :
    Calls Try.prog 41 #[.int .i64 r, .int .i64 c, .bool own, .int .i64 l] w (NoRes w) := by
  go_enter Try.func41, Try.ntmps41
  go_wp2_with fail
  refine (isOfGrid_no r c l own _ H.out).mono ?_
  rintro e w2 ⟨rfl, hb⟩
  have HB := Lib.hid ((by go_grown : Below w.heap.size w _).trans (hb.mono (by simp)))
  clear hb
  go_wp2
  go_ret2
  exact ⟨rfl, HB.out⟩
theorem frImpl_b (R C p : Nat) (l : Int) (own : Bool) (w : World) (hs : Sides R C) (HP : Hid (R * C = p)) (HT : Hid (inB l 0 (2 ^ p - 1) = false)) :
    Calls Try.prog 41 #[.int .i64 R, .int .i64 C, .bool own, .int .i64 l] w (NoRes w) := by
  go_enter Try.func41, Try.ntmps41
  go_wp2_with fail
  refine (isOfGrid_ok R C p l own _ hs HP.out).mono ?_
  rintro e w2 ⟨rfl, hb⟩
  rw [HT.out]
  have HB := Lib.hid ((by go_grown : Below w.heap.size w _).trans (hb.mono (by simp)))
  clear hb
  go_wp2
  go_ret2
  exact ⟨rfl, HB.out⟩
theorem frImpl_c (R C p L : Nat) (own : Bool) (w : World) (hs : Sides R C) (HP : Hid (R * C = p)) (HT : Hid (inB L 0 (2 ^ p - 1) = true)) (h8 : 8 < C) :
    Calls Try.prog 41 #[.int .i64 R, .int .i64 C, .bool own, .int .i64 L] w (NoRes w) := by
  go_enter Try.func41, Try.ntmps41
  go_wp2_with fail
  refine (isOfGrid_ok R C p L own _ hs HP.out).mono ?_
  rintro e w2 ⟨rfl, hb⟩
  rw [HT.out]
  have HB := Lib.hid ((by go_grown : Below w.heap.size w _).trans (hb.mono (by simp)))
  clear hb
  go_wp2
  go_ret2
  exact ⟨rfl, HB.out⟩
theorem frImpl_d (R C p L : Nat) (own : Bool) (w : World) (hs : Sides R C) (HP : Hid (R * C = p)) (HT : Hid (inB L 0 (2 ^ p - 1) = true)) (h8 : C ≤ 8) (hl : L < 9223372036854775808) :
    Calls Try.prog 41 #[.int .i64 R, .int .i64 C, .bool own, .int .i64 L] w (ListOk w (fls C own L R (2 ^ C))) := by
  obtain ⟨P, hP⟩ : ∃ P : Nat, 2 ^ C = P := ⟨_, rfl⟩
  have hW : RowKit.wrap64 (2 ^ C) = (P : Int) := by rw [wrap_one hs.2.2.2.1, hP]
  have hP2 : P ≤ 65536 := by rw [← hP]; exact pow16n hs.2.2.2.1
  have h16 := hs.2.1
  have HL := Lib.hid hl
  have HPP := Lib.hid hP
  rw [hP]
  clear hl hP
  go_enter Try.func41, Try.ntmps41
  go_wp2_with fail
  refine (isOfGrid_ok R C p L own _ hs HP.out).mono ?_
  rintro e w2 ⟨rfl, hb⟩
  rw [HT.out]
  have c1 : w2.cell? ⟨w.heap.size, 0, none⟩ = some (.int .i64 R) := (hb.cell (p := ⟨w.heap.size, 0, none⟩) (by simp)).trans (by simp [go_sem])
  have c2 : w2.cell? ⟨w.heap.size, 1, none⟩ = some (.int .i64 C) := (hb.cell (p := ⟨w.heap.size, 1, none⟩) (by simp)).trans (by simp [go_sem])
  have c3 : w2.cell? ⟨w.heap.size, 2, none⟩ = some (.bool own) := (hb.cell (p := ⟨w.heap.size, 2, none⟩) (by simp)).trans (by simp [go_sem])
  have c4 : w2.cell? ⟨w.heap.size, 3, none⟩ = some (.int .i64 L) := (hb.cell (p := ⟨w.heap.size, 3, none⟩) (by simp)).trans (by simp [go_sem])
  have HB := Lib.hid ((by go_grown : Below w.heap.size w _).trans (hb.mono (by simp)))
  clear hb
  have hz := HB.out.size
  have hbl : w.heap.size < w2.heap.size := World.block_lt_of_cell? w2 _ c1
  have KK : Hid (Box4 w2 w.heap.size (.int .i64 R) (.int .i64 C) (.bool own) (.int .i64 L)) := Lib.hid ⟨c1, c2, c3, c4⟩
  clear c1 c2 c3 c4
  go_wp2
  simp only [hW]
  clear hW
  go_loopw [11, 27] (fun v i wr => ∃ (k m : Nat) (A : Option Addr) (d : Nat), k ≤ P ∧ i = .int .i64 k ∧ v = .slice A m d ∧ Hid ((fls C own L R k).length = m) ∧ OL wr w2.heap.size (.slice A m d) (fls C own L R k) ∧ Below w2.heap.size w2 wr) (fun _ i _ => P - (intOf i).toNat)
  case atStart => exact ⟨0, 0, none, 0, by omega, rfl, rfl, Lib.hid rfl, OL.nil _ _, Below.refl _ _⟩
  case round =>
    obtain ⟨k, m, A, d, hk, rfl, rfl, HM, ho, hb⟩ := hrel
    have hsz := hb.size
    have HO := Lib.hid ho
    have HB2 := Lib.hid hb
    obtain ⟨c1, c2, c3, c4⟩ := KK.out.below hb
    clear ho hb
    by_cases hlt : k < P
    · have hF : k < 2 ^ C := by rw [HPP.out]; exact hlt
      have HF := Lib.hid hF
      clear hF
      have hm : m ≤ 65536 := by have h1 := fls_len C own L R k; rw [HM.out] at h1; omega
      by_cases hz : prw C own L k R = 0
      · have t := nat_eq0 hz
        have HS := Lib.hid (show fls C own L R (k + 1) = fls C own L R k ++ [k] by rw [fls_succ, if_pos hz])
        clear hz
        go_wp2_with (first | (go_at_call 44; refine (left_any R C L k own _ (by omega) HL.out (by omega) HF.out).mono ?_; rintro e w3 ⟨rfl, hb3⟩; have HO3 := Lib.hid (HO.out.all hb3); have hsz3 := hb3.size; have HB3 := Lib.hid (HB2.out.trans (hb3.mono hsz)); clear hb3) | (at_builtin; refine wpList_append_nat _ rfl _ _ rfl w2.heap.size A d m (fls C own L R k) k w3.heap.size rfl (HO3.out.alloc _) HM.out rfl (by simp [go_sem]) (by omega) (by simp; omega) ?_; intro A2 c2 w5 ho2 hb2; have HO2 := Lib.hid ho2; have HB2 := Lib.hid hb2; clear ho2 hb2))
        go_roundw
        case rel => exact ⟨k + 1, m + 1, A2, c2, by omega, by go_num, rfl, Lib.hid (by rw [HS.out, List.length_append, HM.out]; rfl), by rw [HS.out]; exact HO2.out, (HB3.out.alloc (by omega) _).trans HB2.out⟩
        case measure => simp [intOf]; omega
      · have t := nat_neq0 hz
        have HS := Lib.hid (show fls C own L R (k + 1) = fls C own L R k by rw [fls_succ, if_neg hz, List.append_nil])
        clear hz
        go_wp2_with (first | (go_at_call 44; refine (left_any R C L k own _ (by omega) HL.out (by omega) HF.out).mono ?_; rintro e w3 ⟨rfl, hb3⟩; have HO3 := Lib.hid (HO.out.all hb3); have hsz3 := hb3.size; have HB3 := Lib.hid (HB2.out.trans (hb3.mono hsz)); clear hb3))
        go_roundw
        case rel => exact ⟨k + 1, m, A, d, by omega, by go_num, rfl, Lib.hid (by rw [HS.out]; exact HM.out), by rw [HS.out]; exact HO3.out, HB3.out⟩
        case measure => simp [intOf]; omega
    · have hkn : k = P := by omega
      subst hkn
      go_wp2
      go_ret2
      exact ⟨A, m, d, rfl, HM.out, ⟨HO.out.1, by
        rcases HO.out.2 with h | ⟨g, cap, cur, h1, h2, h3⟩
        · exact .inl h
        · exact .inr ⟨g, cap, cur, h1, by omega, h3⟩⟩, HB.out.trans (HB2.out.mono (by omega))⟩
end Go.Proofs.Ytmcimfblhpflnaa
