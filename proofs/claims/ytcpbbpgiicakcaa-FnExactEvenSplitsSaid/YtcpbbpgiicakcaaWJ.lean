import Derived.Test.YtcpbbpgiicakcaaWI
namespace Go.Proofs.Ytcpbbpgiicakcaa
open Go.RowKit
set_option maxHeartbeats 2000000
theorem put_new (Bs : Nat) (A1 A2 : Option Addr) (n c1 c2 : Nat) (A : List Nat) (s rw wt : Nat) (w : World) (hA : ∀ a ∈ A, 2 ≤ a ∧ a < 131072) (hs : s < 131072) (hlen : n ≤ 64)
    (hsys : Sys w Bs A1 A2 n c1 c2 A) (hr : s >>> 1 = rw) (ht : s % 2 = wt) (hlow : ¬ rd A s < 2) :
    Calls Try.prog 85 #[.pointer (some ⟨Bs, 0, none⟩), .int .i64 rw, .int .i64 wt] w fun e w' => e = .returned (.bool true) ∧ (∃ A1' A2' c1' c2', Sys w' Bs A1' A2' (n + 1) c1' c2' (A ++ [rd A s])) ∧ Below Bs w w' := by
  have hbx := hsys.box
  have h1 := hsys.rows.src (by rw [rowsA_len]; exact hsys.len)
  have h2 := hsys.want.src (by rw [wantA_len]; exact hsys.len)
  have hn := hsys.len
  have HSys := hide hsys
  have f0 := hbx.frozen 0
  have f1 := hbx.frozen 1
  clear hsys
  have c0 := hbx.cell 0
  have c1' := hbx.cell 1
  simp only [List.getElem?_toArray, List.getElem?_cons_zero, List.getElem?_cons_succ] at c0 c1'
  have HA := hide hA
  have H1 := hide h1
  have H2 := hide h2
  have HN := hide hn
  have HLow := hide hlow
  have hbl := hbx.lt
  have HR0 : Hid (rd (A.take 0) s >>> 1 = rw) := hide (by simpa [rd] using hr)
  have HW0 : Hid (rd (A.take 0) s % 2 = wt) := hide (by simpa [rd] using ht)
  have hlt : ∀ k, rd (A.take k) s < 131072 := fun k => rd_lt (n := 17) (fun a ha => (hA a (List.mem_of_mem_take ha)).2) s hs
  have HLT := hide hlt
  clear hA h1 h2 hn hbx hr ht hlow hlt
  go_enter Try.func85, Try.ntmps85
  go_wp2
  go_loop [1, 2, 14] (fun rv tv i => ∃ k x y : Nat, k ≤ n ∧ i = .int .i64 k ∧ rv = .int .i64 x ∧ tv = .int .i64 y ∧ Hid (rd (A.take k) s >>> 1 = x) ∧ Hid (rd (A.take k) s % 2 = y)) (fun _ _ i => n - (intOf i).toNat)
  case atStart => exact ⟨0, rw, wt, by omega, rfl, rfl, rfl, HR0, HW0⟩
  case round =>
    obtain ⟨k, x, y, hk, rfl, rfl, rfl, HX, HY⟩ := hrel
    have hx16 : x < 65536 := by have h := HLT.out k; have h2 := HX.out; rw [shr_div] at h2; omega
    have hy2 : y < 2 := by have h2 := HY.out; omega
    by_cases hlt : k < n
    · have hkn : k < A.length := by rw [HN.out]; exact hlt
      obtain ⟨b1, o1, rfl, hb1, hc1⟩ := H1.out k hlt
      obtain ⟨b2, o2, rfl, hb2, hc2⟩ := H2.out k hlt
      rw [rowsA_get hkn] at hc1
      rw [wantA_get hkn] at hc2
      obtain ⟨a, ha⟩ : ∃ a, A[k] = a := ⟨_, rfl⟩
      obtain ⟨ha2, ha17⟩ := HA.out a (by rw [← ha]; exact List.getElem_mem hkn)
      have hst := stp_parts (s := rd (A.take k) s) ha2
      have hsucc : rd (A.take (k + 1)) s = stp (rd (A.take k) s) a := by rw [List.take_succ_eq_append_getElem hkn, ha, rd_end]
      rw [HX.out, HY.out, ← hsucc] at hst
      obtain ⟨p, hp⟩ : ∃ p, a >>> 1 = p := ⟨_, rfl⟩
      obtain ⟨q, hq⟩ : ∃ q, a % 2 = q := ⟨_, rfl⟩
      rw [ha, hp] at hc1
      rw [ha, hq] at hc2
      rw [hp, hq] at hst
      have hp0 : p ≠ 0 := by rw [shr_div] at hp; omega
      have hp40 : p < 1099511627776 := by rw [shr_div] at hp; omega
      have hq2 : q < 2 := by omega
      have hlog := log40 hp0 hp40
      have e1 := i64_xor_nat x p (by omega) (by omega)
      have e2 := i64_xor_nat y q (by omega) (by omega)
      have HST := hide hst
      clear hst hsucc ha hp hq ha2 ha17 hkn
      cases hb : x.testBit p.log2
      · have HS1 : Hid (rd (A.take (k + 1)) s >>> 1 = x) := hide (by have := HST.out.1; rw [hb] at this; exact this)
        have HS2 : Hid (rd (A.take (k + 1)) s % 2 = y) := hide (by have := HST.out.2; rw [hb] at this; exact this)
        go_wp2_with (first | (go_at_call 92; refine (soTop_any _ _ hp40 hp0).mono ?_; rintro e w3 ⟨rfl, rfl⟩) | (go_at_call 63; refine (grInG_any _ _ (by omega) (by omega) (by omega) _).mono ?_; rintro e w3 ⟨rfl, rfl⟩; simp only [Int.toNat_natCast, bt_nat, hb]))
        go_round
        case rel => exact ⟨k + 1, x, y, by omega, by go_num, rfl, rfl, HS1, HS2⟩
        case measure => simp [intOf]; omega
      · have HS1 : Hid (rd (A.take (k + 1)) s >>> 1 = x ^^^ p) := hide (by have := HST.out.1; rw [hb] at this; exact this)
        have HS2 : Hid (rd (A.take (k + 1)) s % 2 = y ^^^ q) := hide (by have := HST.out.2; rw [hb] at this; exact this)
        go_wp2_with (first | (go_at_call 92; refine (soTop_any _ _ hp40 hp0).mono ?_; rintro e w3 ⟨rfl, rfl⟩) | (go_at_call 63; refine (grInG_any _ _ (by omega) (by omega) (by omega) _).mono ?_; rintro e w3 ⟨rfl, rfl⟩; simp only [Int.toNat_natCast, bt_nat, hb]))
        go_round
        case rel => exact ⟨k + 1, x ^^^ p, y ^^^ q, by omega, by go_num, by go_num, by go_num, HS1, HS2⟩
        case measure => simp [intOf]; omega
    · have hkn : A.take k = A := List.take_of_length_le (by rw [HN.out]; omega)
      have h1 := HX.out
      have h2 := HY.out
      rw [hkn] at h1 h2
      have hl := HLow.out
      have hx0 : x ≠ 0 := by rw [shr_div] at h1; omega
      have HR : Hid (rowsA (A ++ [rd A s]) = rowsA A ++ [x]) := hide (by rw [rowsA_snoc, h1])
      have HW : Hid (wantA (A ++ [rd A s]) = wantA A ++ [y]) := hide (by rw [wantA_snoc, h2])
      have HO1 := hide HSys.out.rows
      have HO2 := hide HSys.out.want
      have HSep := hide HSys.out.sep
      have HL1 : Hid ((rowsA A).length = n) := hide (by rw [rowsA_len]; exact HN.out)
      have HL2 : Hid ((wantA A).length = n) := hide (by rw [wantA_len]; exact HN.out)
      have HBox := hide HSys.out.box
      have e3 : ((x : Int) == 0) = false := nat_ne0 hx0
      clear h1 h2 hl
      have hk' : k = n := by omega
      subst hk'
      go_wp2_with (first | (at_builtin; refine wpList_append_two _ rfl _ _ rfl (Bs + 1) A1 c1 k (rowsA A) x w.heap.size rfl (HO1.out.alloc _) HL1.out rfl (by simp [go_sem]) (by omega) (by simp; omega) (.slice A2 k c2) (wantA A) (HO2.out.alloc _) HSep.out ?_; intro A5 c5 w5 ho5 ho6 hsep5 hb5; have hbx5 := (HBox.out.alloc _).below hb5 (by omega); have HBox5 := hide hbx5; have d0 : w5.cell? ⟨Bs, 0, none⟩ = some (.slice A1 k c1) := hbx5.cell 0; have d1 : w5.cell? ⟨Bs, 1, none⟩ = some (.slice A2 k c2) := hbx5.cell 1; have h0 : w5.frozen? ⟨Bs, 0, none⟩ = false := hbx5.frozen 0; have h1 : w5.frozen? ⟨Bs, 1, none⟩ = false := hbx5.frozen 1; have hl5 : Bs < w5.heap.size := hbx5.lt; have HO5 := hide ho5; have HO6 := hide ho6; have HSep5 := hide hsep5; have HB5 := hide (((Below.refl (Bs + 1) w).alloc (by omega) _).trans hb5); clear ho5 ho6 hsep5 hb5 hbx5) | (at_builtin; refine wpList_append_two _ rfl _ _ rfl (Bs + 1) A2 c2 k (wantA A) y _ rfl ((HO6.out.far (p := ⟨Bs, 0, none⟩) (by simp) _).alloc _) HL2.out rfl (by simp [go_sem]) (by omega) (by simp; omega) (.slice A5 (k + 1) c5) (rowsA A ++ [x]) ((HO5.out.far (p := ⟨Bs, 0, none⟩) (by simp) _).alloc _) HSep5.out.symm ?_; intro A7 c7 w7 ho7 ho8 hsep7 hb7; have hbx7 := ((HBox5.out.set 0 (.slice A5 (k + 1) c5)).alloc _).below hb7 (by omega); have HBox7 := hide hbx7; have q0 : w7.cell? ⟨Bs, 0, none⟩ = some (.slice A5 (k + 1) c5) := hbx7.cell 0; have q1 : w7.cell? ⟨Bs, 1, none⟩ = some (.slice A2 k c2) := hbx7.cell 1; have q2 : w7.frozen? ⟨Bs, 1, none⟩ = false := hbx7.frozen 1; have hl7 : Bs < w7.heap.size := hbx7.lt; have HO7 := hide ho7; have HO8 := hide ho8; have HSep7 := hide hsep7; have HB7 := hide (((HB5.out.mono (Nat.le_succ _)).setCell (Nat.le_refl _) _).alloc (by simp; omega) _ |>.trans (hb7.mono (by omega))); clear ho7 ho8 hsep7 hb7 hbx7))
      go_ret
      refine ⟨rfl, ⟨A5, A7, c5, c7, ?_⟩, HB7.out.setCell (Nat.le_refl _) _⟩
      refine ⟨?_, ?_, ?_, fun j hj hj' => HSep7.out j hj' hj, by rw [List.length_append, HN.out]; rfl⟩
      · have h := HBox7.out.set 1 (.slice A7 (k + 1) c7)
        simpa using h
      · rw [HR.out]; exact HO8.out.far (p := ⟨Bs, 1, none⟩) (by simp) _
      · rw [HW.out]; exact HO7.out.far (p := ⟨Bs, 1, none⟩) (by simp) _
end Go.Proofs.Ytcpbbpgiicakcaa
