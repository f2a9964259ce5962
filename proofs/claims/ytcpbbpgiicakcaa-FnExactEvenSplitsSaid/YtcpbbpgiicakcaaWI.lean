import Derived.Test.YtcpbbpgiicakcaaWH
namespace Go.Proofs.Ytcpbbpgiicakcaa
open Go.RowKit
set_option maxHeartbeats 2000000
/-- The buttons of the equations, and what they ask for. -/
def rowsA (A : List Nat) : List Nat := A.map (· >>> 1)
def wantA (A : List Nat) : List Nat := A.map (· % 2)
theorem rowsA_len (A : List Nat) : (rowsA A).length = A.length := by simp [rowsA]
theorem wantA_len (A : List Nat) : (wantA A).length = A.length := by simp [wantA]
theorem rowsA_get {A : List Nat} {k : Nat} (h : k < A.length) : lv (rowsA A) k = .int .i64 ((A[k] >>> 1 : Nat) : Int) := by simp [lv, rowsA, h]
theorem wantA_get {A : List Nat} {k : Nat} (h : k < A.length) : lv (wantA A) k = .int .i64 ((A[k] % 2 : Nat) : Int) := by simp [lv, wantA, h]
theorem rowsA_snoc (A : List Nat) (r : Nat) : rowsA (A ++ [r]) = rowsA A ++ [r >>> 1] := by simp [rowsA]
theorem wantA_snoc (A : List Nat) (r : Nat) : wantA (A ++ [r]) = wantA A ++ [r % 2] := by simp [wantA]
theorem xor_mod2 (a b : Nat) : (a ^^^ b) % 2 = (a % 2) ^^^ (b % 2) := Nat.xor_mod_two_pow (n := 1)
theorem stp_parts {s a : Nat} (ha : 2 ≤ a) : stp s a >>> 1 = (if (s >>> 1).testBit (a >>> 1).log2 then (s >>> 1) ^^^ (a >>> 1) else s >>> 1) ∧ stp s a % 2 = (if (s >>> 1).testBit (a >>> 1).log2 then (s % 2) ^^^ (a % 2) else s % 2) := by
  have h1 := shr_log2 (s := a) (n := 1) (by simpa using ha)
  unfold stp
  rw [Nat.testBit_shiftRight, h1]
  split
  · exact ⟨Nat.shiftRight_xor_distrib .., xor_mod2 ..⟩
  · exact ⟨rfl, rfl⟩
/-- A system in memory: a struct of two lists. -/
structure Sys (w : World) (Bs : Nat) (A1 A2 : Option Addr) (n c1 c2 : Nat) (A : List Nat) : Prop where
  box : Blk w 81 Bs #[.slice A1 n c1, .slice A2 n c2]
  rows : OL w (Bs + 1) (.slice A1 n c1) (rowsA A)
  want : OL w (Bs + 1) (.slice A2 n c2) (wantA A)
  sep : Sep (.slice A1 n c1) (.slice A2 n c2)
  len : A.length = n
theorem Sys.all {w w' : World} {Bs : Nat} {A1 A2 : Option Addr} {n c1 c2 : Nat} {A : List Nat} (h : Sys w Bs A1 A2 n c1 c2 A) (hb : Below w.heap.size w w') : Sys w' Bs A1 A2 n c1 c2 A :=
  ⟨h.box.all hb, h.rows.all hb, h.want.all hb, h.sep, h.len⟩
theorem shr_div (x : Nat) : x >>> 1 = x / 2 := Nat.shiftRight_eq_div_pow x 1
/-- An equation that says nothing new, or is refused. -/
theorem put_read (Bs g1 : Nat) (A1 A2 : Option Addr) (n c1 c2 : Nat) (A : List Nat) (s rw wt : Nat) (w : World) (hA : ∀ a ∈ A, 2 ≤ a ∧ a < 131072) (hs : s < 131072) (hlen : n ≤ 64)
    (hbx : Blk w 81 Bs #[.slice A1 n c1, .slice A2 n c2]) (h1 : Src w A1 n (lv (rowsA A))) (h2 : Src w A2 n (lv (wantA A))) (hn : A.length = n) (hr : s >>> 1 = rw) (ht : s % 2 = wt) (hlow : rd A s < 2) :
    Calls Try.prog 85 #[.pointer (some ⟨Bs, 0, none⟩), .int .i64 rw, .int .i64 wt] w fun e w' => e = .returned (.bool (decide (rd A s = 0))) ∧ w' = w := by
  have c0 := hbx.cell 0
  have c1' := hbx.cell 1
  simp only [List.getElem?_toArray, List.getElem?_cons_zero, List.getElem?_cons_succ] at c0 c1'
  have HA := hide hA
  have H1 := hide h1
  have H2 := hide h2
  have HN := hide hn
  have HLow := hide hlow
  have hbl := hbx.lt
  have HR0 : Hid (rd (A.take 0) s >>> 1 = rw) := hide (by simpa [rd] using hr)
  have HW0 : Hid (rd (A.take 0) s % 2 = wt) := hide (by simpa [rd] using ht)
  have hlt : ∀ k, rd (A.take k) s < 131072 := fun k => rd_lt (n := 17) (fun a ha => (hA a (List.mem_of_mem_take ha)).2) s hs
  have HLT := hide hlt
  clear hA h1 h2 hn hbx hr ht hlow hlt
  go_enter Try.func85, Try.ntmps85
  go_wp2
  go_loop [1, 2, 14] (fun rv tv i => ∃ k x y : Nat, k ≤ n ∧ i = .int .i64 k ∧ rv = .int .i64 x ∧ tv = .int .i64 y ∧ Hid (rd (A.take k) s >>> 1 = x) ∧ Hid (rd (A.take k) s % 2 = y)) (fun _ _ i => n - (intOf i).toNat)
  case atStart => exact ⟨0, rw, wt, by omega, rfl, rfl, rfl, HR0, HW0⟩
  case round =>
    obtain ⟨k, x, y, hk, rfl, rfl, rfl, HX, HY⟩ := hrel
    have hx16 : x < 65536 := by have h := HLT.out k; have h2 := HX.out; rw [shr_div] at h2; omega
    have hy2 : y < 2 := by have h2 := HY.out; omega
    by_cases hlt : k < n
    · have hkn : k < A.length := by rw [HN.out]; exact hlt
      obtain ⟨b1, o1, rfl, hb1, hc1⟩ := H1.out k hlt
      obtain ⟨b2, o2, rfl, hb2, hc2⟩ := H2.out k hlt
      rw [rowsA_get hkn] at hc1
      rw [wantA_get hkn] at hc2
      obtain ⟨a, ha⟩ : ∃ a, A[k] = a := ⟨_, rfl⟩
      obtain ⟨ha2, ha17⟩ := HA.out a (by rw [← ha]; exact List.getElem_mem hkn)
      have hst := stp_parts (s := rd (A.take k) s) ha2
      have hsucc : rd (A.take (k + 1)) s = stp (rd (A.take k) s) a := by rw [List.take_succ_eq_append_getElem hkn, ha, rd_end]
      rw [HX.out, HY.out, ← hsucc] at hst
      obtain ⟨p, hp⟩ : ∃ p, a >>> 1 = p := ⟨_, rfl⟩
      obtain ⟨q, hq⟩ : ∃ q, a % 2 = q := ⟨_, rfl⟩
      rw [ha, hp] at hc1
      rw [ha, hq] at hc2
      rw [hp, hq] at hst
      have hp0 : p ≠ 0 := by rw [shr_div] at hp; omega
      have hp40 : p < 1099511627776 := by rw [shr_div] at hp; omega
      have hq2 : q < 2 := by omega
      have hlog := log40 hp0 hp40
      have e1 := i64_xor_nat x p (by omega) (by omega)
      have e2 := i64_xor_nat y q (by omega) (by omega)
      have HST := hide hst
      clear hst hsucc ha hp hq ha2 ha17 hkn
      cases hb : x.testBit p.log2
      · have HS1 : Hid (rd (A.take (k + 1)) s >>> 1 = x) := hide (by have := HST.out.1; rw [hb] at this; exact this)
        have HS2 : Hid (rd (A.take (k + 1)) s % 2 = y) := hide (by have := HST.out.2; rw [hb] at this; exact this)
        go_wp2_with (first | (go_at_call 92; refine (soTop_any _ _ hp40 hp0).mono ?_; rintro e w3 ⟨rfl, rfl⟩) | (go_at_call 63; refine (grInG_any _ _ (by omega) (by omega) (by omega) _).mono ?_; rintro e w3 ⟨rfl, rfl⟩; simp only [Int.toNat_natCast, bt_nat, hb]))
        go_round
        case rel => exact ⟨k + 1, x, y, by omega, by go_num, rfl, rfl, HS1, HS2⟩
        case measure => simp [intOf]; omega
      · have HS1 : Hid (rd (A.take (k + 1)) s >>> 1 = x ^^^ p) := hide (by have := HST.out.1; rw [hb] at this; exact this)
        have HS2 : Hid (rd (A.take (k + 1)) s % 2 = y ^^^ q) := hide (by have := HST.out.2; rw [hb] at this; exact this)
        go_wp2_with (first | (go_at_call 92; refine (soTop_any _ _ hp40 hp0).mono ?_; rintro e w3 ⟨rfl, rfl⟩) | (go_at_call 63; refine (grInG_any _ _ (by omega) (by omega) (by omega) _).mono ?_; rintro e w3 ⟨rfl, rfl⟩; simp only [Int.toNat_natCast, bt_nat, hb]))
        go_round
        case rel => exact ⟨k + 1, x ^^^ p, y ^^^ q, by omega, by go_num, by go_num, by go_num, HS1, HS2⟩
        case measure => simp [intOf]; omega
    · have hkn : A.take k = A := List.take_of_length_le (by rw [HN.out]; omega)
      have h1 := HX.out
      have h2 := HY.out
      rw [hkn] at h1 h2
      have hl := HLow.out
      have hx0 : x = 0 := by rw [shr_div] at h1; omega
      subst hx0
      have hy0 : rd A s = y := by omega
      have HE := hide hy0
      clear h1 h2 hl hy0
      have hk' : k = n := by omega
      subst hk'
      by_cases hyz : y = 0
      · subst hyz
        go_wp2
        go_ret
        exact ⟨by rw [HE.out]; rfl, rfl⟩
      · have hy1 : y = 1 := by omega
        subst hy1
        go_wp2
        go_ret
        exact ⟨by rw [HE.out]; rfl, rfl⟩
end Go.Proofs.Ytcpbbpgiicakcaa
