import Derived.Test.YtcpbbpgiicakcaaWK
import Derived.Deep.RegionLawGrows
import Derived.Deep.RegionHeld3
namespace Go.Proofs.Ytcpbbpgiicakcaa
open Go.RowKit
set_option maxHeartbeats 4000000
/-- 'append([]int{}, xs...)' as one step of a region that draws. -/
theorem step_copy {ops : Array Oper} {o : Oper} {a : Act} {w : World} {K : Act → World → Prop} {Q : Exit → Act → World → Prop} {E : Prop}
    (hgd : o.guard = none) (s x : Operand) (ho : o.op = Op.call { callee := Callee.builtin Builtin.append, args := #[s, x], argTypes := #[22, 22] })
    (g b m c : Nat) (L : List Nat) (hs : a.eval s = .slice (some ⟨g, 0, none⟩) 0 0) (hx : a.eval x = .slice (some ⟨b, 0, none⟩) m c) (hL : L.length = m) (hm : 0 < m) (hm64 : m ≤ 64) (hsrc : Src w (some ⟨b, 0, none⟩) m (lv L))
    (h : ∀ D e w', Src w' D m (lv L) → Below w.heap.size w w' → K (a.put o.dst (.slice D m e)) w') :
    if Region.wanted o (yielded ops a.tmps) = true then Oper.wp Try.prog o a w K Q else E := by
  obtain ⟨i0, hi, hz0, hz1, hz2⟩ := info_parts int_info
  refine step_append_grows hgd s x 22 ho 3 i0 (.int .i64 0) 1 8 Try.underlying22 hi hz0 hz1 hz2 rfl (by decide) (some ⟨g, 0, none⟩) 0 0 [] hs (by simp) rfl (by simp) ⟨b, 0, none⟩ m c (vl L) hx (by simp [vl, hL]) ?_ ?_ (by omega) (by unfold maxLen; omega) (by omega) ?_
  · intro j u hj
    obtain ⟨hjl, rfl⟩ := vl_get hj
    obtain ⟨b', off', e, _, hc⟩ := hsrc j (by omega)
    injection e with e
    injection e with e1 e2
    subst e1 e2
    by_cases h0 : j = 0
    · subst h0; simpa [Addr.add] using hc
    · simpa [Addr.add, h0] using hc
  · exact vl_one
  · intro v' w' h2 h3
    rw [List.nil_append] at h2
    obtain ⟨D, e, rfl⟩ := own_form h2
    rw [Nat.zero_add] at h2 ⊢
    have hb : Below w.heap.size w w' := ⟨h3.os, h3.tape, h3.output, h3.size, fun k hk => h3.block k hk (by simp)⟩
    refine h D e w' ?_ hb
    subst hL
    exact OL.src (B := w.heap.size) (L := L) (by exact h2) rfl
theorem Below.next {w0 w w' : World} (hb : Below w.heap.size w w') (h : Below w0.heap.size w0 w) : Below w0.heap.size w0 w' := h.trans (hb.mono h.size)
theorem Below.more {w0 w : World} (o : Obj) (h : Below w0.heap.size w0 w) : Below w0.heap.size w0 (w.alloc o) := h.alloc h.size o
theorem Src.more {w : World} {A : Option Addr} {n : Nat} {f : Nat → Value} (o : Obj) (h : Src w A n f) : Src (w.alloc o) A n f := Src.alloc h o
theorem Src.next {w w' : World} {A : Option Addr} {n : Nat} {f : Nat → Value} (hb : Below w.heap.size w w') (h : Src w A n f) : Src w' A n f := h.below hb
theorem two_next {w w' : World} {b : Nat} {u v : Value} (hb : Below w.heap.size w w') (h : w.cell? ⟨b, 0, none⟩ = some u ∧ w.cell? ⟨b, 1, none⟩ = some v) : w'.cell? ⟨b, 0, none⟩ = some u ∧ w'.cell? ⟨b, 1, none⟩ = some v := two_below hb h
theorem two_more {w : World} {b : Nat} {u v : Value} (o : Obj) (h : w.cell? ⟨b, 0, none⟩ = some u ∧ w.cell? ⟨b, 1, none⟩ = some v) : (w.alloc o).cell? ⟨b, 0, none⟩ = some u ∧ (w.alloc o).cell? ⟨b, 1, none⟩ = some v := two_below ((Below.refl _ _).alloc (Nat.le_refl _) _) h
/-- What the region leaves that copies a system. -/
def CopyL (w0 w' : World) (bt m e1 e2 : Nat) (D1 D2 : Option Addr) (R W : List Nat) : Prop :=
  Blk w' 81 bt #[.slice D1 m e1, .slice D2 m e2] ∧ Src w' D1 m (lv R) ∧ Src w' D2 m (lv W) ∧ Below w0.heap.size w0 w'
def cpF (a : Act) (v62 v63 v64 v65 v66 v67 v68 v69 v70 v71 v72 v73 v74 v75 : Value) (bt : Nat) : Act := (((((((((((((((a.put (some 62) v62).put (some 63) v63).put (some 64) v64).put (some 65) v65).put (some 66) v66).put (some 67) v67).put (some 68) v68).put (some 69) v69).put (some 70) v70).put (some 71) v71).put (some 72) v72).put (some 73) v73).put (some 74) v74).put (some 75) v75).put (some 16) (.pointer (some ⟨bt, 0, none⟩)))
theorem copyCut {P : Program} {c : Code} {Q : Exit → Act → World → Prop} {a : Act} {w : World} (w0 : World) (m : Nat) (R W : List Nat)
    (reg : c.wp P (fun e a' w' => ∃ (v62 v63 v64 v65 v66 v67 v68 v69 v70 v71 v72 v73 v74 v75 : Value) (bt e1 e2 : Nat) (D1 D2 : Option Addr), e = .normal ∧ a' = cpF a v62 v63 v64 v65 v66 v67 v68 v69 v70 v71 v72 v73 v74 v75 bt ∧ CopyL w0 w' bt m e1 e2 D1 D2 R W) a w)
    (cont : ∀ (v62 v63 v64 v65 v66 v67 v68 v69 v70 v71 v72 v73 v74 v75 : Value) (bt e1 e2 : Nat) (D1 D2 : Option Addr) (w' : World), CopyL w0 w' bt m e1 e2 D1 D2 R W → Q .normal (cpF a v62 v63 v64 v65 v66 v67 v68 v69 v70 v71 v72 v73 v74 v75 bt) w') : c.wp P Q a w :=
  Code.wp_mono (fun e a' w' h => by obtain ⟨v62, v63, v64, v65, v66, v67, v68, v69, v70, v71, v72, v73, v74, v75, bt, e1, e2, D1, D2, rfl, rfl, h⟩ := h; exact cont v62 v63 v64 v65 v66 v67 v68 v69 v70 v71 v72 v73 v74 v75 bt e1 e2 D1 D2 w' h) reg
/-- Where a full system says no, the button belongs to the set. -/
theorem sols_any (Ar : Option Addr) (n c : Nat) (T : Nat → Nat) (d : Nat) (w : World) (hn0 : 0 < n) (hn : n ≤ 16) (hSy : Sym n T) (hD : Diag n T d) (hs : Src w Ar n (iv (nv T))) :
    Calls Try.prog 71 #[.int .i64 n, .slice Ar n c, .int .i64 d] w fun e w' => e = .returned (.tuple #[.int .i64 ((qS T n n).1.length : Nat), .int .i64 (solV T n d : Nat), .bool true]) ∧ Below w.heap.size w w' := by
  obtain ⟨_, hset, hfree⟩ := sys_all hSy hD
  have h16 := pow16n hn
  have hd16 : d < 65536 := Nat.lt_of_lt_of_le hD.1 h16
  have HS := hide hs
  have HSy := hide hSy
  have HD := hide hD
  have HSet := hide hset
  have HFree := hide hfree
  have HTA := hide (fun k (hk : k ≤ n) => (aS_lt (T := T) (d := d) hSy.1 k hk))
  have HZero := hide (show rowsA (aS T d 0) = [] ∧ wantA (aS T d 0) = [] from ⟨rfl, rfl⟩)
  clear hs hSy hD hset hfree
  go_enter Try.func71, Try.ntmps71
  go_wp2
  go_loopw [21] (fun i wr => ∃ (k : Nat) (A1 A2 : Option Addr) (m c1 c2 : Nat), k ≤ n ∧ i = .int .i64 k ∧ Sys wr w.heap.size A1 A2 m c1 c2 (aS T d k) ∧ Below w.heap.size w wr) (fun i _ => n - (intOf i).toNat)
  case atStart =>
    refine ⟨0, none, none, 0, 0, 0, by omega, rfl, ⟨Blk.new _ _ _ rfl, ?_, ?_, Sep.none _ _ _, rfl⟩, by go_grown⟩
    · rw [HZero.out.1]; exact OL.nil _ _
    · rw [HZero.out.2]; exact OL.nil _ _
  case round =>
    obtain ⟨k, A1, A2, m, c1, c2, hk, rfl, hsys, hb⟩ := hrel
    by_cases hlt : k < n
    · obtain ⟨b, off, hA, hbl, hc0⟩ := HS.out k hlt
      subst hA
      have hc : wr.cell? ⟨b, off + k, none⟩ = some (.int .i64 (T k : Nat)) := (hb.cell (p := ⟨b, off + k, none⟩) hbl).trans hc0
      have hTk := HSy.out.1 k hlt
      obtain ⟨t, ht⟩ : ∃ t, T k = t := ⟨_, rfl⟩
      obtain ⟨s, hs⟩ : ∃ s, eqT T d k = s := ⟨_, rfl⟩
      have hs17 : s < 131072 := Nat.lt_of_lt_of_le (hs ▸ eqT_lt hTk) (two17 hn)
      have hs1 : s >>> 1 = t := by rw [← hs, eqT, eqn_shr, ht]
      have hs2 : s % 2 = (d / 2 ^ k) % 2 := by
        rw [← hs, ← Nat.toNat_testBit d k]
        unfold eqT eqn
        have := Bool.toNat_lt (d.testBit k)
        omega
      obtain ⟨q, hq⟩ : ∃ q, (d / 2 ^ k) % 2 = q := ⟨_, rfl⟩
      have hq2 : q < 2 := by rw [← hq]; exact Nat.mod_lt _ (by decide)
      obtain ⟨z, hz⟩ : ∃ z, d / 2 ^ k = z := ⟨_, rfl⟩
      have em0 : (d : Int) / 2 ^ k = (z : Int) := by rw [← hz, Int.natCast_ediv, pow_nat]
      rw [hz] at hq
      have em : (z : Int) % 2 = (q : Int) := by omega
      rw [hz] at hs2
      have hok := aS_ok HSy.out HD.out hlt
      rw [ht] at hc hTk
      rw [hq] at hs2
      rw [hs] at hok
      have HNx : Hid (aS T d (k + 1) = putA (aS T d k) s) := hide (by rw [← hs]; rfl)
      have HSys := hide hsys
      have HB := hide hb
      have HOk := hide hok
      have hlen : m ≤ 64 := by have := aS_len_le T d k; rw [hsys.len] at this; omega
      have ht16 : t < 65536 := Nat.lt_of_lt_of_le hTk h16
      clear hsys hb hc0 ht hs hok hTk hq hz
      go_wp2_with (go_at_call 85; refine (put_any _ _ _ _ _ _ _ s t q _ (aS_tri T d k) (fun a ha => Nat.lt_of_lt_of_le (HTA.out k (by omega) a ha) (two17 hn)) hs17 hlen HSys.out hs1 hs2).mono ?_; rintro e w3 ⟨rfl, ⟨A3, A4, m3, c3, c4, h3⟩, hb3⟩; have HS3 := hide h3; have HB3 := hide (HB.out.trans hb3); clear h3 hb3; simp only [decide_eq_true HOk.out])
      go_roundw
      case rel => exact ⟨k + 1, A3, A4, m3, c3, c4, by omega, by go_num, by rw [HNx.out]; exact HS3.out, HB3.out⟩
      case measure => simp [intOf]; omega
    · have hk' : k = n := by omega
      subst hk'
      have hml := hsys.len
      have hm16 := aS_len_le T d k
      rw [hml] at hm16
      have c0 : wr.cell? ⟨w.heap.size, 0, none⟩ = some (.slice A1 m c1) := hsys.box.cell 0
      have hbl := hsys.box.lt
      have HSys := hide hsys
      have HB := hide hb
      have HMl := hide hml
      clear hsys hb hml
      have HA0 := hide (aS_tri T d k)
      have HA1 := hide (fun a ha => Nat.lt_of_lt_of_le (HTA.out k (by omega) a ha) (two17 hn))
      obtain ⟨A0, hA0⟩ : ∃ A0, aS T d k = A0 := ⟨_, rfl⟩
      rw [hA0] at HA0 HA1 HSys HMl HFree HSet
      have HTL := hide (fun j => finA_lt (n := k) (A := A0) (by rw [← hA0]; exact HTA.out k (Nat.le_refl _)) j)
      clear hA0
      go_wp2
      go_loopw [13] (fun i wr2 => ∃ (j : Nat) (A1 A2 : Option Addr) (m c1 c2 : Nat), j ≤ k ∧ i = .int .i64 ((k : Int) - 1 - j) ∧ Sys wr2 w.heap.size A1 A2 m c1 c2 (finA k A0 j) ∧ Below w.heap.size w wr2) (fun i _ => (intOf i + 1).toNat)
      case atStart => exact ⟨0, A1, A2, m, c1, c2, by omega, by go_num, HSys.out, HB.out⟩
      case round =>
        obtain ⟨j, B1, B2, m2, d1, d2, hj, rfl, hsys2, hb2⟩ := hrel
        have hlen2 : m2 ≤ 64 := by have h1 := finA_len_le k A0 j; have h2 := HMl.out; rw [hsys2.len] at h1; omega
        by_cases hjk : j < k
        · obtain ⟨i, hi⟩ : ∃ i, k - 1 - j = i := ⟨_, rfl⟩
          have ei : (k : Int) - 1 - j = (i : Int) := by omega
          rw [ei]
          have hi16 : i < 16 := by omega
          have hp16 := pow_lt16 hi16
          have ew := wrap_pow hi16
          rw [← pow_nat] at ew
          have hs2 : 2 ^ (k - j) = 2 * 2 ^ i := by rw [show k - j = i + 1 by omega, Nat.pow_succ, Nat.mul_comm]
          have HTri := hide (finA_tri HA0.out (n := k) j)
          have HTLj := hide (fun a ha => Nat.lt_of_lt_of_le (HTL.out j a ha) (two17 hn))
          have HNx : Hid (finA k A0 (j + 1) = putA (finA k A0 j) (2 * 2 ^ i)) := hide (by rw [← hs2]; rfl)
          obtain ⟨p, hp⟩ : ∃ p, 2 ^ i = p := ⟨_, rfl⟩
          have ew2 : RowKit.wrap64 (2 ^ i) = (p : Int) := by rw [← hp, ← pow_nat]; exact ew
          rw [hp] at hp16 HNx
          obtain ⟨Aj, hAj⟩ : ∃ Aj, finA k A0 j = Aj := ⟨_, rfl⟩
          rw [hAj] at HTri HTLj HNx hsys2
          have HSys2 := hide hsys2
          have HB2 := hide hb2
          have hij : i + j + 1 = k := by omega
          clear hsys2 hb2 hAj ew hs2 ei hp hi
          by_cases hone : rd Aj (2 * p) = 1
          · have hr1 : rd Aj (2 * p + 1) = 0 := by
              have e : 2 * p + 1 = (2 * p) ^^^ 1 := by
                have := eqn_xor p 0 false true
                simp only [eqn, Bool.toNat_false, Bool.toNat_true, Nat.mul_zero, Nat.add_zero, Nat.zero_add, Nat.xor_zero, Bool.false_xor] at this
                exact this.symm
              rw [e, rd_xor, hone, rd_one HTri.out]; rfl
            have HP1 : Hid (putA Aj (2 * p) = Aj) := hide (by unfold putA; rw [if_pos (by omega)])
            have HP2 : Hid (putA Aj (2 * p + 1) = Aj) := hide (by unfold putA; rw [if_pos (by omega)])
            have HOne := hide hone
            have HR1 := hide hr1
            clear hone hr1
            go_wp2_with fail
            refine (put_at _ _ _ _ _ _ _ (2 * p) _ _ _ HTri.out HTLj.out (dbl_lt hp16).1 hlen2 HSys2.out (dbl_half p).1 (dbl_rest p).1).mono ?_
            rintro e w3 ⟨rfl, ⟨A3, A4, m3, c3, c4, h3⟩, hb3⟩
            rw [HP1.out] at h3
            have hlen3 : m3 ≤ 64 := by have h1 := HSys2.out.len; have h2 := h3.len; omega
            have HS3 := hide h3
            have HB3 := hide (HB2.out.trans hb3)
            clear h3 hb3
            simp only [HOne.out]
            go_wp2_with fail
            refine (put_at _ _ _ _ _ _ _ (2 * p + 1) _ _ _ HTri.out HTLj.out (dbl_lt hp16).2 hlen3 HS3.out (dbl_half p).2 (dbl_rest p).2).mono ?_
            rintro e w4 ⟨rfl, ⟨A5, A6, m5, c5, c6, h5⟩, hb5⟩
            rw [HP2.out] at h5
            have HS5 := hide h5
            have HB5 := hide (HB3.out.trans hb5)
            clear h5 hb5
            go_wp2
            go_roundw
            case rel => exact ⟨j + 1, A5, A6, m5, c5, c6, by omega, by go_num, by rw [HNx.out, HP1.out]; exact HS5.out, HB5.out⟩
            case measure => simp [intOf] <;> omega
          · have HOne := hide hone
            clear hone
            go_wp2_with fail
            refine (put_at _ _ _ _ _ _ _ (2 * p) _ _ _ HTri.out HTLj.out (dbl_lt hp16).1 hlen2 HSys2.out (dbl_half p).1 (dbl_rest p).1).mono ?_
            rintro e w3 ⟨rfl, ⟨A3, A4, m3, c3, c4, h3⟩, hb3⟩
            have HS3 := hide h3
            have HB3 := hide (HB2.out.trans hb3)
            clear h3 hb3
            simp only [decide_eq_true HOne.out]
            go_wp2
            go_roundw
            case rel => exact ⟨j + 1, A3, A4, m3, c3, c4, by omega, by go_num, by rw [HNx.out]; exact HS3.out, HB3.out⟩
            case measure => simp [intOf] <;> omega
        · have hjk' : j = k := by omega
          subst hjk'
          have ez : (j : Int) - 1 - j = -1 := by omega
          rw [ez]
          have HSys2 := hide hsys2
          have HB2 := hide hb2
          clear hsys2 hb2
          obtain ⟨wz, rfl⟩ : ∃ wz, wz = wr := ⟨_, rfl⟩
          have HFs := hide (fun i (hi : i < j) => fin_small (n := j) (A := A0) i hi)
          have HFt := hide (finA_tri HA0.out (n := j) j)
          have HFl := hide (fun a ha => Nat.lt_of_lt_of_le (HTL.out j a ha) (two17 hn))
          have hmpos := fin_ne (A := A0) hn0
          have hlen2 : m2 ≤ 64 := by have h1 := finA_len_le j A0 j; have h2 := HMl.out; have h3 := HSys2.out.len; omega
          obtain ⟨Bf, hBf⟩ : ∃ Bf, finA j A0 j = Bf := ⟨_, rfl⟩
          rw [hBf] at HFs HFt HFl hmpos HSys2 HSet
          have hm2 : 0 < m2 := by rw [← HSys2.out.len]; exact hmpos
          obtain ⟨R, hR⟩ : ∃ R, rowsA Bf = R := ⟨_, rfl⟩
          obtain ⟨W, hW⟩ : ∃ W, wantA Bf = W := ⟨_, rfl⟩
          have HRl : Hid (R.length = m2) := hide (by rw [← hR, rowsA_len]; exact HSys2.out.len)
          have HWl : Hid (W.length = m2) := hide (by rw [← hW, wantA_len]; exact HSys2.out.len)
          have hsR := HSys2.out.rows.src (by rw [rowsA_len]; exact HSys2.out.len)
          have hsW := HSys2.out.want.src (by rw [wantA_len]; exact HSys2.out.len)
          rw [hR] at hsR
          rw [hW] at hsW
          have hc1 := HSys2.out.rows.cases (by rw [rowsA_len]; exact HSys2.out.len)
          have hc2 := HSys2.out.want.cases (by rw [wantA_len]; exact HSys2.out.len)
          obtain ⟨g1, rfl⟩ : ∃ g1, B1 = some ⟨g1, 0, none⟩ := by
            rcases hc1 with ⟨_, h, _⟩ | ⟨g1, _, h, _⟩
            · omega
            · exact ⟨g1, h⟩
          obtain ⟨g2, rfl⟩ : ∃ g2, B2 = some ⟨g2, 0, none⟩ := by
            rcases hc2 with ⟨_, h, _⟩ | ⟨g2, _, h, _⟩
            · omega
            · exact ⟨g2, h⟩
          have k0 : wz.cell? ⟨w.heap.size, 0, none⟩ = some (.slice (some ⟨g1, 0, none⟩) m2 d1) := HSys2.out.box.cell 0
          have k1 : wz.cell? ⟨w.heap.size, 1, none⟩ = some (.slice (some ⟨g2, 0, none⟩) m2 d2) := HSys2.out.box.cell 1
          have HK := hide (And.intro k0 k1)
          have HsR := hide hsR
          have HsW := hide hsW
          have HRW := hide (And.intro hR hW)
          have hwl := HSys2.out.box.lt
          have HLf : Hid (Bf.length = m2) := hide HSys2.out.len
          clear hBf hR hW hc1 hc2 hsR hsW k0 k1 hmpos
          go_wp2
          go_loopw [14, 15] (fun sv iv wx => ∃ (i s : Nat), i ≤ j ∧ iv = .int .i64 i ∧ sv = .int .i64 s ∧ Hid (setA Bf i = s) ∧ Below wz.heap.size wz wx) (fun _ i _ => j - (intOf i).toNat)
          case atStart => exact ⟨0, 0, by omega, rfl, rfl, hide rfl, Below.refl _ _⟩
          case round =>
            obtain ⟨i, sx, hij, rfl, rfl, HSx, hbx⟩ := hrel
            by_cases hlt : i < j
            · have q0 := (hbx.cell (p := ⟨w.heap.size, 0, none⟩) hwl).trans HK.out.1
              have q1 := (hbx.cell (p := ⟨w.heap.size, 1, none⟩) hwl).trans HK.out.2
              have HBx := hide hbx
              have KK : Hid (wr.drew.cell? ⟨w.heap.size, 0, none⟩ = some (.slice (some ⟨g1, 0, none⟩) m2 d1) ∧ wr.drew.cell? ⟨w.heap.size, 1, none⟩ = some (.slice (some ⟨g2, 0, none⟩) m2 d2)) := hide ⟨q0, q1⟩
              clear hbx q0 q1
              go_wp2_with fail
              apply copyCut wr m2 R W
              case reg =>
                go_region_held3 (fun w' => w'.cell? ⟨w.heap.size, 0, none⟩ = some (.slice (some ⟨g1, 0, none⟩) m2 d1) ∧ w'.cell? ⟨w.heap.size, 1, none⟩ = some (.slice (some ⟨g2, 0, none⟩) m2 d2)) (((repeat (first | exact KK.out | refine two_more _ ?_ | refine two_next (by assumption) ?_)); done)) (first | (refine step_copy rfl (.tmp 62) (.tmp 66) rfl _ g1 m2 d1 R rfl rfl HRl.out hm2 hlen2 (by (((repeat (first | exact HsR.out | exact (HsR.out.below HBx.out) | exact Src.drew (HsR.out.below HBx.out) | refine Src.more _ ?_ | refine Src.next (by assumption) ?_)); done))) ?_; intro D62 e62 w62 hd62 hb62; have HD62 := hide hd62; clear hd62) | (refine step_copy rfl (.tmp 68) (.tmp 72) rfl _ g2 m2 d2 W rfl rfl HWl.out hm2 hlen2 (by (((repeat (first | exact HsW.out | exact (HsW.out.below HBx.out) | exact Src.drew (HsW.out.below HBx.out) | refine Src.more _ ?_ | refine Src.next (by assumption) ?_)); done))) ?_; intro D68 e68 w68 hd68 hb68; have HD68 := hide hd68; clear hd68))
                all_goals
                  (repeat apply Exists.intro)
                  refine ⟨rfl, ?hF, ?hL⟩
                  case hF =>
                    simp only [cpF, Act.put, List.setIfInBounds_toArray, List.set_cons_zero, List.set_cons_succ]
                    rfl
                  case hL => exact ⟨Blk.new _ _ _ rfl, (by repeat (first | exact HD62.out | refine Src.more _ ?_ | refine Src.next (by assumption) ?_)), (by repeat (first | exact HD68.out | refine Src.more _ ?_ | refine Src.next (by assumption) ?_)), (by repeat (first | exact Below.refl _ _ | refine Below.drew ?_ | refine Below.more _ ?_ | refine Below.next (by assumption) ?_))⟩
              case cont =>
                intro v62 v63 v64 v65 v66 v67 v68 v69 v70 v71 v72 v73 v74 v75 bt e1 e2 D1 D2 w5 hL
                obtain ⟨hbx5, hd1, hd2, hb5⟩ := hL
                have hi16 : i < 16 := by omega
                have hp16 := pow_lt16 hi16
                have ew := wrap_pow hi16
                rw [← pow_nat] at ew
                obtain ⟨p, hp⟩ : ∃ p, 2 ^ i = p := ⟨_, rfl⟩
                have ew2 : RowKit.wrap64 (2 ^ i) = (p : Int) := by rw [← hp, ← pow_nat]; exact ew
                have hsm := HFs.out i hlt
                rw [show 2 ^ (i + 1) = 2 * p by rw [← hp, Nat.pow_succ, Nat.mul_comm]] at hsm
                have hsucc : setA Bf (i + 1) = if rd Bf (2 * p) = 1 then setA Bf i ||| p else setA Bf i := by
                  rw [← hp, Nat.mul_comm, ← Nat.pow_succ]; rfl
                rw [HSx.out] at hsucc
                rw [hp] at hp16
                have hsx16 : sx < 65536 := by
                  have h1 := setA_lt Bf i
                  rw [HSx.out, hp] at h1
                  exact Nat.lt_trans h1 hp16
                have e1 := i64_or_nat sx p (Nat.lt_trans hsx16 (by decide)) (Nat.lt_trans hp16 (by decide))
                have HSu := hide hsucc
                have HB5 := hide (HBx.out.trans (hb5.mono HBx.out.size))
                have HBx5 := hide hbx5
                have HD1 := hide hd1
                have HD2 := hide hd2
                have HSm := hide hsm
                clear hbx5 hd1 hd2 hb5 ew hp hsucc hsm
                simp only [cpF, Act.put, List.setIfInBounds_toArray, List.set_cons_zero, List.set_cons_succ]
                go_wp2_with fail
                refine (put_small _ _ _ _ _ _ _ (2 * p) _ _ _ HFt.out HFl.out (dbl_lt hp16).1 hlen2 HBx5.out (by rw [HRW.out.1]; exact HD1.out) (by rw [HRW.out.2]; exact HD2.out) HLf.out (dbl_half p).1 (dbl_rest p).1 HSm.out).mono ?_
                rintro e w6 ⟨rfl, rfl⟩
                by_cases hone : rd Bf (2 * p) = 1
                · have HN : Hid (setA Bf (i + 1) = sx ||| p) := hide (by rw [HSu.out, if_pos hone])
                  simp only [hone]
                  clear hone
                  go_wp2
                  go_roundw
                  case rel => exact ⟨i + 1, sx ||| p, by omega, by go_num, by go_num, HN, HB5.out⟩
                  case measure => simp [intOf] <;> omega
                · have hz : rd Bf (2 * p) = 0 := by have := HSm.out; omega
                  have HN : Hid (setA Bf (i + 1) = sx) := hide (by rw [HSu.out, if_neg hone])
                  simp only [hz]
                  clear hone hz
                  go_wp2
                  go_roundw
                  case rel => exact ⟨i + 1, sx, by omega, by go_num, rfl, HN, HB5.out⟩
                  case measure => simp [intOf] <;> omega
            · have hij' : i = j := by omega
              subst hij'
              have HBx := hide hbx
              have HE : Hid (sx = solV T i d) := hide (by rw [← HSx.out, ← HSet.out])
              clear hbx
              go_wp2
              go_ret3
              refine ⟨?_, HB2.out.trans (HBx.out.mono HB2.out.size)⟩
              rw [HE.out]
              have h := HFree.out
              have h2 := HMl.out
              have : (i : Int) - m = ((qS T i i).1.length : Nat) := by omega
              rw [this]
              rfl
end Go.Proofs.Ytcpbbpgiicakcaa
