/-
All children of a button are reached.
-/
import Derived.Test.YtmcimfblhpflnaaDoorFC
namespace Go.Proofs.YtmcimfblhpflnaaDoor
open Go.RowKit
set_option maxHeartbeats 2000000
theorem Lk.skips {F : Nat → Nat} {n k i a : Nat} {o t : List Nat} {p : Nat → Int} (h : Lk F n o t p k i a) : ∀ b, a ≤ b → (∀ j, a ≤ j → j < b → (F i).testBit j = true → p i = (j : Nat)) → Lk F n o t p k i b
  | 0, hb, _ => by have : a = 0 := by omega
                   subst this; exact h
  | b + 1, hb, hj => by
    by_cases e : a = b + 1
    · subst e; exact h
    · have h2 := Lk.skips h b (by omega) (fun j h1 h2 => hj j h1 (by omega))
      exact h2.skip (hj b (by omega) (by omega)) (fun hbit => h2.par_mem (hj b (by omega) (by omega) hbit))
theorem Kx.tab {fb gp : Nat} {A A' : Option Addr} {w w' : World} (h : Kx fb gp A A' w w') (hT : Tab w) (h1 : 1 ≠ fb) (h2 : 1 ≠ gp) (h3 : ob A ≠ some 1) : Tab w' := fun j hj => h.cell (hT j hj) h1 h2 h3
theorem Lk.len {F : Nat → Nat} {n k i a : Nat} {o t : List Nat} {p : Nat → Int} (h : Lk F n o t p k i a) : (o ++ t).length ≤ n := nodup_le h.gr.nodup h.gr.lt
set_option maxRecDepth 4000 in
theorem eachReach_any (B fb g n c gp cp ib pb m d k i : Nat) (own : Bool) (F : Nat → Nat) (A : Option Addr) (o t : List Nat) (p : Nat → Int) (w : World) (hn : n ≤ 16) (hG : Good n (nv F)) (hTr : Tree F n) (hB : B ≤ w.heap.size)
    (hS : FS w B fb g n c gp cp own F A m d (o ++ t) p) (hL : Lk F n o t p k i 0) (hi : w.cell? ⟨ib, 0, none⟩ = some (.int .i64 (i : Nat))) (hp : w.cell? ⟨pb, 0, none⟩ = some (.pointer (some ⟨fb, 0, none⟩)))
    (i1 : ib ≠ fb) (i2 : ib ≠ gp) (i3 : ob A ≠ some ib) (p1 : pb ≠ fb) (p2 : pb ≠ gp) (p3 : ob A ≠ some pb) (hT : Tab w) (t1 : 1 ≠ fb) (t2 : 1 ≠ gp) (t3 : ob A ≠ some 1) (hN : ∀ v, v ∉ o ++ t → p v = -1) :
    Calls Tryd.prog 100 #[.int .i64 (ch F p i : Nat), .func (.func 102) #[] #[.pointer (some ⟨ib, 0, none⟩), .pointer (some ⟨pb, 0, none⟩)]] w fun e w' =>
      e = .returned (.tuple #[]) ∧ ∃ t' p' A' m' d', FS w' B fb g n c gp cp own F A' m' d' (o ++ t') p' ∧ Lk F n o t' p' k i n ∧ (∀ v, v ∉ o ++ t' → p' v = -1) ∧ (∀ v, v ∈ t → v ∈ t') ∧ Kx fb gp A A' w w' := by
  have hin : i < n := hL.gr.lt i (List.mem_append.2 (.inr hL.mem))
  have hFi : F i < 65536 := hG.lt16 i hin
  have hpi : p i = -1 ∨ 0 ≤ p i := by
    rcases hL.gr.par i (List.mem_append.2 (.inr hL.mem)) with h | ⟨u, _, h, _⟩
    · exact .inl h
    · exact .inr (by omega)
  have HC : Hid (∀ b, (ch F p i).testBit b = true ↔ (F i).testBit b = true ∧ p i ≠ (b : Nat)) := hide fun b => ch_bit F p i b hpi
  have hc16 := ch_lt F p i hFi
  have HS := hide hS
  have HL := hide hL
  have HG := hide hG
  have HTr := hide hTr
  have HI := hide hi
  have HP := hide hp
  have HT := hide hT
  have HN := hide hN
  have hibl := World.block_lt_of_cell? w _ hi
  have hpbl := World.block_lt_of_cell? w _ hp
  obtain ⟨q, hq⟩ : ∃ q, ch F p i = q := ⟨_, rfl⟩
  rw [hq] at HC hc16 ⊢
  clear hS hL hG hTr hi hp hT hq hN
  go_enter Tryd.func100, Tryd.ntmps100
  go_wp2
  go_loopw [0] (fun x wr => ∃ (r jj m1 d1 : Nat) (A1 : Option Addr) (tt : List Nat) (pp : Nat → Int), x = .int .i64 r ∧ r ≤ q ∧ jj ≤ n ∧ Hid (∀ b, r.testBit b = (decide (jj ≤ b) && q.testBit b)) ∧ Hid (Lk F n o tt pp k i jj) ∧ Hid (pp i = p i) ∧ Hid (∀ v, v ∉ o ++ tt → pp v = -1) ∧ Hid (∀ v, v ∈ t → v ∈ tt) ∧ Hid (FS wr B fb g n c gp cp own F A1 m1 d1 (o ++ tt) pp) ∧ Hid (Kx fb gp A A1 w wr))
    (fun x _ => (intOf x).toNat)
  case atStart => exact ⟨q, 0, m, d, A, t, p, rfl, Nat.le_refl _, Nat.zero_le _, hide (fun b => by simp), HL, hide rfl, HN, hide (fun v h => h), HS, hide (Kx.refl _ _ _ _)⟩
  case round =>
    obtain ⟨r, jj, m1, d1, A1, tt, pp, rfl, hrq, hjj, HR, HL1, HE, HN1, HU1, HS1, HK⟩ := hrel
    by_cases h0 : r = 0
    · subst h0
      have HLn := hide (HL1.out.skips n hjj (fun j h1 h2 hb => by
        have hr := HR.out j
        rw [Nat.zero_testBit] at hr
        simp only [h1, decide_true, Bool.true_and] at hr
        apply Classical.byContradiction
        intro hne
        have := (HC.out j).2 ⟨hb, by rw [← HE.out]; exact hne⟩
        rw [this] at hr
        cases hr))
      go_wp2
      go_end0
      exact ⟨rfl, tt, pp, A1, m1, d1, HS1.out, HLn.out, HN1.out, HU1.out, HK.out⟩
    · have hlow := ctz_low h0 (by omega)
      obtain ⟨x, hx⟩ : ∃ x, Lib.ctz 64 r = x := ⟨_, rfl⟩
      rw [hx] at hlow
      have hrx := HR.out x
      rw [hlow.1] at hrx
      have hjx : jj ≤ x := by
        apply Nat.le_of_not_lt
        intro h
        rw [show decide (jj ≤ x) = false by simp; omega] at hrx
        simp at hrx
      have hqx : q.testBit x = true := by
        cases hb : q.testBit x
        · rw [hb] at hrx; simp at hrx
        · rfl
      obtain ⟨hbx, hpx⟩ := (HC.out x).1 hqx
      have hxn := HG.out.sym.lt i hin x hbx
      have hpx2 : pp i ≠ (x : Nat) := by rw [HE.out]; exact hpx
      have HLx := hide (HL1.out.skips x hjx (fun j h1 h2 hb => by
        have hr := HR.out j
        rw [hlow.2 j h2] at hr
        simp only [h1, decide_true, Bool.true_and] at hr
        apply Classical.byContradiction
        intro hne
        have := (HC.out j).2 ⟨hb, by rw [← HE.out]; exact hne⟩
        rw [this] at hr
        cases hr))
      have hxm : x ∉ o ++ tt := fun hm => by
        have h1 := HLx.out.round hn HG.out.sym HG.out.irr hbx hpx2 hm
        have h2 := HTr.out
        unfold Tree at h2
        omega
      have hm16 : m1 ≤ 16 := by have := HL1.out.len; rw [HS1.out.len] at this; omega
      have HL2 := hide (HLx.out.add hbx hxm hxn)
      have HE2 : Hid (upd pp x i i = p i) := hide (by
        have hix : i ≠ x := fun e => hxm (by rw [← e]; exact List.mem_append.2 (.inr HL1.out.mem))
        rw [upd_other hix]
        exact HE.out)
      have HR2 : Hid (∀ b, (r &&& (r - 1)).testBit b = (decide (x + 1 ≤ b) && q.testBit b)) := hide (fun b => by
        rw [low_off hlow.1 hlow.2, Nat.testBit_xor, Nat.testBit_two_pow]
        rcases Nat.lt_trichotomy b x with h | h | h
        · rw [hlow.2 b h]; simp [show ¬ x = b by omega, show ¬ x + 1 ≤ b by omega]
        · subst h; rw [hlow.1]; simp [show ¬ b + 1 ≤ b by omega]
        · rw [HR.out b]; simp [show ¬ x = b by omega, show x + 1 ≤ b by omega, show jj ≤ b by omega])
      have hlt := low_lt hlow.1 hlow.2
      have hneq : ((r : Int) == 0) = false := by simp; omega
      have hneq' : ((r : Int) != 0) = true := by simp; omega
      have hand : bits .and .i64 (r : Int) ((r : Int) - 1) = ((r &&& (r - 1) : Nat) : Int) := by
        rw [show (r : Int) - 1 = ((r - 1 : Nat) : Int) by omega]
        exact and_small _ _ (by omega) (by omega)
      have hwu : IntKind.u64.wrap (r : Int) = (r : Int) := by rw [IntKind.wrap_u64]; omega
      have HTt := hide (HK.out.tab HT.out t1 t2 t3)
      have hci := HK.out.cell HI.out i1 i2 i3
      have hcp := HK.out.cell HP.out p1 p2 p3
      have hop := HK.out.off hpbl p3
      have hBr : B ≤ wr.heap.size := Nat.le_trans hB HK.out.size
      have hr64 : r < 18446744073709551616 := by omega
      have HCI := hide hci
      have HCP := hide hcp
      clear hlow hrx hqx hbx hpx hpx2 hci hcp
      go_wp2_with (first
        | (go_at_call 77; refine (ctz_any _ hr64 _ HTt.out).mono ?_; rintro e w3 ⟨rfl, hw3⟩; subst w3; rw [hx])
        | (go_at_call 102; refine (reach_closure B fb g n c gp cp ib pb m1 d1 i x own F A1 (o ++ tt) pp _ hxn (by omega) hn hBr HS1.out HCI.out HCP.out p1 p2 hop).mono ?_; rintro e w4 ⟨rfl, A4, d4, hs4, hk4⟩; have HS4 := hide hs4; have HK4 := hide (HK.out.trans hk4); clear hs4 hk4))
      refine ⟨⟨r &&& (r - 1), x + 1, m1 + 1, d4, A4, tt ++ [x], upd pp x i, rfl, by omega, by omega, HR2, HL2, HE2, hide (fun v hv => by
        have hv2 : v ∉ o ++ tt ∧ v ≠ x := ⟨fun h => hv (mem_snoc.2 (.inl h)), fun h => hv (mem_snoc.2 (.inr h))⟩
        rw [upd_other hv2.2]
        exact HN1.out v hv2.1), hide (fun v hv => List.mem_append.2 (.inl (HU1.out v hv))), hide (by rw [← List.append_assoc]; exact HS4.out), HK4⟩, by simp [intOf]; omega⟩
end Go.Proofs.YtmcimfblhpflnaaDoor
