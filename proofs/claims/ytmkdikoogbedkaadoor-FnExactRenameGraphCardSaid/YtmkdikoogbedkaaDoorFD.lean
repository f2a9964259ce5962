import Derived.Test.YtmkdikoogbedkaaDoorFC
namespace Go.Proofs.YtmkdikoogbedkaaDoor
open Go.RowKit
set_option maxHeartbeats 1000000
theorem i64_and_nat (a b : Nat) (ha : a < 9223372036854775808) (hb : b < 9223372036854775808) : bits .and .i64 (a : Int) (b : Int) = ((a &&& b : Nat) : Int) := by
  have hx : a &&& b < 2 ^ 63 := Nat.and_lt_two_pow a (by omega)
  show IntKind.i64.wrap ((BitVec.ofInt 64 (a : Int) &&& BitVec.ofInt 64 (b : Int)).toNat : Int) = _
  rw [BitVec.toNat_and, ofInt_i64 a ha, ofInt_i64 b hb, IntKind.wrap_i64]
  omega
theorem lk_bit (i j : Nat) (F : Nat → Nat) (x y : Nat) : (lk i j F x).testBit y = true ↔ (F x).testBit y = true ∨ (x = i ∧ y = j) ∨ (x = j ∧ y = i) := by
  unfold lk
  by_cases hxj : x = j
  · rw [if_pos hxj]
    by_cases hji : j = i
    · rw [if_pos hji]
      simp only [Nat.testBit_or, Nat.testBit_two_pow, Bool.or_eq_true, decide_eq_true_eq]
      constructor
      · rintro ((h | h) | h)
        · exact .inl h
        · exact .inr (.inl ⟨by omega, by omega⟩)
        · exact .inr (.inr ⟨by omega, by omega⟩)
      · rintro (h | ⟨h, h2⟩ | ⟨h, h2⟩)
        · exact .inl (.inl h)
        · exact .inl (.inr (by omega))
        · exact .inr (by omega)
    · rw [if_neg hji]
      simp only [Nat.testBit_or, Nat.testBit_two_pow, Bool.or_eq_true, decide_eq_true_eq]
      constructor
      · rintro (h | h)
        · exact .inl h
        · exact .inr (.inr ⟨by omega, by omega⟩)
      · rintro (h | ⟨h, h2⟩ | ⟨h, h2⟩)
        · exact .inl h
        · exact absurd (by omega) hji
        · exact .inr (by omega)
  · rw [if_neg hxj]
    by_cases hxi : x = i
    · rw [if_pos hxi]
      simp only [Nat.testBit_or, Nat.testBit_two_pow, Bool.or_eq_true, decide_eq_true_eq]
      constructor
      · rintro (h | h)
        · exact .inl h
        · exact .inr (.inl ⟨by omega, by omega⟩)
      · rintro (h | ⟨h, h2⟩ | ⟨h, h2⟩)
        · exact .inl h
        · exact .inr (by omega)
        · exact absurd h hxj
    · rw [if_neg hxi]
      constructor
      · exact .inl
      · rintro (h | ⟨h, h2⟩ | ⟨h, h2⟩)
        · exact h
        · exact absurd h hxi
        · exact absurd h hxj
/-- The graph that the pairs E give when each button a is called V a. -/
def LinkTo (n : Nat) (V : Nat → Nat) (E : Nat → Nat → Prop) (G : Nat → Nat) : Prop :=
  ∀ x, x < n → ∀ y, (G x).testBit y = true ↔ ∃ a b, a < n ∧ b < n ∧ E a b ∧ ((x = V a ∧ y = V b) ∨ (x = V b ∧ y = V a))
theorem LinkTo.zero (n : Nat) (V : Nat → Nat) {E : Nat → Nat → Prop} (h : ∀ a b, ¬ E a b) : LinkTo n V E (fun _ => 0) := fun x _ y => by
  constructor
  · intro h; simp at h
  · rintro ⟨a, b, _, _, h2, _⟩; exact absurd h2 (h a b)
theorem LinkTo.congr {n : Nat} {V : Nat → Nat} {E E' : Nat → Nat → Prop} {G : Nat → Nat} (h : LinkTo n V E G) (e : ∀ a b, a < n → b < n → (E a b ↔ E' a b)) : LinkTo n V E' G := fun x hx y => by
  rw [h x hx y]
  constructor
  · rintro ⟨a, b, ha, hb, h1, h2⟩; exact ⟨a, b, ha, hb, (e a b ha hb).1 h1, h2⟩
  · rintro ⟨a, b, ha, hb, h1, h2⟩; exact ⟨a, b, ha, hb, (e a b ha hb).2 h1, h2⟩
theorem LinkTo.step {n i j : Nat} {V : Nat → Nat} {E E' : Nat → Nat → Prop} {G : Nat → Nat} (h : LinkTo n V E G) (hi : i < n) (hj : j < n) (e : ∀ a b, a < n → b < n → (E' a b ↔ (E a b ∨ (a = i ∧ b = j)))) : LinkTo n V E' (lk (V i) (V j) G) := fun x hx y => by
  rw [lk_bit, h x hx y]
  constructor
  · rintro (⟨a, b, ha, hb, h1, h2⟩ | h3 | h3)
    · exact ⟨a, b, ha, hb, (e a b ha hb).2 (.inl h1), h2⟩
    · exact ⟨i, j, hi, hj, (e i j hi hj).2 (.inr ⟨rfl, rfl⟩), .inl h3⟩
    · exact ⟨i, j, hi, hj, (e i j hi hj).2 (.inr ⟨rfl, rfl⟩), .inr h3⟩
  · rintro ⟨a, b, ha, hb, h1, h2⟩
    rcases (e a b ha hb).1 h1 with h3 | ⟨rfl, rfl⟩
    · exact .inl ⟨a, b, ha, hb, h3, h2⟩
    · exact .inr h2
theorem LinkTo.same {n : Nat} {V : Nat → Nat} {E E' : Nat → Nat → Prop} {G G' : Nat → Nat} (h : LinkTo n V E G) (h' : LinkTo n V E' G') (e : ∀ a b, E a b → (E' a b ∨ E' b a)) (e' : ∀ a b, E' a b → (E a b ∨ E b a)) : ∀ x, x < n → G x = G' x := fun x hx => by
  apply Nat.eq_of_testBit_eq
  intro y
  rw [Bool.eq_iff_iff, h x hx y, h' x hx y]
  constructor
  · rintro ⟨a, b, ha, hb, h1, h2⟩
    rcases e a b h1 with h3 | h3
    · exact ⟨a, b, ha, hb, h3, h2⟩
    · exact ⟨b, a, hb, ha, h3, h2.symm⟩
  · rintro ⟨a, b, ha, hb, h1, h2⟩
    rcases e' a b h1 with h3 | h3
    · exact ⟨a, b, ha, hb, h3, h2⟩
    · exact ⟨b, a, hb, ha, h3, h2.symm⟩
/-- The pairs while the neighbours of r are still to come. -/
def leftE (E : Nat → Nat → Prop) (i p r : Nat) : Nat → Nat → Prop := fun a b => E a b ∨ (a = i ∧ p.testBit b = true ∧ r.testBit b = false)
theorem Env.grown {w w' : World} {Bn Bs Bi gn n cn : Nat} {A : Option Addr} {m mc i : Nat} (h : Env w Bn Bs Bi gn n cn A m mc i) (hg : w.grownBy w' (some gn)) (h1 : Bn ≠ gn) (h2 : Bs ≠ gn) (h3 : Bi ≠ gn) : Env w' Bn Bs Bi gn n cn A m mc i :=
  ⟨World.grownBy.cell hg h.near (by intro e; injection e with e; exact h1 e), World.grownBy.cell hg h.names (by intro e; injection e with e; exact h2 e), World.grownBy.cell hg h.idx (by intro e; injection e with e; exact h3 e)⟩
theorem Src.grown {w w' : World} {b off n gn : Nat} {f : Nat → Value} (h : Src w (some ⟨b, off, none⟩) n f) (hg : w.grownBy w' (some gn)) (hne : b ≠ gn) : Src w' (some ⟨b, off, none⟩) n f := fun k hk => by
  obtain ⟨b', off', e, hl, hc⟩ := h k hk
  injection e with e; injection e with e1 e2 e3; subst e1; subst e2
  exact ⟨b, off, rfl, Nat.lt_of_lt_of_le hl hg.size, World.grownBy.cell hg hc (by intro e; injection e with e; exact hne e)⟩
theorem eachRen_any (Bn Bs Bi gn n cn mc i p b off : Nat) (V G : Nat → Nat) (E : Nat → Nat → Prop) (w : World) (hn : n ≤ 16) (hi : i < n) (hp : p < 2 ^ n) (hV : ∀ k, k < n → V k < n) (hG : ∀ k, k < n → G k < 65536)
    (hL : LinkTo n V E G) (hne1 : Bn ≠ gn) (hne2 : Bs ≠ gn) (hne3 : Bi ≠ gn) (hne4 : b ≠ gn)
    (he : Env w Bn Bs Bi gn n cn (some ⟨b, off, none⟩) n mc i) (hs : Src w (some ⟨b, off, none⟩) n (iv (nv V))) (ha : Arr w 3 gn n (iv (nv G))) (hT : Tab w) (hb1 : gn ≠ 1) :
    Calls Tryd.prog 37 #[.int .i64 p, .func (.func 38) #[] #[.pointer (some ⟨Bn, 0, none⟩), .pointer (some ⟨Bs, 0, none⟩), .pointer (some ⟨Bi, 0, none⟩)]] w fun e w' => e = .returned (.tuple #[]) ∧
      (∃ G', Arr w' 3 gn n (iv (nv G')) ∧ (∀ k, k < n → G' k < 65536) ∧ LinkTo n V (leftE E i p 0) G') ∧ w.grownBy w' (some gn) := by
  have hl1 := hT.lt
  have p16 := pow16 hn
  have hp16 : p < 65536 := by have := pow_nat n; omega
  have HA := hide ha
  have HT := hide hT
  have HG := hide hG
  have HV := hide hV
  have HE := hide he
  have HS := hide hs
  have HL0 : Hid (LinkTo n V (leftE E i p p) G) := hide (hL.congr fun a b _ _ => by
    unfold leftE
    constructor
    · exact .inl
    · rintro (h | ⟨_, h2, h3⟩)
      · exact h
      · rw [h2] at h3; cases h3)
  clear ha hT hG hV he hs hL
  go_enter Tryd.func37, Tryd.ntmps37
  go_wp2
  go_loopw [0] (fun x wr => ∃ r : Nat, r ≤ p ∧ r < 2 ^ n ∧ (∀ y, r.testBit y = true → p.testBit y = true) ∧ x = .int .i64 r ∧ (∃ G', Arr wr 3 gn n (iv (nv G')) ∧ (∀ k, k < n → G' k < 65536) ∧ LinkTo n V (leftE E i p r) G') ∧ w.grownBy wr (some gn))
    (fun x _ => (intOf x).toNat)
  case atStart => exact ⟨p, Nat.le_refl _, hp, fun _ h => h, rfl, ⟨G, HA.out, HG.out, HL0.out⟩, grownBy_of_below (Below.refl _ _) _⟩
  case round =>
    obtain ⟨r, hrp, hr, hsub, rfl, ⟨G1, ha1, hG1, hL1⟩, hg⟩ := hrel
    by_cases h0 : r = 0
    · subst h0
      go_wp2
      go_end0
      exact ⟨rfl, ⟨G1, ha1, hG1, hL1⟩, hg⟩
    · have hlow := ctz_low h0 (by omega)
      obtain ⟨j, hj⟩ : ∃ j, Lib.ctz 64 r = j := ⟨_, rfl⟩
      rw [hj] at hlow
      have hjn := bit_lt hlow.1 hr
      have HTR := hide (HT.out.grown hg hb1 hl1)
      have HER := hide (HE.out.grown hg hne1 hne2 hne3)
      have HSR := hide (HS.out.grown hg hne4)
      have HG' := hide hg
      have HA1 := hide ha1
      have HG1 := hide hG1
      have HL1 := hide hL1
      have HLOW := hide hlow
      have HSUB := hide hsub
      have hlt := low_lt hlow.1 hlow.2
      have hneq : ((r : Int) == 0) = false := by simp; omega
      have hneq' : ((r : Int) != 0) = true := by simp; omega
      have hand : bits .and .i64 (r : Int) ((r : Int) - 1) = ((r &&& (r - 1) : Nat) : Int) := by
        rw [show (r : Int) - 1 = ((r - 1 : Nat) : Int) by omega]
        exact i64_and_nat _ _ (by omega) (by omega)
      have hwu : IntKind.u64.wrap (r : Int) = (r : Int) := by rw [IntKind.wrap_u64]; omega
      clear hg ha1 hG1 hL1 hlow p16 hsub
      go_wp2_with (first
        | (go_at_call 57; refine (ctz_any _ (by omega) _ HTR.out).mono ?_; rintro e w3 ⟨rfl, rfl⟩; rw [hj])
        | (go_at_call 38; refine (ren_closure Bn Bs Bi gn n cn mc i j _ V G1 _ hn hi hjn HV.out HG1.out HER.out HSR.out HA1.out).mono ?_; rintro e w3 ⟨rfl, ha3, hg3⟩))
      refine ⟨⟨r &&& (r - 1), by omega, by omega, fun y hy => ?_, rfl, ⟨_, ha3, ?_, ?_⟩, grownBy_trans HG'.out hg3⟩, by simp [intOf]; omega⟩
      · rw [Nat.testBit_and, Bool.and_eq_true] at hy
        exact HSUB.out y hy.1
      · exact lk_lt (by have := HV.out i hi; omega) (by have := HV.out j hjn; omega) HG1.out
      · refine HL1.out.step hi hjn fun a b _ _ => ?_
        have hbits : (r &&& (r - 1)).testBit b = (r.testBit b ^^ decide (j = b)) := by rw [low_off HLOW.out.1 HLOW.out.2, Nat.testBit_xor, Nat.testBit_two_pow]
        unfold leftE
        rw [hbits]
        by_cases hjb : j = b
        · subst hjb
          rw [HLOW.out.1]
          have := HSUB.out j HLOW.out.1
          simp [this]
        · have : ¬ b = j := fun e => hjb e.symm
          simp [hjb, this]
end Go.Proofs.YtmkdikoogbedkaaDoor
