import Derived.Test.YtibikoajejfdeaaDoorTG
import Derived.Test.YtibikoajejfdeaaDoorTT
import Derived.Handy
namespace Go.Proofs.YtibikoajejfdeaaDoor
open Go.RowKit
set_option maxHeartbeats 1000000
theorem xs_congr {F F' : Nat → Nat} {n : Nat} (h : ∀ k, k < n → F k = F' k) : xs F n = xs F' n := by
  induction n with
  | zero => rfl
  | succ n ih => rw [xs, xs, ih (fun k hk => h k (by omega)), h n (by omega)]
/-- The sum of a list. -/
def sl (L : List Nat) : Nat := xs (fun k => L.getD k 0) L.length
theorem sl_snoc (L : List Nat) (b : Nat) : sl (L ++ [b]) = sl L ^^^ b := by
  unfold sl
  rw [List.length_append, List.length_singleton, xs]
  congr 1
  · apply xs_congr
    intro k hk
    simp [List.getElem?_append_left hk, List.getD_eq_getElem?_getD]
  · simp [List.getD_eq_getElem?_getD]
/-- p by the powers. -/
def tp (p : Nat) : Nat → Nat := fun i => p * 2 ^ i
theorem cb_eff (p q n : Nat) : cb p q n = effN (tp p) q n := by
  induction n with
  | zero => rfl
  | succ n ih =>
    rw [cb, effN, ih]
    split
    · rfl
    · rw [Nat.xor_zero]
theorem cm_eff (p q n : Nat) : cm n p q = effN (tp p) q n := by rw [cm_cb, cb_eff]
theorem eff_low {T : Nat → Nat} {r i n : Nat} (hi : i < n) (hb : r.testBit i = true) (hl : ∀ j, j < i → r.testBit j = false) : effN T (r &&& (r - 1)) n = effN T r n ^^^ T i := by
  rw [low_off hb hl, effN_xor, effN_bit, if_pos hi]
theorem low_bits {r i : Nat} (hb : r.testBit i = true) (hl : ∀ j, j < i → r.testBit j = false) : ∀ k, k < i + 1 → (r &&& (r - 1)).testBit k = false := by
  intro k hk
  rw [low_off hb hl, Nat.testBit_xor, Nat.testBit_two_pow]
  rcases Nat.lt_or_ge k i with h | h
  · rw [hl k h]; simp; omega
  · rw [show k = i by omega, hb]; simp
theorem xor_back (a b c : Nat) : (a ^^^ c) ^^^ (b ^^^ c) = a ^^^ b := by rw [x4, Nat.xor_self, Nat.xor_zero]
/-- A list lies in the box Bs. -/
structure Held (w : World) (Bs B : Nat) (L : List Nat) (A : Option Addr) (m d : Nat) : Prop where
  box : Arr w 36 Bs 1 (fun _ => .slice A m d)
  own : OL w B (.slice A m d) L
  len : L.length = m
theorem eachIn_prod (Bp Bs B0 B p q n : Nat) (w : World) (hq : q < 2 ^ n) (hn : n ≤ 42) (hp : ∀ i, i < n → p * 2 ^ i < 4611686018427387904) (hT : Tab w) (hB1 : 1 < B0)
    (hcp : Arr w 3 Bp 1 (fun _ => .int .i64 (p : Nat))) (hcs : Held w Bs B [] none 0 0) (hBp : Bp < B) (hBs : Bs < B) (hne : Bp ≠ Bs) (hB : B ≤ w.heap.size) (hB0 : B0 ≤ Bs) :
    Calls Tryd.prog 40 #[.int .i64 q, .func (.func 41) #[] #[.pointer (some ⟨Bs, 0, none⟩), .pointer (some ⟨Bp, 0, none⟩)]] w fun e w' => e = .returned (.tuple #[]) ∧
      ∃ L A m d, Held w' Bs B L A m d ∧ m ≤ 64 ∧ (∀ b ∈ L, b < 4611686018427387904) ∧ sl L = effN (tp p) q n ∧ Below B0 w w' := by
  obtain ⟨G, hG⟩ : ∃ G, effN (tp p) q n = G := ⟨_, rfl⟩
  rw [hG]
  have HT := hide hT
  have HP := hide hp
  have HG := hide hG
  have HCP := hide hcp
  have HCS := hide hcs
  have hq62 : q < 4398046511104 := Nat.lt_of_lt_of_le hq (Nat.pow_le_pow_right (n := 2) (j := 42) (by decide) hn)
  have HQ := hide hq
  clear hT hp hG hcp hcs hq
  go_enter Tryd.func40, Tryd.ntmps40
  go_wp2
  go_loopw [0] (fun x wr => ∃ (r m d j : Nat) (A : Option Addr) (L : List Nat), x = .int .i64 r ∧ r < 4398046511104 ∧ m ≤ j ∧ j ≤ n ∧ Hid (r < 2 ^ n ∧ ∀ k, k < j → r.testBit k = false) ∧ Hid (Held wr Bs B L A m d) ∧ Hid (Arr wr 3 Bp 1 (fun _ => .int .i64 (p : Nat))) ∧ Hid (sl L ^^^ effN (tp p) r n = G ∧ ∀ b ∈ L, b < 4611686018427387904) ∧ Hid (Below B0 w wr))
    (fun x _ => (intOf x).toNat)
  case atStart => exact ⟨q, 0, 0, 0, none, [], rfl, hq62, by omega, by omega, hide ⟨HQ.out, fun k hk => absurd hk (by omega)⟩, HCS, HCP, hide ⟨by show 0 ^^^ _ = _; rw [Nat.zero_xor]; exact HG.out, fun b hb => by cases hb⟩, hide (Below.refl _ _)⟩
  case round =>
    obtain ⟨r, m, d, j, A, L, rfl, hr, hmj, hjn, H1, H2, H3, H4, H5⟩ := hrel
    by_cases h0 : r = 0
    · subst h0
      have he : sl L = G := by have := H4.out.1; rw [effN_zero, Nat.xor_zero] at this; exact this
      have HE := hide he
      clear he H1
      go_wp2
      go_end0
      exact ⟨rfl, L, A, m, d, H2.out, by omega, H4.out.2, HE.out, H5.out⟩
    · have hlow := ctz_low h0 (by have : (2 : Nat) ^ 64 = 18446744073709551616 := rfl; omega)
      obtain ⟨i, hi⟩ : ∃ i, Lib.ctz 64 r = i := ⟨_, rfl⟩
      rw [hi] at hlow
      have HI := hide hi
      have hin := bit_lt hlow.1 H1.out.1
      have hji : j ≤ i := by
        rcases Nat.lt_or_ge i j with h | h
        · have := H1.out.2 i h; rw [hlow.1] at this; cases this
        · exact h
      have hlt := low_lt hlow.1 hlow.2
      have hlb := low_bits hlow.1 hlow.2
      have hef := eff_low (T := tp p) hin hlow.1 hlow.2
      have hand : bits .and .i64 (r : Int) ((r : Int) - 1) = ((r &&& (r - 1) : Nat) : Int) := by
        rw [show (r : Int) - 1 = ((r - 1 : Nat) : Int) by omega]
        exact i64_and_nat _ _ (by omega) (by omega)
      obtain ⟨R, hR⟩ : ∃ R, r &&& (r - 1) = R := ⟨_, rfl⟩
      rw [hR] at hlt hlb hef hand
      have hneq : ((r : Int) == 0) = false := by simp; omega
      have hneq' : ((r : Int) != 0) = true := by simp; omega
      have hwu : IntKind.u64.wrap (r : Int) = (r : Int) := by rw [IntKind.wrap_u64]; omega
      have hTr := H5.out
      have HTR := hide (HT.out.below' hTr hB1)
      have hsz := H5.out.size
      have HN : Hid (R < 2 ^ n ∧ ∀ k, k < i + 1 → R.testBit k = false) := hide ⟨Nat.lt_trans hlt H1.out.1, hlb⟩
      have HS : Hid (sl (L ++ [p * 2 ^ i]) ^^^ effN (tp p) R n = G ∧ ∀ b ∈ L ++ [p * 2 ^ i], b < 4611686018427387904) := hide ⟨by
        rw [sl_snoc, hef]
        show (sl L ^^^ p * 2 ^ i) ^^^ (effN (tp p) r n ^^^ p * 2 ^ i) = G
        rw [xor_back]; exact H4.out.1, fun b hb => by
        rcases List.mem_append.1 hb with h | h
        · exact H4.out.2 b h
        · rw [List.mem_singleton.1 h]; exact HP.out i hin⟩
      clear hlow hlb hef hR hTr hi H1 H4
      go_wp2_with (first
        | (go_at_call 45; refine (ctz_any _ (by omega) _ HTR.out).mono ?_; rintro e w3 ⟨rfl, rfl⟩; rw [HI.out])
        | (go_at_call 41; refine (prod_closure Bp Bs B0 B p i m d A L _ H3.out H2.out.box H2.out.own H2.out.len (by omega) hBp hBs hne (by omega) hB0 (by omega) (HP.out i hin)).mono ?_; rintro e w3 ⟨rfl, A', d', hb1, hb2, hb3, hb4⟩; have K1 := hide hb1; have K2 := hide hb2; have K3 := hide hb3; have K4 := hide hb4; clear hb1 hb2 hb3 hb4))
      refine ⟨⟨R, m + 1, d', i + 1, A', L ++ [p * 2 ^ i], rfl, by omega, by omega, by omega, HN, hide ⟨K1.out, K3.out, by rw [List.length_append, H2.out.len]; rfl⟩, K2, HS, hide (H5.out.trans K4.out)⟩, by simp [intOf]; omega⟩
theorem product_any (p q n : Nat) (w : World) (hq : q < 2 ^ n) (hn : n ≤ 42) (hp : ∀ i, i < n → p * 2 ^ i < 4611686018427387904) (hT : Tab w) :
    Calls Tryd.prog 24 #[.int .i64 p, .int .i64 q] w fun e w' => e = .returned (.int .i64 (cm n p q : Nat)) ∧ Below w.heap.size w w' := by
  have hmf : ∀ (fn : Fn) (first cap : Array Value) (w : World), (Instr.makeFunc fn first cap).run Tryd.prog w = .ok (.func fn first cap) w := fun _ _ _ _ => rfl
  obtain ⟨G, hG⟩ : ∃ G, cm n p q = G := ⟨_, rfl⟩
  rw [hG]
  rw [cm_eff] at hG
  have h1 := hT.lt
  have HT := hide hT
  have HG := hide hG
  clear hT hG
  go_enter Tryd.func24, Tryd.ntmps24
  go_wp2_with fail
  refine (eachIn_prod w.heap.size (w.heap.size + 1) w.heap.size (w.heap.size + 1 + 1) p q n _ hq hn hp (HT.out.below ?_) h1 ?_ ⟨?_, OL.nil _ _, rfl⟩ (by omega) (by omega) (by omega) (by simp) (by omega)).mono ?_
  · go_grown
  · exact (Arr.new w #[.int .i64 (p : Nat)] 3 (fun _ => .int .i64 (p : Nat)) (fun i hi => by match i, hi with | 0, _ => rfl)).alloc _
  · have := Arr.new (w.alloc (.cells #[.int .i64 (p : Nat)] 3)) #[.slice none 0 0] 36 (fun _ => .slice none 0 0) (fun i hi => by match i, hi with | 0, _ => rfl)
    simpa using this
  · rintro e w2 ⟨rfl, L, A, m, d, hH, hm, hL, hs, hb⟩
    have c0 := hH.box.cell (k := 0) (by omega)
    have HSr := hide (hH.own.src hH.len)
    have HL : Hid (∀ k, k < m → L.getD k 0 < 2 ^ 62) := hide fun k hk => by
      have hk2 : k < L.length := by rw [hH.len]; exact hk
      rw [List.getD_eq_getElem?_getD, List.getElem?_eq_getElem hk2]
      exact hL _ (List.getElem_mem hk2)
    have HX : Hid (xs (fun k => L.getD k 0) m = G) := hide (by rw [← HG.out, ← hs, sl, hH.len])
    have HB : Hid (Below w.heap.size w w2) := hide ((by go_grown : Below w.heap.size w _).trans hb)
    clear hH hs hb hL
    go_wp2_with (go_at_call 37; refine (sum_any _ m _ (fun k => L.getD k 0) _ (by omega) HSr.out HL.out).mono ?_; rintro e w' ⟨rfl, hw⟩; subst w'; rw [HX.out])
    go_ret
    exact ⟨rfl, HB.out⟩
end Go.Proofs.YtibikoajejfdeaaDoor
