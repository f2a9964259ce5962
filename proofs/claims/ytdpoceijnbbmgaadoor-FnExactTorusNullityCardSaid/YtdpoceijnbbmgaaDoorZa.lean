/-
Texts joined: Base M MB LA Eff U W1 MQ PA PB PC.
-/
import Derived.WalkKit
import Derived.WalkSpells
import Derived.WalkLawsBesides
import Derived.Deep.OwnRows
import Derived.Deep.Draws
import Derived.BigQuiet
import Derived.Deep.QuietTactic
import Derived.Lib.Hide
import Derived.Laws.BitsAllLaws
import Derived.Laws.BitsLemmas
import Derived.Laws.Bits64
import Derived.RowKit
import Derived.IntWalk
import Derived.Lib.TrailingZeros
import Derived.Maps.AppendAt
import Derived.Deep.RegionLaw
import Derived.RegionTactic
import Derived.Laws.CopyOwn
/-
Plain words for memory: a block whose first cells are known by a function of the index, and a slice argument that reads so. Nothing here speaks of the program.
-/
namespace Go.Proofs.YtdpoceijnbbmgaaDoor
open Go.RowKit

/-- Block g holds cells of type t, none frozen; its first n cells are f 0, f 1, .. -/
def Arr (w : World) (t : TypeId) (g n : Nat) (f : Nat → Value) : Prop :=
  ∃ c : Array Value, w.heap[g]? = some (.cells c t (0, 0)) ∧ n ≤ c.size ∧ ∀ k, k < n → c[k]? = some (f k)

/-- The contents of an int slice. -/
def iv (f : Nat → Int) : Nat → Value := fun k => .int .i64 (f k)

/-- A slice argument that reads as f 0, .., f (n - 1): nothing is asked of an empty one. -/
def Src (w : World) (A : Option Addr) (n : Nat) (f : Nat → Value) : Prop :=
  ∀ k, k < n → ∃ b off, A = some ⟨b, off, none⟩ ∧ b < w.heap.size ∧ w.cell? ⟨b, off + k, none⟩ = some (f k)

section
variable {w w' : World} {t : TypeId} {g n B : Nat} {f f' : Nat → Value} {A : Option Addr}

theorem Arr.lt (h : Arr w t g n f) : g < w.heap.size := by
  obtain ⟨c, hb, _, _⟩ := h
  exact (Array.getElem?_eq_some_iff.1 hb).1
theorem Arr.cell (h : Arr w t g n f) {k : Nat} (hk : k < n) : w.cell? ⟨g, k, none⟩ = some (f k) := by
  obtain ⟨c, hb, _, hc⟩ := h
  simp [World.cell?, hb, hc k hk]
theorem Arr.frozen (h : Arr w t g n f) (i : Nat) : w.frozen? ⟨g, i, none⟩ = false := by
  obtain ⟨c, hb, _, _⟩ := h
  simp [World.frozen?, hb]
theorem Arr.congr (h : Arr w t g n f) (e : ∀ k, k < n → f k = f' k) : Arr w t g n f' := by
  obtain ⟨c, hb, hn, hc⟩ := h
  exact ⟨c, hb, hn, fun k hk => by rw [hc k hk, e k hk]⟩
theorem Arr.of_block (h : Arr w t g n f) (e : w'.heap[g]? = w.heap[g]?) : Arr w' t g n f := by
  obtain ⟨c, hb, hn, hc⟩ := h
  exact ⟨c, e.trans hb, hn, hc⟩
theorem Arr.below (h : Arr w t g n f) (hb : Below B w w') (hg : g < B) : Arr w' t g n f := h.of_block (hb.block g hg)
theorem Arr.all (h : Arr w t g n f) (hb : Below w.heap.size w w') : Arr w' t g n f := h.below hb h.lt
theorem Arr.drew (h : Arr w t g n f) : Arr w.drew t g n f := h
theorem Arr.drewN (h : Arr w t g n f) (k : Nat) : Arr (w.drewN k) t g n f := h
theorem Arr.alloc (h : Arr w t g n f) (o : Obj) : Arr (w.alloc o) t g n f := h.of_block (Below.heap_alloc w o g h.lt)
theorem Arr.far (h : Arr w t g n f) {p : Addr} (hp : g ≠ p.block) (u : Value) : Arr (w.setCell p u) t g n f := h.of_block (Below.heap_setCell w p u g hp)
theorem Arr.set (h : Arr w t g n f) (i : Nat) (v : Value) : Arr (w.setCell ⟨g, i, none⟩ v) t g n (fun j => if j = i then v else f j) := by
  obtain ⟨c, hb, hn, hc⟩ := h
  refine ⟨c.setIfInBounds i v, ?_, by simpa using hn, fun j hj => ?_⟩
  · simp [World.setCell, Array.getElem?_modify, hb]
  · rw [Array.getElem?_setIfInBounds]
    by_cases e : j = i
    · subst e
      simp; omega
    · rw [if_neg (fun h => e h.symm)]
      show c[j]? = some (if j = i then v else f j)
      rw [if_neg e]
      exact hc j hj
theorem Arr.take (h : Arr w t g n f) {m : Nat} (hm : m ≤ n) : Arr w t g m f := by
  obtain ⟨c, hb, hn, hc⟩ := h
  exact ⟨c, hb, by omega, fun k hk => hc k (by omega)⟩
theorem Arr.new (w : World) (c : Array Value) (t : TypeId) (f : Nat → Value) (hc : ∀ i, i < c.size → c[i]? = some (f i)) : Arr (w.alloc (.cells c t)) t w.heap.size c.size f :=
  ⟨c, heap_alloc_new w _, Nat.le_refl _, hc⟩
theorem Arr.made (w : World) (z : Value) (n : Nat) (t : TypeId) : Arr (w.alloc (.cells (madeCells #[z] n) t)) t w.heap.size n (fun _ => z) :=
  ⟨_, heap_alloc_new w _, by rw [size_madeCells]; exact Nat.le_refl _, fun i hi => by simp [madeCells, hi, Nat.mod_one]⟩
theorem Arr.ne_ {g' n' : Nat} {t' : TypeId} (h : Arr w t g n f) (h' : Arr w t' g' n' f') (hne : t ≠ t') : g ≠ g' := by
  rintro rfl
  obtain ⟨c, hb, _, _⟩ := h
  obtain ⟨c', hb', _, _⟩ := h'
  rw [hb] at hb'
  injection hb' with hb'
  injection hb' with _ ht
  exact hne ht

theorem Src.of_arr (h : Arr w t g n f) : Src w (some ⟨g, 0, none⟩) n f := fun k hk => ⟨g, 0, rfl, h.lt, by rw [Nat.zero_add]; exact h.cell hk⟩
theorem Src.nil : Src w A 0 f := fun k hk => absurd hk (by omega)
theorem Src.below (h : Src w A n f) (hb : Below w.heap.size w w') : Src w' A n f := fun k hk => by
  obtain ⟨b, off, e, hlt, hc⟩ := h k hk
  exact ⟨b, off, e, Nat.lt_of_lt_of_le hlt hb.size, (hb.cell (p := ⟨b, off + k, none⟩) hlt).trans hc⟩
theorem Src.alloc (h : Src w A n f) (o : Obj) : Src (w.alloc o) A n f := h.below ((Below.refl _ _).alloc (Nat.le_refl _) _)
theorem Src.drew (h : Src w A n f) : Src w.drew A n f := h
theorem Src.drewN (h : Src w A n f) (k : Nat) : Src (w.drewN k) A n f := h
theorem below_drewN {B : Nat} {a w : World} (h : Below B a w) (n : Nat) : Below B a (w.drewN n) := ⟨h.os, h.tape, h.output, h.size, h.block⟩
theorem hide {p : Prop} (h : p) : Hid p := h
theorem bcell {W w1 : World} (hb : Below W.heap.size W w1) : (∀ b o, b < W.heap.size → w1.cell? ⟨b, o, none⟩ = W.cell? ⟨b, o, none⟩) ∧ (∀ b o, b < W.heap.size → w1.frozen? ⟨b, o, none⟩ = W.frozen? ⟨b, o, none⟩) :=
  ⟨fun b o h => hb.cell (p := ⟨b, o, none⟩) h, fun b o h => hb.frozen (p := ⟨b, o, none⟩) h⟩
end
/-- Four cells, and what became of them: two structs of two cells each, held while new memory is made. -/
theorem four_below {W w' : World} {a b : Nat} {u0 u1 v0 v1 : Value} (hb : Below W.heap.size W w')
    (h : W.cell? ⟨a, 0, none⟩ = some u0 ∧ W.cell? ⟨a, 1, none⟩ = some u1 ∧ W.cell? ⟨b, 0, none⟩ = some v0 ∧ W.cell? ⟨b, 1, none⟩ = some v1) :
    w'.cell? ⟨a, 0, none⟩ = some u0 ∧ w'.cell? ⟨a, 1, none⟩ = some u1 ∧ w'.cell? ⟨b, 0, none⟩ = some v0 ∧ w'.cell? ⟨b, 1, none⟩ = some v1 := by
  obtain ⟨h1, h2, h3, h4⟩ := h
  have l1 := World.block_lt_of_cell? W _ h1
  have l3 := World.block_lt_of_cell? W _ h3
  exact ⟨(hb.cell (p := ⟨a, 0, none⟩) l1).trans h1, (hb.cell (p := ⟨a, 1, none⟩) l1).trans h2, (hb.cell (p := ⟨b, 0, none⟩) l3).trans h3, (hb.cell (p := ⟨b, 1, none⟩) l3).trans h4⟩
theorem quiet_add {P : Program} {f : FuncId} {args : Array Value} {w : World} {a n : Nat} {v : Value}
    (h : Calls P f args (w.drewN (a + n)) fun e w' => e = .returned v ∧ ∃ m, w' = (w.drewN (a + n)).drewN m) :
    Calls P f args (w.drewN (a + n)) fun e w'' => e = .returned v ∧ ∃ m, w'' = w.drewN (a + m) :=
  h.mono fun _ _ ⟨he, m, hm⟩ => ⟨he, n + m, by rw [hm, World.drewN_drewN, Nat.add_assoc]⟩
theorem quiet_add_same {P : Program} {f : FuncId} {args : Array Value} {w : World} {a n : Nat} {v : Value}
    (h : Calls P f args (w.drewN (a + n)) fun e w' => e = .returned v ∧ w' = w.drewN (a + n)) :
    Calls P f args (w.drewN (a + n)) fun e w'' => e = .returned v ∧ ∃ m, w'' = w.drewN (a + m) :=
  h.mono fun _ _ ⟨he, hm⟩ => ⟨he, n, hm⟩
end Go.Proofs.YtdpoceijnbbmgaaDoor
/-
Plain arithmetic of sets told as numbers: bits, graphs. Nothing here speaks of the program.
-/
namespace Go.Proofs.YtdpoceijnbbmgaaDoor

/-- Is i in the set s? -/
def bt (s : Int) (i : Nat) : Bool := decide (s / 2 ^ i % 2 = 1)

theorem bits_and_one (x : Int) : bits .and .i64 x 1 = x % 2 := by
  show IntKind.i64.wrap ((BitVec.ofInt 64 x &&& BitVec.ofInt 64 1).toNat : Int) = _
  have h1 : BitVec.ofInt 64 1 = 1#64 := rfl
  rw [h1, BitVec.toNat_and]
  have h2 : (1#64).toNat = 1 := rfl
  rw [h2, Nat.and_one_is_mod, BitVec.toNat_ofInt, IntKind.wrap_i64]
  omega
theorem has_eq (s : Int) (i : Nat) : (bits .and .i64 (s / 2 ^ i) 1 == 1) = bt s i := by
  rw [bits_and_one, Bool.eq_iff_iff]; simp [bt]
theorem grIn_eq (s : Int) (i : Nat) (h : 0 ≤ s) : ((s / 2 ^ i).tmod 2 == 1) = bt s i := by
  have : 0 ≤ s / 2 ^ i := Int.ediv_nonneg h (by have : (0 : Int) < 2 ^ i := Int.pow_pos (by decide); omega)
  rw [Int.tmod_eq_emod_of_nonneg this, Bool.eq_iff_iff]; simp [bt]
theorem isSet_eq (s : Int) (n : Nat) : (s / 2 ^ n == 0) = decide (0 ≤ s ∧ s < 2 ^ n) := by
  have hp : (0 : Int) < 2 ^ n := Int.pow_pos (by decide)
  rw [Bool.eq_iff_iff]
  simp only [beq_iff_eq, decide_eq_true_eq]
  constructor
  · intro h
    have := Int.mul_ediv_add_emod s (2 ^ n)
    have h1 := Int.emod_nonneg s (show (2 : Int) ^ n ≠ 0 by omega)
    have h2 := Int.emod_lt_of_pos s hp
    rw [h] at this
    simp at this
    omega
  · intro ⟨h0, h1⟩
    exact Int.ediv_eq_zero_of_lt h0 h1
theorem pow_nat (n : Nat) : ((2 ^ n : Nat) : Int) = 2 ^ n := by rw [Int.natCast_pow]; rfl
theorem pow16 {n : Nat} (h : n ≤ 16) : (1 : Int) ≤ 2 ^ n ∧ (2 : Int) ^ n ≤ 65536 := by
  have h1 : 2 ^ n ≤ 2 ^ 16 := Nat.pow_le_pow_right (by decide) h
  have h2 : 1 ≤ 2 ^ n := Nat.one_le_two_pow
  have h3 : (2 : Nat) ^ 16 = 65536 := rfl
  rw [← pow_nat]
  omega
/-- lo ≤ s ≤ hi, as a test. -/
def inB (s lo hi : Int) : Bool := decide (lo ≤ s ∧ s ≤ hi)
theorem isSet_in (s : Int) (n : Nat) : (s / 2 ^ n == 0) = inB s 0 (2 ^ n - 1) := by
  rw [isSet_eq, inB, decide_eq_decide]; omega
/-- All of f 0, .., f (n - 1) lie there. -/
def allB (n : Nat) (f : Nat → Int) (lo hi : Int) : Bool := decide (∀ k, k < n → lo ≤ f k ∧ f k ≤ hi)
def Good (n : Nat) (f : Nat → Int) : Prop :=
  1 ≤ n ∧ n ≤ 16 ∧ (∀ k, k < n → 0 ≤ f k ∧ f k < 2 ^ n) ∧ ∀ i, i < n → ∀ j, j < n → bt (f i) j = true → i ≠ j ∧ bt (f j) i = true
open Classical in
/-- Are f 0, .., f (n - 1) the neighbours of a graph of n buttons? -/
noncomputable def goodB (n : Nat) (f : Nat → Int) : Bool := decide (Good n f)
theorem goodB_yes {n : Nat} {f : Nat → Int} (h : Good n f) : goodB n f = true := by simp [goodB, h]
theorem goodB_no {n : Nat} {f : Nat → Int} (h : ¬ Good n f) : goodB n f = false := by simp [goodB, h]
theorem goodB_iff {n : Nat} {f : Nat → Int} : goodB n f = true ↔ Good n f := by simp [goodB]
theorem goodB_not {n : Nat} {f : Nat → Int} : goodB n f = false ↔ ¬ Good n f := by simp [goodB]

theorem ofInt_i64 (a : Nat) (ha : a < 9223372036854775808) : (BitVec.ofInt 64 (a : Int)).toNat = a := by
  rw [BitVec.ofInt_natCast, BitVec.toNat_ofNat]; exact Nat.mod_eq_of_lt (by omega)
theorem i64_or_nat (a b : Nat) (ha : a < 9223372036854775808) (hb : b < 9223372036854775808) : bits .or .i64 (a : Int) (b : Int) = ((a ||| b : Nat) : Int) := by
  have hx : a ||| b < 2 ^ 63 := Nat.or_lt_two_pow (by omega) (by omega)
  show IntKind.i64.wrap ((BitVec.ofInt 64 (a : Int) ||| BitVec.ofInt 64 (b : Int)).toNat : Int) = _
  rw [BitVec.toNat_or, ofInt_i64 a ha, ofInt_i64 b hb, IntKind.wrap_i64]
  omega
theorem i64_xor_nat (a b : Nat) (ha : a < 9223372036854775808) (hb : b < 9223372036854775808) : bits .xor .i64 (a : Int) (b : Int) = ((a ^^^ b : Nat) : Int) := by
  have hx : a ^^^ b < 2 ^ 63 := Nat.xor_lt_two_pow (by omega) (by omega)
  show IntKind.i64.wrap ((BitVec.ofInt 64 (a : Int) ^^^ BitVec.ofInt 64 (b : Int)).toNat : Int) = _
  rw [BitVec.toNat_xor, ofInt_i64 a ha, ofInt_i64 b hb, IntKind.wrap_i64]
  omega
theorem pow_lt16 {j : Nat} (hj : j < 16) : 2 ^ j < 65536 := by
  have h1 : 2 ^ j < 2 ^ 16 := Nat.pow_lt_pow_right (by decide) hj
  exact h1
/-- x with the bit j. -/
theorem or_pow (a j : Nat) (ha : a < 65536) (hj : j < 16) : bits .or .i64 (a : Int) (2 ^ j) = ((a ||| 2 ^ j : Nat) : Int) := by
  have h := pow_lt16 hj
  rw [← i64_or_nat a (2 ^ j) (by omega) (by omega), pow_nat]
theorem wrap_pow {j : Nat} (hj : j < 16) : RowKit.wrap64 (2 ^ j) = 2 ^ j := by
  have h := pow_lt16 hj
  rw [← pow_nat]
  generalize 2 ^ j = x at h
  exact IntWalk.wrap64_in _ (by omega)
theorem or_wrap (a j : Nat) (ha : a < 65536) (hj : j < 16) : bits .or .i64 (a : Int) (RowKit.wrap64 (2 ^ j)) = ((a ||| 2 ^ j : Nat) : Int) := by
  rw [wrap_pow hj, or_pow a j ha hj]
theorem or_lt16 {a b : Nat} (ha : a < 65536) (hb : b < 65536) : a ||| b < 65536 := Nat.or_lt_two_pow (n := 16) ha hb
/-- The edge i, j is added: two elements are joined to each other. -/
def lk (i j : Nat) (F : Nat → Nat) : Nat → Nat := fun k => if k = j then (if j = i then F k ||| 2 ^ j else F k) ||| 2 ^ i else if k = i then F k ||| 2 ^ j else F k
theorem lk_lt {i j : Nat} {F : Nat → Nat} {n : Nat} (hi : i < 16) (hj : j < 16) (hF : ∀ k, k < n → F k < 65536) : ∀ k, k < n → lk i j F k < 65536 := by
  intro k hk
  have h1 := pow_lt16 hi
  have h2 := pow_lt16 hj
  have h3 := hF k hk
  unfold lk
  split
  · split
    · exact or_lt16 (or_lt16 h3 h2) h1
    · exact or_lt16 h3 h1
  · split
    · exact or_lt16 h3 h2
    · exact h3
end Go.Proofs.YtdpoceijnbbmgaaDoor
/-
Sets told by their bits, and a board of lights as an array. Plain arithmetic; nothing here speaks of the program.
-/
namespace Go.Proofs.YtdpoceijnbbmgaaDoor
theorem bt_nat (s i : Nat) : bt (s : Int) i = s.testBit i := by
  rw [Nat.testBit_eq_decide_div_mod_eq]
  simp only [bt]
  rw [decide_eq_decide, ← pow_nat]
  omega
/-- The number whose bits below k are L. -/
def litN (L : Nat → Bool) : Nat → Nat
  | 0 => 0
  | k + 1 => if L k then litN L k ||| 2 ^ k else litN L k
theorem litN_bit (L : Nat → Bool) (k j : Nat) : (litN L k).testBit j = (decide (j < k) && L j) := by
  induction k with
  | zero => simp [litN]
  | succ k ih =>
    simp only [litN]
    by_cases hL : L k = true
    · rw [if_pos hL, Nat.testBit_or, ih, Nat.testBit_two_pow]
      by_cases hjk : j = k
      · subst hjk; simp [hL]
      · have h1 : ¬ k = j := fun e => hjk e.symm
        by_cases h2 : j < k
        · simp [h1, h2, show j < k + 1 by omega]
        · simp [h1, h2, show ¬ j < k + 1 by omega]
    · rw [if_neg hL, ih]
      by_cases hjk : j = k
      · subst hjk; simp [hL]
      · by_cases h2 : j < k
        · simp [h2, show j < k + 1 by omega]
        · simp [h2, show ¬ j < k + 1 by omega]
theorem litN_lt (L : Nat → Bool) (k : Nat) (hk : k ≤ 16) : litN L k < 65536 := by
  have : litN L k < 2 ^ 16 := Nat.lt_pow_two_of_testBit _ fun j hj => by
    rw [litN_bit]
    simp; omega
  exact this
theorem litN_eq (L : Nat → Bool) (s : Nat) (hs : s < 65536) (h : ∀ j, j < 16 → L j = s.testBit j) : litN L 16 = s := by
  apply Nat.eq_of_testBit_eq
  intro j
  rw [litN_bit]
  by_cases hj : j < 16
  · simp [hj, h j hj]
  · have : s.testBit j = false := Nat.testBit_lt_two_pow (Nat.lt_of_lt_of_le hs (show 65536 ≤ 2 ^ j from Nat.pow_le_pow_right (n := 2) (i := 16) (by decide) (by omega)))
    simp [hj, this]
theorem bit_above {s n j : Nat} (hs : s < 2 ^ n) (hj : n ≤ j) : s.testBit j = false :=
  Nat.testBit_lt_two_pow (Nat.lt_of_lt_of_le hs (Nat.pow_le_pow_right (by decide) hj))
/-- The cells of a board: the graph's two, then its sixteen lights. -/
def bd (near own : Value) (L : Nat → Bool) : Array Value := (near :: own :: (List.range 16).map (fun j => Value.bool (L j))).toArray
theorem bd_size (near own : Value) (L : Nat → Bool) : (bd near own L).size = 18 := by simp [bd]
theorem bd_0 (near own : Value) (L : Nat → Bool) : (bd near own L)[0]? = some near := rfl
theorem bd_1 (near own : Value) (L : Nat → Bool) : (bd near own L)[1]? = some own := rfl
theorem bd_get (near own : Value) (L : Nat → Bool) (j : Nat) (hj : j < 16) : (bd near own L)[2 + j]? = some (.bool (L j)) := by
  rw [show 2 + j = (j + 1) + 1 by omega]
  simp [bd, hj]
theorem bd_set (near own : Value) (L : Nat → Bool) (j : Nat) (b : Bool) : (bd near own L).setIfInBounds (2 + j) (.bool b) = bd near own (fun k => if k = j then b else L k) := by
  apply Array.ext_getElem?
  intro k
  rw [Array.getElem?_setIfInBounds]
  by_cases hk : 2 + j = k
  · subst hk
    by_cases hj : j < 16
    · rw [if_pos rfl, if_pos (by rw [bd_size]; omega), bd_get _ _ _ _ hj, if_pos rfl]
    · rw [if_pos rfl, if_neg (by rw [bd_size]; omega), Array.getElem?_eq_none (by rw [bd_size]; omega)]
  · rw [if_neg hk]
    by_cases h18 : k < 18
    · match k, h18 with
      | 0, _ => rfl
      | 1, _ => rfl
      | k + 2, h18 =>
        rw [show k + 2 = 2 + k by omega, bd_get _ _ _ _ (by omega), bd_get _ _ _ _ (by omega), if_neg (by omega)]
    · rw [Array.getElem?_eq_none (by rw [bd_size]; omega), Array.getElem?_eq_none (by rw [bd_size]; omega)]
theorem bd_one (near own : Value) (L : Nat → Bool) (h0 : near.oneCell' = true) (h1 : own.oneCell' = true) : (bd near own L).all (·.oneCell') = true := by
  simp [bd, h0, h1]
  intro k _; rfl
/-- The lights alone. -/
def ltL (L : Nat → Bool) : List Value := (List.range 16).map (fun j => Value.bool (L j))
theorem ltL_get (L : Nat → Bool) (j : Nat) (hj : j < 16) : (ltL L)[j]? = some (.bool (L j)) := by simp [ltL, hj]
end Go.Proofs.YtdpoceijnbbmgaaDoor
/-
Sets as numbers, and bases of sets in reduced form: plain arithmetic; nothing here speaks of the program.
-/

namespace Go.Proofs.YtdpoceijnbbmgaaDoor
/-- s with the greatest element of b cleared by b. -/
def stp (s b : Nat) : Nat := if s.testBit b.log2 then s ^^^ b else s
def rd (B : List Nat) (s : Nat) : Nat := B.foldl stp s
def rdr (B : List Nat) (s : Nat) : Nat := B.foldr (fun b s => stp s b) s
def cor : List Nat → Nat → Nat
  | [], _ => 0
  | b :: B, s => (if s.testBit b.log2 then b else 0) ^^^ cor B s
def lin (B : List Nat) (s : Nat) : Nat := s ^^^ cor B s
/-- A basis: increasing greatest elements, none of them in another set. -/
def Bas (B : List Nat) : Prop := (∀ b ∈ B, b ≠ 0) ∧ B.Pairwise (fun a b => a.log2 < b.log2 ∧ b.testBit a.log2 = false)
def Cl (B : List Nat) (s : Nat) : Prop := ∀ b ∈ B, s.testBit b.log2 = false
def put (B : List Nat) (r : Nat) : List Nat :=
  B.filter (fun b => decide (b.log2 < r.log2)) ++ r :: (B.filter (fun b => decide (r.log2 < b.log2))).map (fun b => stp b r)
def add (B : List Nat) (s : Nat) : List Nat := if lin B s = 0 then B else put B (lin B s)

theorem bit_hi {s i : Nat} (h : s.log2 < i) : s.testBit i = false :=
  Nat.testBit_lt_two_pow (Nat.lt_of_lt_of_le Nat.lt_log2_self (Nat.pow_le_pow_right (by decide) h))
theorem bit_top {s : Nat} (h : s ≠ 0) : s.testBit s.log2 = true := by
  have h1 := Nat.log2_self_le h
  have h2 : s < 2 ^ (s.log2 + 1) := Nat.lt_log2_self
  rw [Nat.testBit_eq_decide_div_mod_eq, decide_eq_true_eq]
  have hp : 0 < 2 ^ s.log2 := Nat.two_pow_pos _
  have h3 : s / 2 ^ s.log2 = 1 := by
    apply Nat.div_eq_of_lt_le
    · omega
    · rw [Nat.pow_succ] at h2; omega
  rw [h3]
theorem log2_eq {s k : Nat} (h : s.testBit k = true) (h2 : ∀ j, k < j → s.testBit j = false) : s.log2 = k := by
  have hs : s ≠ 0 := by rintro rfl; simp at h
  rcases Nat.lt_trichotomy s.log2 k with h3 | h3 | h3
  · rw [bit_hi h3] at h; cases h
  · exact h3
  · have := h2 _ h3; rw [bit_top hs] at this; cases this
theorem xx (a b : Nat) : a ^^^ b ^^^ b = a := by rw [Nat.xor_assoc, Nat.xor_self, Nat.xor_zero]
theorem xx2 (a b : Nat) : b ^^^ (b ^^^ a) = a := by rw [← Nat.xor_assoc, Nat.xor_self, Nat.zero_xor]
theorem xlc (a b c : Nat) : a ^^^ (b ^^^ c) = b ^^^ (a ^^^ c) := by rw [← Nat.xor_assoc, Nat.xor_comm a b, Nat.xor_assoc]
theorem stp_bit (s b j : Nat) : (stp s b).testBit j = (s.testBit j ^^ (s.testBit b.log2 && b.testBit j)) := by
  unfold stp; cases h : s.testBit b.log2 <;> simp
theorem stp_top {s b : Nat} (hb : b ≠ 0) : (stp s b).testBit b.log2 = false := by
  rw [stp_bit, bit_top hb]; cases s.testBit b.log2 <;> rfl
theorem stp_eq (s b : Nat) : stp s b = s ^^^ (if s.testBit b.log2 then b else 0) := by
  unfold stp; cases h : s.testBit b.log2 <;> simp
theorem cor_congr {B : List Nat} {x y : Nat} (h : ∀ b ∈ B, x.testBit b.log2 = y.testBit b.log2) : cor B x = cor B y := by
  induction B with
  | nil => rfl
  | cons b B ih => simp only [cor]; rw [h b (by simp), ih (fun c hc => h c (by simp [hc]))]
theorem cor_xor (B : List Nat) (x y : Nat) : cor B (x ^^^ y) = cor B x ^^^ cor B y := by
  induction B with
  | nil => simp [cor]
  | cons b B ih =>
    simp only [cor, ih, Nat.testBit_xor]
    cases h1 : x.testBit b.log2 <;> cases h2 : y.testBit b.log2 <;> simp [Nat.xor_assoc, xlc (cor B x) b]
    rw [xx2]
theorem lin_xor (B : List Nat) (x y : Nat) : lin B (x ^^^ y) = lin B x ^^^ lin B y := by
  simp only [lin, cor_xor]; simp only [Nat.xor_assoc]; rw [xlc y (cor B x)]
theorem cor_bit {B : List Nat} {i : Nat} (s : Nat) (h : ∀ b ∈ B, b.testBit i = false) : (cor B s).testBit i = false := by
  induction B with
  | nil => simp [cor]
  | cons b B ih =>
    simp only [cor, Nat.testBit_xor, ih (fun c hc => h c (by simp [hc]))]
    cases h1 : s.testBit b.log2 <;> simp [h b (by simp)]
theorem Bas.tail {b : Nat} {B : List Nat} (h : Bas (b :: B)) : Bas B := ⟨fun c hc => h.1 c (by simp [hc]), (List.pairwise_cons.1 h.2).2⟩
theorem Bas.head {b : Nat} {B : List Nat} (h : Bas (b :: B)) {c : Nat} (hc : c ∈ B) : b.log2 < c.log2 ∧ c.testBit b.log2 = false := (List.pairwise_cons.1 h.2).1 c hc
theorem Bas.nil : Bas [] := ⟨by simp, by simp⟩
theorem rd_lin {B : List Nat} (h : Bas B) (s : Nat) : rd B s = lin B s := by
  induction B generalizing s with
  | nil => simp [rd, lin, cor]
  | cons b B ih =>
    show rd B (stp s b) = _
    rw [ih h.tail]
    have e : cor B (stp s b) = cor B s := cor_congr fun c hc => by
      rw [stp_bit, bit_hi (h.head hc).1]; simp
    rw [lin, e]; simp only [lin, cor, stp_eq, Nat.xor_assoc]
theorem rdr_lin {B : List Nat} (h : Bas B) (s : Nat) : rdr B s = lin B s := by
  induction B with
  | nil => simp [rdr, lin, cor]
  | cons b B ih =>
    show stp (rdr B s) b = _
    rw [ih h.tail, stp_eq]
    have e : (lin B s).testBit b.log2 = s.testBit b.log2 := by
      rw [lin, Nat.testBit_xor, cor_bit s (fun c hc => (h.head hc).2)]; simp
    rw [e]
    simp only [lin, cor, Nat.xor_assoc]
    rw [Nat.xor_comm (cor B s)]
theorem lin_clean {B : List Nat} (h : Bas B) (s : Nat) : Cl B (lin B s) := by
  induction B with
  | nil => intro b hb; cases hb
  | cons a B ih =>
    intro b hb
    have e : lin (a :: B) s = lin B s ^^^ (if s.testBit a.log2 then a else 0) := by
      simp only [lin, cor, Nat.xor_assoc]; rw [Nat.xor_comm (cor B s)]
    rw [e, Nat.testBit_xor]
    rcases List.mem_cons.1 hb with rfl | hb
    · rw [lin, Nat.testBit_xor, cor_bit s (fun c hc => (h.head hc).2)]
      cases h1 : s.testBit b.log2
      · simp
      · simp [bit_top (h.1 b (by simp))]
    · rw [ih h.tail b hb]
      cases h1 : s.testBit a.log2 <;> simp [bit_hi (h.head hb).1]
theorem cor_zero {B : List Nat} {s : Nat} (h : Cl B s) : cor B s = 0 := by
  induction B with
  | nil => rfl
  | cons b B ih => simp only [cor, h b (by simp), ih (fun c hc => h c (by simp [hc]))]; simp
theorem lin_of_clean {B : List Nat} {s : Nat} (h : Cl B s) : lin B s = s := by rw [lin, cor_zero h, Nat.xor_zero]
theorem lin_idem {B : List Nat} (h : Bas B) (s : Nat) : lin B (lin B s) = lin B s := lin_of_clean (lin_clean h s)
theorem lin_zero (B : List Nat) : lin B 0 = 0 := lin_of_clean (fun _ _ => by simp)
theorem lin_mem {B : List Nat} (h : Bas B) {b : Nat} (hb : b ∈ B) : lin B b = 0 := by
  have e : cor B b = b := by
    induction B with
    | nil => cases hb
    | cons a B ih =>
      rcases List.mem_cons.1 hb with rfl | hb
      · rw [cor, bit_top (h.1 b (by simp)), cor_zero (fun c hc => bit_hi (h.head hc).1)]; simp
      · rw [cor, (h.head hb).2, ih h.tail hb]; simp
  rw [lin, e, Nat.xor_self]
theorem lin_cor_of {B C : List Nat} (s : Nat) (h : ∀ b ∈ B, lin C b = 0) : lin C (cor B s) = 0 := by
  induction B with
  | nil => exact lin_zero C
  | cons b B ih =>
    rw [cor, lin_xor, ih (fun c hc => h c (by simp [hc]))]
    cases s.testBit b.log2
    · simp [lin_zero]
    · simp [h b (by simp)]
theorem Bas.pair {B : List Nat} (h : Bas B) {a b : Nat} (ha : a ∈ B) (hb : b ∈ B) (hne : a ≠ b) : b.testBit a.log2 = false := by
  induction B with
  | nil => cases ha
  | cons c B ih =>
    rcases List.mem_cons.1 ha with e | ha2
    · rcases List.mem_cons.1 hb with e2 | hb2
      · exact absurd (e.trans e2.symm) hne
      · rw [e]; exact (h.head hb2).2
    · rcases List.mem_cons.1 hb with e | hb2
      · rw [e]; exact bit_hi (h.head ha2).1
      · exact ih h.tail ha2 hb2
theorem stp_log2 {b r : Nat} (hb : b ≠ 0) (h : r.log2 < b.log2) : (stp b r).log2 = b.log2 := by
  apply log2_eq
  · rw [stp_bit, bit_top hb, bit_hi h]; simp
  · intro j hj; rw [stp_bit, bit_hi hj, bit_hi (Nat.lt_trans h hj)]; simp
theorem stp_ne {b r : Nat} (hb : b ≠ 0) (h : r.log2 < b.log2) : stp b r ≠ 0 := by
  intro e
  have h1 : (stp b r).testBit b.log2 = true := by rw [stp_bit, bit_top hb, bit_hi h]; simp
  rw [e] at h1; simp at h1
theorem Cl.ne {B : List Nat} {r b : Nat} (h : Cl B r) (hr : r ≠ 0) (hb : b ∈ B) : b.log2 ≠ r.log2 := by
  intro e; have := h b hb; rw [e, bit_top hr] at this; cases this
theorem put_bas {B : List Nat} (h : Bas B) {r : Nat} (hr : r ≠ 0) (hc : Cl B r) : Bas (put B r) := by
  constructor
  · intro b hb
    simp only [put, List.mem_append, List.mem_filter, List.mem_cons, List.mem_map, decide_eq_true_eq] at hb
    rcases hb with ⟨hb, _⟩ | rfl | ⟨a, ⟨ha, hl⟩, rfl⟩
    · exact h.1 b hb
    · exact hr
    · exact stp_ne (h.1 a ha) hl
  · rw [put, List.pairwise_append, List.pairwise_cons]
    refine ⟨h.2.filter _, ⟨?_, ?_⟩, ?_⟩
    · intro b hb
      simp only [List.mem_map, List.mem_filter, decide_eq_true_eq] at hb
      obtain ⟨a, ⟨ha, hl⟩, rfl⟩ := hb
      exact ⟨by rw [stp_log2 (h.1 a ha) hl]; exact hl, stp_top hr⟩
    · rw [List.pairwise_map]
      refine List.Pairwise.imp_of_mem ?_ (h.2.filter _)
      intro a b ha hb ⟨h1, h2⟩
      simp only [List.mem_filter, decide_eq_true_eq] at ha hb
      rw [stp_log2 (h.1 a ha.1) ha.2, stp_log2 (h.1 b hb.1) hb.2]
      refine ⟨h1, ?_⟩
      rw [stp_bit, h2, bit_hi ha.2]; simp
    · intro a ha b hb
      simp only [List.mem_filter, decide_eq_true_eq] at ha
      simp only [List.mem_cons, List.mem_map, List.mem_filter, decide_eq_true_eq] at hb
      rcases hb with rfl | ⟨c, ⟨hcm, hl⟩, rfl⟩
      · exact ⟨ha.2, hc a ha.1⟩
      · rw [stp_log2 (h.1 c hcm) hl]
        refine ⟨by omega, ?_⟩
        rw [stp_bit, hc a ha.1, h.pair ha.1 hcm (by rintro rfl; omega)]; simp
theorem put_lin {B : List Nat} (h : Bas B) {r : Nat} (hr : r ≠ 0) (hc : Cl B r) (x : Nat) : lin (put B r) x = stp (lin B x) r := by
  have hC := put_bas h hr hc
  have hr0 : lin (put B r) r = 0 := lin_mem hC (by simp [put])
  have hz : Cl (put B r) (stp (lin B x) r) := by
    intro c hcm
    simp only [put, List.mem_append, List.mem_filter, List.mem_cons, List.mem_map, decide_eq_true_eq] at hcm
    rcases hcm with ⟨hb, _⟩ | rfl | ⟨a, ⟨ha, hl⟩, rfl⟩
    · rw [stp_bit, lin_clean h x c hb, hc c hb]; simp
    · exact stp_top hr
    · rw [stp_log2 (h.1 a ha) hl, stp_bit, lin_clean h x a ha, hc a ha]; simp
  have hB : ∀ b ∈ B, lin (put B r) b = 0 := by
    intro b hb
    have hne := hc.ne hr hb
    by_cases hl : b.log2 < r.log2
    · exact lin_mem hC (by simp [put, hb, hl])
    · have hl2 : r.log2 < b.log2 := by omega
      have h1 : lin (put B r) (stp b r) = 0 := lin_mem hC (by
        simp only [put, List.mem_append, List.mem_filter, List.mem_cons, List.mem_map, decide_eq_true_eq]
        exact Or.inr (Or.inr ⟨b, ⟨hb, hl2⟩, rfl⟩))
      unfold stp at h1
      cases h2 : b.testBit r.log2
      · rw [h2] at h1; simpa using h1
      · rw [h2] at h1
        simp only [if_true] at h1
        rw [lin_xor, hr0] at h1; simpa using h1
  have h3 : lin (put B r) (cor B x) = 0 := lin_cor_of x hB
  rw [← lin_of_clean hz, stp_eq, lin_xor, show lin B x = x ^^^ cor B x from rfl, lin_xor, h3]
  split
  · rw [hr0]; simp
  · rw [lin_zero]; simp
theorem add_bas {B : List Nat} (h : Bas B) (s : Nat) : Bas (add B s) := by
  unfold add; split
  · exact h
  · exact put_bas h ‹_› (lin_clean h s)
/-- The sets below and above a greatest element. -/
theorem Bas.split {B : List Nat} (h : Bas B) (k : Nat) (hk : ∀ b ∈ B, b.log2 ≠ k) :
    B = B.filter (fun b => decide (b.log2 < k)) ++ B.filter (fun b => decide (k < b.log2)) := by
  induction B with
  | nil => rfl
  | cons a B ih =>
    have hne := hk a (by simp)
    by_cases hl : a.log2 < k
    · rw [List.filter_cons_of_pos (by simpa using hl), List.filter_cons_of_neg (by simp; omega), List.cons_append, ← ih h.tail (fun b hb => hk b (by simp [hb]))]
    · have e1 : B.filter (fun b => decide (b.log2 < k)) = [] := by
        rw [List.filter_eq_nil_iff]; intro b hb; have := (h.head hb).1; simp; omega
      have e2 : B.filter (fun b => decide (k < b.log2)) = B := by
        rw [List.filter_eq_self]; intro b hb; have := (h.head hb).1; simp; omega
      rw [List.filter_cons_of_neg (by simpa using hl), List.filter_cons_of_pos (by simp; omega), e1, e2]; rfl
theorem cor_append (A B : List Nat) (x : Nat) : cor (A ++ B) x = cor A x ^^^ cor B x := by
  induction A with
  | nil => simp [cor]
  | cons a A ih => simp only [List.cons_append, cor, ih, Nat.xor_assoc]
theorem shr_eq_zero {s n : Nat} : s >>> n = 0 ↔ s < 2 ^ n := by
  rw [Nat.shiftRight_eq_div_pow, Nat.div_eq_zero_iff]
  have := Nat.two_pow_pos n
  omega
theorem shr_log2 {s n : Nat} (h : 2 ^ n ≤ s) : n + (s >>> n).log2 = s.log2 := by
  have hs : s ≠ 0 := by have := Nat.two_pow_pos n; omega
  have hn : n ≤ s.log2 := (Nat.le_log2 hs).2 h
  have e : (s >>> n).log2 = s.log2 - n := by
    apply log2_eq
    · rw [Nat.testBit_shiftRight, show n + (s.log2 - n) = s.log2 by omega, bit_top hs]
    · intro j hj; rw [Nat.testBit_shiftRight]; exact bit_hi (by omega)
  omega
theorem le_of_log2 {s n : Nat} (hs : s ≠ 0) (h : n ≤ s.log2) : 2 ^ n ≤ s := (Nat.le_log2 hs).1 h
theorem log2_lt_of {s n : Nat} (hs : s ≠ 0) (h : s < 2 ^ n) : s.log2 < n := (Nat.log2_lt hs).2 h
theorem cor_shr {H : List Nat} {n : Nat} (x : Nat) (h : ∀ b ∈ H, 2 ^ n ≤ b) : (cor H x) >>> n = cor (H.map (· >>> n)) (x >>> n) := by
  induction H with
  | nil => simp [cor]
  | cons b B ih =>
    have e : (x >>> n).testBit (b >>> n).log2 = x.testBit b.log2 := by
      rw [Nat.testBit_shiftRight, shr_log2 (h b (by simp))]
    simp only [cor, List.map_cons, Nat.shiftRight_xor_distrib, ih (fun c hc => h c (by simp [hc])), e]
    cases x.testBit b.log2 <;> simp
theorem cor_lt {Q : List Nat} {n : Nat} (x : Nat) (h : ∀ b ∈ Q, b < 2 ^ n) : cor Q x < 2 ^ n := by
  induction Q with
  | nil => exact Nat.two_pow_pos n
  | cons b B ih =>
    refine Nat.xor_lt_two_pow ?_ (ih (fun c hc => h c (by simp [hc])))
    split
    · exact h b (by simp)
    · exact Nat.two_pow_pos n
theorem lin_lt {Q : List Nat} {n x : Nat} (h : ∀ b ∈ Q, b < 2 ^ n) (hx : x < 2 ^ n) : lin Q x < 2 ^ n := Nat.xor_lt_two_pow hx (cor_lt x h)
theorem stp_lt {a b n : Nat} (ha : a < 2 ^ n) (hb : b < 2 ^ n) : stp a b < 2 ^ n := by
  unfold stp; split
  · exact Nat.xor_lt_two_pow ha hb
  · exact ha
theorem lin_shr {H : List Nat} {n : Nat} (x : Nat) (h : ∀ b ∈ H, 2 ^ n ≤ b) : (lin H x) >>> n = lin (H.map (· >>> n)) (x >>> n) := by
  rw [lin, Nat.shiftRight_xor_distrib, cor_shr x h]; rfl
theorem lin_shr_low {Q : List Nat} {n : Nat} (x : Nat) (h : ∀ b ∈ Q, b < 2 ^ n) : (lin Q x) >>> n = x >>> n := by
  rw [lin, Nat.shiftRight_xor_distrib, shr_eq_zero.2 (cor_lt x h), Nat.xor_zero]
theorem put_lt {B : List Nat} {r n : Nat} (hB : ∀ b ∈ B, b < 2 ^ n) (hr : r < 2 ^ n) : ∀ b ∈ put B r, b < 2 ^ n := by
  intro b hb
  simp only [put, List.mem_append, List.mem_filter, List.mem_cons, List.mem_map, decide_eq_true_eq] at hb
  rcases hb with ⟨hb, _⟩ | rfl | ⟨a, ⟨ha, _⟩, rfl⟩
  · exact hB b hb
  · exact hr
  · exact stp_lt (hB a ha) hr
theorem add_lt {B : List Nat} {s n : Nat} (hB : ∀ b ∈ B, b < 2 ^ n) (hs : s < 2 ^ n) : ∀ b ∈ add B s, b < 2 ^ n := by
  unfold add; split
  · exact hB
  · exact put_lt hB (lin_lt hB hs)
theorem put_ge {B : List Nat} {r n : Nat} (h0 : ∀ b ∈ B, b ≠ 0) (hB : ∀ b ∈ B, 2 ^ n ≤ b) (hr : 2 ^ n ≤ r) : ∀ b ∈ put B r, 2 ^ n ≤ b := by
  intro b hb
  simp only [put, List.mem_append, List.mem_filter, List.mem_cons, List.mem_map, decide_eq_true_eq] at hb
  rcases hb with ⟨hb, _⟩ | rfl | ⟨a, ⟨ha, hl⟩, rfl⟩
  · exact hB b hb
  · exact hr
  · refine le_of_log2 (stp_ne (h0 a ha) hl) ?_
    rw [stp_log2 (h0 a ha) hl]
    exact (Nat.le_log2 (h0 a ha)).2 (hB a ha)
theorem put_shr {H : List Nat} {r n : Nat} (hH : ∀ b ∈ H, 2 ^ n ≤ b) (hr : 2 ^ n ≤ r) : (put H r).map (· >>> n) = put (H.map (· >>> n)) (r >>> n) := by
  have hf1 : (H.map (· >>> n)).filter (fun b => decide (b.log2 < (r >>> n).log2)) = (H.filter (fun b => decide (b.log2 < r.log2))).map (· >>> n) := by
    rw [List.filter_map]
    congr 1
    apply List.filter_congr
    intro b hb
    have h1 := shr_log2 (hH b hb)
    have h2 := shr_log2 hr
    simp only [Function.comp, decide_eq_decide]
    omega
  have hf2 : (H.map (· >>> n)).filter (fun b => decide ((r >>> n).log2 < b.log2)) = (H.filter (fun b => decide (r.log2 < b.log2))).map (· >>> n) := by
    rw [List.filter_map]
    congr 1
    apply List.filter_congr
    intro b hb
    have h1 := shr_log2 (hH b hb)
    have h2 := shr_log2 hr
    simp only [Function.comp, decide_eq_decide]
    omega
  simp only [put, List.map_append, List.map_cons, hf1, hf2, List.map_map]
  congr 2
  apply List.map_congr_left
  intro b _
  have e : (b >>> n).testBit (r >>> n).log2 = b.testBit r.log2 := by rw [Nat.testBit_shiftRight, shr_log2 hr]
  simp only [Function.comp, stp, e]
  split
  · rw [Nat.shiftRight_xor_distrib]
  · rfl
theorem put_low {Q H : List Nat} {r n : Nat} (h0 : ∀ b ∈ H, b ≠ 0) (hH : ∀ b ∈ H, 2 ^ n ≤ b) (hr0 : r ≠ 0) (hr : r < 2 ^ n) : put (Q ++ H) r = put Q r ++ H.map (fun b => stp b r) := by
  have hl := log2_lt_of hr0 hr
  have e1 : H.filter (fun b => decide (b.log2 < r.log2)) = [] := by
    rw [List.filter_eq_nil_iff]; intro b hb; have := (Nat.le_log2 (h0 b hb)).2 (hH b hb); simp; omega
  have e2 : H.filter (fun b => decide (r.log2 < b.log2)) = H := by
    rw [List.filter_eq_self]; intro b hb; have := (Nat.le_log2 (h0 b hb)).2 (hH b hb); simp; omega
  simp only [put, List.filter_append, e1, e2, List.map_append, List.append_nil, List.append_assoc, List.cons_append]
theorem put_high {Q H : List Nat} {r n : Nat} (h0 : ∀ b ∈ Q, b ≠ 0) (hQ : ∀ b ∈ Q, b < 2 ^ n) (hr : 2 ^ n ≤ r) : put (Q ++ H) r = Q ++ put H r := by
  have hr0 : r ≠ 0 := by have := Nat.two_pow_pos n; omega
  have hl := (Nat.le_log2 hr0).2 hr
  have e1 : Q.filter (fun b => decide (b.log2 < r.log2)) = Q := by
    rw [List.filter_eq_self]; intro b hb; have := log2_lt_of (h0 b hb) (hQ b hb); simp; omega
  have e2 : Q.filter (fun b => decide (r.log2 < b.log2)) = [] := by
    rw [List.filter_eq_nil_iff]; intro b hb; have := log2_lt_of (h0 b hb) (hQ b hb); simp; omega
  simp only [put, List.filter_append, e1, e2, List.nil_append, List.append_assoc]
structure Inv (n : Nat) (P I Q R : List Nat) : Prop where
  bp : Bas P
  bi : Bas I
  bq : Bas Q
  br : Bas R
  H : ∃ H, P = Q ++ H ∧ (∀ h ∈ H, 2 ^ n ≤ h) ∧ H.map (· >>> n) = I
  low : ∀ q ∈ Q, q < 2 ^ n
  up : ∀ r ∈ R, 2 ^ n ≤ r
  ri : R.map (· >>> n) = I
  par : ∀ x, lin Q (lin R x) = lin P x
/-- One more set: the quiet ones and the pairs. -/
def qstep (n : Nat) (QR : List Nat × List Nat) (s : Nat) : List Nat × List Nat :=
  if lin QR.2 s >>> n = 0 then (add QR.1 (lin QR.2 s), QR.2) else (QR.1, add QR.2 (lin QR.2 s))
theorem Inv.start (n : Nat) : Inv n [] [] [] [] := ⟨Bas.nil, Bas.nil, Bas.nil, Bas.nil, ⟨[], rfl, by simp, rfl⟩, by simp, by simp, rfl, fun _ => by simp [lin, cor]⟩
theorem Inv.tops {n : Nat} {P I Q R : List Nat} (h : Inv n P I Q R) (s : Nat) : lin R s >>> n = lin I (s >>> n) ∧ lin P s >>> n = lin I (s >>> n) := by
  have h1 : lin R s >>> n = lin I (s >>> n) := by rw [lin_shr s h.up, h.ri]
  exact ⟨h1, by rw [← h.par, lin_shr_low _ h.low, h1]⟩
theorem Inv.step {n : Nat} {P I Q R : List Nat} (h : Inv n P I Q R) (s : Nat) :
    Inv n (add P s) (add I (s >>> n)) (qstep n (Q, R) s).1 (qstep n (Q, R) s).2 := by
  obtain ⟨t1, t2⟩ := h.tops s
  have hu : lin R (lin R s) = lin R s := lin_idem h.br s
  have hq : lin Q (lin R s) = lin P s := h.par s
  obtain ⟨H, hP, hH, hI⟩ := h.H
  have hH0 : ∀ b ∈ H, b ≠ 0 := fun b hb => h.bp.1 b (by rw [hP]; simp [hb])
  unfold qstep
  by_cases hz : lin R s >>> n = 0
  · rw [if_pos hz]
    have eI : add I (s >>> n) = I := by unfold add; rw [if_pos (by rw [← t1]; exact hz)]
    rw [eI]
    simp only
    by_cases hr : lin P s = 0
    · have eP : add P s = P := by unfold add; rw [if_pos hr]
      have eQ : add Q (lin R s) = Q := by unfold add; rw [if_pos (by rw [hq]; exact hr)]
      rw [eP, eQ]; exact h
    · have eP : add P s = put P (lin P s) := by unfold add; rw [if_neg hr]
      have eQ : add Q (lin R s) = put Q (lin P s) := by unfold add; rw [hq, if_neg hr]
      have hlow : lin P s < 2 ^ n := shr_eq_zero.1 (by rw [t2, ← t1]; exact hz)
      have hcP := lin_clean h.bp s
      have hcQ : Cl Q (lin P s) := by rw [← hq]; exact lin_clean h.bq _
      rw [eP, eQ]
      refine ⟨put_bas h.bp hr hcP, h.bi, put_bas h.bq hr hcQ, h.br, ⟨H.map (fun b => stp b (lin P s)), ?_, ?_, ?_⟩, put_lt h.low hlow, h.up, h.ri, fun x => ?_⟩
      · rw [← put_low hH0 hH hr hlow, ← hP]
      · intro b hb
        simp only [List.mem_map] at hb
        obtain ⟨a, ha, rfl⟩ := hb
        have hal := (Nat.le_log2 (hH0 a ha)).2 (hH a ha)
        have hrl := log2_lt_of hr hlow
        refine le_of_log2 (stp_ne (hH0 a ha) (by omega)) ?_
        rw [stp_log2 (hH0 a ha) (by omega)]; exact hal
      · rw [← hI, List.map_map]
        apply List.map_congr_left
        intro b _
        simp only [Function.comp, stp]
        split
        · rw [Nat.shiftRight_xor_distrib, shr_eq_zero.2 hlow, Nat.xor_zero]
        · rfl
      · rw [put_lin h.bq hr hcQ, put_lin h.bp hr hcP, h.par]
  · rw [if_neg hz]
    have hz2 : lin P s >>> n ≠ 0 := by rw [t2, ← t1]; exact hz
    have hr : lin P s ≠ 0 := by intro e; rw [e] at hz2; simp at hz2
    have hu0 : lin R s ≠ 0 := by intro e; rw [e] at hz; simp at hz
    have hrn : 2 ^ n ≤ lin P s := by have := mt shr_eq_zero.2 hz2; omega
    have hun : 2 ^ n ≤ lin R s := by have := mt shr_eq_zero.2 hz; omega
    have eP : add P s = put P (lin P s) := by unfold add; rw [if_neg hr]
    have eR : add R (lin R s) = put R (lin R s) := by unfold add; rw [hu, if_neg hu0]
    have eI : add I (s >>> n) = put I (lin P s >>> n) := by unfold add; rw [← t2, if_neg hz2]
    have hcP := lin_clean h.bp s
    have hcR := lin_clean h.br s
    have hsame : lin R s >>> n = lin P s >>> n := by rw [t1, t2]
    simp only
    rw [eP, eR, eI]
    have hiI : Bas (put I (lin P s >>> n)) := by rw [← eI]; exact add_bas h.bi _
    refine ⟨put_bas h.bp hr hcP, hiI, h.bq, put_bas h.br hu0 hcR, ⟨put H (lin P s), ?_, put_ge hH0 hH hrn, ?_⟩, h.low, put_ge h.br.1 h.up hun, ?_, fun x => ?_⟩
    · rw [← put_high (fun b hb => h.bq.1 b hb) h.low hrn, ← hP]
    · rw [put_shr hH hrn, hI]
    · rw [put_shr h.up hun, h.ri, hsame]
    · rw [put_lin h.br hu0 hcR, put_lin h.bp hr hcP, ← h.par x]
      have htop : (lin R s).log2 = (lin P s).log2 := by
        have a1 := shr_log2 hun
        have a2 := shr_log2 hrn
        rw [hsame] at a1; omega
      have hn : n ≤ (lin P s).log2 := (Nat.le_log2 hr).2 hrn
      have hb : (lin Q (lin R x)).testBit (lin P s).log2 = (lin R x).testBit (lin P s).log2 := by
        rw [lin, Nat.testBit_xor, Nat.testBit_lt_two_pow (Nat.lt_of_lt_of_le (cor_lt _ h.low) (Nat.pow_le_pow_right (by decide) hn))]; simp
      rw [stp_eq, stp_eq, lin_xor, htop, hb]
      congr 1
      split
      · exact hq
      · exact lin_zero Q
theorem lt_of_bit {n m : Nat} (i : Nat) (h1 : n.testBit i = false) (h2 : m.testBit i = true) (h : ∀ j, i < j → n.testBit j = m.testBit j) : n < m := by
  have e : n / 2 ^ (i + 1) = m / 2 ^ (i + 1) := by
    apply Nat.eq_of_testBit_eq
    intro j
    rw [Nat.testBit_div_two_pow, Nat.testBit_div_two_pow]
    exact h _ (by omega)
  rw [Nat.testBit_eq_decide_div_mod_eq, decide_eq_false_iff_not] at h1
  rw [Nat.testBit_eq_decide_div_mod_eq, decide_eq_true_eq] at h2
  rw [Nat.pow_succ, ← Nat.div_div_eq_div_mul, ← Nat.div_div_eq_div_mul] at e
  have hlt : n / 2 ^ i < m / 2 ^ i := by omega
  exact Nat.lt_of_div_lt_div hlt
/-- All sums of a basis, in order. -/
def sums (B : List Nat) : List Nat := B.foldl (fun S b => S ++ S.map (fun s => s ^^^ b)) [0]
theorem sums_snoc (B : List Nat) (b : Nat) : sums (B ++ [b]) = sums B ++ (sums B).map (fun s => s ^^^ b) := by simp [sums]
theorem sums_length (B : List Nat) : (sums B).length = 2 ^ B.length := by
  suffices h : ∀ (B S : List Nat), (B.foldl (fun S b => S ++ S.map (fun s => s ^^^ b)) S).length = S.length * 2 ^ B.length by
    have := h B [0]; simpa [sums] using this
  intro B
  induction B with
  | nil => simp
  | cons b B ih => intro S; rw [List.foldl_cons, ih, List.length_append, List.length_map, List.length_cons, Nat.pow_succ, ← Nat.mul_two, Nat.mul_assoc, Nat.mul_comm 2]
theorem snoc_ind {α : Type} {p : List α → Prop} (h0 : p []) (h1 : ∀ B b, p B → p (B ++ [b])) (B : List α) : p B := by
  have h : ∀ (n : Nat) (B : List α), B.length = n → p B := by
    intro n
    induction n with
    | zero => intro B hB; rw [List.length_eq_zero_iff.1 hB]; exact h0
    | succ n ih =>
      intro B hB
      have hne : B ≠ [] := by intro e; rw [e] at hB; simp at hB
      rw [← List.dropLast_concat_getLast hne]
      exact h1 _ _ (ih _ (by rw [List.length_dropLast, hB]; rfl))
  exact h _ B rfl
theorem Bas.front {B : List Nat} {b : Nat} (h : Bas (B ++ [b])) : Bas B ∧ b ≠ 0 ∧ (∀ a ∈ B, a.log2 < b.log2) ∧ Cl B b := by
  have hp := List.pairwise_append.1 h.2
  exact ⟨⟨fun c hc => h.1 c (by simp [hc]), hp.1⟩, h.1 b (by simp), fun a ha => (hp.2.2 a ha b (by simp)).1, fun a ha => (hp.2.2 a ha b (by simp)).2⟩
theorem sums_lin {B : List Nat} (h : Bas B) : ∀ s ∈ sums B, lin B s = 0 := by
  suffices H : ∀ (A C : List Nat), (∀ a ∈ A, lin C a = 0) → ∀ s ∈ sums A, lin C s = 0 from H B B (fun a ha => lin_mem h ha)
  intro A
  induction A using snoc_ind with
  | h0 => intro C _ s hs; simp [sums] at hs; rw [hs]; exact lin_zero C
  | h1 A a ih =>
    intro C hC s hs
    rw [sums_snoc, List.mem_append, List.mem_map] at hs
    have hA : ∀ b ∈ A, lin C b = 0 := fun b hb => hC b (by simp [hb])
    rcases hs with hs | ⟨t, ht, rfl⟩
    · exact ih C hA s hs
    · rw [lin_xor, ih C hA t ht, hC a (by simp)]; rfl
theorem sums_bit {B : List Nat} {k : Nat} (h : ∀ b ∈ B, b.log2 < k) : ∀ s ∈ sums B, ∀ j, k ≤ j → s.testBit j = false := by
  induction B using snoc_ind with
  | h0 => intro s hs j _; simp [sums] at hs; rw [hs]; simp
  | h1 A a ih =>
    intro s hs j hj
    rw [sums_snoc, List.mem_append, List.mem_map] at hs
    have hA := ih (fun b hb => h b (by simp [hb]))
    rcases hs with hs | ⟨t, ht, rfl⟩
    · exact hA s hs j hj
    · rw [Nat.testBit_xor, hA t ht j hj, bit_hi (Nat.lt_of_lt_of_le (h a (by simp)) hj)]; rfl
theorem sums_rise {B : List Nat} (h : Bas B) : ∀ p, Cl B p → (sums B).Pairwise (fun a c => a ^^^ p < c ^^^ p) := by
  induction B using snoc_ind with
  | h0 => intro p _; simp [sums]
  | h1 A a ih =>
    intro p hp
    obtain ⟨hA, ha0, hlt, hcl⟩ := h.front
    have hpA : Cl A p := fun b hb => hp b (by simp [hb])
    have hpa : p.testBit a.log2 = false := hp a (by simp)
    rw [sums_snoc, List.pairwise_append]
    refine ⟨ih hA p hpA, ?_, ?_⟩
    · rw [List.pairwise_map]
      refine List.Pairwise.imp ?_ (ih hA (a ^^^ p) (fun b hb => by rw [Nat.testBit_xor, hcl b hb, hpA b hb]; rfl))
      intro x y hxy
      rw [Nat.xor_assoc, Nat.xor_assoc]; exact hxy
    · intro x hx y hy
      rw [List.mem_map] at hy
      obtain ⟨t, ht, rfl⟩ := hy
      have hb := sums_bit hlt
      apply lt_of_bit a.log2
      · rw [Nat.testBit_xor, hb x hx _ (Nat.le_refl _), hpa]; rfl
      · rw [Nat.testBit_xor, Nat.testBit_xor, hb t ht _ (Nat.le_refl _), hpa, bit_top ha0]; rfl
      · intro j hj
        rw [Nat.testBit_xor, Nat.testBit_xor, Nat.testBit_xor, hb x hx j (by omega), hb t ht j (by omega), bit_hi hj]; simp
theorem sums_mem {B : List Nat} {x : Nat} (hx : lin B x = 0) : x ∈ sums B := by
  have e : x = cor B x := by
    have h1 : x ^^^ cor B x = 0 := hx
    have h2 := congrArg (fun y => y ^^^ cor B x) h1
    simpa [xx] using h2
  suffices H : ∀ (A : List Nat) (y : Nat), cor A y ∈ sums A by rw [e]; exact H B x
  intro A
  induction A using snoc_ind with
  | h0 => intro y; simp [cor, sums]
  | h1 A a ih =>
    intro y
    rw [sums_snoc, cor_append, List.mem_append, List.mem_map]
    cases hb : y.testBit a.log2
    · left; simpa [cor, hb] using ih y
    · right; exact ⟨cor A y, ih y, by simp [cor, hb]⟩
/-- Two rising lists with the same elements are one. -/
theorem rise_eq : ∀ {A B : List Nat}, A.Pairwise (· < ·) → B.Pairwise (· < ·) → (∀ x, x ∈ A ↔ x ∈ B) → A = B
  | [], [], _, _, _ => rfl
  | [], b :: B, _, _, h => by have := (h b).2 (by simp); cases this
  | a :: A, [], _, _, h => by have := (h a).1 (by simp); cases this
  | a :: A, b :: B, hA, hB, h => by
    rw [List.pairwise_cons] at hA hB
    have hab : a = b := by
      rcases List.mem_cons.1 ((h a).1 (by simp)) with e | h1
      · exact e
      · rcases List.mem_cons.1 ((h b).2 (by simp)) with e | h2
        · exact e.symm
        · have := hB.1 a h1; have := hA.1 b h2; omega
    subst hab
    congr 1
    refine rise_eq hA.2 hB.2 fun x => ⟨fun hx => ?_, fun hx => ?_⟩
    · rcases List.mem_cons.1 ((h x).1 (by simp [hx])) with e | h1
      · have := hA.1 x hx; omega
      · exact h1
    · rcases List.mem_cons.1 ((h x).2 (by simp [hx])) with e | h1
      · have := hB.1 x hx; omega
      · exact h1
theorem sums_sorted {B : List Nat} (h : Bas B) : (sums B).Pairwise (· < ·) := by
  have := sums_rise h 0 (fun _ _ => by simp)
  simpa using this
theorem sums_filter {B : List Nat} (h : Bas B) {n : Nat} (hn : ∀ b ∈ B, b < 2 ^ n) : sums B = (List.range (2 ^ n)).filter (fun x => decide (lin B x = 0)) := by
  refine rise_eq (sums_sorted h) (List.Pairwise.filter _ List.pairwise_lt_range) fun x => ⟨fun hx => ?_, fun hx => ?_⟩
  · rw [List.mem_filter, List.mem_range, decide_eq_true_eq]
    refine ⟨?_, sums_lin h x hx⟩
    apply Nat.lt_pow_two_of_testBit
    intro j hj
    exact sums_bit (fun b hb => log2_lt_of (h.1 b hb) (hn b hb)) x hx j hj
  · rw [List.mem_filter, decide_eq_true_eq] at hx
    exact sums_mem hx.2
theorem bas_length {B : List Nat} (h : Bas B) {n : Nat} (hn : ∀ b ∈ B, b < 2 ^ n) : B.length ≤ n := by
  suffices H : ∀ (B : List Nat) (n : Nat), Bas B → (∀ b ∈ B, b.log2 < n) → B.length ≤ n from H B n h (fun b hb => log2_lt_of (h.1 b hb) (hn b hb))
  intro B
  induction B using snoc_ind with
  | h0 => intro n _ _; simp
  | h1 A a ih =>
    intro n hB hl
    obtain ⟨hA, _, hlt, _⟩ := hB.front
    have h1 := ih a.log2 hA hlt
    have h2 := hl a (by simp)
    simp; omega
/-- A list is a basis just where adding its sets one by one gives it back. -/
theorem add_snoc {L : List Nat} {c : Nat} (h : Bas (L ++ [c])) : add L c = L ++ [c] := by
  obtain ⟨hL, hc0, hlt, hcl⟩ := h.front
  have e : lin L c = c := lin_of_clean hcl
  have e1 : L.filter (fun b => decide (b.log2 < c.log2)) = L := by rw [List.filter_eq_self]; intro b hb; simpa using hlt b hb
  have e2 : L.filter (fun b => decide (c.log2 < b.log2)) = [] := by rw [List.filter_eq_nil_iff]; intro b hb; have := hlt b hb; simp; omega
  unfold add
  rw [e, if_neg hc0, put, e1, e2]; rfl
theorem fold_add_bas (L : List Nat) : ∀ B, Bas B → Bas (L.foldl add B) := by
  induction L with
  | nil => intro B h; exact h
  | cons a L ih => intro B h; exact ih _ (add_bas h a)
theorem fold_add_iff (L : List Nat) : L.foldl add [] = L ↔ Bas L := by
  constructor
  · intro e; rw [← e]; exact fold_add_bas L [] Bas.nil
  · induction L using snoc_ind with
    | h0 => intro _; rfl
    | h1 A a ih => intro h; rw [List.foldl_append, ih h.front.1]; exact add_snoc h
/-- The first of those with the least size, and of those with the least size the least one. -/
def minBy (f : Nat → Nat) (m s : Nat) : Nat := if f s < f m then s else m
def minLex (f : Nat → Nat) (m s : Nat) : Nat := if f s < f m ∨ f s = f m ∧ s < m then s else m
theorem min_same (f : Nat → Nat) (L : List Nat) : ∀ m, (m :: L).Pairwise (· < ·) → L.foldl (minBy f) m = L.foldl (minLex f) m := by
  induction L with
  | nil => intro m _; rfl
  | cons a L ih =>
    intro m h
    have h1 := List.pairwise_cons.1 h
    have hma : m < a := h1.1 a (by simp)
    have e : minLex f m a = minBy f m a := by
      unfold minLex minBy
      by_cases h2 : f a < f m
      · simp [h2]
      · rw [if_neg h2, if_neg (by omega)]
    rw [List.foldl_cons, List.foldl_cons, e]
    apply ih
    unfold minBy
    split
    · exact h1.2
    · exact List.pairwise_cons.2 ⟨fun b hb => h1.1 b (by simp [hb]), (List.pairwise_cons.1 h1.2).2⟩
end Go.Proofs.YtdpoceijnbbmgaaDoor
namespace Go.Proofs.YtdpoceijnbbmgaaDoor
/-- What the buttons below k of a set toggle. -/
def effN (T : Nat → Nat) (p : Nat) : Nat → Nat
  | 0 => 0
  | k + 1 => if p.testBit k then effN T p k ^^^ T k else effN T p k
theorem effN_xor (T : Nat → Nat) (p q k : Nat) : effN T (p ^^^ q) k = effN T p k ^^^ effN T q k := by
  induction k with
  | zero => simp [effN]
  | succ k ih =>
    simp only [effN, Nat.testBit_xor, ih]
    cases h1 : p.testBit k <;> cases h2 : q.testBit k
    · simp
    · simp [Nat.xor_assoc]
    · simp [Nat.xor_assoc, Nat.xor_comm (effN T q k)]
    · simp only [Bool.xor_self, Bool.false_eq_true, if_false, if_true]
      rw [Nat.xor_assoc, ← Nat.xor_assoc (T k), Nat.xor_comm (T k), Nat.xor_assoc (effN T q k), Nat.xor_self, Nat.xor_zero]
theorem effN_bit (T : Nat → Nat) (i k : Nat) : effN T (2 ^ i) k = if i < k then T i else 0 := by
  induction k with
  | zero => simp [effN]
  | succ k ih =>
    simp only [effN, Nat.testBit_two_pow, ih]
    by_cases h : i = k
    · subst h; simp
    · have h2 : (i < k + 1) ↔ i < k := by omega
      simp [h, h2]
theorem effN_lt {T : Nat → Nat} {n : Nat} (hT : ∀ i, i < n → T i < 2 ^ n) (p : Nat) : ∀ k, k ≤ n → effN T p k < 2 ^ n := by
  intro k
  induction k with
  | zero => intro _; exact Nat.two_pow_pos n
  | succ k ih =>
    intro hk
    simp only [effN]
    split
    · exact Nat.xor_lt_two_pow (ih (by omega)) (hT k (by omega))
    · exact ih (by omega)
/-- The lowest bit taken away. -/
theorem low_off {s i : Nat} (h : s.testBit i = true) (hl : ∀ j, j < i → s.testBit j = false) : s &&& (s - 1) = s ^^^ 2 ^ i := by
  have e : s = 2 ^ i * (s / 2 ^ i) := by
    have h0 : s % 2 ^ i = 0 := by
      apply Nat.eq_of_testBit_eq
      intro j
      rw [Nat.testBit_mod_two_pow]
      by_cases hj : j < i
      · simp [hj, hl j hj]
      · simp [hj]
    have := Nat.div_add_mod s (2 ^ i)
    omega
  have hodd : s / 2 ^ i % 2 = 1 := by rw [Nat.testBit_eq_decide_div_mod_eq, decide_eq_true_eq] at h; exact h
  obtain ⟨q, hq⟩ : ∃ q, s / 2 ^ i = 2 * q + 1 := ⟨s / 2 ^ i / 2, by omega⟩
  have hs : s = 2 ^ i * (2 * q) + 2 ^ i := by rw [e, hq, Nat.mul_add, Nat.mul_one]
  have hp := Nat.two_pow_pos i
  have hs1 : s - 1 = 2 ^ i * (2 * q) + (2 ^ i - 1) := by omega
  apply Nat.eq_of_testBit_eq
  intro j
  rw [Nat.testBit_and, Nat.testBit_xor, Nat.testBit_two_pow]
  rcases Nat.lt_trichotomy j i with hj | hj | hj
  · simp [hl j hj, show ¬ i = j by omega]
  · subst hj
    have : (s - 1).testBit j = false := by
      rw [hs1, Nat.testBit_two_pow_mul_add _ (by omega)]
      simp
    simp [h, this]
  · have h1 : (s - 1).testBit j = s.testBit j := by
      rw [hs1]
      have h2 : s = 2 ^ i * (2 * q + 1) + 0 := by rw [hs]; rw [Nat.mul_add]; omega
      rw [h2, Nat.testBit_two_pow_mul_add _ (by omega), Nat.testBit_two_pow_mul_add _ (by omega)]
      simp only [show ¬ j < i by omega, if_false]
      obtain ⟨d, hd⟩ : ∃ d, j - i = d + 1 := ⟨j - i - 1, by omega⟩
      rw [hd, Nat.testBit_succ, Nat.testBit_succ]
      congr 1
      omega
    rw [h1]; simp [show ¬ i = j by omega]
theorem ctz_low {x : Nat} (h0 : x ≠ 0) (h : x < 2 ^ 64) : x.testBit (Lib.ctz 64 x) = true ∧ (∀ j, j < Lib.ctz 64 x → x.testBit j = false) := by
  obtain ⟨m, hm, hk⟩ := Lib.ctzFrom_spec 64 x (by omega) h
  have e : Lib.ctz 64 x = Lib.ctzFrom 64 x := by simp [Lib.ctz, h0]
  rw [e]
  generalize Lib.ctzFrom 64 x = i at hm
  subst hm
  refine ⟨?_, fun j hj => ?_⟩
  · rw [Nat.testBit_two_pow_mul]; simp
  · rw [Nat.testBit_two_pow_mul]; simp; omega
/-- The lights while the buttons of r are still to be pressed. -/
def curE (T : Nat → Nat) (n s p r : Nat) : Nat := s ^^^ (effN T p n ^^^ effN T r n)
theorem effN_zero (T : Nat → Nat) (k : Nat) : effN T 0 k = 0 := by
  induction k with
  | zero => rfl
  | succ k ih => simp [effN, ih]
theorem curE_start (T : Nat → Nat) (n s p : Nat) : curE T n s p p = s := by simp [curE]
theorem curE_end (T : Nat → Nat) (n s p : Nat) : curE T n s p 0 = s ^^^ effN T p n := by simp [curE, effN_zero]
theorem curE_step {T : Nat → Nat} {n s p r i : Nat} (hi : i < n) (hb : r.testBit i = true) (hl : ∀ j, j < i → r.testBit j = false) : curE T n s p (r &&& (r - 1)) = curE T n s p r ^^^ T i := by
  rw [low_off hb hl]
  unfold curE
  rw [effN_xor, effN_bit, if_pos hi]
  simp only [Nat.xor_assoc]
theorem low_lt {r i : Nat} (hb : r.testBit i = true) (hl : ∀ j, j < i → r.testBit j = false) : r &&& (r - 1) < r := by
  have h0 : r ≠ 0 := by rintro rfl; simp at hb
  have h1 : r &&& (r - 1) ≤ r - 1 := Nat.and_le_right
  omega
theorem bit_lt {r i n : Nat} (hb : r.testBit i = true) (hr : r < 2 ^ n) : i < n := by
  rcases Nat.lt_or_ge i n with h | h
  · exact h
  · rw [Nat.testBit_lt_two_pow (Nat.lt_of_lt_of_le hr (Nat.pow_le_pow_right (by decide) h))] at hb; cases hb
end Go.Proofs.YtdpoceijnbbmgaaDoor
/-
Slices that a call builds by append, told by a function of the index. Nothing here speaks of the program.
-/
namespace Go.Proofs.YtdpoceijnbbmgaaDoor
open Go.RowKit
/-- The list of the first n. -/
def rowL (n : Nat) (f : Nat → Value) : List Value := (List.range n).map f
theorem rowL_succ (n : Nat) (f : Nat → Value) : rowL (n + 1) f = rowL n f ++ [f n] := by simp [rowL, List.range_succ]
theorem rowL_zero (f : Nat → Value) : rowL 0 f = [] := rfl
theorem rowL_get (n : Nat) (f : Nat → Value) (k : Nat) (hk : k < n) : (rowL n f)[k]? = some (f k) := by simp [rowL, hk]
theorem rowL_length (n : Nat) (f : Nat → Value) : (rowL n f).length = n := by simp [rowL]
theorem own_form {w : World} {base : Nat} {e : TypeId} {v : Value} {n : Nat} {xs : List Value} (h : w.ownsRow base e 1 v n xs) : ∃ A c, v = .slice A n c := by
  rcases h.2 with ⟨rfl, rfl⟩ | ⟨g, cap, cur, rfl, _⟩
  · exact ⟨_, _, rfl⟩
  · exact ⟨_, _, rfl⟩
theorem own_pos {w : World} {base : Nat} {e : TypeId} {v : Value} {n : Nat} {f : Nat → Value} (h : w.ownsRow base e 1 v n (rowL n f)) (hn : 0 < n) :
    ∃ g c, v = .slice (some ⟨g, 0, none⟩) n c ∧ base ≤ g ∧ Arr w e g n f := by
  rcases h.2 with ⟨_, rfl⟩ | ⟨g, cap, cur, rfl, hb, hh, hc, _, hs, ht⟩
  · omega
  · refine ⟨g, cap, rfl, hb, cur, hh, by omega, fun k hk => ?_⟩
    have := rowL_get n f k hk
    rw [← ht, List.getElem?_take] at this
    rw [if_pos (by omega)] at this
    simpa using this
theorem own_src {w : World} {base : Nat} {e : TypeId} {A : Option Addr} {n c : Nat} {f : Nat → Value} (h : w.ownsRow base e 1 (.slice A n c) n (rowL n f)) : Src w A n f := by
  intro k hk
  obtain ⟨g, c', hv, hb, ha⟩ := own_pos h (by omega)
  injection hv with hA
  subst hA
  exact Src.of_arr ha k hk
theorem own_below {w w' : World} {base : Nat} {e : TypeId} {v : Value} {n : Nat} {xs : List Value} (h : w.ownsRow base e 1 v n xs) (hb : Below w.heap.size w w') : w'.ownsRow base e 1 v n xs :=
  h.kept (row := none) ⟨hb.os, hb.tape, hb.output, hb.size, fun k hk _ => hb.block k hk⟩ (by cases hv : v.ownBlock <;> simp)
theorem own_setCell {w : World} {base : Nat} {e : TypeId} {v : Value} {n : Nat} {xs : List Value} (h : w.ownsRow base e 1 v n xs) {p : Addr} (hp : v.ownBlock ≠ some p.block) (u : Value) : (w.setCell p u).ownsRow base e 1 v n xs :=
  h.kept (row := some p.block) ⟨rfl, rfl, rfl, by simp [World.setCell], fun k hk hne => Below.heap_setCell w p u k (by intro e; exact hne (by rw [e]))⟩ (by right; exact hp)
theorem Arr.own_grown {w w' : World} {base : Nat} {e : TypeId} {v : Value} {n : Nat} {xs : List Value} {t : TypeId} {g m : Nat} {f : Nat → Value} (h : Arr w t g m f) (ho : w.ownsRow base e 1 v n xs) (hg : w.grownBy w' v.ownBlock) (hlt : g < base) : Arr w' t g m f :=
  h.of_block (hg.block g h.lt (by intro e; have := (ho.lt g e.symm).1; omega))
theorem Below.own_grown {B : Nat} {a w w' : World} {base : Nat} {e : TypeId} {v : Value} {n : Nat} {xs : List Value} (h : Below B a w) (ho : w.ownsRow base e 1 v n xs) (hg : w.grownBy w' v.ownBlock) (hB : B ≤ base) (hz : B ≤ w.heap.size) : Below B a w' :=
  h.grown hg hz (fun k hk => by have := (ho.lt k hk).1; omega)
/-- 'out = append(out, x)', out a row of the call's own: one step of a region that draws its order. -/
theorem step_append_one {P : Program} {ops : Array Oper} {o : Oper} {a : Act} {w : World} {K : Act → World → Prop} {Q : Exit → Act → World → Prop} {E : Prop}
    (hgd : o.guard = none) (s x : Operand) (t : TypeId) (ho : o.op = Op.call { callee := Callee.builtin Builtin.append, args := #[s, x], argTypes := #[t, t] })
    (base : Nat) (e : TypeId) (i : TypeInfo) (z : Value) (bytes : Nat) (ht : P.underlying t = some (.slice e)) (hi : P.info? e = some i) (hz : i.zero = some z)
    (hsize : i.size = 1) (hby : i.bytes = bytes) (hzs : z.cells.size = 1)
    (A : Option Addr) (n cp : Nat) (f : Nat → Value) (hs : a.eval s = .slice A n cp) (hown : w.ownsRow base e 1 (.slice A n cp) n (rowL n f))
    (g c : Nat) (hx : a.eval x = .slice (some ⟨g, 0, none⟩) 1 c) (hnew : w.cell? ⟨g, 0, none⟩ = some (f n)) (h1 : (f n).oneCell' = true)
    (h63 : n + 1 ≤ 1048577) (hbytes : bytes ≤ 64) (hbase : base ≤ w.heap.size)
    (h : ∀ A' cp' w', w'.ownsRow base e 1 (.slice A' (n + 1) cp') (n + 1) (rowL (n + 1) f) → w.grownBy w' (Value.slice A n cp).ownBlock → ((Value.slice A' (n + 1) cp').ownBlock = (Value.slice A n cp).ownBlock ∨ (Value.slice A' (n + 1) cp').ownBlock = some w.heap.size) → K (a.put o.dst (.slice A' (n + 1) cp')) w') :
    if Region.wanted o (yielded ops a.tmps) = true then Oper.wp P o a w K Q else E := by
  have hw : Region.wanted o (yielded ops a.tmps) = true := by simp [Region.wanted, hgd]
  rw [if_pos hw]
  obtain ⟨v', w', hrun, h2, h3, _, h5⟩ := run_append_own_at (P := P) w base t o.type e i z 1 bytes ht hi hz hsize hby hzs (by omega) _ n (rowL n f) hown ⟨g, 0, none⟩ 1 c [f n] rfl
    (fun j u hu => by
      match j, hu with
      | 0, hu => simp at hu; subst hu; simpa [Addr.add] using hnew)
    (by simpa using h1) (by simp only [maxLen]; omega) (by
      have : (n + 1) * bytes ≤ 1048577 * 64 := Nat.mul_le_mul h63 hbytes
      omega) hbase
  rw [← rowL_succ] at h2
  obtain ⟨A', cp', rfl⟩ := own_form h2
  unfold Oper.wp execOp
  simp only [ho, resolve, invoke, builtin, Sem.run_bind, Sem.run_pure, Result.andThen_ok, List.map_toArray, List.map_cons, List.map_nil, hs, hx, hrun]
  exact h A' cp' w' h2 h3 h5
end Go.Proofs.YtdpoceijnbbmgaaDoor
/-
The builtins append and copy over slices told by a function of the index. Nothing here speaks of the program.
-/
namespace Go.Proofs.YtdpoceijnbbmgaaDoor
open Go.RowKit
/-- copy of a whole slice into the head of a block. -/
theorem wpList_copy_arr {P : Program} {w : World} {ops : Array Oper} {rest : List Oper} {o : Oper} {a : Act} {Q : Exit → Act → World → Prop} (hgd : o.guard = none) (d s : Operand) (dT : TypeId)
    (ho : o.op = .call { callee := .builtin .copy, args := #[d, s], argTypes := #[dT, dT] }) (e : TypeId) (hu : P.underlying dT = some (.slice e)) (hsz : (P.info? e).map (·.size) = some 1)
    (g n dc m sc : Nat) (A : Option Addr) (f f0 : Nat → Value) (hd : a.eval d = .slice (some ⟨g, 0, none⟩) n dc) (hs : a.eval s = .slice A m sc) (hmn : m ≤ n)
    (ha : Arr w e g n f0) (hsrc : Src w A m f) (h1 : ∀ k, k < m → (f k).oneCell' = true)
    (hK : ∀ w', Arr w' e g n (fun k => if k < m then f k else f0 k) → w.grownBy w' (some g) → wpList P ops Q rest (a.put o.dst (goInt m)) w') : wpList P ops Q (o :: rest) a w := by
  obtain ⟨cur, hb, hn, hc⟩ := ha
  rcases Nat.eq_zero_or_pos m with h0 | h0
  · subst h0
    refine wpList_copy_nothing hgd d s dT dT ho e hu hsz _ _ n dc 0 sc hd hs (by simp) ?_
    exact hK w ⟨cur, hb, hn, fun k hk => by simpa using hc k hk⟩ (World.grownBy.refl _ _)
  · obtain ⟨b, off, rfl, _, _⟩ := hsrc 0 h0
    have hl := rowL_length m f
    refine wpList_copy_own hgd d s dT dT ho e hu hsz g 0 n dc ⟨b, off, none⟩ m sc hd hs cur e hb (rowL m f) (by rw [hl]; exact (Nat.min_eq_left hmn).symm)
      (fun j v hj => ?_) (by rw [hl]; omega) (fun v hv => ?_) ?_
    · have hjm : j < m := by
        rcases Nat.lt_or_ge j m with h | h
        · exact h
        · rw [List.getElem?_eq_none (by rw [hl]; exact h)] at hj; cases hj
      rw [rowL_get m f j hjm] at hj
      obtain ⟨b', off', e1, _, hcell⟩ := hsrc j hjm
      injection e1 with e1
      injection e1 with e2 e3
      subst e2 e3
      rw [Go.WideShapes.add_plain, hcell]; exact hj
    · simp only [rowL, List.mem_map, List.mem_range] at hv
      obtain ⟨k, hk, rfl⟩ := hv
      exact h1 k hk
    · rw [hl]
      refine hK _ ⟨_, setRow_heap w g _ _ e _ hb, ?_, fun k hk => ?_⟩ ⟨rfl, rfl, rfl, by simp [World.setRow], fun k hk hne => setRow_other w g k _ (by intro e; exact hne (by rw [e]))⟩
      · simp [rowL_length]; omega
      · simp only [List.getElem?_toArray, Nat.zero_add, List.take_zero, List.nil_append]
        by_cases hkm : k < m
        · rw [if_pos hkm, List.getElem?_append_left (by rw [hl]; exact hkm), rowL_get m f k hkm]
        · rw [if_neg hkm, List.getElem?_append_right (by rw [hl]; omega), hl, List.getElem?_drop]
          have := hc k hk
          rw [show m + (k - m) = k by omega]
          simpa using this
/-- 'append([]T{}, l...)': a new slice with l's contents. -/
theorem wpList_append_new {P : Program} {w : World} {ops : Array Oper} {rest : List Oper} {o : Oper} {a : Act} {Q : Exit → Act → World → Prop} (hgd : o.guard = none) (s x : Operand) (t : TypeId)
    (ho : o.op = .call { callee := .builtin .append, args := #[s, x], argTypes := #[t, t] })
    (base : Nat) (e : TypeId) (i : TypeInfo) (z : Value) (bytes : Nat) (ht : P.underlying t = some (.slice e)) (hi : P.info? e = some i) (hz : i.zero = some z)
    (hsize : i.size = 1) (hby : i.bytes = bytes) (hzs : z.cells.size = 1)
    (v : Value) (hs : a.eval s = v) (hown : w.ownsRow base e 1 v 0 [])
    (A : Option Addr) (m c : Nat) (f : Nat → Value) (hx : a.eval x = .slice A m c) (hm : 0 < m) (hsrc : Src w A m f) (h1 : ∀ k, k < m → (f k).oneCell' = true)
    (h63 : m ≤ 1048577) (hbytes : bytes ≤ 64) (hbase : base ≤ w.heap.size)
    (h : ∀ g c' w', base ≤ g → Arr w' e g m f → w.grownBy w' v.ownBlock → wpList P ops Q rest (a.put o.dst (.slice (some ⟨g, 0, none⟩) m c')) w') : wpList P ops Q (o :: rest) a w := by
  obtain ⟨b, off, rfl, _, _⟩ := hsrc 0 hm
  have hl := rowL_length m f
  refine wpList_append_own_at w hgd s x t ho base e i z 1 bytes ht hi hz hsize hby hzs (by omega) v 0 [] hs hown ⟨b, off, none⟩ m c (rowL m f) hx (by rw [hl]; omega) (fun j u hj => ?_) (fun u hu => ?_) (by simp only [maxLen]; omega) (by
      have : (0 + m) * bytes ≤ 1048577 * 64 := Nat.mul_le_mul (by omega) hbytes
      omega) hbase ?_
  · have hjm : j < m := by
      rcases Nat.lt_or_ge j m with h | h
      · exact h
      · rw [List.getElem?_eq_none (by rw [hl]; exact h)] at hj; cases hj
    rw [rowL_get m f j hjm] at hj
    obtain ⟨b', off', e1, _, hcell⟩ := hsrc j hjm
    injection e1 with e1
    injection e1 with e2 e3
    subst e2 e3
    rw [Go.WideShapes.add_plain, hcell]; exact hj
  · simp only [rowL, List.mem_map, List.mem_range] at hu
    obtain ⟨k, hk, rfl⟩ := hu
    exact h1 k hk
  · intro v' w' ho' hg' _ _
    rw [Nat.zero_add, List.nil_append] at ho'
    obtain ⟨g, c', rfl, hb, ha⟩ := own_pos ho' hm
    exact h g c' w' hb ha hg'
end Go.Proofs.YtdpoceijnbbmgaaDoor
/-
Maps of sets, told by a function of the index: powers, polynomials of a map, by powers and by Horner's way. Plain arithmetic; nothing here speaks of the program.
-/
namespace Go.Proofs.YtdpoceijnbbmgaaDoor
theorem effN_congr {T U : Nat → Nat} (p : Nat) : ∀ k, (∀ i, i < k → T i = U i) → effN T p k = effN U p k
  | 0, _ => rfl
  | k + 1, h => by simp only [effN, effN_congr p k (fun i hi => h i (by omega)), h k (by omega)]
/-- Of a map m of n sets, the power k at the index j. -/
def pw (n : Nat) (M : Nat → Nat) : Nat → Nat → Nat
  | 0, j => 2 ^ j
  | k + 1, j => effN M (pw n M k j) n
theorem pw_lt {n : Nat} {M : Nat → Nat} (hM : ∀ j, j < n → M j < 2 ^ n) : ∀ k j, j < n → pw n M k j < 2 ^ n
  | 0, j, hj => Nat.pow_lt_pow_right (by decide) hj
  | k + 1, j, hj => effN_lt hM _ _ (Nat.le_refl _)
theorem pw_congr {n : Nat} {M M' : Nat → Nat} (h : ∀ j, j < n → M j = M' j) : ∀ k j, pw n M k j = pw n M' k j
  | 0, _ => rfl
  | k + 1, j => by simp only [pw, pw_congr h k j]; exact effN_congr _ _ h
/-- The polynomial p of a map, at the index j: the powers below K. -/
def pm (n : Nat) (M : Nat → Nat) (p K j : Nat) : Nat := effN (fun k => pw n M k j) p K
theorem pm_lt {n : Nat} {M : Nat → Nat} (hM : ∀ j, j < n → M j < 2 ^ n) (p j : Nat) (hj : j < n) : ∀ K, pm n M p K j < 2 ^ n
  | 0 => Nat.two_pow_pos n
  | K + 1 => by
    unfold pm
    simp only [effN]
    have ih := pm_lt hM p j hj K
    unfold pm at ih
    split
    · exact Nat.xor_lt_two_pow ih (pw_lt hM K j hj)
    · exact ih
theorem pm_more {n : Nat} {M : Nat → Nat} {p K : Nat} (j : Nat) (hp : p < 2 ^ K) : ∀ d, pm n M p (K + d) j = pm n M p K j
  | 0 => rfl
  | d + 1 => by
    have h : p.testBit (K + d) = false := Nat.testBit_lt_two_pow (Nat.lt_of_lt_of_le hp (Nat.pow_le_pow_right (by decide) (by omega)))
    have ih := pm_more (n := n) (M := M) j hp d
    unfold pm at ih ⊢
    rw [← Nat.add_assoc, effN, h]
    simpa using ih
/-- Horner's step. -/
theorem pm_step (n : Nat) (M : Nat → Nat) (j : Nat) : ∀ (K p : Nat), pm n M p (K + 1) j = effN M (pm n M (p >>> 1) K j) n ^^^ (if p.testBit 0 then 2 ^ j else 0)
  | 0, p => by
    simp only [pm, effN, effN_zero, pw]
    cases p.testBit 0 <;> simp
  | K + 1, p => by
    have ih := pm_step n M j K p
    have e : pm n M p (K + 1 + 1) j = (if p.testBit (K + 1) then pm n M p (K + 1) j ^^^ pw n M (K + 1) j else pm n M p (K + 1) j) := rfl
    have e2 : pm n M (p >>> 1) (K + 1) j = (if (p >>> 1).testBit K then pm n M (p >>> 1) K j ^^^ pw n M K j else pm n M (p >>> 1) K j) := rfl
    have hb : (p >>> 1).testBit K = p.testBit (K + 1) := by rw [Nat.testBit_shiftRight, Nat.add_comm]
    rw [e, e2, hb, ih]
    cases p.testBit (K + 1)
    · simp
    · simp only [if_true, effN_xor]
      rw [Nat.xor_assoc, Nat.xor_assoc]
      congr 1
      exact Nat.xor_comm _ _
/-- What Horner's way has behind the powers from k on. -/
def ho (n : Nat) (M : Nat → Nat) (p K k j : Nat) : Nat := pm n M (p >>> k) (K - k) j
theorem ho_step {n : Nat} {M : Nat → Nat} {p K k j : Nat} (hk : k < K) : ho n M p K k j = effN M (ho n M p K (k + 1) j) n ^^^ (if p.testBit k then 2 ^ j else 0) := by
  unfold ho
  obtain ⟨d, hd⟩ : ∃ d, K - k = d + 1 := ⟨K - k - 1, by omega⟩
  have hd2 : K - (k + 1) = d := by omega
  rw [hd, hd2, pm_step, ← Nat.shiftRight_add]
  congr 2
theorem ho_top (n : Nat) (M : Nat → Nat) (p K j : Nat) : ho n M p K K j = 0 := by simp [ho, pm, effN]
theorem ho_end (n : Nat) (M : Nat → Nat) (p K j : Nat) : ho n M p K 0 j = pm n M p K j := by simp [ho]
theorem ho_lt {n : Nat} {M : Nat → Nat} (hM : ∀ j, j < n → M j < 2 ^ n) (p K k j : Nat) (hj : j < n) : ho n M p K k j < 2 ^ n := pm_lt hM _ j hj _
/-- The polynomial x^m + 1 of a map. -/
theorem pm_circle (n : Nat) (M : Nat → Nat) {m : Nat} (hm : 1 ≤ m) (j : Nat) : pm n M (2 ^ m ^^^ 1) (m + 1) j = pw n M m j ^^^ 2 ^ j := by
  unfold pm
  rw [effN_xor, effN_bit, show (1 : Nat) = 2 ^ 0 from rfl, effN_bit, if_pos (by omega), if_pos (by omega)]
  rfl
end Go.Proofs.YtdpoceijnbbmgaaDoor
/-
Polynomials over two elements, told as numbers: degrees, division, products. Plain arithmetic; nothing here speaks of the program.
-/
namespace Go.Proofs.YtdpoceijnbbmgaaDoor
/-- The number of bits: one more than the degree, 0 for 0. -/
def bl (p : Nat) : Nat := if p = 0 then 0 else p.log2 + 1
theorem bl_zero : bl 0 = 0 := rfl
theorem bl_pos {p : Nat} (h : p ≠ 0) : bl p = p.log2 + 1 := if_neg h
theorem lt_bl (p : Nat) : p < 2 ^ bl p := by
  by_cases h : p = 0
  · subst h; exact Nat.one_pos
  · rw [bl_pos h]; exact Nat.lt_log2_self
theorem bl_le {p n : Nat} : bl p ≤ n ↔ p < 2 ^ n := by
  constructor
  · intro h; exact Nat.lt_of_lt_of_le (lt_bl p) (Nat.pow_le_pow_right (by decide) h)
  · intro h
    by_cases h0 : p = 0
    · subst h0; exact Nat.zero_le _
    · rw [bl_pos h0]; exact (Nat.log2_lt h0).2 h
theorem bl_self {p : Nat} (h : p ≠ 0) : 2 ^ (bl p - 1) ≤ p := by rw [bl_pos h]; exact Nat.log2_self_le h
theorem bl_eq_zero {p : Nat} : bl p = 0 ↔ p = 0 := by
  constructor
  · intro h; by_cases h0 : p = 0
    · exact h0
    · rw [bl_pos h0] at h; omega
  · rintro rfl; rfl
theorem bl_eq {p n : Nat} (h1 : 2 ^ n ≤ p) (h2 : p < 2 ^ (n + 1)) : bl p = n + 1 := by
  have h3 := bl_le.2 h2
  have h4 : ¬ bl p ≤ n := fun h => absurd (bl_le.1 h) (by omega)
  omega
theorem tb_top {p n : Nat} (h1 : p < 2 ^ (n + 1)) : p.testBit n = decide (2 ^ n ≤ p) := by
  rw [Nat.testBit_eq_decide_div_mod_eq, decide_eq_decide]
  have hp : 0 < 2 ^ n := Nat.two_pow_pos n
  constructor
  · intro h
    rcases Nat.lt_or_ge p (2 ^ n) with h2 | h2
    · rw [Nat.div_eq_of_lt h2] at h; cases h
    · exact h2
  · intro h
    have : p / 2 ^ n = 1 := by
      apply Nat.div_eq_of_lt_le
      · omega
      · rw [Nat.pow_succ] at h1; omega
    rw [this]
theorem bl_bit {p n : Nat} (h : bl p = n + 1) : p.testBit n = true := by
  have h1 := lt_bl p
  rw [h] at h1
  rw [tb_top h1, decide_eq_true_eq]
  have h0 : p ≠ 0 := by rintro rfl; rw [bl_zero] at h; cases h
  have := bl_self h0
  rw [h] at this
  exact this
theorem lt_of_no_bit {p n : Nat} (h1 : p < 2 ^ (n + 1)) (h2 : p.testBit n = false) : p < 2 ^ n := by
  rw [tb_top h1, decide_eq_false_iff_not] at h2
  omega
/-- n steps of a division by q of degree d, the greatest first: the quotient so far and what is left. -/
def dvk (q d : Nat) : Nat → Nat → Nat → Nat × Nat
  | 0, o, p => (o, p)
  | k + 1, o, p => if p.testBit (k + d) then dvk q d k (o ||| 2 ^ k) (p ^^^ q * 2 ^ k) else dvk q d k o p
theorem dvk_zero (q d o p : Nat) : dvk q d 0 o p = (o, p) := rfl
theorem dvk_yes {q d k o p : Nat} (h : p.testBit (k + d) = true) : dvk q d (k + 1) o p = dvk q d k (o ||| 2 ^ k) (p ^^^ q * 2 ^ k) := by rw [dvk, if_pos h]
theorem dvk_no {q d k o p : Nat} (h : p.testBit (k + d) = false) : dvk q d (k + 1) o p = dvk q d k o p := by rw [dvk, if_neg (by rw [h]; decide)]
theorem bit_out {p n m : Nat} (h : p < 2 ^ n) (h2 : n ≤ m) : p.testBit m = false := Nat.testBit_lt_two_pow (Nat.lt_of_lt_of_le h (Nat.pow_le_pow_right (by decide) h2))
theorem dvk_skip {q d o p m n : Nat} (h : p < 2 ^ (m + d)) (hmn : m ≤ n) : dvk q d n o p = dvk q d m o p := by
  obtain ⟨j, rfl⟩ : ∃ j, n = m + j := ⟨n - m, by omega⟩
  clear hmn
  induction j with
  | zero => rfl
  | succ j ih => rw [← Nat.add_assoc, dvk_no (bit_out h (by omega)), ih]
theorem sh_lt' {q d k : Nat} (hq : q < 2 ^ (d + 1)) : q * 2 ^ k < 2 ^ (k + d + 1) := by
  have h : 2 ^ (k + d + 1) = 2 ^ (d + 1) * 2 ^ k := by rw [← Nat.pow_add]; congr 1; omega
  rw [h]
  exact Nat.mul_lt_mul_of_pos_right hq (Nat.two_pow_pos k)
theorem sh_bit {q d k : Nat} (h : q.testBit d = true) : (q * 2 ^ k).testBit (k + d) = true := by
  rw [Nat.testBit_mul_two_pow]
  simp [h]
/-- One step clears the greatest power. -/
theorem step_lt {q d k p : Nat} (hq : q < 2 ^ (d + 1)) (ht : q.testBit d = true) (hp : p < 2 ^ (k + d + 1)) (hb : p.testBit (k + d) = true) : p ^^^ q * 2 ^ k < 2 ^ (k + d) := by
  apply lt_of_no_bit (Nat.xor_lt_two_pow hp (sh_lt' hq))
  rw [Nat.testBit_xor, hb, sh_bit ht]; rfl
theorem dvk_rest_lt {q d : Nat} (hq : q < 2 ^ (d + 1)) (ht : q.testBit d = true) : ∀ (n o p : Nat), p < 2 ^ (n + d) → (dvk q d n o p).2 < 2 ^ d
  | 0, _, p, h => by rw [Nat.zero_add] at h; exact h
  | n + 1, o, p, h => by
    have h' : p < 2 ^ (n + d + 1) := by rw [show n + d + 1 = n + 1 + d by omega]; exact h
    cases hb : p.testBit (n + d)
    · rw [dvk_no hb]; exact dvk_rest_lt hq ht n o p (lt_of_no_bit h' hb)
    · rw [dvk_yes hb]; exact dvk_rest_lt hq ht n _ _ (step_lt hq ht h' hb)
theorem xx' (a b : Nat) : a ^^^ b ^^^ b = a := by rw [Nat.xor_assoc, Nat.xor_self, Nat.xor_zero]
theorem x4 (a b c d : Nat) : (a ^^^ b) ^^^ (c ^^^ d) = (a ^^^ c) ^^^ (b ^^^ d) := by
  rw [Nat.xor_assoc, Nat.xor_assoc, ← Nat.xor_assoc b, ← Nat.xor_assoc c, Nat.xor_comm b c]
theorem dvk_rest_o {q d : Nat} : ∀ (n o o' p : Nat), (dvk q d n o p).2 = (dvk q d n o' p).2
  | 0, _, _, _ => rfl
  | n + 1, o, o', p => by
    cases hb : p.testBit (n + d)
    · rw [dvk_no hb, dvk_no hb]; exact dvk_rest_o n _ _ _
    · rw [dvk_yes hb, dvk_yes hb]; exact dvk_rest_o n _ _ _
/-- What is left of a sum. -/
theorem dvk_rest_xor {q d : Nat} : ∀ (n o a b : Nat), (dvk q d n o (a ^^^ b)).2 = (dvk q d n o a).2 ^^^ (dvk q d n o b).2
  | 0, _, _, _ => rfl
  | n + 1, o, a, b => by
    cases ha : a.testBit (n + d) <;> cases hb : b.testBit (n + d)
    · rw [dvk_no (by rw [Nat.testBit_xor, ha, hb]; rfl), dvk_no ha, dvk_no hb]; exact dvk_rest_xor n o a b
    · rw [dvk_yes (by rw [Nat.testBit_xor, ha, hb]; rfl), dvk_no ha, dvk_yes hb, dvk_rest_o n (o ||| 2 ^ n) o, dvk_rest_o n (o ||| 2 ^ n) o, Nat.xor_assoc]; exact dvk_rest_xor n o a _
    · rw [dvk_yes (by rw [Nat.testBit_xor, ha, hb]; rfl), dvk_yes ha, dvk_no hb, dvk_rest_o n (o ||| 2 ^ n) o, dvk_rest_o n (o ||| 2 ^ n) o (a ^^^ _), Nat.xor_assoc, Nat.xor_comm b, ← Nat.xor_assoc]; exact dvk_rest_xor n o _ b
    · rw [dvk_no (by rw [Nat.testBit_xor, ha, hb]; rfl), dvk_yes ha, dvk_yes hb, dvk_rest_o n (o ||| 2 ^ n) o, dvk_rest_o n (o ||| 2 ^ n) o, ← dvk_rest_xor n o _ _, x4, Nat.xor_self, Nat.xor_zero]
theorem dvk_quot_lt {q d : Nat} : ∀ (n o p m : Nat), n ≤ m → o < 2 ^ m → (dvk q d n o p).1 < 2 ^ m
  | 0, _, _, _, _, h => h
  | n + 1, o, p, m, hm, h => by
    cases hb : p.testBit (n + d)
    · rw [dvk_no hb]; exact dvk_quot_lt n o p m (by omega) h
    · rw [dvk_yes hb]; exact dvk_quot_lt n _ _ m (by omega) (Nat.or_lt_two_pow h (Nat.pow_lt_pow_right (by decide) (by omega)))
theorem dvk_quot_ge {q d : Nat} : ∀ (n o p : Nat), o ≤ (dvk q d n o p).1
  | 0, _, _ => Nat.le_refl _
  | n + 1, o, p => by
    cases hb : p.testBit (n + d)
    · rw [dvk_no hb]; exact dvk_quot_ge n o p
    · rw [dvk_yes hb]; exact Nat.le_trans Nat.left_le_or (dvk_quot_ge n _ _)
/-- The quotient and what is left. -/
def dv (p q : Nat) : Nat × Nat := dvk q (bl q - 1) (bl p - (bl q - 1)) 0 p
def rm (p q : Nat) : Nat := (dv p q).2
def qu (p q : Nat) : Nat := (dv p q).1
theorem dv_at {p q n : Nat} (h : p < 2 ^ (n + (bl q - 1))) : dvk q (bl q - 1) n 0 p = dv p q := by
  have h1 := bl_le.2 h
  exact dvk_skip (by
    have h2 := lt_bl p
    exact Nat.lt_of_lt_of_le h2 (Nat.pow_le_pow_right (by decide) (by omega))) (by omega)
theorem q_lt {q : Nat} (h : q ≠ 0) : q < 2 ^ (bl q - 1 + 1) := by
  have h1 := lt_bl q
  have h2 : bl q ≠ 0 := fun e => h (bl_eq_zero.1 e)
  rw [show bl q - 1 + 1 = bl q by omega]; exact h1
theorem q_top {q : Nat} (h : q ≠ 0) : q.testBit (bl q - 1) = true := by
  have h2 : bl q ≠ 0 := fun e => h (bl_eq_zero.1 e)
  exact bl_bit (by omega)
theorem rm_lt {p q : Nat} (h : q ≠ 0) : rm p q < 2 ^ (bl q - 1) := by
  have h2 := lt_bl p
  exact dvk_rest_lt (q_lt h) (q_top h) _ _ _ (Nat.lt_of_lt_of_le h2 (Nat.pow_le_pow_right (by decide) (by omega)))
theorem rm_lt_self {p q : Nat} (h : q ≠ 0) : rm p q < q := by
  exact Nat.lt_of_lt_of_le (rm_lt h) (bl_self h)
theorem rm_small {p q : Nat} (h : p < 2 ^ (bl q - 1)) : rm p q = p := by
  have h1 := bl_le.2 h
  unfold rm dv
  rw [show bl p - (bl q - 1) = 0 by omega]; rfl
theorem rm_xor (a b q : Nat) : rm (a ^^^ b) q = rm a q ^^^ rm b q := by
  obtain ⟨n, hn⟩ : ∃ n, bl a ≤ n ∧ bl b ≤ n := ⟨bl a + bl b, by omega⟩
  have ha : a < 2 ^ (n + (bl q - 1)) := bl_le.1 (by omega)
  have hb : b < 2 ^ (n + (bl q - 1)) := bl_le.1 (by omega)
  have hab := Nat.xor_lt_two_pow ha hb
  unfold rm
  rw [← dv_at ha, ← dv_at hb, ← dv_at hab]
  exact dvk_rest_xor _ _ _ _
theorem qu_lt {p q : Nat} : qu p q < 2 ^ (bl p - (bl q - 1)) := dvk_quot_lt _ _ _ _ (Nat.le_refl _) (Nat.two_pow_pos _)
theorem qu_ge {p q n : Nat} (h : bl p - (bl q - 1) = n + 1) : 2 ^ n ≤ qu p q := by
  have hb : p.testBit (n + (bl q - 1)) = true := bl_bit (by omega)
  unfold qu dv
  rw [h, dvk_yes hb]
  exact Nat.le_trans Nat.right_le_or (dvk_quot_ge _ _ _)
theorem qu_bl {p q n : Nat} (h : bl p - (bl q - 1) = n + 1) : bl (qu p q) = n + 1 := by
  apply bl_eq (qu_ge h)
  have := qu_lt (p := p) (q := q)
  rw [h] at this
  exact this
/-- The product, by n bits of q. -/
def cm : Nat → Nat → Nat → Nat
  | 0, _, _ => 0
  | n + 1, p, q => (if q % 2 = 1 then p else 0) ^^^ cm n (p * 2) (q / 2)
theorem cm_odd {n p q : Nat} (h : q % 2 = 1) : cm (n + 1) p q = p ^^^ cm n (p * 2) (q / 2) := by rw [cm, if_pos h]
theorem cm_even {n p q : Nat} (h : q % 2 = 0) : cm (n + 1) p q = cm n (p * 2) (q / 2) := by rw [cm, if_neg (by omega), Nat.zero_xor]
theorem cm_zero (n p : Nat) : cm n p 0 = 0 := by
  induction n generalizing p with
  | zero => rfl
  | succ n ih => rw [cm_even rfl]; exact ih _
theorem cm_more {n q : Nat} (p : Nat) (h : q < 2 ^ n) (m : Nat) (hm : n ≤ m) : cm m p q = cm n p q := by
  induction n generalizing p q m with
  | zero => have : q = 0 := by simpa using h
            subst this; rw [cm_zero, cm_zero]
  | succ n ih =>
    obtain ⟨m', rfl⟩ : ∃ m', m = m' + 1 := ⟨m - 1, by omega⟩
    have h2 : q / 2 < 2 ^ n := by rw [Nat.pow_succ] at h; omega
    rw [cm, cm, ih _ h2 m' (by omega)]
theorem cm_lt {n p q m : Nat} (hp : p < 2 ^ m) : cm n p q < 2 ^ (m + n) := by
  induction n generalizing p q m with
  | zero => exact Nat.two_pow_pos _
  | succ n ih =>
    have h2 : p * 2 < 2 ^ (m + 1) := by rw [Nat.pow_succ]; omega
    have h3 := ih (q := q / 2) h2
    rw [show m + (n + 1) = m + 1 + n by omega]
    rw [cm]
    refine Nat.xor_lt_two_pow ?_ h3
    split
    · exact Nat.lt_of_lt_of_le hp (Nat.pow_le_pow_right (by decide) (by omega))
    · exact Nat.two_pow_pos _
/-- A product of polynomials of degrees below a and b + 1. -/
theorem cm_lt' {p q a b : Nat} (hp : p < 2 ^ a) (hq : q < 2 ^ (b + 1)) (n : Nat) (hn : b + 1 ≤ n) : cm n p q < 2 ^ (a + b) := by
  rw [cm_more p hq n hn]
  clear hn n
  induction b generalizing p q a with
  | zero =>
    rw [cm]
    show _ ^^^ 0 < _
    rw [Nat.xor_zero]
    split
    · exact hp
    · exact Nat.two_pow_pos _
  | succ b ih =>
    have h2 : p * 2 < 2 ^ (a + 1) := by rw [Nat.pow_succ]; omega
    have h4 : q / 2 < 2 ^ (b + 1) := by rw [Nat.pow_succ] at hq; omega
    have h3 := ih h2 h4
    rw [cm, show a + (b + 1) = a + 1 + b by omega]
    refine Nat.xor_lt_two_pow ?_ h3
    split
    · exact Nat.lt_of_lt_of_le hp (Nat.pow_le_pow_right (by decide) (by omega))
    · exact Nat.two_pow_pos _
theorem cm_three (p : Nat) : cm 2 p 3 = p ^^^ p * 2 := by
  rw [cm_odd rfl, cm_odd rfl]; show p ^^^ (p * 2 ^^^ 0) = _; rw [Nat.xor_zero]
/-- The product as a sum over the bits of q below n. -/
def cb (p q : Nat) : Nat → Nat
  | 0 => 0
  | n + 1 => cb p q n ^^^ (if q.testBit n then p * 2 ^ n else 0)
theorem cb_shift (p q n : Nat) : cb p q (n + 1) = (if q % 2 = 1 then p else 0) ^^^ cb (p * 2) (q / 2) n := by
  induction n with
  | zero =>
    show 0 ^^^ (if q.testBit 0 = true then p * 2 ^ 0 else 0) = _ ^^^ 0
    rw [Nat.zero_xor, Nat.xor_zero, Nat.testBit_zero, Nat.pow_zero, Nat.mul_one]
    simp
  | succ n ih =>
    have e : (2 : Nat) ^ (n + 1) = 2 * 2 ^ n := by rw [Nat.pow_succ, Nat.mul_comm]
    show cb p q (n + 1) ^^^ (if q.testBit (n + 1) = true then p * 2 ^ (n + 1) else 0) = _ ^^^ (cb (p * 2) (q / 2) n ^^^ (if (q / 2).testBit n = true then p * 2 * 2 ^ n else 0))
    rw [ih, Nat.xor_assoc, e, ← Nat.mul_assoc, Nat.testBit_succ]
theorem cm_cb (n p q : Nat) : cm n p q = cb p q n := by
  induction n generalizing p q with
  | zero => rfl
  | succ n ih => rw [cb_shift, cm, ih]
end Go.Proofs.YtdpoceijnbbmgaaDoor
/-
Polynomials over two elements, told as numbers: common divisors, factors, powers, orders, Fibonacci's. Plain arithmetic; nothing here speaks of the program.
-/
namespace Go.Proofs.YtdpoceijnbbmgaaDoor
/-- The common divisor, by at most n divisions. -/
def gcf : Nat → Nat → Nat → Nat
  | 0, p, _ => p
  | n + 1, p, q => if q = 0 then p else gcf n q (rm p q)
theorem gcf_zero (n p : Nat) : gcf n p 0 = p := by cases n <;> rfl
theorem gcf_step {n p q : Nat} (h : q ≠ 0) : gcf (n + 1) p q = gcf n q (rm p q) := by rw [gcf, if_neg h]
/-- The least factor at q or behind it, or p. -/
def lff (p : Nat) : Nat → Nat → Nat
  | 0, _ => p
  | n + 1, q => if 2 * (bl q - 1) ≤ bl p - 1 then (if rm p q = 0 then q else lff p n (q + 1)) else p
def lf (p : Nat) : Nat := lff p 2097152 2
theorem lff_end {p n q : Nat} (h : ¬ 2 * (bl q - 1) ≤ bl p - 1) : lff p n q = p := by
  cases n
  · rfl
  · rw [lff, if_neg h]
theorem lff_hit {p n q : Nat} (h : 2 * (bl q - 1) ≤ bl p - 1) (h2 : rm p q = 0) : lff p (n + 1) q = q := by rw [lff, if_pos h, if_pos h2]
theorem lff_next {p n q : Nat} (h : 2 * (bl q - 1) ≤ bl p - 1) (h2 : rm p q ≠ 0) : lff p (n + 1) q = lff p n (q + 1) := by rw [lff, if_pos h, if_neg h2]
theorem bl_ge {p n : Nat} (h : 2 ^ n ≤ p) : n + 1 ≤ bl p := by
  rcases Nat.lt_or_ge n (bl p) with h1 | h1
  · exact h1
  · have := lt_bl p
    have h2 : 2 ^ bl p ≤ 2 ^ n := Nat.pow_le_pow_right (by decide) h1
    omega
theorem bl_mono {p q : Nat} (h : p ≤ q) : bl p ≤ bl q := bl_le.2 (Nat.lt_of_le_of_lt h (lt_bl q))
theorem bl_two {q : Nat} (h : 2 ≤ q) : 2 ≤ bl q := bl_ge (n := 1) h
theorem lff_ge {p n q : Nat} (h2 : 2 ≤ p) (hq : 2 ≤ q) : 2 ≤ lff p n q := by
  induction n generalizing q with
  | zero => exact h2
  | succ n ih =>
    rw [lff]
    split
    · split
      · exact hq
      · exact ih (by omega)
    · exact h2
theorem lff_le {p n q : Nat} (hp : p ≠ 0) : bl (lff p n q) ≤ bl p := by
  induction n generalizing q with
  | zero => exact Nat.le_refl _
  | succ n ih =>
    rw [lff]
    split
    · split
      · have : bl p ≠ 0 := fun e => hp (bl_eq_zero.1 e)
        omega
      · exact ih
    · exact Nat.le_refl _
theorem lf_ge {p : Nat} (h : 2 ≤ p) : 2 ≤ lf p := lff_ge h (Nat.le_refl _)
theorem lf_le {p : Nat} (h : 2 ≤ p) : bl (lf p) ≤ bl p := lff_le (by omega)
/-- The quotient by the least factor: smaller, and not 0. -/
theorem lf_qu {p : Nat} (h : 2 ≤ p) : 1 ≤ qu p (lf p) ∧ bl (qu p (lf p)) + 1 ≤ bl p := by
  have h1 := bl_two (lf_ge h)
  have h2 := lf_le h
  obtain ⟨n, hn⟩ : ∃ n, bl p - (bl (lf p) - 1) = n + 1 := ⟨bl p - (bl (lf p) - 1) - 1, by omega⟩
  have h3 := qu_bl hn
  have h4 := qu_ge hn
  have h5 := Nat.two_pow_pos n
  exact ⟨by omega, by omega⟩
/-- The factors, at most n of them. -/
def fcs : Nat → Nat → List Nat
  | 0, _ => []
  | n + 1, p => if p = 1 then [] else lf p :: fcs n (qu p (lf p))
theorem fcs_one (n : Nat) : fcs n 1 = [] := by cases n <;> rfl
theorem fcs_step {n p : Nat} (h : p ≠ 1) : fcs (n + 1) p = lf p :: fcs n (qu p (lf p)) := by rw [fcs, if_neg h]
theorem fcs_len (n p : Nat) : (fcs n p).length ≤ n := by
  induction n generalizing p with
  | zero => exact Nat.le_refl _
  | succ n ih =>
    rw [fcs]
    split
    · exact Nat.zero_le _
    · rw [List.length_cons]; exact Nat.succ_le_succ (ih _)
/-- The power o times b to the k, by m. -/
def pwf (m : Nat) : Nat → Nat → Nat → Nat → Nat
  | 0, o, _, _ => o
  | n + 1, o, b, k => if k = 0 then o else pwf m n (if k % 2 = 1 then rm (cm 20 o b) m else o) (rm (cm 20 b b) m) (k / 2)
theorem pwf_zero (m n o b : Nat) : pwf m n o b 0 = o := by cases n <;> rfl
theorem pwf_odd {m n o b k : Nat} (h : k % 2 = 1) : pwf m (n + 1) o b k = pwf m n (rm (cm 20 o b) m) (rm (cm 20 b b) m) (k / 2) := by rw [pwf, if_neg (by omega), if_pos h]
theorem pwf_even {m n o b k : Nat} (h0 : k ≠ 0) (h : k % 2 = 0) : pwf m (n + 1) o b k = pwf m n o (rm (cm 20 b b) m) (k / 2) := by rw [pwf, if_neg h0, if_neg (by omega)]
/-- Pairs of numbers below m: among more than m * m of them two are the same. -/
theorem pigeon' (m : Nat) : ∀ (n : Nat) (g : Nat → Nat), (∀ k, k < n → g k < m) → m < n → ∃ i j, i < j ∧ j < n ∧ g i = g j := by
  induction m with
  | zero => intro n g h hn; exact absurd (h 0 (by omega)) (by omega)
  | succ m ih =>
    intro n g h hn
    by_cases hx : ∃ i, i < n - 1 ∧ g i = g (n - 1)
    · obtain ⟨i, hi, e⟩ := hx
      exact ⟨i, n - 1, by omega, by omega, e⟩
    · have hne : ∀ i, i < n - 1 → g i ≠ g (n - 1) := fun i hi e => hx ⟨i, hi, e⟩
      obtain ⟨i, j, hij, hj, e⟩ := ih (n - 1) (fun k => if g k = m then g (n - 1) else g k) (fun k hk => by
        have h1 := h k (by omega)
        have h2 := h (n - 1) (by omega)
        have h3 := hne k hk
        show (if g k = m then g (n - 1) else g k) < m
        split
        · omega
        · omega) (by omega)
      refine ⟨i, j, hij, by omega, ?_⟩
      have h1 := hne i (by omega)
      have h2 := hne j hj
      split at e <;> split at e <;> omega
/-- The remainders of the powers of x. -/
def po (p : Nat) : Nat → Nat
  | 0 => 1
  | k + 1 => rm (po p k * 2) p
theorem po_succ (p k : Nat) : po p (k + 1) = rm (po p k * 2) p := rfl
theorem po_lt {p : Nat} (h : 2 ≤ p) (k : Nat) : po p k < 2 ^ (bl p - 1) := by
  cases k with
  | zero =>
    have := bl_two h
    exact Nat.one_lt_two_pow (by omega)
  | succ k => exact rm_lt (by omega)
theorem rm_two {p a : Nat} (ha : a < 2 ^ (bl p - 1)) : rm (a * 2) p = if (a * 2).testBit (bl p - 1) then a * 2 ^^^ p else a * 2 := by
  have h1 : a * 2 < 2 ^ (1 + (bl p - 1)) := by rw [Nat.add_comm, Nat.pow_succ]; omega
  unfold rm
  rw [← dv_at h1, dvk, Nat.zero_add, Nat.pow_zero, Nat.mul_one]
  split <;> rfl
theorem rm_two_zero {p a : Nat} (hodd : p % 2 = 1) (ha : a < 2 ^ (bl p - 1)) (h0 : rm (a * 2) p = 0) : a = 0 := by
  rw [rm_two ha] at h0
  split at h0
  · have := congrArg (fun x => x.testBit 0) h0
    simp [hodd] at this
  · omega
theorem xor_zero_iff {a b : Nat} (h : a ^^^ b = 0) : a = b := by
  have : a ^^^ b ^^^ b = 0 ^^^ b := by rw [h]
  rw [xx', Nat.zero_xor] at this
  exact this
theorem xor_two (a b : Nat) : a * 2 ^^^ b * 2 = (a ^^^ b) * 2 := by
  apply Nat.eq_of_testBit_eq
  intro i
  have e : ∀ x : Nat, (x * 2).testBit i = (decide (i ≥ 1) && x.testBit (i - 1)) := fun x => by
    have h := Nat.testBit_mul_two_pow x i 1
    rw [Nat.pow_one] at h
    exact h
  rw [Nat.testBit_xor, e, e, e (a ^^^ b), Nat.testBit_xor]
  cases decide (i ≥ 1) <;> rfl
theorem po_back {p : Nat} (h : 2 ≤ p) (hodd : p % 2 = 1) {i j : Nat} (e : po p (i + 1) = po p (j + 1)) : po p i = po p j := by
  rw [po_succ, po_succ] at e
  have h1 : rm ((po p i ^^^ po p j) * 2) p = 0 := by rw [← xor_two, rm_xor, e, Nat.xor_self]
  exact xor_zero_iff (rm_two_zero hodd (Nat.xor_lt_two_pow (po_lt h i) (po_lt h j)) h1)
theorem po_shift {p : Nat} (h : 2 ≤ p) (hodd : p % 2 = 1) : ∀ (i j : Nat), po p i = po p (i + j) → po p j = 1
  | 0, j, e => by rw [Nat.zero_add] at e; exact e.symm
  | i + 1, j, e => po_shift h hodd i j (po_back h hodd (by rw [e, show i + 1 + j = i + j + 1 by omega]))
theorem least_ex {P : Nat → Prop} (n : Nat) (h : P n) : ∃ k, k ≤ n ∧ P k ∧ ∀ j, j < k → ¬ P j := by
  induction n using Nat.strongRecOn with
  | ind n ih =>
    by_cases hx : ∃ j, j < n ∧ P j
    · obtain ⟨j, hj, hp⟩ := hx
      obtain ⟨k, hk, h1, h2⟩ := ih j hj hp
      exact ⟨k, by omega, h1, h2⟩
    · exact ⟨n, Nat.le_refl _, h, fun j hj hp => hx ⟨j, hj, hp⟩⟩
/-- K is the order: the first power behind the power 0 that leaves 1. -/
structure Ord (p K : Nat) : Prop where
  pos : 1 ≤ K
  le : K ≤ 2 ^ (bl p - 1)
  one : po p K = 1
  first : ∀ j, 1 ≤ j → j < K → po p j ≠ 1
theorem ord_ex {p : Nat} (h : 2 ≤ p) (hodd : p % 2 = 1) : ∃ K, Ord p K := by
  obtain ⟨i, j, hij, hj, e⟩ := pigeon' (2 ^ (bl p - 1)) (2 ^ (bl p - 1) + 1) (po p) (fun k _ => po_lt h k) (by omega)
  have h1 : po p (j - i) = 1 := po_shift h hodd i (j - i) (by rw [show i + (j - i) = j by omega]; exact e)
  obtain ⟨k, hk, ⟨h2, h3⟩, h4⟩ := least_ex (P := fun k => 1 ≤ k ∧ po p k = 1) (j - i) ⟨by omega, h1⟩
  exact ⟨k, h2, by omega, h3, fun j hj1 hj2 e => h4 j hj2 ⟨hj1, e⟩⟩
/-- Fibonacci's polynomials. -/
def fi : Nat → Nat
  | 0 => 0
  | 1 => 1
  | n + 2 => fi (n + 1) * 2 ^^^ fi n
theorem fi_two (n : Nat) : fi (n + 2) = fi (n + 1) * 2 ^^^ fi n := rfl
theorem fi_lt : ∀ n, fi n < 2 ^ n
  | 0 => Nat.one_pos
  | 1 => by decide
  | n + 2 => by
    have h1 := fi_lt (n + 1)
    have h2 := fi_lt n
    rw [fi_two]
    refine Nat.xor_lt_two_pow ?_ (Nat.lt_of_lt_of_le h2 (Nat.pow_le_pow_right (by decide) (by omega)))
    rw [Nat.pow_succ 2 (n + 1)]; omega
/-- What is left of them by p. -/
def fr (p : Nat) : Nat → Nat
  | 0 => 0
  | 1 => 1
  | n + 2 => rm (fr p (n + 1) * 2 ^^^ fr p n) p
theorem fr_two (p n : Nat) : fr p (n + 2) = rm (fr p (n + 1) * 2 ^^^ fr p n) p := rfl
theorem fr_lt {p : Nat} (h : 2 ≤ p) : ∀ n, fr p n < 2 ^ (bl p - 1)
  | 0 => Nat.two_pow_pos _
  | 1 => Nat.one_lt_two_pow (by have := bl_two h; omega)
  | n + 2 => rm_lt (by omega)
theorem fr_spec {p : Nat} (h : 2 ≤ p) (n : Nat) : fr p (n + 2) = rm (fr p (n + 1) * 2) p ^^^ fr p n := by
  rw [fr_two, rm_xor, rm_small (fr_lt h n)]
/-- The polynomial with x + 1 for x, by the powers below k. -/
def hs (p : Nat) : Nat → Nat → Nat
  | 0, o => o
  | k + 1, o => hs p k (o ^^^ o * 2 ^^^ (if p.testBit k then 1 else 0))
end Go.Proofs.YtdpoceijnbbmgaaDoor
/-
Polynomials over two elements, told as numbers: the reverse, the derivative. Plain arithmetic; nothing here speaks of the program.
-/
namespace Go.Proofs.YtdpoceijnbbmgaaDoor
/-- Blocks of s bits change places with their neighbours. -/
def swp (s m x : Nat) : Nat := (x >>> s &&& m) ||| ((x &&& m) <<< s)
def sg (s i : Nat) : Nat := if (i / s) % 2 = 0 then i + s else i - s
def mk_ok (s m : Nat) : Prop := ∀ i, i < 64 → m.testBit i = decide ((i / s) % 2 = 0)
theorem swp_bit {s m x i : Nat} (hs : 0 < s) (hm : mk_ok s m) (hi : i < 64) : (swp s m x).testBit i = x.testBit (sg s i) := by
  unfold swp sg
  rw [Nat.testBit_or, Nat.testBit_and, Nat.testBit_shiftRight, Nat.testBit_shiftLeft, Nat.testBit_and, hm i hi]
  by_cases h : (i / s) % 2 = 0
  · rw [if_pos h]
    by_cases h2 : s ≤ i
    · have h3 := Nat.div_eq_sub_div hs h2
      rw [hm (i - s) (by omega)]
      have h4 : ¬ ((i - s) / s) % 2 = 0 := by omega
      simp [h, h4, Nat.add_comm]
    · simp [h, h2, Nat.add_comm]
  · rw [if_neg h]
    have h2 : s ≤ i := by
      rcases Nat.lt_or_ge i s with h1 | h1
      · rw [Nat.div_eq_of_lt h1] at h; exact absurd rfl h
      · exact h1
    have h3 := Nat.div_eq_sub_div hs h2
    rw [hm (i - s) (by omega)]
    have h4 : ((i - s) / s) % 2 = 0 := by omega
    simp [h, h2, h4]
def m1 : Nat := 6148914691236517205
def m2 : Nat := 3689348814741910323
def m4 : Nat := 1085102592571150095
def m8 : Nat := 71777214294589695
def m16 : Nat := 281470681808895
theorem ok1 : mk_ok 1 m1 := by unfold mk_ok; decide
theorem ok2 : mk_ok 2 m2 := by unfold mk_ok; decide
theorem ok4 : mk_ok 4 m4 := by unfold mk_ok; decide
theorem ok8 : mk_ok 8 m8 := by unfold mk_ok; decide
theorem ok16 : mk_ok 16 m16 := by unfold mk_ok; decide
/-- All bytes, then all bits, in the other order. -/
def rvb (x : Nat) : Nat := (swp 16 m16 (swp 8 m8 x)) >>> 32 ||| ((swp 16 m16 (swp 8 m8 x)) <<< 32) % 2 ^ 64
def rev (x : Nat) : Nat := rvb (swp 4 m4 (swp 2 m2 (swp 1 m1 x)))
theorem sg_all : ∀ i, i < 64 → sg 16 i < 64 ∧ sg 8 (sg 16 i) < 64 ∧ sg 4 (sg 8 (sg 16 i)) < 64 ∧ sg 2 (sg 4 (sg 8 (sg 16 i))) < 64 := by decide
theorem sg_low : ∀ i, i < 32 → sg 1 (sg 2 (sg 4 (sg 8 (sg 16 (32 + i))))) = 63 - i := by decide
theorem sg_hi : ∀ i, i < 64 → 32 ≤ i → sg 1 (sg 2 (sg 4 (sg 8 (sg 16 (i - 32))))) = 63 - i := by decide
theorem rev_mid {x i : Nat} (hi : i < 64) : (swp 16 m16 (swp 8 m8 (swp 4 m4 (swp 2 m2 (swp 1 m1 x))))).testBit i = x.testBit (sg 1 (sg 2 (sg 4 (sg 8 (sg 16 i))))) := by
  obtain ⟨h1, h2, h3, h4⟩ := sg_all i hi
  rw [swp_bit (by decide) ok16 hi, swp_bit (by decide) ok8 h1, swp_bit (by decide) ok4 h2, swp_bit (by decide) ok2 h3, swp_bit (by decide) ok1 h4]
theorem and_lt_m {a m n : Nat} (h : m < 2 ^ n) : a &&& m < 2 ^ n := Nat.and_lt_two_pow a h
theorem swp_lt {s m x : Nat} (h : m < 2 ^ 64) (h2 : (x &&& m) <<< s < 2 ^ 64) : swp s m x < 2 ^ 64 := Nat.or_lt_two_pow (and_lt_m h) h2
theorem shl_lt {a n s : Nat} (h : a < 2 ^ n) : a <<< s < 2 ^ (n + s) := by rw [Nat.shiftLeft_eq, Nat.pow_add]; exact Nat.mul_lt_mul_of_pos_right h (Nat.two_pow_pos s)
theorem swp16_lt (x : Nat) : swp 16 m16 x < 2 ^ 64 := swp_lt (by decide) (shl_lt (n := 48) (and_lt_m (by decide)))
theorem rev_bit {x i : Nat} (hi : i < 64) : (rev x).testBit i = x.testBit (63 - i) := by
  unfold rev rvb
  have hlt := swp16_lt (swp 8 m8 (swp 4 m4 (swp 2 m2 (swp 1 m1 x))))
  rw [Nat.testBit_or, Nat.testBit_shiftRight, Nat.testBit_mod_two_pow, Nat.testBit_shiftLeft]
  by_cases h : i < 32
  · rw [rev_mid (by omega), sg_low i h]
    simp [show ¬ 32 ≤ i by omega]
  · rw [rev_mid (i := i - 32) (by omega), sg_hi i hi (by omega), Nat.testBit_lt_two_pow (i := 32 + i) (Nat.lt_of_lt_of_le hlt (Nat.pow_le_pow_right (by decide) (by omega)))]
    simp [hi, show 32 ≤ i by omega]
theorem rev_lt (x : Nat) : rev x < 2 ^ 64 := by
  refine Nat.or_lt_two_pow ?_ (Nat.mod_lt _ (by decide))
  exact Nat.lt_of_le_of_lt (by rw [Nat.shiftRight_eq_div_pow]; exact Nat.div_le_self _ _) (swp16_lt _)
/-- The reverse of a polynomial, by n of its powers from the greatest on. -/
def rvp (p n : Nat) : Nat := litN (fun j => p.testBit (bl p - 1 - j)) n
theorem rvp_zero (p : Nat) : rvp p 0 = 0 := rfl
theorem rvp_yes {p n : Nat} (h : p.testBit (bl p - 1 - n) = true) : rvp p (n + 1) = rvp p n ||| 2 ^ n := by show litN _ (n + 1) = _; rw [litN, if_pos h]; rfl
theorem rvp_no {p n : Nat} (h : p.testBit (bl p - 1 - n) = false) : rvp p (n + 1) = rvp p n := by show litN _ (n + 1) = _; rw [litN, if_neg (by rw [h]; decide)]; rfl
theorem rvp_lt (p n : Nat) : rvp p n < 2 ^ n := Nat.lt_pow_two_of_testBit _ fun j hj => by unfold rvp; rw [litN_bit]; simp; omega
theorem rev_rvp {p : Nat} (h : bl p ≤ 64) : rev p / 2 ^ (64 - bl p) = rvp p (bl p) := by
  apply Nat.eq_of_testBit_eq
  intro j
  unfold rvp
  rw [Nat.testBit_div_two_pow, litN_bit]
  by_cases hj : j < bl p
  · rw [rev_bit (by omega)]
    simp only [hj, decide_true, Bool.true_and]
    congr 1; omega
  · rw [Nat.testBit_lt_two_pow (Nat.lt_of_lt_of_le (rev_lt p) (Nat.pow_le_pow_right (by decide) (by omega)))]
    simp [hj]
/-- The derivative, by the odd powers below 2 n. -/
def drv (p : Nat) : Nat → Nat
  | 0 => 0
  | n + 1 => if p.testBit (2 * n + 1) then drv p n ||| 2 ^ (2 * n) else drv p n
theorem drv_yes {p n : Nat} (h : p.testBit (2 * n + 1) = true) : drv p (n + 1) = drv p n ||| 2 ^ (2 * n) := by rw [drv, if_pos h]
theorem drv_no {p n : Nat} (h : p.testBit (2 * n + 1) = false) : drv p (n + 1) = drv p n := by rw [drv, if_neg (by rw [h]; decide)]
theorem drv_bit (p n j : Nat) : (drv p n).testBit j = (decide (j < 2 * n ∧ j % 2 = 0) && p.testBit (j + 1)) := by
  induction n with
  | zero => simp [drv]
  | succ n ih =>
    by_cases hj : 2 * n = j
    · subst hj
      cases h : p.testBit (2 * n + 1)
      · rw [drv_no h, ih]; simp
      · rw [drv_yes h, Nat.testBit_or, ih, Nat.testBit_two_pow]; simp [h]
    · have e : decide (j < 2 * n ∧ j % 2 = 0) = decide (j < 2 * (n + 1) ∧ j % 2 = 0) := by rw [decide_eq_decide]; omega
      rw [← e, ← ih]
      cases h : p.testBit (2 * n + 1)
      · rw [drv_no h]
      · rw [drv_yes h, Nat.testBit_or, Nat.testBit_two_pow]; simp [hj]
theorem drv_lt (p n : Nat) : drv p n < 2 ^ (2 * n) := Nat.lt_pow_two_of_testBit _ fun j hj => by rw [drv_bit]; simp; omega
theorem m1_bit {j : Nat} (h : j < 64) : m1.testBit j = decide (j % 2 = 0) := by rw [ok1 j h, Nat.div_one]
theorem drv_end {p n : Nat} (h : bl p ≤ 2 * n + 1) (h64 : bl p ≤ 64) : p / 2 &&& m1 = drv p n := by
  apply Nat.eq_of_testBit_eq
  intro j
  rw [drv_bit, Nat.testBit_and, Nat.testBit_div_two]
  by_cases hj : j + 1 < bl p
  · rw [m1_bit (by omega)]
    by_cases h2 : j % 2 = 0
    · simp [h2, show j < 2 * n by omega]
    · simp [h2]
  · rw [Nat.testBit_lt_two_pow (Nat.lt_of_lt_of_le (lt_bl p) (Nat.pow_le_pow_right (by decide) (show bl p ≤ j + 1 by omega)))]
    simp
/-- The polynomial with x + 1 for x: what the powers from k on give. -/
theorem hs_yes {p k o : Nat} (h : p.testBit k = true) : hs p (k + 1) o = hs p k ((o ^^^ o * 2) ^^^ 1) := by rw [hs, if_pos h]
theorem hs_no {p k o : Nat} (h : p.testBit k = false) : hs p (k + 1) o = hs p k (o ^^^ o * 2) := by rw [hs, if_neg (by rw [h]; decide), Nat.xor_zero]
theorem hs_step_lt {o j : Nat} (h : o < 2 ^ j) : o ^^^ o * 2 < 2 ^ (j + 1) := Nat.xor_lt_two_pow (Nat.lt_of_lt_of_le h (Nat.pow_le_pow_right (by decide) (by omega))) (by rw [Nat.pow_succ]; omega)
theorem hs_step_lt1 {o j : Nat} (h : o < 2 ^ j) : (o ^^^ o * 2) ^^^ 1 < 2 ^ (j + 1) := Nat.xor_lt_two_pow (hs_step_lt h) (Nat.one_lt_two_pow (by omega))
end Go.Proofs.YtdpoceijnbbmgaaDoor
