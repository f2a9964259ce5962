/-
Texts joined: Base M MB LA PT PU Eff U W1 KP.
-/
import Derived.WalkKit
import Derived.WalkSpells
import Derived.WalkLawsBesides
import Derived.Deep.OwnRows
import Derived.Deep.Draws
import Derived.BigQuiet
import Derived.Deep.QuietTactic
import Derived.Lib.Hide
import Derived.Laws.BitsAllLaws
import Derived.Laws.BitsLemmas
import Derived.Laws.Bits64
import Derived.RowKit
import Derived.IntWalk
import Derived.Lib.TrailingZeros
import Derived.Maps.AppendAt
import Derived.Deep.RegionLaw
import Derived.RegionTactic
import Derived.Laws.CopyOwn
import Derived.Maps.Ext
import Derived.Maps.OwnSet
import Derived.Maps.RangeWalk
/-
Plain words for memory: a block whose first cells are known by a function of the index, and a slice argument that reads so. Nothing here speaks of the program.
-/
namespace Go.Proofs.YtmcimfblhpflnaaDoor
open Go.RowKit

/-- Block g holds cells of type t, none frozen; its first n cells are f 0, f 1, .. -/
def Arr (w : World) (t : TypeId) (g n : Nat) (f : Nat → Value) : Prop :=
  ∃ c : Array Value, w.heap[g]? = some (.cells c t (0, 0)) ∧ n ≤ c.size ∧ ∀ k, k < n → c[k]? = some (f k)

/-- The contents of an int slice. -/
def iv (f : Nat → Int) : Nat → Value := fun k => .int .i64 (f k)

/-- A slice argument that reads as f 0, .., f (n - 1): nothing is asked of an empty one. -/
def Src (w : World) (A : Option Addr) (n : Nat) (f : Nat → Value) : Prop :=
  ∀ k, k < n → ∃ b off, A = some ⟨b, off, none⟩ ∧ b < w.heap.size ∧ w.cell? ⟨b, off + k, none⟩ = some (f k)

section
variable {w w' : World} {t : TypeId} {g n B : Nat} {f f' : Nat → Value} {A : Option Addr}

theorem Arr.lt (h : Arr w t g n f) : g < w.heap.size := by
  obtain ⟨c, hb, _, _⟩ := h
  exact (Array.getElem?_eq_some_iff.1 hb).1
theorem Arr.cell (h : Arr w t g n f) {k : Nat} (hk : k < n) : w.cell? ⟨g, k, none⟩ = some (f k) := by
  obtain ⟨c, hb, _, hc⟩ := h
  simp [World.cell?, hb, hc k hk]
theorem Arr.frozen (h : Arr w t g n f) (i : Nat) : w.frozen? ⟨g, i, none⟩ = false := by
  obtain ⟨c, hb, _, _⟩ := h
  simp [World.frozen?, hb]
theorem Arr.congr (h : Arr w t g n f) (e : ∀ k, k < n → f k = f' k) : Arr w t g n f' := by
  obtain ⟨c, hb, hn, hc⟩ := h
  exact ⟨c, hb, hn, fun k hk => by rw [hc k hk, e k hk]⟩
theorem Arr.of_block (h : Arr w t g n f) (e : w'.heap[g]? = w.heap[g]?) : Arr w' t g n f := by
  obtain ⟨c, hb, hn, hc⟩ := h
  exact ⟨c, e.trans hb, hn, hc⟩
theorem Arr.below (h : Arr w t g n f) (hb : Below B w w') (hg : g < B) : Arr w' t g n f := h.of_block (hb.block g hg)
theorem Arr.all (h : Arr w t g n f) (hb : Below w.heap.size w w') : Arr w' t g n f := h.below hb h.lt
theorem Arr.drew (h : Arr w t g n f) : Arr w.drew t g n f := h
theorem Arr.drewN (h : Arr w t g n f) (k : Nat) : Arr (w.drewN k) t g n f := h
theorem Arr.alloc (h : Arr w t g n f) (o : Obj) : Arr (w.alloc o) t g n f := h.of_block (Below.heap_alloc w o g h.lt)
theorem Arr.far (h : Arr w t g n f) {p : Addr} (hp : g ≠ p.block) (u : Value) : Arr (w.setCell p u) t g n f := h.of_block (Below.heap_setCell w p u g hp)
theorem Arr.set (h : Arr w t g n f) (i : Nat) (v : Value) : Arr (w.setCell ⟨g, i, none⟩ v) t g n (fun j => if j = i then v else f j) := by
  obtain ⟨c, hb, hn, hc⟩ := h
  refine ⟨c.setIfInBounds i v, ?_, by simpa using hn, fun j hj => ?_⟩
  · simp [World.setCell, Array.getElem?_modify, hb]
  · rw [Array.getElem?_setIfInBounds]
    by_cases e : j = i
    · subst e
      simp; omega
    · rw [if_neg (fun h => e h.symm)]
      show c[j]? = some (if j = i then v else f j)
      rw [if_neg e]
      exact hc j hj
theorem Arr.take (h : Arr w t g n f) {m : Nat} (hm : m ≤ n) : Arr w t g m f := by
  obtain ⟨c, hb, hn, hc⟩ := h
  exact ⟨c, hb, by omega, fun k hk => hc k (by omega)⟩
theorem Arr.new (w : World) (c : Array Value) (t : TypeId) (f : Nat → Value) (hc : ∀ i, i < c.size → c[i]? = some (f i)) : Arr (w.alloc (.cells c t)) t w.heap.size c.size f :=
  ⟨c, heap_alloc_new w _, Nat.le_refl _, hc⟩
theorem Arr.made (w : World) (z : Value) (n : Nat) (t : TypeId) : Arr (w.alloc (.cells (madeCells #[z] n) t)) t w.heap.size n (fun _ => z) :=
  ⟨_, heap_alloc_new w _, by rw [size_madeCells]; exact Nat.le_refl _, fun i hi => by simp [madeCells, hi, Nat.mod_one]⟩
theorem Arr.ne_ {g' n' : Nat} {t' : TypeId} (h : Arr w t g n f) (h' : Arr w t' g' n' f') (hne : t ≠ t') : g ≠ g' := by
  rintro rfl
  obtain ⟨c, hb, _, _⟩ := h
  obtain ⟨c', hb', _, _⟩ := h'
  rw [hb] at hb'
  injection hb' with hb'
  injection hb' with _ ht
  exact hne ht

theorem Src.of_arr (h : Arr w t g n f) : Src w (some ⟨g, 0, none⟩) n f := fun k hk => ⟨g, 0, rfl, h.lt, by rw [Nat.zero_add]; exact h.cell hk⟩
theorem Src.nil : Src w A 0 f := fun k hk => absurd hk (by omega)
theorem Src.below (h : Src w A n f) (hb : Below w.heap.size w w') : Src w' A n f := fun k hk => by
  obtain ⟨b, off, e, hlt, hc⟩ := h k hk
  exact ⟨b, off, e, Nat.lt_of_lt_of_le hlt hb.size, (hb.cell (p := ⟨b, off + k, none⟩) hlt).trans hc⟩
theorem Src.alloc (h : Src w A n f) (o : Obj) : Src (w.alloc o) A n f := h.below ((Below.refl _ _).alloc (Nat.le_refl _) _)
theorem Src.drew (h : Src w A n f) : Src w.drew A n f := h
theorem Src.drewN (h : Src w A n f) (k : Nat) : Src (w.drewN k) A n f := h
theorem below_drewN {B : Nat} {a w : World} (h : Below B a w) (n : Nat) : Below B a (w.drewN n) := ⟨h.os, h.tape, h.output, h.size, h.block⟩
theorem hide {p : Prop} (h : p) : Hid p := h
theorem bcell {W w1 : World} (hb : Below W.heap.size W w1) : (∀ b o, b < W.heap.size → w1.cell? ⟨b, o, none⟩ = W.cell? ⟨b, o, none⟩) ∧ (∀ b o, b < W.heap.size → w1.frozen? ⟨b, o, none⟩ = W.frozen? ⟨b, o, none⟩) :=
  ⟨fun b o h => hb.cell (p := ⟨b, o, none⟩) h, fun b o h => hb.frozen (p := ⟨b, o, none⟩) h⟩
end
/-- Four cells, and what became of them: two structs of two cells each, held while new memory is made. -/
theorem four_below {W w' : World} {a b : Nat} {u0 u1 v0 v1 : Value} (hb : Below W.heap.size W w')
    (h : W.cell? ⟨a, 0, none⟩ = some u0 ∧ W.cell? ⟨a, 1, none⟩ = some u1 ∧ W.cell? ⟨b, 0, none⟩ = some v0 ∧ W.cell? ⟨b, 1, none⟩ = some v1) :
    w'.cell? ⟨a, 0, none⟩ = some u0 ∧ w'.cell? ⟨a, 1, none⟩ = some u1 ∧ w'.cell? ⟨b, 0, none⟩ = some v0 ∧ w'.cell? ⟨b, 1, none⟩ = some v1 := by
  obtain ⟨h1, h2, h3, h4⟩ := h
  have l1 := World.block_lt_of_cell? W _ h1
  have l3 := World.block_lt_of_cell? W _ h3
  exact ⟨(hb.cell (p := ⟨a, 0, none⟩) l1).trans h1, (hb.cell (p := ⟨a, 1, none⟩) l1).trans h2, (hb.cell (p := ⟨b, 0, none⟩) l3).trans h3, (hb.cell (p := ⟨b, 1, none⟩) l3).trans h4⟩
theorem quiet_add {P : Program} {f : FuncId} {args : Array Value} {w : World} {a n : Nat} {v : Value}
    (h : Calls P f args (w.drewN (a + n)) fun e w' => e = .returned v ∧ ∃ m, w' = (w.drewN (a + n)).drewN m) :
    Calls P f args (w.drewN (a + n)) fun e w'' => e = .returned v ∧ ∃ m, w'' = w.drewN (a + m) :=
  h.mono fun _ _ ⟨he, m, hm⟩ => ⟨he, n + m, by rw [hm, World.drewN_drewN, Nat.add_assoc]⟩
theorem quiet_add_same {P : Program} {f : FuncId} {args : Array Value} {w : World} {a n : Nat} {v : Value}
    (h : Calls P f args (w.drewN (a + n)) fun e w' => e = .returned v ∧ w' = w.drewN (a + n)) :
    Calls P f args (w.drewN (a + n)) fun e w'' => e = .returned v ∧ ∃ m, w'' = w.drewN (a + m) :=
  h.mono fun _ _ ⟨he, hm⟩ => ⟨he, n, hm⟩
end Go.Proofs.YtmcimfblhpflnaaDoor
/-
Plain arithmetic of sets told as numbers: bits, graphs. Nothing here speaks of the program.
-/
namespace Go.Proofs.YtmcimfblhpflnaaDoor

/-- Is i in the set s? -/
def bt (s : Int) (i : Nat) : Bool := decide (s / 2 ^ i % 2 = 1)

theorem bits_and_one (x : Int) : bits .and .i64 x 1 = x % 2 := by
  show IntKind.i64.wrap ((BitVec.ofInt 64 x &&& BitVec.ofInt 64 1).toNat : Int) = _
  have h1 : BitVec.ofInt 64 1 = 1#64 := rfl
  rw [h1, BitVec.toNat_and]
  have h2 : (1#64).toNat = 1 := rfl
  rw [h2, Nat.and_one_is_mod, BitVec.toNat_ofInt, IntKind.wrap_i64]
  omega
theorem has_eq (s : Int) (i : Nat) : (bits .and .i64 (s / 2 ^ i) 1 == 1) = bt s i := by
  rw [bits_and_one, Bool.eq_iff_iff]; simp [bt]
theorem grIn_eq (s : Int) (i : Nat) (h : 0 ≤ s) : ((s / 2 ^ i).tmod 2 == 1) = bt s i := by
  have : 0 ≤ s / 2 ^ i := Int.ediv_nonneg h (by have : (0 : Int) < 2 ^ i := Int.pow_pos (by decide); omega)
  rw [Int.tmod_eq_emod_of_nonneg this, Bool.eq_iff_iff]; simp [bt]
theorem isSet_eq (s : Int) (n : Nat) : (s / 2 ^ n == 0) = decide (0 ≤ s ∧ s < 2 ^ n) := by
  have hp : (0 : Int) < 2 ^ n := Int.pow_pos (by decide)
  rw [Bool.eq_iff_iff]
  simp only [beq_iff_eq, decide_eq_true_eq]
  constructor
  · intro h
    have := Int.mul_ediv_add_emod s (2 ^ n)
    have h1 := Int.emod_nonneg s (show (2 : Int) ^ n ≠ 0 by omega)
    have h2 := Int.emod_lt_of_pos s hp
    rw [h] at this
    simp at this
    omega
  · intro ⟨h0, h1⟩
    exact Int.ediv_eq_zero_of_lt h0 h1
theorem pow_nat (n : Nat) : ((2 ^ n : Nat) : Int) = 2 ^ n := by rw [Int.natCast_pow]; rfl
theorem pow16 {n : Nat} (h : n ≤ 16) : (1 : Int) ≤ 2 ^ n ∧ (2 : Int) ^ n ≤ 65536 := by
  have h1 : 2 ^ n ≤ 2 ^ 16 := Nat.pow_le_pow_right (by decide) h
  have h2 : 1 ≤ 2 ^ n := Nat.one_le_two_pow
  have h3 : (2 : Nat) ^ 16 = 65536 := rfl
  rw [← pow_nat]
  omega
/-- lo ≤ s ≤ hi, as a test. -/
def inB (s lo hi : Int) : Bool := decide (lo ≤ s ∧ s ≤ hi)
theorem isSet_in (s : Int) (n : Nat) : (s / 2 ^ n == 0) = inB s 0 (2 ^ n - 1) := by
  rw [isSet_eq, inB, decide_eq_decide]; omega
/-- All of f 0, .., f (n - 1) lie there. -/
def allB (n : Nat) (f : Nat → Int) (lo hi : Int) : Bool := decide (∀ k, k < n → lo ≤ f k ∧ f k ≤ hi)
def Good (n : Nat) (f : Nat → Int) : Prop :=
  1 ≤ n ∧ n ≤ 16 ∧ (∀ k, k < n → 0 ≤ f k ∧ f k < 2 ^ n) ∧ ∀ i, i < n → ∀ j, j < n → bt (f i) j = true → i ≠ j ∧ bt (f j) i = true
open Classical in
/-- Are f 0, .., f (n - 1) the neighbours of a graph of n buttons? -/
noncomputable def goodB (n : Nat) (f : Nat → Int) : Bool := decide (Good n f)
theorem goodB_yes {n : Nat} {f : Nat → Int} (h : Good n f) : goodB n f = true := by simp [goodB, h]
theorem goodB_no {n : Nat} {f : Nat → Int} (h : ¬ Good n f) : goodB n f = false := by simp [goodB, h]
theorem goodB_iff {n : Nat} {f : Nat → Int} : goodB n f = true ↔ Good n f := by simp [goodB]
theorem goodB_not {n : Nat} {f : Nat → Int} : goodB n f = false ↔ ¬ Good n f := by simp [goodB]

theorem ofInt_i64 (a : Nat) (ha : a < 9223372036854775808) : (BitVec.ofInt 64 (a : Int)).toNat = a := by
  rw [BitVec.ofInt_natCast, BitVec.toNat_ofNat]; exact Nat.mod_eq_of_lt (by omega)
theorem i64_or_nat (a b : Nat) (ha : a < 9223372036854775808) (hb : b < 9223372036854775808) : bits .or .i64 (a : Int) (b : Int) = ((a ||| b : Nat) : Int) := by
  have hx : a ||| b < 2 ^ 63 := Nat.or_lt_two_pow (by omega) (by omega)
  show IntKind.i64.wrap ((BitVec.ofInt 64 (a : Int) ||| BitVec.ofInt 64 (b : Int)).toNat : Int) = _
  rw [BitVec.toNat_or, ofInt_i64 a ha, ofInt_i64 b hb, IntKind.wrap_i64]
  omega
theorem i64_xor_nat (a b : Nat) (ha : a < 9223372036854775808) (hb : b < 9223372036854775808) : bits .xor .i64 (a : Int) (b : Int) = ((a ^^^ b : Nat) : Int) := by
  have hx : a ^^^ b < 2 ^ 63 := Nat.xor_lt_two_pow (by omega) (by omega)
  show IntKind.i64.wrap ((BitVec.ofInt 64 (a : Int) ^^^ BitVec.ofInt 64 (b : Int)).toNat : Int) = _
  rw [BitVec.toNat_xor, ofInt_i64 a ha, ofInt_i64 b hb, IntKind.wrap_i64]
  omega
theorem pow_lt16 {j : Nat} (hj : j < 16) : 2 ^ j < 65536 := by
  have h1 : 2 ^ j < 2 ^ 16 := Nat.pow_lt_pow_right (by decide) hj
  exact h1
/-- x with the bit j. -/
theorem or_pow (a j : Nat) (ha : a < 65536) (hj : j < 16) : bits .or .i64 (a : Int) (2 ^ j) = ((a ||| 2 ^ j : Nat) : Int) := by
  have h := pow_lt16 hj
  rw [← i64_or_nat a (2 ^ j) (by omega) (by omega), pow_nat]
theorem wrap_pow {j : Nat} (hj : j < 16) : RowKit.wrap64 (2 ^ j) = 2 ^ j := by
  have h := pow_lt16 hj
  rw [← pow_nat]
  generalize 2 ^ j = x at h
  exact IntWalk.wrap64_in _ (by omega)
theorem or_wrap (a j : Nat) (ha : a < 65536) (hj : j < 16) : bits .or .i64 (a : Int) (RowKit.wrap64 (2 ^ j)) = ((a ||| 2 ^ j : Nat) : Int) := by
  rw [wrap_pow hj, or_pow a j ha hj]
theorem or_lt16 {a b : Nat} (ha : a < 65536) (hb : b < 65536) : a ||| b < 65536 := Nat.or_lt_two_pow (n := 16) ha hb
/-- The edge i, j is added: two elements are joined to each other. -/
def lk (i j : Nat) (F : Nat → Nat) : Nat → Nat := fun k => if k = j then (if j = i then F k ||| 2 ^ j else F k) ||| 2 ^ i else if k = i then F k ||| 2 ^ j else F k
theorem lk_lt {i j : Nat} {F : Nat → Nat} {n : Nat} (hi : i < 16) (hj : j < 16) (hF : ∀ k, k < n → F k < 65536) : ∀ k, k < n → lk i j F k < 65536 := by
  intro k hk
  have h1 := pow_lt16 hi
  have h2 := pow_lt16 hj
  have h3 := hF k hk
  unfold lk
  split
  · split
    · exact or_lt16 (or_lt16 h3 h2) h1
    · exact or_lt16 h3 h1
  · split
    · exact or_lt16 h3 h2
    · exact h3
end Go.Proofs.YtmcimfblhpflnaaDoor
/-
Sets told by their bits, and a board of lights as an array. Plain arithmetic; nothing here speaks of the program.
-/
namespace Go.Proofs.YtmcimfblhpflnaaDoor
theorem bt_nat (s i : Nat) : bt (s : Int) i = s.testBit i := by
  rw [Nat.testBit_eq_decide_div_mod_eq]
  simp only [bt]
  rw [decide_eq_decide, ← pow_nat]
  omega
/-- The number whose bits below k are L. -/
def litN (L : Nat → Bool) : Nat → Nat
  | 0 => 0
  | k + 1 => if L k then litN L k ||| 2 ^ k else litN L k
theorem litN_bit (L : Nat → Bool) (k j : Nat) : (litN L k).testBit j = (decide (j < k) && L j) := by
  induction k with
  | zero => simp [litN]
  | succ k ih =>
    simp only [litN]
    by_cases hL : L k = true
    · rw [if_pos hL, Nat.testBit_or, ih, Nat.testBit_two_pow]
      by_cases hjk : j = k
      · subst hjk; simp [hL]
      · have h1 : ¬ k = j := fun e => hjk e.symm
        by_cases h2 : j < k
        · simp [h1, h2, show j < k + 1 by omega]
        · simp [h1, h2, show ¬ j < k + 1 by omega]
    · rw [if_neg hL, ih]
      by_cases hjk : j = k
      · subst hjk; simp [hL]
      · by_cases h2 : j < k
        · simp [h2, show j < k + 1 by omega]
        · simp [h2, show ¬ j < k + 1 by omega]
theorem litN_lt (L : Nat → Bool) (k : Nat) (hk : k ≤ 16) : litN L k < 65536 := by
  have : litN L k < 2 ^ 16 := Nat.lt_pow_two_of_testBit _ fun j hj => by
    rw [litN_bit]
    simp; omega
  exact this
theorem litN_eq (L : Nat → Bool) (s : Nat) (hs : s < 65536) (h : ∀ j, j < 16 → L j = s.testBit j) : litN L 16 = s := by
  apply Nat.eq_of_testBit_eq
  intro j
  rw [litN_bit]
  by_cases hj : j < 16
  · simp [hj, h j hj]
  · have : s.testBit j = false := Nat.testBit_lt_two_pow (Nat.lt_of_lt_of_le hs (show 65536 ≤ 2 ^ j from Nat.pow_le_pow_right (n := 2) (i := 16) (by decide) (by omega)))
    simp [hj, this]
theorem bit_above {s n j : Nat} (hs : s < 2 ^ n) (hj : n ≤ j) : s.testBit j = false :=
  Nat.testBit_lt_two_pow (Nat.lt_of_lt_of_le hs (Nat.pow_le_pow_right (by decide) hj))
/-- The cells of a board: the graph's two, then its sixteen lights. -/
def bd (near own : Value) (L : Nat → Bool) : Array Value := (near :: own :: (List.range 16).map (fun j => Value.bool (L j))).toArray
theorem bd_size (near own : Value) (L : Nat → Bool) : (bd near own L).size = 18 := by simp [bd]
theorem bd_0 (near own : Value) (L : Nat → Bool) : (bd near own L)[0]? = some near := rfl
theorem bd_1 (near own : Value) (L : Nat → Bool) : (bd near own L)[1]? = some own := rfl
theorem bd_get (near own : Value) (L : Nat → Bool) (j : Nat) (hj : j < 16) : (bd near own L)[2 + j]? = some (.bool (L j)) := by
  rw [show 2 + j = (j + 1) + 1 by omega]
  simp [bd, hj]
theorem bd_set (near own : Value) (L : Nat → Bool) (j : Nat) (b : Bool) : (bd near own L).setIfInBounds (2 + j) (.bool b) = bd near own (fun k => if k = j then b else L k) := by
  apply Array.ext_getElem?
  intro k
  rw [Array.getElem?_setIfInBounds]
  by_cases hk : 2 + j = k
  · subst hk
    by_cases hj : j < 16
    · rw [if_pos rfl, if_pos (by rw [bd_size]; omega), bd_get _ _ _ _ hj, if_pos rfl]
    · rw [if_pos rfl, if_neg (by rw [bd_size]; omega), Array.getElem?_eq_none (by rw [bd_size]; omega)]
  · rw [if_neg hk]
    by_cases h18 : k < 18
    · match k, h18 with
      | 0, _ => rfl
      | 1, _ => rfl
      | k + 2, h18 =>
        rw [show k + 2 = 2 + k by omega, bd_get _ _ _ _ (by omega), bd_get _ _ _ _ (by omega), if_neg (by omega)]
    · rw [Array.getElem?_eq_none (by rw [bd_size]; omega), Array.getElem?_eq_none (by rw [bd_size]; omega)]
theorem bd_one (near own : Value) (L : Nat → Bool) (h0 : near.oneCell' = true) (h1 : own.oneCell' = true) : (bd near own L).all (·.oneCell') = true := by
  simp [bd, h0, h1]
  intro k _; rfl
/-- The lights alone. -/
def ltL (L : Nat → Bool) : List Value := (List.range 16).map (fun j => Value.bool (L j))
theorem ltL_get (L : Nat → Bool) (j : Nat) (hj : j < 16) : (ltL L)[j]? = some (.bool (L j)) := by simp [ltL, hj]
end Go.Proofs.YtmcimfblhpflnaaDoor
/-
Sets as numbers, and bases of sets in reduced form: plain arithmetic; nothing here speaks of the program.
-/

namespace Go.Proofs.YtmcimfblhpflnaaDoor
/-- s with the greatest element of b cleared by b. -/
def stp (s b : Nat) : Nat := if s.testBit b.log2 then s ^^^ b else s
def rd (B : List Nat) (s : Nat) : Nat := B.foldl stp s
def rdr (B : List Nat) (s : Nat) : Nat := B.foldr (fun b s => stp s b) s
def cor : List Nat → Nat → Nat
  | [], _ => 0
  | b :: B, s => (if s.testBit b.log2 then b else 0) ^^^ cor B s
def lin (B : List Nat) (s : Nat) : Nat := s ^^^ cor B s
/-- A basis: increasing greatest elements, none of them in another set. -/
def Bas (B : List Nat) : Prop := (∀ b ∈ B, b ≠ 0) ∧ B.Pairwise (fun a b => a.log2 < b.log2 ∧ b.testBit a.log2 = false)
def Cl (B : List Nat) (s : Nat) : Prop := ∀ b ∈ B, s.testBit b.log2 = false
def put (B : List Nat) (r : Nat) : List Nat :=
  B.filter (fun b => decide (b.log2 < r.log2)) ++ r :: (B.filter (fun b => decide (r.log2 < b.log2))).map (fun b => stp b r)
def add (B : List Nat) (s : Nat) : List Nat := if lin B s = 0 then B else put B (lin B s)

theorem bit_hi {s i : Nat} (h : s.log2 < i) : s.testBit i = false :=
  Nat.testBit_lt_two_pow (Nat.lt_of_lt_of_le Nat.lt_log2_self (Nat.pow_le_pow_right (by decide) h))
theorem bit_top {s : Nat} (h : s ≠ 0) : s.testBit s.log2 = true := by
  have h1 := Nat.log2_self_le h
  have h2 : s < 2 ^ (s.log2 + 1) := Nat.lt_log2_self
  rw [Nat.testBit_eq_decide_div_mod_eq, decide_eq_true_eq]
  have hp : 0 < 2 ^ s.log2 := Nat.two_pow_pos _
  have h3 : s / 2 ^ s.log2 = 1 := by
    apply Nat.div_eq_of_lt_le
    · omega
    · rw [Nat.pow_succ] at h2; omega
  rw [h3]
theorem log2_eq {s k : Nat} (h : s.testBit k = true) (h2 : ∀ j, k < j → s.testBit j = false) : s.log2 = k := by
  have hs : s ≠ 0 := by rintro rfl; simp at h
  rcases Nat.lt_trichotomy s.log2 k with h3 | h3 | h3
  · rw [bit_hi h3] at h; cases h
  · exact h3
  · have := h2 _ h3; rw [bit_top hs] at this; cases this
theorem xx (a b : Nat) : a ^^^ b ^^^ b = a := by rw [Nat.xor_assoc, Nat.xor_self, Nat.xor_zero]
theorem xx2 (a b : Nat) : b ^^^ (b ^^^ a) = a := by rw [← Nat.xor_assoc, Nat.xor_self, Nat.zero_xor]
theorem xlc (a b c : Nat) : a ^^^ (b ^^^ c) = b ^^^ (a ^^^ c) := by rw [← Nat.xor_assoc, Nat.xor_comm a b, Nat.xor_assoc]
theorem stp_bit (s b j : Nat) : (stp s b).testBit j = (s.testBit j ^^ (s.testBit b.log2 && b.testBit j)) := by
  unfold stp; cases h : s.testBit b.log2 <;> simp
theorem stp_top {s b : Nat} (hb : b ≠ 0) : (stp s b).testBit b.log2 = false := by
  rw [stp_bit, bit_top hb]; cases s.testBit b.log2 <;> rfl
theorem stp_eq (s b : Nat) : stp s b = s ^^^ (if s.testBit b.log2 then b else 0) := by
  unfold stp; cases h : s.testBit b.log2 <;> simp
theorem cor_congr {B : List Nat} {x y : Nat} (h : ∀ b ∈ B, x.testBit b.log2 = y.testBit b.log2) : cor B x = cor B y := by
  induction B with
  | nil => rfl
  | cons b B ih => simp only [cor]; rw [h b (by simp), ih (fun c hc => h c (by simp [hc]))]
theorem cor_xor (B : List Nat) (x y : Nat) : cor B (x ^^^ y) = cor B x ^^^ cor B y := by
  induction B with
  | nil => simp [cor]
  | cons b B ih =>
    simp only [cor, ih, Nat.testBit_xor]
    cases h1 : x.testBit b.log2 <;> cases h2 : y.testBit b.log2 <;> simp [Nat.xor_assoc, xlc (cor B x) b]
    rw [xx2]
theorem lin_xor (B : List Nat) (x y : Nat) : lin B (x ^^^ y) = lin B x ^^^ lin B y := by
  simp only [lin, cor_xor]; simp only [Nat.xor_assoc]; rw [xlc y (cor B x)]
theorem cor_bit {B : List Nat} {i : Nat} (s : Nat) (h : ∀ b ∈ B, b.testBit i = false) : (cor B s).testBit i = false := by
  induction B with
  | nil => simp [cor]
  | cons b B ih =>
    simp only [cor, Nat.testBit_xor, ih (fun c hc => h c (by simp [hc]))]
    cases h1 : s.testBit b.log2 <;> simp [h b (by simp)]
theorem Bas.tail {b : Nat} {B : List Nat} (h : Bas (b :: B)) : Bas B := ⟨fun c hc => h.1 c (by simp [hc]), (List.pairwise_cons.1 h.2).2⟩
theorem Bas.head {b : Nat} {B : List Nat} (h : Bas (b :: B)) {c : Nat} (hc : c ∈ B) : b.log2 < c.log2 ∧ c.testBit b.log2 = false := (List.pairwise_cons.1 h.2).1 c hc
theorem Bas.nil : Bas [] := ⟨by simp, by simp⟩
theorem rd_lin {B : List Nat} (h : Bas B) (s : Nat) : rd B s = lin B s := by
  induction B generalizing s with
  | nil => simp [rd, lin, cor]
  | cons b B ih =>
    show rd B (stp s b) = _
    rw [ih h.tail]
    have e : cor B (stp s b) = cor B s := cor_congr fun c hc => by
      rw [stp_bit, bit_hi (h.head hc).1]; simp
    rw [lin, e]; simp only [lin, cor, stp_eq, Nat.xor_assoc]
theorem rdr_lin {B : List Nat} (h : Bas B) (s : Nat) : rdr B s = lin B s := by
  induction B with
  | nil => simp [rdr, lin, cor]
  | cons b B ih =>
    show stp (rdr B s) b = _
    rw [ih h.tail, stp_eq]
    have e : (lin B s).testBit b.log2 = s.testBit b.log2 := by
      rw [lin, Nat.testBit_xor, cor_bit s (fun c hc => (h.head hc).2)]; simp
    rw [e]
    simp only [lin, cor, Nat.xor_assoc]
    rw [Nat.xor_comm (cor B s)]
theorem lin_clean {B : List Nat} (h : Bas B) (s : Nat) : Cl B (lin B s) := by
  induction B with
  | nil => intro b hb; cases hb
  | cons a B ih =>
    intro b hb
    have e : lin (a :: B) s = lin B s ^^^ (if s.testBit a.log2 then a else 0) := by
      simp only [lin, cor, Nat.xor_assoc]; rw [Nat.xor_comm (cor B s)]
    rw [e, Nat.testBit_xor]
    rcases List.mem_cons.1 hb with rfl | hb
    · rw [lin, Nat.testBit_xor, cor_bit s (fun c hc => (h.head hc).2)]
      cases h1 : s.testBit b.log2
      · simp
      · simp [bit_top (h.1 b (by simp))]
    · rw [ih h.tail b hb]
      cases h1 : s.testBit a.log2 <;> simp [bit_hi (h.head hb).1]
theorem cor_zero {B : List Nat} {s : Nat} (h : Cl B s) : cor B s = 0 := by
  induction B with
  | nil => rfl
  | cons b B ih => simp only [cor, h b (by simp), ih (fun c hc => h c (by simp [hc]))]; simp
theorem lin_of_clean {B : List Nat} {s : Nat} (h : Cl B s) : lin B s = s := by rw [lin, cor_zero h, Nat.xor_zero]
theorem lin_idem {B : List Nat} (h : Bas B) (s : Nat) : lin B (lin B s) = lin B s := lin_of_clean (lin_clean h s)
theorem lin_zero (B : List Nat) : lin B 0 = 0 := lin_of_clean (fun _ _ => by simp)
theorem lin_mem {B : List Nat} (h : Bas B) {b : Nat} (hb : b ∈ B) : lin B b = 0 := by
  have e : cor B b = b := by
    induction B with
    | nil => cases hb
    | cons a B ih =>
      rcases List.mem_cons.1 hb with rfl | hb
      · rw [cor, bit_top (h.1 b (by simp)), cor_zero (fun c hc => bit_hi (h.head hc).1)]; simp
      · rw [cor, (h.head hb).2, ih h.tail hb]; simp
  rw [lin, e, Nat.xor_self]
theorem lin_cor_of {B C : List Nat} (s : Nat) (h : ∀ b ∈ B, lin C b = 0) : lin C (cor B s) = 0 := by
  induction B with
  | nil => exact lin_zero C
  | cons b B ih =>
    rw [cor, lin_xor, ih (fun c hc => h c (by simp [hc]))]
    cases s.testBit b.log2
    · simp [lin_zero]
    · simp [h b (by simp)]
theorem Bas.pair {B : List Nat} (h : Bas B) {a b : Nat} (ha : a ∈ B) (hb : b ∈ B) (hne : a ≠ b) : b.testBit a.log2 = false := by
  induction B with
  | nil => cases ha
  | cons c B ih =>
    rcases List.mem_cons.1 ha with e | ha2
    · rcases List.mem_cons.1 hb with e2 | hb2
      · exact absurd (e.trans e2.symm) hne
      · rw [e]; exact (h.head hb2).2
    · rcases List.mem_cons.1 hb with e | hb2
      · rw [e]; exact bit_hi (h.head ha2).1
      · exact ih h.tail ha2 hb2
theorem stp_log2 {b r : Nat} (hb : b ≠ 0) (h : r.log2 < b.log2) : (stp b r).log2 = b.log2 := by
  apply log2_eq
  · rw [stp_bit, bit_top hb, bit_hi h]; simp
  · intro j hj; rw [stp_bit, bit_hi hj, bit_hi (Nat.lt_trans h hj)]; simp
theorem stp_ne {b r : Nat} (hb : b ≠ 0) (h : r.log2 < b.log2) : stp b r ≠ 0 := by
  intro e
  have h1 : (stp b r).testBit b.log2 = true := by rw [stp_bit, bit_top hb, bit_hi h]; simp
  rw [e] at h1; simp at h1
theorem Cl.ne {B : List Nat} {r b : Nat} (h : Cl B r) (hr : r ≠ 0) (hb : b ∈ B) : b.log2 ≠ r.log2 := by
  intro e; have := h b hb; rw [e, bit_top hr] at this; cases this
theorem put_bas {B : List Nat} (h : Bas B) {r : Nat} (hr : r ≠ 0) (hc : Cl B r) : Bas (put B r) := by
  constructor
  · intro b hb
    simp only [put, List.mem_append, List.mem_filter, List.mem_cons, List.mem_map, decide_eq_true_eq] at hb
    rcases hb with ⟨hb, _⟩ | rfl | ⟨a, ⟨ha, hl⟩, rfl⟩
    · exact h.1 b hb
    · exact hr
    · exact stp_ne (h.1 a ha) hl
  · rw [put, List.pairwise_append, List.pairwise_cons]
    refine ⟨h.2.filter _, ⟨?_, ?_⟩, ?_⟩
    · intro b hb
      simp only [List.mem_map, List.mem_filter, decide_eq_true_eq] at hb
      obtain ⟨a, ⟨ha, hl⟩, rfl⟩ := hb
      exact ⟨by rw [stp_log2 (h.1 a ha) hl]; exact hl, stp_top hr⟩
    · rw [List.pairwise_map]
      refine List.Pairwise.imp_of_mem ?_ (h.2.filter _)
      intro a b ha hb ⟨h1, h2⟩
      simp only [List.mem_filter, decide_eq_true_eq] at ha hb
      rw [stp_log2 (h.1 a ha.1) ha.2, stp_log2 (h.1 b hb.1) hb.2]
      refine ⟨h1, ?_⟩
      rw [stp_bit, h2, bit_hi ha.2]; simp
    · intro a ha b hb
      simp only [List.mem_filter, decide_eq_true_eq] at ha
      simp only [List.mem_cons, List.mem_map, List.mem_filter, decide_eq_true_eq] at hb
      rcases hb with rfl | ⟨c, ⟨hcm, hl⟩, rfl⟩
      · exact ⟨ha.2, hc a ha.1⟩
      · rw [stp_log2 (h.1 c hcm) hl]
        refine ⟨by omega, ?_⟩
        rw [stp_bit, hc a ha.1, h.pair ha.1 hcm (by rintro rfl; omega)]; simp
theorem put_lin {B : List Nat} (h : Bas B) {r : Nat} (hr : r ≠ 0) (hc : Cl B r) (x : Nat) : lin (put B r) x = stp (lin B x) r := by
  have hC := put_bas h hr hc
  have hr0 : lin (put B r) r = 0 := lin_mem hC (by simp [put])
  have hz : Cl (put B r) (stp (lin B x) r) := by
    intro c hcm
    simp only [put, List.mem_append, List.mem_filter, List.mem_cons, List.mem_map, decide_eq_true_eq] at hcm
    rcases hcm with ⟨hb, _⟩ | rfl | ⟨a, ⟨ha, hl⟩, rfl⟩
    · rw [stp_bit, lin_clean h x c hb, hc c hb]; simp
    · exact stp_top hr
    · rw [stp_log2 (h.1 a ha) hl, stp_bit, lin_clean h x a ha, hc a ha]; simp
  have hB : ∀ b ∈ B, lin (put B r) b = 0 := by
    intro b hb
    have hne := hc.ne hr hb
    by_cases hl : b.log2 < r.log2
    · exact lin_mem hC (by simp [put, hb, hl])
    · have hl2 : r.log2 < b.log2 := by omega
      have h1 : lin (put B r) (stp b r) = 0 := lin_mem hC (by
        simp only [put, List.mem_append, List.mem_filter, List.mem_cons, List.mem_map, decide_eq_true_eq]
        exact Or.inr (Or.inr ⟨b, ⟨hb, hl2⟩, rfl⟩))
      unfold stp at h1
      cases h2 : b.testBit r.log2
      · rw [h2] at h1; simpa using h1
      · rw [h2] at h1
        simp only [if_true] at h1
        rw [lin_xor, hr0] at h1; simpa using h1
  have h3 : lin (put B r) (cor B x) = 0 := lin_cor_of x hB
  rw [← lin_of_clean hz, stp_eq, lin_xor, show lin B x = x ^^^ cor B x from rfl, lin_xor, h3]
  split
  · rw [hr0]; simp
  · rw [lin_zero]; simp
theorem add_bas {B : List Nat} (h : Bas B) (s : Nat) : Bas (add B s) := by
  unfold add; split
  · exact h
  · exact put_bas h ‹_› (lin_clean h s)
/-- The sets below and above a greatest element. -/
theorem Bas.split {B : List Nat} (h : Bas B) (k : Nat) (hk : ∀ b ∈ B, b.log2 ≠ k) :
    B = B.filter (fun b => decide (b.log2 < k)) ++ B.filter (fun b => decide (k < b.log2)) := by
  induction B with
  | nil => rfl
  | cons a B ih =>
    have hne := hk a (by simp)
    by_cases hl : a.log2 < k
    · rw [List.filter_cons_of_pos (by simpa using hl), List.filter_cons_of_neg (by simp; omega), List.cons_append, ← ih h.tail (fun b hb => hk b (by simp [hb]))]
    · have e1 : B.filter (fun b => decide (b.log2 < k)) = [] := by
        rw [List.filter_eq_nil_iff]; intro b hb; have := (h.head hb).1; simp; omega
      have e2 : B.filter (fun b => decide (k < b.log2)) = B := by
        rw [List.filter_eq_self]; intro b hb; have := (h.head hb).1; simp; omega
      rw [List.filter_cons_of_neg (by simpa using hl), List.filter_cons_of_pos (by simp; omega), e1, e2]; rfl
theorem cor_append (A B : List Nat) (x : Nat) : cor (A ++ B) x = cor A x ^^^ cor B x := by
  induction A with
  | nil => simp [cor]
  | cons a A ih => simp only [List.cons_append, cor, ih, Nat.xor_assoc]
theorem shr_eq_zero {s n : Nat} : s >>> n = 0 ↔ s < 2 ^ n := by
  rw [Nat.shiftRight_eq_div_pow, Nat.div_eq_zero_iff]
  have := Nat.two_pow_pos n
  omega
theorem shr_log2 {s n : Nat} (h : 2 ^ n ≤ s) : n + (s >>> n).log2 = s.log2 := by
  have hs : s ≠ 0 := by have := Nat.two_pow_pos n; omega
  have hn : n ≤ s.log2 := (Nat.le_log2 hs).2 h
  have e : (s >>> n).log2 = s.log2 - n := by
    apply log2_eq
    · rw [Nat.testBit_shiftRight, show n + (s.log2 - n) = s.log2 by omega, bit_top hs]
    · intro j hj; rw [Nat.testBit_shiftRight]; exact bit_hi (by omega)
  omega
theorem le_of_log2 {s n : Nat} (hs : s ≠ 0) (h : n ≤ s.log2) : 2 ^ n ≤ s := (Nat.le_log2 hs).1 h
theorem log2_lt_of {s n : Nat} (hs : s ≠ 0) (h : s < 2 ^ n) : s.log2 < n := (Nat.log2_lt hs).2 h
theorem cor_shr {H : List Nat} {n : Nat} (x : Nat) (h : ∀ b ∈ H, 2 ^ n ≤ b) : (cor H x) >>> n = cor (H.map (· >>> n)) (x >>> n) := by
  induction H with
  | nil => simp [cor]
  | cons b B ih =>
    have e : (x >>> n).testBit (b >>> n).log2 = x.testBit b.log2 := by
      rw [Nat.testBit_shiftRight, shr_log2 (h b (by simp))]
    simp only [cor, List.map_cons, Nat.shiftRight_xor_distrib, ih (fun c hc => h c (by simp [hc])), e]
    cases x.testBit b.log2 <;> simp
theorem cor_lt {Q : List Nat} {n : Nat} (x : Nat) (h : ∀ b ∈ Q, b < 2 ^ n) : cor Q x < 2 ^ n := by
  induction Q with
  | nil => exact Nat.two_pow_pos n
  | cons b B ih =>
    refine Nat.xor_lt_two_pow ?_ (ih (fun c hc => h c (by simp [hc])))
    split
    · exact h b (by simp)
    · exact Nat.two_pow_pos n
theorem lin_lt {Q : List Nat} {n x : Nat} (h : ∀ b ∈ Q, b < 2 ^ n) (hx : x < 2 ^ n) : lin Q x < 2 ^ n := Nat.xor_lt_two_pow hx (cor_lt x h)
theorem stp_lt {a b n : Nat} (ha : a < 2 ^ n) (hb : b < 2 ^ n) : stp a b < 2 ^ n := by
  unfold stp; split
  · exact Nat.xor_lt_two_pow ha hb
  · exact ha
theorem lin_shr {H : List Nat} {n : Nat} (x : Nat) (h : ∀ b ∈ H, 2 ^ n ≤ b) : (lin H x) >>> n = lin (H.map (· >>> n)) (x >>> n) := by
  rw [lin, Nat.shiftRight_xor_distrib, cor_shr x h]; rfl
theorem lin_shr_low {Q : List Nat} {n : Nat} (x : Nat) (h : ∀ b ∈ Q, b < 2 ^ n) : (lin Q x) >>> n = x >>> n := by
  rw [lin, Nat.shiftRight_xor_distrib, shr_eq_zero.2 (cor_lt x h), Nat.xor_zero]
theorem put_lt {B : List Nat} {r n : Nat} (hB : ∀ b ∈ B, b < 2 ^ n) (hr : r < 2 ^ n) : ∀ b ∈ put B r, b < 2 ^ n := by
  intro b hb
  simp only [put, List.mem_append, List.mem_filter, List.mem_cons, List.mem_map, decide_eq_true_eq] at hb
  rcases hb with ⟨hb, _⟩ | rfl | ⟨a, ⟨ha, _⟩, rfl⟩
  · exact hB b hb
  · exact hr
  · exact stp_lt (hB a ha) hr
theorem add_lt {B : List Nat} {s n : Nat} (hB : ∀ b ∈ B, b < 2 ^ n) (hs : s < 2 ^ n) : ∀ b ∈ add B s, b < 2 ^ n := by
  unfold add; split
  · exact hB
  · exact put_lt hB (lin_lt hB hs)
theorem put_ge {B : List Nat} {r n : Nat} (h0 : ∀ b ∈ B, b ≠ 0) (hB : ∀ b ∈ B, 2 ^ n ≤ b) (hr : 2 ^ n ≤ r) : ∀ b ∈ put B r, 2 ^ n ≤ b := by
  intro b hb
  simp only [put, List.mem_append, List.mem_filter, List.mem_cons, List.mem_map, decide_eq_true_eq] at hb
  rcases hb with ⟨hb, _⟩ | rfl | ⟨a, ⟨ha, hl⟩, rfl⟩
  · exact hB b hb
  · exact hr
  · refine le_of_log2 (stp_ne (h0 a ha) hl) ?_
    rw [stp_log2 (h0 a ha) hl]
    exact (Nat.le_log2 (h0 a ha)).2 (hB a ha)
theorem put_shr {H : List Nat} {r n : Nat} (hH : ∀ b ∈ H, 2 ^ n ≤ b) (hr : 2 ^ n ≤ r) : (put H r).map (· >>> n) = put (H.map (· >>> n)) (r >>> n) := by
  have hf1 : (H.map (· >>> n)).filter (fun b => decide (b.log2 < (r >>> n).log2)) = (H.filter (fun b => decide (b.log2 < r.log2))).map (· >>> n) := by
    rw [List.filter_map]
    congr 1
    apply List.filter_congr
    intro b hb
    have h1 := shr_log2 (hH b hb)
    have h2 := shr_log2 hr
    simp only [Function.comp, decide_eq_decide]
    omega
  have hf2 : (H.map (· >>> n)).filter (fun b => decide ((r >>> n).log2 < b.log2)) = (H.filter (fun b => decide (r.log2 < b.log2))).map (· >>> n) := by
    rw [List.filter_map]
    congr 1
    apply List.filter_congr
    intro b hb
    have h1 := shr_log2 (hH b hb)
    have h2 := shr_log2 hr
    simp only [Function.comp, decide_eq_decide]
    omega
  simp only [put, List.map_append, List.map_cons, hf1, hf2, List.map_map]
  congr 2
  apply List.map_congr_left
  intro b _
  have e : (b >>> n).testBit (r >>> n).log2 = b.testBit r.log2 := by rw [Nat.testBit_shiftRight, shr_log2 hr]
  simp only [Function.comp, stp, e]
  split
  · rw [Nat.shiftRight_xor_distrib]
  · rfl
theorem put_low {Q H : List Nat} {r n : Nat} (h0 : ∀ b ∈ H, b ≠ 0) (hH : ∀ b ∈ H, 2 ^ n ≤ b) (hr0 : r ≠ 0) (hr : r < 2 ^ n) : put (Q ++ H) r = put Q r ++ H.map (fun b => stp b r) := by
  have hl := log2_lt_of hr0 hr
  have e1 : H.filter (fun b => decide (b.log2 < r.log2)) = [] := by
    rw [List.filter_eq_nil_iff]; intro b hb; have := (Nat.le_log2 (h0 b hb)).2 (hH b hb); simp; omega
  have e2 : H.filter (fun b => decide (r.log2 < b.log2)) = H := by
    rw [List.filter_eq_self]; intro b hb; have := (Nat.le_log2 (h0 b hb)).2 (hH b hb); simp; omega
  simp only [put, List.filter_append, e1, e2, List.map_append, List.append_nil, List.append_assoc, List.cons_append]
theorem put_high {Q H : List Nat} {r n : Nat} (h0 : ∀ b ∈ Q, b ≠ 0) (hQ : ∀ b ∈ Q, b < 2 ^ n) (hr : 2 ^ n ≤ r) : put (Q ++ H) r = Q ++ put H r := by
  have hr0 : r ≠ 0 := by have := Nat.two_pow_pos n; omega
  have hl := (Nat.le_log2 hr0).2 hr
  have e1 : Q.filter (fun b => decide (b.log2 < r.log2)) = Q := by
    rw [List.filter_eq_self]; intro b hb; have := log2_lt_of (h0 b hb) (hQ b hb); simp; omega
  have e2 : Q.filter (fun b => decide (r.log2 < b.log2)) = [] := by
    rw [List.filter_eq_nil_iff]; intro b hb; have := log2_lt_of (h0 b hb) (hQ b hb); simp; omega
  simp only [put, List.filter_append, e1, e2, List.nil_append, List.append_assoc]
structure Inv (n : Nat) (P I Q R : List Nat) : Prop where
  bp : Bas P
  bi : Bas I
  bq : Bas Q
  br : Bas R
  H : ∃ H, P = Q ++ H ∧ (∀ h ∈ H, 2 ^ n ≤ h) ∧ H.map (· >>> n) = I
  low : ∀ q ∈ Q, q < 2 ^ n
  up : ∀ r ∈ R, 2 ^ n ≤ r
  ri : R.map (· >>> n) = I
  par : ∀ x, lin Q (lin R x) = lin P x
/-- One more set: the quiet ones and the pairs. -/
def qstep (n : Nat) (QR : List Nat × List Nat) (s : Nat) : List Nat × List Nat :=
  if lin QR.2 s >>> n = 0 then (add QR.1 (lin QR.2 s), QR.2) else (QR.1, add QR.2 (lin QR.2 s))
theorem Inv.start (n : Nat) : Inv n [] [] [] [] := ⟨Bas.nil, Bas.nil, Bas.nil, Bas.nil, ⟨[], rfl, by simp, rfl⟩, by simp, by simp, rfl, fun _ => by simp [lin, cor]⟩
theorem Inv.tops {n : Nat} {P I Q R : List Nat} (h : Inv n P I Q R) (s : Nat) : lin R s >>> n = lin I (s >>> n) ∧ lin P s >>> n = lin I (s >>> n) := by
  have h1 : lin R s >>> n = lin I (s >>> n) := by rw [lin_shr s h.up, h.ri]
  exact ⟨h1, by rw [← h.par, lin_shr_low _ h.low, h1]⟩
theorem Inv.step {n : Nat} {P I Q R : List Nat} (h : Inv n P I Q R) (s : Nat) :
    Inv n (add P s) (add I (s >>> n)) (qstep n (Q, R) s).1 (qstep n (Q, R) s).2 := by
  obtain ⟨t1, t2⟩ := h.tops s
  have hu : lin R (lin R s) = lin R s := lin_idem h.br s
  have hq : lin Q (lin R s) = lin P s := h.par s
  obtain ⟨H, hP, hH, hI⟩ := h.H
  have hH0 : ∀ b ∈ H, b ≠ 0 := fun b hb => h.bp.1 b (by rw [hP]; simp [hb])
  unfold qstep
  by_cases hz : lin R s >>> n = 0
  · rw [if_pos hz]
    have eI : add I (s >>> n) = I := by unfold add; rw [if_pos (by rw [← t1]; exact hz)]
    rw [eI]
    simp only
    by_cases hr : lin P s = 0
    · have eP : add P s = P := by unfold add; rw [if_pos hr]
      have eQ : add Q (lin R s) = Q := by unfold add; rw [if_pos (by rw [hq]; exact hr)]
      rw [eP, eQ]; exact h
    · have eP : add P s = put P (lin P s) := by unfold add; rw [if_neg hr]
      have eQ : add Q (lin R s) = put Q (lin P s) := by unfold add; rw [hq, if_neg hr]
      have hlow : lin P s < 2 ^ n := shr_eq_zero.1 (by rw [t2, ← t1]; exact hz)
      have hcP := lin_clean h.bp s
      have hcQ : Cl Q (lin P s) := by rw [← hq]; exact lin_clean h.bq _
      rw [eP, eQ]
      refine ⟨put_bas h.bp hr hcP, h.bi, put_bas h.bq hr hcQ, h.br, ⟨H.map (fun b => stp b (lin P s)), ?_, ?_, ?_⟩, put_lt h.low hlow, h.up, h.ri, fun x => ?_⟩
      · rw [← put_low hH0 hH hr hlow, ← hP]
      · intro b hb
        simp only [List.mem_map] at hb
        obtain ⟨a, ha, rfl⟩ := hb
        have hal := (Nat.le_log2 (hH0 a ha)).2 (hH a ha)
        have hrl := log2_lt_of hr hlow
        refine le_of_log2 (stp_ne (hH0 a ha) (by omega)) ?_
        rw [stp_log2 (hH0 a ha) (by omega)]; exact hal
      · rw [← hI, List.map_map]
        apply List.map_congr_left
        intro b _
        simp only [Function.comp, stp]
        split
        · rw [Nat.shiftRight_xor_distrib, shr_eq_zero.2 hlow, Nat.xor_zero]
        · rfl
      · rw [put_lin h.bq hr hcQ, put_lin h.bp hr hcP, h.par]
  · rw [if_neg hz]
    have hz2 : lin P s >>> n ≠ 0 := by rw [t2, ← t1]; exact hz
    have hr : lin P s ≠ 0 := by intro e; rw [e] at hz2; simp at hz2
    have hu0 : lin R s ≠ 0 := by intro e; rw [e] at hz; simp at hz
    have hrn : 2 ^ n ≤ lin P s := by have := mt shr_eq_zero.2 hz2; omega
    have hun : 2 ^ n ≤ lin R s := by have := mt shr_eq_zero.2 hz; omega
    have eP : add P s = put P (lin P s) := by unfold add; rw [if_neg hr]
    have eR : add R (lin R s) = put R (lin R s) := by unfold add; rw [hu, if_neg hu0]
    have eI : add I (s >>> n) = put I (lin P s >>> n) := by unfold add; rw [← t2, if_neg hz2]
    have hcP := lin_clean h.bp s
    have hcR := lin_clean h.br s
    have hsame : lin R s >>> n = lin P s >>> n := by rw [t1, t2]
    simp only
    rw [eP, eR, eI]
    have hiI : Bas (put I (lin P s >>> n)) := by rw [← eI]; exact add_bas h.bi _
    refine ⟨put_bas h.bp hr hcP, hiI, h.bq, put_bas h.br hu0 hcR, ⟨put H (lin P s), ?_, put_ge hH0 hH hrn, ?_⟩, h.low, put_ge h.br.1 h.up hun, ?_, fun x => ?_⟩
    · rw [← put_high (fun b hb => h.bq.1 b hb) h.low hrn, ← hP]
    · rw [put_shr hH hrn, hI]
    · rw [put_shr h.up hun, h.ri, hsame]
    · rw [put_lin h.br hu0 hcR, put_lin h.bp hr hcP, ← h.par x]
      have htop : (lin R s).log2 = (lin P s).log2 := by
        have a1 := shr_log2 hun
        have a2 := shr_log2 hrn
        rw [hsame] at a1; omega
      have hn : n ≤ (lin P s).log2 := (Nat.le_log2 hr).2 hrn
      have hb : (lin Q (lin R x)).testBit (lin P s).log2 = (lin R x).testBit (lin P s).log2 := by
        rw [lin, Nat.testBit_xor, Nat.testBit_lt_two_pow (Nat.lt_of_lt_of_le (cor_lt _ h.low) (Nat.pow_le_pow_right (by decide) hn))]; simp
      rw [stp_eq, stp_eq, lin_xor, htop, hb]
      congr 1
      split
      · exact hq
      · exact lin_zero Q
theorem lt_of_bit {n m : Nat} (i : Nat) (h1 : n.testBit i = false) (h2 : m.testBit i = true) (h : ∀ j, i < j → n.testBit j = m.testBit j) : n < m := by
  have e : n / 2 ^ (i + 1) = m / 2 ^ (i + 1) := by
    apply Nat.eq_of_testBit_eq
    intro j
    rw [Nat.testBit_div_two_pow, Nat.testBit_div_two_pow]
    exact h _ (by omega)
  rw [Nat.testBit_eq_decide_div_mod_eq, decide_eq_false_iff_not] at h1
  rw [Nat.testBit_eq_decide_div_mod_eq, decide_eq_true_eq] at h2
  rw [Nat.pow_succ, ← Nat.div_div_eq_div_mul, ← Nat.div_div_eq_div_mul] at e
  have hlt : n / 2 ^ i < m / 2 ^ i := by omega
  exact Nat.lt_of_div_lt_div hlt
/-- All sums of a basis, in order. -/
def sums (B : List Nat) : List Nat := B.foldl (fun S b => S ++ S.map (fun s => s ^^^ b)) [0]
theorem sums_snoc (B : List Nat) (b : Nat) : sums (B ++ [b]) = sums B ++ (sums B).map (fun s => s ^^^ b) := by simp [sums]
theorem sums_length (B : List Nat) : (sums B).length = 2 ^ B.length := by
  suffices h : ∀ (B S : List Nat), (B.foldl (fun S b => S ++ S.map (fun s => s ^^^ b)) S).length = S.length * 2 ^ B.length by
    have := h B [0]; simpa [sums] using this
  intro B
  induction B with
  | nil => simp
  | cons b B ih => intro S; rw [List.foldl_cons, ih, List.length_append, List.length_map, List.length_cons, Nat.pow_succ, ← Nat.mul_two, Nat.mul_assoc, Nat.mul_comm 2]
theorem snoc_ind {α : Type} {p : List α → Prop} (h0 : p []) (h1 : ∀ B b, p B → p (B ++ [b])) (B : List α) : p B := by
  have h : ∀ (n : Nat) (B : List α), B.length = n → p B := by
    intro n
    induction n with
    | zero => intro B hB; rw [List.length_eq_zero_iff.1 hB]; exact h0
    | succ n ih =>
      intro B hB
      have hne : B ≠ [] := by intro e; rw [e] at hB; simp at hB
      rw [← List.dropLast_concat_getLast hne]
      exact h1 _ _ (ih _ (by rw [List.length_dropLast, hB]; rfl))
  exact h _ B rfl
theorem Bas.front {B : List Nat} {b : Nat} (h : Bas (B ++ [b])) : Bas B ∧ b ≠ 0 ∧ (∀ a ∈ B, a.log2 < b.log2) ∧ Cl B b := by
  have hp := List.pairwise_append.1 h.2
  exact ⟨⟨fun c hc => h.1 c (by simp [hc]), hp.1⟩, h.1 b (by simp), fun a ha => (hp.2.2 a ha b (by simp)).1, fun a ha => (hp.2.2 a ha b (by simp)).2⟩
theorem sums_lin {B : List Nat} (h : Bas B) : ∀ s ∈ sums B, lin B s = 0 := by
  suffices H : ∀ (A C : List Nat), (∀ a ∈ A, lin C a = 0) → ∀ s ∈ sums A, lin C s = 0 from H B B (fun a ha => lin_mem h ha)
  intro A
  induction A using snoc_ind with
  | h0 => intro C _ s hs; simp [sums] at hs; rw [hs]; exact lin_zero C
  | h1 A a ih =>
    intro C hC s hs
    rw [sums_snoc, List.mem_append, List.mem_map] at hs
    have hA : ∀ b ∈ A, lin C b = 0 := fun b hb => hC b (by simp [hb])
    rcases hs with hs | ⟨t, ht, rfl⟩
    · exact ih C hA s hs
    · rw [lin_xor, ih C hA t ht, hC a (by simp)]; rfl
theorem sums_bit {B : List Nat} {k : Nat} (h : ∀ b ∈ B, b.log2 < k) : ∀ s ∈ sums B, ∀ j, k ≤ j → s.testBit j = false := by
  induction B using snoc_ind with
  | h0 => intro s hs j _; simp [sums] at hs; rw [hs]; simp
  | h1 A a ih =>
    intro s hs j hj
    rw [sums_snoc, List.mem_append, List.mem_map] at hs
    have hA := ih (fun b hb => h b (by simp [hb]))
    rcases hs with hs | ⟨t, ht, rfl⟩
    · exact hA s hs j hj
    · rw [Nat.testBit_xor, hA t ht j hj, bit_hi (Nat.lt_of_lt_of_le (h a (by simp)) hj)]; rfl
theorem sums_rise {B : List Nat} (h : Bas B) : ∀ p, Cl B p → (sums B).Pairwise (fun a c => a ^^^ p < c ^^^ p) := by
  induction B using snoc_ind with
  | h0 => intro p _; simp [sums]
  | h1 A a ih =>
    intro p hp
    obtain ⟨hA, ha0, hlt, hcl⟩ := h.front
    have hpA : Cl A p := fun b hb => hp b (by simp [hb])
    have hpa : p.testBit a.log2 = false := hp a (by simp)
    rw [sums_snoc, List.pairwise_append]
    refine ⟨ih hA p hpA, ?_, ?_⟩
    · rw [List.pairwise_map]
      refine List.Pairwise.imp ?_ (ih hA (a ^^^ p) (fun b hb => by rw [Nat.testBit_xor, hcl b hb, hpA b hb]; rfl))
      intro x y hxy
      rw [Nat.xor_assoc, Nat.xor_assoc]; exact hxy
    · intro x hx y hy
      rw [List.mem_map] at hy
      obtain ⟨t, ht, rfl⟩ := hy
      have hb := sums_bit hlt
      apply lt_of_bit a.log2
      · rw [Nat.testBit_xor, hb x hx _ (Nat.le_refl _), hpa]; rfl
      · rw [Nat.testBit_xor, Nat.testBit_xor, hb t ht _ (Nat.le_refl _), hpa, bit_top ha0]; rfl
      · intro j hj
        rw [Nat.testBit_xor, Nat.testBit_xor, Nat.testBit_xor, hb x hx j (by omega), hb t ht j (by omega), bit_hi hj]; simp
theorem sums_mem {B : List Nat} {x : Nat} (hx : lin B x = 0) : x ∈ sums B := by
  have e : x = cor B x := by
    have h1 : x ^^^ cor B x = 0 := hx
    have h2 := congrArg (fun y => y ^^^ cor B x) h1
    simpa [xx] using h2
  suffices H : ∀ (A : List Nat) (y : Nat), cor A y ∈ sums A by rw [e]; exact H B x
  intro A
  induction A using snoc_ind with
  | h0 => intro y; simp [cor, sums]
  | h1 A a ih =>
    intro y
    rw [sums_snoc, cor_append, List.mem_append, List.mem_map]
    cases hb : y.testBit a.log2
    · left; simpa [cor, hb] using ih y
    · right; exact ⟨cor A y, ih y, by simp [cor, hb]⟩
/-- Two rising lists with the same elements are one. -/
theorem rise_eq : ∀ {A B : List Nat}, A.Pairwise (· < ·) → B.Pairwise (· < ·) → (∀ x, x ∈ A ↔ x ∈ B) → A = B
  | [], [], _, _, _ => rfl
  | [], b :: B, _, _, h => by have := (h b).2 (by simp); cases this
  | a :: A, [], _, _, h => by have := (h a).1 (by simp); cases this
  | a :: A, b :: B, hA, hB, h => by
    rw [List.pairwise_cons] at hA hB
    have hab : a = b := by
      rcases List.mem_cons.1 ((h a).1 (by simp)) with e | h1
      · exact e
      · rcases List.mem_cons.1 ((h b).2 (by simp)) with e | h2
        · exact e.symm
        · have := hB.1 a h1; have := hA.1 b h2; omega
    subst hab
    congr 1
    refine rise_eq hA.2 hB.2 fun x => ⟨fun hx => ?_, fun hx => ?_⟩
    · rcases List.mem_cons.1 ((h x).1 (by simp [hx])) with e | h1
      · have := hA.1 x hx; omega
      · exact h1
    · rcases List.mem_cons.1 ((h x).2 (by simp [hx])) with e | h1
      · have := hB.1 x hx; omega
      · exact h1
theorem sums_sorted {B : List Nat} (h : Bas B) : (sums B).Pairwise (· < ·) := by
  have := sums_rise h 0 (fun _ _ => by simp)
  simpa using this
theorem sums_filter {B : List Nat} (h : Bas B) {n : Nat} (hn : ∀ b ∈ B, b < 2 ^ n) : sums B = (List.range (2 ^ n)).filter (fun x => decide (lin B x = 0)) := by
  refine rise_eq (sums_sorted h) (List.Pairwise.filter _ List.pairwise_lt_range) fun x => ⟨fun hx => ?_, fun hx => ?_⟩
  · rw [List.mem_filter, List.mem_range, decide_eq_true_eq]
    refine ⟨?_, sums_lin h x hx⟩
    apply Nat.lt_pow_two_of_testBit
    intro j hj
    exact sums_bit (fun b hb => log2_lt_of (h.1 b hb) (hn b hb)) x hx j hj
  · rw [List.mem_filter, decide_eq_true_eq] at hx
    exact sums_mem hx.2
theorem bas_length {B : List Nat} (h : Bas B) {n : Nat} (hn : ∀ b ∈ B, b < 2 ^ n) : B.length ≤ n := by
  suffices H : ∀ (B : List Nat) (n : Nat), Bas B → (∀ b ∈ B, b.log2 < n) → B.length ≤ n from H B n h (fun b hb => log2_lt_of (h.1 b hb) (hn b hb))
  intro B
  induction B using snoc_ind with
  | h0 => intro n _ _; simp
  | h1 A a ih =>
    intro n hB hl
    obtain ⟨hA, _, hlt, _⟩ := hB.front
    have h1 := ih a.log2 hA hlt
    have h2 := hl a (by simp)
    simp; omega
/-- A list is a basis just where adding its sets one by one gives it back. -/
theorem add_snoc {L : List Nat} {c : Nat} (h : Bas (L ++ [c])) : add L c = L ++ [c] := by
  obtain ⟨hL, hc0, hlt, hcl⟩ := h.front
  have e : lin L c = c := lin_of_clean hcl
  have e1 : L.filter (fun b => decide (b.log2 < c.log2)) = L := by rw [List.filter_eq_self]; intro b hb; simpa using hlt b hb
  have e2 : L.filter (fun b => decide (c.log2 < b.log2)) = [] := by rw [List.filter_eq_nil_iff]; intro b hb; have := hlt b hb; simp; omega
  unfold add
  rw [e, if_neg hc0, put, e1, e2]; rfl
theorem fold_add_bas (L : List Nat) : ∀ B, Bas B → Bas (L.foldl add B) := by
  induction L with
  | nil => intro B h; exact h
  | cons a L ih => intro B h; exact ih _ (add_bas h a)
theorem fold_add_iff (L : List Nat) : L.foldl add [] = L ↔ Bas L := by
  constructor
  · intro e; rw [← e]; exact fold_add_bas L [] Bas.nil
  · induction L using snoc_ind with
    | h0 => intro _; rfl
    | h1 A a ih => intro h; rw [List.foldl_append, ih h.front.1]; exact add_snoc h
/-- The first of those with the least size, and of those with the least size the least one. -/
def minBy (f : Nat → Nat) (m s : Nat) : Nat := if f s < f m then s else m
def minLex (f : Nat → Nat) (m s : Nat) : Nat := if f s < f m ∨ f s = f m ∧ s < m then s else m
theorem min_same (f : Nat → Nat) (L : List Nat) : ∀ m, (m :: L).Pairwise (· < ·) → L.foldl (minBy f) m = L.foldl (minLex f) m := by
  induction L with
  | nil => intro m _; rfl
  | cons a L ih =>
    intro m h
    have h1 := List.pairwise_cons.1 h
    have hma : m < a := h1.1 a (by simp)
    have e : minLex f m a = minBy f m a := by
      unfold minLex minBy
      by_cases h2 : f a < f m
      · simp [h2]
      · rw [if_neg h2, if_neg (by omega)]
    rw [List.foldl_cons, List.foldl_cons, e]
    apply ih
    unfold minBy
    split
    · exact h1.2
    · exact List.pairwise_cons.2 ⟨fun b hb => h1.1 b (by simp [hb]), (List.pairwise_cons.1 h1.2).2⟩
end Go.Proofs.YtmcimfblhpflnaaDoor
/-
Parts of a graph that is told by bits: least closed sets. Nothing here speaks of the program.
-/
namespace Go.Proofs.YtmcimfblhpflnaaDoor
/-- S is closed along the edges among the first k. -/
def Clo (F : Nat → Nat) (k : Nat) (S : Nat → Prop) : Prop := ∀ i j, i < k → j < k → (F i).testBit j = true → S i → S j
structure IsPart (F : Nat → Nat) (k p : Nat) : Prop where
  any : ∃ i, p.testBit i = true
  lt : ∀ i, p.testBit i = true → i < k
  clo : Clo F k (fun i => p.testBit i = true)
  least : ∀ S, Clo F k S → ∀ i, p.testBit i = true → S i → ∀ j, p.testBit j = true → S j
section
variable {F F' : Nat → Nat} {k n p q : Nat}
theorem IsPart.eq (hp : IsPart F k p) (hq : IsPart F k q) (i : Nat) (h1 : p.testBit i = true) (h2 : q.testBit i = true) : p = q := by
  apply Nat.eq_of_testBit_eq
  intro j
  rw [Bool.eq_iff_iff]
  exact ⟨fun h => hp.least _ hq.clo i h1 h2 j h, fun h => hq.least _ hp.clo i h2 h1 j h⟩
theorem IsPart.ne (hp : IsPart F k p) : p ≠ 0 := by
  obtain ⟨i, hi⟩ := hp.any
  rintro rfl
  simp at hi
theorem IsPart.lt_pow (hp : IsPart F k p) : p < 2 ^ k := Nat.lt_pow_two_of_testBit _ fun j hj => by
  cases h : p.testBit j
  · rfl
  · exact absurd (hp.lt j h) (by omega)
theorem IsPart.lt16 (hp : IsPart F k p) (hk : k ≤ 16) : p < 65536 :=
  Nat.lt_of_lt_of_le hp.lt_pow (show 2 ^ k ≤ 2 ^ 16 from Nat.pow_le_pow_right (by decide) hk)
/-- The least element. -/
def low (p : Nat) : Nat := Lib.ctz 64 p
theorem low_bit (h0 : p ≠ 0) (h : p < 65536) : p.testBit (low p) = true ∧ ∀ j, j < low p → p.testBit j = false := by
  obtain ⟨m, hm, _⟩ := Lib.ctzFrom_spec 64 p (by omega) (by omega)
  have e : low p = Lib.ctzFrom 64 p := by simp [low, Lib.ctz, h0]
  rw [e]
  generalize Lib.ctzFrom 64 p = c at hm
  subst hm
  constructor
  · rw [Nat.testBit_two_pow_mul]; simp
  · intro j hj
    rw [Nat.testBit_two_pow_mul]; simp; omega
theorem low_eq (h : p < 65536) {l : Nat} (h1 : p.testBit l = true) (h2 : ∀ j, j < l → p.testBit j = false) : low p = l := by
  have h0 : p ≠ 0 := by rintro rfl; simp at h1
  obtain ⟨h3, h4⟩ := low_bit h0 h
  rcases Nat.lt_trichotomy (low p) l with hl | hl | hl
  · rw [h2 _ hl] at h3; cases h3
  · exact hl
  · rw [h4 _ hl] at h1; cases h1
theorem low_le (h : p < 65536) {l : Nat} (h1 : p.testBit l = true) : low p ≤ l := by
  have h0 : p ≠ 0 := by rintro rfl; simp at h1
  apply Nat.le_of_not_lt
  intro hl
  rw [(low_bit h0 h).2 l hl] at h1
  cases h1
theorem IsPart.low (hp : IsPart F k p) (hk : k ≤ 16) : p.testBit (low p) = true := (low_bit hp.ne (hp.lt16 hk)).1
theorem IsPart.low_lt (hp : IsPart F k p) (hk : k ≤ 16) : Go.Proofs.YtmcimfblhpflnaaDoor.low p < k := hp.lt _ (hp.low hk)
theorem IsPart.of_low (hp : IsPart F k p) (hq : IsPart F k q) (hk : k ≤ 16) (h : Go.Proofs.YtmcimfblhpflnaaDoor.low p = Go.Proofs.YtmcimfblhpflnaaDoor.low q) : p = q :=
  hp.eq hq _ (hp.low hk) (by rw [h]; exact hq.low hk)

/-! ### closures by passes -/
def pass (F : Nat → Nat) : Nat → Nat → Nat
  | 0, p => p
  | m + 1, p => if (pass F m p).testBit m = true then pass F m p ||| F m else pass F m p
def rds (F : Nat → Nat) (n : Nat) : Nat → Nat → Nat
  | 0, p => p
  | r + 1, p => pass F n (rds F n r p)
/-- The part of i. -/
def comp (F : Nat → Nat) (n i : Nat) : Nat := rds F n n (2 ^ i)
theorem pass_up (m p j : Nat) (h : p.testBit j = true) : (pass F m p).testBit j = true := by
  induction m with
  | zero => exact h
  | succ m ih =>
    rw [pass]
    split
    · rw [Nat.testBit_or, ih]; rfl
    · exact ih
theorem pass_more (m d p j : Nat) (h : (pass F m p).testBit j = true) : (pass F (m + d) p).testBit j = true := by
  induction d with
  | zero => exact h
  | succ d ih =>
    rw [← Nat.add_assoc, pass]
    split
    · rw [Nat.testBit_or, ih]; rfl
    · exact ih
theorem pass_in {S : Nat → Prop} (hS : Clo F n S) (hF : ∀ i, i < n → ∀ j, (F i).testBit j = true → j < n) (m p : Nat) (hm : m ≤ n) (h : ∀ j, p.testBit j = true → S j) : ∀ j, (pass F m p).testBit j = true → S j := by
  induction m with
  | zero => exact h
  | succ m ih =>
    intro j hj
    have ih := ih (by omega)
    rw [pass] at hj
    split at hj
    · rename_i hb
      rw [Nat.testBit_or, Bool.or_eq_true] at hj
      rcases hj with hj | hj
      · exact ih j hj
      · exact hS m j (by omega) (hF m (by omega) j hj) hj (ih m hb)
    · exact ih j hj
theorem pass_fix (h : pass F n p = p) : Clo F n (fun i => p.testBit i = true) := by
  intro i j hi hj hF hp
  have h1 := pass_up (F := F) i p i hp
  have h2 : (pass F (i + 1) p).testBit j = true := by
    rw [pass, if_pos h1, Nat.testBit_or, hF]; simp
  have h3 := pass_more (i + 1) (n - (i + 1)) p j h2
  rw [show i + 1 + (n - (i + 1)) = n by omega, h] at h3
  exact h3
/-- How many bits below k. -/
def nb (p : Nat) : Nat → Nat
  | 0 => 0
  | k + 1 => nb p k + (p.testBit k).toNat
theorem nb_le (p k : Nat) : nb p k ≤ k := by
  induction k with
  | zero => exact Nat.le_refl _
  | succ k ih => rw [nb]; cases p.testBit k <;> simp <;> omega
theorem nb_mono (h : ∀ j, p.testBit j = true → q.testBit j = true) (k : Nat) : nb p k ≤ nb q k := by
  induction k with
  | zero => exact Nat.le_refl _
  | succ k ih =>
    rw [nb, nb]
    have := h k
    cases hp : p.testBit k
    · simp; omega
    · rw [this hp]; simp; omega
theorem nb_lt (h : ∀ j, p.testBit j = true → q.testBit j = true) {i : Nat} (hq : q.testBit i = true) (hp : p.testBit i = false) (k : Nat) (hi : i < k) : nb p k < nb q k := by
  induction k with
  | zero => omega
  | succ k ih =>
    rw [nb, nb]
    by_cases e : i = k
    · subst e
      rw [hp, hq]
      have := nb_mono h i
      simp; omega
    · have h1 := ih (by omega)
      have := h k
      cases hp : p.testBit k
      · simp; omega
      · rw [this hp]; simp; omega
theorem nb_pos {i : Nat} (h : p.testBit i = true) (k : Nat) (hi : i < k) : 1 ≤ nb p k := by
  have := nb_lt (p := 0) (q := p) (fun j hj => by simp at hj) h (by simp) k hi
  omega
theorem nb_eq (h : ∀ i, i < k → p.testBit i = q.testBit i) : nb p k = nb q k := by
  induction k with
  | zero => rfl
  | succ k ih => rw [nb, nb, ih (fun i hi => h i (by omega)), h k (by omega)]
theorem rds_up (r p j : Nat) (h : p.testBit j = true) : (rds F n r p).testBit j = true := by
  induction r with
  | zero => exact h
  | succ r ih => rw [rds]; exact pass_up _ _ _ ih
theorem rds_in {S : Nat → Prop} (hS : Clo F n S) (hF : ∀ i, i < n → ∀ j, (F i).testBit j = true → j < n) (r p : Nat) (h : ∀ j, p.testBit j = true → S j) : ∀ j, (rds F n r p).testBit j = true → S j := by
  induction r with
  | zero => exact h
  | succ r ih => rw [rds]; exact pass_in hS hF n _ (Nat.le_refl _) ih
theorem rds_count (hF : ∀ i, i < n → ∀ j, (F i).testBit j = true → j < n) {i : Nat} (hi : i < n) (r : Nat) : pass F n (rds F n r (2 ^ i)) = rds F n r (2 ^ i) ∨ r + 1 ≤ nb (rds F n r (2 ^ i)) n := by
  have h2 : (2 ^ i).testBit i = true := by simp
  induction r with
  | zero => exact .inr (nb_pos h2 n hi)
  | succ r ih =>
    rcases ih with h | h
    · left
      rw [rds, h, h]
    · by_cases he : pass F n (rds F n r (2 ^ i)) = rds F n r (2 ^ i)
      · left
        rw [rds, he, he]
      · right
        rw [rds]
        have hu : ∀ j, (rds F n r (2 ^ i)).testBit j = true → (pass F n (rds F n r (2 ^ i))).testBit j = true := fun j => pass_up n _ j
        have hex : ∃ j, (pass F n (rds F n r (2 ^ i))).testBit j = true ∧ (rds F n r (2 ^ i)).testBit j = false := by
          apply Classical.byContradiction
          intro hno
          apply he
          apply Nat.eq_of_testBit_eq
          intro j
          rw [Bool.eq_iff_iff]
          refine ⟨fun hj => ?_, hu j⟩
          cases hb : (rds F n r (2 ^ i)).testBit j
          · exact absurd ⟨j, hj, hb⟩ hno
          · rfl
        obtain ⟨j, hj1, hj2⟩ := hex
        have hjn : j < n := pass_in (S := fun j => j < n) (fun _ j _ hj _ _ => hj) hF n _ (Nat.le_refl _)
          (rds_in (S := fun j => j < n) (fun _ j _ hj _ _ => hj) hF r _ (fun j hj => by rw [Nat.testBit_two_pow] at hj; simp at hj; omega)) j hj1
        have := nb_lt hu hj1 hj2 n hjn
        omega
/-- Neighbours are below n and on both sides. -/
structure Sym (F : Nat → Nat) (n : Nat) : Prop where
  lt : ∀ i, i < n → ∀ j, (F i).testBit j = true → j < n
  sym : ∀ i j, i < n → j < n → (F i).testBit j = true → (F j).testBit i = true
theorem Clo.neg {S : Nat → Prop} (hF : Sym F n) (h : Clo F n S) : Clo F n (fun i => ¬ S i) := fun i j hi hj hb hn hs => hn (h j i hj hi (hF.sym i j hi hj hb) hs)
theorem comp_self (F : Nat → Nat) (n i : Nat) : (comp F n i).testBit i = true := rds_up _ _ _ (by simp)
theorem comp_part (hF : Sym F n) {i : Nat} (hi : i < n) : IsPart F n (comp F n i) := by
  have hfix : pass F n (comp F n i) = comp F n i := by
    rcases rds_count hF.lt hi n with h | h
    · exact h
    · have := nb_le (rds F n n (2 ^ i)) n
      omega
  have hin : ∀ S : Nat → Prop, Clo F n S → S i → ∀ j, (comp F n i).testBit j = true → S j := fun S hS hi => rds_in hS hF.lt n _ (fun j hj => by rw [Nat.testBit_two_pow] at hj; simp at hj; exact hj ▸ hi)
  refine ⟨⟨i, comp_self F n i⟩, hin (fun j => j < n) (fun _ j _ hj _ _ => hj) hi, pass_fix hfix, fun S hS j hj hSj => ?_⟩
  by_cases hSi : S i
  · exact hin S hS hSi
  · exact absurd hSj (hin _ (hS.neg hF) hSi j hj)
theorem IsPart.comp (hF : Sym F n) (hp : IsPart F n p) {i : Nat} (h : p.testBit i = true) : p = comp F n i :=
  hp.eq (comp_part hF (hp.lt i h)) i h (comp_self F n i)
theorem comp_mem (hF : Sym F n) {i j : Nat} (hi : i < n) (h : (comp F n i).testBit j = true) : comp F n i = comp F n j := (comp_part hF hi).comp hF h

/-! ### the least buttons of the parts -/
/-- Is i the least of its part? -/
def root (F : Nat → Nat) (n i : Nat) : Bool := decide (low (comp F n i) = i)
def roots (F : Nat → Nat) (n : Nat) (k : Nat) : List Nat := (List.range k).filter (root F n)
theorem root_iff (hF : Sym F n) (hn : n ≤ 16) {i : Nat} (hi : i < n) : root F n i = true ↔ ∀ j, j < i → (comp F n i).testBit j = false := by
  have hp := comp_part hF hi
  simp only [root, decide_eq_true_eq]
  constructor
  · intro e j hj
    exact (low_bit hp.ne (hp.lt16 hn)).2 j (by omega)
  · intro h
    exact low_eq (hp.lt16 hn) (comp_self F n i) h
theorem root_low (hF : Sym F n) (hn : n ≤ 16) (hp : IsPart F n p) : root F n (low p) = true ∧ comp F n (low p) = p := by
  have h1 := hp.comp hF (hp.low hn)
  exact ⟨by simp only [root, decide_eq_true_eq]; rw [← h1], h1.symm⟩
theorem roots_succ (F : Nat → Nat) (n k : Nat) : roots F n (k + 1) = roots F n k ++ (if root F n k = true then [k] else []) := by
  unfold roots
  rw [List.range_succ, List.filter_append]
  congr 1
  cases h : root F n k <;> simp [h]
theorem roots_mem {i m : Nat} : i ∈ roots F n m ↔ i < m ∧ root F n i = true := by simp [roots]

/-! ### one more button -/
/-- Edges among the first k go both ways. -/
def Both (F : Nat → Nat) (k : Nat) : Prop := ∀ i j, i < k → j < k → (F i).testBit j = true → (F j).testBit i = true
theorem Sym.both (h : Sym F n) (hk : k ≤ n) : Both F k := fun i j hi hj => h.sym i j (by omega) (by omega)
theorem Clo.less {S : Nat → Prop} (h : Clo F (k + 1) S) : Clo F k S := fun i j hi hj => h i j (by omega) (by omega)
/-- Has the button k a neighbour in p? -/
def Meets (F : Nat → Nat) (k p : Nat) : Prop := ∃ i, i < k ∧ (F k).testBit i = true ∧ p.testBit i = true
def Cov (F : Nat → Nat) (k : Nat) : Prop := ∀ i, i < k → ∃ p, IsPart F k p ∧ p.testBit i = true
/-- J is k and all parts that k has neighbours in. -/
def Joined (F : Nat → Nat) (k J : Nat) : Prop := ∀ j, J.testBit j = true ↔ j = k ∨ ∃ p, IsPart F k p ∧ Meets F k p ∧ p.testBit j = true
theorem part_join (hF : Both F (k + 1)) (hc : Cov F k) {J : Nat} (hJ : Joined F k J) : IsPart F (k + 1) J := by
  refine ⟨⟨k, (hJ k).2 (.inl rfl)⟩, fun i hi => ?_, fun i j hi hj hb h => ?_, fun S hS => ?_⟩
  · rcases (hJ i).1 hi with rfl | ⟨p, hp, _, hi⟩
    · omega
    · have := hp.lt i hi; omega
  · by_cases ej : j = k
    · exact (hJ j).2 (.inl ej)
    · obtain ⟨p, hp, hpj⟩ := hc j (by omega)
      rcases (hJ i).1 h with rfl | ⟨p', hp', hm, hi'⟩
      · exact (hJ j).2 (.inr ⟨p, hp, ⟨j, by omega, hb, hpj⟩, hpj⟩)
      · exact (hJ j).2 (.inr ⟨p', hp', hm, hp'.clo i j (hp'.lt i hi') (by omega) hb hi'⟩)
  · have hk : S k → ∀ j, J.testBit j = true → S j := by
      intro hk j hj
      rcases (hJ j).1 hj with rfl | ⟨p, hp, ⟨i, hi, hb, hpi⟩, hj⟩
      · exact hk
      · exact hp.least S hS.less i hpi (hS k i (by omega) (by omega) hb hk) j hj
    intro i hi hSi
    rcases (hJ i).1 hi with rfl | ⟨p, hp, ⟨m, hm, hb, hpm⟩, hi⟩
    · exact hk hSi
    · refine hk (hS m k (by omega) (by omega) (hF k m (by omega) (by omega) hb) (hp.least S hS.less i hi hSi m hpm))
theorem part_stay (hF : Both F (k + 1)) (hp : IsPart F k p) (hm : ¬ Meets F k p) : IsPart F (k + 1) p := by
  refine ⟨hp.any, fun i hi => by have := hp.lt i hi; omega, fun i j hi hj hb h => ?_, fun S hS => hp.least S hS.less⟩
  have hik := hp.lt i h
  by_cases ej : j = k
  · subst ej
    exact absurd ⟨i, hik, hF i j (by omega) (by omega) hb, h⟩ hm
  · exact hp.clo i j hik (by omega) hb h
theorem cov_step (hF : Both F (k + 1)) (hc : Cov F k) {J : Nat} (hJ : Joined F k J) : Cov F (k + 1) := by
  intro i hi
  by_cases e : i = k
  · exact ⟨J, part_join hF hc hJ, (hJ i).2 (.inl e)⟩
  · obtain ⟨p, hp, hpi⟩ := hc i (by omega)
    by_cases hm : Meets F k p
    · exact ⟨J, part_join hF hc hJ, (hJ i).2 (.inr ⟨p, hp, hm, hpi⟩)⟩
    · exact ⟨p, part_stay hF hp hm, hpi⟩
theorem part_split (hF : Both F (k + 1)) (hc : Cov F k) {J : Nat} (hJ : Joined F k J) (hq : IsPart F (k + 1) q) : q = J ∨ (IsPart F k q ∧ ¬ Meets F k q) := by
  obtain ⟨i, hi⟩ := hq.any
  have hik := hq.lt i hi
  have hj := part_join hF hc hJ
  by_cases e : i = k
  · exact .inl (hq.eq hj i hi ((hJ i).2 (.inl e)))
  · obtain ⟨p, hp, hpi⟩ := hc i (by omega)
    by_cases hm : Meets F k p
    · exact .inl (hq.eq hj i hi ((hJ i).2 (.inr ⟨p, hp, hm, hpi⟩)))
    · have := hq.eq (part_stay hF hp hm) i hi hpi
      subst this
      exact .inr ⟨hp, hm⟩
theorem cov_zero (F : Nat → Nat) : Cov F 0 := fun i hi => absurd hi (by omega)
theorem no_part (hp : IsPart F 0 p) : False := by
  obtain ⟨i, hi⟩ := hp.any
  have := hp.lt i hi
  omega
/-- The joined part is known by its least button: no other part has the same. -/
theorem low_ne (hF : Both F (k + 1)) (hc : Cov F k) {J : Nat} (hJ : Joined F k J) (hk : k < 16) (hp : IsPart F k p) (hm : ¬ Meets F k p) : low p ≠ low J := by
  intro e
  have h1 := part_join hF hc hJ
  have h2 := part_stay hF hp hm
  have h3 := h2.of_low h1 (by omega) e
  have h4 := (hJ k).2 (.inl rfl)
  rw [← h3] at h4
  have := hp.lt k h4
  omega
end
end Go.Proofs.YtmcimfblhpflnaaDoor
/-
Edges and parts: an edge more joins two parts, or leads round. Nothing here speaks of the program.
-/
namespace Go.Proofs.YtmcimfblhpflnaaDoor
/-- How many i below k with f i. -/
def cn (f : Nat → Bool) : Nat → Nat
  | 0 => 0
  | k + 1 => cn f k + (f k).toNat
section
variable {F F' : Nat → Nat} {n : Nat}
theorem cn_eq {f g : Nat → Bool} {k : Nat} (h : ∀ i, i < k → f i = g i) : cn f k = cn g k := by
  induction k with
  | zero => rfl
  | succ k ih => rw [cn, cn, ih (fun i hi => h i (by omega)), h k (by omega)]
theorem cn_one {f g : Nat → Bool} {r k : Nat} (hr : r < k) (h1 : f r = true) (h2 : g r = false) (h : ∀ i, i < k → i ≠ r → f i = g i) : cn f k = cn g k + 1 := by
  induction k with
  | zero => omega
  | succ k ih =>
    rw [cn, cn]
    by_cases e : r = k
    · subst e
      rw [h1, h2, cn_eq (fun i hi => h i (by omega) (by omega))]
      simp
    · rw [ih (by omega) (fun i hi => h i (by omega)), h k (by omega) (fun e' => e e'.symm)]
      omega
theorem cn_all {f : Nat → Bool} {k : Nat} (h : ∀ i, i < k → f i = true) : cn f k = k := by
  induction k with
  | zero => rfl
  | succ k ih => rw [cn, ih (fun i hi => h i (by omega)), h k (by omega)]; rfl
theorem cn_le (f : Nat → Bool) (k : Nat) : cn f k ≤ k := by
  induction k with
  | zero => exact Nat.le_refl _
  | succ k ih => rw [cn]; cases f k <;> simp <;> omega
theorem cn_roots (F : Nat → Nat) (n k : Nat) : (roots F n k).length = cn (root F n) k := by
  induction k with
  | zero => rfl
  | succ k ih =>
    rw [roots_succ, List.length_append, ih, cn]
    cases root F n k <;> simp
/-- F' is F with the edge a, b. -/
def Adds (F F' : Nat → Nat) (n a b : Nat) : Prop := ∀ i j, i < n → j < n → ((F' i).testBit j = true ↔ (F i).testBit j = true ∨ (i = a ∧ j = b) ∨ (i = b ∧ j = a))
theorem Adds.turn {a b : Nat} (h : Adds F F' n a b) : Adds F F' n b a := fun i j hi hj => by rw [h i j hi hj]; constructor <;> (intro h; rcases h with h | h | h <;> simp [h])
theorem Adds.clo {a b : Nat} {S : Nat → Prop} (h : Adds F F' n a b) (hS : Clo F' n S) : Clo F n S := fun i j hi hj hb => hS i j hi hj ((h i j hi hj).2 (.inl hb))
theorem root_eq {i : Nat} (h : comp F n i = comp F' n i) : root F n i = root F' n i := by simp only [root, h]
theorem adds_round {a b : Nat} (hF : Sym F n) (hF' : Sym F' n) (ha : a < n) (hb : b < n) (h : Adds F F' n a b) (hc : (comp F n a).testBit b = true) : cn (root F' n) n = cn (root F n) n := by
  have hab := comp_mem hF ha hc
  have hp : ∀ p, IsPart F n p → IsPart F' n p := by
    intro p hp
    refine ⟨hp.any, hp.lt, fun i j hi hj hb' h' => ?_, fun S hS => hp.least S (h.clo hS)⟩
    rcases (h i j hi hj).1 hb' with hx | ⟨rfl, rfl⟩ | ⟨rfl, rfl⟩
    · exact hp.clo i j hi hj hx h'
    · have e := hp.comp hF h'
      show p.testBit j = true
      rw [e]; exact hc
    · have e := hp.comp hF h'
      show p.testBit j = true
      rw [e, ← hab]; exact comp_self F n j
  refine cn_eq fun i hi => (root_eq ?_).symm
  exact (hp _ (comp_part hF hi)).comp hF' (comp_self F n i)
theorem low_or {p q : Nat} (hp : p < 65536) (hq : q < 65536) (hp0 : p ≠ 0) (h : low p < low q) : low (p ||| q) = low p := by
  refine low_eq (Nat.or_lt_two_pow (n := 16) hp hq) ?_ fun j hj => ?_
  · rw [Nat.testBit_or, (low_bit hp0 hp).1]; rfl
  · rw [Nat.testBit_or, (low_bit hp0 hp).2 j hj]
    by_cases e : q = 0
    · rw [e]; simp
    · rw [(low_bit e hq).2 j (by omega)]; rfl
theorem adds_join' {a b : Nat} (hn : n ≤ 16) (hF : Sym F n) (hF' : Sym F' n) (ha : a < n) (hb : b < n) (h : Adds F F' n a b) (hc : (comp F n a).testBit b = false) (hl : low (comp F n a) < low (comp F n b)) : cn (root F n) n = cn (root F' n) n + 1 := by
  obtain ⟨p, hp⟩ : ∃ p, comp F n a = p := ⟨_, rfl⟩
  obtain ⟨q, hq⟩ : ∃ q, comp F n b = q := ⟨_, rfl⟩
  have pp := comp_part hF ha
  have pq := comp_part hF hb
  have pa := comp_self F n a
  have qb := comp_self F n b
  rw [hp] at pp pa hc hl
  rw [hq] at pq qb hl
  have hdis : ∀ i, p.testBit i = true → q.testBit i = true → False := by
    intro i h1 h2
    have := pp.eq pq i h1 h2
    rw [this, qb] at hc
    cases hc
  have oth : ∀ r, IsPart F n r → r.testBit a = false → r.testBit b = false → IsPart F' n r := by
    intro r hr h1 h2
    refine ⟨hr.any, hr.lt, fun i j hi hj hb' h' => ?_, fun S hS => hr.least S (h.clo hS)⟩
    have h' : r.testBit i = true := h'
    rcases (h i j hi hj).1 hb' with hx | ⟨rfl, rfl⟩ | ⟨rfl, rfl⟩
    · exact hr.clo i j hi hj hx h'
    · rw [h1] at h'; cases h'
    · rw [h2] at h'; cases h'
  have un : IsPart F' n (p ||| q) := by
    refine ⟨⟨a, by rw [Nat.testBit_or, pa]; rfl⟩, fun i hi => ?_, fun i j hi hj hb' h' => ?_, fun S hS i hi hSi j hj => ?_⟩
    · rw [Nat.testBit_or, Bool.or_eq_true] at hi
      exact hi.elim (pp.lt i) (pq.lt i)
    · have h' : (p ||| q).testBit i = true := h'
      show (p ||| q).testBit j = true
      rw [Nat.testBit_or, Bool.or_eq_true] at h' ⊢
      rcases (h i j hi hj).1 hb' with hx | ⟨rfl, rfl⟩ | ⟨rfl, rfl⟩
      · exact h'.imp (pp.clo i j hi hj hx) (pq.clo i j hi hj hx)
      · exact .inr qb
      · exact .inl pa
    · have hSF := h.clo hS
      have hall : S a → S j := by
        intro hSa
        rw [Nat.testBit_or, Bool.or_eq_true] at hj
        rcases hj with hj | hj
        · exact pp.least S hSF a pa hSa j hj
        · exact pq.least S hSF b qb (hS a b ha hb ((h a b ha hb).2 (.inr (.inl ⟨rfl, rfl⟩))) hSa) j hj
      rw [Nat.testBit_or, Bool.or_eq_true] at hi
      rcases hi with hi | hi
      · exact hall (pp.least S hSF i hi hSi a pa)
      · exact hall (hS b a hb ha ((h b a hb ha).2 (.inr (.inr ⟨rfl, rfl⟩))) (pq.least S hSF i hi hSi b qb))
  have elow := low_or (pp.lt16 hn) (pq.lt16 hn) pp.ne hl
  have cin : ∀ i, i < n → p.testBit i = true ∨ q.testBit i = true → comp F' n i = p ||| q := fun i hi hor => (un.comp hF' (by rw [Nat.testBit_or, Bool.or_eq_true]; exact hor)).symm
  have lq := pq.low hn
  have lp := pp.low hn
  refine cn_one (r := low q) (pq.low_lt hn) ?_ ?_ fun i hi hne => ?_
  · exact (root_low hF hn pq).1
  · simp only [root, decide_eq_false_iff_not]
    rw [cin _ (pq.low_lt hn) (.inr lq), elow]
    omega
  · by_cases h1 : p.testBit i = true
    · simp only [root]
      rw [cin i hi (.inl h1), elow, ← pp.comp hF h1]
    · by_cases h2 : q.testBit i = true
      · simp only [root]
        rw [cin i hi (.inr h2), elow, ← pq.comp hF h2, Bool.eq_iff_iff]
        simp only [decide_eq_true_eq]
        constructor
        · intro e; exact absurd e.symm hne
        · intro e; rw [e] at lp; exact (h1 lp).elim
      · have hp' : IsPart F n (comp F n i) := comp_part hF hi
        have n1 : (comp F n i).testBit a = false := by
          cases hx : (comp F n i).testBit a
          · rfl
          · have := comp_mem hF hi hx
            rw [hp] at this
            have hs := comp_self F n i
            rw [this] at hs
            exact absurd hs h1
        have n2 : (comp F n i).testBit b = false := by
          cases hx : (comp F n i).testBit b
          · rfl
          · have := comp_mem hF hi hx
            rw [hq] at this
            have hs := comp_self F n i
            rw [this] at hs
            exact absurd hs h2
        exact root_eq ((oth _ hp' n1 n2).comp hF' (comp_self F n i))
theorem adds_join {a b : Nat} (hn : n ≤ 16) (hF : Sym F n) (hF' : Sym F' n) (ha : a < n) (hb : b < n) (h : Adds F F' n a b) (hc : (comp F n a).testBit b = false) : cn (root F n) n = cn (root F' n) n + 1 := by
  have pp := comp_part hF ha
  have pq := comp_part hF hb
  rcases Nat.lt_trichotomy (low (comp F n a)) (low (comp F n b)) with hl | hl | hl
  · exact adds_join' hn hF hF' ha hb h hc hl
  · have := pp.of_low pq hn hl
    rw [this, comp_self F n b] at hc
    cases hc
  · refine adds_join' hn hF hF' hb ha h.turn ?_ hl
    cases hx : (comp F n b).testBit a
    · rfl
    · have := comp_mem hF hb hx
      rw [← this, comp_self F n b] at hc
      cases hc

/-! ### the graph of a list of edges -/
theorem lk_bits (i j : Nat) (F : Nat → Nat) (a b : Nat) : (lk i j F a).testBit b = true ↔ (F a).testBit b = true ∨ (a = i ∧ b = j) ∨ (a = j ∧ b = i) := by
  have tb : ∀ x y : Nat, (2 ^ x).testBit y = true ↔ x = y := fun x y => by rw [Nat.testBit_two_pow]; simp
  unfold lk
  by_cases h1 : a = j
  · by_cases h2 : j = i
    · rw [if_pos h1, if_pos h2, Nat.testBit_or, Nat.testBit_or, Bool.or_eq_true, Bool.or_eq_true, tb, tb]
      constructor
      · rintro ((h | h) | h)
        · exact .inl h
        · right; left; omega
        · right; left; omega
      · rintro (h | h | h)
        · exact .inl (.inl h)
        · right; omega
        · right; omega
    · rw [if_pos h1, if_neg h2, Nat.testBit_or, Bool.or_eq_true, tb]
      constructor
      · rintro (h | h)
        · exact .inl h
        · right; omega
      · rintro (h | h)
        · exact .inl h
        · right; omega
  · by_cases h2 : a = i
    · rw [if_neg h1, if_pos h2, Nat.testBit_or, Bool.or_eq_true, tb]
      constructor
      · rintro (h | h)
        · exact .inl h
        · right; omega
      · rintro (h | h)
        · exact .inl h
        · right; omega
    · rw [if_neg h1, if_neg h2]
      constructor
      · intro h; exact .inl h
      · rintro (h | h)
        · exact h
        · omega
def gl : List (Nat × Nat) → Nat → Nat
  | [] => fun _ => 0
  | e :: L => lk e.1 e.2 (gl L)
theorem gl_bits (i j : Nat) : ∀ L, (gl L i).testBit j = true ↔ ∃ e ∈ L, (i = e.1 ∧ j = e.2) ∨ (i = e.2 ∧ j = e.1)
  | [] => by simp [gl]
  | e :: L => by
    rw [gl, lk_bits, gl_bits i j L]
    simp only [List.mem_cons]
    constructor
    · rintro (⟨e', he, h⟩ | h)
      · exact ⟨e', .inr he, h⟩
      · exact ⟨e, .inl rfl, h⟩
    · rintro ⟨e', rfl | he, h⟩
      · exact .inr h
      · exact .inl ⟨e', he, h⟩
def InL (n : Nat) (L : List (Nat × Nat)) : Prop := ∀ e ∈ L, e.1 < n ∧ e.2 < n
theorem gl_sym {L : List (Nat × Nat)} (h : InL n L) : Sym (gl L) n := by
  constructor
  · intro i hi j hb
    obtain ⟨e, he, hx⟩ := (gl_bits i j L).1 hb
    have := h e he
    rcases hx with hx | hx <;> omega
  · intro i j hi hj hb
    obtain ⟨e, he, hx⟩ := (gl_bits i j L).1 hb
    exact (gl_bits j i L).2 ⟨e, he, hx.elim (fun h => .inr ⟨h.2, h.1⟩) (fun h => .inl ⟨h.2, h.1⟩)⟩
theorem InL.tail {e : Nat × Nat} {L : List (Nat × Nat)} (h : InL n (e :: L)) : InL n L := fun x hx => h x (List.mem_cons_of_mem _ hx)
theorem gl_adds (e : Nat × Nat) (L : List (Nat × Nat)) (n : Nat) : Adds (gl L) (gl (e :: L)) n e.1 e.2 := fun i j _ _ => by
  show (lk e.1 e.2 (gl L) i).testBit j = true ↔ _
  rw [lk_bits]
/-- Edges and parts are together at least as many as buttons. -/
theorem forest_le (hn : n ≤ 16) : ∀ L, InL n L → n ≤ L.length + cn (root (gl L) n) n
  | [], h => by
    rw [cn_all]
    · simp
    · intro i hi
      rw [root_iff (gl_sym h) hn hi]
      intro j hj
      cases hx : (comp (gl []) n i).testBit j
      · rfl
      · have := (comp_part (gl_sym h) hi).least (fun x => x = i) (fun a b _ _ hb _ => by simp [gl] at hb) i (comp_self _ n i) rfl j hx
        omega
  | e :: L, h => by
    have ih := forest_le hn L h.tail
    have he := h e (List.mem_cons_self ..)
    have hA := gl_adds e L n
    rw [List.length_cons]
    cases hc : (comp (gl L) n e.1).testBit e.2
    · have := adds_join hn (gl_sym h.tail) (gl_sym h) he.1 he.2 hA hc
      omega
    · have := adds_round (gl_sym h.tail) (gl_sym h) he.1 he.2 hA hc
      omega
theorem forest_more (hn : n ≤ 16) {e : Nat × Nat} {L : List (Nat × Nat)} (h : InL n (e :: L)) (hc : (comp (gl L) n e.1).testBit e.2 = true) : n + 1 ≤ (e :: L).length + cn (root (gl (e :: L)) n) n := by
  have ih := forest_le hn L h.tail
  have he := h e (List.mem_cons_self ..)
  rw [adds_round (gl_sym h.tail) (gl_sym h) he.1 he.2 (gl_adds e L n) hc, List.length_cons]
  omega
/-- The same edges, the same parts. -/
theorem part_bits (h : ∀ i j, i < n → j < n → (F i).testBit j = (F' i).testBit j) {p : Nat} (hp : IsPart F n p) : IsPart F' n p := by
  have hcl : ∀ S, Clo F n S ↔ Clo F' n S := fun S => ⟨fun hS i j hi hj hb => hS i j hi hj (by rw [h i j hi hj]; exact hb), fun hS i j hi hj hb => hS i j hi hj (by rw [← h i j hi hj]; exact hb)⟩
  exact ⟨hp.any, hp.lt, (hcl _).1 hp.clo, fun S hS => hp.least S ((hcl S).2 hS)⟩
theorem comp_bits (hF : Sym F n) (hF' : Sym F' n) (h : ∀ i j, i < n → j < n → (F i).testBit j = (F' i).testBit j) {i : Nat} (hi : i < n) : comp F n i = comp F' n i :=
  (part_bits h (comp_part hF hi)).comp hF' (comp_self F n i)
theorem cn_bits (hF : Sym F n) (hF' : Sym F' n) (h : ∀ i j, i < n → j < n → (F i).testBit j = (F' i).testBit j) : cn (root F n) n = cn (root F' n) n :=
  cn_eq fun _ hi => root_eq (comp_bits hF hF' h hi)
end
end Go.Proofs.YtmcimfblhpflnaaDoor
namespace Go.Proofs.YtmcimfblhpflnaaDoor
/-- What the buttons below k of a set toggle. -/
def effN (T : Nat → Nat) (p : Nat) : Nat → Nat
  | 0 => 0
  | k + 1 => if p.testBit k then effN T p k ^^^ T k else effN T p k
theorem effN_xor (T : Nat → Nat) (p q k : Nat) : effN T (p ^^^ q) k = effN T p k ^^^ effN T q k := by
  induction k with
  | zero => simp [effN]
  | succ k ih =>
    simp only [effN, Nat.testBit_xor, ih]
    cases h1 : p.testBit k <;> cases h2 : q.testBit k
    · simp
    · simp [Nat.xor_assoc]
    · simp [Nat.xor_assoc, Nat.xor_comm (effN T q k)]
    · simp only [Bool.xor_self, Bool.false_eq_true, if_false, if_true]
      rw [Nat.xor_assoc, ← Nat.xor_assoc (T k), Nat.xor_comm (T k), Nat.xor_assoc (effN T q k), Nat.xor_self, Nat.xor_zero]
theorem effN_bit (T : Nat → Nat) (i k : Nat) : effN T (2 ^ i) k = if i < k then T i else 0 := by
  induction k with
  | zero => simp [effN]
  | succ k ih =>
    simp only [effN, Nat.testBit_two_pow, ih]
    by_cases h : i = k
    · subst h; simp
    · have h2 : (i < k + 1) ↔ i < k := by omega
      simp [h, h2]
theorem effN_lt {T : Nat → Nat} {n : Nat} (hT : ∀ i, i < n → T i < 2 ^ n) (p : Nat) : ∀ k, k ≤ n → effN T p k < 2 ^ n := by
  intro k
  induction k with
  | zero => intro _; exact Nat.two_pow_pos n
  | succ k ih =>
    intro hk
    simp only [effN]
    split
    · exact Nat.xor_lt_two_pow (ih (by omega)) (hT k (by omega))
    · exact ih (by omega)
/-- The lowest bit taken away. -/
theorem low_off {s i : Nat} (h : s.testBit i = true) (hl : ∀ j, j < i → s.testBit j = false) : s &&& (s - 1) = s ^^^ 2 ^ i := by
  have e : s = 2 ^ i * (s / 2 ^ i) := by
    have h0 : s % 2 ^ i = 0 := by
      apply Nat.eq_of_testBit_eq
      intro j
      rw [Nat.testBit_mod_two_pow]
      by_cases hj : j < i
      · simp [hj, hl j hj]
      · simp [hj]
    have := Nat.div_add_mod s (2 ^ i)
    omega
  have hodd : s / 2 ^ i % 2 = 1 := by rw [Nat.testBit_eq_decide_div_mod_eq, decide_eq_true_eq] at h; exact h
  obtain ⟨q, hq⟩ : ∃ q, s / 2 ^ i = 2 * q + 1 := ⟨s / 2 ^ i / 2, by omega⟩
  have hs : s = 2 ^ i * (2 * q) + 2 ^ i := by rw [e, hq, Nat.mul_add, Nat.mul_one]
  have hp := Nat.two_pow_pos i
  have hs1 : s - 1 = 2 ^ i * (2 * q) + (2 ^ i - 1) := by omega
  apply Nat.eq_of_testBit_eq
  intro j
  rw [Nat.testBit_and, Nat.testBit_xor, Nat.testBit_two_pow]
  rcases Nat.lt_trichotomy j i with hj | hj | hj
  · simp [hl j hj, show ¬ i = j by omega]
  · subst hj
    have : (s - 1).testBit j = false := by
      rw [hs1, Nat.testBit_two_pow_mul_add _ (by omega)]
      simp
    simp [h, this]
  · have h1 : (s - 1).testBit j = s.testBit j := by
      rw [hs1]
      have h2 : s = 2 ^ i * (2 * q + 1) + 0 := by rw [hs]; rw [Nat.mul_add]; omega
      rw [h2, Nat.testBit_two_pow_mul_add _ (by omega), Nat.testBit_two_pow_mul_add _ (by omega)]
      simp only [show ¬ j < i by omega, if_false]
      obtain ⟨d, hd⟩ : ∃ d, j - i = d + 1 := ⟨j - i - 1, by omega⟩
      rw [hd, Nat.testBit_succ, Nat.testBit_succ]
      congr 1
      omega
    rw [h1]; simp [show ¬ i = j by omega]
theorem ctz_low {x : Nat} (h0 : x ≠ 0) (h : x < 2 ^ 64) : x.testBit (Lib.ctz 64 x) = true ∧ (∀ j, j < Lib.ctz 64 x → x.testBit j = false) := by
  obtain ⟨m, hm, hk⟩ := Lib.ctzFrom_spec 64 x (by omega) h
  have e : Lib.ctz 64 x = Lib.ctzFrom 64 x := by simp [Lib.ctz, h0]
  rw [e]
  generalize Lib.ctzFrom 64 x = i at hm
  subst hm
  refine ⟨?_, fun j hj => ?_⟩
  · rw [Nat.testBit_two_pow_mul]; simp
  · rw [Nat.testBit_two_pow_mul]; simp; omega
/-- The lights while the buttons of r are still to be pressed. -/
def curE (T : Nat → Nat) (n s p r : Nat) : Nat := s ^^^ (effN T p n ^^^ effN T r n)
theorem effN_zero (T : Nat → Nat) (k : Nat) : effN T 0 k = 0 := by
  induction k with
  | zero => rfl
  | succ k ih => simp [effN, ih]
theorem curE_start (T : Nat → Nat) (n s p : Nat) : curE T n s p p = s := by simp [curE]
theorem curE_end (T : Nat → Nat) (n s p : Nat) : curE T n s p 0 = s ^^^ effN T p n := by simp [curE, effN_zero]
theorem curE_step {T : Nat → Nat} {n s p r i : Nat} (hi : i < n) (hb : r.testBit i = true) (hl : ∀ j, j < i → r.testBit j = false) : curE T n s p (r &&& (r - 1)) = curE T n s p r ^^^ T i := by
  rw [low_off hb hl]
  unfold curE
  rw [effN_xor, effN_bit, if_pos hi]
  simp only [Nat.xor_assoc]
theorem low_lt {r i : Nat} (hb : r.testBit i = true) (hl : ∀ j, j < i → r.testBit j = false) : r &&& (r - 1) < r := by
  have h0 : r ≠ 0 := by rintro rfl; simp at hb
  have h1 : r &&& (r - 1) ≤ r - 1 := Nat.and_le_right
  omega
theorem bit_lt {r i n : Nat} (hb : r.testBit i = true) (hr : r < 2 ^ n) : i < n := by
  rcases Nat.lt_or_ge i n with h | h
  · exact h
  · rw [Nat.testBit_lt_two_pow (Nat.lt_of_lt_of_le hr (Nat.pow_le_pow_right (by decide) h))] at hb; cases hb
end Go.Proofs.YtmcimfblhpflnaaDoor
/-
Slices that a call builds by append, told by a function of the index. Nothing here speaks of the program.
-/
namespace Go.Proofs.YtmcimfblhpflnaaDoor
open Go.RowKit
/-- The list of the first n. -/
def rowL (n : Nat) (f : Nat → Value) : List Value := (List.range n).map f
theorem rowL_succ (n : Nat) (f : Nat → Value) : rowL (n + 1) f = rowL n f ++ [f n] := by simp [rowL, List.range_succ]
theorem rowL_zero (f : Nat → Value) : rowL 0 f = [] := rfl
theorem rowL_get (n : Nat) (f : Nat → Value) (k : Nat) (hk : k < n) : (rowL n f)[k]? = some (f k) := by simp [rowL, hk]
theorem rowL_length (n : Nat) (f : Nat → Value) : (rowL n f).length = n := by simp [rowL]
theorem own_form {w : World} {base : Nat} {e : TypeId} {v : Value} {n : Nat} {xs : List Value} (h : w.ownsRow base e 1 v n xs) : ∃ A c, v = .slice A n c := by
  rcases h.2 with ⟨rfl, rfl⟩ | ⟨g, cap, cur, rfl, _⟩
  · exact ⟨_, _, rfl⟩
  · exact ⟨_, _, rfl⟩
theorem own_pos {w : World} {base : Nat} {e : TypeId} {v : Value} {n : Nat} {f : Nat → Value} (h : w.ownsRow base e 1 v n (rowL n f)) (hn : 0 < n) :
    ∃ g c, v = .slice (some ⟨g, 0, none⟩) n c ∧ base ≤ g ∧ Arr w e g n f := by
  rcases h.2 with ⟨_, rfl⟩ | ⟨g, cap, cur, rfl, hb, hh, hc, _, hs, ht⟩
  · omega
  · refine ⟨g, cap, rfl, hb, cur, hh, by omega, fun k hk => ?_⟩
    have := rowL_get n f k hk
    rw [← ht, List.getElem?_take] at this
    rw [if_pos (by omega)] at this
    simpa using this
theorem own_src {w : World} {base : Nat} {e : TypeId} {A : Option Addr} {n c : Nat} {f : Nat → Value} (h : w.ownsRow base e 1 (.slice A n c) n (rowL n f)) : Src w A n f := by
  intro k hk
  obtain ⟨g, c', hv, hb, ha⟩ := own_pos h (by omega)
  injection hv with hA
  subst hA
  exact Src.of_arr ha k hk
theorem own_below {w w' : World} {base : Nat} {e : TypeId} {v : Value} {n : Nat} {xs : List Value} (h : w.ownsRow base e 1 v n xs) (hb : Below w.heap.size w w') : w'.ownsRow base e 1 v n xs :=
  h.kept (row := none) ⟨hb.os, hb.tape, hb.output, hb.size, fun k hk _ => hb.block k hk⟩ (by cases hv : v.ownBlock <;> simp)
theorem own_setCell {w : World} {base : Nat} {e : TypeId} {v : Value} {n : Nat} {xs : List Value} (h : w.ownsRow base e 1 v n xs) {p : Addr} (hp : v.ownBlock ≠ some p.block) (u : Value) : (w.setCell p u).ownsRow base e 1 v n xs :=
  h.kept (row := some p.block) ⟨rfl, rfl, rfl, by simp [World.setCell], fun k hk hne => Below.heap_setCell w p u k (by intro e; exact hne (by rw [e]))⟩ (by right; exact hp)
theorem Arr.own_grown {w w' : World} {base : Nat} {e : TypeId} {v : Value} {n : Nat} {xs : List Value} {t : TypeId} {g m : Nat} {f : Nat → Value} (h : Arr w t g m f) (ho : w.ownsRow base e 1 v n xs) (hg : w.grownBy w' v.ownBlock) (hlt : g < base) : Arr w' t g m f :=
  h.of_block (hg.block g h.lt (by intro e; have := (ho.lt g e.symm).1; omega))
theorem Below.own_grown {B : Nat} {a w w' : World} {base : Nat} {e : TypeId} {v : Value} {n : Nat} {xs : List Value} (h : Below B a w) (ho : w.ownsRow base e 1 v n xs) (hg : w.grownBy w' v.ownBlock) (hB : B ≤ base) (hz : B ≤ w.heap.size) : Below B a w' :=
  h.grown hg hz (fun k hk => by have := (ho.lt k hk).1; omega)
/-- 'out = append(out, x)', out a row of the call's own: one step of a region that draws its order. -/
theorem step_append_one {P : Program} {ops : Array Oper} {o : Oper} {a : Act} {w : World} {K : Act → World → Prop} {Q : Exit → Act → World → Prop} {E : Prop}
    (hgd : o.guard = none) (s x : Operand) (t : TypeId) (ho : o.op = Op.call { callee := Callee.builtin Builtin.append, args := #[s, x], argTypes := #[t, t] })
    (base : Nat) (e : TypeId) (i : TypeInfo) (z : Value) (bytes : Nat) (ht : P.underlying t = some (.slice e)) (hi : P.info? e = some i) (hz : i.zero = some z)
    (hsize : i.size = 1) (hby : i.bytes = bytes) (hzs : z.cells.size = 1)
    (A : Option Addr) (n cp : Nat) (f : Nat → Value) (hs : a.eval s = .slice A n cp) (hown : w.ownsRow base e 1 (.slice A n cp) n (rowL n f))
    (g c : Nat) (hx : a.eval x = .slice (some ⟨g, 0, none⟩) 1 c) (hnew : w.cell? ⟨g, 0, none⟩ = some (f n)) (h1 : (f n).oneCell' = true)
    (h63 : n + 1 ≤ 1048577) (hbytes : bytes ≤ 64) (hbase : base ≤ w.heap.size)
    (h : ∀ A' cp' w', w'.ownsRow base e 1 (.slice A' (n + 1) cp') (n + 1) (rowL (n + 1) f) → w.grownBy w' (Value.slice A n cp).ownBlock → ((Value.slice A' (n + 1) cp').ownBlock = (Value.slice A n cp).ownBlock ∨ (Value.slice A' (n + 1) cp').ownBlock = some w.heap.size) → K (a.put o.dst (.slice A' (n + 1) cp')) w') :
    if Region.wanted o (yielded ops a.tmps) = true then Oper.wp P o a w K Q else E := by
  have hw : Region.wanted o (yielded ops a.tmps) = true := by simp [Region.wanted, hgd]
  rw [if_pos hw]
  obtain ⟨v', w', hrun, h2, h3, _, h5⟩ := run_append_own_at (P := P) w base t o.type e i z 1 bytes ht hi hz hsize hby hzs (by omega) _ n (rowL n f) hown ⟨g, 0, none⟩ 1 c [f n] rfl
    (fun j u hu => by
      match j, hu with
      | 0, hu => simp at hu; subst hu; simpa [Addr.add] using hnew)
    (by simpa using h1) (by simp only [maxLen]; omega) (by
      have : (n + 1) * bytes ≤ 1048577 * 64 := Nat.mul_le_mul h63 hbytes
      omega) hbase
  rw [← rowL_succ] at h2
  obtain ⟨A', cp', rfl⟩ := own_form h2
  unfold Oper.wp execOp
  simp only [ho, resolve, invoke, builtin, Sem.run_bind, Sem.run_pure, Result.andThen_ok, List.map_toArray, List.map_cons, List.map_nil, hs, hx, hrun]
  exact h A' cp' w' h2 h3 h5
end Go.Proofs.YtmcimfblhpflnaaDoor
/-
The builtins append and copy over slices told by a function of the index. Nothing here speaks of the program.
-/
namespace Go.Proofs.YtmcimfblhpflnaaDoor
open Go.RowKit
/-- copy of a whole slice into the head of a block. -/
theorem wpList_copy_arr {P : Program} {w : World} {ops : Array Oper} {rest : List Oper} {o : Oper} {a : Act} {Q : Exit → Act → World → Prop} (hgd : o.guard = none) (d s : Operand) (dT : TypeId)
    (ho : o.op = .call { callee := .builtin .copy, args := #[d, s], argTypes := #[dT, dT] }) (e : TypeId) (hu : P.underlying dT = some (.slice e)) (hsz : (P.info? e).map (·.size) = some 1)
    (g n dc m sc : Nat) (A : Option Addr) (f f0 : Nat → Value) (hd : a.eval d = .slice (some ⟨g, 0, none⟩) n dc) (hs : a.eval s = .slice A m sc) (hmn : m ≤ n)
    (ha : Arr w e g n f0) (hsrc : Src w A m f) (h1 : ∀ k, k < m → (f k).oneCell' = true)
    (hK : ∀ w', Arr w' e g n (fun k => if k < m then f k else f0 k) → w.grownBy w' (some g) → wpList P ops Q rest (a.put o.dst (goInt m)) w') : wpList P ops Q (o :: rest) a w := by
  obtain ⟨cur, hb, hn, hc⟩ := ha
  rcases Nat.eq_zero_or_pos m with h0 | h0
  · subst h0
    refine wpList_copy_nothing hgd d s dT dT ho e hu hsz _ _ n dc 0 sc hd hs (by simp) ?_
    exact hK w ⟨cur, hb, hn, fun k hk => by simpa using hc k hk⟩ (World.grownBy.refl _ _)
  · obtain ⟨b, off, rfl, _, _⟩ := hsrc 0 h0
    have hl := rowL_length m f
    refine wpList_copy_own hgd d s dT dT ho e hu hsz g 0 n dc ⟨b, off, none⟩ m sc hd hs cur e hb (rowL m f) (by rw [hl]; exact (Nat.min_eq_left hmn).symm)
      (fun j v hj => ?_) (by rw [hl]; omega) (fun v hv => ?_) ?_
    · have hjm : j < m := by
        rcases Nat.lt_or_ge j m with h | h
        · exact h
        · rw [List.getElem?_eq_none (by rw [hl]; exact h)] at hj; cases hj
      rw [rowL_get m f j hjm] at hj
      obtain ⟨b', off', e1, _, hcell⟩ := hsrc j hjm
      injection e1 with e1
      injection e1 with e2 e3
      subst e2 e3
      rw [Go.WideShapes.add_plain, hcell]; exact hj
    · simp only [rowL, List.mem_map, List.mem_range] at hv
      obtain ⟨k, hk, rfl⟩ := hv
      exact h1 k hk
    · rw [hl]
      refine hK _ ⟨_, setRow_heap w g _ _ e _ hb, ?_, fun k hk => ?_⟩ ⟨rfl, rfl, rfl, by simp [World.setRow], fun k hk hne => setRow_other w g k _ (by intro e; exact hne (by rw [e]))⟩
      · simp [rowL_length]; omega
      · simp only [List.getElem?_toArray, Nat.zero_add, List.take_zero, List.nil_append]
        by_cases hkm : k < m
        · rw [if_pos hkm, List.getElem?_append_left (by rw [hl]; exact hkm), rowL_get m f k hkm]
        · rw [if_neg hkm, List.getElem?_append_right (by rw [hl]; omega), hl, List.getElem?_drop]
          have := hc k hk
          rw [show m + (k - m) = k by omega]
          simpa using this
/-- 'append([]T{}, l...)': a new slice with l's contents. -/
theorem wpList_append_new {P : Program} {w : World} {ops : Array Oper} {rest : List Oper} {o : Oper} {a : Act} {Q : Exit → Act → World → Prop} (hgd : o.guard = none) (s x : Operand) (t : TypeId)
    (ho : o.op = .call { callee := .builtin .append, args := #[s, x], argTypes := #[t, t] })
    (base : Nat) (e : TypeId) (i : TypeInfo) (z : Value) (bytes : Nat) (ht : P.underlying t = some (.slice e)) (hi : P.info? e = some i) (hz : i.zero = some z)
    (hsize : i.size = 1) (hby : i.bytes = bytes) (hzs : z.cells.size = 1)
    (v : Value) (hs : a.eval s = v) (hown : w.ownsRow base e 1 v 0 [])
    (A : Option Addr) (m c : Nat) (f : Nat → Value) (hx : a.eval x = .slice A m c) (hm : 0 < m) (hsrc : Src w A m f) (h1 : ∀ k, k < m → (f k).oneCell' = true)
    (h63 : m ≤ 1048577) (hbytes : bytes ≤ 64) (hbase : base ≤ w.heap.size)
    (h : ∀ g c' w', base ≤ g → Arr w' e g m f → w.grownBy w' v.ownBlock → wpList P ops Q rest (a.put o.dst (.slice (some ⟨g, 0, none⟩) m c')) w') : wpList P ops Q (o :: rest) a w := by
  obtain ⟨b, off, rfl, _, _⟩ := hsrc 0 hm
  have hl := rowL_length m f
  refine wpList_append_own_at w hgd s x t ho base e i z 1 bytes ht hi hz hsize hby hzs (by omega) v 0 [] hs hown ⟨b, off, none⟩ m c (rowL m f) hx (by rw [hl]; omega) (fun j u hj => ?_) (fun u hu => ?_) (by simp only [maxLen]; omega) (by
      have : (0 + m) * bytes ≤ 1048577 * 64 := Nat.mul_le_mul (by omega) hbytes
      omega) hbase ?_
  · have hjm : j < m := by
      rcases Nat.lt_or_ge j m with h | h
      · exact h
      · rw [List.getElem?_eq_none (by rw [hl]; exact h)] at hj; cases hj
    rw [rowL_get m f j hjm] at hj
    obtain ⟨b', off', e1, _, hcell⟩ := hsrc j hjm
    injection e1 with e1
    injection e1 with e2 e3
    subst e2 e3
    rw [Go.WideShapes.add_plain, hcell]; exact hj
  · simp only [rowL, List.mem_map, List.mem_range] at hu
    obtain ⟨k, hk, rfl⟩ := hu
    exact h1 k hk
  · intro v' w' ho' hg' _ _
    rw [Nat.zero_add, List.nil_append] at ho'
    obtain ⟨g, c', rfl, hb, ha⟩ := own_pos ho' hm
    exact h g c' w' hb ha hg'
end Go.Proofs.YtmcimfblhpflnaaDoor
/-
A map that keeps each part under its least button: what it holds key by key, while parts are joined in whatever order they come.
-/
namespace Go.Proofs.YtmcimfblhpflnaaDoor
open Go.Maps Go.WideShapes
section
variable {H : Type} {F : Nat → Nat} {k n p : Nat} {D D0 : DataW H} {left : Lit → Bool} {J : Nat}
/-- The key of a part. -/
def ky (i : Nat) : Lit := .int .i64 (i : Int)
theorem ky_key (i : Nat) : WideAt.IsKeyLit (ky i) := trivial
theorem ky_ne {i j : Nat} (h : i ≠ j) : ky i ≠ ky j := by
  intro e; injection e with _ e; omega
theorem ky_inj {i j : Nat} (h : ky i = ky j) : i = j := by
  injection h with _ e; omega
def pt (p : Nat) : DataW H := .lit (.int .i64 (p : Int))
/-- D keeps the parts of the first k buttons. -/
structure PM (F : Nat → Nat) (k : Nat) (D : DataW H) : Prop where
  of : ∀ l, has D l = true → ∃ p, IsPart F k p ∧ l = ky (low p) ∧ ∀ zd, D.atKey l zd = pt p
  to : ∀ p, IsPart F k p → has D (ky (low p)) = true
theorem PM.at (h : PM F k D) (hk : k ≤ 16) (hp : IsPart F k p) (zd : DataW H) : D.atKey (ky (low p)) zd = pt p := by
  obtain ⟨q, hq, e, hat⟩ := h.of _ (h.to p hp)
  have := hp.of_low hq hk (ky_inj e)
  subst this
  exact hat zd
theorem pm_zero (F : Nat → Nat) : PM F 0 (.map [] : DataW H) := ⟨fun l h => by simp [has] at h, fun p hp => (no_part hp).elim⟩
/-- Some of the parts have come; those that k has neighbours in are struck and joined. -/
structure JN (F : Nat → Nat) (k : Nat) (D0 D : DataW H) (left : Lit → Bool) (J : Nat) : Prop where
  old : ∀ l, has D l = true → has D0 l = true ∧ ∀ zd, D.atKey l zd = D0.atKey l zd
  own : ∀ p, IsPart F k p → (has D (ky (low p)) = true ↔ left (ky (low p)) = true ∨ ¬ Meets F k p)
  bits : ∀ j, J.testBit j = true ↔ j = k ∨ ∃ p, IsPart F k p ∧ Meets F k p ∧ left (ky (low p)) = false ∧ p.testBit j = true
theorem jn_start (h : PM F k D0) : JN F k D0 D0 (has D0) (2 ^ k) := by
  refine ⟨fun l hl => ⟨hl, fun _ => rfl⟩, fun p hp => ?_, fun j => ?_⟩
  · rw [h.to p hp]; simp
  · rw [Nat.testBit_two_pow]
    simp only [decide_eq_true_eq]
    constructor
    · rintro rfl; exact .inl rfl
    · rintro (rfl | ⟨p, hp, _, hl, _⟩)
      · rfl
      · rw [h.to p hp] at hl; cases hl
theorem jn_lt (hk : k < 16) (h : JN F k D0 D left J) : J < 65536 := by
  have : J < 2 ^ 16 := Nat.lt_pow_two_of_testBit _ fun j hj => by
    cases hb : J.testBit j
    · rfl
    · rcases (h.bits j).1 hb with rfl | ⟨p, hp, _, _, hj'⟩
      · omega
      · have := hp.lt j hj'; omega
  exact this
/-- An entry that has come is a part. -/
theorem jn_entry (hk : k ≤ 16) (h0 : PM F k D0) (h : JN F k D0 D left J) {x c : Int} (hat : ∀ zd, D.atKey (.int .i64 x) zd = .lit (.int .i64 c)) : ∃ p, IsPart F k p ∧ x = (low p : Nat) ∧ c = (p : Nat) := by
  have h1 := has_true_of_atKey hat
  obtain ⟨h2, h3⟩ := h.old _ h1
  obtain ⟨p, hp, e, h4⟩ := h0.of _ h2
  refine ⟨p, hp, ?_, ?_⟩
  · injection e with _ e
  · have h5 := (hat .nil).symm.trans ((h3 .nil).trans (h4 .nil))
    simp only [pt, DataW.lit.injEq, Lit.int.injEq, true_and] at h5
    exact h5
theorem same_ky (i j : Nat) : (ky i).sameKey (ky j) = decide (i = j) := by
  simp only [ky, Lit.sameKey, true_and, decide_eq_decide]; omega
theorem jn_meet (hk : k ≤ 16) (h : JN F k D0 D left J) (hp : IsPart F k p) (hm : Meets F k p) : JN F k D0 (D.del (ky (low p))) (fun z => left z && !z.sameKey (ky (low p))) (J ||| p) := by
  refine ⟨fun l hl => ?_, fun q hq => ?_, fun j => ?_⟩
  · have hne : l ≠ ky (low p) := by rintro rfl; rw [has_del_same] at hl; cases hl
    rw [has_del_other hne] at hl
    exact ⟨(h.old l hl).1, fun zd => by rw [atKey_del_other hne, (h.old l hl).2]⟩
  · simp only [same_ky]
    by_cases e : low q = low p
    · have := hq.of_low hp hk e
      subst this
      rw [has_del_same]; simp [hm]
    · rw [has_del_other (ky_ne e), h.own q hq]; simp [e]
  · rw [Nat.testBit_or, Bool.or_eq_true, h.bits j]
    simp only [same_ky]
    constructor
    · rintro ((e | ⟨q, hq, hmq, hl, hj⟩) | hj)
      · exact .inl e
      · exact .inr ⟨q, hq, hmq, by simp [hl], hj⟩
      · exact .inr ⟨p, hp, hm, by simp, hj⟩
    · rintro (e | ⟨q, hq, hmq, hl, hj⟩)
      · exact .inl (.inl e)
      · by_cases e : low q = low p
        · have := hq.of_low hp hk e
          subst this
          exact .inr hj
        · exact .inl (.inr ⟨q, hq, hmq, by simpa [e] using hl, hj⟩)
theorem jn_miss (hk : k ≤ 16) (h : JN F k D0 D left J) (hp : IsPart F k p) (hm : ¬ Meets F k p) : JN F k D0 D (fun z => left z && !z.sameKey (ky (low p))) J := by
  refine ⟨h.old, fun q hq => ?_, fun j => ?_⟩
  · simp only [same_ky]
    by_cases e : low q = low p
    · have := hq.of_low hp hk e
      subst this
      have := (h.own q hq).2 (.inr hm)
      rw [this]; simp [hm]
    · rw [h.own q hq]; simp [e]
  · rw [h.bits j]
    simp only [same_ky]
    constructor
    · rintro (e | ⟨q, hq, hmq, hl, hj⟩)
      · exact .inl e
      · exact .inr ⟨q, hq, hmq, by simp [hl], hj⟩
    · rintro (e | ⟨q, hq, hmq, hl, hj⟩)
      · exact .inl e
      · have e : low q ≠ low p := by
          intro e
          have := hq.of_low hp hk e
          subst this
          exact hm hmq
        exact .inr ⟨q, hq, hmq, by simpa [e] using hl, hj⟩
theorem jn_joined (h : JN F k D0 D left J) (hl : ∀ z, left z = false) : Joined F k J := by
  intro j
  rw [h.bits j]
  constructor
  · rintro (e | ⟨p, hp, hm, _, hj⟩)
    · exact .inl e
    · exact .inr ⟨p, hp, hm, hj⟩
  · rintro (e | ⟨p, hp, hm, hj⟩)
    · exact .inl e
    · exact .inr ⟨p, hp, hm, hl _, hj⟩
/-- All have come: with the joined part the map keeps the parts of one button more. -/
theorem jn_end (hk : k < 16) (hF : Both F (k + 1)) (hc : Cov F k) (h0 : PM F k D0) (h : JN F k D0 D left J) (hl : ∀ z, left z = false) (hm : IsMap D) : PM F (k + 1) (D.put (ky (low J)) (pt J)) := by
  have hJ := jn_joined h hl
  constructor
  · intro l hl'
    by_cases e : l = ky (low J)
    · exact ⟨J, part_join hF hc hJ, e, fun zd => by rw [e, atKey_put_same hm (ky_key _)]⟩
    · rw [has_put_other e] at hl'
      obtain ⟨h1, h2⟩ := h.old l hl'
      obtain ⟨p, hp, rfl, h3⟩ := h0.of l h1
      have h4 := (h.own p hp).1 hl'
      rw [hl] at h4
      have hmt : ¬ Meets F k p := by simpa using h4
      exact ⟨p, part_stay hF hp hmt, rfl, fun zd => by rw [atKey_put_other e, h2, h3]⟩
  · intro q hq
    rcases part_split hF hc hJ hq with rfl | ⟨hq', hmq⟩
    · exact has_put_same hm (ky_key _) _
    · have hne := low_ne hF hc hJ hk hq' hmq
      rw [has_put_other (ky_ne hne)]
      exact (h.own q hq').2 (.inr hmq)
/-! ### how many there are, and which -/
def ents (F : Nat → Nat) (n : Nat) : List (Lit × DataW H) := (roots F n n).map fun i => (ky i, pt (comp F n i))
theorem ents_mem {l : Lit} {d : DataW H} : (l, d) ∈ (ents F n : List (Lit × DataW H)) ↔ ∃ i, i < n ∧ root F n i = true ∧ l = ky i ∧ d = pt (comp F n i) := by
  simp only [ents, List.mem_map, roots_mem, Prod.mk.injEq]
  constructor
  · rintro ⟨i, ⟨h1, h2⟩, rfl, rfl⟩; exact ⟨i, h1, h2, rfl, rfl⟩
  · rintro ⟨i, h1, h2, rfl, rfl⟩; exact ⟨i, ⟨h1, h2⟩, rfl, rfl⟩
theorem ents_rising (F : Nat → Nat) (n : Nat) : (ents F n : List (Lit × DataW H)).Pairwise (fun p q => p.1.before q.1 = true) := by
  unfold ents roots
  rw [List.pairwise_map]
  refine List.Pairwise.filter _ ?_
  refine (List.pairwise_lt_range).imp ?_
  intro a b hab
  simp only [ky, Lit.before, decide_eq_true_eq]
  omega
theorem pm_all (hF : Sym F n) (hn : n ≤ 16) (hc : Canon D) (h : PM F n D) : D = .map (ents F n) := by
  have hr := ents_rising (H := H) F n
  have hap := apart_of_rising hr
  refine Maps.ext hc ⟨_, rfl, hr, fun p hp => ?_⟩ (fun k => ?_) fun k z hk => ?_
  · obtain ⟨l, d⟩ := p
    obtain ⟨i, _, _, rfl, _⟩ := ents_mem.1 hp
    trivial
  · rw [Bool.eq_iff_iff]
    constructor
    · intro hk
      obtain ⟨p, hp, rfl, _⟩ := h.of k hk
      have hr := root_low hF hn hp
      have hm : (ky (low p), pt (comp F n (low p))) ∈ (ents F n : List (Lit × DataW H)) := ents_mem.2 ⟨low p, hp.low_lt hn, hr.1, rfl, rfl⟩
      exact has_true_of_atKey fun z => WideAt.atKey_mem z (ky_key _) hap hm
    · intro hk
      obtain ⟨q, hq, hs⟩ := List.any_eq_true.1 hk
      obtain ⟨l, d⟩ := q
      obtain ⟨i, hi, hri, rfl, _⟩ := ents_mem.1 hq
      have := WideAt.sameKey_eq hs
      subst this
      have hp := comp_part hF hi
      simp only [root, decide_eq_true_eq] at hri
      have := h.to _ hp
      rw [hri] at this
      exact this
  · obtain ⟨p, hp, rfl, hat⟩ := h.of k hk
    have hr := root_low hF hn hp
    have hm : (ky (low p), pt (comp F n (low p))) ∈ (ents F n : List (Lit × DataW H)) := ents_mem.2 ⟨low p, hp.low_lt hn, hr.1, rfl, rfl⟩
    rw [hat, WideAt.atKey_mem z (ky_key _) hap hm, hr.2]
theorem pm_size (hF : Sym F n) (hn : n ≤ 16) (hc : Canon D) (h : PM F n D) : size D = (roots F n n).length := by
  rw [pm_all hF hn hc h]
  simp [size, ents]
theorem pm_has (hF : Sym F n) (hn : n ≤ 16) (h : PM F n D) {i : Nat} (hi : i < n) : has D (ky i) = root F n i := by
  rw [Bool.eq_iff_iff]
  constructor
  · intro hk
    obtain ⟨p, hp, e, _⟩ := h.of _ hk
    rw [ky_inj e]
    exact (root_low hF hn hp).1
  · intro hr
    have := h.to _ (comp_part hF hi)
    simp only [root, decide_eq_true_eq] at hr
    rw [hr] at this
    exact this
theorem pm_at (hF : Sym F n) (hn : n ≤ 16) (h : PM F n D) {i : Nat} (hi : i < n) (hr : root F n i = true) (zd : DataW H) : D.atKey (ky i) zd = pt (comp F n i) := by
  have := h.at hn (comp_part hF hi) zd
  simp only [root, decide_eq_true_eq] at hr
  rwa [hr] at this
end
end Go.Proofs.YtmcimfblhpflnaaDoor
