import Derived.Test.YtodbhokokdckkaaOC
import Derived.Test.YtodbhokokdckkaaW1
import Derived.Test.YtodbhokokdckkaaWO
namespace Go.Proofs.Ytodbhokokdckkaa
open Go.RowKit
set_option maxHeartbeats 400000
/-- 'out = append(out, x)', out a row of the call's own. -/
theorem wpList_append_one {P : Program} {w : World} {ops : Array Oper} {rest : List Oper} {o : Oper} {a : Act} {Q : Exit → Act → World → Prop} (hgd : o.guard = none) (s x : Operand) (t : TypeId)
    (ho : o.op = .call { callee := .builtin .append, args := #[s, x], argTypes := #[t, t] })
    (base : Nat) (e : TypeId) (i : TypeInfo) (z : Value) (bytes : Nat) (ht : P.underlying t = some (.slice e)) (hi : P.info? e = some i) (hz : i.zero = some z)
    (hsize : i.size = 1) (hby : i.bytes = bytes) (hzs : z.cells.size = 1)
    (A : Option Addr) (n cp : Nat) (f : Nat → Value) (hs : a.eval s = .slice A n cp) (hown : w.ownsRow base e 1 (.slice A n cp) n (rowL n f))
    (g c : Nat) (hx : a.eval x = .slice (some ⟨g, 0, none⟩) 1 c) (hnew : w.cell? ⟨g, 0, none⟩ = some (f n)) (h1 : (f n).oneCell' = true)
    (h63 : n + 1 ≤ 1048577) (hbytes : bytes ≤ 64) (hbase : base ≤ w.heap.size)
    (h : ∀ A' cp' w', w'.ownsRow base e 1 (.slice A' (n + 1) cp') (n + 1) (rowL (n + 1) f) → w.grownBy w' (Value.slice A n cp).ownBlock → wpList P ops Q rest (a.put o.dst (.slice A' (n + 1) cp')) w') : wpList P ops Q (o :: rest) a w :=
  wpList_append_own_at w hgd s x t ho base e i z 1 bytes ht hi hz hsize hby hzs (by omega) _ n (rowL n f) hs hown ⟨g, 0, none⟩ 1 c [f n] hx rfl
    (fun j u hu => by
      match j, hu with
      | 0, hu => simp at hu; subst hu; simpa [Addr.add] using hnew)
    (by simpa using h1) (by simp only [maxLen]; omega) (by
      have : (n + 1) * bytes ≤ 1048577 * 64 := Nat.mul_le_mul h63 hbytes
      omega) hbase (fun v' w' h2 h3 _ _ => by
        rw [← rowL_succ] at h2
        obtain ⟨A', cp', rfl⟩ := own_form h2
        exact h A' cp' w' h2 h3)
/-- What a call that hands back a new slice and 'true' leaves. -/
def SliceOk (w : World) (n : Nat) (f : Nat → Int) (e : Ending) (w' : World) : Prop :=
  ∃ g c, e = .returned (.tuple #[.slice (some ⟨g, 0, none⟩) n c, .bool true]) ∧ w.heap.size ≤ g ∧ Arr w' 3 g n (iv f) ∧ Below w.heap.size w w'
/-- .. that refuses. -/
def SliceNo (w : World) (e : Ending) (w' : World) : Prop := e = .returned (.tuple #[.slice none 0 0, .bool false]) ∧ Below w.heap.size w w'
theorem pop_zero (k : Nat) : popN k 0 = 0 := by
  induction k with
  | zero => rfl
  | succ k ih => simp [popN, ih]
theorem pop_le (k x : Nat) : popN k x ≤ k := by
  induction k generalizing x with
  | zero => simp [popN]
  | succ k ih => have := ih (x / 2); simp only [popN]; omega
theorem grCount_any (x : Nat) (w : World) (hx : x < 65536) : Calls Try.prog 94 #[.int .i64 x] w fun e w' => e = .returned (.int .i64 (popN 16 x : Nat)) ∧ w' = w := by
  go_enter Try.func94, Try.ntmps94
  go_wp2
  go_loop [0, 3] (fun s t => ∃ k y c : Nat, k ≤ 16 ∧ y < 2 ^ k ∧ s = .int .i64 y ∧ t = .int .i64 c ∧ c ≤ 16 ∧ c + k ≤ 16 ∧ Hid (c + popN k y = popN 16 x)) (fun s _ => (intOf s).toNat)
  case atStart => exact ⟨16, x, 0, by omega, hx, rfl, rfl, by omega, by omega, hide (by simp)⟩
  case round =>
    obtain ⟨k, y, c, hk, hy, rfl, rfl, hc, hck, HP⟩ := hrel
    have hy16 : y < 65536 := Nat.lt_of_lt_of_le hy (Nat.pow_le_pow_right (n := 2) (j := 16) (by decide) hk)
    by_cases hpos : 0 < y
    · have hk1 : 1 ≤ k := by
        rcases Nat.eq_zero_or_pos k with h | h
        · subst h; simp at hy; omega
        · exact h
      obtain ⟨q, hq⟩ : ∃ q, k = q + 1 := ⟨k - 1, by omega⟩
      have hy2 : y / 2 < 2 ^ q := by rw [hq, Nat.pow_succ] at hy; omega
      have HQ := hide hq
      have HY := hide hy
      have HY2 := hide hy2
      clear hq hy hy2
      go_wp2
      go_round
      case rel =>
        have hq := HQ.out
        refine ⟨q, y / 2, c + y % 2, by omega, HY2.out, by go_num, by go_num, by omega, by omega, hide ?_⟩
        rw [← HP.out, hq]
        simp only [popN]
        omega
      case measure => simp [intOf]; omega
    · have hy0 : y = 0 := by omega
      have HY := hide hy
      clear hy
      go_wp2
      go_ret
      refine ⟨?_, rfl⟩
      rw [← HP.out, hy0, pop_zero]
      rfl
/-- The numbers of neighbours. -/
def degF (F : Nat → Nat) : Nat → Int := fun k => (popN 16 (F k) : Nat)
end Go.Proofs.Ytodbhokokdckkaa
