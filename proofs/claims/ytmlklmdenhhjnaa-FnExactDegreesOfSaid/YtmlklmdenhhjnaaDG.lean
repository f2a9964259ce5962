import Derived.Test.YtmlklmdenhhjnaaOC
import Derived.Test.YtmlklmdenhhjnaaW1
import Derived.Test.YtmlklmdenhhjnaaWO
namespace Go.Proofs.Ytmlklmdenhhjnaa
open Go.RowKit
set_option maxHeartbeats 400000
/-- 'out = append(out, x)', out a row of the call's own. -/
theorem wpList_append_one {P : Program} {w : World} {ops : Array Oper} {rest : List Oper} {o : Oper} {a : Act} {Q : Exit → Act → World → Prop} (hgd : o.guard = none) (s x : Operand) (t : TypeId)
    (ho : o.op = .call { callee := .builtin .append, args := #[s, x], argTypes := #[t, t] })
    (base : Nat) (e : TypeId) (i : TypeInfo) (z : Value) (bytes : Nat) (ht : P.underlying t = some (.slice e)) (hi : P.info? e = some i) (hz : i.zero = some z)
    (hsize : i.size = 1) (hby : i.bytes = bytes) (hzs : z.cells.size = 1)
    (A : Option Addr) (n cp : Nat) (f : Nat → Value) (hs : a.eval s = .slice A n cp) (hown : w.ownsRow base e 1 (.slice A n cp) n (rowL n f))
    (g c : Nat) (hx : a.eval x = .slice (some ⟨g, 0, none⟩) 1 c) (hnew : w.cell? ⟨g, 0, none⟩ = some (f n)) (h1 : (f n).oneCell' = true)
    (h63 : n + 1 ≤ 1048577) (hbytes : bytes ≤ 64) (hbase : base ≤ w.heap.size)
    (h : ∀ A' cp' w', w'.ownsRow base e 1 (.slice A' (n + 1) cp') (n + 1) (rowL (n + 1) f) → w.grownBy w' (Value.slice A n cp).ownBlock → wpList P ops Q rest (a.put o.dst (.slice A' (n + 1) cp')) w') : wpList P ops Q (o :: rest) a w :=
  wpList_append_own_at w hgd s x t ho base e i z 1 bytes ht hi hz hsize hby hzs (by omega) _ n (rowL n f) hs hown ⟨g, 0, none⟩ 1 c [f n] hx rfl
    (fun j u hu => by
      match j, hu with
      | 0, hu => simp at hu; subst hu; simpa [Addr.add] using hnew)
    (by simpa using h1) (by simp only [maxLen]; omega) (by
      have : (n + 1) * bytes ≤ 1048577 * 64 := Nat.mul_le_mul h63 hbytes
      omega) hbase (fun v' w' h2 h3 _ _ => by
        rw [← rowL_succ] at h2
        obtain ⟨A', cp', rfl⟩ := own_form h2
        exact h A' cp' w' h2 h3)
/-- What a call that hands back a new slice and 'true' leaves. -/
def SliceOk (w : World) (n : Nat) (f : Nat → Int) (e : Ending) (w' : World) : Prop :=
  ∃ g c, e = .returned (.tuple #[.slice (some ⟨g, 0, none⟩) n c, .bool true]) ∧ w.heap.size ≤ g ∧ Arr w' 3 g n (iv f) ∧ Below w.heap.size w w'
/-- .. that refuses. -/
def SliceNo (w : World) (e : Ending) (w' : World) : Prop := e = .returned (.tuple #[.slice none 0 0, .bool false]) ∧ Below w.heap.size w w'
theorem pop_zero (k : Nat) : popN k 0 = 0 := by
  induction k with
  | zero => rfl
  | succ k ih => simp [popN, ih]
theorem pop_le (k x : Nat) : popN k x ≤ k := by
  induction k generalizing x with
  | zero => simp [popN]
  | succ k ih => have := ih (x / 2); simp only [popN]; omega
theorem grCount_any (x : Nat) (w : World) (hx : x < 65536) : Calls Try.prog 87 #[.int .i64 x] w fun e w' => e = .returned (.int .i64 (popN 16 x : Nat)) ∧ w' = w := by
  go_enter Try.func87, Try.ntmps87
  go_wp2
  go_loop [0, 3] (fun s t => ∃ k y c : Nat, k ≤ 16 ∧ y < 2 ^ k ∧ s = .int .i64 y ∧ t = .int .i64 c ∧ c ≤ 16 ∧ c + k ≤ 16 ∧ Hid (c + popN k y = popN 16 x)) (fun s _ => (intOf s).toNat)
  case atStart => exact ⟨16, x, 0, by omega, hx, rfl, rfl, by omega, by omega, hide (by simp)⟩
  case round =>
    obtain ⟨k, y, c, hk, hy, rfl, rfl, hc, hck, HP⟩ := hrel
    have hy16 : y < 65536 := Nat.lt_of_lt_of_le hy (Nat.pow_le_pow_right (n := 2) (j := 16) (by decide) hk)
    by_cases hpos : 0 < y
    · have hk1 : 1 ≤ k := by
        rcases Nat.eq_zero_or_pos k with h | h
        · subst h; simp at hy; omega
        · exact h
      obtain ⟨q, hq⟩ : ∃ q, k = q + 1 := ⟨k - 1, by omega⟩
      have hy2 : y / 2 < 2 ^ q := by rw [hq, Nat.pow_succ] at hy; omega
      have HQ := hide hq
      have HY := hide hy
      have HY2 := hide hy2
      clear hq hy hy2
      go_wp2
      go_round
      case rel =>
        have hq := HQ.out
        refine ⟨q, y / 2, c + y % 2, by omega, HY2.out, by go_num, by go_num, by omega, by omega, hide ?_⟩
        rw [← HP.out, hq]
        simp only [popN]
        omega
      case measure => simp [intOf]; omega
    · have hy0 : y = 0 := by omega
      have HY := hide hy
      clear hy
      go_wp2
      go_ret
      refine ⟨?_, rfl⟩
      rw [← HP.out, hy0, pop_zero]
      rfl
/-- The numbers of neighbours. -/
def degF (F : Nat → Nat) : Nat → Int := fun k => (popN 16 (F k) : Nat)
theorem degSpec_no (g n c : Nat) (f : Nat → Int) (own : Bool) (w : World) (hn : n ≤ 1048576) (hgd : goodB n f = false) (ha : Arr w 3 g n (iv f)) :
    Calls Try.prog 55 #[.agg #[.slice (some ⟨g, 0, none⟩) n c, .bool own]] w (SliceNo w) := by
  have HA := hide ha
  clear ha
  go_enter Try.func55, Try.ntmps55
  go_wp2_with fail
  refine (grGood_any _ _ _ f _ _ hn (HA.out.alloc _)).mono ?_
  rintro e w1 ⟨rfl, hb1⟩
  go_wp2
  go_ret2
  exact ⟨rfl, (by go_grown : Below w.heap.size w _).trans (hb1.mono (by simp))⟩
theorem degImpl_no (g n c : Nat) (f : Nat → Int) (own : Bool) (w : World) (hn : n ≤ 1048576) (hgd : goodB n f = false) (ha : Arr w 3 g n (iv f)) :
    Calls Try.prog 56 #[.agg #[.slice (some ⟨g, 0, none⟩) n c, .bool own]] w (SliceNo w) := by
  have HA := hide ha
  clear ha
  go_enter Try.func56, Try.ntmps56
  go_wp2_with fail
  refine (isGraph_any _ _ _ f _ _ hn (HA.out.alloc _)).mono ?_
  rintro e w1 ⟨rfl, hb1⟩
  go_wp2
  go_ret2
  exact ⟨rfl, (by go_grown : Below w.heap.size w _).trans (hb1.mono (by simp))⟩
theorem degSpec_ok (g n c : Nat) (F : Nat → Nat) (own : Bool) (w : World) (hn : n ≤ 16) (h1 : 0 < n) (hF : ∀ k, k < n → F k < 65536) (hgd : goodB n (nv F) = true) (ha : Arr w 3 g n (iv (nv F))) :
    Calls Try.prog 55 #[.agg #[.slice (some ⟨g, 0, none⟩) n c, .bool own]] w (SliceOk w n (degF F)) := by
  obtain ⟨i0, hi, hz0, hz1, hz2⟩ := info_parts int_info
  have HA := hide ha
  have HF := hide hF
  clear ha hF
  go_enter Try.func55, Try.ntmps55
  go_wp2_with fail
  refine (grGood_any _ _ _ (nv F) _ _ (by omega) (HA.out.alloc _)).mono ?_
  rintro e w1 ⟨rfl, hb1⟩
  have hp := (Arr.box w 27 (.slice (some ⟨g, 0, none⟩) n c) (.bool own)).all hb1
  have c0 : w1.cell? ⟨w.heap.size, 0, none⟩ = some (.slice (some ⟨g, 0, none⟩) n c) := hp.cell (by omega)
  have HA1 := hide ((HA.out.alloc _).all hb1)
  have HB := hide ((by go_grown : Below w.heap.size w _).trans (hb1.mono (by simp)))
  have hsz := HB.out.size
  clear hb1 hp
  go_wp2
  go_loopw [4, 13] (fun v i wr => ∃ k : Nat, k ≤ n ∧ i = .int .i64 k ∧ wr.ownsRow w1.heap.size 3 1 v k (rowL k (iv (degF F))) ∧ Below w1.heap.size w1 wr)
    (fun _ i _ => n - (intOf i).toNat)
  case atStart => exact ⟨0, by omega, rfl, World.ownsRow_nil _ _ _ _, Below.refl _ _⟩
  case round =>
    obtain ⟨k, hk, rfl, ho, hb⟩ := hrel
    obtain ⟨A, cp, hv⟩ := own_form ho
    subst hv
    have hz := hb.size
    by_cases hlt : k < n
    · have hc : wr.cell? ⟨g, k, none⟩ = some (.int .i64 (F k : Nat)) := (HA1.out.all hb).cell hlt
      have hfk := HF.out k hlt
      have HO := hide ho
      have HBr := hide hb
      clear ho hb
      go_wp2_with (first | (go_at_call 87; refine (grCount_any _ _ hfk).mono ?_; rintro e w3 ⟨rfl, rfl⟩) | (at_builtin; refine wpList_append_one rfl (.tmp 17) (.tmp 20) 22 rfl w1.heap.size 3 i0 (.int .i64 0) 8 Try.underlying22 hi hz0 hz1 hz2 rfl A k cp (iv (degF F)) rfl (HO.out.alloc _) _ 1 rfl (by simp [go_sem, iv, degF]) rfl (by omega) (by omega) (by simp; omega) ?_; intro A' cp' w4 ho4 hg4))
      go_roundw
      case rel => exact ⟨k + 1, by omega, by go_num, ho4, Below.own_grown (HBr.out.alloc hz _) (HO.out.alloc _) hg4 (Nat.le_refl _) (by simp; omega)⟩
      case measure => simp [intOf]; omega
    · have hkn : k = n := by omega
      subst hkn
      obtain ⟨g2, c2, hv, hg2, ha2⟩ := own_pos ho h1
      injection hv with hA _ hc
      subst hA hc
      have HA2 := hide ha2
      have HBr := hide hb
      clear ho hb ha2
      go_wp2
      go_ret2
      exact ⟨g2, cp, rfl, by omega, HA2.out, HB.out.trans (HBr.out.mono hsz)⟩
theorem degImpl_ok (g n c : Nat) (F : Nat → Nat) (own : Bool) (w : World) (hn : n ≤ 16) (hF : ∀ k, k < n → F k < 65536) (hgd : goodB n (nv F) = true) (ha : Arr w 3 g n (iv (nv F))) :
    Calls Try.prog 56 #[.agg #[.slice (some ⟨g, 0, none⟩) n c, .bool own]] w (SliceOk w n (degF F)) := by
  have hmk := run_make_row' (P := Try.prog) 22 3 (.int .i64 0) 8 Try.underlying22 int_info rfl .i64 .i64 n (by omega) (by omega)
  have HA := hide ha
  have HF := hide hF
  clear ha hF
  go_enter Try.func56, Try.ntmps56
  go_wp2_with fail
  refine (isGraph_any _ _ _ (nv F) _ _ (by omega) (HA.out.alloc _)).mono ?_
  rintro e w1 ⟨rfl, hb1⟩
  have hp := (Arr.box w 27 (.slice (some ⟨g, 0, none⟩) n c) (.bool own)).all hb1
  have c0 : w1.cell? ⟨w.heap.size, 0, none⟩ = some (.slice (some ⟨g, 0, none⟩) n c) := hp.cell (by omega)
  have hl := hp.lt
  have HA1 := hide ((HA.out.alloc _).all hb1)
  have HB := hide ((by go_grown : Below w.heap.size w _).trans (hb1.mono (by simp)))
  have hsz := HB.out.size
  clear hb1 hp
  go_wp2
  go_loopw [17] (fun i wr => ∃ k : Nat, k ≤ n ∧ i = .int .i64 k ∧ Arr wr 3 w1.heap.size n (fun j => if j < k then iv (degF F) j else .int .i64 0) ∧ Below w1.heap.size w1 wr)
    (fun i _ => n - (intOf i).toNat)
  case atStart => exact ⟨0, by omega, rfl, Arr.made_at w1 _ n 3 rfl (fun k hk => by simp), by go_grown⟩
  case round =>
    obtain ⟨k, hk, rfl, ha, hb⟩ := hrel
    have hz := hb.size
    by_cases hlt : k < n
    · have hc : wr.cell? ⟨g, k, none⟩ = some (.int .i64 (F k : Nat)) := (HA1.out.all hb).cell hlt
      have hfk := HF.out k hlt
      have hd := ha.cell hlt
      have hfz := ha.frozen k
      have HAr := hide ha
      have HBr := hide hb
      clear ha hb
      go_wp2_with (go_at_call 88; refine (ones_any _ _ hfk).mono ?_; rintro e w3 ⟨rfl, rfl⟩)
      go_roundw
      case rel =>
        refine ⟨k + 1, by omega, by go_num, (HAr.out.set k _).congr (fun j hj => ?_), HBr.out.setCell (Nat.le_refl _) _⟩
        by_cases hjk : j = k
        · subst hjk; simp [iv, degF, ones_pop _ hfk]
        · simp only [hjk, if_false]
          by_cases h2 : j < k
          · rw [if_pos h2, if_pos (by omega)]
          · rw [if_neg h2, if_neg (by omega)]
      case measure => simp [intOf]; omega
    · have hkn : k = n := by omega
      subst hkn
      have HA2 := hide (ha.congr (f' := iv (degF F)) (fun j hj => by rw [if_pos hj]))
      have HBr := hide hb
      clear ha hb
      go_wp2
      go_ret2
      exact ⟨_, _, rfl, hsz, HA2.out, HB.out.trans (HBr.out.mono hsz)⟩
end Go.Proofs.Ytmlklmdenhhjnaa
