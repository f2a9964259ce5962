import Derived.Test.YtibikoajejfdeaaDoorSB
import Derived.Test.YtibikoajejfdeaaDoorTE
import Derived.Test.YtibikoajejfdeaaDoorTK
import Derived.Test.YtibikoajejfdeaaDoorEA0
import Derived.Test.YtibikoajejfdeaaDoorEff
namespace Go.Proofs.YtibikoajejfdeaaDoor
open Go.RowKit
set_option maxHeartbeats 1000000
theorem info_parts0 : ∃ i0, Tryd.prog.info? 3 = some i0 ∧ i0.zero = some (.int .i64 0) ∧ i0.size = 1 ∧ i0.bytes = 8 := by
  have h := int_info
  cases hi : Tryd.prog.info? 3 with
  | none => rw [hi] at h; cases h
  | some i0 =>
    rw [hi] at h
    simp only [Option.map_some, Option.some.injEq, Prod.mk.injEq] at h
    exact ⟨i0, rfl, h.1, h.2.1, h.2.2⟩
theorem lv_old {L : List Nat} {b k : Nat} (h : k < L.length) : lv (L ++ [b]) k = lv L k := by
  simp [lv, List.getElem?_append_left h]
theorem lv_new (L : List Nat) (b : Nat) : lv (L ++ [b]) L.length = .int .i64 (b : Nat) := by
  simp [lv]
theorem rowL_old (L : List Nat) (b : Nat) : rowL L.length (lv (L ++ [b])) = vl L := by
  rw [vl_row]
  apply List.ext_getElem?
  intro k
  by_cases h : k < L.length
  · rw [rowL_get _ _ _ h, rowL_get _ _ _ h, lv_old h]
  · rw [List.getElem?_eq_none (by rw [rowL_length]; omega), List.getElem?_eq_none (by rw [rowL_length]; omega)]
/-- One append to a list of the call's own, as a step of a region that draws its order. -/
theorem step_append_ol {ops : Array Oper} {o : Oper} {a : Act} {w : World} {K : Act → World → Prop} {Q : Exit → Act → World → Prop} {E : Prop}
    (hgd : o.guard = none) (s x : Operand) (ho : o.op = Op.call { callee := Callee.builtin Builtin.append, args := #[s, x], argTypes := #[36, 36] })
    (B : Nat) (A : Option Addr) (c n : Nat) (L : List Nat) (b g cx : Nat) (hs : a.eval s = .slice A n c) (hown : OL w B (.slice A n c) L) (hn : L.length = n)
    (hx : a.eval x = .slice (some ⟨g, 0, none⟩) 1 cx) (hnew : w.cell? ⟨g, 0, none⟩ = some (.int .i64 (b : Nat))) (h63 : n ≤ 1048576) (hB : B ≤ w.heap.size)
    (h : ∀ A' c' w', OL w' B (.slice A' (n + 1) c') (L ++ [b]) → w.grownBy w' (Value.slice A n c).ownBlock → K (a.put o.dst (.slice A' (n + 1) c')) w') :
    if Region.wanted o (yielded ops a.tmps) = true then Oper.wp Tryd.prog o a w K Q else E := by
  obtain ⟨i0, hi, hz0, hz1, hz2⟩ := info_parts0
  subst hn
  refine step_append_one hgd s x 36 ho B 3 i0 (.int .i64 0) 8 Tryd.underlying36 hi hz0 hz1 hz2 rfl A L.length c (lv (L ++ [b])) hs ?_ g cx hx ?_ ?_ (by omega) (by omega) hB ?_
  · rw [rowL_old]; exact hown
  · rw [lv_new]; exact hnew
  · rw [lv_new]; rfl
  · intro A' c' w' h2 h3 _
    refine h A' c' w' ?_ h3
    unfold OL
    rw [vl_row, List.length_append]
    exact h2
theorem prod_closure (Bp Bs B0 B p i m d : Nat) (A : Option Addr) (L : List Nat) (w : World) (hcp : Arr w 3 Bp 1 (fun _ => .int .i64 (p : Nat))) (hcs : Arr w 36 Bs 1 (fun _ => .slice A m d))
    (hO : OL w B (.slice A m d) L) (hm : L.length = m) (hm2 : m ≤ 64) (hBp : Bp < B) (hBs : Bs < B) (hne : Bp ≠ Bs) (hB : B ≤ w.heap.size) (hB0 : B0 ≤ Bs) (hi : i < 62) (hp : p * 2 ^ i < 4611686018427387904) :
    Calls Tryd.prog 41 #[.int .i64 i, .pointer (some ⟨Bs, 0, none⟩), .pointer (some ⟨Bp, 0, none⟩)] w fun e w' => e = .returned (.tuple #[]) ∧
      ∃ A' d', Arr w' 36 Bs 1 (fun _ => .slice A' (m + 1) d') ∧ Arr w' 3 Bp 1 (fun _ => .int .i64 (p : Nat)) ∧ OL w' B (.slice A' (m + 1) d') (L ++ [p * 2 ^ i]) ∧ Below B0 w w' := by
  have c0 := hcs.cell (k := 0) (by omega)
  have c1 := hcp.cell (k := 0) (by omega)
  have z0 := hcs.frozen 0
  have hl := hcs.lt
  have hl2 := hcp.lt
  have e0 : (p : Int) * 2 ^ i = ((p * 2 ^ i : Nat) : Int) := by rw [Int.natCast_mul, pow_nat]
  have e1 : IntKind.i64.wrap ((p : Int) * 2 ^ i) = ((p * 2 ^ i : Nat) : Int) := by rw [e0, IntWalk.i64_in _ (by omega)]
  have e2 : RowKit.wrap64 ((p : Int) * 2 ^ i) = ((p * 2 ^ i : Nat) : Int) := by rw [e0, IntWalk.wrap64_in _ (by omega)]
  obtain ⟨X, hX⟩ : ∃ X, p * 2 ^ i = X := ⟨_, rfl⟩
  rw [hX] at e1 e2 ⊢
  have hmin : min i 64 = i := by omega
  have HCP := hide hcp
  have HCS := hide hcs
  have HO := hide hO
  have HM := hide hm
  clear hcp hcs hO hm e0 hX hp
  go_enter Tryd.func41, Tryd.ntmps41
  go_wp2_with fail
  go_region_law (first | (refine step_append_ol rfl (.tmp 4) (.tmp 8) rfl B A d m L X w.heap.size 1 rfl (by exact (HO.out.alloc _)) HM.out rfl (by simp [go_sem]) (by omega) (by simp; omega) ?_; intro A' d' w1 ho1 hg1; have hb1 := Arr.own_grown (Arr.drew (HCS.out.alloc _)) (by exact (HO.out.alloc _)) hg1 (by omega); have hr1 := Arr.own_grown (Arr.drew (HCP.out.alloc _)) (by exact (HO.out.alloc _)) hg1 (by omega); have hw1 := Below.own_grown (Below.drew ((Below.refl B0 w).alloc (by omega) _)) (by exact (HO.out.alloc _)) hg1 (by omega) (by simp; omega); have d0 := hb1.cell (k := 0) (by omega); have dz := hb1.frozen 0; have HO1 := hide ho1; have HB1 := hide hb1; have HR1 := hide hr1; have HW1 := hide hw1; clear ho1 hg1 hb1 hr1 hw1))
  all_goals
    go_wp2
    go_end0
    refine ⟨rfl, A', d', (HB1.out.set 0 _).congr (fun j hj => ?_), HR1.out.far hne _, HO1.out.far hBs _, HW1.out.setCell hB0 _⟩
    simp
    omega
end Go.Proofs.YtibikoajejfdeaaDoor
