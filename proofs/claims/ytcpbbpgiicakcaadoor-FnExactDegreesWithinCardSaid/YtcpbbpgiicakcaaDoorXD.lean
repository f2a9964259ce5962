import Derived.Test.YtcpbbpgiicakcaaDoorXC
import Derived.Test.YtcpbbpgiicakcaaDoorEA0
import Derived.Test.YtcpbbpgiicakcaaDoorSB
import Derived.Test.YtcpbbpgiicakcaaDoorBD
import Derived.Test.YtcpbbpgiicakcaaDoorRC
import Derived.Deep.RegionLaw
namespace Go.Proofs.YtcpbbpgiicakcaaDoor
open Go.RowKit
set_option maxHeartbeats 2000000
/-- 'append(s, x)', s a list of the call's own: one step of a region that draws. -/
theorem step_append_nat {ops : Array Oper} {o : Oper} {a : Act} {w : World} {K : Act → World → Prop} {Q : Exit → Act → World → Prop} {E : Prop}
    (hgd : o.guard = none) (s x : Operand) (ho : o.op = Op.call { callee := Callee.builtin Builtin.append, args := #[s, x], argTypes := #[22, 22] })
    (B : Nat) (A : Option Addr) (c n : Nat) (L : List Nat) (b g : Nat)
    (hs : a.eval s = .slice A n c) (hown : OL w B (.slice A n c) L) (hn : L.length = n)
    (hx : a.eval x = .slice (some ⟨g, 0, none⟩) 1 1) (hnew : w.cell? ⟨g, 0, none⟩ = some (.int .i64 (b : Nat))) (hlen : n ≤ 1048576) (hB : B ≤ w.heap.size)
    (h : ∀ A' c' w', OL w' B (.slice A' (n + 1) c') (L ++ [b]) → Below B w w' → K (a.put o.dst (.slice A' (n + 1) c')) w') :
    if Region.wanted o (yielded ops a.tmps) = true then Oper.wp Tryd.prog o a w K Q else E := by
  have hw : Region.wanted o (yielded ops a.tmps) = true := by simp [Region.wanted, hgd]
  rw [if_pos hw]
  obtain ⟨i0, hi, hz0, hz1, hz2⟩ := info_parts int_info
  subst hn
  obtain ⟨v', w', hrun, h3, h4, _, _⟩ := run_append_own_at (P := Tryd.prog) w B 22 o.type 3 i0 (.int .i64 0) 1 8 Tryd.underlying22 hi hz0 hz1 hz2 rfl (by decide) _ L.length (vl L) hown ⟨g, 0, none⟩ 1 1 [.int .i64 (b : Nat)] rfl
    (fun j u hj => by
      match j, hj with
      | 0, hj => simp at hj; subst hj; simpa [Addr.add] using hnew)
    (by intro u hu; simp at hu; subst hu; rfl) (by unfold maxLen; omega) (by omega) hB
  obtain ⟨A', c', rfl⟩ := own_form h3
  unfold Oper.wp execOp
  simp only [ho, resolve, invoke, builtin, Sem.run_bind, Sem.run_pure, Result.andThen_ok, List.map_toArray, List.map_cons, List.map_nil, hs, hx, hrun]
  refine h A' c' w' ?_ (Below.own_grown (Below.refl B w) hown h4 (Nat.le_refl _) hB)
  unfold OL
  rw [vl_snoc, List.length_append]
  exact h3
/-- What the closure holds. -/
structure Env (w : World) (Bd Bg Bs g n c q : Nat) (own : Bool) (F : Nat → Nat) : Prop where
  box : Arr w 28 Bg 2 (bx (.slice (some ⟨g, 0, none⟩) n c) (.bool own))
  set : Blk w 3 Bs #[.int .i64 q]
  near : Arr w 3 g n (iv (nv F))
  gl : g < Bd
  bgl : Bg < Bd
  bsl : Bs < Bd
theorem Env.below {w w' : World} {Bd Bg Bs g n c q : Nat} {own : Bool} {F : Nat → Nat} (h : Env w Bd Bg Bs g n c q own F) (hb : Below Bd w w') : Env w' Bd Bg Bs g n c q own F :=
  ⟨h.box.below hb h.bgl, h.set.below hb h.bsl, h.near.below hb h.gl, h.gl, h.bgl, h.bsl⟩
theorem env_keep {w w' : World} {Bd Bg Bs g i : Nat} {u1 u2 u3 : Value} (hb : Below Bd w w') (h1 : Bg < Bd) (h2 : Bs < Bd) (h3 : g < Bd)
    (h : w.cell? ⟨Bg, 0, none⟩ = some u1 ∧ w.cell? ⟨Bs, 0, none⟩ = some u2 ∧ w.cell? ⟨g, i, none⟩ = some u3) :
    w'.cell? ⟨Bg, 0, none⟩ = some u1 ∧ w'.cell? ⟨Bs, 0, none⟩ = some u2 ∧ w'.cell? ⟨g, i, none⟩ = some u3 :=
  ⟨(hb.cell (p := ⟨Bg, 0, none⟩) h1).trans h.1, (hb.cell (p := ⟨Bs, 0, none⟩) h2).trans h.2.1, (hb.cell (p := ⟨g, i, none⟩) h3).trans h.2.2⟩
theorem and_lt16 {s t : Nat} (h : s < 65536) : s &&& t < 65536 := Nat.lt_of_le_of_lt Nat.and_le_left h
theorem deg_closure (Bd Bg Bs g n c q i m d : Nat) (A : Option Addr) (own : Bool) (F : Nat → Nat) (L : List Nat) (w : World) (hi : i < n) (hF : F i < 65536) (hq : q < 65536) (hm : m ≤ 64) (hE : Env w Bd Bg Bs g n c q own F)
    (hbx : Blk w 22 Bd #[.slice A m d]) (ho : OL w (Bd + 1) (.slice A m d) L) (hL : L.length = m) :
    Calls Tryd.prog 38 #[.int .i64 i, .pointer (some ⟨Bd, 0, none⟩), .pointer (some ⟨Bg, 0, none⟩), .pointer (some ⟨Bs, 0, none⟩)] w fun e w' => e = .returned (.tuple #[]) ∧ (∃ A' d', Blk w' 22 Bd #[.slice A' (m + 1) d'] ∧ OL w' (Bd + 1) (.slice A' (m + 1) d') (L ++ [popN 16 (F i &&& q)])) ∧ Below Bd w w' := by
  have h16 := and_lt16 (t := q) hF
  have e1 := i64_and_nat (F i) q (Nat.lt_trans hF (by decide)) (Nat.lt_trans hq (by decide))
  have hci := hE.near.cell hi
  simp only [iv, nv] at hci
  obtain ⟨x, hx⟩ : ∃ x, F i = x := ⟨_, rfl⟩
  rw [hx] at h16 e1 hci ⊢
  obtain ⟨y, hy⟩ : ∃ y, x &&& q = y := ⟨_, rfl⟩
  rw [hy] at h16 e1 ⊢
  obtain ⟨p, hp⟩ : ∃ p, popN 16 y = p := ⟨_, rfl⟩
  rw [hp]
  have HP := hide hp
  have hdl := hbx.lt
  have k0 : w.cell? ⟨Bd, 0, none⟩ = some (.slice A m d) := hbx.cell 0
  have k1 : w.cell? ⟨Bg, 0, none⟩ = some (.slice (some ⟨g, 0, none⟩) n c) := hE.box.cell (k := 0) (by omega)
  have k2 : w.cell? ⟨Bs, 0, none⟩ = some (.int .i64 q) := hE.set.cell 0
  have l1 := hE.bgl
  have l2 := hE.bsl
  have l3 := hE.gl
  have HBx := hide hbx
  have HO := hide ho
  have HL := hide hL
  clear hE hbx ho hL hx hy hp hF
  go_enter Tryd.func38, Tryd.ntmps38
  go_wp2
  go_region_law (first | (go_simp; go_at_call 39; refine (sizeOf_any _ _ h16).mono ?_; rintro e w3 ⟨rfl, hw3⟩; subst w3; simp only [HP.out]; go_simp) | (refine step_append_nat rfl (.tmp 5) (.tmp 14) rfl (Bd + 1) A d m L p w.heap.size rfl (HO.out.drew.alloc _) HL.out rfl (by simp [go_sem]) (by omega) (by simp; omega) ?_; intro A5 c5 w5 ho5 hb5; have hbx5 := (HBx.out.drew.alloc _).below hb5 (by omega); have HBx5 := hide hbx5; have q0 : w5.cell? ⟨Bd, 0, none⟩ = some (.slice A m d) := hbx5.cell 0; have q1 : w5.frozen? ⟨Bd, 0, none⟩ = false := hbx5.frozen 0; have hl5 : Bd < w5.heap.size := hbx5.lt; have HO5 := hide ho5; have HB5 := hide (((by go_grown : Below Bd w _)).trans (hb5.mono (Nat.le_succ _))); clear ho5 hb5 hbx5))
  all_goals
    go_end0
    refine ⟨rfl, ⟨A5, c5, ?_, HO5.out.far (p := ⟨Bd, 0, none⟩) (by simp) _⟩, HB5.out.setCell (Nat.le_refl _) _⟩
    have h := HBx5.out.set 0 (.slice A5 (m + 1) c5)
    simpa using h
end Go.Proofs.YtcpbbpgiicakcaaDoor
