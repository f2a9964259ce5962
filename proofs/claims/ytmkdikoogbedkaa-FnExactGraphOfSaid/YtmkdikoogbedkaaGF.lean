/-
spec.GraphOf, and both where the number or the list is none.
-/
import Derived.Test.YtmkdikoogbedkaaGD
namespace Go.Proofs.Ytmkdikoogbedkaa
open Go.RowKit
set_option maxHeartbeats 1000000
theorem wrap_sub1 {N : Nat} (h1 : 1 ≤ N) (h16 : N ≤ 16) : IntKind.i64.wrap ((N : Int) - 1) = (N : Int) - 1 := by
  rw [IntKind.wrap_i64]; omega
theorem edge_all (N : Nat) (r : Nat → Int) : edgeB N 2 r = (allB 2 r 0 (N - 1) && !(r 0 == r 1)) := by
  have : allB 2 r 0 (N - 1) = (inB (r 0) 0 (N - 1) && inB (r 1) 0 (N - 1)) := by
    rw [Bool.eq_iff_iff]
    simp only [allB, inB, Bool.and_eq_true, decide_eq_true_eq]
    constructor
    · intro h; exact ⟨h 0 (by omega), h 1 (by omega)⟩
    · rintro ⟨h0, h1⟩ k hk
      match k, hk with
      | 0, _ => exact h0
      | 1, _ => exact h1
  rw [this]
  simp [edgeB, Bool.and_assoc]
/-- What a call leaves that finds no graph. -/
def GraphNo (w : World) (e : Ending) (w' : World) : Prop := e = .returned (.tuple #[.agg #[.slice none 0 0, .bool false], .bool false]) ∧ Below w.heap.size w w'
theorem goSpec_any (A : Option Addr) (m c : Nat) (Ai : Nat → Option Addr) (ln C : Nat → Nat) (R : Nat → Nat → Int) (own : Bool) (N : Nat) (w : World) (h1 : 1 ≤ N) (h16 : N ≤ 16) (hm : m ≤ 200) (hr : RD w A m Ai ln C R) :
    Calls Try.prog 42 #[.int .i64 N, .slice A m c, .bool own] w (GraphAns w N m ln R own) := by
  have hmk := run_make_row' (P := Try.prog) 31 3 (.int .i64 0) 8 Try.underlying31 int_info rfl .i64 .i64 N (by omega) (by omega)
  have hin : inB (N : Int) 1 16 = true := by simp [inB]; omega
  have HIN := hide hin
  have eW := wrap_sub1 h1 h16
  have HR := hide hr
  clear hr hin
  go_enter Try.func42, Try.ntmps42
  go_wp2_with (go_at_call 79; refine (grSize_any _ _).mono ?_; rintro e w' ⟨rfl, rfl⟩; rw [HIN.out])
  go_loopw [26] (fun x wr => ∃ k : Nat, k ≤ m ∧ x = .int .i64 k ∧ Hid (okE N k ln R) ∧ Arr wr 3 (w.heap.size + 1) N (iv (nv (gr R k))) ∧ Arr wr 39 w.heap.size 2 (bx (.slice none 0 0) (.bool false)) ∧ Arr wr 39 (w.heap.size + 1 + 1) 2 (bx (.slice (some ⟨w.heap.size + 1, 0, none⟩) N N) (.bool own)) ∧ Below w.heap.size w wr) (fun x _ => m - (intOf x).toNat)
  case atStart =>
    refine ⟨0, by omega, rfl, hide (fun j hj => absurd hj (by omega)), ?_, ?_, ?_, by go_grown⟩
    · exact ((Arr.made_at (w.alloc (.cells #[.slice none 0 0, .bool false] 39)) (.int .i64 0) N 3 (by simp) (fun _ _ => rfl)).alloc _)
    · exact ((Arr.box w 39 _ _).alloc _).alloc _
    · exact Arr.box_at _ 39 _ _ (by simp)
  case round =>
    obtain ⟨k, hk, rfl, HE, ha, hres, hbox, hb⟩ := hrel
    by_cases hlt : k < m
    · obtain ⟨b, off, hA, hbl, hc0, hs0⟩ := HR.out k hlt
      have hs1 := hs0.below hb
      have hc1 : wr.cell? ⟨b, off + k, none⟩ = some (.slice (Ai k) (ln k) (C k)) := (hb.cell (p := ⟨b, off + k, none⟩) hbl).trans hc0
      have b0 : wr.cell? ⟨w.heap.size + 1 + 1, 0, none⟩ = some (.slice (some ⟨w.heap.size + 1, 0, none⟩) N N) := hbox.cell (by omega)
      have b1 : wr.cell? ⟨w.heap.size + 1 + 1, 1, none⟩ = some (.bool own) := hbox.cell (by omega)
      have r0 := hres.cell (k := 0) (by omega)
      have r1 := hres.cell (k := 1) (by omega)
      have z0 := hres.frozen 0
      have z1 := hres.frozen 1
      have hl := hres.lt
      have HA := hide ha
      have HX := hide hres
      have HBX := hide hbox
      have HB := hide hb
      have HS := hide hs1
      clear ha hres hbox hb hc0 hs0 hs1
      subst hA
      by_cases h2 : ln k = 2
      · obtain ⟨b', off', hA', hl0, q0⟩ := HS.out 0 (by omega)
        obtain ⟨b'', off'', hA'', _, q1⟩ := HS.out 1 (by omega)
        rw [hA'] at hA''
        injection hA'' with hA''
        injection hA'' with u0 u1
        subst u0 u1
        have hc : wr.cell? ⟨b, off + k, none⟩ = some (.slice (some ⟨b', off', none⟩) 2 (C k)) := by rw [hc1, hA', h2]
        have HS2 : Hid (Src wr (some ⟨b', off', none⟩) 2 (iv (R k))) := by have := HS.out; rw [hA', h2] at this; exact this
        have HL2 := hide h2
        have HE2 := hide (edge_all N (R k))
        clear hc1 hA' h2
        cases hall : allB 2 (R k) 0 (N - 1)
        · have HEE : Hid (edgeB N (ln k) (R k) = false) := hide (by rw [HL2.out, HE2.out, hall]; rfl)
          clear q0 q1
          go_wp2
          go_quiet (first | (go_at_call 80; exact Calls.quiet_of_same (l1All_any _ 2 _ (R k) _ _ _ (by omega) HS2.out)))
          go_wp2
          refine bodyPost_ret (v := .tuple #[.agg #[.slice none 0 0, .bool false], .bool false]) (by simp [results, Try.results42, go_sem, r0, r1]) rfl ?_
          refine ⟨by have h := below_drewN HB.out nq; have hz := h.size; go_grown, .inr ⟨fun h => ?_, rfl⟩⟩
          have := h k hlt
          rw [HEE.out] at this
          cases this
        · have HALL := hide hall
          cases hq : (R k 0 == R k 1)
          · have HEE : Hid (edgeB N (ln k) (R k) = true) := hide (by rw [HL2.out, HE2.out, hall, hq]; rfl)
            obtain ⟨_, i, j, hi, hj, e0, e1⟩ := edge_ok HEE.out
            rw [e0, e1] at hq
            simp only [iv, e0, Nat.add_zero] at q0
            simp only [iv, e1] at q1
            have HE0 := hide e0
            have HE1 := hide e1
            clear e0 e1
            go_wp2
            go_quiet (first | (go_at_call 80; exact Calls.quiet_of_same (l1All_any _ 2 _ (R k) _ _ _ (by omega) HS2.out)))
            go_wp2
            have hbq := below_drewN (Below.refl wr.heap.size wr) nq
            have HAq := HA.out.drewN nq
            have e0 : (wr.drewN nq).cell? ⟨w.heap.size + 1 + 1, 0, none⟩ = some (.slice (some ⟨w.heap.size + 1, 0, none⟩) N N) := b0
            have e1 : (wr.drewN nq).cell? ⟨w.heap.size + 1 + 1, 1, none⟩ = some (.bool own) := b1
            have e2 : (wr.drewN nq).cell? ⟨b', off', none⟩ = some (.int .i64 (i : Nat)) := q0
            have e3 : (wr.drewN nq).cell? ⟨b', off' + 1, none⟩ = some (.int .i64 (j : Nat)) := q1
            have HAQ := hide HAq
            have HBQ := hide hbq
            clear HAq hbq b0 b1 q0 q1 hc r0 r1 z0 z1
            revert e0 e1 e2 e3 HAQ HBQ
            generalize wr.drewN nq = wq
            intro e0 e1 e2 e3 HAQ HBQ
            go_still_tail 7, (by kernel_rfl)
            change wpList _ _ _ _ _ wq.drew
            go_wp2_with fail
            refine (grAdd_any _ N N own (gr R k) i j _ h16 hi hj (gr_lt h16 k HE.out) HAQ.out.drew).mono ?_
            rintro e w5 ⟨rfl, ha5, hg5⟩
            have hg6 : wr.grownBy w5 (some (w.heap.size + 1)) := grownBy_trans (grownBy_of_below (Below.drew HBQ.out) _) hg5
            have HA5 := hide ha5
            have HX5 := hide (HX.out.grown hg6 (by omega))
            have HBX5 := hide (HBX.out.grown hg6 (by omega))
            have HB5 := hide (HB.out.grown hg6 HB.out.size (fun q hq => by injection hq with hq; omega))
            clear ha5 hg5 hg6 e0 e1 e2 e3
            go_wp2
            go_roundw
            case rel =>
              refine ⟨k + 1, by omega, by go_num, hide fun q hq => ?_, ?_, HX5.out, HBX5.out, HB5.out⟩
              · by_cases hqk : q = k
                · subst hqk; exact HEE.out
                · exact HE.out q (by omega)
              · rw [gr, HE0.out, HE1.out]
                exact HA5.out
            case measure => simp [intOf]; omega
          · have HEE : Hid (edgeB N (ln k) (R k) = false) := hide (by rw [HL2.out, HE2.out, hall, hq]; rfl)
            simp only [iv, Nat.add_zero] at q0
            simp only [iv] at q1
            go_wp2
            go_quiet (first | (go_at_call 80; exact Calls.quiet_of_same (l1All_any _ 2 _ (R k) _ _ _ (by omega) HS2.out)))
            go_wp2
            refine bodyPost_ret (v := .tuple #[.agg #[.slice none 0 0, .bool false], .bool false]) (by simp [results, Try.results42, go_sem, r0, r1]) rfl ?_
            refine ⟨by have h := below_drewN HB.out nq; have hz := h.size; go_grown, .inr ⟨fun h => ?_, rfl⟩⟩
            have := h k hlt
            rw [HEE.out] at this
            cases this
      · have HEE : Hid (edgeB N (ln k) (R k) = false) := hide (by simp [edgeB, h2])
        have hd : ((ln k : Int) != 2) = true := by simp; omega
        go_wp2
        go_quiet (fail)
        go_wp2
        refine bodyPost_ret (v := .tuple #[.agg #[.slice none 0 0, .bool false], .bool false]) (by simp [results, Try.results42, go_sem, r0, r1]) rfl ?_
        refine ⟨by have h := below_drewN HB.out nq; have hz := h.size; go_grown, .inr ⟨fun h => ?_, rfl⟩⟩
        have := h k hlt
        rw [HEE.out] at this
        cases this
    · have hkm : k = m := by omega
      subst hkm
      have b0 : wr.cell? ⟨w.heap.size + 1 + 1, 0, none⟩ = some (.slice (some ⟨w.heap.size + 1, 0, none⟩) N N) := hbox.cell (by omega)
      have b1 : wr.cell? ⟨w.heap.size + 1 + 1, 1, none⟩ = some (.bool own) := hbox.cell (by omega)
      have r0 := hres.cell (k := 0) (by omega)
      have r1 := hres.cell (k := 1) (by omega)
      have z0 := hres.frozen 0
      have z1 := hres.frozen 1
      have hl := hres.lt
      have HA := hide ha
      have HB := hide hb
      clear ha hres hbox hb
      go_wp2
      refine bodyPost_ret (v := .tuple #[.agg #[.slice (some ⟨w.heap.size + 1, 0, none⟩) N N, .bool own], .bool true]) (by simp [results, Try.results42, go_sem, r0, r1]) rfl ?_
      refine ⟨by have h := HB.out; have hz := h.size; go_grown, .inl ⟨HE.out, _, rfl, by omega, ?_⟩⟩
      exact (HA.out.far (by simp) _).far (by simp) _
theorem goImpl_size (x : Int) (A : Option Addr) (m c : Nat) (own : Bool) (w : World) (hx : inB x 1 16 = false) :
    Calls Try.prog 44 #[.int .i64 x, .slice A m c, .bool own] w (GraphNo w) := by
  have HIN := hide hx
  clear hx
  go_enter Try.func44, Try.ntmps44
  go_wp2_with (go_at_call 83; refine (isCount_any _ _).mono ?_; rintro e w' ⟨rfl, rfl⟩; rw [HIN.out])
  refine bodyPost_ret (v := .tuple #[.agg #[.slice none 0 0, .bool false], .bool false]) (by simp [results, Try.results44, go_sem]) rfl ?_
  exact ⟨rfl, by go_grown⟩
theorem goImpl_long (x : Int) (A : Option Addr) (m c : Nat) (own : Bool) (w : World) (hx : inB x 1 16 = true) (hm : 200 < m) :
    Calls Try.prog 44 #[.int .i64 x, .slice A m c, .bool own] w (GraphNo w) := by
  have HIN := hide hx
  clear hx
  go_enter Try.func44, Try.ntmps44
  go_wp2_with (go_at_call 83; refine (isCount_any _ _).mono ?_; rintro e w' ⟨rfl, rfl⟩; rw [HIN.out])
  refine bodyPost_ret (v := .tuple #[.agg #[.slice none 0 0, .bool false], .bool false]) (by simp [results, Try.results44, go_sem]) rfl ?_
  exact ⟨rfl, by go_grown⟩
theorem goSpec_size (x : Int) (A : Option Addr) (m c : Nat) (own : Bool) (w : World) (hx : inB x 1 16 = false) :
    Calls Try.prog 42 #[.int .i64 x, .slice A m c, .bool own] w (GraphNo w) := by
  have HIN := hide hx
  clear hx
  go_enter Try.func42, Try.ntmps42
  go_wp2_with (go_at_call 79; refine (grSize_any _ _).mono ?_; rintro e w' ⟨rfl, rfl⟩; rw [HIN.out])
  refine bodyPost_ret (v := .tuple #[.agg #[.slice none 0 0, .bool false], .bool false]) (by simp [results, Try.results42, go_sem]) rfl ?_
  exact ⟨rfl, by go_grown⟩
theorem goSpec_long (x : Int) (A : Option Addr) (m c : Nat) (own : Bool) (w : World) (hx : inB x 1 16 = true) (hm : 200 < m) :
    Calls Try.prog 42 #[.int .i64 x, .slice A m c, .bool own] w (GraphNo w) := by
  have HIN := hide hx
  clear hx
  go_enter Try.func42, Try.ntmps42
  go_wp2_with (go_at_call 79; refine (grSize_any _ _).mono ?_; rintro e w' ⟨rfl, rfl⟩; rw [HIN.out])
  refine bodyPost_ret (v := .tuple #[.agg #[.slice none 0 0, .bool false], .bool false]) (by simp [results, Try.results42, go_sem]) rfl ?_
  exact ⟨rfl, by go_grown⟩
/-- Is that a graph's number of buttons, with so many edges, all of them edges? -/
noncomputable def goB (x : Int) (m : Nat) (ln : Nat → Nat) (R : Nat → Nat → Int) : Bool := by
  classical exact inB x 1 16 && (decide (m ≤ 200) && decide (okE x.toNat m ln R))
/-- What a call leaves that makes the graph. -/
def GraphIs (w : World) (N m : Nat) (R : Nat → Nat → Int) (own : Bool) (e : Ending) (w' : World) : Prop :=
  ∃ g, e = .returned (.tuple #[.agg #[.slice (some ⟨g, 0, none⟩) N N, .bool own], .bool true]) ∧ w.heap.size ≤ g ∧ Arr w' 3 g N (iv (nv (gr R m))) ∧ Below w.heap.size w w'
theorem goImpl_no (x : Int) (A : Option Addr) (m c : Nat) (Ai : Nat → Option Addr) (ln C : Nat → Nat) (R : Nat → Nat → Int) (own : Bool) (w : World) (hno : goB x m ln R = false) (hr : RD w A m Ai ln C R) :
    Calls Try.prog 44 #[.int .i64 x, .slice A m c, .bool own] w (GraphNo w) := by
  cases hx : inB x 1 16
  · exact goImpl_size x A m c own w hx
  · by_cases hm : 200 < m
    · exact goImpl_long x A m c own w hx hm
    · have hx2 : 1 ≤ x ∧ x ≤ 16 := by simpa [inB] using hx
      obtain ⟨N, rfl⟩ : ∃ N : Nat, x = N := ⟨x.toNat, by omega⟩
      refine (goImpl_any A m c Ai ln C R own N w (by omega) (by omega) (by omega) hr).mono fun e w' ⟨hb, h⟩ => ?_
      rcases h with ⟨h, _⟩ | ⟨_, h⟩
      · exfalso
        have hm2 : m ≤ 200 := by omega
        simp [goB, hx, hm2, h] at hno
      · exact ⟨h, hb⟩
theorem goImpl_ok (A : Option Addr) (N m c : Nat) (Ai : Nat → Option Addr) (ln C : Nat → Nat) (R : Nat → Nat → Int) (own : Bool) (w : World) (hgo : goB N m ln R = true) (hr : RD w A m Ai ln C R) :
    Calls Try.prog 44 #[.int .i64 N, .slice A m c, .bool own] w (GraphIs w N m R own) := by
  simp only [goB, inB, Bool.and_eq_true, decide_eq_true_eq, Int.toNat_natCast] at hgo
  refine (goImpl_any A m c Ai ln C R own N w (by omega) (by omega) (by omega) hr).mono fun e w' ⟨hb, h⟩ => ?_
  rcases h with ⟨_, g, h1, h2, h3⟩ | ⟨h, _⟩
  · exact ⟨g, h1, h2, h3, hb⟩
  · exact absurd hgo.2.2 h
theorem goSpec_no (x : Int) (A : Option Addr) (m c : Nat) (Ai : Nat → Option Addr) (ln C : Nat → Nat) (R : Nat → Nat → Int) (own : Bool) (w : World) (hno : goB x m ln R = false) (hr : RD w A m Ai ln C R) :
    Calls Try.prog 42 #[.int .i64 x, .slice A m c, .bool own] w (GraphNo w) := by
  cases hx : inB x 1 16
  · exact goSpec_size x A m c own w hx
  · by_cases hm : 200 < m
    · exact goSpec_long x A m c own w hx hm
    · have hx2 : 1 ≤ x ∧ x ≤ 16 := by simpa [inB] using hx
      obtain ⟨N, rfl⟩ : ∃ N : Nat, x = N := ⟨x.toNat, by omega⟩
      refine (goSpec_any A m c Ai ln C R own N w (by omega) (by omega) (by omega) hr).mono fun e w' ⟨hb, h⟩ => ?_
      rcases h with ⟨h, _⟩ | ⟨_, h⟩
      · exfalso
        have hm2 : m ≤ 200 := by omega
        simp [goB, hx, hm2, h] at hno
      · exact ⟨h, hb⟩
theorem goSpec_ok (A : Option Addr) (N m c : Nat) (Ai : Nat → Option Addr) (ln C : Nat → Nat) (R : Nat → Nat → Int) (own : Bool) (w : World) (hgo : goB N m ln R = true) (hr : RD w A m Ai ln C R) :
    Calls Try.prog 42 #[.int .i64 N, .slice A m c, .bool own] w (GraphIs w N m R own) := by
  simp only [goB, inB, Bool.and_eq_true, decide_eq_true_eq, Int.toNat_natCast] at hgo
  refine (goSpec_any A m c Ai ln C R own N w (by omega) (by omega) (by omega) hr).mono fun e w' ⟨hb, h⟩ => ?_
  rcases h with ⟨_, g, h1, h2, h3⟩ | ⟨h, _⟩
  · exact ⟨g, h1, h2, h3, hb⟩
  · exact absurd hgo.2.2 h
end Go.Proofs.Ytmkdikoogbedkaa
