import Derived.Test.YtmlklmdenhhjnaaY
import Derived.Test.YtmlklmdenhhjnaaI
import Derived.Test.YtmlklmdenhhjnaaW1
import Derived.Test.YtmlklmdenhhjnaaZB
namespace Go.Proofs.Ytmlklmdenhhjnaa
open Go.RowKit
set_option maxHeartbeats 400000
theorem below_of_none {w w' : World} (h : w.grownBy w' none) : Below w.heap.size w w' := ⟨h.os, h.tape, h.output, h.size, fun k hk => h.block k hk (by simp)⟩
theorem own_empty (w : World) (e : TypeId) : (w.alloc (.cells #[] e)).ownsRow w.heap.size e 1 (.slice (some ⟨w.heap.size, 0, none⟩) 0 0) 0 [] :=
  World.ownsRow_made w #[] 0 (Nat.le_refl _) (by simp [maxLen]) rfl
/-- What a call that hands back a new slice leaves. -/
def NewArr (w : World) (n : Nat) (f : Nat → Int) (e : Ending) (w' : World) : Prop :=
  ∃ g c, e = .returned (.slice (some ⟨g, 0, none⟩) n c) ∧ w.heap.size ≤ g ∧ Arr w' 3 g n (iv f) ∧ Below w.heap.size w w'
theorem l1Own_any (A : Option Addr) (n c : Nat) (f : Nat → Int) (w : World) (h1 : 0 < n) (hn : n ≤ 1048576) (hs : Src w A n (iv f)) : Calls Try.prog 90 #[.slice A n c] w (NewArr w n f) := by
  obtain ⟨i0, hi, hz0, hz1, hz2⟩ := info_parts int_info
  have HS := hide hs
  clear hs
  go_enter Try.func90, Try.ntmps90
  go_wp2_with (at_builtin; refine wpList_append_new rfl (.tmp 3) (.tmp 4) 22 rfl w.heap.size 3 i0 (.int .i64 0) 8 Try.underlying22 hi hz0 hz1 hz2 rfl (.slice (some ⟨w.heap.size, 0, none⟩) 0 0) rfl (own_empty w 3) A n c (iv f) rfl h1 (HS.out.alloc _) (fun _ _ => rfl) (by omega) (by omega) (by simp) ?_; intro g c' w1 hg ha hgr)
  go_ret
  refine ⟨g, c', rfl, hg, ha, ?_⟩
  exact (by go_grown : Below w.heap.size w _).grown hgr (by simp) (fun k hk => by injection hk with hk; exact Nat.le_of_eq hk)
theorem grOwn_any (g n c : Nat) (f : Nat → Int) (own own2 : Bool) (w : World) (h1 : 0 < n) (hn : n ≤ 1048576) (ha : Arr w 3 g n (iv f)) :
    Calls Try.prog 86 #[.agg #[.slice (some ⟨g, 0, none⟩) n c, .bool own], .bool own2] w (GraphVal w n f own2) := by
  have HA := hide ha
  clear ha
  go_enter Try.func86, Try.ntmps86
  go_wp2_with fail
  refine (l1Own_any _ _ _ f _ h1 hn (by exact Src.of_arr ((HA.out.alloc _).alloc _))).mono ?_
  rintro e w1 ⟨g1, c1, rfl, hg1, ha1, hb1⟩
  simp only [World.size_alloc] at hg1
  have hr := (Arr.box_at (w.alloc (.cells #[.slice (some ⟨g, 0, none⟩) n c, .bool own] 27)) 27 _ _ (b := w.heap.size + 1) (by simp)).all hb1
  have hz := hb1.size
  simp only [World.size_alloc] at hz
  have r0 := hr.cell (k := 0) (by omega)
  have r1 := hr.cell (k := 1) (by omega)
  have z0 := hr.frozen 0
  have z1 := hr.frozen 1
  have HA1 := hide ha1
  have HB := hide ((by go_grown : Below w.heap.size w _).trans (hb1.mono (by simp; omega)))
  clear ha1 hb1 hr
  go_wp2
  refine bodyPost_ret (v := .agg #[.slice (some ⟨g1, 0, none⟩) n c1, .bool own2]) (by simp [results, Try.results86, go_sem, r0, r1]) rfl ?_
  exact ⟨g1, c1, rfl, by omega, (HA1.out.far (by simp; omega) _).far (by simp; omega) _, by have h := HB.out; go_grown⟩
theorem ownSpec_no (g n c : Nat) (f : Nat → Int) (own own2 : Bool) (w : World) (hn : n ≤ 1048576) (hgd : goodB n f = false) (ha : Arr w 3 g n (iv f)) :
    Calls Try.prog 51 #[.agg #[.slice (some ⟨g, 0, none⟩) n c, .bool own], .bool own2] w (GraphNo w) := by
  have HA := hide ha
  clear ha
  go_enter Try.func51, Try.ntmps51
  go_wp2_with fail
  refine (grGood_any _ _ _ f _ _ hn ((HA.out.alloc _).alloc _)).mono ?_
  rintro e w1 ⟨rfl, hb1⟩
  have hr := (Arr.box_at (w.alloc (.cells #[.slice (some ⟨g, 0, none⟩) n c, .bool own] 27)) 27 _ _ (b := w.heap.size + 1) (by simp)).all hb1
  have r0 := hr.cell (k := 0) (by omega)
  have r1 := hr.cell (k := 1) (by omega)
  have z0 := hr.frozen 0
  have z1 := hr.frozen 1
  have HB := hide ((by go_grown : Below w.heap.size w _).trans (hb1.mono (by simp; omega)))
  clear hb1 hr
  go_wp2
  refine bodyPost_ret (v := .tuple #[.agg #[.slice none 0 0, .bool false], .bool false]) (by simp [results, Try.results51, go_sem, r0, r1]) rfl ?_
  exact ⟨rfl, by have h := HB.out; go_grown⟩
theorem ownSpec_ok (g n c : Nat) (f : Nat → Int) (own own2 : Bool) (w : World) (hn : n ≤ 16) (h1 : 0 < n) (hgd : goodB n f = true) (ha : Arr w 3 g n (iv f)) :
    Calls Try.prog 51 #[.agg #[.slice (some ⟨g, 0, none⟩) n c, .bool own], .bool own2] w (GraphOk w n f own2) := by
  have HA := hide ha
  clear ha
  go_enter Try.func51, Try.ntmps51
  go_wp2_with fail
  refine (grGood_any _ _ _ f _ _ (by omega) ((HA.out.alloc _).alloc _)).mono ?_
  rintro e w1 ⟨rfl, hb1⟩
  have HR := hide ((Arr.box_at (w.alloc (.cells #[.slice (some ⟨g, 0, none⟩) n c, .bool own] 27)) 27 _ _ (b := w.heap.size + 1) (by simp)).all hb1)
  have hp := ((Arr.box w 27 (.slice (some ⟨g, 0, none⟩) n c) (.bool own)).alloc (.cells #[.slice none 0 0, .bool false] 27)).all hb1
  have c0 : w1.cell? ⟨w.heap.size, 0, none⟩ = some (.slice (some ⟨g, 0, none⟩) n c) := hp.cell (by omega)
  have c1 : w1.cell? ⟨w.heap.size, 1, none⟩ = some (.bool own) := hp.cell (by omega)
  have hz := hb1.size
  simp only [World.size_alloc] at hz
  have HA1 := hide (((HA.out.alloc _).alloc _).all hb1)
  have HB := hide ((by go_grown : Below w.heap.size w _).trans (hb1.mono (by simp; omega)))
  clear hb1 hp
  go_wp2_with fail
  refine (grOwn_any _ _ _ f _ _ _ h1 (by omega) HA1.out).mono ?_
  rintro e w2 ⟨g2, cp2, rfl, hg2, ha2, hb2⟩
  have hr := HR.out.all hb2
  have hz2 := hb2.size
  have r0 := hr.cell (k := 0) (by omega)
  have r1 := hr.cell (k := 1) (by omega)
  have z0 := hr.frozen 0
  have z1 := hr.frozen 1
  have HA2 := hide ha2
  have HB2 := hide (HB.out.trans (hb2.mono HB.out.size))
  clear ha2 hb2 hr c0 c1
  go_wp2
  refine bodyPost_ret (v := .tuple #[.agg #[.slice (some ⟨g2, 0, none⟩) n cp2, .bool own2], .bool true]) (by simp [results, Try.results51, go_sem, r0, r1]) rfl ?_
  exact ⟨g2, cp2, rfl, by omega, (HA2.out.far (by simp; omega) _).far (by simp; omega) _, by have h := HB2.out; go_grown⟩
theorem ownImpl_no (g n c : Nat) (f : Nat → Int) (own own2 : Bool) (w : World) (hn : n ≤ 1048576) (hgd : goodB n f = false) (ha : Arr w 3 g n (iv f)) :
    Calls Try.prog 52 #[.agg #[.slice (some ⟨g, 0, none⟩) n c, .bool own], .bool own2] w (GraphNo w) := by
  have HA := hide ha
  clear ha
  go_enter Try.func52, Try.ntmps52
  go_wp2_with fail
  refine (isGraph_any _ _ _ f _ _ hn ((HA.out.alloc _).alloc _)).mono ?_
  rintro e w1 ⟨rfl, hb1⟩
  have hr := (Arr.box_at (w.alloc (.cells #[.slice (some ⟨g, 0, none⟩) n c, .bool own] 27)) 27 _ _ (b := w.heap.size + 1) (by simp)).all hb1
  have r0 := hr.cell (k := 0) (by omega)
  have r1 := hr.cell (k := 1) (by omega)
  have z0 := hr.frozen 0
  have z1 := hr.frozen 1
  have HB := hide ((by go_grown : Below w.heap.size w _).trans (hb1.mono (by simp; omega)))
  clear hb1 hr
  go_wp2
  refine bodyPost_ret (v := .tuple #[.agg #[.slice none 0 0, .bool false], .bool false]) (by simp [results, Try.results52, go_sem, r0, r1]) rfl ?_
  exact ⟨rfl, by have h := HB.out; go_grown⟩
theorem int_size : (Try.prog.info? 3).map (·.size) = some 1 := by kernel_rfl
theorem ownImpl_ok (g n c : Nat) (f : Nat → Int) (own own2 : Bool) (w : World) (hn : n ≤ 16) (hgd : goodB n f = true) (ha : Arr w 3 g n (iv f)) :
    Calls Try.prog 52 #[.agg #[.slice (some ⟨g, 0, none⟩) n c, .bool own], .bool own2] w (GraphOk w n f own2) := by
  have hmk := run_make_row' (P := Try.prog) 22 3 (.int .i64 0) 8 Try.underlying22 int_info rfl .i64 .i64 n (by omega) (by omega)
  have HA := hide ha
  clear ha
  go_enter Try.func52, Try.ntmps52
  go_wp2_with fail
  refine (isGraph_any _ _ _ f _ _ (by omega) ((HA.out.alloc _).alloc _)).mono ?_
  rintro e w1 ⟨rfl, hb1⟩
  have HR := hide ((Arr.box_at (w.alloc (.cells #[.slice (some ⟨g, 0, none⟩) n c, .bool own] 27)) 27 _ _ (b := w.heap.size + 1) (by simp)).all hb1)
  have hp := ((Arr.box w 27 (.slice (some ⟨g, 0, none⟩) n c) (.bool own)).alloc (.cells #[.slice none 0 0, .bool false] 27)).all hb1
  have c0 : w1.cell? ⟨w.heap.size, 0, none⟩ = some (.slice (some ⟨g, 0, none⟩) n c) := hp.cell (by omega)
  have c1 : w1.cell? ⟨w.heap.size, 1, none⟩ = some (.bool own) := hp.cell (by omega)
  have hz := hb1.size
  simp only [World.size_alloc] at hz
  have hl : w.heap.size < w1.heap.size := by omega
  have HA1 := hide (((HA.out.alloc _).alloc _).all hb1)
  have HB := hide ((by go_grown : Below w.heap.size w _).trans (hb1.mono (by simp; omega)))
  clear hb1 hp
  go_wp2_with (with_reducible refine wpList_copy_arr rfl (.tmp 15) (.tmp 17) 22 rfl 3 Try.underlying22 int_size w1.heap.size n n n c (some ⟨g, 0, none⟩) (iv f) (fun _ => .int .i64 0) rfl rfl (Nat.le_refl _) (Arr.made w1 _ n 3) (Src.of_arr (HA1.out.alloc _)) (fun _ _ => rfl) ?_; intro w2 ha2 hg2; have hr := (HR.out.alloc _).grown hg2 (by omega); have r0 := hr.cell (k := 0) (by omega); have r1 := hr.cell (k := 1) (by omega); have z0 := hr.frozen 0; have z1 := hr.frozen 1; have HR2 := hide hr; have HA2 := hide ha2; have HG2 := hide hg2; clear hr ha2 hg2)
  have hz2 := HG2.out.size
  simp only [World.size_alloc] at hz2
  have HB2 := hide ((HB.out.trans (by go_grown : Below w.heap.size w1 _)).grown HG2.out (by simp; omega) (fun k hk => by injection hk; omega))
  refine bodyPost_ret (v := .tuple #[.agg #[.slice (some ⟨w1.heap.size, 0, none⟩) n n, .bool own2], .bool true]) (by simp [results, Try.results52, go_sem, r0, r1]) rfl ?_
  exact ⟨w1.heap.size, n, rfl, by omega, ((HA2.out.congr (fun k hk => by rw [if_pos hk])).far (by simp; omega) _).far (by simp; omega) _, by have h := HB2.out; go_grown⟩
end Go.Proofs.Ytmlklmdenhhjnaa
