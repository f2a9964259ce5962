import Derived.Test.YtodbhokokdckkaaK
import Derived.Test.YtodbhokokdckkaaY
import Derived.Test.YtodbhokokdckkaaI
import Derived.Test.YtodbhokokdckkaaW1
import Derived.Test.YtodbhokokdckkaaZB
namespace Go.Proofs.Ytodbhokokdckkaa
open Go.RowKit
set_option maxHeartbeats 400000
theorem below_of_none {w w' : World} (h : w.grownBy w' none) : Below w.heap.size w w' := ⟨h.os, h.tape, h.output, h.size, fun k hk => h.block k hk (by simp)⟩
theorem own_empty (w : World) (e : TypeId) : (w.alloc (.cells #[] e)).ownsRow w.heap.size e 1 (.slice (some ⟨w.heap.size, 0, none⟩) 0 0) 0 [] :=
  World.ownsRow_made w #[] 0 (Nat.le_refl _) (by simp [maxLen]) rfl
/-- What a call that hands back a new slice leaves. -/
def NewArr (w : World) (n : Nat) (f : Nat → Int) (e : Ending) (w' : World) : Prop :=
  ∃ g c, e = .returned (.slice (some ⟨g, 0, none⟩) n c) ∧ w.heap.size ≤ g ∧ Arr w' 3 g n (iv f) ∧ Below w.heap.size w w'
theorem l1Own_any (A : Option Addr) (n c : Nat) (f : Nat → Int) (w : World) (h1 : 0 < n) (hn : n ≤ 1048576) (hs : Src w A n (iv f)) : Calls Try.prog 107 #[.slice A n c] w (NewArr w n f) := by
  obtain ⟨i0, hi, hz0, hz1, hz2⟩ := info_parts int_info
  have HS := hide hs
  clear hs
  go_enter Try.func107, Try.ntmps107
  go_wp2_with (at_builtin; refine wpList_append_new rfl (.tmp 3) (.tmp 4) 22 rfl w.heap.size 3 i0 (.int .i64 0) 8 Try.underlying22 hi hz0 hz1 hz2 rfl (.slice (some ⟨w.heap.size, 0, none⟩) 0 0) rfl (own_empty w 3) A n c (iv f) rfl h1 (HS.out.alloc _) (fun _ _ => rfl) (by omega) (by omega) (by simp) ?_; intro g c' w1 hg ha hgr)
  go_ret
  refine ⟨g, c', rfl, hg, ha, ?_⟩
  exact (by go_grown : Below w.heap.size w _).grown hgr (by simp) (fun k hk => by injection hk with hk; exact Nat.le_of_eq hk)
theorem grOwn_any (g n c : Nat) (f : Nat → Int) (own own2 : Bool) (w : World) (h1 : 0 < n) (hn : n ≤ 1048576) (ha : Arr w 3 g n (iv f)) :
    Calls Try.prog 74 #[.agg #[.slice (some ⟨g, 0, none⟩) n c, .bool own], .bool own2] w (GraphVal w n f own2) := by
  have HA := hide ha
  clear ha
  go_enter Try.func74, Try.ntmps74
  go_wp2_with fail
  refine (l1Own_any _ _ _ f _ h1 hn (by exact Src.of_arr ((HA.out.alloc _).alloc _))).mono ?_
  rintro e w1 ⟨g1, c1, rfl, hg1, ha1, hb1⟩
  simp only [World.size_alloc] at hg1
  have hr := (Arr.box_at (w.alloc (.cells #[.slice (some ⟨g, 0, none⟩) n c, .bool own] 26)) 26 _ _ (b := w.heap.size + 1) (by simp)).all hb1
  have hz := hb1.size
  simp only [World.size_alloc] at hz
  have r0 := hr.cell (k := 0) (by omega)
  have r1 := hr.cell (k := 1) (by omega)
  have z0 := hr.frozen 0
  have z1 := hr.frozen 1
  have HA1 := hide ha1
  have HB := hide ((by go_grown : Below w.heap.size w _).trans (hb1.mono (by simp; omega)))
  clear ha1 hb1 hr
  go_wp2
  refine bodyPost_ret (v := .agg #[.slice (some ⟨g1, 0, none⟩) n c1, .bool own2]) (by simp [results, Try.results74, go_sem, r0, r1]) rfl ?_
  exact ⟨g1, c1, rfl, by omega, (HA1.out.far (by simp; omega) _).far (by simp; omega) _, by have h := HB.out; go_grown⟩
theorem int_size : (Try.prog.info? 3).map (·.size) = some 1 := by kernel_rfl
end Go.Proofs.Ytodbhokokdckkaa
