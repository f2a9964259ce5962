import Derived.Test.YtodbhokokdckkaaJN
namespace Go.Proofs.Ytodbhokokdckkaa
open Go.RowKit
set_option maxHeartbeats 400000
theorem Arr.own_apart {w w' : World} {base : Nat} {e : TypeId} {v : Value} {n : Nat} {xs : List Value} {t : TypeId} {g m : Nat} {f : Nat → Value} (h : Arr w t g m f) (ho : w.ownsRow base e 1 v n xs) (hne : e ≠ t) (hg : w.grownBy w' v.ownBlock) : Arr w' t g m f :=
  h.of_block (hg.block g h.lt (by
    intro hv
    rcases ho.2 with ⟨rfl, _⟩ | ⟨g2, cap, cur, rfl, _, hh, _⟩
    · simp [Value.ownBlock] at hv
    · injection hv with hv
      change g = g2 at hv
      subst hv
      obtain ⟨c, hb, _, _⟩ := h
      rw [hh] at hb
      injection hb with hb
      injection hb with _ ht
      exact hne ht))
theorem own_far {w : World} {base : Nat} {e : TypeId} {v : Value} {n : Nat} {xs : List Value} (h : w.ownsRow base e 1 v n xs) {t : TypeId} {g m : Nat} {f : Nat → Value} (ha : Arr w t g m f) (hne : e ≠ t) (i : Nat) (u : Value) : (w.setCell ⟨g, i, none⟩ u).ownsRow base e 1 v n xs :=
  own_setCell h (by
    intro hv
    rcases h.2 with ⟨rfl, _⟩ | ⟨g2, cap, cur, rfl, _, hh, _⟩
    · simp [Value.ownBlock] at hv
    · injection hv with hv
      change g2 = g at hv
      subst hv
      obtain ⟨c, hb, _, _⟩ := ha
      rw [hh] at hb
      injection hb with hb
      injection hb with _ ht
      exact hne ht) u
/-- A new slice that its caller may append to. -/
def OwnArr (w : World) (n : Nat) (f : Nat → Int) (e : Ending) (w' : World) : Prop :=
  ∃ A c, e = .returned (.slice A n c) ∧ w'.ownsRow w.heap.size 3 1 (.slice A n c) n (rowL n (iv f)) ∧ Below w.heap.size w w'
theorem l1Own_own (A : Option Addr) (n c : Nat) (f : Nat → Int) (w : World) (h1 : 0 < n) (hn : n ≤ 1048576) (hs : Src w A n (iv f)) : Calls Try.prog 107 #[.slice A n c] w (OwnArr w n f) := by
  obtain ⟨i0, hi, hz0, hz1, hz2⟩ := info_parts int_info
  obtain ⟨b, off, rfl, _, _⟩ := hs 0 h1
  have hl := rowL_length n (iv f)
  have hcells : ∀ j u, (rowL n (iv f))[j]? = some u → (w.alloc (.cells #[] 3)).cell? ((⟨b, off, none⟩ : Addr).add j) = some u := fun j u hj => by
    have hjm : j < n := by
      rcases Nat.lt_or_ge j n with h | h
      · exact h
      · rw [List.getElem?_eq_none (by rw [hl]; exact h)] at hj; cases hj
    rw [rowL_get n _ j hjm] at hj
    obtain ⟨b', off', e1, _, hcell⟩ := hs.alloc (.cells #[] 3) j hjm
    injection e1 with e1
    injection e1 with e2 e3
    subst e2 e3
    rw [Go.WideShapes.add_plain, hcell]; exact hj
  have HC := hide hcells
  clear hs hcells
  go_enter Try.func107, Try.ntmps107
  go_wp2_with (at_builtin; refine wpList_append_own_at _ rfl (.tmp 3) (.tmp 4) 22 rfl w.heap.size 3 i0 (.int .i64 0) 1 8 Try.underlying22 hi hz0 hz1 hz2 rfl (by decide) (.slice (some ⟨w.heap.size, 0, none⟩) 0 0) 0 [] rfl (own_empty w 3) ⟨b, off, none⟩ n c (rowL n (iv f)) rfl (by rw [hl]; omega) HC.out (by intro u hu; simp only [rowL, List.mem_map] at hu; obtain ⟨k, _, rfl⟩ := hu; rfl) (by simp only [maxLen]; omega) (by omega) (by simp) ?_; intro v' w1 ho hg _ _)
  rw [Nat.zero_add, List.nil_append] at ho
  obtain ⟨A', c', rfl⟩ := own_form ho
  go_ret
  exact ⟨A', c', rfl, ho, (by go_grown : Below w.heap.size w _).grown hg (by simp) (fun k hk => by injection hk with hk; exact Nat.le_of_eq hk)⟩
/-- A new graph to whose slice its caller may append. -/
def OwnGraph (w : World) (n : Nat) (f : Nat → Int) (own : Bool) (e : Ending) (w' : World) : Prop :=
  ∃ B A c, w.heap.size ≤ B ∧ e = .returned (.agg #[.slice A n c, .bool own]) ∧ w'.ownsRow B 3 1 (.slice A n c) n (rowL n (iv f)) ∧ Below w.heap.size w w'
theorem grOwn_own (g n c : Nat) (f : Nat → Int) (own own2 : Bool) (w : World) (h1 : 0 < n) (hn : n ≤ 1048576) (ha : Arr w 3 g n (iv f)) :
    Calls Try.prog 74 #[.agg #[.slice (some ⟨g, 0, none⟩) n c, .bool own], .bool own2] w (OwnGraph w n f own2) := by
  have HA := hide ha
  clear ha
  go_enter Try.func74, Try.ntmps74
  go_wp2_with fail
  refine (l1Own_own _ _ _ f _ h1 hn (by exact Src.of_arr ((HA.out.alloc _).alloc _))).mono ?_
  rintro e w1 ⟨A1, c1, rfl, ho1, hb1⟩
  have hr := (Arr.box_at (w.alloc (.cells #[.slice (some ⟨g, 0, none⟩) n c, .bool own] 26)) 26 _ _ (b := w.heap.size + 1) (by simp)).all hb1
  have hz := hb1.size
  simp only [World.size_alloc] at hz
  have r0 := hr.cell (k := 0) (by omega)
  have r1 := hr.cell (k := 1) (by omega)
  have z0 := hr.frozen 0
  have z1 := hr.frozen 1
  have HR := hide hr
  have HO1 := hide ho1
  have HB := hide ((by go_grown : Below w.heap.size w _).trans (hb1.mono (by simp; omega)))
  clear ho1 hb1 hr
  go_wp2
  refine bodyPost_ret (v := .agg #[.slice A1 n c1, .bool own2]) (by simp [results, Try.results74, go_sem, r0, r1]) rfl ?_
  exact ⟨_, A1, c1, by simp; omega, rfl, own_far (own_far HO1.out HR.out (by decide) _ _) (HR.out.set 0 _) (by decide) _ _, by have h := HB.out; go_grown⟩
end Go.Proofs.Ytodbhokokdckkaa
