/-
A list of lists of ints as an argument, opened.
-/
import Derived.Test.YtcpbbpgiicakcaaP
import Derived.Test.YtcpbbpgiicakcaaGA
import Derived.Deep.Matrix
namespace Go.Proofs.Ytcpbbpgiicakcaa
open Go.ChangeShapes Go.WideShapes Go.ChangeAt Go.RowKit Go.Joins Go.Deep
theorem Try.cells22 : Try.prog.cellsOf 22 = 1 := by kernel_rfl
set_option maxRecDepth 100000 in
theorem open_rows_arg {H : Type} {enc : TypeId × Value → H} {W : World} {base : Nat} {v : Value} {d : DataW H} {p : List MemPlace} (hv : Value.okWide Try.prog W .any base 37 v)
    (h : DataW.Trod enc Try.prog W 0 (fun _ => true) true 37 v d p) :
    ∃ A n c Ai ln C R, v = .slice A n c ∧ n ≤ 9223372036854775807 ∧ (∀ k, k < n → ln k ≤ 9223372036854775807) ∧ RD W A n Ai ln C R := by
  obtain ⟨a0, len, cap, rfl⟩ := okWide_slice Try.underlying37 hv
  obtain ⟨fuel, hf⟩ := h
  rcases open_int_rows Try.underlying37 Try.underlying22 Try.underlying3 Try.cells22 Try.cells3 (x := (d, p)) (fuel := fuel) (by simpa [Value.cells] using hf) with ⟨hcs, _⟩ | ⟨a, n, c, Ai, L, C, Z, hcs, _, hl, hm, _, hcell⟩
  · simp at hcs
    obtain ⟨rfl, rfl, rfl⟩ := hcs
    exact ⟨none, 0, 0, fun _ => none, fun _ => 0, fun _ => 0, fun _ _ => 0, rfl, by omega, fun k hk => absurd hk (by omega), fun k hk => absurd hk (by omega)⟩
  · simp at hcs
    obtain ⟨rfl, rfl, rfl⟩ := hcs
    rw [maxLen_eq] at hm
    refine ⟨some a, len, cap, Ai, L, C, fun k j => (Z k).getD j 0, rfl, by omega, fun k hk => ?_, fun k hk => ?_⟩
    · obtain ⟨_, h1, h2, _⟩ := hcell k (by omega)
      rw [maxLen_eq] at h2
      omega
    · obtain ⟨hc, h1, h2, hz, _, hnil, hin⟩ := hcell k (by omega)
      obtain ⟨b, off, spot⟩ := a
      have hspot : spot = none := by simpa [Addr.add] using World.cell?_spot (hcell 0 (by omega)).1
      subst hspot
      rw [add_plain] at hc
      refine ⟨b, off, rfl, World.block_lt_of_cell? W _ hc, hc, fun j hj => ?_⟩
      cases hA : Ai k with
      | none => have := hnil hA; omega
      | some a' =>
        have hcc := (hin a' hA).2
        obtain ⟨b', off', rfl, hc'⟩ := ints_at (zs := Z k) (k := .i64) (a := a') (fun i hi => hcc i (by omega)) (by omega)
        have := hc' j (by omega)
        exact ⟨b', off', rfl, World.block_lt_of_cell? W _ this, this⟩
end Go.Proofs.Ytcpbbpgiicakcaa
