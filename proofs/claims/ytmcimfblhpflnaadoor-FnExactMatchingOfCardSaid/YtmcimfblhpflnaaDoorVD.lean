/-
slices.SortFunc of a list of pairs: the pairs lie in the order of their first numbers.
-/
import Derived.Test.YtmcimfblhpflnaaDoorVC
namespace Go.Proofs.YtmcimfblhpflnaaDoor
open Go.RowKit Go.Sort Go.Shelf
set_option maxHeartbeats 1000000
def encE {Q : List Ent} (e : { e : Ent // e ∈ Q }) : Value := .slice (some ⟨e.1.1, 0, none⟩) 2 2
theorem cell_sortWorld {α : Type} [Inhabited α] (enc : α → Value) (W : World) (blk off n : Nat) (dk : Array α) (os : Array Obj) (a : Addr) (h1 : a.block ≠ blk) (h2 : a.block < W.heap.size) : (sortWorld enc W blk off n dk os).cell? a = W.cell? a := by
  unfold sortWorld
  rw [cell?_grow _ _ _ (by rw [size_putRow]; exact h2), cell?_putRow_other enc _ blk off dk a (Or.inl h1)]
  rfl
theorem EQ.putRow {w : World} {B lo r cap : Nat} {Q : List Ent} [Inhabited { e : Ent // e ∈ Q }] (h : EQ w B lo (.slice (some ⟨r, 0, none⟩) Q.length cap) Q) (hne : Q ≠ []) {d : Array { e : Ent // e ∈ Q }} (hs : d.size = Q.length) (hp : (d.toList.map (·.1)).Perm Q) :
    EQ (Go.Sort.putRow encE w r 0 d) B lo (.slice (some ⟨r, 0, none⟩) Q.length cap) (d.toList.map (·.1)) := by
  have hnr : ∀ e ∈ Q, e.1 ≠ r := fun e he er => own_type h.row (h.ent e he).2 (by rw [er]; rfl)
  refine ⟨?_, fun e he => ?_, ?_⟩
  · have h1 := h.row
    refine ⟨by simp [hs], .inr ?_⟩
    rcases h1.2 with ⟨e0, h0⟩ | ⟨r', cap', cur, e0, hB, hh, hle, hmx, hsz, ht⟩
    · cases e0
    · injection e0 with e1 e2 e3
      injection e1 with e1
      injection e1 with e1
      subst e1 e3
      have hlen : (d.toList.map (·.1)).length = Q.length := by simp [hs]
      refine ⟨r, cap, putCells encE 0 d cur, by rw [hlen], hB, ?_, by rw [hlen]; exact hle, hmx, by simp [putCells, hsz], ?_⟩
      · unfold Go.Sort.putRow mapBlock
        dsimp only
        rw [Array.getElem?_modify, if_pos rfl, hh]
        rfl
      · apply List.ext_getElem?
        intro j
        rw [List.getElem?_take]
        simp only [List.length_map, Array.length_toList, hs, Nat.mul_one]
        by_cases hj : j < Q.length
        · rw [if_pos hj]
          simp only [putCells, Array.getElem?_toList, Array.getElem?_mapIdx, List.map_map, List.getElem?_map]
          have hjc : j < cur.size := by omega
          have hjd : j < d.size := by omega
          simp only [Array.getElem?_eq_getElem hjc, Array.getElem?_eq_getElem hjd, Option.map_some, Nat.zero_le, true_and, Nat.zero_add, hjd, if_true, Nat.sub_zero, getElem!_pos d j hjd]
          rfl
        · rw [if_neg hj]
          exact (List.getElem?_eq_none (by rw [List.length_map, List.length_map, Array.length_toList, hs]; omega)).symm
  · have he' := hp.mem_iff.1 he
    refine ⟨(h.ent e he').1, (h.ent e he').2.of_block (putRow_block _ _ _ _ _ (hnr e he'))⟩
  · exact (hp.map (·.1)).nodup_iff.2 h.nd
theorem sort_any (w : World) (B lo r cap m : Nat) (Q : List Ent) (hm : Q.length = m) (hQ : EQ w B lo (.slice (some ⟨r, 0, none⟩) m cap) Q) (hne : Q ≠ []) (hd : (Q.map (·.2)).Pairwise fun a b => a.1 ≠ b.1) (h12 : m ≤ 12) (hB : B ≤ w.heap.size) :
    Calls Tryd.prog 61 #[.slice (some ⟨r, 0, none⟩) m cap, .func (.func 62) #[] #[]] w fun e w' => e = .returned (.tuple #[]) ∧ ∃ Q' : List Ent, Q'.map (·.2) = sortE (Q.map (·.2)) ∧ Q'.length = m ∧ EQ w' B lo (.slice (some ⟨r, 0, none⟩) m cap) Q' ∧ Below B w w' ∧ ∀ k, k ≠ r → w'.heap[k]? = w.heap[k]? := by
  subst hm
  obtain ⟨r', cap', e0, hBr, hrl, hnr, hc⟩ := hQ.cells hne
  injection e0 with e1 e2 e3
  injection e1 with e1
  injection e1 with e1
  subst e1 e3
  obtain ⟨q0, hq0⟩ := List.exists_mem_of_ne_nil Q hne
  letI : Inhabited { e : Ent // e ∈ Q } := ⟨⟨q0, hq0⟩⟩
  have hsz : Q.attach.toArray.size = Q.length := by simp
  have hH : Holds encE w r 0 Q.attach.toArray := by
    intro j hj
    rw [hsz] at hj
    rw [Nat.zero_add, getElem!_pos _ j (by rw [hsz]; exact hj)]
    obtain ⟨h1, h2⟩ := hc j hj
    refine ⟨?_, h2⟩
    rw [h1]
    simp [encE]
  have hcmp : CmpReads Tryd.prog 62 #[] encE (entC (Q := Q)) r 0 Q.attach.toArray.size w := by
    intro mm os dk hdk x y
    have cx : ∀ (e : Ent), e ∈ Q → ∀ j v, w.cell? ⟨e.1, j, none⟩ = some v → (sortWorld encE w r 0 mm dk os).cell? ⟨e.1, j, none⟩ = some v := fun e he j v hv =>
      (cell_sortWorld encE w r 0 mm dk os ⟨e.1, j, none⟩ (hnr e he) (hQ.lt he)).trans hv
    have ax := (hQ.ent x.1 x.2).2
    have ay := (hQ.ent y.1 y.2).2
    exact cmpPair_any x.1.1 y.1.1 x.1.2 y.1.2 _ (cx _ x.2 0 _ (ax.cell (k := 0) (by omega))) (cx _ x.2 1 _ (ax.cell (k := 1) (by omega))) (cx _ y.2 0 _ (ay.cell (k := 0) (by omega))) (cx _ y.2 1 _ (ay.cell (k := 1) (by omega)))
  have eg : ∀ args w, (callFunc 62 args).run Tryd.prog w = .ok (.enter 62 args) w := enters_of Tryd.func62 (by kernel_rfl) rfl
  have hcon := Any.slices_SortFunc_small_sorted Tryd.sortF encE (fun _ => rfl) (entC (Q := Q)) entC_swo 62 #[] r 0 cap Q.attach.toArray w eg hcmp hH (by rw [hsz]; exact h12) (fun n W h => len_small n W h)
  rw [hsz] at hcon
  change Calls Tryd.prog 61 _ _ _ at hcon
  refine hcon.mono ?_
  rintro e w' ⟨rfl, d', n, hp, hs, rfl⟩
  rw [← hsz] at hp hs
  obtain ⟨g1, g2, g3⟩ := sorted_ents hd hp hs
  have hE := hQ.putRow hne g1 g2
  refine ⟨rfl, d'.toList.map (·.1), by rw [List.map_map]; exact g3, by simp [g1], hE.all (below_drewN (Below.refl _ _) n), below_drewN (below_putRow encE w r B d' hBr hB) n, fun k hk => ?_⟩
  exact putRow_block encE w r d' k hk
end Go.Proofs.YtmcimfblhpflnaaDoor
