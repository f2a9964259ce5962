/-
Pairs put in their places: what a sort by the first numbers does. Nothing here speaks of the program.
-/
import Derived.Test.YtmcimfblhpflnaaDoorZb
import Derived.Shelf.SlSortCmp.Small
namespace Go.Proofs.YtmcimfblhpflnaaDoor
/-- Pairs compared: the first numbers, and then the second ones. -/
def cmpP (a b : Nat × Nat) : Int := if a.1 < b.1 then -1 else if b.1 < a.1 then 1 else if a.2 < b.2 then -1 else if b.2 < a.2 then 1 else 0
theorem cmpP_neg (a b : Nat × Nat) : cmpP a b < 0 ↔ a.1 < b.1 ∨ (a.1 = b.1 ∧ a.2 < b.2) := by
  unfold cmpP
  by_cases h1 : a.1 < b.1
  · simp [h1]
  · by_cases h2 : b.1 < a.1
    · have : ¬ a.1 = b.1 := by omega
      simp [h1, h2, this]
    · have h3 : a.1 = b.1 := by omega
      by_cases h4 : a.2 < b.2
      · simp [h3, h4]
      · by_cases h5 : b.2 < a.2 <;> simp [h3, h4, h5]
/-- A block and the pair that it holds. -/
abbrev Ent := Nat × (Nat × Nat)
def entC {Q : List Ent} (x y : { e : Ent // e ∈ Q }) : Int := cmpP x.1.2 y.1.2
theorem entC_swo {Q : List Ent} : Go.Sort.SWO (ltOf (entC (Q := Q))) := by
  refine ⟨fun x => ?_, fun x y z h1 h2 => ?_, fun x y z h1 h2 => ?_⟩
  · unfold ltOf entC
    exact decide_eq_false (by rw [cmpP_neg]; omega)
  · unfold ltOf entC at *
    have h1 := (cmpP_neg _ _).1 (of_decide_eq_true h1)
    have h2 := (cmpP_neg _ _).1 (of_decide_eq_true h2)
    exact decide_eq_true ((cmpP_neg _ _).2 (by omega))
  · unfold ltOf entC at *
    have h1 := mt (cmpP_neg _ _).2 (of_decide_eq_false h1)
    have h2 := mt (cmpP_neg _ _).2 (of_decide_eq_false h2)
    exact decide_eq_false (mt (cmpP_neg _ _).1 (by omega))
theorem attach_map_val {Q : List Ent} : (Q.attach.map (·.1)) = Q := List.attach_map_subtype_val Q
/-- What a sort leaves of a list of pairs with distinct first numbers. -/
theorem sorted_ents {Q : List Ent} [Inhabited { e : Ent // e ∈ Q }] (hd : (Q.map (·.2)).Pairwise fun a b => a.1 ≠ b.1) {d' : Array { e : Ent // e ∈ Q }}
    (hp : Go.Sort.PermIn 0 Q.attach.toArray.size Q.attach.toArray d') (hs : Go.Sort.SortedIn (ltOf entC) 0 Q.attach.toArray.size d') :
    d'.size = Q.length ∧ (d'.toList.map (·.1)).Perm Q ∧ (d'.toList.map (·.1.2)) = sortE (Q.map (·.2)) := by
  have hsz : d'.size = Q.length := by have := hp.1; simpa using this
  have hperm : d'.toList.Perm Q.attach := by
    have h := hp.2.2
    have e1 : (d'.extract 0 Q.attach.toArray.size) = d' := by
      have : Q.attach.toArray.size = d'.size := by rw [hsz]; simp
      rw [this]; simp
    have e2 : (Q.attach.toArray.extract 0 Q.attach.toArray.size) = Q.attach.toArray := by
      have h : Q.attach.toArray.size = Q.attach.length := by simp
      apply Array.ext'
      rw [Array.toList_extract]
      simp
      exact List.take_of_length_le (by simp)
    rw [e1, e2] at h
    simpa using h
  have hq : (d'.toList.map (·.1)).Perm Q := by
    have := hperm.map (·.1)
    rwa [attach_map_val] at this
  have hmm : d'.toList.map (·.1.2) = (d'.toList.map (·.1)).map (·.2) := by simp [Function.comp_def]
  have hpp : (d'.toList.map (·.1.2)).Perm (Q.map (·.2)) := by rw [hmm]; exact hq.map _
  refine ⟨hsz, hq, ?_⟩
  have hdd : (d'.toList.map (·.1.2)).Pairwise fun a b => a.1 ≠ b.1 := (hpp.pairwise_iff (fun h => Ne.symm h)).2 hd
  have hle : (d'.toList.map (·.1.2)).Pairwise fun a b => ¬ b.1 < a.1 := by
    rw [List.pairwise_iff_getElem]
    intro i j hi hj hij
    simp only [List.length_map, Array.length_toList] at hi hj
    have h := hs i j (Nat.zero_le _) hij (by simpa [hsz] using hj)
    rw [getElem!_pos d' i hi, getElem!_pos d' j hj] at h
    unfold ltOf entC at h
    have h2 := mt (cmpP_neg _ _).2 (of_decide_eq_false h)
    simp only [List.getElem_map, Array.getElem_toList]
    omega
  have hr : (d'.toList.map (·.1.2)).Pairwise fun a b => a.1 < b.1 := (hdd.and hle).imp fun ⟨h1, h2⟩ => by omega
  exact rising_one hr (sortE_rising hd) (hpp.trans (sortE_perm _).symm)
/-- How the model puts a pair into its place. -/
theorem putE_at {e : Nat × Nat} : ∀ {L : List (Nat × Nat)} {k : Nat}, k ≤ L.length → (∀ j (hj : j < k) (hl : j < L.length), L[j].1 < e.1) → (∀ (hl : k < L.length), ¬ L[k].1 < e.1) → putE e L = L.take k ++ e :: L.drop k
  | [], k, hk, _, _ => by
    have : k = 0 := by simpa using hk
    subst this; rfl
  | a :: r, 0, _, _, h2 => by
    have := h2 (by simp)
    unfold putE
    rw [if_neg (by simpa using this)]; rfl
  | a :: r, k + 1, hk, h1, h2 => by
    have h0 := h1 0 (by omega) (by simp)
    unfold putE
    rw [if_pos (by simpa using h0)]
    rw [putE_at (L := r) (k := k) (by simpa using hk) (fun j hj hl => by have h := h1 (j + 1) (by omega) (by rw [List.length_cons]; omega); rwa [List.getElem_cons_succ] at h) (fun hl => by have h := h2 (by rw [List.length_cons]; omega); rwa [List.getElem_cons_succ] at h)]
    rfl
end Go.Proofs.YtmcimfblhpflnaaDoor
