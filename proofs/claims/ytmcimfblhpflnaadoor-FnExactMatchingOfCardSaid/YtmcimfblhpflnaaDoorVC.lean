/-
A list of pairs sorted by slices.SortFunc with slices.Compare.
-/
import Derived.Test.YtmcimfblhpflnaaDoorVA
import Derived.Test.YtmcimfblhpflnaaDoorVB
import Derived.Ground.NamesProg
import Derived.Ground.SlsfProg
import Derived.Shelf.Lay
import Derived.Shelf.Small.Bits
namespace Go.Proofs
open Go.Shelf
shelf_lay Lays.n125 Nm 125 at Tryd as Tryd.lenS
shelf_lay_g SlLaysF.n6 Slsf 6 at Tryd 61 as Tryd.sortF
end Go.Proofs
namespace Go.Proofs.YtmcimfblhpflnaaDoor
open Go.RowKit Go.Sort Go.Shelf
set_option maxHeartbeats 1000000
theorem cmpI_any (x y : Nat) (w : World) : Calls Tryd.prog 86 #[.int .i64 x, .int .i64 y] w fun e w' => e = .returned (.int .i64 (if x < y then -1 else if y < x then 1 else 0)) ∧ w' = w := by
  have hn : ∀ (z : Int) (W : World), Calls Tryd.prog 113 #[.int .i64 z] W fun e w' => e = .returned (.bool false) ∧ w' = W := by
    intro z W
    go_enter Tryd.func113, Tryd.ntmps113
    go_wp2
    go_ret
    exact ⟨rfl, rfl⟩
  by_cases h1 : x < y
  · rw [if_pos h1]
    have h1' : (x : Int) < (y : Int) := by omega
    go_enter Tryd.func86, Tryd.ntmps86
    go_wp2_with (go_at_call 113; refine (hn _ _).mono ?_; rintro e w1 ⟨rfl, rfl⟩)
    go_ret
    exact ⟨rfl, rfl⟩
  · rw [if_neg h1]
    have h1' : ¬ (x : Int) < (y : Int) := by omega
    by_cases h2 : y < x
    · rw [if_pos h2]
      have h2' : (y : Int) < (x : Int) := by omega
      go_enter Tryd.func86, Tryd.ntmps86
      go_wp2_with (go_at_call 113; refine (hn _ _).mono ?_; rintro e w1 ⟨rfl, rfl⟩)
      go_ret
      exact ⟨rfl, rfl⟩
    · rw [if_neg h2]
      have h2' : ¬ (y : Int) < (x : Int) := by omega
      go_enter Tryd.func86, Tryd.ntmps86
      go_wp2_with (go_at_call 113; refine (hn _ _).mono ?_; rintro e w1 ⟨rfl, rfl⟩)
      go_ret
      exact ⟨rfl, rfl⟩
theorem cmpPair_any (g h : Nat) (a b : Nat × Nat) (w : World) (a0 : w.cell? ⟨g, 0, none⟩ = some (.int .i64 (a.1 : Nat))) (a1 : w.cell? ⟨g, 1, none⟩ = some (.int .i64 (a.2 : Nat)))
    (b0 : w.cell? ⟨h, 0, none⟩ = some (.int .i64 (b.1 : Nat))) (b1 : w.cell? ⟨h, 1, none⟩ = some (.int .i64 (b.2 : Nat))) :
    Calls Tryd.prog 62 #[.slice (some ⟨g, 0, none⟩) 2 2, .slice (some ⟨h, 0, none⟩) 2 2] w fun e w' => e = .returned (.int .i64 (cmpP a b)) ∧ ∃ q, w' = w.drewN q := by
  have c0 := cmpI_any a.1 b.1
  have c1 := cmpI_any a.2 b.2
  obtain ⟨u, hu⟩ : ∃ u : Int, (if a.1 < b.1 then (-1 : Int) else if b.1 < a.1 then 1 else 0) = u := ⟨_, rfl⟩
  obtain ⟨v, hv⟩ : ∃ v : Int, (if a.2 < b.2 then (-1 : Int) else if b.2 < a.2 then 1 else 0) = v := ⟨_, rfl⟩
  have e : cmpP a b = if u = 0 then v else u := by
    rw [← hu, ← hv]
    unfold cmpP
    by_cases h1 : a.1 < b.1
    · simp [h1]
    · by_cases h2 : b.1 < a.1
      · simp [h1, h2]
      · simp [h1, h2]
  rw [hu] at c0
  rw [hv] at c1
  rw [e]
  have C0 := hide c0
  have C1 := hide c1
  clear c0 c1 hu hv e
  go_enter Tryd.func62, Tryd.ntmps62
  go_wp2
  go_loopw [11] (fun i wr => ∃ k : Nat, k ≤ 2 ∧ i = .int .i64 k ∧ (0 < k → u = 0) ∧ (1 < k → v = 0) ∧ ∃ q, wr = w.drewN q) (fun i _ => 2 - (intOf i).toNat)
  case atStart => exact ⟨0, by omega, rfl, by omega, by omega, 0, rfl⟩
  case round =>
    obtain ⟨k, hk, rfl, h0, h1, q, rfl⟩ := hrel
    match k, hk with
    | 0, _ =>
      by_cases hu0 : u = 0
      · go_wp2_with (go_at_call 86; refine (C0.out _).mono ?_; rintro e w1 ⟨rfl, rfl⟩)
        go_roundw
        case rel => exact ⟨1, by omega, rfl, fun _ => hu0, by omega, _, by first | rfl | (simp only [drewN_drewN]; rfl)⟩
        case measure => simp [intOf]
      · go_wp2_with (go_at_call 86; refine (C0.out _).mono ?_; rintro e w1 ⟨rfl, rfl⟩)
        go_ret
        exact ⟨rfl, _, rfl⟩
    | 1, _ =>
      have hu0 := h0 (by omega)
      by_cases hv0 : v = 0
      · go_wp2_with (go_at_call 86; refine (C1.out _).mono ?_; rintro e w1 ⟨rfl, rfl⟩)
        go_roundw
        case rel => exact ⟨2, by omega, rfl, fun _ => hu0, fun _ => hv0, _, by first | rfl | (simp only [drewN_drewN]; rfl)⟩
        case measure => simp [intOf]
      · go_wp2_with (go_at_call 86; refine (C1.out _).mono ?_; rintro e w1 ⟨rfl, rfl⟩)
        go_ret
        exact ⟨rfl, _, rfl⟩
    | 2, _ =>
      have hu0 := h0 (by omega)
      have hv0 := h1 (by omega)
      go_wp2
      go_ret
      exact ⟨rfl, _, rfl⟩
theorem len_small (n : Nat) (W : World) (h : n ≤ 12) : Calls Tryd.prog 85 #[.int .u64 n] W fun e w' => (∃ l : Int, e = .returned (.int .i64 l)) ∧ w' = W := by
  have hc := (Any.bits_Len Tryd.lenS n W (by omega) (by omega))
  change Calls Tryd.prog 85 _ _ _ at hc
  exact hc.mono fun _ _ ⟨he, hw⟩ => ⟨⟨_, he⟩, hw⟩
/-- A list of pairs that a call owns: the row from block B on, each pair in a block of its own from lo on, the blocks distinct. -/
structure EQ (w : World) (B lo : Nat) (v : Value) (Q : List Ent) : Prop where
  row : w.ownsRow B 22 1 v Q.length (Q.map fun e => .slice (some ⟨e.1, 0, none⟩) 2 2)
  ent : ∀ e ∈ Q, lo ≤ e.1 ∧ Arr w 3 e.1 2 (pv e.2)
  nd : (Q.map (·.1)).Nodup
theorem EQ.nil (w : World) (B lo : Nat) : EQ w B lo (.slice none 0 0) [] := ⟨World.ownsRow_nil _ _ _ _, by simp, by simp⟩
theorem EQ.all {w w' : World} {B lo : Nat} {v : Value} {Q : List Ent} (h : EQ w B lo v Q) (hb : Below w.heap.size w w') : EQ w' B lo v Q :=
  ⟨own_below h.row hb, fun e he => ⟨(h.ent e he).1, (h.ent e he).2.all hb⟩, h.nd⟩
theorem own_entype {w : World} {base : Nat} {v : Value} {n : Nat} {xs : List Value} (h : w.ownsRow base 22 1 v n xs) {g m : Nat} {f : Nat → Value} (ha : Arr w 3 g m f) : some g ≠ v.ownBlock := own_type h ha
theorem EQ.lt {w : World} {B lo : Nat} {v : Value} {Q : List Ent} (h : EQ w B lo v Q) {e : Ent} (he : e ∈ Q) : e.1 < w.heap.size := (h.ent e he).2.lt
/-- The row's block. -/
theorem EQ.cells {w : World} {B lo : Nat} {v : Value} {Q : List Ent} (h : EQ w B lo v Q) (hne : Q ≠ []) :
    ∃ r cap, v = .slice (some ⟨r, 0, none⟩) Q.length cap ∧ B ≤ r ∧ r < w.heap.size ∧ (∀ e ∈ Q, e.1 ≠ r) ∧ ∀ j (hj : j < Q.length), w.cell? ⟨r, j, none⟩ = some (.slice (some ⟨Q[j].1, 0, none⟩) 2 2) ∧ w.frozen? ⟨r, j, none⟩ = false := by
  have h1 := h.row
  rcases h1.2 with ⟨rfl, h0⟩ | ⟨r, cap, cur, rfl, hB, hh, hle, _, hs, ht⟩
  · simp at h0; exact absurd h0 hne
  · have hl : r < w.heap.size := (Array.getElem?_eq_some_iff.1 hh).1
    refine ⟨r, cap, rfl, hB, hl, fun e he er => own_type h1 (h.ent e he).2 (by rw [er]; rfl), fun j hj => ⟨?_, ?_⟩⟩
    · have : (Q.map fun e => Value.slice (some ⟨e.1, 0, none⟩) 2 2)[j]? = some (.slice (some ⟨Q[j].1, 0, none⟩) 2 2) := by simp [hj]
      rw [← ht, List.getElem?_take, if_pos (by omega)] at this
      simp [World.cell?, hh]
      simpa using this
    · simp [World.frozen?, hh]
theorem putRow_block {α : Type} [Inhabited α] (enc : α → Value) (w : World) (r : Nat) (d : Array α) (k : Nat) (hk : k ≠ r) : (putRow enc w r 0 d).heap[k]? = w.heap[k]? := by
  unfold putRow mapBlock
  simp only [Array.getElem?_modify]
  rw [if_neg (by omega)]
theorem putRow_size {α : Type} [Inhabited α] (enc : α → Value) (w : World) (r : Nat) (d : Array α) : (putRow enc w r 0 d).heap.size = w.heap.size := by
  unfold putRow mapBlock
  simp
theorem below_putRow {α : Type} [Inhabited α] (enc : α → Value) (w : World) (r B : Nat) (d : Array α) (hB : B ≤ r) (hz : B ≤ w.heap.size) : Below B w (putRow enc w r 0 d) :=
  ⟨rfl, rfl, rfl, by rw [putRow_size]; exact Nat.le_refl _, fun k hk => putRow_block enc w r d k (by omega)⟩
end Go.Proofs.YtmcimfblhpflnaaDoor
