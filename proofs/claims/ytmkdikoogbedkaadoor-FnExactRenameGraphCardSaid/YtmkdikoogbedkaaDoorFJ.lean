import Derived.Test.YtmkdikoogbedkaaDoorFI
import Derived.Test.YtmkdikoogbedkaaDoorZB
import Derived.Test.YtmkdikoogbedkaaDoorH
import Derived.Test.YtmkdikoogbedkaaDoorMB
import Derived.Deep.RegionHeld3
namespace Go.Proofs.YtmkdikoogbedkaaDoor
open Go.RowKit
set_option maxHeartbeats 1000000
theorem toIntS_new (A : Option Addr) (n c : Nat) (f : Nat → Int) (w : World) (hn : n ≤ 1048576) (hs : Src w A n (iv f)) :
    Calls Tryd.prog 13 #[.slice A n c] w fun e w' => ∃ g, e = .returned (.slice (some ⟨g, 0, none⟩) n n) ∧ w.heap.size ≤ g ∧ Arr w' 3 g n (iv f) ∧ Below w.heap.size w w' :=
  (toIntS_any A n c f w hn hs).mono fun _ _ ⟨he, ha, hb⟩ => ⟨_, he, Nat.le_refl _, ha, hb⟩
theorem eqIntS_below (A A' : Option Addr) (n c c' : Nat) (f : Nat → Int) (w : World) (hn : n ≤ 1048576) (hs : Src w A n (iv f)) (hs' : Src w A' n (iv f)) :
    Calls Tryd.prog 16 #[.slice A n c, .slice A' n c'] w fun e w' => e = .returned (.bool true) ∧ Below w.heap.size w w' :=
  (eqIntS_true A A' n c c' f w hn hs hs').mono fun e w' ⟨he, j, hj⟩ => ⟨he, by subst hj; exact below_drewN (Below.refl _ _) _⟩
theorem renImpl_as (g n c : Nat) (F V G : Nat → Nat) (own : Bool) (b off mc : Nat) (w : World) (hn : n ≤ 16) (hF : ∀ j, j < n → F j < 2 ^ n) (hV : ∀ j, j < n → V j < n) (hgd : goodB n (nv F) = true) (hnm : namesB n n (nv V) = true)
    (hG : LinkTo n V (fun x y => x < y ∧ (F x).testBit y = true) G)
    (ha : Arr w 3 g n (iv (nv F))) (hs : Src w (some ⟨b, off, none⟩) n (iv (nv V))) (hbl : b < w.heap.size) (hT : Tab w) :
    Calls Tryd.prog 14 #[.agg #[.slice (some ⟨g, 0, none⟩) n c, .bool own], .slice (some ⟨b, off, none⟩) n mc] w (GraphOk w n (nv G) own) := by
  refine (renImpl_ok g n c F V own b off mc w hn hF hV hgd hnm ha hs hbl hT).mono fun e w' ⟨G', ⟨g', he, hl, ha', hb'⟩, hG'⟩ => ?_
  have hgood := goodB_iff.1 hgd
  have h1 : LinkTo n V (fun x y => x < n ∧ y < n ∧ (F x).testBit y = true) G' := hG'.congr fun a b ha hb => ⟨fun h => ⟨ha, hb, h⟩, fun h => h.2.2⟩
  have h2 : LinkTo n V (fun x y => x < n ∧ y < n ∧ x < y ∧ (F x).testBit y = true) G := hG.congr fun a b ha hb => ⟨fun h => ⟨ha, hb, h⟩, fun h => h.2.2⟩
  have hsame := h1.same h2 (fun a b ⟨ha, hb, h⟩ => by
    have h3 := hgood.2.2.2 a ha b hb (by show bt ((F a : Nat) : Int) b = true; rw [bt_nat]; exact h)
    have h4 : (F b).testBit a = true := by
      have := h3.2
      change bt ((F b : Nat) : Int) a = true at this
      rw [bt_nat] at this; exact this
    have h5 := h3.1
    rcases Nat.lt_or_ge a b with h6 | h6
    · exact .inl ⟨ha, hb, h6, h⟩
    · exact .inr ⟨hb, ha, by omega, h4⟩) (fun a b ⟨ha, hb, _, h⟩ => .inl ⟨ha, hb, h⟩)
  exact ⟨g', he, hl, ha'.congr (fun k hk => by show Value.int .i64 ((G' k : Nat) : Int) = Value.int .i64 ((G k : Nat) : Int); rw [hsame k hk]), hb'⟩
theorem names_nat {m : Nat} {v : Nat → Int} (h : NamesTo m m v) : ∃ V : Nat → Nat, (∀ k, k < m → v k = nv V k) ∧ (∀ k, k < m → V k < m) ∧ NamesTo m m (nv V) := by
  have e : ∀ k, k < m → v k = nv (fun k => (v k).toNat) k := fun k hk => by
    have := (h k hk).1
    simp only [nv]; omega
  refine ⟨fun k => (v k).toNat, e, fun k hk => by have := (h k hk).1; show (v k).toNat < m; omega, fun j hj => ?_⟩
  rw [← e j hj]
  exact ⟨(h j hj).1, fun i hi => by rw [← e i (by omega)]; exact (h j hj).2 i hi⟩
end Go.Proofs.YtmkdikoogbedkaaDoor
