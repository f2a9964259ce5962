import Derived.Test.YtibikoajejfdeaaSK
import Derived.Test.YtibikoajejfdeaaQB
import Derived.Deep.RegionHeld3
namespace Go.Proofs.Ytibikoajejfdeaa
open Go.RowKit
set_option maxHeartbeats 2000000
theorem set95 (Ba Bn g n c : Nat) (T : Nat → Nat) (i : Nat) (w : World) (hn : n ≤ 16) (hi : i < n) (hT : ∀ j, j < n → T j < 2 ^ n) (hba : Blk w 27 Ba #[.slice (some ⟨g, 0, none⟩) n c]) (hbn : Blk w 3 Bn #[.int .i64 n]) (ha : Arr w 3 g n (iv (nv T))) :
    Calls Try.prog 50 #[.int .i64 i, .pointer (some ⟨Ba, 0, none⟩), .pointer (some ⟨Bn, 0, none⟩)] w fun e w' => e = .returned (.int .i64 (sv T n i : Nat)) ∧ Below w.heap.size w w' := by
  have h16 := pow16n hn
  have hFk := hT i hi
  have c0 := hba.cell 0
  have c1 := hbn.cell 0
  have c2 := ha.cell (k := i) hi
  simp only [iv, nv] at c2
  obtain ⟨s0, hs0⟩ : ∃ s, sv T n i = s := ⟨_, rfl⟩
  obtain ⟨x, hx⟩ : ∃ x, T i = x := ⟨_, rfl⟩
  rw [hx] at c2
  have e1 : bits .or .i64 (RowKit.wrap64 ((x : Int) * 2 ^ n)) (RowKit.wrap64 (2 ^ i)) = (s0 : Nat) := by rw [← hs0, ← hx]; exact or_shl (T i) n i (by omega) hn (by omega)
  rw [hs0]
  have hgl := ha.lt
  have hal := hba.lt
  have hnl := hbn.lt
  clear hT hba hbn ha hs0
  go_enter Try.func50, Try.ntmps50
  go_wp2
  go_region
  go_wp2
  go_ret
  exact ⟨rfl, (Below.refl _ _).drew⟩
theorem basis94 (Ba Bn g n c : Nat) (T : Nat → Nat) (w : World) (hn : n ≤ 16) (hT : ∀ j, j < n → T j < 2 ^ n) (hba : Blk w 27 Ba #[.slice (some ⟨g, 0, none⟩) n c]) (hbn : Blk w 3 Bn #[.int .i64 n]) (ha : Arr w 3 g n (iv (nv T))) :
    Calls Try.prog 49 #[.int .i64 n, .func (.func 50) #[] #[.pointer (some ⟨Ba, 0, none⟩), .pointer (some ⟨Bn, 0, none⟩)]] w (GrownL w.heap.size w (pS T n n)) := by
  have hmf : ∀ (fn : Fn) (first cap : Array Value) (w : World), (Instr.makeFunc fn first cap).run Try.prog w = .ok (.func fn first cap) w := fun _ _ _ _ => rfl
  have HBA := hide hba
  have HBN := hide hbn
  have HA := hide ha
  have HT := hide hT
  clear hba hbn ha hT
  go_enter Try.func49, Try.ntmps49
  go_wp2
  go_loopw [10] (fun i wr => ∃ (k m : Nat) (A : Option Addr) (d : Nat), k ≤ n ∧ i = .int .i64 k ∧ Hid ((pS T n k).length = m) ∧ Blk wr 27 w.heap.size #[.slice A m d] ∧ OL wr (w.heap.size + 1) (.slice A m d) (pS T n k) ∧ Below w.heap.size w wr) (fun i _ => n - (intOf i).toNat)
  case atStart => exact ⟨0, 0, none, 0, by omega, rfl, hide rfl, Blk.new _ _ _ rfl, OL.nil _ _, by go_grown⟩
  case round =>
    obtain ⟨k, m, A, d, hk, rfl, HM, hx, ho, hb⟩ := hrel
    have hsz := hb.size
    have hxl := hx.lt
    have HX := hide hx
    have HO := hide ho
    have HB := hide hb
    have HBAr := hide (HBA.out.all hb)
    have HBNr := hide (HBN.out.all hb)
    have HAr := hide (HA.out.all hb)
    clear hx ho hb
    by_cases hlt : k < n
    · have HI := inv_at T n k (by omega)
      have HFit := hide (fit_of hn HI.bp (pS_lt HT.out k (by omega)))
      have HBas := hide HI.bp
      have hs32 := sv_lt (T := T) (n := n) (k := k) hlt (HT.out k hlt)
      have hs40 : sv T n k < 1099511627776 := Nat.lt_of_lt_of_le hs32 (pow40 (by omega))
      have hm64 : m ≤ 64 := by have h1 := HFit.out.2; have h2 := HM.out; omega
      clear HI hs32
      go_wp2_with fail
      refine (set95 _ _ _ _ _ T k _ hn hlt HT.out HBAr.out HBNr.out HAr.out).mono ?_
      rintro e w3 ⟨rfl, hb3⟩
      have HX3 := hide (HX.out.all hb3)
      have HO3 := hide (HO.out.all hb3)
      have HB3 := hide (HB.out.trans (hb3.mono (by omega)))
      clear hb3
      go_wp2_with fail
      refine (addF_any w.heap.size _ _ _ _ _ _ HFit.out.1 HBas.out hs40 HM.out hm64 HX3.out HO3.out).mono ?_
      rintro e w4 ⟨rfl, A4, n4, c4, hn4, hx4, ho4, hb4⟩
      have HN4 := hide hn4
      have HX4 := hide hx4
      have HO4 := hide ho4
      have HB4 := hide (HB3.out.trans hb4)
      clear hn4 hx4 ho4 hb4
      go_wp2
      go_roundw
      case rel => exact ⟨k + 1, n4, A4, c4, by omega, by go_num, HN4, HX4.out, HO4.out, HB4.out⟩
      case measure => simp [intOf]; omega
    · have hkn : k = n := by omega
      subst hkn
      have c0 : wr.cell? ⟨w.heap.size, 0, none⟩ = some (.slice A m d) := HX.out.cell 0
      go_wp2
      go_ret
      exact ⟨A, d, m, rfl, HM.out, by have h := HO.out; exact h.mono (by omega), HB.out⟩
theorem pressBasis_any (g n c : Nat) (T : Nat → Nat) (w : World) (hn : n ≤ 16) (hT : ∀ j, j < n → T j < 2 ^ n) (ha : Arr w 3 g n (iv (nv T))) :
    Calls Try.prog 42 #[.slice (some ⟨g, 0, none⟩) n c] w (GrownL w.heap.size w (pS T n n)) := by
  have hmf : ∀ (fn : Fn) (first cap : Array Value) (w : World), (Instr.makeFunc fn first cap).run Try.prog w = .ok (.func fn first cap) w := fun _ _ _ _ => rfl
  have HA := hide ha
  have HT := hide hT
  clear ha hT
  go_enter Try.func42, Try.ntmps42
  go_wp2_with fail
  have hbn := Blk.new (w.alloc (.cells #[.slice (some ⟨g, 0, none⟩) n c] 27)) 3 #[.int .i64 n] (b := w.heap.size + 1) (by simp)
  have hba := (Blk.new w 27 #[.slice (some ⟨g, 0, none⟩) n c] (b := w.heap.size) rfl).alloc (.cells #[.int .i64 n] 3)
  have ha2 := (HA.out.alloc (.cells #[.slice (some ⟨g, 0, none⟩) n c] 27)).alloc (.cells #[.int .i64 n] 3)
  refine (basis94 _ _ _ _ _ T _ hn HT.out hba hbn ha2).mono ?_
  rintro e w2 ⟨A, d, m, rfl, hm, ho, hb⟩
  have HM := hide hm
  have HO := hide ho
  have HB := hide hb
  clear hm ho hb hbn hba ha2
  go_wp2
  go_ret
  refine ⟨A, d, m, rfl, HM.out, HO.out.mono (by simp; omega), (by go_grown : Below w.heap.size w _).trans (HB.out.mono (by simp; omega))⟩
end Go.Proofs.Ytibikoajejfdeaa
