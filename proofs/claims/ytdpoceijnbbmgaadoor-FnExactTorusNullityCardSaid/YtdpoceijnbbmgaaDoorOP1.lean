/-
The sum of the maps in a list whose indices are in a set.
-/
import Derived.Test.YtdpoceijnbbmgaaDoorON
namespace Go.Proofs.YtdpoceijnbbmgaaDoor
open Go.RowKit
set_option maxHeartbeats 4000000
theorem mm_plus (v : Value) (w : World) : (method 226 61 v "loop.example/g01146/impl.plus").run Tryd.prog w = .ok (157, v) w := by kernel_rfl
theorem nm_plus (A : Option Addr) (n c : Nat) (w : World) : (nilAhead 226 61 (.agg #[.slice A n c]) "loop.example/g01146/impl.plus").run Tryd.prog w = .ok (some false) w := by kernel_rfl
attribute [local go_sem] mm_plus nm_plus
theorem effN_lt_of {T : Nat → Nat} {n K : Nat} (hT : ∀ i, i < K → T i < 2 ^ n) (p : Nat) : effN T p K < 2 ^ n := by
  have : ∀ k, k ≤ K → effN T p k < 2 ^ n := by
    intro k
    induction k with
    | zero => intro _; exact Nat.two_pow_pos n
    | succ k ih =>
      intro hk
      simp only [effN]
      split
      · exact Nat.xor_lt_two_pow (ih (by omega)) (hT k (by omega))
      · exact ih (by omega)
  exact this K (Nat.le_refl _)
theorem two_below {W w' : World} {a b o p : Nat} {u v : Value} (hb : Below W.heap.size W w') (h : W.cell? ⟨a, o, none⟩ = some u ∧ W.cell? ⟨b, p, none⟩ = some v) : w'.cell? ⟨a, o, none⟩ = some u ∧ w'.cell? ⟨b, p, none⟩ = some v :=
  ⟨cell_below hb (World.block_lt_of_cell? W _ h.1) h.1, cell_below hb (World.block_lt_of_cell? W _ h.2) h.2⟩
theorem ofM_F (Bt Bl n K i gt gi : Nat) (A : Option Addr) (c : Nat) (S P : Nat → Nat) (w : World) (hi : i < K) (hn : n ≤ 40) (ht : Blk w 61 Bt #[.slice (some ⟨gt, 0, none⟩) n n]) (hl : w.cell? ⟨Bl, 0, none⟩ = some (.slice A K c)) (hA : ∃ b off, A = some ⟨b, off, none⟩ ∧ w.cell? ⟨b, off + i, none⟩ = some (.slice (some ⟨gi, 0, none⟩) n n))
    (hS : Arr w 57 gt n (iv (nv S))) (hP : Arr w 57 gi n (iv (nv P))) (hSl : ∀ k, k < n → S k < 4611686018427387904) (hPl : ∀ k, k < n → P k < 4611686018427387904) :
    Calls Tryd.prog 120 #[.int .i64 i, .pointer (some ⟨Bt, 0, none⟩), .pointer (some ⟨Bl, 0, none⟩)] w fun e w' => e = .returned (.tuple #[]) ∧ ∃ g w3, w' = w3.setCell ⟨Bt, 0, none⟩ (.slice (some ⟨g, 0, none⟩) n n) ∧ w.heap.size ≤ g ∧ Arr w3 57 g n (iv (nv fun k => S k ^^^ P k)) ∧ Below w.heap.size w w3 := by
  obtain ⟨b2, off, rfl, hc⟩ := hA
  have c1 : w.cell? ⟨Bt, 0, none⟩ = some (.slice (some ⟨gt, 0, none⟩) n n) := ht.cell 0
  have hki : (i : Int) < K := by omega
  have htl := ht.lt
  have HTB := hide ht
  have HP := hide (mapPlus_any (some ⟨gt, 0, none⟩) (some ⟨gi, 0, none⟩) n n n S P w.drew (by omega) (Src.of_arr hS) (Src.of_arr hP) hSl hPl)
  clear hS hP hSl hPl ht
  go_enter Tryd.func120, Tryd.ntmps120
  go_wp2_with fail
  go_region_law (first | (go_simp; go_at_call 157; refine HP.out.mono ?_; rintro e w3 ⟨g3, rfl, hlo3, ha3, hb3⟩; have hlo4 : w.heap.size ≤ g3 := hlo3; have hb3 := (below_drewN (Below.refl _ w) 1).trans hb3; have x3 := (HTB.out.all hb3).frozen 0; have x4 : w3.cell? ⟨Bt, 0, none⟩ = some (.slice (some ⟨gt, 0, none⟩) n n) := (HTB.out.all hb3).cell 0; go_simp))
  all_goals
    go_end0
    exact ⟨rfl, g3, w3, rfl, hlo4, ha3, hb3⟩
/-- The total of the maps in the box Bt. -/
structure Tot (w : World) (lo Bt n : Nat) (S : Nat → Nat) : Prop where
  ex : ∃ g, lo ≤ g ∧ Blk w 61 Bt #[.slice (some ⟨g, 0, none⟩) n n] ∧ Arr w 57 g n (iv (nv S))
theorem arr_blk_ne {w : World} {g n b : Nat} {f : Nat → Value} {cs : Array Value} (ha : Arr w 57 g n f) (hb : Blk w 61 b cs) : g ≠ b := fun e => by
  obtain ⟨c2, h2, _⟩ := ha
  rw [e] at h2
  unfold Blk at hb
  rw [hb] at h2
  injection h2 with h2
  injection h2 with _ h2
  cases h2
theorem grown_arr {w w' : World} {b g n : Nat} {t : TypeId} {f : Nat → Value} (h : Arr w t g n f) (hg : w.grownBy w' (some b)) (hne : g ≠ b) : Arr w' t g n f := h.of_block (hg.block g h.lt (fun e => by injection e with e; exact hne e))
theorem eachIn_ofM (lo Bt Bl n K p : Nat) (A : Option Addr) (c : Nat) (G : Nat → Nat) (P : Nat → Nat → Nat) (w : World) (hlo : lo ≤ w.heap.size) (hn : n ≤ 40) (hK : K ≤ 41) (hp : p < 2 ^ K) (hT : Tab w) (h1 : 1 < Bt) (hne : Bl ≠ Bt) (hA : ∀ g o, A = some ⟨g, o, none⟩ → g ≠ Bt)
    (ht : Tot w lo Bt n (fun _ => 0)) (hl : w.cell? ⟨Bl, 0, none⟩ = some (.slice A K c)) (hs : Src w A K (fun k => .slice (some ⟨G k, 0, none⟩) n n)) (hP : ∀ k, k < K → Arr w 57 (G k) n (iv (nv (P k)))) (hPl : ∀ k j, k < K → j < n → P k j < 2 ^ n) :
    Calls Tryd.prog 43 #[.int .i64 p, .func (.func 120) #[] #[.pointer (some ⟨Bt, 0, none⟩), .pointer (some ⟨Bl, 0, none⟩)]] w fun e w' => e = .returned (.tuple #[]) ∧ Tot w' lo Bt n (fun j => effN (fun k => P k j) p K) ∧ w.grownBy w' (some Bt) := by
  have hn40 : (2 : Nat) ^ n ≤ 1099511627776 := Nat.pow_le_pow_right (n := 2) (j := 40) (by decide) hn
  have hK41 : (2 : Nat) ^ K ≤ 2199023255552 := Nat.pow_le_pow_right (n := 2) (j := 41) (by decide) hK
  have HT := hide hT
  have HA := hide hA
  have HTT := hide ht
  have HL := hide hl
  have HS := hide hs
  have HP := hide hp
  have HPA := hide hP
  have HPL := hide hPl
  have hpb : p < 2199023255552 := by omega
  have HCL : Hid (∀ r j, j < n → curE (fun k => P k j) K 0 p r < 2 ^ n) := hide fun r j hj => Nat.xor_lt_two_pow (Nat.two_pow_pos n) (Nat.xor_lt_two_pow (effN_lt_of (fun k hk => hPl k j hk hj) p) (effN_lt_of (fun k hk => hPl k j hk hj) r))
  clear hT hA ht hl hs hp hP hPl
  go_enter Tryd.func43, Tryd.ntmps43
  go_wp2
  go_loopw [0] (fun x wr => ∃ r : Nat, x = .int .i64 r ∧ r < 2199023255552 ∧ Hid (r < 2 ^ K) ∧ Hid (Tot wr lo Bt n (fun j => curE (fun k => P k j) K 0 p r)) ∧ Hid (w.grownBy wr (some Bt))) (fun x _ => (intOf x).toNat)
  case atStart =>
    refine ⟨p, rfl, hpb, HP, hide ?_, hide (grownBy_of_below (Below.refl _ _) _)⟩
    obtain ⟨g, h0, h1, h2⟩ := HTT.out.ex
    exact ⟨g, h0, h1, h2.congr (fun j hj => by simp only [iv, nv]; rw [curE_start])⟩
  case round =>
    obtain ⟨r, rfl, hr, HR, HB, HG⟩ := hrel
    by_cases h0 : r = 0
    · subst h0
      have HE : Hid (∀ j, curE (fun k => P k j) K 0 p 0 = effN (fun k => P k j) p K) := hide fun j => by rw [curE_end, Nat.zero_xor]
      go_wp2
      go_end0
      refine ⟨rfl, ?_, HG.out⟩
      obtain ⟨g, h0, h1, h2⟩ := HB.out.ex
      exact ⟨g, h0, h1, h2.congr (fun j hj => by simp only [iv, nv]; rw [HE.out j])⟩
    · have hlow := ctz_low h0 (by have : (2 : Nat) ^ 64 = 18446744073709551616 := rfl; omega)
      obtain ⟨i, hi⟩ : ∃ i, Lib.ctz 64 r = i := ⟨_, rfl⟩
      rw [hi] at hlow
      have HI := hide hi
      have hin := bit_lt hlow.1 HR.out
      have hlt := low_lt hlow.1 hlow.2
      have HST : Hid (∀ j, curE (fun k => P k j) K 0 p (r &&& (r - 1)) = curE (fun k => P k j) K 0 p r ^^^ P i j) := hide fun j => curE_step (T := fun k => P k j) (s := 0) (p := p) hin hlow.1 hlow.2
      have hand : bits .and .i64 (r : Int) ((r : Int) - 1) = ((r &&& (r - 1) : Nat) : Int) := by
        rw [show (r : Int) - 1 = ((r - 1 : Nat) : Int) by omega]
        exact and_small _ _ (by omega) (by omega)
      obtain ⟨R, hR⟩ : ∃ R, r &&& (r - 1) = R := ⟨_, rfl⟩
      rw [hR] at hlt HST hand
      have hR2 : Hid (R < 2 ^ K) := hide (Nat.lt_trans hlt HR.out)
      have hneq : ((r : Int) == 0) = false := by simp; omega
      have hneq' : ((r : Int) != 0) = true := by simp; omega
      have hwu : IntKind.u64.wrap (r : Int) = (r : Int) := by rw [IntKind.wrap_u64]; omega
      have HTR := hide (HT.out.grown2 HG.out (by omega))
      obtain ⟨gt, _, hbt, hat⟩ := HB.out.ex
      have HBT := hide hbt
      have HAT := hide hat
      have HCL2 := hide (grown_cell HG.out hne HL.out)
      have HEL : Hid (∃ b off, A = some ⟨b, off, none⟩ ∧ wr.cell? ⟨b, off + i, none⟩ = some (.slice (some ⟨G i, 0, none⟩) n n)) := hide (by
        obtain ⟨b, off, hA2, hl2, hc2⟩ := HS.out i hin
        exact ⟨b, off, hA2, grown_cell HG.out (HA.out b off hA2) hc2⟩)
      obtain ⟨g0, _, hb0, _⟩ := HTT.out.ex
      have HPi := hide (grown_arr (HPA.out i hin) HG.out (arr_blk_ne (HPA.out i hin) hb0))
      have HSl : Hid (∀ k, k < n → curE (fun q => P q k) K 0 p r < 4611686018427387904) := hide fun k hk => by have := HCL.out r k hk; omega
      have HPl2 : Hid (∀ k, k < n → P i k < 4611686018427387904) := hide fun k hk => by have := HPL.out i k hin hk; omega
      clear hlow hR hi hbt hat hb0
      go_wp2_with (first
        | (go_at_call 83; refine (ctz_any _ (by omega) _ HTR.out).mono ?_; rintro e w3 ⟨rfl, rfl⟩; rw [HI.out])
        | (go_at_call 120; refine (ofM_F Bt Bl n K i gt (G i) A c _ (P i) _ hin hn HBT.out HCL2.out HEL.out HAT.out HPi.out HSl.out HPl2.out).mono ?_; rintro e w3 ⟨rfl, g5, w5, hw3, hlo5, ha5, hb5⟩))
      refine ⟨⟨R, rfl, by omega, hR2, hide ?_, hide ?_⟩, by simp [intOf]; omega⟩
      · subst hw3
        have hsg := HG.out.size
        refine ⟨g5, by omega, ?_, ?_⟩
        · have := (HBT.out.all hb5).set 0 (.slice (some ⟨g5, 0, none⟩) n n)
          simpa using this
        · refine ((ha5.far (p := ⟨Bt, 0, none⟩) (by have := HBT.out.lt; simp; omega) _).congr (fun j hj => ?_))
          simp only [iv, nv]
          rw [HST.out j]
      · subst hw3
        exact grownBy_setCell (grownBy_trans HG.out (grownBy_of_below hb5 _)) _
end Go.Proofs.YtdpoceijnbbmgaaDoor
