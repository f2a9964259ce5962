import Derived.Test.YtodbhokokdckkaaSJ
import Derived.Deep.RegionHeld3
namespace Go.Proofs.Ytodbhokokdckkaa
open Go.RowKit
set_option maxHeartbeats 2000000
theorem add_bas_nz {L : List Nat} (h : Bas L) (s : Nat) : add L s = if lin L s = 0 then L else put L (lin L s) := rfl
theorem addF_any (Bb : Nat) (A : Option Addr) (c n : Nat) (L : List Nat) (s : Nat) (w : World) (hL : M40 L) (hB : Bas L) (hs : s < 1099511627776) (hn : L.length = n) (hlen : n ≤ 64) (hbx : Blk w 22 Bb #[.slice A n c]) (hown : OL w (Bb + 1) (.slice A n c) L) :
    Calls Try.prog 121 #[.int .i64 s, .pointer (some ⟨Bb, 0, none⟩)] w (AddPost Bb w (add L s)) := by
  by_cases hz : lin L s = 0
  · rw [add, if_pos hz]; exact addF_zero Bb A c n L s w hL hB hs hn hlen hbx hown hz
  · rw [add, if_neg hz]; exact addF_put Bb A c n L s w hL hB hs hn hlen hbx hown hz
theorem OL.mono {w : World} {B B' : Nat} {v : Value} {L : List Nat} (h : OL w B v L) (hB : B' ≤ B) : OL w B' v L := by
  refine ⟨h.1, ?_⟩
  rcases h.2 with h | ⟨g, cap, cur, h1, h2, h3⟩
  · exact .inl h
  · exact .inr ⟨g, cap, cur, h1, by omega, h3⟩
theorem three_below {W w' : World} {a b : Nat} {u0 u1 v0 : Value} (hb : Below W.heap.size W w')
    (h : W.cell? ⟨a, 0, none⟩ = some u0 ∧ W.cell? ⟨a, 1, none⟩ = some u1 ∧ W.cell? ⟨b, 0, none⟩ = some v0) : w'.cell? ⟨a, 0, none⟩ = some u0 ∧ w'.cell? ⟨a, 1, none⟩ = some u1 ∧ w'.cell? ⟨b, 0, none⟩ = some v0 := by
  obtain ⟨h1, h2, h3⟩ := h
  have l1 := World.block_lt_of_cell? W _ h1
  have l3 := World.block_lt_of_cell? W _ h3
  exact ⟨(hb.cell (p := ⟨a, 0, none⟩) l1).trans h1, (hb.cell (p := ⟨a, 1, none⟩) l1).trans h2, (hb.cell (p := ⟨b, 0, none⟩) l3).trans h3⟩
theorem set115 (Ba Bn g n c : Nat) (F : Nat → Nat) (own : Bool) (i : Nat) (w : World) (hn : n ≤ 16) (hi : i < n) (hF : ∀ j, j < n → F j < 2 ^ n) (hba : Arr w 26 Ba 2 (bx (.slice (some ⟨g, 0, none⟩) n c) (.bool own))) (hbn : Blk w 3 Bn #[.int .i64 n]) (ha : Arr w 3 g n (iv (nv F))) :
    Calls Try.prog 115 #[.int .i64 i, .pointer (some ⟨Ba, 0, none⟩), .pointer (some ⟨Bn, 0, none⟩)] w fun e w' => e = .returned (.int .i64 (sv (tog F own) n i : Nat)) ∧ Below w.heap.size w w' := by
  have h16 := pow16n hn
  have hFk := hF i hi
  have htk := tog_all (own := own) hF i hi
  have KK : Hid (w.drew.cell? ⟨Ba, 0, none⟩ = some (.slice (some ⟨g, 0, none⟩) n c) ∧ w.drew.cell? ⟨Ba, 1, none⟩ = some (.bool own) ∧ w.drew.cell? ⟨Bn, 0, none⟩ = some (.int .i64 n)) := hide ⟨hba.cell (k := 0) (by omega), hba.cell (k := 1) (by omega), hbn.cell 0⟩
  obtain ⟨s0, hs0⟩ : ∃ s, sv (tog F own) n i = s := ⟨_, rfl⟩
  have e1 : bits .or .i64 (IntKind.i64.wrap ((tog F own i : Nat) * 2 ^ n)) (IntKind.i64.wrap (2 ^ i)) = (s0 : Nat) := by rw [← hs0]; exact or_shl' (tog F own i) n i (by omega) hn (by omega)
  rw [hs0]
  have HAr := hide ha
  clear hF hba hbn ha hs0
  go_enter Try.func115, Try.ntmps115
  go_wp2
  go_region_held3 (fun w' => w'.cell? ⟨Ba, 0, none⟩ = some (.slice (some ⟨g, 0, none⟩) n c) ∧ w'.cell? ⟨Ba, 1, none⟩ = some (.bool own) ∧ w'.cell? ⟨Bn, 0, none⟩ = some (.int .i64 n)) (first | exact KK.out | exact three_below (by assumption) KK.out) ((go_at_call 116; refine (toggles_any _ _ _ F _ _ _ hn hi (by omega) (by exact HAr.out.drew)).mono ?_; rintro e w3 ⟨rfl, hb3⟩))
  have HB := hide ((Below.drew (Below.refl w.heap.size w)).trans hb3)
  go_wp2
  go_ret
  exact ⟨rfl, HB.out⟩
theorem basisOf115 (Ba Bn g n c : Nat) (F : Nat → Nat) (own : Bool) (w : World) (hn : n ≤ 16) (hF : ∀ j, j < n → F j < 2 ^ n) (hba : Arr w 26 Ba 2 (bx (.slice (some ⟨g, 0, none⟩) n c) (.bool own))) (hbn : Blk w 3 Bn #[.int .i64 n]) (ha : Arr w 3 g n (iv (nv F))) :
    Calls Try.prog 114 #[.int .i64 n, .func (.func 115) #[] #[.pointer (some ⟨Ba, 0, none⟩), .pointer (some ⟨Bn, 0, none⟩)]] w (GrownL w.heap.size w (pS (tog F own) n n)) := by
  have hmf : ∀ (fn : Fn) (first cap : Array Value) (w : World), (Instr.makeFunc fn first cap).run Try.prog w = .ok (.func fn first cap) w := fun _ _ _ _ => rfl
  have HBA := hide hba
  have HBN := hide hbn
  have HA := hide ha
  have HF := hide hF
  have HT := hide (tog_all (own := own) hF)
  clear hba hbn ha hF
  go_enter Try.func114, Try.ntmps114
  go_wp2
  go_loopw [10] (fun i wr => ∃ (k m : Nat) (A : Option Addr) (d : Nat), k ≤ n ∧ i = .int .i64 k ∧ Hid ((pS (tog F own) n k).length = m) ∧ Blk wr 22 w.heap.size #[.slice A m d] ∧ OL wr (w.heap.size + 1) (.slice A m d) (pS (tog F own) n k) ∧ Below w.heap.size w wr) (fun i _ => n - (intOf i).toNat)
  case atStart => exact ⟨0, 0, none, 0, by omega, rfl, hide rfl, Blk.new _ _ _ rfl, OL.nil _ _, by go_grown⟩
  case round =>
    obtain ⟨k, m, A, d, hk, rfl, HM, hx, ho, hb⟩ := hrel
    have hsz := hb.size
    have hxl := hx.lt
    have HX := hide hx
    have HO := hide ho
    have HB := hide hb
    have HBAr := hide (HBA.out.all hb)
    have HBNr := hide (HBN.out.all hb)
    have HAr := hide (HA.out.all hb)
    clear hx ho hb
    by_cases hlt : k < n
    · have HI := inv_at (tog F own) n k (by omega)
      have HFit := hide (fit_of hn HI.bp (pS_lt HT.out k (by omega)))
      have HBas := hide HI.bp
      have hs32 := sv_lt (T := tog F own) (n := n) (k := k) hlt (HT.out k hlt)
      have hs40 : sv (tog F own) n k < 1099511627776 := Nat.lt_of_lt_of_le hs32 (pow40 (by omega))
      have hm64 : m ≤ 64 := by have h1 := HFit.out.2; have h2 := HM.out; omega
      clear HI hs32
      go_wp2_with fail
      refine (set115 _ _ _ _ _ F own k _ hn hlt HF.out HBAr.out HBNr.out HAr.out).mono ?_
      rintro e w3 ⟨rfl, hb3⟩
      have HX3 := hide (HX.out.all hb3)
      have HO3 := hide (HO.out.all hb3)
      have HB3 := hide (HB.out.trans (hb3.mono (by omega)))
      clear hb3
      go_wp2_with fail
      refine (addF_any w.heap.size _ _ _ _ _ _ HFit.out.1 HBas.out hs40 HM.out hm64 HX3.out HO3.out).mono ?_
      rintro e w4 ⟨rfl, A4, n4, c4, hn4, hx4, ho4, hb4⟩
      have HN4 := hide hn4
      have HX4 := hide hx4
      have HO4 := hide ho4
      have HB4 := hide (HB3.out.trans hb4)
      clear hn4 hx4 ho4 hb4
      go_wp2
      go_roundw
      case rel => exact ⟨k + 1, n4, A4, c4, by omega, by go_num, HN4, HX4.out, HO4.out, HB4.out⟩
      case measure => simp [intOf]; omega
    · have hkn : k = n := by omega
      subst hkn
      have c0 : wr.cell? ⟨w.heap.size, 0, none⟩ = some (.slice A m d) := HX.out.cell 0
      go_wp2
      go_ret
      exact ⟨A, d, m, rfl, HM.out, by have h := HO.out; exact h.mono (by omega), HB.out⟩
end Go.Proofs.Ytodbhokokdckkaa
