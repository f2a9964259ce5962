import Derived.Test.YtibikoajejfdeaaSI
namespace Go.Proofs.Ytibikoajejfdeaa
open Go.RowKit
set_option maxHeartbeats 2000000
theorem nat_ne0 {a : Nat} (h : a ≠ 0) : ((a : Int) == 0) = false := by simp; omega
/-- What adding a set to a captured basis leaves: the basis lies in the block Bb, its row behind. -/
def AddPost (Bb : Nat) (w : World) (L : List Nat) (e : Ending) (w' : World) : Prop :=
  e = .returned (.tuple #[]) ∧ ∃ (A : Option Addr) (n c : Nat), L.length = n ∧ Blk w' 27 Bb #[.slice A n c] ∧ OL w' (Bb + 1) (.slice A n c) L ∧ Below Bb w w'
/-- The basis behind k sets of the round that clears r's greatest element. -/
def mixL (L : List Nat) (r k : Nat) : List Nat := (L.take k).map (fun b => stp b r) ++ L.drop k
theorem mixL_length (L : List Nat) (r k : Nat) : (mixL L r k).length = L.length := by
  simp only [mixL, List.length_append, List.length_map, List.length_take, List.length_drop]; omega
theorem mixL_zero (L : List Nat) (r : Nat) : mixL L r 0 = L := by simp [mixL]
theorem mixL_all (L : List Nat) (r n : Nat) (h : L.length = n) : mixL L r n = L.map (fun b => stp b r) := by subst h; simp [mixL]
theorem mixL_get {L : List Nat} {r k : Nat} (h : k < L.length) : lv (mixL L r k) k = .int .i64 (L[k] : Nat) := by
  simp only [lv, mixL, List.getD_eq_getElem?_getD]
  rw [List.getElem?_append_right (by simp; omega)]
  simp [Nat.min_eq_left (Nat.le_of_lt h), h]
theorem mixL_succ {L : List Nat} {r k : Nat} (h : k < L.length) : mixL L r (k + 1) = (mixL L r k).set k (stp L[k] r) := by
  simp only [mixL]
  rw [List.take_succ_eq_append_getElem h, List.map_append, List.set_append_right _ _ (by simp; omega)]
  have : k - ((L.take k).map (fun b => stp b r)).length = 0 := by simp; omega
  rw [this, List.drop_eq_getElem_cons h]
  simp only [List.map_cons, List.map_nil, List.set_cons_zero, List.append_assoc, List.cons_append, List.nil_append]
theorem OL.set {w : World} {B g n c : Nat} {L : List Nat} (h : OL w B (.slice (some ⟨g, 0, none⟩) n c) L) (hn : L.length = n) (j x : Nat) :
    OL (w.setCell ⟨g, j, none⟩ (.int .i64 (x : Nat))) B (.slice (some ⟨g, 0, none⟩) n c) (L.set j x) := by
  subst hn
  have h2 := (World.ownsRow.stored h j (.int .i64 (x : Nat))).1
  unfold OL
  have e : vl (L.set j x) = (vl L).set j (.int .i64 (x : Nat)) := by simp [vl, List.map_set]
  rw [e, List.length_set]
  exact h2
theorem addF_zero (Bb : Nat) (A : Option Addr) (c n : Nat) (L : List Nat) (s : Nat) (w : World) (hL : M40 L) (hB : Bas L) (hs : s < 1099511627776) (hn : L.length = n) (hlen : n ≤ 64) (hbx : Blk w 27 Bb #[.slice A n c]) (hown : OL w (Bb + 1) (.slice A n c) L) (hz : lin L s = 0) :
    Calls Try.prog 53 #[.int .i64 s, .pointer (some ⟨Bb, 0, none⟩)] w (AddPost Bb w L) := by
  have hr : rd L s = 0 := by rw [rd_lin hB, hz]
  have HR := hide hr
  have HL := hide hL
  have HB := hide hB
  have HN := hide hn
  have HX := hide hbx
  have HO := hide hown
  have c0 : w.cell? ⟨Bb, 0, none⟩ = some (.slice A n c) := hbx.cell 0
  clear hr hz hL hB hn hbx hown
  go_enter Try.func53, Try.ntmps53
  go_wp2_with fail
  refine (reduced_any _ _ _ _ _ _ HL.out HB.out.1 hs HN.out (by omega) (HO.out.src HN.out)).mono ?_
  rintro e w2 ⟨rfl, rfl⟩
  simp only [HR.out]
  go_wp2
  go_end0
  exact ⟨rfl, A, n, c, HN.out, HX.out, HO.out, Below.refl _ _⟩
theorem addF_put (Bb : Nat) (A : Option Addr) (c n : Nat) (L : List Nat) (s : Nat) (w : World) (hL : M40 L) (hB : Bas L) (hs : s < 1099511627776) (hn : L.length = n) (hlen : n ≤ 64) (hbx : Blk w 27 Bb #[.slice A n c]) (hown : OL w (Bb + 1) (.slice A n c) L) (hz : lin L s ≠ 0) :
    Calls Try.prog 53 #[.int .i64 s, .pointer (some ⟨Bb, 0, none⟩)] w (AddPost Bb w (put L (lin L s))) := by
  obtain ⟨r, hr⟩ : ∃ r, lin L s = r := ⟨_, rfl⟩
  have hrr : rd L s = r := by rw [rd_lin hB, hr]
  have hcl : Cl L r := by rw [← hr]; exact lin_clean hB s
  rw [hr] at hz ⊢
  have hr40 : r < 1099511627776 := by rw [← hrr]; exact rd40 hL hs
  have hlog := log40 hz hr40
  have hbl := hbx.lt
  have HR := hide hrr
  have HC := hide hcl
  have HL := hide hL
  have HB := hide hB
  have HN := hide hn
  have HX := hide hbx
  have HO := hide hown
  have c0 : w.cell? ⟨Bb, 0, none⟩ = some (.slice A n c) := hbx.cell 0
  clear hr hrr hL hB hn hbx hown hcl
  go_enter Try.func53, Try.ntmps53
  go_wp2_with fail
  refine (reduced_any _ _ _ _ _ _ HL.out HB.out.1 hs HN.out (by omega) (HO.out.src HN.out)).mono ?_
  rintro e w2 ⟨rfl, rfl⟩
  simp only [HR.out]
  have er : ((r : Int) == 0) = false := nat_ne0 hz
  go_wp2
  clear c0
  go_loopw [14] (fun i wr => ∃ k : Nat, k ≤ n ∧ i = .int .i64 k ∧ Blk wr 27 Bb #[.slice A n c] ∧ OL wr (Bb + 1) (.slice A n c) (mixL L r k) ∧ Below Bb w2 wr) (fun i _ => n - (intOf i).toNat)
  case atStart => exact ⟨0, by omega, rfl, HX.out, by rw [mixL_zero]; exact HO.out, Below.refl _ _⟩
  case round =>
    obtain ⟨k, hk, rfl, hx, ho, hb⟩ := hrel
    have c0 : wr.cell? ⟨Bb, 0, none⟩ = some (.slice A n c) := hx.cell 0
    have f0 : wr.frozen? ⟨Bb, 0, none⟩ = false := hx.frozen 0
    have hbr := hx.lt
    have HX' := hide hx
    have HO' := hide ho
    have HB' := hide hb
    have hml : Hid ((mixL L r k).length = n) := hide (by rw [mixL_length]; exact HN.out)
    clear hx ho hb HX HO
    by_cases hlt : k < n
    · have hkn : k < L.length := by rw [HN.out]; exact hlt
      rcases HO'.out.cases hml.out with ⟨_, h1, _⟩ | ⟨g, cur, rfl, hBg, hg, hnc, hm, hcs, hcur⟩
      · omega
      · obtain ⟨y, hy⟩ : ∃ y, L[k] = y := ⟨_, rfl⟩
        have hym : y ∈ L := by rw [← hy]; exact List.getElem_mem hkn
        have hy40 := HL.out y hym
        have hc : wr.cell? ⟨g, k, none⟩ = some (.int .i64 (y : Nat)) := by rw [hg.cell, hcur k hlt, mixL_get hkn, hy]
        have hfz : wr.frozen? ⟨g, k, none⟩ = false := hg.frozen k
        have HK : Hid (mixL L r (k + 1) = (mixL L r k).set k (stp y r)) := hide (by rw [mixL_succ hkn, hy])
        have HY : Hid ((mixL L r k).set k y = mixL L r k) := hide (by
          apply List.ext_getElem?
          intro j
          rw [List.getElem?_set]
          by_cases hj : k = j
          · subst hj
            have h1 := mixL_get (r := r) hkn
            have h2 : k < (mixL L r k).length := by rw [hml.out]; exact hlt
            rw [lv_get h2, hy] at h1
            injection h1 with _ h1
            rw [if_pos rfl, if_pos h2, List.getElem?_eq_getElem h2]
            congr 1; omega
          · rw [if_neg hj])
        have e1 := i64_xor_nat y r (by omega) (by omega)
        have hne : g ≠ Bb := by omega
        clear hy hym hkn hg hcur hcs
        cases hbit : y.testBit r.log2
        · have HS : Hid (stp y r = y) := hide (by rw [stp, hbit]; rfl)
          go_wp2_with (first | (go_at_call 37; refine (greatest_any _ _ hr40 hz).mono ?_; rintro e w3 ⟨rfl, rfl⟩) | (go_at_call 40; refine (hasG_any _ _ (by omega) (by omega) _).mono ?_; rintro e w3 ⟨rfl, rfl⟩; simp only [Int.toNat_natCast, bt_nat, hbit]))
          go_roundw
          case rel => exact ⟨k + 1, by omega, by go_num, HX'.out, by rw [HK.out, HS.out, HY.out]; exact HO'.out, HB'.out⟩
          case measure => simp [intOf]; omega
        · have HS : Hid (stp y r = y ^^^ r) := hide (by rw [stp, hbit]; rfl)
          go_wp2_with (first | (go_at_call 37; refine (greatest_any _ _ hr40 hz).mono ?_; rintro e w3 ⟨rfl, rfl⟩) | (go_at_call 40; refine (hasG_any _ _ (by omega) (by omega) _).mono ?_; rintro e w3 ⟨rfl, rfl⟩; simp only [Int.toNat_natCast, bt_nat, hbit]))
          go_roundw
          case rel => exact ⟨k + 1, by omega, by go_num, HX'.out.far (by simp; omega) _, by rw [HK.out, HS.out]; exact HO'.out.set hml.out k _, HB'.out.setCell (by simp; omega) _⟩
          case measure => simp [intOf]; omega
    · have hkn : k = n := by omega
      subst hkn
      have HM : Hid (mixL L r k = L.map (fun b => stp b r)) := hide (mixL_all L r k HN.out)
      obtain ⟨p, hp⟩ : ∃ p, (mixL L r k).countP (fun x => decide (x < r)) = p := ⟨_, rfl⟩
      have hpn : p ≤ k := by have := List.countP_le_length (p := fun x => decide (x < r)) (l := mixL L r k); rw [hml.out, hp] at this; exact this
      have HPut : Hid (insL (mixL L r k) p r = put L r) := hide (by rw [← hp, HM.out]; exact ins_put HB.out hz HC.out)
      have HP := hide hp
      have hle := HB'.out.size
      clear hp
      go_wp2_with fail
      refine (search_any (Bb + 1) _ _ _ _ _ _ HO'.out hml.out (by omega) (by rw [HM.out]; exact stp_sorted HB.out hz HC.out)).mono ?_
      rintro e w3 ⟨⟨b, rfl⟩, q, rfl⟩
      simp only [HP.out]
      have c1 : (wr.drewN q).cell? ⟨Bb, 0, none⟩ = some (.slice A k c) := c0
      have f1 : (wr.drewN q).frozen? ⟨Bb, 0, none⟩ = false := f0
      have HX2 : Hid (Blk (wr.drewN q) 27 Bb #[.slice A k c]) := hide (HX'.out.drewN q)
      have HO2 : Hid (OL (wr.drewN q) (Bb + 1) (.slice A k c) (mixL L r k)) := hide HO'.out
      have HB2 : Hid (Below Bb w2 (wr.drewN q)) := hide (below_drewN HB'.out q)
      have hz2 : (wr.drewN q).heap.size = wr.heap.size := rfl
      obtain ⟨wd, hwd⟩ : ∃ wd, wr.drewN q = wd := ⟨_, rfl⟩
      rw [hwd] at c1 f1 HX2 HO2 HB2 hz2 ⊢
      have hbd : Bb < wd.heap.size := by omega
      clear hwd c0 f0 HX' HO' HB' hz2
      go_wp2_with fail
      refine (insert_any (Bb + 1) _ _ _ _ _ _ wd.heap.size _ (HO2.out.alloc _) hml.out hpn (by omega) (Blk.new _ _ _ rfl) (fun g hg => by have := World.ownsRow.lt HO2.out g (by rw [hg]; rfl); omega) (by simp; omega)).mono ?_
      rintro e w4 ⟨A4, c4, n4, rfl, hn4, ho4, hb4⟩
      have hx4 := (HX2.out.alloc (.cells #[.int .i64 (r : Nat)] 3)).below hb4 (by omega)
      have f4 : w4.frozen? ⟨Bb, 0, none⟩ = false := hx4.frozen 0
      have c4 : w4.cell? ⟨Bb, 0, none⟩ = some (.slice A k c) := hx4.cell 0
      rw [HPut.out] at hn4 ho4
      have HN4 := hide hn4
      have HX4 := hide hx4
      have HO4 := hide ho4
      have HB4 := hide (((HB2.out.alloc (by omega) (.cells #[.int .i64 (r : Nat)] 3))).trans (hb4.mono (by omega)))
      clear hn4 hx4 ho4 hb4 c1 f1
      go_wp2
      go_end0
      refine ⟨rfl, A4, n4, _, HN4.out, HX4.out.set 0 _, HO4.out.far (by simp) _, HB4.out.setCell (by simp) _⟩
end Go.Proofs.Ytibikoajejfdeaa
