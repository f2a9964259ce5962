/-
AddMaps: what both sides hand back.
-/
import Derived.Test.YtdpoceijnbbmgaaME
namespace Go.Proofs.Ytdpoceijnbbmgaa
open Go.RowKit
set_option maxHeartbeats 2000000
theorem addSpec_ok (A1 A2 : Option Addr) (n c1 c2 : Nat) (F G : Nat → Nat) (w : World) (h1 : 1 ≤ n) (hn : n ≤ 16) (hF : ∀ k, k < n → F k < 2 ^ n) (hG : ∀ k, k < n → G k < 2 ^ n) (hs1 : Src w A1 n (iv (nv F))) (hs2 : Src w A2 n (iv (nv G))) :
    Calls Try.prog 17 #[.slice A1 n c1, .slice A2 n c2] w (ArrRes w n (nv fun i => F i ^^^ G i)) := by
  have H1 := hide (mapB_of h1 hn hF)
  have H2 := hide (mapB_of h1 hn hG)
  have hp := p16 hn
  have HF : Hid (∀ k, k < n → F k < 4611686018427387904) := hide fun k hk => by have := hF k hk; omega
  have HG : Hid (∀ k, k < n → G k < 4611686018427387904) := hide fun k hk => by have := hG k hk; omega
  have HS1 := hide hs1
  have HS2 := hide hs2
  clear hF hG hs1 hs2 hp
  go_enter Try.func17, Try.ntmps17
  go_wp2_with fail
  refine (prGood_any _ _ _ (nv F) _ (by omega) HS1.out).mono ?_
  rintro e w' ⟨rfl, hw⟩
  subst w'
  rw [H1.out]
  go_wp2_with fail
  refine (prGood_any _ _ _ (nv G) _ (by omega) HS2.out).mono ?_
  rintro e w' ⟨rfl, hw⟩
  subst w'
  rw [H2.out]
  go_wp2_with fail
  refine (prAdd_any _ _ _ _ _ F G _ (by omega) (by omega) HS1.out HS2.out HF.out HG.out).mono ?_
  rintro e w1 ⟨g, c, rfl, hg, ha, hb⟩
  go_wp2
  go_ret2
  exact ⟨g, c, rfl, hg, ha, hb⟩
theorem addSpec_no (A1 A2 : Option Addr) (n m c1 c2 : Nat) (f h : Nat → Int) (w : World) (hn : n ≤ 1048576) (hm : m ≤ 1048576) (hs1 : Src w A1 n (iv f)) (hs2 : Src w A2 m (iv h)) (hno : mapsB n m f h = false) :
    Calls Try.prog 17 #[.slice A1 n c1, .slice A2 m c2] w (NoRes w) := by
  have HS1 := hide hs1
  have HS2 := hide hs2
  clear hs1 hs2
  cases h1 : mapB n f
  · have H1 := hide h1
    clear h1 hno
    go_enter Try.func17, Try.ntmps17
    go_wp2_with (first | (go_at_call 31; refine (prGood_any _ _ _ f _ hn HS1.out).mono ?_; rintro e w' ⟨rfl, hw⟩; subst w'; rw [H1.out]))
    go_ret2
    exact ⟨rfl, Below.refl _ _⟩
  · cases h2 : mapB m h
    · have H1 := hide h1
      have H2 := hide h2
      clear h1 h2 hno
      go_enter Try.func17, Try.ntmps17
      go_wp2_with fail
      refine (prGood_any _ _ _ f _ hn HS1.out).mono ?_
      rintro e w' ⟨rfl, hw⟩
      subst w'
      rw [H1.out]
      go_wp2_with fail
      refine (prGood_any _ _ _ h _ hm HS2.out).mono ?_
      rintro e w' ⟨rfl, hw⟩
      subst w'
      rw [H2.out]
      go_wp2
      go_ret2
      exact ⟨rfl, Below.refl _ _⟩
    · have H1 := hide h1
      have H2 := hide h2
      have he : n ≠ m := by
        intro he
        rw [mapsB, h1, h2] at hno
        simp [he] at hno
      have e1 : ((n : Int) == (m : Int)) = false := by simp; omega
      have e2 : ((n : Int) != (m : Int)) = true := by rw [bne, e1]; rfl
      clear h1 h2 hno he
      go_enter Try.func17, Try.ntmps17
      go_wp2_with fail
      refine (prGood_any _ _ _ f _ hn HS1.out).mono ?_
      rintro e w' ⟨rfl, hw⟩
      subst w'
      rw [H1.out]
      go_wp2_with fail
      refine (prGood_any _ _ _ h _ hm HS2.out).mono ?_
      rintro e w' ⟨rfl, hw⟩
      subst w'
      rw [H2.out]
      go_wp2
      go_ret2
      exact ⟨rfl, Below.refl _ _⟩
theorem addImpl_no (A1 A2 : Option Addr) (n m c1 c2 : Nat) (f h : Nat → Int) (w : World) (hn : n ≤ 1048576) (hm : m ≤ 1048576) (hs1 : Src w A1 n (iv f)) (hs2 : Src w A2 m (iv h)) (hno : mapsB n m f h = false) :
    Calls Try.prog 19 #[.slice A1 n c1, .slice A2 m c2] w (NoRes w) := by
  have HS1 := hide hs1
  have HS2 := hide hs2
  have HN := hide hno
  clear hs1 hs2 hno
  go_enter Try.func19, Try.ntmps19
  go_wp2_with fail
  refine (mapsSame_any _ _ _ _ _ _ f h _ hn hm HS1.out HS2.out).mono ?_
  rintro e w1 ⟨rfl, hb1⟩
  rw [HN.out]
  go_wp2
  go_ret2
  exact ⟨rfl, hb1⟩
theorem addImpl_ok (A1 A2 : Option Addr) (n c1 c2 : Nat) (F G : Nat → Nat) (w : World) (h1 : 1 ≤ n) (hn : n ≤ 16) (hF : ∀ k, k < n → F k < 2 ^ n) (hG : ∀ k, k < n → G k < 2 ^ n) (hs1 : Src w A1 n (iv (nv F))) (hs2 : Src w A2 n (iv (nv G))) :
    Calls Try.prog 19 #[.slice A1 n c1, .slice A2 n c2] w (ArrRes w n (nv fun i => F i ^^^ G i)) := by
  have HM : Hid (mapsB n n (nv F) (nv G) = true) := hide (by rw [mapsB, mapB_of h1 hn hF, mapB_of h1 hn hG]; simp)
  have hp := p16 hn
  have HF : Hid (∀ k, k < n → F k < 4611686018427387904) := hide fun k hk => by have := hF k hk; omega
  have HG : Hid (∀ k, k < n → G k < 4611686018427387904) := hide fun k hk => by have := hG k hk; omega
  have HS1 := hide hs1
  have HS2 := hide hs2
  clear hF hG hs1 hs2 hp
  go_enter Try.func19, Try.ntmps19
  go_wp2_with fail
  refine (mapsSame_any _ _ _ _ _ _ (nv F) (nv G) _ (by omega) (by omega) HS1.out HS2.out).mono ?_
  rintro e w1 ⟨rfl, hb1⟩
  rw [HM.out]
  have HS1b := hide (HS1.out.below hb1)
  have HS2b := hide (HS2.out.below hb1)
  have HB1 := hide hb1
  clear hb1
  go_wp2_with fail
  refine (setMapWith_any _ _ _ F _ (by omega) HS1b.out).mono ?_
  rintro e w2 ⟨g2, rfl, hl2, ha2, hb2⟩
  have HA2 := hide ha2
  have HS2c := hide (HS2b.out.below hb2)
  have HB2 := hide (HB1.out.trans (hb2.mono HB1.out.size))
  clear ha2 hb2
  go_wp2_with fail
  refine (setMapWith_any _ _ _ G _ (by omega) HS2c.out).mono ?_
  rintro e w3 ⟨g3, rfl, hl3, ha3, hb3⟩
  have HA3 := hide ha3
  have HA2b := hide (HA2.out.all hb3)
  have HB3 := hide (HB2.out.trans (hb3.mono HB2.out.size))
  clear ha3 hb3
  go_wp2_with fail
  refine (mapPlus_any _ _ _ _ _ F G _ (by omega) (Src.of_arr HA2b.out) (Src.of_arr HA3.out) HF.out HG.out).mono ?_
  rintro e w4 ⟨g4, rfl, hl4, ha4, hb4⟩
  have HA4 := hide ha4
  have HB4 := hide (HB3.out.trans (hb4.mono HB3.out.size))
  clear ha4 hb4
  go_wp2_with fail
  refine (mapList_any _ _ _ (fun i => F i ^^^ G i) _ (by omega) (Src.of_arr HA4.out)).mono ?_
  rintro e w5 ⟨g5, rfl, hl5, ha5, hb5⟩
  have hz4 := HB4.out.size
  have HB5 := hide (HB4.out.trans (hb5.mono hz4))
  go_wp2
  go_ret2
  exact ⟨g5, n, rfl, by omega, ha5, HB5.out⟩
end Go.Proofs.Ytdpoceijnbbmgaa
