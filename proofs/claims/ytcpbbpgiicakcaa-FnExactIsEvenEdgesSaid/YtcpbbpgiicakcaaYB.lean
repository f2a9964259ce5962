/-
impl.IsEvenEdges: the edges told, one after another.
-/
import Derived.Test.YtcpbbpgiicakcaaYA
import Derived.Test.YtcpbbpgiicakcaaJA
import Derived.Test.YtcpbbpgiicakcaaWD
import Derived.StillTailTactics
namespace Go.Proofs.Ytcpbbpgiicakcaa
open Go.RowKit Go.BigFrame
set_option maxHeartbeats 1000000
theorem oddC_any (g n c : Nat) (F : Nat → Nat) (own : Bool) (w : World) (hn : n ≤ 16) (hF : ∀ k, k < n → F k < 65536) (ha : Arr w 3 g n (iv (nv F))) :
    Calls Try.prog 47 #[.agg #[.slice (some ⟨g, 0, none⟩) n c, .bool own]] w fun e w' => e = .returned (.int .i64 (oddN F n : Nat)) ∧ Below w.heap.size w w' :=
  (odd_any g n c F own w hn hF ha).mono fun _ _ ⟨h1, h2⟩ => ⟨h1, h2 ▸ (Below.refl _ _).alloc (Nat.le_refl _) _⟩
/-- The neighbours that the first k edges tell. -/
def tl (R : Nat → Nat → Int) : Nat → Nat → Nat
  | 0 => fun _ => 0
  | k + 1 => lk (R k 0).toNat (R k 1).toNat (tl R k)
/-- Is edge k one of the graph, and not told yet? -/
def fresh (n : Nat) (F : Nat → Nat) (ln : Nat → Nat) (R : Nat → Nat → Int) (k : Nat) : Bool :=
  ordB n (ln k) (nv F) (R k) && !bt (nv (tl R k) (R k 0).toNat) (R k 1).toNat
def okT (n : Nat) (F : Nat → Nat) (ln : Nat → Nat) (R : Nat → Nat → Int) (m : Nat) : Prop := ∀ j, j < m → fresh n F ln R j = true
theorem tl_lt {n : Nat} {F : Nat → Nat} {ln : Nat → Nat} {R : Nat → Nat → Int} (hn : n ≤ 16) : ∀ m, okT n F ln R m → ∀ k, k < n → tl R m k < 65536
  | 0, _ => fun k _ => by simp [tl]
  | m + 1, h => by
    have h1 := h m (by omega)
    simp only [fresh, Bool.and_eq_true] at h1
    obtain ⟨_, i, j, hij, hj, e0, e1, _⟩ := ord_ok h1.1
    rw [tl, e0, e1]
    exact lk_lt (by simp; omega) (by simp; omega) (tl_lt hn m fun j hj => h j (by omega))
def EvAns (w : World) (n : Nat) (F : Nat → Nat) (m : Nat) (ln : Nat → Nat) (R : Nat → Nat → Int) (e : Ending) (w' : World) : Prop :=
  Below w.heap.size w w' ∧ ((okT n F ln R m ∧ e = .returned (.tuple #[.bool (((oddN (tl R m) n : Nat) : Int) == 0), .bool true])) ∨ (¬ okT n F ln R m ∧ e = .returned (.tuple #[.bool false, .bool false])))
theorem evEdges_no (g n c m d : Nat) (f : Nat → Int) (own : Bool) (E : Option Addr) (w : World) (hn : n ≤ 1048576) (hgd : goodB n f = false) (ha : Arr w 3 g n (iv f)) :
    Calls Try.prog 41 #[.agg #[.slice (some ⟨g, 0, none⟩) n c, .bool own], .slice E m d] w (Two w (.bool false) false) := by
  have HA := hide ha
  have HG := hide hgd
  clear ha hgd
  go_enter Try.func41, Try.ntmps41
  go_wp2_with fail
  refine (isGraph_any _ _ _ f _ _ hn (HA.out.alloc _)).mono ?_
  rintro e w1 ⟨rfl, hb1⟩
  simp only [HG.out]
  have HB1 := hide ((by go_grown : Below w.heap.size w _).trans (hb1.mono (by simp)))
  clear hb1
  go_wp2
  go_ret2
  exact ⟨rfl, HB1.out⟩
theorem evEdges_ok (g n c m d : Nat) (F : Nat → Nat) (own : Bool) (E : Option Addr) (Ai : Nat → Option Addr) (ln C : Nat → Nat) (R : Nat → Nat → Int) (w : World) (hn : n ≤ 16) (hgd : goodB n (nv F) = true) (hm : m ≤ 1048576)
    (ha : Arr w 3 g n (iv (nv F))) (hr : RD w E m Ai ln C R) :
    Calls Try.prog 41 #[.agg #[.slice (some ⟨g, 0, none⟩) n c, .bool own], .slice E m d] w (EvAns w n F m ln R) := by
  have hmk := run_make_row' (P := Try.prog) 22 3 (.int .i64 0) 8 Try.underlying22 int_info rfl .i64 .i64 n (by omega) (by omega)
  have HA := hide ha
  have HG := hide hgd
  have HR := hide hr
  clear ha hgd hr
  go_enter Try.func41, Try.ntmps41
  go_wp2_with fail
  refine (isGraph_any _ _ _ (nv F) _ _ (by omega) (HA.out.alloc _)).mono ?_
  rintro e w1 ⟨rfl, hb1⟩
  simp only [HG.out]
  have hp := (Arr.box w 28 (.slice (some ⟨g, 0, none⟩) n c) (.bool own)).all hb1
  have c0 : w1.cell? ⟨w.heap.size, 0, none⟩ = some (.slice (some ⟨g, 0, none⟩) n c) := hp.cell (by omega)
  have c1 : w1.cell? ⟨w.heap.size, 1, none⟩ = some (.bool own) := hp.cell (by omega)
  have HP := hide hp
  have hpl := hp.lt
  have HA1 := hide ((HA.out.alloc _).all hb1)
  have HB1 := hide ((by go_grown : Below w.heap.size w _).trans (hb1.mono (by simp)))
  clear hb1 hp
  go_wp2
  go_loopw [19] (fun x wr => ∃ k : Nat, k ≤ m ∧ x = .int .i64 k ∧ Hid (okT n F ln R k) ∧ Arr wr 3 w1.heap.size n (iv (nv (tl R k))) ∧ Arr wr 28 (w1.heap.size + 1) 2 (bx (.slice (some ⟨w1.heap.size, 0, none⟩) n n) (.bool false)) ∧ Below w1.heap.size w1 wr) (fun x _ => m - (intOf x).toNat)
  case atStart =>
    refine ⟨0, by omega, rfl, hide (fun j hj => absurd hj (by omega)), ?_, ?_, by go_grown⟩
    · exact ((Arr.made_at w1 (.int .i64 0) n 3 (by simp) (fun _ _ => rfl)).alloc _)
    · exact Arr.box_at _ 28 _ _ (by simp)
  case round =>
    obtain ⟨k, hk, rfl, HE, ha, hbox, hb⟩ := hrel
    have b0 : wr.cell? ⟨w1.heap.size + 1, 0, none⟩ = some (.slice (some ⟨w1.heap.size, 0, none⟩) n n) := hbox.cell (by omega)
    have b1 : wr.cell? ⟨w1.heap.size + 1, 1, none⟩ = some (.bool false) := hbox.cell (by omega)
    by_cases hlt : k < m
    · obtain ⟨b, off, hA, hbl, hc0, hs0⟩ := HR.out k hlt
      have HBW := HB1.out.trans (hb.mono HB1.out.size)
      have hs1 := hs0.below HBW
      have hg1 := (Src.of_arr HA1.out).below hb
      have hc1 : wr.cell? ⟨b, off + k, none⟩ = some (.slice (Ai k) (ln k) (C k)) := (HBW.cell (p := ⟨b, off + k, none⟩) hbl).trans hc0
      have p0 : wr.cell? ⟨w.heap.size, 0, none⟩ = some (.slice (some ⟨g, 0, none⟩) n c) := (hb.cell (p := ⟨w.heap.size, 0, none⟩) hpl).trans c0
      have p1 : wr.cell? ⟨w.heap.size, 1, none⟩ = some (.bool own) := (hb.cell (p := ⟨w.heap.size, 1, none⟩) hpl).trans c1
      have HT := hide ha
      have HX := hide hbox
      have HB := hide hb
      have HW := hide HBW
      subst hA
      have CE : Hid (∀ z : Later wr, Calls Try.prog 66 #[.agg #[.slice (some ⟨g, 0, none⟩) n c, .bool own], .slice (Ai k) (ln k) (C k)] z.w fun e w' => e = .returned (.bool (ordB n (ln k) (nv F) (R k))) ∧ Below z.w.heap.size z.w w') := hide fun z => isOrd_any _ _ _ _ _ _ _ _ _ z.w (by omega) (hg1.below z.is) (hs1.below z.is)
      have P0 : ∀ z : Later wr, z.w.cell? ⟨w.heap.size, 0, none⟩ = some (.slice (some ⟨g, 0, none⟩) n c) := fun z => z.cell p0
      have P1 : ∀ z : Later wr, z.w.cell? ⟨w.heap.size, 1, none⟩ = some (.bool own) := fun z => z.cell p1
      have Q0 : ∀ z : Later wr, z.w.cell? ⟨w1.heap.size + 1, 0, none⟩ = some (.slice (some ⟨w1.heap.size, 0, none⟩) n n) := fun z => z.cell b0
      have Q1 : ∀ z : Later wr, z.w.cell? ⟨w1.heap.size + 1, 1, none⟩ = some (.bool false) := fun z => z.cell b1
      clear HBW ha hbox hb hc0 hs0 hg1 c0 c1 p0 p1 b0 b1
      cases hO : ordB n (ln k) (nv F) (R k)
      · rw [hO] at CE
        have HO := hide hO
        clear hs1 hO
        go_wp2_with fail
        refine wp_region_later (by kernel_rfl) (by kernel_rfl) ?_
        repeat (first | go_big_quiet_skip | (go_big_quiet_want; go_big_quiet_op; first | go_big_quiet_on | (apply Exists.intro; refine ⟨fun z => ?_, ?_⟩; (· (go_at_call 66; exact Later.call z (CE.out z))); go_big_quiet_on)))
        refine wpQuiet_nil ?_
        rintro _ ⟨z, rfl⟩
        have HB3 := hide (HW.out.trans (z.is.mono HW.out.size))
        clear P0 P1 Q0 Q1
        go_wp2
        go_ret2
        refine ⟨HB3.out, .inr ⟨fun h => ?_, rfl⟩⟩
        have := h k hlt
        simp [fresh, HO.out] at this
      · obtain ⟨h2, i, j, hij, hj, e0, e1, _⟩ := ord_ok hO
        obtain ⟨b', off', hA', hl0, q0⟩ := hs1 0 (by omega)
        obtain ⟨b'', off'', hA'', _, q1⟩ := hs1 1 (by omega)
        rw [hA'] at hA''
        injection hA'' with hA''
        injection hA'' with u0 u1
        subst u0 u1
        have hc : wr.cell? ⟨b, off + k, none⟩ = some (.slice (some ⟨b', off', none⟩) 2 (C k)) := by rw [hc1, hA', h2]
        have HO := hide hO
        rw [hO, hA', h2] at CE
        simp only [iv, e0, Nat.add_zero] at q0
        simp only [iv, e1] at q1
        have tc : wr.cell? ⟨w1.heap.size, i, none⟩ = some (.int .i64 (nv (tl R k) i)) := HT.out.cell (by omega)
        have R0 : ∀ z : Later wr, z.w.cell? ⟨b', off', none⟩ = some (.int .i64 (i : Nat)) := fun z => z.cell q0
        have R1 : ∀ z : Later wr, z.w.cell? ⟨b', off' + 1, none⟩ = some (.int .i64 (j : Nat)) := fun z => z.cell q1
        have T0 : ∀ z : Later wr, z.w.cell? ⟨w1.heap.size, i, none⟩ = some (.int .i64 (nv (tl R k) i)) := fun z => z.cell tc
        have CH : Hid (∀ z : Later wr, Calls Try.prog 61 #[.int .i64 (nv (tl R k) i), .int .i64 (j : Nat)] z.w fun e w' => e = .returned (.bool (bt (nv (tl R k) i) j)) ∧ Below z.w.heap.size z.w w') := hide fun z => (hasG_any _ (j : Nat) (by omega) (by omega) z.w).mono fun e w' ⟨h, h'⟩ => ⟨h, h' ▸ Below.refl _ _⟩
        have i0 : (0 : Int) ≤ (i : Nat) := by omega
        have i1 : ((i : Nat) : Int) < (n : Nat) := by omega
        have HE0 := hide e0
        have HE1 := hide e1
        have HQ0 := hide q0
        have HQ1 := hide q1
        clear hc1 e0 e1 hO hA' h2 hs1 q0 q1 tc
        cases hh : bt (nv (tl R k) i) j
        · rw [hh] at CH
          have HH := hide hh
          clear hh
          go_wp2_with fail
          refine wp_region_later (by kernel_rfl) (by kernel_rfl) ?_
          repeat (first | go_big_quiet_skip | (go_big_quiet_want; go_big_quiet_op; first | go_big_quiet_on | (apply Exists.intro; refine ⟨fun z => ?_, ?_⟩; (· first | (go_at_call 66; exact Later.call z (CE.out z)) | (go_at_call 61; exact Later.call z (CH.out z))); go_big_quiet_on)))
          refine wpQuiet_nil ?_
          rintro _ ⟨z, rfl⟩
          have hb3 := z.is
          have HX3 := hide (HX.out.all hb3)
          have HT3 := hide (HT.out.all hb3)
          have HB3 := hide (HB.out.trans (hb3.mono HB.out.size))
          have s0 := Q0 z
          have s1 := Q1 z
          have d0 := R0 z
          have d1 := R1 z
          generalize z.w = w3 at *
          clear P0 P1 Q0 Q1 R0 R1 T0 CE CH hb3
          go_wp2
          go_still_tail 8, (by kernel_rfl)
          change wpList _ _ _ _ _ w3.drew
          go_wp2_with fail
          refine (link_any _ n n (tl R k) i j _ hn (by omega) hj (tl_lt hn k HE.out) HT3.out.drew).mono ?_
          rintro e w5 ⟨rfl, ha5, hg5⟩
          have hg6 := grownBy_trans (grownBy_of_below (Below.drew (Below.refl w3.heap.size w3)) _) hg5
          have HT5 := hide ha5
          have HX5 := hide (HX3.out.grown hg6 (by omega))
          have HB5 := hide (HB3.out.grown hg6 HB3.out.size (fun q hq => by injection hq with hq; omega))
          clear ha5 hg5 hg6 s0 s1 d0 d1
          go_wp2
          go_roundw
          case rel =>
            refine ⟨k + 1, by omega, by go_num, hide fun q hq => ?_, ?_, HX5.out, HB5.out⟩
            · by_cases hqk : q = k
              · subst hqk
                simp [fresh, HO.out, HE0.out, HE1.out, HH.out]
              · exact HE.out q (by omega)
            · rw [tl, HE0.out, HE1.out]
              exact HT5.out
          case measure => simp [intOf]; omega
        · rw [hh] at CH
          have HH := hide hh
          clear hh
          go_wp2_with fail
          refine wp_region_later (by kernel_rfl) (by kernel_rfl) ?_
          repeat (first | go_big_quiet_skip | (go_big_quiet_want; go_big_quiet_op; first | go_big_quiet_on | (apply Exists.intro; refine ⟨fun z => ?_, ?_⟩; (· first | (go_at_call 66; exact Later.call z (CE.out z)) | (go_at_call 61; exact Later.call z (CH.out z))); go_big_quiet_on)))
          refine wpQuiet_nil ?_
          rintro _ ⟨z, rfl⟩
          have HB3 := hide (HW.out.trans (z.is.mono HW.out.size))
          clear P0 P1 Q0 Q1 R0 R1 T0
          go_wp2
          go_ret2
          refine ⟨HB3.out, .inr ⟨fun h => ?_, rfl⟩⟩
          have := h k hlt
          simp [fresh, HE0.out, HE1.out, HH.out] at this
    · have hkm : k = m := by omega
      subst hkm
      have HT := hide ha
      have HB := hide (HB1.out.trans (hb.mono HB1.out.size))
      clear ha hbox hb c0 c1
      go_wp2_with fail
      refine (oddC_any _ _ _ (tl R k) _ _ hn (tl_lt hn k HE.out) HT.out).mono ?_
      rintro e w3 ⟨rfl, hb3⟩
      have HB3 := hide (HB.out.trans (hb3.mono HB.out.size))
      clear hb3 b0 b1
      go_wp2
      go_ret2
      exact ⟨HB3.out, .inl ⟨HE.out, rfl⟩⟩
end Go.Proofs.Ytcpbbpgiicakcaa
