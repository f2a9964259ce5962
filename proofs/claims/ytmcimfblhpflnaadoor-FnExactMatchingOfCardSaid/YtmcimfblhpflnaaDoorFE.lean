/-
reachFrom: a whole tree is reached.
-/
import Derived.Test.YtmcimfblhpflnaaDoorFD
namespace Go.Proofs.YtmcimfblhpflnaaDoor
open Go.RowKit
set_option maxHeartbeats 4000000
theorem Qu.len {F : Nat → Nat} {n k : Nat} {o t : List Nat} {p : Nat → Int} (h : Qu F n o t p k) : (o ++ t).length ≤ n := nodup_le h.gr.nodup h.gr.lt
theorem par_range {F : Nat → Nat} {n : Nat} {o t : List Nat} {p : Nat → Int} (h : Grow F n o t p) (hn : n ≤ 16) {i : Nat} (hi : i ∈ o ++ t) : p i = -1 ∨ (0 ≤ p i ∧ p i < 16) := by
  rcases h.par i hi with h1 | ⟨u, h1, h2, _⟩
  · exact .inl h1
  · have := h.lt u h1
    exact .inr (by omega)
def cpR (a : Act) (v11 v12 v13 v14 v15 v16 v17 v18 v19 v20 : Value) : Act := ((((((((((a.put (some 11) v11).put (some 12) v12).put (some 13) v13).put (some 14) v14).put (some 15) v15).put (some 16) v16).put (some 17) v17).put (some 18) v18).put (some 19) v19).put (some 20) v20)
/-- Behind a region that ends well: its slots written, and X of the world. -/
def regQ (a : Act) (X : World → Prop) : Exit → Act → World → Prop
  | .normal, a', w' => ∃ (v11 v12 v13 v14 v15 v16 v17 v18 v19 v20 : Value), a' = cpR a v11 v12 v13 v14 v15 v16 v17 v18 v19 v20 ∧ X w'
  | _, _, _ => False
theorem regCut {P : Program} {c : Code} {Q : Exit → Act → World → Prop} {a : Act} {w : World} (X : World → Prop)
    (reg : c.wp P (regQ a X) a w)
    (cont : ∀ (v11 v12 v13 v14 v15 v16 v17 v18 v19 v20 : Value) (w' : World), X w' → Q .normal (cpR a v11 v12 v13 v14 v15 v16 v17 v18 v19 v20) w') : c.wp P Q a w :=
  Code.wp_mono (fun e a' w' h => by
    cases e <;> simp only [regQ] at h
    obtain ⟨v11, v12, v13, v14, v15, v16, v17, v18, v19, v20, rfl, h⟩ := h
    exact cont v11 v12 v13 v14 v15 v16 v17 v18 v19 v20 w' h) reg
set_option maxRecDepth 8000 in
theorem reachFrom_any (B fb g n c gp cp m d r : Nat) (own : Bool) (F : Nat → Nat) (A : Option Addr) (o t : List Nat) (p : Nat → Int) (w : World) (hn : n ≤ 16) (hG : Good n (nv F)) (hTr : Tree F n) (hB : B ≤ w.heap.size)
    (hS : FS w B fb g n c gp cp own F A m d (o ++ t) p) (hQ : Qu F n o t p m) (hr : r ∉ o ++ t) (hrn : r < n) (hu : ∀ u, u < r → u ∈ o ++ t) (hT : Tab w) (h1 : 1 < w.heap.size) (t1 : 1 ≠ fb) (t2 : 1 ≠ gp) (t3 : ob A ≠ some 1) (hN : ∀ v, v ∉ o ++ t → p v = -1) :
    Calls Tryd.prog 80 #[.pointer (some ⟨fb, 0, none⟩), .int .i64 r] w fun e w' =>
      e = .returned (.tuple #[]) ∧ ∃ t' p' A' m' d', FS w' B fb g n c gp cp own F A' m' d' ((o ++ t) ++ t') p' ∧ Qu F n (o ++ t) t' p' m' ∧ r ∈ (o ++ t) ++ t' ∧ (∀ v, v ∉ (o ++ t) ++ t' → p' v = -1) ∧ Kx fb gp A A' w w' := by
  have hm16 : m ≤ 16 := by have := hQ.len; rw [hS.len] at this; omega
  have hup : upd p r (-1) = p := by
    funext v
    by_cases e : v = r
    · rw [e, upd_same, hN r hr]
    · exact upd_other e
  have hQ2 := hQ.plant hS.len.symm hr hrn hu
  rw [hup] at hQ2
  have hpbA : ob A ≠ some w.heap.size := fun e => by have := (hS.off _ e).2; omega
  have hfl := hS.blk.lt
  have hpl := hS.par.lt
  have hfB := hS.fB
  have hgB := hS.pB
  have HS := hide hS
  have HQ2 := hide hQ2
  have HG := hide hG
  have HTr := hide hTr
  have HT := hide hT
  have HN := hide hN
  have HR := hide hr
  have k3 : w.cell? ⟨fb, 3, none⟩ = some (.slice A m d) := hS.blk.cell 3
  clear hS hQ hQ2 hG hTr hT hN hr hu hup
  go_enter Tryd.func80, Tryd.ntmps80
  go_wp2_with fail
  have HS1 := hide (HS.out.alloc (.cells #[.pointer (some ⟨fb, 0, none⟩)] 97))
  have kb : (w.alloc (.cells #[.pointer (some ⟨fb, 0, none⟩)] 97)).cell? ⟨w.heap.size, 0, none⟩ = some (.pointer (some ⟨fb, 0, none⟩)) := by simp [go_sem]
  have HK1 : Hid (Kx fb gp A A w (w.alloc (.cells #[.pointer (some ⟨fb, 0, none⟩)] 97))) := hide (Kx.of_below _ _ _ ((Below.refl _ _).alloc (Nat.le_refl _) _))
  have hpbl : w.heap.size < (w.alloc (.cells #[.pointer (some ⟨fb, 0, none⟩)] 97)).heap.size := by simp
  clear k3
  generalize hW : (w.alloc (.cells #[.pointer (some ⟨fb, 0, none⟩)] 97)) = W1 at *
  have k3 : W1.cell? ⟨fb, 3, none⟩ = some (.slice A m d) := HS1.out.blk.cell 3
  have kz : W1.frozen? ⟨fb, 3, none⟩ = false := HS1.out.blk.frozen 3
  have hne : ob A ≠ some fb := fun e => by have := (HS1.out.off fb e).1; omega
  have hfl1 := HS1.out.blk.lt
  have HKB := hide kb
  apply regCut (fun w' => ∃ (A5 : Option Addr) (c5 : Nat), FS w' B fb g n c gp cp own F A5 (m + 1) c5 ((o ++ t) ++ [r]) p ∧ Kx fb gp A A5 w w' ∧ w'.cell? ⟨w.heap.size, 0, none⟩ = some (.pointer (some ⟨fb, 0, none⟩)) ∧ ob A5 ≠ some w.heap.size)
  case reg =>
    go_region_law (first
      | (refine step_append_own rfl (.tmp 15) (.tmp 17) rfl B A d m (o ++ t) r W1.heap.size rfl (HS1.out.lst.drew.alloc _) HS1.out.len rfl (by simp [go_sem]) (by omega) (by simp; omega) ?_; intro A5 c5 w5 ho5 hg5 hob5; have HO5 := hide ho5; have HG5 := hide hg5; have HOB5 := hide hob5; have hbk5 := (hg5.block fb (by simp; omega) (fun e => hne e.symm)).trans (HS1.out.blk.drew.alloc _); have HBK5 : Hid (Blk w5 56 fb _) := hide hbk5; have q0 : w5.cell? ⟨fb, 3, none⟩ = some (.slice A m d) := HBK5.out.cell 3; have q1 : w5.frozen? ⟨fb, 3, none⟩ = false := HBK5.out.frozen 3; have ql : fb < w5.heap.size := HBK5.out.lt; have qb : w5.cell? ⟨w.heap.size, 0, none⟩ = some (.pointer (some ⟨fb, 0, none⟩)) := World.grownBy.cell hg5 (al_cell HKB.out _) (fun e => hpbA e.symm); clear ho5 hg5 hob5 hbk5))
    all_goals
      (refine (show regQ _ _ .normal _ _ from ?_); simp only [regQ])
      (repeat apply Exists.intro)
      refine ⟨?hF, ?hL⟩
      case hF =>
        simp only [cpR, Act.put, List.setIfInBounds_toArray, List.set_cons_zero, List.set_cons_succ]
        rfl
      case hL =>
        refine ⟨A5, c5, FS.push (HS1.out.drew.alloc (.cells #[.int .i64 (r : Nat)] 3)) HG5.out HO5.out, ((HK1.out.trans (Kx.of_below fb gp A ((by go_grown : Below W1.heap.size W1 (W1.drew.alloc (.cells #[.int .i64 (r : Nat)] 3)))))).grown HG5.out HOB5.out).setTop 3 (.slice A5 (m + 1) c5), (World.cell?_of_block (Below.heap_setCell w5 ⟨fb, 3, none⟩ _ w.heap.size (by show w.heap.size ≠ fb; omega))).trans qb, ?_⟩
        rcases HOB5.out with e | e
        · rw [e]; exact hpbA
        · rw [e]; intro e2; injection e2 with e2; simp at e2; omega
  case cont =>
    intro v11 v12 v13 v14 v15 v16 v17 v18 v19 v20 w6 hX
    obtain ⟨A5, c5, hs6, hk6, hb6, ho6⟩ := hX
    have HS6 := hide hs6
    have HK6 := hide hk6
    have HB6 := hide hb6
    have HO6 := hide ho6
    clear hs6 hk6 hb6 ho6 k3 kz kb
    simp only [cpR, Act.put, List.setIfInBounds_toArray, List.set_cons_zero, List.set_cons_succ]
    go_wp2_with fail
    go_loopw [4] (fun kk wr => ∃ (k m1 d1 : Nat) (A1 : Option Addr) (tt : List Nat) (pp : Nat → Int), kk = .int .i64 k ∧ k ≤ m1 ∧ Hid (Qu F n (o ++ t) tt pp k) ∧ Hid (r ∈ (o ++ t) ++ tt) ∧ Hid (∀ v, v ∉ (o ++ t) ++ tt → pp v = -1) ∧ Hid (FS wr B fb g n c gp cp own F A1 m1 d1 ((o ++ t) ++ tt) pp) ∧ Hid (Kx fb gp A A1 w wr) ∧ Hid (wr.cell? ⟨w.heap.size, 0, none⟩ = some (.pointer (some ⟨fb, 0, none⟩))) ∧ Hid (ob A1 ≠ some w.heap.size))
      (fun kk _ => n - (intOf kk).toNat)
    case atStart =>
      exact ⟨m, m + 1, c5, A5, [r], p, rfl, by omega, HQ2, hide (by simp), hide (fun v hv => HN.out v (fun h => hv (List.mem_append.2 (.inl h)))), HS6, HK6, HB6, HO6⟩
    case round =>
      obtain ⟨k, m1, d1, A1, tt, pp, rfl, hk, HQ1, HR1, HN1, HS3, HK3, HB3, HO3⟩ := hrel
      have x3 : wr.cell? ⟨fb, 3, none⟩ = some (.slice A1 m1 d1) := HS3.out.blk.cell 3
      have xb : wr.cell? ⟨w.heap.size, 0, none⟩ = some (.pointer (some ⟨fb, 0, none⟩)) := HB3.out
      have hmn : m1 ≤ n := by have := HQ1.out.len; rw [HS3.out.len] at this; omega
      by_cases hkm : k < m1
      · obtain ⟨i, hi⟩ : ∃ i, ((o ++ t) ++ tt)[k]? = some i := ⟨_, List.getElem?_eq_getElem (by rw [HS3.out.len]; exact hkm)⟩
        have him := List.mem_of_getElem? hi
        have hin : i < n := HQ1.out.gr.lt i him
        have hFi := HG.out.lt16 i hin
        have hpr := par_range HQ1.out.gr hn him
        have HLk := hide (HQ1.out.enter hi)
        have hoff := HS3.out.off
        have hk3 := HK3.out.size
        have ho1 := HK3.out.off h1 t3
        have HTw := hide (HK3.out.tab HT.out t1 t2 t3)
        have hibA : ob A1 ≠ some wr.heap.size := fun e => by have := (hoff _ e).2; omega
        have hfw := HS3.out.blk.lt
        have hpw := HS3.out.par.lt
        have hpbw := World.block_lt_of_cell? wr _ HB3.out
        have hBw : B ≤ wr.heap.size := Nat.le_trans hB hk3
        obtain ⟨b1, off1, hA1, hbl1, hc1⟩ := (HS3.out.lst.src HS3.out.len) k hkm
        rw [lv_at hi] at hc1
        subst hA1
        have HS7 := hide (HS3.out.alloc (.cells #[.int .i64 (i : Nat)] 3))
        go_wp2_with (first
          | (go_at_call 101; refine (children_any B fb g n c gp cp m1 d1 i own F _ ((o ++ t) ++ tt) pp _ hin hn hFi HS7.out hpr).mono ?_; rintro e w8 ⟨rfl, kk8, hw8⟩; subst w8)
          | (go_at_call 100; refine (eachReach_any B fb g n c gp cp wr.heap.size w.heap.size m1 d1 k i own F _ (o ++ t) tt pp _ hn HG.out HTr.out (by simp [World.drewN]; omega) (HS7.out.drewN _) HLk.out (by show (wr.alloc (.cells #[.int .i64 (i : Nat)] 3)).cell? ⟨wr.heap.size, 0, none⟩ = _; simp [go_sem]) (al_cell HB3.out _) (by omega) (by omega) hibA (by omega) (by omega) HO3.out (HTw.out.below (below_drewN ((Below.refl _ _).alloc (Nat.le_refl _) _) _)) t1 t2 ho1 HN1.out).mono ?_; rintro e w9 ⟨rfl, t9, p9, A9, m9, d9, hs9, hl9, hn9, hu9, hk9⟩; have HS9 := hide hs9; have HL9 := hide hl9; have HN9 := hide hn9; have HU9 := hide hu9; have HK9 := hide hk9; clear hs9 hl9 hn9 hu9 hk9))
        have HQ9 := hide (HL9.out.next (fun b hb => HG.out.sym.lt i hin b hb))
        have hpb8 : w.heap.size < ((wr.alloc (.cells #[.int .i64 (i : Nat)] 3)).drewN kk8).heap.size := by show w.heap.size < (wr.alloc _).heap.size; simp; omega
        have HK10 := hide ((HK3.out.trans ((Kx.of_below fb gp _ ((Below.refl wr.heap.size wr).alloc (Nat.le_refl _) (.cells #[.int .i64 (i : Nat)] 3))).drewN kk8)).trans HK9.out)
        go_roundw
        case rel =>
          refine ⟨k + 1, m9, d9, A9, t9, p9, by go_num, ?_, HQ9, hide ?_, HN9, HS9, HK10, hide (HK9.out.cell (al_cell HB3.out _) (by omega) (by omega) HO3.out), hide (HK9.out.off hpb8 HO3.out)⟩
          · have := HQ9.out.hi; rw [HS9.out.len] at this; exact this
          · rcases List.mem_append.1 HR1.out with h | h
            · exact List.mem_append.2 (.inl h)
            · exact List.mem_append.2 (.inr (HU9.out r h))
        case measure => simp [intOf]; omega
      · have hkm2 : k = m1 := by omega
        subst hkm2
        go_wp2
        go_end0
        exact ⟨rfl, tt, pp, A1, k, d1, HS3.out, HQ1.out, HR1.out, HN1.out, HK3.out⟩
end Go.Proofs.YtmcimfblhpflnaaDoor
