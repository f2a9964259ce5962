/-
trMatching: the model's matching, pair by pair in their places.
-/
import Derived.Test.YtmcimfblhpflnaaDoorVH
namespace Go.Proofs.YtmcimfblhpflnaaDoor
open Go.RowKit
set_option maxHeartbeats 4000000
theorem EQ.row' {w : World} {B lo q c : Nat} {A : Option Addr} {Q : List Ent} (h : EQ w B lo (.slice A q c) Q) (hq : Q.length = q) : w.ownsRow B 22 1 (.slice A q c) Q.length (Q.map hdE) := h.row
theorem drop_rev {l : List Nat} {k : Nat} (h : k < l.length) : (l.drop k).reverse = (l.drop (k + 1)).reverse ++ [l[k]] := by
  rw [List.drop_eq_getElem_cons h, List.reverse_cons]
theorem EQ.cap {w : World} {B lo q c : Nat} {A : Option Addr} {Q : List Ent} (h : EQ w B lo (.slice A q c) Q) (hq : Q.length = q) : q ≤ c := by
  rcases h.row.2 with ⟨e0, h0⟩ | ⟨r', cap', cur, e0, _, _, hle, _⟩
  · injection e0 with _ e2 e3; omega
  · injection e0 with _ e2 e3; omega
/-- What a call leaves that tells the pairs. -/
def MtSrc (w : World) (B : Nat) (P : List (Nat × Nat)) (e : Ending) (w' : World) : Prop :=
  ∃ (A : Option Addr) (m c : Nat) (Q : List Ent), e = .returned (.tuple #[.slice A m c, .bool true]) ∧ Q.length = m ∧ Q.map (·.2) = P ∧ EQ w' w.heap.size w.heap.size (.slice A m c) Q ∧ Below w.heap.size w w'
def MtNo (w : World) (e : Ending) (w' : World) : Prop := e = .returned (.tuple #[.slice none 0 0, .bool false]) ∧ Below w.heap.size w w'
set_option maxRecDepth 8000 in
theorem trMt_any (g n c : Nat) (F : Nat → Nat) (own : Bool) (w : World) (hn : n ≤ 16) (hG : Good n (nv F)) (ha : Arr w 3 g n (iv (nv F))) :
    Calls Tryd.prog 58 #[.agg #[.slice (some ⟨g, 0, none⟩) n c, .bool own]] w fun e w' => (treeB F n = false ∧ MtNo w e w') ∨ (treeB F n = true ∧ MtOk w (matchL F n) e w') := by
  have HG := hide hG
  have HA := hide ha
  clear ha
  have hn1 : 1 ≤ n := hG.1
  go_enter Tryd.func58, Tryd.ntmps58
  go_wp2_with fail
  refine (search_any _ _ _ F _ _ hn HG.out (HA.out.alloc _)).mono ?_
  rintro e w1 hsr
  rcases hsr with ⟨ht, rfl, hb1⟩ | ⟨ht, gp, m, d, A, o, t, p, rfl, hq, hl, hall, hg2, hpa, hol, hb1⟩
  · have HB1 := hide ((by go_grown : Below w.heap.size w _).trans (hb1.mono (by simp)))
    have hT := tree_no ht
    clear hb1 ht
    go_wp2
    go_ret2
    exact .inl ⟨hT, rfl, HB1.out⟩
  · have hT := tree_yes ht
    have hrun : Run F n o t p := ⟨by rw [hl]; exact hq, hall⟩
    have hm : m = n := by rw [← hl]; exact hrun.len
    subst hm
    obtain ⟨lb, rfl, hlb, hla⟩ := ol_cases hol hrun.len (by omega)
    have HB1 := hide ((by go_grown : Below w.heap.size w _).trans (hb1.mono (by simp)))
    have HR := hide hrun
    have HP := hide hpa
    have HL := hide hla
    have HT' := hide hT
    have hgpl := hpa.lt
    have hlbl := hla.lt
    have hz1 := hb1.size
    simp only [World.size_alloc] at hz1 hg2
    have hpr : ∀ i, i < m → p i = -1 ∨ ∃ u : Nat, p i = u ∧ u < m ∧ u ≠ i := fun i hi => by
      rcases HR.out.qu.gr.par i (HR.out.all i hi) with h1 | ⟨u, h1, h2, h3⟩
      · exact .inl h1
      · rcases HR.out.par_lt HG.out.irr hi with h4 | h4
        · omega
        · exact .inr h4
    have HPR := hide hpr
    obtain ⟨O, hO⟩ : ∃ O, o ++ t = O := ⟨_, rfl⟩
    have hOl : O.length = m := by rw [← hO]; exact HR.out.len
    have hOlt : ∀ v ∈ O, v < m := by rw [← hO]; exact HR.out.qu.gr.lt
    have HOO := hide hO
    rw [hO] at HL
    have HOLT := hide hOlt
    clear hb1 ht hq hl hall hpa hol hla hrun hT hpr hO hOlt hlb
    go_wp2
    go_loopw [7, 8, 9] (fun ov uv kv wr => ∃ (r q c' s : Nat) (A' : Option Addr) (Q : List Ent), kv = .int .i64 ((r : Int) - 1) ∧ r ≤ m ∧ uv = .int .i64 (s : Nat) ∧ ov = .slice A' q c' ∧ Hid ((mtRun p (O.drop r).reverse).1 = s) ∧ Hid (Q.map (·.2) = sortE (mtRun p (O.drop r).reverse).2) ∧ Q.length = q ∧ Hid (EQ wr w1.heap.size w1.heap.size (.slice A' q c') Q) ∧ (Q = [] → A' = none ∧ c' = 0) ∧ Hid (Below w1.heap.size w1 wr)) (fun _ _ kv _ => (intOf kv + 1).toNat)
    case atStart => exact ⟨m, 0, 0, 0, none, [], rfl, Nat.le_refl _, rfl, rfl, hide (by rw [← hOl, List.drop_length]; rfl), hide (by rw [← hOl, List.drop_length]; rfl), rfl, hide (EQ.nil _ _ _), fun _ => ⟨rfl, rfl⟩, hide (Below.refl _ _)⟩
    case round =>
      obtain ⟨r, q, c', s, A', Q, rfl, hr, rfl, rfl, HS, HQ, hq, HE, hnil, HB⟩ := hrel
      by_cases hr0 : r = 0
      · subst hr0
        rw [show (((0 : Nat) : Int) - 1) = -1 from rfl]
        go_wp2
        go_ret2
        refine .inr ⟨HT'.out, A', q, c', Q, rfl, hq, ?_, HE.out.mono HB1.out.size HB1.out.size, HB1.out.trans (HB.out.mono HB1.out.size)⟩
        rw [HQ.out, List.drop_zero]
        unfold matchL
        rw [← HOO.out, HR.out.ord, mtRun_same fun v hv => HR.out.par HG.out.sym hn v (by rw [← HR.out.ord, HOO.out] at hv; exact HOLT.out v (List.mem_reverse.1 hv))]
      · obtain ⟨k, rfl⟩ : ∃ k, r = k + 1 := ⟨r - 1, by omega⟩
        have hk : k < O.length := by omega
        have hkm : k < m := by omega
        obtain ⟨i, hOk⟩ : ∃ i, O[k] = i := ⟨_, rfl⟩
        have hi : i < m := by rw [← hOk]; exact HOLT.out _ (List.getElem_mem hk)
        have HDR : Hid ((O.drop k).reverse = (O.drop (k + 1)).reverse ++ [i]) := hide (by rw [← hOk]; exact drop_rev hk)
        have hcl : wr.cell? ⟨lb, k, none⟩ = some (.int .i64 (i : Nat)) := by
          have h := (HL.out.all HB.out).cell (k := k) (by omega)
          rw [lv_at (i := i) (by rw [List.getElem?_eq_getElem hk, hOk])] at h
          exact h
        have hcp : wr.cell? ⟨gp, i, none⟩ = some (.int .i64 (p i)) := (HP.out.all HB.out).cell hi
        have hkI : (k : Int) < (m : Int) := by omega
        have hiI : (i : Int) < (m : Int) := by omega
        have hi63 : i < 64 := by omega
        rw [show (((k + 1 : Nat) : Int) - 1) = (k : Int) by omega]
        have hM : Mat m (mtRun p (O.drop (k + 1)).reverse) := HR.out.mat HG.out.irr _ fun v hv => HOLT.out v (List.mem_of_mem_drop (List.mem_reverse.1 hv))
        have HMM := hide hM
        clear hM hOk
        have same : mtRun p (O.drop k).reverse = mtRun p (O.drop (k + 1)).reverse → ∀ nq, ∃ (r q' c'' s' : Nat) (A'' : Option Addr) (Q' : List Ent), Value.int IntKind.i64 ((k : Int) - 1) = .int .i64 ((r : Int) - 1) ∧ r ≤ m ∧ Value.int .i64 (s : Nat) = .int .i64 (s' : Nat) ∧ Value.slice A' q c' = .slice A'' q' c'' ∧ Hid ((mtRun p (O.drop r).reverse).1 = s') ∧ Hid (Q'.map (·.2) = sortE (mtRun p (O.drop r).reverse).2) ∧ Q'.length = q' ∧ Hid (EQ (wr.drewN nq) w1.heap.size w1.heap.size (.slice A'' q' c'') Q') ∧ (Q' = [] → A'' = none ∧ c'' = 0) ∧ Hid (Below w1.heap.size w1 (wr.drewN nq)) := fun e nq =>
          ⟨k, q, c', s, A', Q, rfl, by omega, rfl, rfl, hide (by rw [e]; exact HS.out), hide (by rw [e]; exact HQ.out), hq, hide (HE.out.drewN nq), hnil, hide (below_drewN HB.out nq)⟩
        have SAME := hide same
        clear same
        rcases HPR.out i hi with hp | ⟨u, hp, hu, hne⟩
        · rw [hp] at hcp
          have HP0 := hide hp
          clear hp
          go_wp2_with fail
          go_quiet (fail)
          go_wp2
          go_roundw
          case rel => exact SAME.out (by rw [HDR.out, mtRun_snoc]; unfold mtStep; rw [if_pos (by left; rw [HP0.out]; decide)]) nq
          case measure => simp [intOf]
        · rw [hp] at hcp
          have HP0 := hide hp
          have huI : (u : Int) < (m : Int) := by omega
          have hu63 : u < 64 := by omega
          clear hp
          cases hbi : s.testBit i
          · cases hbu : s.testBit u
            · have hs16 : s < 65536 := by
                have hm16 : 2 ^ m ≤ 2 ^ 16 := Nat.pow_le_pow_right (by decide) hn
                refine Nat.lt_of_lt_of_le (m := 2 ^ m) ?_ hm16
                refine Nat.lt_pow_two_of_testBit _ fun v hv => ?_
                by_cases hb : s.testBit v = true
                · have h2 := (HMM.out.bit v).1 (by rw [HS.out]; exact hb)
                  have := HMM.out.lt v h2
                  omega
                · simpa using hb
              have hq16 : q ≤ 16 := by
                have h := HMM.out.len
                have h2 : q = (mtRun p (O.drop (k + 1)).reverse).2.length := by rw [← hq, ← List.length_map (f := fun e : Ent => e.2), HQ.out, (sortE_perm _).length_eq]
                omega
              have hv := take_or s i u hs16 (by omega) (by omega)
              obtain ⟨s', hs'⟩ : ∃ s', (s ||| (2 ^ i ||| 2 ^ u)) = s' := ⟨_, rfl⟩
              rw [hs'] at hv
              obtain ⟨e0, he0⟩ : ∃ e0 : Nat × Nat, (min i u, max i u) = e0 := ⟨_, rfl⟩
              have hmn : min i u = e0.1 := by rw [← he0]
              have hmx : max i u = e0.2 := by rw [← he0]
              have HRUN : Hid (mtRun p (O.drop k).reverse = (s', (mtRun p (O.drop (k + 1)).reverse).2 ++ [e0])) := hide (by
                rw [HDR.out, mtRun_snoc]
                unfold mtStep
                rw [HP0.out, HS.out]
                simp only [Int.toNat_natCast, hbi, hbu, hs', he0]
                rw [if_neg (by simp)])
              have HHS := hide hs'
              have HE0 := hide he0
              clear hs16 hs' he0
              by_cases hQ : Q = []
              · subst hQ
                obtain ⟨rfl, rfl⟩ := hnil rfl
                have hq0 : q = 0 := by rw [← hq]; rfl
                subst hq0
                clear hnil
                go_wp2_with fail
                go_quiet (fail)
                have HB3 : Hid (Below wr.heap.size wr (wr.drewN nq)) := hide (below_drewN (Below.refl _ _) _)
                have hz3 : (wr.drewN nq).heap.size = wr.heap.size := by simp
                generalize wr.drewN nq = W3 at HB3 hz3 ⊢
                clear nq
                go_wp2_with (go_at_call 73; refine (grIn_nat _ _ _ (by omega)).mono ?_; rintro e w5 ⟨rfl, rfl⟩; simp only [hbi, hbu])
                go_quiet (fail)
                try rw [hv]
                have HB5 : Hid (Below wr.heap.size wr (w5.drewN nq)) := hide (below_drewN HB3.out _)
                have hz5 : (w5.drewN nq).heap.size = wr.heap.size := by simp [hz3]
                generalize w5.drewN nq = W5 at HB5 hz5 ⊢
                clear nq hz3 HB3 hcl hcp hv
                go_wp2_with (first | (go_at_call 81; refine (least_any _ _ _).mono ?_; rintro e w5 ⟨rfl, rfl⟩; rw [hmn]) | (go_at_call 82; refine (most_any _ _ _).mono ?_; rintro e w5 ⟨rfl, rfl⟩; rw [hmx]))
                obtain ⟨We, hWe⟩ : ∃ We, w5.alloc (Obj.cells #[.int .i64 (e0.1 : Nat), .int .i64 (e0.2 : Nat)] 3) = We := ⟨_, rfl⟩
                have HBe : Hid (Below wr.heap.size wr We) := hide (by rw [← hWe]; exact HB5.out.alloc (by omega) _)
                have hpe : wr.heap.size < We.heap.size := by rw [← hWe]; simp [hz5]
                have PE : Hid (Arr We 3 wr.heap.size 2 (pv e0)) := hide (by rw [← hWe, ← hz5]; exact Arr.box w5 3 _ _)
                rw [hWe]
                clear hWe hz5 HB5
                go_loopw [13] (fun av wi => ∃ (z : Nat), av = .int .i64 0 ∧ wi = We.drewN z) (fun av _ => 0)
                case atStart => exact ⟨0, rfl, rfl⟩
                case round =>
                  obtain ⟨z, rfl, rfl⟩ := hrel
                  go_wp2_with fail
                  go_quiet (fail)
                  have HBz : Hid (Below We.heap.size We ((We.drewN z).drewN nq)) := hide (below_drewN (below_drewN (Below.refl _ _) _) _)
                  have hzz : ((We.drewN z).drewN nq).heap.size = We.heap.size := by simp
                  generalize (We.drewN z).drewN nq = Wz at HBz hzz ⊢
                  clear nq
                  have hown0 : (Wz.alloc (.cells #[] 22)).ownsRow We.heap.size 22 1 (.slice (some ⟨We.heap.size, 0, none⟩) 0 0) ([] : List Ent).length (([] : List Ent).map hdE) := by
                    rw [← hzz]
                    exact World.ownsRow_lit Wz #[] 0 (Nat.le_refl _) (by unfold maxLen; omega) rfl
                  have HO0 := hide hown0
                  clear hown0
                  go_wp2_with (at_builtin; refine Hid.out ?_)
                  refine hide ?_
                  refine wpList_append_heads _ rfl _ _ rfl We.heap.size (.slice (some ⟨We.heap.size, 0, none⟩) 0 0) (.slice none 0 0) [] [] rfl HO0.out rfl (.inl ⟨rfl, rfl⟩) (by simp) (by simp [hzz]) ?_
                  intro A2 n2 c2 w6 hn2 ho6 hg6
                  rw [List.nil_append] at hn2 ho6
                  have HN2 := hide hn2
                  clear hn2
                  have HO6 := hide ho6
                  have HB6 : Hid (Below We.heap.size We w6) := hide (Below.own_grown (HBz.out.alloc (Nat.le_of_eq hzz.symm) _) HO0.out hg6 (Nat.le_refl _) (by simp [hzz]))
                  clear ho6 hg6
                  have hz6 := HB6.out.size
                  go_wp2_with fail
                  go_region_law (first
                    | (refine step_append_heads rfl (.tmp 90) (.tmp 92) rfl We.heap.size (.slice A2 n2 c2) (.slice (some ⟨w6.heap.size, 0, none⟩) 1 1) [] [(wr.heap.size, e0)] rfl (own_below HO6.out (by go_grown)) rfl (src_one w6 (wr.heap.size, e0) rfl (by first | exact Below.refl _ _ | exact Below.drew (Below.refl _ _))) (by simp) (by simp; omega) ?_; intro A3 n3 c3 w7 hn3 ho7 hg7; have HN3 := hide hn3; have HO7 := hide ho7; have HB7 := hide (Below.own_grown (by have h := HB6.out; go_grown : Below We.heap.size We _) (own_below HO6.out (by go_grown)) hg7 (Nat.le_refl _) (by simp; omega)); clear hn3 ho7 hg7)
                    | (refine step_append_heads rfl (.tmp 93) (.tmp 96) rfl We.heap.size (.slice A3 n3 c3) (.slice none 0 0) ([] ++ [(wr.heap.size, e0)]) [] rfl (own_below HO7.out (by go_grown)) rfl (.inl ⟨rfl, rfl⟩) (by simp) (by have := HB7.out.size; omega) ?_; intro A4 n4 c4 w8 hn4 ho8 hg8; have HN4 := hide hn4; have HO8 := hide ho8; have HB8 := hide (Below.own_grown (HB7.out) HO7.out hg8 (Nat.le_refl _) HB7.out.size); clear hn4 ho8 hg8))
                  all_goals
                    go_wp2
                    go_roundw
                    case rel => exact ⟨k, n4, c4, s', A4, _, rfl, by omega, rfl, rfl, hide (by rw [HRUN.out]), hide (by rw [HRUN.out, sortE_snoc, ← HQ.out]; rfl), HN4.out.symm, hide ((HE.out.place (a := 0) (x := (wr.heap.size, e0)) (HBe.out.trans (HB8.out.mono HBe.out.size)) (PE.out.all HB8.out) (Nat.le_refl _) HB.out.size HN4.out HO8.out).mono (by have := HBe.out.size; have := HB.out.size; omega) (Nat.le_refl _)), fun h => absurd h (by simp), hide (HB.out.trans ((HBe.out.trans (HB8.out.mono HBe.out.size)).mono HB.out.size))⟩
                    case measure => simp [intOf]
              · obtain ⟨rb, cap, ec, hBr, hrl, hnr, hcs⟩ := HE.out.cells hQ
                rw [hq] at ec
                injection ec with ea eb ec
                subst ea ec
                have hcap : q ≤ c' := HE.out.cap hq
                have HCS := hide hcs
                have HNR := hide hnr
                clear hcs hnr hnil
                go_wp2_with fail
                go_quiet (fail)
                have HB3 : Hid (Below wr.heap.size wr (wr.drewN nq)) := hide (below_drewN (Below.refl _ _) _)
                have hz3 : (wr.drewN nq).heap.size = wr.heap.size := by simp
                generalize wr.drewN nq = W3 at HB3 hz3 ⊢
                clear nq
                go_wp2_with (go_at_call 73; refine (grIn_nat _ _ _ (by omega)).mono ?_; rintro e w5 ⟨rfl, rfl⟩; simp only [hbi, hbu])
                go_quiet (fail)
                try rw [hv]
                have HB5 : Hid (Below wr.heap.size wr (w5.drewN nq)) := hide (below_drewN HB3.out _)
                have hz5 : (w5.drewN nq).heap.size = wr.heap.size := by simp [hz3]
                generalize w5.drewN nq = W5 at HB5 hz5 ⊢
                clear nq hz3 HB3 hcl hcp hv
                go_wp2_with (first | (go_at_call 81; refine (least_any _ _ _).mono ?_; rintro e w5 ⟨rfl, rfl⟩; rw [hmn]) | (go_at_call 82; refine (most_any _ _ _).mono ?_; rintro e w5 ⟨rfl, rfl⟩; rw [hmx]))
                obtain ⟨We, hWe⟩ : ∃ We, w5.alloc (Obj.cells #[.int .i64 (e0.1 : Nat), .int .i64 (e0.2 : Nat)] 3) = We := ⟨_, rfl⟩
                have HBe : Hid (Below wr.heap.size wr We) := hide (by rw [← hWe]; exact HB5.out.alloc (by omega) _)
                have hrbe : rb < We.heap.size := by rw [← hWe]; simp [hz5]; omega
                have hpe : wr.heap.size < We.heap.size := by rw [← hWe]; simp [hz5]
                have PE : Hid (Arr We 3 wr.heap.size 2 (pv e0)) := hide (by rw [← hWe, ← hz5]; exact Arr.box w5 3 _ _)
                rw [hWe]
                have HEe := hide (HE.out.all HBe.out)
                have HCe : Hid (∀ j (hj : j < Q.length), We.cell? ⟨rb, j, none⟩ = some (.slice (some ⟨Q[j].1, 0, none⟩) 2 2)) := hide fun j hj => (HBe.out.cell (p := ⟨rb, j, none⟩) hrl).trans (HCS.out j hj).1
                have x3 : We.cell? ⟨wr.heap.size, 0, none⟩ = some (.int .i64 (e0.1 : Nat)) := PE.out.cell (k := 0) (by omega)
                clear hWe hz5 HB5 HCS
                go_loopw [13] (fun av wi => ∃ (at' z : Nat), av = .int .i64 at' ∧ at' ≤ q ∧ Hid (∀ j (hj : j < at') (hl : j < Q.length), (Q[j].2).1 < e0.1) ∧ wi = We.drewN z) (fun av _ => q - (intOf av).toNat)
                case atStart => exact ⟨0, 0, rfl, by omega, hide (fun j hj => absurd hj (by omega)), rfl⟩
                case round =>
                  obtain ⟨a, z, rfl, ha, HLow, rfl⟩ := hrel
                  by_cases hlt : a < q
                  · have hltI : (a : Int) < (q : Int) := by omega
                    have haQ : a < Q.length := by omega
                    obtain ⟨⟨b, f⟩, hba⟩ : ∃ x : Ent, Q[a] = x := ⟨_, rfl⟩
                    have x1 : We.cell? ⟨rb, a, none⟩ = some (.slice (some ⟨b, 0, none⟩) 2 2) := by have h := HCe.out a haQ; rw [hba] at h; exact h
                    have x2 : We.cell? ⟨b, 0, none⟩ = some (.int .i64 (f.1 : Nat)) := by
                      have h := (HEe.out.ent Q[a] (List.getElem_mem haQ)).2.cell (k := 0) (by omega)
                      rw [hba] at h
                      exact h
                    have HBA := hide hba
                    clear hba
                    by_cases hc : f.1 < e0.1
                    · have hcI : (f.1 : Int) < (e0.1 : Int) := by omega
                      have hd : decide ((f.1 : Int) < (e0.1 : Int)) = true := decide_eq_true hcI
                      go_wp2_with fail
                      go_quiet (fail)
                      go_wp2
                      go_roundw
                      case rel => exact ⟨a + 1, _, by go_num, by omega, hide (fun j hj hl => by
                        by_cases e : j = a
                        · subst e; rw [HBA.out]; exact hc
                        · exact HLow.out j (by omega) hl), by first | rfl | simp⟩
                      case measure => simp [intOf]; omega
                    · have hcI : ¬ (f.1 : Int) < (e0.1 : Int) := by omega
                      have hd : decide ((f.1 : Int) < (e0.1 : Int)) = false := decide_eq_false hcI
                      go_wp2_with fail
                      go_quiet (fail)
                      have HBz : Hid (Below We.heap.size We ((We.drewN z).drewN nq)) := hide (below_drewN (below_drewN (Below.refl _ _) _) _)
                      have hzz : ((We.drewN z).drewN nq).heap.size = We.heap.size := by simp
                      generalize (We.drewN z).drewN nq = Wz at HBz hzz ⊢
                      clear nq
                      have hown0 : (Wz.alloc (.cells #[] 22)).ownsRow We.heap.size 22 1 (.slice (some ⟨We.heap.size, 0, none⟩) 0 0) ([] : List Ent).length (([] : List Ent).map hdE) := by
                        rw [← hzz]
                        exact World.ownsRow_lit Wz #[] 0 (Nat.le_refl _) (by unfold maxLen; omega) rfl
                      have hsrc0 : SrcE (Wz.alloc (.cells #[] 22)) (.slice (some ⟨rb, 0, none⟩) a c') (Q.take a) := .inr ⟨⟨rb, 0, none⟩, a, c', rfl, by rw [List.length_take]; omega, fun j hj => by
                        rw [List.length_take] at hj
                        have h := (HCe.out j (by omega))
                        rw [List.getElem_take]
                        have h2 : (Wz.alloc (.cells #[] 22)).cell? ⟨rb, j, none⟩ = some (hdE Q[j]) := ((HBz.out.alloc (Nat.le_of_eq hzz.symm) _).cell (p := ⟨rb, j, none⟩) (by show rb < We.heap.size; omega)).trans h
                        rw [addr_add, Nat.zero_add]; exact h2⟩
                      have HO0 := hide hown0
                      have HS0 := hide hsrc0
                      clear hown0 hsrc0
                      have hac : (a : Int) ≤ (c' : Int) := by omega
                      have haq : (a : Int) ≤ (q : Int) := by omega
                      go_wp2_with (at_builtin; refine Hid.out ?_)
                      refine hide ?_
                      refine wpList_append_heads _ rfl _ _ rfl We.heap.size (.slice (some ⟨We.heap.size, 0, none⟩) 0 0) (.slice (some ⟨rb, 0, none⟩) a c') [] (Q.take a) rfl HO0.out rfl HS0.out (by rw [List.length_take]; simp; omega) (by simp [hzz]) ?_
                      intro A2 n2 c2 w6 hn2 ho6 hg6
                      rw [List.nil_append] at hn2 ho6
                      have HN2 := hide hn2
                      clear hn2
                      have HO6 := hide ho6
                      have HB6 : Hid (Below We.heap.size We w6) := hide (Below.own_grown (HBz.out.alloc (Nat.le_of_eq hzz.symm) _) HO0.out hg6 (Nat.le_refl _) (by simp [hzz]))
                      clear ho6 hg6
                      have hz6 := HB6.out.size
                      go_wp2_with fail
                      go_region_law (first
                        | (refine step_append_heads rfl (.tmp 90) (.tmp 92) rfl We.heap.size (.slice A2 n2 c2) (.slice (some ⟨w6.heap.size, 0, none⟩) 1 1) (Q.take a) [(wr.heap.size, e0)] rfl (own_below HO6.out (by go_grown)) rfl (src_one w6 (wr.heap.size, e0) rfl (by first | exact Below.refl _ _ | exact Below.drew (Below.refl _ _))) (by simp; omega) (by simp; omega) ?_; intro A3 n3 c3 w7 hn3 ho7 hg7; have HN3 := hide hn3; have HO7 := hide ho7; have HB7 := hide (Below.own_grown (by have h := HB6.out; go_grown : Below We.heap.size We _) (own_below HO6.out (by go_grown)) hg7 (Nat.le_refl _) (by simp; omega)); clear hn3 ho7 hg7)
                        | (refine step_append_heads rfl (.tmp 93) (.tmp 96) rfl We.heap.size (.slice A3 n3 c3) (.slice (if c' = a then some ⟨rb, 0, none⟩ else some ⟨rb, a, none⟩) (q - a) (c' - a)) (Q.take a ++ [(wr.heap.size, e0)]) (Q.drop a) rfl (own_below HO7.out (by go_grown)) rfl (src_rest hq (by omega) hcap (fun j hj => (HB7.out.cell (p := ⟨rb, j, none⟩) hrbe).trans (HCe.out j hj))) (by have := place_len Q (wr.heap.size, e0) a; rw [List.length_append] at this; omega) (by have := HB7.out.size; omega) ?_; intro A4 n4 c4 w8 hn4 ho8 hg8; have HN4 := hide hn4; have HO8 := hide ho8; have HB8 := hide (Below.own_grown (HB7.out) HO7.out hg8 (Nat.le_refl _) HB7.out.size); clear hn4 ho8 hg8))
                      all_goals
                        go_wp2
                        go_roundw
                        case rel => exact ⟨k, n4, c4, s', A4, _, rfl, by omega, rfl, rfl, hide (by rw [HRUN.out]), hide (by rw [HRUN.out, sortE_snoc, ← HQ.out]; exact place_map (by omega) HLow.out (fun _ => by rw [HBA.out]; exact hc)), HN4.out.symm, hide ((HE.out.place (x := (wr.heap.size, e0)) (HBe.out.trans (HB8.out.mono HBe.out.size)) (PE.out.all HB8.out) (Nat.le_refl _) HB.out.size HN4.out HO8.out).mono (by have := HBe.out.size; have := HB.out.size; omega) (Nat.le_refl _)), fun h => absurd h (by simp), hide (HB.out.trans ((HBe.out.trans (HB8.out.mono HBe.out.size)).mono HB.out.size))⟩
                        case measure => simp [intOf]
                  · have HAQ : Hid (a = q) := hide (by omega)
                    have hltI : ¬ (a : Int) < (q : Int) := by omega
                    go_wp2_with fail
                    go_quiet (fail)
                    have HBz : Hid (Below We.heap.size We ((We.drewN z).drewN nq)) := hide (below_drewN (below_drewN (Below.refl _ _) _) _)
                    have hzz : ((We.drewN z).drewN nq).heap.size = We.heap.size := by simp
                    generalize (We.drewN z).drewN nq = Wz at HBz hzz ⊢
                    clear nq
                    have hown0 : (Wz.alloc (.cells #[] 22)).ownsRow We.heap.size 22 1 (.slice (some ⟨We.heap.size, 0, none⟩) 0 0) ([] : List Ent).length (([] : List Ent).map hdE) := by
                      rw [← hzz]
                      exact World.ownsRow_lit Wz #[] 0 (Nat.le_refl _) (by unfold maxLen; omega) rfl
                    have hsrc0 : SrcE (Wz.alloc (.cells #[] 22)) (.slice (some ⟨rb, 0, none⟩) a c') (Q.take a) := .inr ⟨⟨rb, 0, none⟩, a, c', rfl, by rw [List.length_take]; omega, fun j hj => by
                      rw [List.length_take] at hj
                      have h := (HCe.out j (by omega))
                      rw [List.getElem_take]
                      have h2 : (Wz.alloc (.cells #[] 22)).cell? ⟨rb, j, none⟩ = some (hdE Q[j]) := ((HBz.out.alloc (Nat.le_of_eq hzz.symm) _).cell (p := ⟨rb, j, none⟩) (by show rb < We.heap.size; omega)).trans h
                      rw [addr_add, Nat.zero_add]; exact h2⟩
                    have HO0 := hide hown0
                    have HS0 := hide hsrc0
                    clear hown0 hsrc0
                    have hac : (a : Int) ≤ (c' : Int) := by omega
                    have haq : (a : Int) ≤ (q : Int) := by omega
                    go_wp2_with (at_builtin; refine Hid.out ?_)
                    refine hide ?_
                    refine wpList_append_heads _ rfl _ _ rfl We.heap.size (.slice (some ⟨We.heap.size, 0, none⟩) 0 0) (.slice (some ⟨rb, 0, none⟩) a c') [] (Q.take a) rfl HO0.out rfl HS0.out (by rw [List.length_take]; simp; omega) (by simp [hzz]) ?_
                    intro A2 n2 c2 w6 hn2 ho6 hg6
                    rw [List.nil_append] at hn2 ho6
                    have HN2 := hide hn2
                    clear hn2
                    have HO6 := hide ho6
                    have HB6 : Hid (Below We.heap.size We w6) := hide (Below.own_grown (HBz.out.alloc (Nat.le_of_eq hzz.symm) _) HO0.out hg6 (Nat.le_refl _) (by simp [hzz]))
                    clear ho6 hg6
                    have hz6 := HB6.out.size
                    go_wp2_with fail
                    go_region_law (first
                      | (refine step_append_heads rfl (.tmp 90) (.tmp 92) rfl We.heap.size (.slice A2 n2 c2) (.slice (some ⟨w6.heap.size, 0, none⟩) 1 1) (Q.take a) [(wr.heap.size, e0)] rfl (own_below HO6.out (by go_grown)) rfl (src_one w6 (wr.heap.size, e0) rfl (by first | exact Below.refl _ _ | exact Below.drew (Below.refl _ _))) (by simp; omega) (by simp; omega) ?_; intro A3 n3 c3 w7 hn3 ho7 hg7; have HN3 := hide hn3; have HO7 := hide ho7; have HB7 := hide (Below.own_grown (by have h := HB6.out; go_grown : Below We.heap.size We _) (own_below HO6.out (by go_grown)) hg7 (Nat.le_refl _) (by simp; omega)); clear hn3 ho7 hg7)
                      | (refine step_append_heads rfl (.tmp 93) (.tmp 96) rfl We.heap.size (.slice A3 n3 c3) (.slice (if c' = a then some ⟨rb, 0, none⟩ else some ⟨rb, a, none⟩) (q - a) (c' - a)) (Q.take a ++ [(wr.heap.size, e0)]) (Q.drop a) rfl (own_below HO7.out (by go_grown)) rfl (src_rest hq (by omega) hcap (fun j hj => (HB7.out.cell (p := ⟨rb, j, none⟩) hrbe).trans (HCe.out j hj))) (by have := place_len Q (wr.heap.size, e0) a; rw [List.length_append] at this; omega) (by have := HB7.out.size; omega) ?_; intro A4 n4 c4 w8 hn4 ho8 hg8; have HN4 := hide hn4; have HO8 := hide ho8; have HB8 := hide (Below.own_grown (HB7.out) HO7.out hg8 (Nat.le_refl _) HB7.out.size); clear hn4 ho8 hg8))
                    all_goals
                      go_wp2
                      go_roundw
                      case rel => exact ⟨k, n4, c4, s', A4, _, rfl, by omega, rfl, rfl, hide (by rw [HRUN.out]), hide (by rw [HRUN.out, sortE_snoc, ← HQ.out]; exact place_map (by omega) HLow.out (fun hl => absurd hl (by have := HAQ.out; omega))), HN4.out.symm, hide ((HE.out.place (x := (wr.heap.size, e0)) (HBe.out.trans (HB8.out.mono HBe.out.size)) (PE.out.all HB8.out) (Nat.le_refl _) HB.out.size HN4.out HO8.out).mono (by have := HBe.out.size; have := HB.out.size; omega) (Nat.le_refl _)), fun h => absurd h (by simp), hide (HB.out.trans ((HBe.out.trans (HB8.out.mono HBe.out.size)).mono HB.out.size))⟩
                      case measure => simp [intOf]
            · go_wp2_with fail
              go_quiet (fail)
              go_wp2_with (go_at_call 73; refine (grIn_nat _ _ _ (by omega)).mono ?_; rintro e w5 ⟨rfl, rfl⟩; simp only [hbi, hbu])
              go_roundw
              case rel => exact SAME.out (by rw [HDR.out, mtRun_snoc]; unfold mtStep; rw [if_pos (by right; right; rw [HP0.out, HS.out]; simpa using hbu)]) nq
              case measure => simp [intOf]
          · go_wp2_with fail
            go_quiet (fail)
            go_wp2_with (go_at_call 73; refine (grIn_nat _ _ _ (by omega)).mono ?_; rintro e w5 ⟨rfl, rfl⟩; simp only [hbi])
            go_roundw
            case rel => exact SAME.out (by rw [HDR.out, mtRun_snoc]; unfold mtStep; rw [if_pos (by right; left; rw [HS.out]; exact hbi)]) nq
            case measure => simp [intOf]
end Go.Proofs.YtmcimfblhpflnaaDoor
