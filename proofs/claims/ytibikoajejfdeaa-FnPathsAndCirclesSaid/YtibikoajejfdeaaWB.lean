import Derived.Test.YtibikoajejfdeaaWA
namespace Go.Proofs.Ytibikoajejfdeaa
open Go.RowKit
set_option maxHeartbeats 2000000
/-- Two slices share no block. -/
def Sep (u v : Value) : Prop := ∀ k, u.ownBlock = some k → v.ownBlock ≠ some k
theorem Sep.symm {u v : Value} (h : Sep u v) : Sep v u := fun k hk hu => h k hu hk
theorem Sep.none (v : Value) (n c : Nat) : Sep (.slice none n c) v := fun k hk => by simp [Value.ownBlock] at hk
theorem wpList_append_two {ops : Array Oper} {rest : List Oper} {o : Oper} {a : Act} {Q : Exit → Act → World → Prop} (w : World) (hgd : o.guard = none) (s x : Operand)
    (ho : o.op = .call { callee := .builtin .append, args := #[s, x], argTypes := #[27, 27] }) (B : Nat) (A : Option Addr) (c n : Nat) (L : List Nat) (b g : Nat)
    (hs : a.eval s = .slice A n c) (hown : OL w B (.slice A n c) L) (hn : L.length = n)
    (hx : a.eval x = .slice (some ⟨g, 0, none⟩) 1 1) (hnew : w.cell? ⟨g, 0, none⟩ = some (.int .i64 (b : Nat))) (hlen : n ≤ 1048576) (hB : B ≤ w.heap.size)
    (v2 : Value) (L2 : List Nat) (h2 : OL w B v2 L2) (hsep : Sep (.slice A n c) v2)
    (h : ∀ A' c' w', OL w' B (.slice A' (n + 1) c') (L ++ [b]) → OL w' B v2 L2 → Sep (.slice A' (n + 1) c') v2 → Below B w w' → wpList Try.prog ops Q rest (a.put o.dst (.slice A' (n + 1) c')) w') : wpList Try.prog ops Q (o :: rest) a w := by
  obtain ⟨i0, hi, hz0, hz1, hz2⟩ := info_parts int_info
  subst hn
  refine wpList_plain hgd fun K hK => ?_
  obtain ⟨v', w', hrun, h2', h3, _, h5⟩ := run_append_own_at (P := Try.prog) w B 27 o.type 3 i0 (.int .i64 0) 1 8 Try.underlying27 hi hz0 hz1 hz2 rfl (by decide) _ L.length (vl L) hown ⟨g, 0, none⟩ 1 1 [.int .i64 (b : Nat)] rfl
    (fun j u hu => by
      match j, hu with
      | 0, hu => simp at hu; subst hu; simpa [Addr.add] using hnew)
    (by intro u hu; simp at hu; subst hu; rfl) (by unfold maxLen; omega) (by omega) hB
  obtain ⟨A', c', rfl⟩ := own_form h2'
  have hlt2 := World.ownsRow.lt h2
  unfold Oper.wp execOp
  simp only [ho, resolve, invoke, builtin, Sem.run_bind, Sem.run_pure, Result.andThen_ok, List.map_toArray, List.map_cons, List.map_nil, hs, hx, hrun]
  refine hK _ _ (h A' c' w' ?_ (World.ownsRow.kept h2 h3 ?_) ?_ (Below.own_grown (Below.refl B w) hown h3 (Nat.le_refl _) hB))
  · unfold OL
    rw [vl_snoc, List.length_append]
    exact h2'
  · cases hv : v2.ownBlock with
    | none => exact .inl rfl
    | some k => right; intro e; exact hsep k e.symm hv
  · intro k hk
    rcases h5 with h5 | h5
    · rw [h5] at hk; exact hsep k hk
    · rw [h5] at hk; injection hk with hk; intro e; have := (hlt2 k e).2; omega
/-- What quietAndImage hands back. -/
def TwoL (w : World) (Q I : List Nat) (e : Ending) (w' : World) : Prop :=
  ∃ (A1 A2 : Option Addr) (n1 n2 c1 c2 : Nat), e = .returned (.tuple #[.slice A1 n1 c1, .slice A2 n2 c2]) ∧ Q.length = n1 ∧ I.length = n2 ∧ OL w' w.heap.size (.slice A1 n1 c1) Q ∧ OL w' w.heap.size (.slice A2 n2 c2) I ∧ Below w.heap.size w w'
def lowP (P : List Nat) (n k : Nat) : List Nat := (P.take k).filter (fun b => decide (b >>> n = 0))
def upP (P : List Nat) (n k : Nat) : List Nat := ((P.take k).filter (fun b => decide (¬ b >>> n = 0))).map (· >>> n)
theorem lowP_succ {P : List Nat} {n k : Nat} (h : k < P.length) : lowP P n (k + 1) = lowP P n k ++ (if decide (P[k] >>> n = 0) then [P[k]] else []) := take_filter h _
theorem upP_succ {P : List Nat} {n k : Nat} (h : k < P.length) : upP P n (k + 1) = upP P n k ++ (if decide (¬ P[k] >>> n = 0) then [P[k] >>> n] else []) := by
  unfold upP
  rw [take_filter h, List.map_append]
  cases hp : decide (¬ P[k] >>> n = 0) <;> simp
theorem lowP_len (P : List Nat) (n k : Nat) : (lowP P n k).length ≤ P.length := Nat.le_trans (List.length_filter_le _ _) (List.length_take_le' _ _)
theorem upP_len (P : List Nat) (n k : Nat) : (upP P n k).length ≤ P.length := by
  unfold upP; rw [List.length_map]; exact Nat.le_trans (List.length_filter_le _ _) (List.length_take_le' _ _)
/-- The quiet basis and the image basis are the parts of the basis of presses with their effects. -/
theorem parts (T : Nat → Nat) (n : Nat) : lowP (pS T n n) n (pS T n n).length = (qS T n n).1 ∧ upP (pS T n n) n (pS T n n).length = iS T n := by
  have HI := inv_at T n n (by omega)
  obtain ⟨H, hP, hH, hI⟩ := HI.H
  have hl := HI.low
  simp only [lowP, upP, List.take_length]
  rw [hP]
  have a1 : (qS T n n).1.filter (fun b => decide (b >>> n = 0)) = (qS T n n).1 := by
    rw [List.filter_eq_self]; intro b hb; exact decide_eq_true (shr_eq_zero.2 (hl b hb))
  have a2 : H.filter (fun b => decide (b >>> n = 0)) = [] := by
    rw [List.filter_eq_nil_iff]; intro b hb; have := hH b hb; rw [decide_eq_true_eq, shr_eq_zero]; omega
  have b1 : (qS T n n).1.filter (fun b => decide (¬ b >>> n = 0)) = [] := by
    rw [List.filter_eq_nil_iff]; intro b hb; have := hl b hb; rw [decide_eq_true_eq, shr_eq_zero]; omega
  have b2 : H.filter (fun b => decide (¬ b >>> n = 0)) = H := by
    rw [List.filter_eq_self]; intro b hb; have := hH b hb; rw [decide_eq_true_eq, shr_eq_zero]; omega
  rw [List.filter_append, List.filter_append, a1, a2, b1, b2, List.append_nil, List.nil_append]
  exact ⟨rfl, hI⟩
theorem quietAndImage_any (g n c : Nat) (T : Nat → Nat) (w : World) (hn : n ≤ 16) (hT : ∀ j, j < n → T j < 2 ^ n) (ha : Arr w 3 g n (iv (nv T))) :
    Calls Try.prog 29 #[.slice (some ⟨g, 0, none⟩) n c] w (TwoL w (qS T n n).1 (iS T n)) := by
  have HI := inv_at T n n (by omega)
  have HT := hide hT
  have hfit := fit_of hn HI.bp (pS_lt HT.out n (by omega))
  have hparts := parts T n
  obtain ⟨P, hP⟩ : ∃ P, pS T n n = P := ⟨_, rfl⟩
  rw [hP] at hfit hparts
  have HP := hide hP
  have HFit := hide hfit
  have HParts := hide hparts
  have HA := hide ha
  clear ha hT HI hfit hparts hP
  go_enter Try.func29, Try.ntmps29
  go_wp2_with fail
  refine (pressBasis_any _ _ _ T _ hn HT.out HA.out).mono ?_
  rintro e w1 ⟨AP, dP, p, rfl, hp, ho, hb⟩
  rw [HP.out] at hp ho
  have hz1 := hb.size
  have hp64 : p ≤ 64 := by rw [← hp]; exact HFit.out.2
  have HPL := hide hp
  have HS := hide (ho.src hp)
  have HB1 := hide hb
  clear hp ho hb
  go_wp2
  go_loopw [4, 5, 12] (fun qv uv i wr => ∃ (k m1 m2 : Nat) (A1 A2 : Option Addr) (d1 d2 : Nat), k ≤ p ∧ i = .int .i64 k ∧ qv = .slice A1 m1 d1 ∧ uv = .slice A2 m2 d2 ∧ Hid ((lowP P n k).length = m1) ∧ Hid ((upP P n k).length = m2) ∧ OL wr w1.heap.size (.slice A1 m1 d1) (lowP P n k) ∧ OL wr w1.heap.size (.slice A2 m2 d2) (upP P n k) ∧ Sep (.slice A1 m1 d1) (.slice A2 m2 d2) ∧ Below w1.heap.size w1 wr) (fun _ _ i _ => p - (intOf i).toNat)
  case atStart => exact ⟨0, 0, 0, none, none, 0, 0, by omega, rfl, rfl, rfl, hide rfl, hide rfl, OL.nil _ _, OL.nil _ _, Sep.none _ _ _, Below.refl _ _⟩
  case round =>
    obtain ⟨k, m1, m2, A1, A2, d1, d2, hk, rfl, rfl, rfl, HM1, HM2, ho1, ho2, hsep, hb⟩ := hrel
    have hsz := hb.size
    have HO1 := hide ho1
    have HO2 := hide ho2
    have HSep := hide hsep
    have HB := hide hb
    have hm1 : m1 ≤ 64 := by have h1 := lowP_len P n k; have h2 := HM1.out; have h3 := HPL.out; omega
    have hm2 : m2 ≤ 64 := by have h1 := upP_len P n k; have h2 := HM2.out; have h3 := HPL.out; omega
    clear ho1 ho2 hsep hb
    by_cases hlt : k < p
    · have hkn : k < P.length := by rw [HPL.out]; exact hlt
      obtain ⟨b, off, hA, hbl, hc0⟩ := HS.out k hlt
      subst hA
      obtain ⟨y, hy⟩ : ∃ y, P[k] = y := ⟨_, rfl⟩
      have hym : y ∈ P := by rw [← hy]; exact List.getElem_mem hkn
      have hy40 := HFit.out.1 y hym
      have hc : wr.cell? ⟨b, off + k, none⟩ = some (.int .i64 (y : Nat)) := by rw [HB.out.cell (p := ⟨b, off + k, none⟩) hbl, hc0, lv_get hkn, hy]
      have HK1 : Hid (lowP P n (k + 1) = lowP P n k ++ (if decide (y >>> n = 0) then [y] else [])) := hide (by rw [lowP_succ hkn, hy])
      have HK2 : Hid (upP P n (k + 1) = upP P n k ++ (if decide (¬ y >>> n = 0) then [y >>> n] else [])) := hide (by rw [upP_succ hkn, hy])
      clear hy hc0 hkn hym
      by_cases hz : y >>> n = 0
      · have e2 : (y : Int) / 2 ^ n = 0 := by rw [shr_nat, hz]; rfl
        have HZ := hide hz
        clear hz
        go_wp2_with (at_builtin; refine wpList_append_two _ rfl _ _ rfl w1.heap.size A1 d1 m1 (lowP P n k) y wr.heap.size rfl (HO1.out.alloc _) HM1.out rfl (by simp [go_sem]) (by omega) (by simp; omega) (.slice A2 m2 d2) (upP P n k) (HO2.out.alloc _) HSep.out ?_; intro A5 c5 w5 ho5 ho6 hsep5 hb5; have HO5 := hide ho5; have HO6 := hide ho6; have HSep5 := hide hsep5; have HB5 := hide ((HB.out.alloc (by omega) _).trans hb5); clear ho5 ho6 hsep5 hb5)
        go_roundw
        case rel => exact ⟨k + 1, m1 + 1, m2, A5, A2, c5, d2, by omega, by go_num, rfl, rfl, hide (by rw [HK1.out, decide_eq_true HZ.out, if_pos rfl, List.length_append, HM1.out]; rfl), hide (by rw [HK2.out, decide_eq_false (not_not_intro HZ.out)]; simpa using HM2.out), by rw [HK1.out, decide_eq_true HZ.out, if_pos rfl]; exact HO5.out, by rw [HK2.out, decide_eq_false (not_not_intro HZ.out)]; simpa using HO6.out, HSep5.out, HB5.out⟩
        case measure => simp [intOf]; omega
      · have e2 : (y : Int) / 2 ^ n = ((y >>> n : Nat) : Int) := shr_nat y n
        have e3 : (((y >>> n : Nat) : Int) == 0) = false := nat_ne0 hz
        have e4 : (((y >>> n : Nat) : Int) != 0) = true := by rw [bne, e3]; rfl
        have HZ := hide hz
        clear hz
        obtain ⟨z, hz⟩ : ∃ z, y >>> n = z := ⟨_, rfl⟩
        rw [hz] at e2 e3 e4 HK2
        rw [hz] at HK1
        have HZ2 : Hid (¬ z = 0) := by rw [← hz]; exact HZ
        clear hz HZ
        go_wp2_with (at_builtin; refine wpList_append_two _ rfl _ _ rfl w1.heap.size A2 d2 m2 (upP P n k) z wr.heap.size rfl (HO2.out.alloc _) HM2.out rfl (by simp [go_sem]) (by omega) (by simp; omega) (.slice A1 m1 d1) (lowP P n k) (HO1.out.alloc _) HSep.out.symm ?_; intro A5 c5 w5 ho5 ho6 hsep5 hb5; have HO5 := hide ho5; have HO6 := hide ho6; have HSep5 := hide hsep5.symm; have HB5 := hide ((HB.out.alloc (by omega) _).trans hb5); clear ho5 ho6 hsep5 hb5)
        go_roundw
        case rel => exact ⟨k + 1, m1, m2 + 1, A1, A5, d1, c5, by omega, by go_num, rfl, rfl, hide (by rw [HK1.out, decide_eq_false HZ2.out]; simpa using HM1.out), hide (by rw [HK2.out, decide_eq_true HZ2.out, if_pos rfl, List.length_append, HM2.out]; rfl), by rw [HK1.out, decide_eq_false HZ2.out]; simpa using HO6.out, by rw [HK2.out, decide_eq_true HZ2.out, if_pos rfl]; exact HO5.out, HSep5.out, HB5.out⟩
        case measure => simp [intOf]; omega
    · have hkn : k = p := by omega
      subst hkn
      have HQ : Hid (lowP P n k = (qS T n n).1) := hide (by rw [← HPL.out]; exact HParts.out.1)
      have HU : Hid (upP P n k = iS T n) := hide (by rw [← HPL.out]; exact HParts.out.2)
      go_wp2
      go_ret2
      exact ⟨A1, A2, m1, m2, d1, d2, rfl, by rw [← HQ.out]; exact HM1.out, by rw [← HU.out]; exact HM2.out, by rw [← HQ.out]; exact HO1.out.mono (by omega), by rw [← HU.out]; exact HO2.out.mono (by omega), HB1.out.trans (HB.out.mono (by omega))⟩
end Go.Proofs.Ytibikoajejfdeaa
