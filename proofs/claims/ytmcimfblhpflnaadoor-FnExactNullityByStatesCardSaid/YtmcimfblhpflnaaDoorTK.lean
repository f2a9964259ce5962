/-
All children of a button are asked.
-/
import Derived.Test.YtmcimfblhpflnaaDoorAC
import Derived.Test.YtmcimfblhpflnaaDoorFE
import Derived.Test.YtmcimfblhpflnaaDoorZb
namespace Go.Proofs.YtmcimfblhpflnaaDoor
open Go.RowKit Go.BigFrame
set_option maxHeartbeats 4000000
theorem kids_skip {p : Nat → Int} {i a : Nat} : ∀ b, a ≤ b → (∀ j, a ≤ j → j < b → p j ≠ (i : Nat)) → kids p b i = kids p a i
  | 0, h, _ => by have : a = 0 := by omega
                  subst this; rfl
  | b + 1, h, hj => by
    by_cases e : a = b + 1
    · subst e; rfl
    · rw [kids_succ, if_neg (hj b (by omega) (by omega))]
      exact kids_skip b (by omega) fun j h1 h2 => hj j h1 (by omega)
theorem Kx.later {eb ob : Nat} {w w' : World} (h : Kx eb ob none none w w') (x : Later w') (u v : Value) : Kx eb ob none none w ((x.w.setCell ⟨eb, 0, none⟩ u).setCell ⟨ob, 0, none⟩ v) :=
  ((h.trans (Kx.of_below eb ob none x.is)).setTop 0 u).setPar 0 v
theorem Run.ch_kids {F : Nat → Nat} {n : Nat} {o t : List Nat} {p : Nat → Int} (hF : Sym F n) (h : Run F n o t p) {i : Nat} (hi : i < n) : ∀ j, (ch F p i).testBit j = true ↔ j < n ∧ p j = (i : Nat) := by
  intro j
  have hpi : p i = -1 ∨ 0 ≤ p i := by
    rcases h.qu.gr.par i (h.all i hi) with e | ⟨u, _, e, _⟩
    · exact .inl e
    · exact .inr (by omega)
  rw [ch_bit F p i j hpi]
  constructor
  · rintro ⟨hb, hne⟩
    have hj := hF.lt i hi j hb
    refine ⟨hj, ?_⟩
    rcases h.edge hi hb with e | e
    · exact absurd e hne
    · exact e
  · rintro ⟨hj, e⟩
    rcases h.qu.gr.par j (h.all j hj) with e2 | ⟨u, _, e2, hb⟩
    · omega
    · have : u = i := by omega
      subst this
      exact ⟨hb, fun e3 => h.qu.gr.once j u (h.all j hj) (h.all u hi) e e3⟩
set_option maxRecDepth 4000 in
theorem eachKids71 (tb0 pb ab eb ob tb n nc i pr q : Nat) (p : Nat → Int) (v : Nat → Nat → Nat → Int) (w : World) (hn : n ≤ 16) (hpr : pr < 2) (hq : q < 65536) (hQ : ∀ j, q.testBit j = true ↔ j < n ∧ p j = (i : Nat)) (hT : Tab w) (t1 : 1 ≠ eb) (t2 : 1 ≠ ob) (hne : eb ≠ ob)
    (h0 : w.cell? ⟨tb0, 0, none⟩ = some (.slice (some ⟨tb, 0, none⟩) n nc)) (h1 : w.cell? ⟨pb, 0, none⟩ = some (.int .i64 (pr : Nat))) (h2 : w.cell? ⟨ab, 0, none⟩ = some (.iface 71 (.agg #[])))
    (n0 : tb0 ≠ eb ∧ tb0 ≠ ob) (n1 : pb ≠ eb ∧ pb ≠ ob) (n2 : ab ≠ eb ∧ ab ≠ ob) (nt : tb ≠ eb ∧ tb ≠ ob)
    (hE : Blk w 3 eb #[.int .i64 (accCI.single 0)]) (hO : Blk w 3 ob #[.int .i64 accCI.none])
    (hV : ∀ j, j < n → p j = (i : Nat) → w.cell? ⟨tb, j * 4 + pr, none⟩ = some (.int .i64 (v j 0 pr)) ∧ w.cell? ⟨tb, j * 4 + 2 + pr, none⟩ = some (.int .i64 (v j 1 pr))) :
    Calls Tryd.prog 100 #[.int .i64 (q : Nat), .func (.func 125) #[] #[.pointer (some ⟨tb0, 0, none⟩), .pointer (some ⟨pb, 0, none⟩), .pointer (some ⟨ab, 0, none⟩), .pointer (some ⟨eb, 0, none⟩), .pointer (some ⟨ob, 0, none⟩)]] w fun e w' =>
      e = .returned (.tuple #[]) ∧ Kx eb ob none none w w' ∧ Blk w' 3 eb #[.int .i64 (kRun accCI v pr (kids p n i)).1] ∧ Blk w' 3 ob #[.int .i64 (kRun accCI v pr (kids p n i)).2] := by
  have H0 := hide h0
  have H1 := hide h1
  have H2 := hide h2
  have HQ := hide hQ
  have HT := hide hT
  have HV := hide hV
  have HE := hide hE
  have HO := hide hO
  have hno : ∀ b : Nat, Go.Proofs.YtmcimfblhpflnaaDoor.ob none ≠ some b := fun b h => by cases h
  clear h0 h1 h2 hQ hT hV hE hO
  go_enter Tryd.func100, Tryd.ntmps100
  go_wp2
  go_loopw [0] (fun x wr => ∃ (r jj : Nat), x = .int .i64 r ∧ r ≤ q ∧ jj ≤ n ∧ Hid (∀ b, r.testBit b = (decide (jj ≤ b) && q.testBit b)) ∧ Hid (Kx eb ob none none w wr) ∧ Hid (Blk wr 3 eb #[.int .i64 (kRun accCI v pr (kids p jj i)).1]) ∧ Hid (Blk wr 3 ob #[.int .i64 (kRun accCI v pr (kids p jj i)).2]))
    (fun x _ => (intOf x).toNat)
  case atStart => exact ⟨q, 0, rfl, Nat.le_refl _, Nat.zero_le _, hide (fun b => by simp), hide (Kx.refl _ _ _ _), HE, HO⟩
  case round =>
    obtain ⟨r, jj, rfl, hrq, hjj, HR, HK, HE1, HO1⟩ := hrel
    have skip : ∀ x, jj ≤ x → x ≤ n → (∀ j, j < x → r.testBit j = false) → kids p x i = kids p jj i := fun x h1 h2 hz => kids_skip x h1 fun j g1 g2 e => by
      have hr := HR.out j
      rw [hz j g2] at hr
      simp only [g1, decide_true, Bool.true_and] at hr
      have := (HQ.out j).2 ⟨by omega, e⟩
      rw [this] at hr
      cases hr
    by_cases h0 : r = 0
    · subst h0
      have e := skip n hjj (Nat.le_refl _) (fun j _ => Nat.zero_testBit j)
      have HE2 := HE1
      have HO2 := HO1
      rw [← e] at HE2 HO2
      clear skip e
      go_wp2
      go_end0
      exact ⟨rfl, HK.out, HE2.out, HO2.out⟩
    · have hlow := ctz_low h0 (by omega)
      obtain ⟨x, hx⟩ : ∃ x, Lib.ctz 64 r = x := ⟨_, rfl⟩
      rw [hx] at hlow
      have hrx := HR.out x
      rw [hlow.1] at hrx
      have hjx : jj ≤ x := by
        apply Nat.le_of_not_lt
        intro h
        rw [show decide (jj ≤ x) = false by simp; omega] at hrx
        simp at hrx
      have hqx : q.testBit x = true := by
        cases hb : q.testBit x
        · rw [hb] at hrx; simp at hrx
        · rfl
      obtain ⟨hxn, hpx⟩ := (HQ.out x).1 hqx
      have e := skip x hjx (by omega) hlow.2
      have HE2 := HE1
      have HO2 := HO1
      rw [← e] at HE2 HO2
      obtain ⟨v0, v1⟩ := HV.out x hxn hpx
      have HR2 : Hid (∀ b, (r &&& (r - 1)).testBit b = (decide (x + 1 ≤ b) && q.testBit b)) := hide (fun b => by
        rw [low_off hlow.1 hlow.2, Nat.testBit_xor, Nat.testBit_two_pow]
        rcases Nat.lt_trichotomy b x with h | h | h
        · rw [hlow.2 b h]; simp [show ¬ x = b by omega, show ¬ x + 1 ≤ b by omega]
        · subst h; rw [hlow.1]; simp [show ¬ b + 1 ≤ b by omega]
        · rw [HR.out b]; simp [show ¬ x = b by omega, show x + 1 ≤ b by omega, show jj ≤ b by omega])
      have hlt := low_lt hlow.1 hlow.2
      have hneq : ((r : Int) == 0) = false := by simp; omega
      have hneq' : ((r : Int) != 0) = true := by simp; omega
      have hand : bits .and .i64 (r : Int) ((r : Int) - 1) = ((r &&& (r - 1) : Nat) : Int) := by
        rw [show (r : Int) - 1 = ((r - 1 : Nat) : Int) by omega]
        exact and_small _ _ (by omega) (by omega)
      have hwu : IntKind.u64.wrap (r : Int) = (r : Int) := by rw [IntKind.wrap_u64]; omega
      have HTt := hide (HK.out.tab HT.out t1 t2 (hno 1))
      have hr64 : r < 18446744073709551616 := by omega
      have HC : Hid (Calls Tryd.prog 125 #[.int .i64 (x : Nat), .pointer (some ⟨tb0, 0, none⟩), .pointer (some ⟨pb, 0, none⟩), .pointer (some ⟨ab, 0, none⟩), .pointer (some ⟨eb, 0, none⟩), .pointer (some ⟨ob, 0, none⟩)] wr _) := hide (child71 tb0 pb ab eb ob tb n nc x pr _ _ _ _ wr hxn hn hpr (HK.out.cell H0.out n0.1 n0.2 (hno _)) (HK.out.cell H1.out n1.1 n1.2 (hno _)) (HK.out.cell H2.out n2.1 n2.2 (hno _)) (HE2.out.cell 0) (HO2.out.cell 0) (HE2.out.frozen 0) (HO2.out.frozen 0) hne (HK.out.cell v0 nt.1 nt.2 (hno _)) (HK.out.cell v1 nt.1 nt.2 (hno _)))
      have HP := hide hpx
      clear hlow hrx hqx hpx e skip v0 v1 HE1 HO1
      go_wp2_with (first
        | (go_at_call 77; refine (ctz_any _ hr64 _ HTt.out).mono ?_; rintro e w3 ⟨rfl, hw3⟩; subst w3; rw [hx])
        | (go_at_call 125; refine HC.out.mono ?_; rintro e w4 ⟨rfl, x4, hw4⟩; have HW4 := hide hw4; clear hw4))
      refine ⟨⟨r &&& (r - 1), x + 1, rfl, by omega, by omega, HR2, hide ?_, hide ?_, hide ?_⟩, by simp [intOf]; omega⟩
      · rw [HW4.out]; exact HK.out.later x4 _ _
      · rw [HW4.out, kids_succ, if_pos HP.out, kRun_snoc]
        have := (((HE2.out.all x4.is).set 0 (.int .i64 (accCI.either (accCI.both (kRun accCI v pr (kids p x i)).1 (v x 0 pr)) (accCI.both (kRun accCI v pr (kids p x i)).2 (v x 1 pr))))).far (p := ⟨ob, 0, none⟩) hne (.int .i64 (accCI.either (accCI.both (kRun accCI v pr (kids p x i)).2 (v x 0 pr)) (accCI.both (kRun accCI v pr (kids p x i)).1 (v x 1 pr)))))
        simpa [kStep] using this
      · rw [HW4.out, kids_succ, if_pos HP.out, kRun_snoc]
        have := (((HO2.out.all x4.is).far (p := ⟨eb, 0, none⟩) (fun e => hne e.symm) (.int .i64 (accCI.either (accCI.both (kRun accCI v pr (kids p x i)).1 (v x 0 pr)) (accCI.both (kRun accCI v pr (kids p x i)).2 (v x 1 pr))))).set 0 (.int .i64 (accCI.either (accCI.both (kRun accCI v pr (kids p x i)).2 (v x 0 pr)) (accCI.both (kRun accCI v pr (kids p x i)).1 (v x 1 pr)))))
        simpa [kStep] using this
set_option maxRecDepth 4000 in
theorem eachKids72 (tb0 pb ab eb ob tb n nc i pr q : Nat) (p : Nat → Int) (v : Nat → Nat → Nat → Int) (w : World) (hn : n ≤ 16) (hpr : pr < 2) (hq : q < 65536) (hQ : ∀ j, q.testBit j = true ↔ j < n ∧ p j = (i : Nat)) (hT : Tab w) (t1 : 1 ≠ eb) (t2 : 1 ≠ ob) (hne : eb ≠ ob)
    (h0 : w.cell? ⟨tb0, 0, none⟩ = some (.slice (some ⟨tb, 0, none⟩) n nc)) (h1 : w.cell? ⟨pb, 0, none⟩ = some (.int .i64 (pr : Nat))) (h2 : w.cell? ⟨ab, 0, none⟩ = some (.iface 72 (.agg #[])))
    (n0 : tb0 ≠ eb ∧ tb0 ≠ ob) (n1 : pb ≠ eb ∧ pb ≠ ob) (n2 : ab ≠ eb ∧ ab ≠ ob) (nt : tb ≠ eb ∧ tb ≠ ob)
    (hE : Blk w 3 eb #[.int .i64 (accLI.single 0)]) (hO : Blk w 3 ob #[.int .i64 accLI.none])
    (hV : ∀ j, j < n → p j = (i : Nat) → w.cell? ⟨tb, j * 4 + pr, none⟩ = some (.int .i64 (v j 0 pr)) ∧ w.cell? ⟨tb, j * 4 + 2 + pr, none⟩ = some (.int .i64 (v j 1 pr))) :
    Calls Tryd.prog 100 #[.int .i64 (q : Nat), .func (.func 125) #[] #[.pointer (some ⟨tb0, 0, none⟩), .pointer (some ⟨pb, 0, none⟩), .pointer (some ⟨ab, 0, none⟩), .pointer (some ⟨eb, 0, none⟩), .pointer (some ⟨ob, 0, none⟩)]] w fun e w' =>
      e = .returned (.tuple #[]) ∧ Kx eb ob none none w w' ∧ Blk w' 3 eb #[.int .i64 (kRun accLI v pr (kids p n i)).1] ∧ Blk w' 3 ob #[.int .i64 (kRun accLI v pr (kids p n i)).2] := by
  have H0 := hide h0
  have H1 := hide h1
  have H2 := hide h2
  have HQ := hide hQ
  have HT := hide hT
  have HV := hide hV
  have HE := hide hE
  have HO := hide hO
  have hno : ∀ b : Nat, Go.Proofs.YtmcimfblhpflnaaDoor.ob none ≠ some b := fun b h => by cases h
  clear h0 h1 h2 hQ hT hV hE hO
  go_enter Tryd.func100, Tryd.ntmps100
  go_wp2
  go_loopw [0] (fun x wr => ∃ (r jj : Nat), x = .int .i64 r ∧ r ≤ q ∧ jj ≤ n ∧ Hid (∀ b, r.testBit b = (decide (jj ≤ b) && q.testBit b)) ∧ Hid (Kx eb ob none none w wr) ∧ Hid (Blk wr 3 eb #[.int .i64 (kRun accLI v pr (kids p jj i)).1]) ∧ Hid (Blk wr 3 ob #[.int .i64 (kRun accLI v pr (kids p jj i)).2]))
    (fun x _ => (intOf x).toNat)
  case atStart => exact ⟨q, 0, rfl, Nat.le_refl _, Nat.zero_le _, hide (fun b => by simp), hide (Kx.refl _ _ _ _), HE, HO⟩
  case round =>
    obtain ⟨r, jj, rfl, hrq, hjj, HR, HK, HE1, HO1⟩ := hrel
    have skip : ∀ x, jj ≤ x → x ≤ n → (∀ j, j < x → r.testBit j = false) → kids p x i = kids p jj i := fun x h1 h2 hz => kids_skip x h1 fun j g1 g2 e => by
      have hr := HR.out j
      rw [hz j g2] at hr
      simp only [g1, decide_true, Bool.true_and] at hr
      have := (HQ.out j).2 ⟨by omega, e⟩
      rw [this] at hr
      cases hr
    by_cases h0 : r = 0
    · subst h0
      have e := skip n hjj (Nat.le_refl _) (fun j _ => Nat.zero_testBit j)
      have HE2 := HE1
      have HO2 := HO1
      rw [← e] at HE2 HO2
      clear skip e
      go_wp2
      go_end0
      exact ⟨rfl, HK.out, HE2.out, HO2.out⟩
    · have hlow := ctz_low h0 (by omega)
      obtain ⟨x, hx⟩ : ∃ x, Lib.ctz 64 r = x := ⟨_, rfl⟩
      rw [hx] at hlow
      have hrx := HR.out x
      rw [hlow.1] at hrx
      have hjx : jj ≤ x := by
        apply Nat.le_of_not_lt
        intro h
        rw [show decide (jj ≤ x) = false by simp; omega] at hrx
        simp at hrx
      have hqx : q.testBit x = true := by
        cases hb : q.testBit x
        · rw [hb] at hrx; simp at hrx
        · rfl
      obtain ⟨hxn, hpx⟩ := (HQ.out x).1 hqx
      have e := skip x hjx (by omega) hlow.2
      have HE2 := HE1
      have HO2 := HO1
      rw [← e] at HE2 HO2
      obtain ⟨v0, v1⟩ := HV.out x hxn hpx
      have HR2 : Hid (∀ b, (r &&& (r - 1)).testBit b = (decide (x + 1 ≤ b) && q.testBit b)) := hide (fun b => by
        rw [low_off hlow.1 hlow.2, Nat.testBit_xor, Nat.testBit_two_pow]
        rcases Nat.lt_trichotomy b x with h | h | h
        · rw [hlow.2 b h]; simp [show ¬ x = b by omega, show ¬ x + 1 ≤ b by omega]
        · subst h; rw [hlow.1]; simp [show ¬ b + 1 ≤ b by omega]
        · rw [HR.out b]; simp [show ¬ x = b by omega, show x + 1 ≤ b by omega, show jj ≤ b by omega])
      have hlt := low_lt hlow.1 hlow.2
      have hneq : ((r : Int) == 0) = false := by simp; omega
      have hneq' : ((r : Int) != 0) = true := by simp; omega
      have hand : bits .and .i64 (r : Int) ((r : Int) - 1) = ((r &&& (r - 1) : Nat) : Int) := by
        rw [show (r : Int) - 1 = ((r - 1 : Nat) : Int) by omega]
        exact and_small _ _ (by omega) (by omega)
      have hwu : IntKind.u64.wrap (r : Int) = (r : Int) := by rw [IntKind.wrap_u64]; omega
      have HTt := hide (HK.out.tab HT.out t1 t2 (hno 1))
      have hr64 : r < 18446744073709551616 := by omega
      have HC : Hid (Calls Tryd.prog 125 #[.int .i64 (x : Nat), .pointer (some ⟨tb0, 0, none⟩), .pointer (some ⟨pb, 0, none⟩), .pointer (some ⟨ab, 0, none⟩), .pointer (some ⟨eb, 0, none⟩), .pointer (some ⟨ob, 0, none⟩)] wr _) := hide (child72 tb0 pb ab eb ob tb n nc x pr _ _ _ _ wr hxn hn hpr (HK.out.cell H0.out n0.1 n0.2 (hno _)) (HK.out.cell H1.out n1.1 n1.2 (hno _)) (HK.out.cell H2.out n2.1 n2.2 (hno _)) (HE2.out.cell 0) (HO2.out.cell 0) (HE2.out.frozen 0) (HO2.out.frozen 0) hne (HK.out.cell v0 nt.1 nt.2 (hno _)) (HK.out.cell v1 nt.1 nt.2 (hno _)))
      have HP := hide hpx
      clear hlow hrx hqx hpx e skip v0 v1 HE1 HO1
      go_wp2_with (first
        | (go_at_call 77; refine (ctz_any _ hr64 _ HTt.out).mono ?_; rintro e w3 ⟨rfl, hw3⟩; subst w3; rw [hx])
        | (go_at_call 125; refine HC.out.mono ?_; rintro e w4 ⟨rfl, x4, hw4⟩; have HW4 := hide hw4; clear hw4))
      refine ⟨⟨r &&& (r - 1), x + 1, rfl, by omega, by omega, HR2, hide ?_, hide ?_, hide ?_⟩, by simp [intOf]; omega⟩
      · rw [HW4.out]; exact HK.out.later x4 _ _
      · rw [HW4.out, kids_succ, if_pos HP.out, kRun_snoc]
        have := (((HE2.out.all x4.is).set 0 (.int .i64 (accLI.either (accLI.both (kRun accLI v pr (kids p x i)).1 (v x 0 pr)) (accLI.both (kRun accLI v pr (kids p x i)).2 (v x 1 pr))))).far (p := ⟨ob, 0, none⟩) hne (.int .i64 (accLI.either (accLI.both (kRun accLI v pr (kids p x i)).2 (v x 0 pr)) (accLI.both (kRun accLI v pr (kids p x i)).1 (v x 1 pr)))))
        simpa [kStep] using this
      · rw [HW4.out, kids_succ, if_pos HP.out, kRun_snoc]
        have := (((HO2.out.all x4.is).far (p := ⟨eb, 0, none⟩) (fun e => hne e.symm) (.int .i64 (accLI.either (accLI.both (kRun accLI v pr (kids p x i)).1 (v x 0 pr)) (accLI.both (kRun accLI v pr (kids p x i)).2 (v x 1 pr))))).set 0 (.int .i64 (accLI.either (accLI.both (kRun accLI v pr (kids p x i)).2 (v x 0 pr)) (accLI.both (kRun accLI v pr (kids p x i)).1 (v x 1 pr)))))
        simpa [kStep] using this
end Go.Proofs.YtmcimfblhpflnaaDoor
