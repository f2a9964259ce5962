import Derived.Test.YtggcjmdadomlaaaSA1
namespace Go.Proofs.Ytggcjmdadomlaaa
open Go.RowKit
set_option maxHeartbeats 8000000
set_option maxRecDepth 100000 in
theorem tabA_lit (f : Nat → Nat) : tabA f = #[.int .i64 (f 0 : Nat), .int .i64 (f 1 : Nat), .int .i64 (f 2 : Nat), .int .i64 (f 3 : Nat), .int .i64 (f 4 : Nat), .int .i64 (f 5 : Nat), .int .i64 (f 6 : Nat), .int .i64 (f 7 : Nat), .int .i64 (f 8 : Nat), .int .i64 (f 9 : Nat), .int .i64 (f 10 : Nat), .int .i64 (f 11 : Nat), .int .i64 (f 12 : Nat), .int .i64 (f 13 : Nat), .int .i64 (f 14 : Nat), .int .i64 (f 15 : Nat)] := rfl
set_option maxRecDepth 100000 in
theorem fold_tab (f : Nat → Nat) : Array.foldl (fun (cs : Array Value) (x : Value × Nat) => cs.setIfInBounds x.snd x.fst) zeroT ((tabA f).zipIdx 0) 0 16 = tabA f := by
  kernel_rfl
theorem Tab.store {w : World} {b : Nat} {f : Nat → Nat} (h : Tab w b f) (g : Nat → Nat) (C : Array Value) (hC : C = tabA g) : ∃ w', (Instr.storeAt 68 (.pointer (some ⟨b, 0, none⟩)) (.agg C)).run Try.prog w = .ok () w' ∧ Tab w' b g ∧ (∀ B, B ≤ b → Below B w w') ∧ (∀ k, k ≠ b → w'.heap[k]? = w.heap[k]?) ∧ w'.heap.size = w.heap.size := by
  subst hC
  refine ⟨w.setRow b (tabA g), ?_, h.row g, fun B hB => below_row (Below.refl _ _) hB _, fun k hk => setRow_other w b k _ hk, by simp⟩
  have h2 := run_storeVar_row (P := Try.prog) w b 68 68 (tabA f) (tabA g) h (by rw [tabA_size]; exact tab_info) (by rw [tabA_size, tabA_size]) (tab_one g)
  simp only [Instr.storeAt, Instr.sureAddr, Sem.run_bind, Sem.run_pure, Result.andThen_ok, h2]
/-- The tables k and k - 1 behind the one of single buttons. -/
def tT (c : Nat) (own : Bool) (k : Nat) : Nat → Nat := fun i => if i < c then prw c own 0 (2 ^ i) k else 0
def tB (c : Nat) (own : Bool) (k : Nat) : Nat → Nat := fun i => if i < c then prb c own 0 (2 ^ i) k else 0
theorem tT_lt (c : Nat) (own : Bool) (k : Nat) : ∀ i, i < c → tT c own k i < 2 ^ c := fun i hi => by
  unfold tT; rw [if_pos hi]; exact prw_lt (Nat.pow_lt_pow_right (by decide) hi) k
theorem tB_lt (c : Nat) (own : Bool) (k : Nat) : ∀ i, i < c → tB c own k i < 2 ^ c := fun i hi => by
  unfold tB; rw [if_pos hi]; exact prb_lt (Nat.pow_lt_pow_right (by decide) hi) k
theorem tT_succ (c : Nat) (own : Bool) (k : Nat) : stepT c own (tB c own k) (tT c own k) c = tT c own (k + 1) := by
  funext i
  unfold stepT tT tB
  by_cases h : i < c
  · rw [if_pos h, if_pos h, if_pos h, if_pos h, prw_succ0]
  · rw [if_neg h, if_neg h, if_neg h]
theorem tB_succ (c : Nat) (own : Bool) (k : Nat) : tB c own (k + 1) = tT c own k := rfl
theorem tB_zero (c : Nat) (own : Bool) : tB c own 0 = fun _ => 0 := by
  funext i; unfold tB; split <;> rfl
theorem closure_T (R c k Bc : Nat) (own : Bool) (w : World) (hc : c ≤ 16) (hk : k ≤ 1048576) (hbx : Box4 w Bc (.int .i64 R) (.int .i64 c) (.bool own) (.int .i64 0)) :
    Calls Try.prog 97 #[.int .i64 k, .agg (tabL (tB c own k)).toArray, .agg (tabL (tT c own k)).toArray, .pointer (some ⟨Bc, 0, none⟩)] w fun e w' => e = .returned (.agg (tabL (tT c own (k + 1))).toArray) ∧ Below w.heap.size w w' := by
  have h := closure_any R c k Bc own _ _ _ _ w hc hk (tB_lt c own k) (tT_lt c own k) rfl rfl hbx
  rw [tT_succ] at h
  exact h
/-- The cells of the tables 0..k. -/
def flatT (c : Nat) (own : Bool) (k : Nat) : List Value := (List.range (k + 1)).flatMap (fun j => tabL (tT c own j))
theorem flatT_succ (c : Nat) (own : Bool) (k : Nat) : flatT c own (k + 1) = flatT c own k ++ tabL (tT c own (k + 1)) := by
  unfold flatT; rw [List.range_succ (n := k + 1), List.flatMap_append]; simp
theorem flatT_zero (c : Nat) (own : Bool) : flatT c own 0 = tabL (tT c own 0) := by simp [flatT]
/-- The tables 0..k in a row of the call's own. -/
def OT (w : World) (B : Nat) (c : Nat) (own : Bool) (v : Value) (k : Nat) : Prop := w.ownsRow B 68 16 v (k + 1) (flatT c own k)
theorem OT.all {w w' : World} {B c k : Nat} {own : Bool} {v : Value} (h : OT w B c own v k) (hb : Below w.heap.size w w') : OT w' B c own v k :=
  World.ownsRow.kept h (row := none) ⟨hb.os, hb.tape, hb.output, hb.size, fun k hk _ => hb.block k hk⟩ (by cases hv : v.ownBlock <;> simp)
theorem OT.one {w : World} {B b c : Nat} {own : Bool} (h : Tab w b (tT c own 0)) (hB : B ≤ b) : OT w B c own (.slice (some ⟨b, 0, none⟩) 1 1) 0 := by
  refine ⟨by rw [flatT_zero, tabL_length], .inr ⟨b, 1, tabA (tT c own 0), rfl, hB, h, Nat.le_refl _, by decide, by rw [tabA_size], ?_⟩⟩
  rw [flatT_zero, tabA]
  exact List.take_of_length_le (by rw [tabL_length]; decide)
theorem OT.row {w : World} {B c k b : Nat} {own : Bool} {v : Value} (h : OT w B c own v k) (hne : v.ownBlock ≠ some b) (cs : Array Value) : OT (w.setRow b cs) B c own v k :=
  World.ownsRow.kept h (row := some b) ⟨rfl, rfl, rfl, by simp [World.setRow], fun j _ hj => setRow_other w b j cs (by intro e; exact hj (by rw [e]))⟩ (.inr hne)
theorem box_kept {w w' : World} {b : Nat} {v0 v1 v2 v3 : Value} (h : w'.heap[b]? = w.heap[b]?) (hx : Box4 w b v0 v1 v2 v3) : Box4 w' b v0 v1 v2 v3 := by
  obtain ⟨h0, h1, h2, h3⟩ := hx
  refine ⟨?_, ?_, ?_, ?_⟩
  · simp only [World.cell?] at h0 ⊢; rw [h]; exact h0
  · simp only [World.cell?] at h1 ⊢; rw [h]; exact h1
  · simp only [World.cell?] at h2 ⊢; rw [h]; exact h2
  · simp only [World.cell?] at h3 ⊢; rw [h]; exact h3
theorem leaf_facts {R c Bc k d b : Nat} {own : Bool} {A : Option Addr} {w wr w3 w5 : World} (hbl : Bc < b) (HB : Below b w wr) (hb3 : Below wr.heap.size wr w3) (hbs : b ≤ wr.heap.size) (HO : OT wr (b + 1) c own (.slice A (k + 1) d) k)
    (HOB : (Value.slice A (k + 1) d).ownBlock ≠ some (b + 1 + 1)) (HX : Box4 wr Bc (.int .i64 R) (.int .i64 c) (.bool own) (.int .i64 0))
    (h35 : Tab ((w3.setRow (b + 1 + 1) (tabA (tT c own k))).setRow b (tabA (tT c own (k + 1)))) b (tT c own (k + 1))) (h85 : Tab ((w3.setRow (b + 1 + 1) (tabA (tT c own k))).setRow b (tabA (tT c own (k + 1)))) (b + 1 + 1) (tT c own k))
    (hw5 : (w3.setRow (b + 1 + 1) (tabA (tT c own k))).setRow b (tabA (tT c own (k + 1))) = w5) :
    Tab w5 b (tT c own (k + 1)) ∧ Tab w5 (b + 1 + 1) (tB c own (k + 1)) ∧ Box4 w5 Bc (.int .i64 R) (.int .i64 c) (.bool own) (.int .i64 0) ∧ OT w5 (b + 1) c own (.slice A (k + 1) d) k ∧ Below b w w5 := by
  subst hw5
  refine ⟨h35, h85, ?_, ?_, ?_⟩
  · refine box_kept (setRow_other _ b Bc _ (by omega)) (box_kept (setRow_other _ (b + 1 + 1) Bc _ (by omega)) (HX.below hb3))
  · have h := HO.all hb3
    refine (h.row HOB _).row (fun e => ?_) _
    have := (World.ownsRow.lt h _ e).1
    omega
  · exact below_row (below_row (HB.trans (hb3.mono hbs)) (by omega) _) (Nat.le_refl _) _
theorem tab_info_full : (Try.prog.info? 68).map (fun i => (i.zero, i.size, i.bytes)) = some (some (.agg zeroT), 16, 128) := by kernel_rfl
theorem wpList_append_tab {ops : Array Oper} {rest : List Oper} {o : Oper} {a : Act} {Q : Exit → Act → World → Prop} (b : Nat) (w : World) (hgd : o.guard = none) (s x : Operand)
    (ho : o.op = .call { callee := .builtin .append, args := #[s, x], argTypes := #[69, 69] }) (c : Nat) (own : Bool) (A : Option Addr) (d k g : Nat)
    (hs : a.eval s = .slice A (k + 1) d) (hown : OT w (b + 1) c own (.slice A (k + 1) d) k) (hob : (Value.slice A (k + 1) d).ownBlock ≠ some (b + 1 + 1))
    (hx : a.eval x = .slice (some ⟨g, 0, none⟩) 1 1) (hnew : Tab w g (tT c own (k + 1))) (hk : k ≤ 1024) (hb : b + 1 + 1 < w.heap.size)
    (h : ∀ A' d' w', OT w' (b + 1) c own (.slice A' (k + 1 + 1) d') (k + 1) → (Value.slice A' (k + 1 + 1) d').ownBlock ≠ some (b + 1 + 1) → Below (b + 1) w w' → (∀ j, j = b + 1 + 1 ∨ j < b + 1 → j < w.heap.size → w'.heap[j]? = w.heap[j]?) → wpList Try.prog ops Q rest (a.put o.dst (.slice A' (k + 1 + 1) d')) w') : wpList Try.prog ops Q (o :: rest) a w := by
  obtain ⟨i0, hi, hz0, hz1, hz2⟩ := info_parts tab_info_full
  refine wpList_append_own_at w hgd s x 69 ho (b + 1) 68 i0 (.agg zeroT) 16 128 Try.underlying69 hi hz0 hz1 hz2 rfl (by decide) _ (k + 1) (flatT c own k) hs hown ⟨g, 0, none⟩ 1 1 (tabL (tT c own (k + 1))) hx (by rw [tabL_length]) ?_ ?_ (by unfold maxLen; omega) (by omega) (by omega) ?_
  · intro j u hj
    rw [Go.WideShapes.add_plain]
    have h2 := hnew.range j u hj
    exact h2
  · intro u hu
    simp only [tabL, List.mem_map] at hu
    obtain ⟨i, _, rfl⟩ := hu
    rfl
  · intro v' w' h2 h3 _ h5
    obtain ⟨A', d', rfl⟩ : ∃ A' d', v' = .slice A' (k + 1 + 1) d' := by
      rcases h2.2 with ⟨_, hn⟩ | ⟨g', cap, cur, e, _⟩
      · omega
      · exact ⟨_, _, e⟩
    have hlt := World.ownsRow.lt hown
    refine h A' d' w' ?_ ?_ ?_ ?_
    · unfold OT; rw [flatT_succ]; exact h2
    · rcases h5 with h5 | h5
      · rw [h5]; exact hob
      · rw [h5]; intro e; injection e with e; omega
    · refine ⟨h3.os, h3.tape, h3.output, h3.size, fun j hj => h3.block j (by omega) ?_⟩
      intro e
      have := (hlt j e.symm).1
      omega
    · intro j hj hj2
      refine h3.block j hj2 ?_
      intro e
      rcases hj with hj | hj
      · subst hj; exact hob e.symm
      · have := (hlt j e.symm).1; omega
/-- What the stores of a round leave. -/
def LeafT (b R c Bc k d : Nat) (own : Bool) (A : Option Addr) (w w5 : World) : Prop :=
  Tab w5 b (tT c own (k + 1)) ∧ Tab w5 (b + 1 + 1) (tB c own (k + 1)) ∧ Box4 w5 Bc (.int .i64 R) (.int .i64 c) (.bool own) (.int .i64 0) ∧ OT w5 (b + 1) c own (.slice A (k + 1) d) k ∧ Below b w w5
theorem tabCut {P : Program} {c : Code} {Q : Exit → Act → World → Prop} {a : Act} {w : World} {L : World → Prop} {F : Act}
    (reg : c.wp P (fun e a w' => e = .normal ∧ a = F ∧ L w') a w) (cont : ∀ w', L w' → Q .normal F w') : c.wp P Q a w :=
  Code.wp_mono (fun e a w' h => by obtain ⟨rfl, rfl, h⟩ := h; exact cont w' h) reg
/-- The tables 0..n come back. -/
def PatT (w : World) (c n : Nat) (own : Bool) (e : Ending) (w' : World) : Prop :=
  ∃ A d, e = .returned (.slice A (n + 1) d) ∧ OT w' (w.heap.size + 1) c own (.slice A (n + 1) d) n ∧ Below w.heap.size w w'
set_option maxRecDepth 100000 in
theorem patternT_any (R c n Bc : Nat) (own : Bool) (C0 : Array Value) (w : World) (hc : c ≤ 16) (hn : n ≤ 1024) (hC0 : C0 = tabA (tT c own 0)) (hbx : Box4 w Bc (.int .i64 R) (.int .i64 c) (.bool own) (.int .i64 0)) :
    Calls Try.prog 96 #[.agg C0, .int .i64 n, .func (.func 97) #[] #[.pointer (some ⟨Bc, 0, none⟩)]] w (PatT w c n own) := by
  have hbl : Bc < w.heap.size := World.block_lt_of_cell? w _ hbx.1
  have HBX := Lib.hid hbx
  have HC0 := Lib.hid hC0
  clear hbx hC0
  have hts := tabA_size
  go_enter Try.func96, Try.ntmps96
  go_upto_region 3 with (first | (with_reducible refine wpList_load_tab rfl (.tmp 3) rfl w.heap.size rfl _ (Tab.new w C0 _ HC0.out rfl) ?_))
  have hf := fold_tab (tT c own 0)
  unfold zeroT at hf
  simp only [hf]
  clear hf hts
  obtain ⟨W3, hW3⟩ : ∃ W3, ((w.alloc (.cells C0 68)).alloc (.cells (tabA (tT c own 0)) 68)).alloc (.cells zeroT 68) = W3 := ⟨_, rfl⟩
  have hb3 : Below w.heap.size w W3 := by rw [← hW3]; exact (((Below.refl _ _).alloc (Nat.le_refl _) _).alloc (by simp) _).alloc (by simp; omega) _
  have ht3 : Tab W3 w.heap.size (tT c own 0) := by rw [← hW3]; exact ((Tab.new w C0 _ HC0.out rfl).alloc _).alloc _
  have hts : Tab W3 (w.heap.size + 1) (tT c own 0) := by rw [← hW3]; exact (Tab.new _ _ _ rfl (by simp)).alloc _
  have ht8 : Tab W3 (w.heap.size + 1 + 1) (tB c own 0) := by rw [← hW3, tB_zero]; exact Tab.new _ zeroT _ zeroT_eq (by simp)
  have hz3 : W3.heap.size = w.heap.size + 3 := by rw [← hW3]; simp
  have hk := HBX.out.below hb3
  rw [show (#[.int .i64 0, .int .i64 0, .int .i64 0, .int .i64 0, .int .i64 0, .int .i64 0, .int .i64 0, .int .i64 0, .int .i64 0, .int .i64 0, .int .i64 0, .int .i64 0, .int .i64 0, .int .i64 0, .int .i64 0, .int .i64 0] : Array Value) = zeroT from rfl, hW3]
  clear hW3
  have HSL := Lib.hid hts
  have HT3 := Lib.hid ht3
  have HT8 := Lib.hid ht8
  have HBk := Lib.hid hk
  have HB3 := Lib.hid hb3
  have HZ3 := Lib.hid hz3
  clear hts ht3 ht8 hk hb3 hz3
  go_wp2_with fail
  go_loopw [7, 13] (fun v i wr => ∃ (k : Nat) (A : Option Addr) (d : Nat), k ≤ n ∧ i = .int .i64 k ∧ v = .slice A (k + 1) d ∧ OT wr (w.heap.size + 1) c own (.slice A (k + 1) d) k ∧ Hid ((Value.slice A (k + 1) d).ownBlock ≠ some (w.heap.size + 1 + 1)) ∧ Tab wr w.heap.size (tT c own k) ∧ Tab wr (w.heap.size + 1 + 1) (tB c own k) ∧ Box4 wr Bc (.int .i64 R) (.int .i64 c) (.bool own) (.int .i64 0) ∧ Below w.heap.size w wr) (fun _ i _ => n - (intOf i).toNat)
  case atStart => exact ⟨0, _, 1, by omega, rfl, rfl, OT.one HSL.out (Nat.le_refl _), Lib.hid (by simp [Value.ownBlock]), HT3.out, HT8.out, HBk.out, HB3.out⟩
  case round =>
    clear HSL HT3 HT8 HBk HB3 HZ3
    obtain ⟨k, A, d, hk, rfl, rfl, ho, HOB, h3, h8, hbx, hb⟩ := hrel
    have HO := Lib.hid ho
    have H3 := Lib.hid h3
    have H8 := Lib.hid h8
    have HX := Lib.hid hbx
    have HB := Lib.hid hb
    have hsz := hb.size
    have l3 := h3.lt
    have l8 := h8.lt
    by_cases hlt : k < n
    · clear ho hbx hb
      go_wp2_with fail
      apply tabCut (L := LeafT w.heap.size R c Bc k d own A w)
      refine wp_region_any (by kernel_rfl) ?_
      change wpAny _ _ _ _ _ _ _ (World.drew _)
      refine wpAny_take (i := 1) (v := (.func (.func 97) #[] #[.pointer (some ⟨Bc, 0, none⟩)])) rfl (by kernel_rfl) (by kernel_rfl) (by kernel_rfl) (fun _ _ _ h => absurd h.1 (by simp)) (Or.inl ⟨by rfl, ?_⟩) ?_
      · intro w; go_simp
      change wpAny _ _ _ _ _ _ (Act.put _ (some 17) _) _
      simp only [Act.put, List.setIfInBounds_toArray, List.set_cons_zero, List.set_cons_succ]
      refine wpAny_take (i := 2) (v := (.int .i64 (k : Nat))) rfl (by kernel_rfl) (by kernel_rfl) (by kernel_rfl) (fun _ _ _ h => absurd h.1 (by simp)) (Or.inl ⟨by rfl, ?_⟩) ?_
      · intro w; go_simp
      change wpAny _ _ _ _ _ _ (Act.put _ (some 18) _) _
      simp only [Act.put, List.setIfInBounds_toArray, List.set_cons_zero, List.set_cons_succ]
      refine wpAny_ready (rs := [0, 3, 4]) (by kernel_rfl) (by simp) ?_
      refine AllReady.cons rfl (fun K hK => ?_) ?_
      ·
        rw [if_pos (by rfl)]
        refine wp_load_mid 68 _ rfl w.heap.size 0 rfl (tabL (tT c own k)) _ (Tab.range (w := wr.drew) h3) Try.underlying68 rfl (by rw [tabL_length]; exact tab_info) ?_
        refine hK _ _ ?_; clear hK K
        change wpAny _ _ _ _ _ _ (Act.put _ (some 16) _) _
        simp only [Act.put, List.setIfInBounds_toArray, List.set_cons_zero, List.set_cons_succ]
        refine wpAny_ready (rs := [3, 4]) (by kernel_rfl) (by simp) ?_
        refine AllReady.cons rfl (fun K hK => ?_) ?_
        ·
          rw [if_pos (by rfl)]
          refine wp_load_mid 68 _ rfl (w.heap.size + 1 + 1) 0 rfl (tabL (tB c own k)) _ (Tab.range (w := wr.drew) h8) Try.underlying68 rfl (by rw [tabL_length]; exact tab_info) ?_
          refine hK _ _ ?_; clear hK K
          change wpAny _ _ _ _ _ _ (Act.put _ (some 19) _) _
          simp only [Act.put, List.setIfInBounds_toArray, List.set_cons_zero, List.set_cons_succ]
          refine wpAny_ready (rs := [4]) (by kernel_rfl) (by simp) ?_
          refine AllReady.cons rfl (fun K hK => ?_) ?_
          ·
            rw [if_pos (by rfl)]
            refine wp_load_mid 68 _ rfl w.heap.size 0 rfl (tabL (tT c own k)) _ (Tab.range (w := wr.drew) h3) Try.underlying68 rfl (by rw [tabL_length]; exact tab_info) ?_
            refine hK _ _ ?_; clear hK K
            change wpAny _ _ _ _ _ _ (Act.put _ (some 20) _) _
            simp only [Act.put, List.setIfInBounds_toArray, List.set_cons_zero, List.set_cons_succ]
            refine wpAny_ready (rs := [5]) (by kernel_rfl) (by simp) ?_
            refine AllReady.cons rfl (fun K hK => ?_) ?_
            ·
              go_simp
              refine (closure_T R c k Bc own wr.drew hc (by omega) (show Box4 wr.drew Bc _ _ _ _ from HX.out)).mono ?_; rintro e w3 ⟨rfl, hb3⟩; have hb3' : Below wr.heap.size wr w3 := (Below.drew (Below.refl wr.heap.size wr)).trans hb3; have h33 := H3.out.all hb3'; have h83 := H8.out.all hb3'; have z33 := hb3'.size
              refine hK _ _ ?_; clear hK K
              try change wpAny _ _ _ _ _ _ (Act.put _ (some 21) _) _
              try simp only [Act.put, List.setIfInBounds_toArray, List.set_cons_zero, List.set_cons_succ]
              refine wpAny_ready (rs := [6]) (by kernel_rfl) (by simp) ?_
              refine AllReady.cons rfl (fun K hK => ?_) ?_
              ·
                rw [if_pos (by rfl)]
                refine wp_store_row 68 _ _ rfl (w.heap.size + 1 + 1) (tabA (tT c own k)) rfl rfl 68 (tabA (tB c own k)) h83 (by rw [tabA_size]; exact tab_info) (by rw [tabA_size, tabA_size]) (tab_one _) ?_
                have h84 := h83.row (tT c own k)
                have h34 : Tab (w3.setRow (w.heap.size + 1 + 1) (tabA (tT c own k))) w.heap.size (tT c own k) := (setRow_other w3 (w.heap.size + 1 + 1) w.heap.size _ (by omega)).trans h33
                refine hK _ _ ?_; clear hK K
                change wpAny _ _ _ _ _ _ (Act.put _ (none) _) _
                simp only [Act.put]
                refine wpAny_ready (rs := [7]) (by kernel_rfl) (by simp) ?_
                refine AllReady.cons rfl (fun K hK => ?_) ?_
                ·
                  rw [if_pos (by rfl)]
                  refine wp_store_row 68 _ _ rfl w.heap.size (tabA (tT c own (k + 1))) rfl rfl 68 (tabA (tT c own k)) h34 (by rw [tabA_size]; exact tab_info) (by rw [tabA_size, tabA_size]) (tab_one _) ?_
                  have h35 := h34.row (tT c own (k + 1))
                  have h85 : Tab ((w3.setRow (w.heap.size + 1 + 1) (tabA (tT c own k))).setRow w.heap.size (tabA (tT c own (k + 1)))) (w.heap.size + 1 + 1) (tT c own k) := (setRow_other _ w.heap.size (w.heap.size + 1 + 1) _ (by omega)).trans h84
                  refine hK _ _ ?_; clear hK K
                  change wpAny _ _ _ _ _ _ (Act.put _ (none) _) _
                  simp only [Act.put]
                  refine wpAny_done (by kernel_rfl) ?_ _
                  exact ⟨rfl, rfl, leaf_facts (R := R) (Bc := Bc) hbl HB.out hb3' hsz HO.out HOB.out HX.out h35 h85 rfl⟩
                exact AllReady.nil
              exact AllReady.nil
            exact AllReady.nil
          exact AllReady.nil
        refine AllReady.cons rfl (fun K hK => ?_) ?_
        ·
          rw [if_pos (by rfl)]
          refine wp_load_mid 68 _ rfl w.heap.size 0 rfl (tabL (tT c own k)) _ (Tab.range (w := wr.drew) h3) Try.underlying68 rfl (by rw [tabL_length]; exact tab_info) ?_
          refine hK _ _ ?_; clear hK K
          change wpAny _ _ _ _ _ _ (Act.put _ (some 20) _) _
          simp only [Act.put, List.setIfInBounds_toArray, List.set_cons_zero, List.set_cons_succ]
          refine wpAny_ready (rs := [3]) (by kernel_rfl) (by simp) ?_
          refine AllReady.cons rfl (fun K hK => ?_) ?_
          ·
            rw [if_pos (by rfl)]
            refine wp_load_mid 68 _ rfl (w.heap.size + 1 + 1) 0 rfl (tabL (tB c own k)) _ (Tab.range (w := wr.drew) h8) Try.underlying68 rfl (by rw [tabL_length]; exact tab_info) ?_
            refine hK _ _ ?_; clear hK K
            change wpAny _ _ _ _ _ _ (Act.put _ (some 19) _) _
            simp only [Act.put, List.setIfInBounds_toArray, List.set_cons_zero, List.set_cons_succ]
            refine wpAny_ready (rs := [5]) (by kernel_rfl) (by simp) ?_
            refine AllReady.cons rfl (fun K hK => ?_) ?_
            ·
              go_simp
              refine (closure_T R c k Bc own wr.drew hc (by omega) (show Box4 wr.drew Bc _ _ _ _ from HX.out)).mono ?_; rintro e w3 ⟨rfl, hb3⟩; have hb3' : Below wr.heap.size wr w3 := (Below.drew (Below.refl wr.heap.size wr)).trans hb3; have h33 := H3.out.all hb3'; have h83 := H8.out.all hb3'; have z33 := hb3'.size
              refine hK _ _ ?_; clear hK K
              try change wpAny _ _ _ _ _ _ (Act.put _ (some 21) _) _
              try simp only [Act.put, List.setIfInBounds_toArray, List.set_cons_zero, List.set_cons_succ]
              refine wpAny_ready (rs := [6]) (by kernel_rfl) (by simp) ?_
              refine AllReady.cons rfl (fun K hK => ?_) ?_
              ·
                rw [if_pos (by rfl)]
                refine wp_store_row 68 _ _ rfl (w.heap.size + 1 + 1) (tabA (tT c own k)) rfl rfl 68 (tabA (tB c own k)) h83 (by rw [tabA_size]; exact tab_info) (by rw [tabA_size, tabA_size]) (tab_one _) ?_
                have h84 := h83.row (tT c own k)
                have h34 : Tab (w3.setRow (w.heap.size + 1 + 1) (tabA (tT c own k))) w.heap.size (tT c own k) := (setRow_other w3 (w.heap.size + 1 + 1) w.heap.size _ (by omega)).trans h33
                refine hK _ _ ?_; clear hK K
                change wpAny _ _ _ _ _ _ (Act.put _ (none) _) _
                simp only [Act.put]
                refine wpAny_ready (rs := [7]) (by kernel_rfl) (by simp) ?_
                refine AllReady.cons rfl (fun K hK => ?_) ?_
                ·
                  rw [if_pos (by rfl)]
                  refine wp_store_row 68 _ _ rfl w.heap.size (tabA (tT c own (k + 1))) rfl rfl 68 (tabA (tT c own k)) h34 (by rw [tabA_size]; exact tab_info) (by rw [tabA_size, tabA_size]) (tab_one _) ?_
                  have h35 := h34.row (tT c own (k + 1))
                  have h85 : Tab ((w3.setRow (w.heap.size + 1 + 1) (tabA (tT c own k))).setRow w.heap.size (tabA (tT c own (k + 1)))) (w.heap.size + 1 + 1) (tT c own k) := (setRow_other _ w.heap.size (w.heap.size + 1 + 1) _ (by omega)).trans h84
                  refine hK _ _ ?_; clear hK K
                  change wpAny _ _ _ _ _ _ (Act.put _ (none) _) _
                  simp only [Act.put]
                  refine wpAny_done (by kernel_rfl) ?_ _
                  exact ⟨rfl, rfl, leaf_facts (R := R) (Bc := Bc) hbl HB.out hb3' hsz HO.out HOB.out HX.out h35 h85 rfl⟩
                exact AllReady.nil
              exact AllReady.nil
            exact AllReady.nil
          exact AllReady.nil
        exact AllReady.nil
      refine AllReady.cons rfl (fun K hK => ?_) ?_
      ·
        rw [if_pos (by rfl)]
        refine wp_load_mid 68 _ rfl (w.heap.size + 1 + 1) 0 rfl (tabL (tB c own k)) _ (Tab.range (w := wr.drew) h8) Try.underlying68 rfl (by rw [tabL_length]; exact tab_info) ?_
        refine hK _ _ ?_; clear hK K
        change wpAny _ _ _ _ _ _ (Act.put _ (some 19) _) _
        simp only [Act.put, List.setIfInBounds_toArray, List.set_cons_zero, List.set_cons_succ]
        refine wpAny_ready (rs := [0, 4]) (by kernel_rfl) (by simp) ?_
        refine AllReady.cons rfl (fun K hK => ?_) ?_
        ·
          rw [if_pos (by rfl)]
          refine wp_load_mid 68 _ rfl w.heap.size 0 rfl (tabL (tT c own k)) _ (Tab.range (w := wr.drew) h3) Try.underlying68 rfl (by rw [tabL_length]; exact tab_info) ?_
          refine hK _ _ ?_; clear hK K
          change wpAny _ _ _ _ _ _ (Act.put _ (some 16) _) _
          simp only [Act.put, List.setIfInBounds_toArray, List.set_cons_zero, List.set_cons_succ]
          refine wpAny_ready (rs := [4]) (by kernel_rfl) (by simp) ?_
          refine AllReady.cons rfl (fun K hK => ?_) ?_
          ·
            rw [if_pos (by rfl)]
            refine wp_load_mid 68 _ rfl w.heap.size 0 rfl (tabL (tT c own k)) _ (Tab.range (w := wr.drew) h3) Try.underlying68 rfl (by rw [tabL_length]; exact tab_info) ?_
            refine hK _ _ ?_; clear hK K
            change wpAny _ _ _ _ _ _ (Act.put _ (some 20) _) _
            simp only [Act.put, List.setIfInBounds_toArray, List.set_cons_zero, List.set_cons_succ]
            refine wpAny_ready (rs := [5]) (by kernel_rfl) (by simp) ?_
            refine AllReady.cons rfl (fun K hK => ?_) ?_
            ·
              go_simp
              refine (closure_T R c k Bc own wr.drew hc (by omega) (show Box4 wr.drew Bc _ _ _ _ from HX.out)).mono ?_; rintro e w3 ⟨rfl, hb3⟩; have hb3' : Below wr.heap.size wr w3 := (Below.drew (Below.refl wr.heap.size wr)).trans hb3; have h33 := H3.out.all hb3'; have h83 := H8.out.all hb3'; have z33 := hb3'.size
              refine hK _ _ ?_; clear hK K
              try change wpAny _ _ _ _ _ _ (Act.put _ (some 21) _) _
              try simp only [Act.put, List.setIfInBounds_toArray, List.set_cons_zero, List.set_cons_succ]
              refine wpAny_ready (rs := [6]) (by kernel_rfl) (by simp) ?_
              refine AllReady.cons rfl (fun K hK => ?_) ?_
              ·
                rw [if_pos (by rfl)]
                refine wp_store_row 68 _ _ rfl (w.heap.size + 1 + 1) (tabA (tT c own k)) rfl rfl 68 (tabA (tB c own k)) h83 (by rw [tabA_size]; exact tab_info) (by rw [tabA_size, tabA_size]) (tab_one _) ?_
                have h84 := h83.row (tT c own k)
                have h34 : Tab (w3.setRow (w.heap.size + 1 + 1) (tabA (tT c own k))) w.heap.size (tT c own k) := (setRow_other w3 (w.heap.size + 1 + 1) w.heap.size _ (by omega)).trans h33
                refine hK _ _ ?_; clear hK K
                change wpAny _ _ _ _ _ _ (Act.put _ (none) _) _
                simp only [Act.put]
                refine wpAny_ready (rs := [7]) (by kernel_rfl) (by simp) ?_
                refine AllReady.cons rfl (fun K hK => ?_) ?_
                ·
                  rw [if_pos (by rfl)]
                  refine wp_store_row 68 _ _ rfl w.heap.size (tabA (tT c own (k + 1))) rfl rfl 68 (tabA (tT c own k)) h34 (by rw [tabA_size]; exact tab_info) (by rw [tabA_size, tabA_size]) (tab_one _) ?_
                  have h35 := h34.row (tT c own (k + 1))
                  have h85 : Tab ((w3.setRow (w.heap.size + 1 + 1) (tabA (tT c own k))).setRow w.heap.size (tabA (tT c own (k + 1)))) (w.heap.size + 1 + 1) (tT c own k) := (setRow_other _ w.heap.size (w.heap.size + 1 + 1) _ (by omega)).trans h84
                  refine hK _ _ ?_; clear hK K
                  change wpAny _ _ _ _ _ _ (Act.put _ (none) _) _
                  simp only [Act.put]
                  refine wpAny_done (by kernel_rfl) ?_ _
                  exact ⟨rfl, rfl, leaf_facts (R := R) (Bc := Bc) hbl HB.out hb3' hsz HO.out HOB.out HX.out h35 h85 rfl⟩
                exact AllReady.nil
              exact AllReady.nil
            exact AllReady.nil
          exact AllReady.nil
        refine AllReady.cons rfl (fun K hK => ?_) ?_
        ·
          rw [if_pos (by rfl)]
          refine wp_load_mid 68 _ rfl w.heap.size 0 rfl (tabL (tT c own k)) _ (Tab.range (w := wr.drew) h3) Try.underlying68 rfl (by rw [tabL_length]; exact tab_info) ?_
          refine hK _ _ ?_; clear hK K
          change wpAny _ _ _ _ _ _ (Act.put _ (some 20) _) _
          simp only [Act.put, List.setIfInBounds_toArray, List.set_cons_zero, List.set_cons_succ]
          refine wpAny_ready (rs := [0, 5]) (by kernel_rfl) (by simp) ?_
          refine AllReady.cons rfl (fun K hK => ?_) ?_
          ·
            rw [if_pos (by rfl)]
            refine wp_load_mid 68 _ rfl w.heap.size 0 rfl (tabL (tT c own k)) _ (Tab.range (w := wr.drew) h3) Try.underlying68 rfl (by rw [tabL_length]; exact tab_info) ?_
            refine hK _ _ ?_; clear hK K
            change wpAny _ _ _ _ _ _ (Act.put _ (some 16) _) _
            simp only [Act.put, List.setIfInBounds_toArray, List.set_cons_zero, List.set_cons_succ]
            refine wpAny_ready (rs := [5]) (by kernel_rfl) (by simp) ?_
            refine AllReady.cons rfl (fun K hK => ?_) ?_
            ·
              go_simp
              refine (closure_T R c k Bc own wr.drew hc (by omega) (show Box4 wr.drew Bc _ _ _ _ from HX.out)).mono ?_; rintro e w3 ⟨rfl, hb3⟩; have hb3' : Below wr.heap.size wr w3 := (Below.drew (Below.refl wr.heap.size wr)).trans hb3; have h33 := H3.out.all hb3'; have h83 := H8.out.all hb3'; have z33 := hb3'.size
              refine hK _ _ ?_; clear hK K
              try change wpAny _ _ _ _ _ _ (Act.put _ (some 21) _) _
              try simp only [Act.put, List.setIfInBounds_toArray, List.set_cons_zero, List.set_cons_succ]
              refine wpAny_ready (rs := [6]) (by kernel_rfl) (by simp) ?_
              refine AllReady.cons rfl (fun K hK => ?_) ?_
              ·
                rw [if_pos (by rfl)]
                refine wp_store_row 68 _ _ rfl (w.heap.size + 1 + 1) (tabA (tT c own k)) rfl rfl 68 (tabA (tB c own k)) h83 (by rw [tabA_size]; exact tab_info) (by rw [tabA_size, tabA_size]) (tab_one _) ?_
                have h84 := h83.row (tT c own k)
                have h34 : Tab (w3.setRow (w.heap.size + 1 + 1) (tabA (tT c own k))) w.heap.size (tT c own k) := (setRow_other w3 (w.heap.size + 1 + 1) w.heap.size _ (by omega)).trans h33
                refine hK _ _ ?_; clear hK K
                change wpAny _ _ _ _ _ _ (Act.put _ (none) _) _
                simp only [Act.put]
                refine wpAny_ready (rs := [7]) (by kernel_rfl) (by simp) ?_
                refine AllReady.cons rfl (fun K hK => ?_) ?_
                ·
                  rw [if_pos (by rfl)]
                  refine wp_store_row 68 _ _ rfl w.heap.size (tabA (tT c own (k + 1))) rfl rfl 68 (tabA (tT c own k)) h34 (by rw [tabA_size]; exact tab_info) (by rw [tabA_size, tabA_size]) (tab_one _) ?_
                  have h35 := h34.row (tT c own (k + 1))
                  have h85 : Tab ((w3.setRow (w.heap.size + 1 + 1) (tabA (tT c own k))).setRow w.heap.size (tabA (tT c own (k + 1)))) (w.heap.size + 1 + 1) (tT c own k) := (setRow_other _ w.heap.size (w.heap.size + 1 + 1) _ (by omega)).trans h84
                  refine hK _ _ ?_; clear hK K
                  change wpAny _ _ _ _ _ _ (Act.put _ (none) _) _
                  simp only [Act.put]
                  refine wpAny_done (by kernel_rfl) ?_ _
                  exact ⟨rfl, rfl, leaf_facts (R := R) (Bc := Bc) hbl HB.out hb3' hsz HO.out HOB.out HX.out h35 h85 rfl⟩
                exact AllReady.nil
              exact AllReady.nil
            exact AllReady.nil
          refine AllReady.cons rfl (fun K hK => ?_) ?_
          ·
            go_simp
            refine (closure_T R c k Bc own wr.drew hc (by omega) (show Box4 wr.drew Bc _ _ _ _ from HX.out)).mono ?_; rintro e w3 ⟨rfl, hb3⟩; have hb3' : Below wr.heap.size wr w3 := (Below.drew (Below.refl wr.heap.size wr)).trans hb3; have h33 := H3.out.all hb3'; have h83 := H8.out.all hb3'; have z33 := hb3'.size
            refine hK _ _ ?_; clear hK K
            try change wpAny _ _ _ _ _ _ (Act.put _ (some 21) _) _
            try simp only [Act.put, List.setIfInBounds_toArray, List.set_cons_zero, List.set_cons_succ]
            refine wpAny_ready (rs := [0]) (by kernel_rfl) (by simp) ?_
            refine AllReady.cons rfl (fun K hK => ?_) ?_
            ·
              rw [if_pos (by rfl)]
              refine wp_load_mid 68 _ rfl w.heap.size 0 rfl (tabL (tT c own k)) _ (Tab.range h33) Try.underlying68 rfl (by rw [tabL_length]; exact tab_info) ?_
              refine hK _ _ ?_; clear hK K
              change wpAny _ _ _ _ _ _ (Act.put _ (some 16) _) _
              simp only [Act.put, List.setIfInBounds_toArray, List.set_cons_zero, List.set_cons_succ]
              refine wpAny_ready (rs := [6]) (by kernel_rfl) (by simp) ?_
              refine AllReady.cons rfl (fun K hK => ?_) ?_
              ·
                rw [if_pos (by rfl)]
                refine wp_store_row 68 _ _ rfl (w.heap.size + 1 + 1) (tabA (tT c own k)) rfl rfl 68 (tabA (tB c own k)) h83 (by rw [tabA_size]; exact tab_info) (by rw [tabA_size, tabA_size]) (tab_one _) ?_
                have h84 := h83.row (tT c own k)
                have h34 : Tab (w3.setRow (w.heap.size + 1 + 1) (tabA (tT c own k))) w.heap.size (tT c own k) := (setRow_other w3 (w.heap.size + 1 + 1) w.heap.size _ (by omega)).trans h33
                refine hK _ _ ?_; clear hK K
                change wpAny _ _ _ _ _ _ (Act.put _ (none) _) _
                simp only [Act.put]
                refine wpAny_ready (rs := [7]) (by kernel_rfl) (by simp) ?_
                refine AllReady.cons rfl (fun K hK => ?_) ?_
                ·
                  rw [if_pos (by rfl)]
                  refine wp_store_row 68 _ _ rfl w.heap.size (tabA (tT c own (k + 1))) rfl rfl 68 (tabA (tT c own k)) h34 (by rw [tabA_size]; exact tab_info) (by rw [tabA_size, tabA_size]) (tab_one _) ?_
                  have h35 := h34.row (tT c own (k + 1))
                  have h85 : Tab ((w3.setRow (w.heap.size + 1 + 1) (tabA (tT c own k))).setRow w.heap.size (tabA (tT c own (k + 1)))) (w.heap.size + 1 + 1) (tT c own k) := (setRow_other _ w.heap.size (w.heap.size + 1 + 1) _ (by omega)).trans h84
                  refine hK _ _ ?_; clear hK K
                  change wpAny _ _ _ _ _ _ (Act.put _ (none) _) _
                  simp only [Act.put]
                  refine wpAny_done (by kernel_rfl) ?_ _
                  exact ⟨rfl, rfl, leaf_facts (R := R) (Bc := Bc) hbl HB.out hb3' hsz HO.out HOB.out HX.out h35 h85 rfl⟩
                exact AllReady.nil
              exact AllReady.nil
            exact AllReady.nil
          exact AllReady.nil
        exact AllReady.nil
      refine AllReady.cons rfl (fun K hK => ?_) ?_
      ·
        rw [if_pos (by rfl)]
        refine wp_load_mid 68 _ rfl w.heap.size 0 rfl (tabL (tT c own k)) _ (Tab.range (w := wr.drew) h3) Try.underlying68 rfl (by rw [tabL_length]; exact tab_info) ?_
        refine hK _ _ ?_; clear hK K
        change wpAny _ _ _ _ _ _ (Act.put _ (some 20) _) _
        simp only [Act.put, List.setIfInBounds_toArray, List.set_cons_zero, List.set_cons_succ]
        refine wpAny_ready (rs := [0, 3]) (by kernel_rfl) (by simp) ?_
        refine AllReady.cons rfl (fun K hK => ?_) ?_
        ·
          rw [if_pos (by rfl)]
          refine wp_load_mid 68 _ rfl w.heap.size 0 rfl (tabL (tT c own k)) _ (Tab.range (w := wr.drew) h3) Try.underlying68 rfl (by rw [tabL_length]; exact tab_info) ?_
          refine hK _ _ ?_; clear hK K
          change wpAny _ _ _ _ _ _ (Act.put _ (some 16) _) _
          simp only [Act.put, List.setIfInBounds_toArray, List.set_cons_zero, List.set_cons_succ]
          refine wpAny_ready (rs := [3]) (by kernel_rfl) (by simp) ?_
          refine AllReady.cons rfl (fun K hK => ?_) ?_
          ·
            rw [if_pos (by rfl)]
            refine wp_load_mid 68 _ rfl (w.heap.size + 1 + 1) 0 rfl (tabL (tB c own k)) _ (Tab.range (w := wr.drew) h8) Try.underlying68 rfl (by rw [tabL_length]; exact tab_info) ?_
            refine hK _ _ ?_; clear hK K
            change wpAny _ _ _ _ _ _ (Act.put _ (some 19) _) _
            simp only [Act.put, List.setIfInBounds_toArray, List.set_cons_zero, List.set_cons_succ]
            refine wpAny_ready (rs := [5]) (by kernel_rfl) (by simp) ?_
            refine AllReady.cons rfl (fun K hK => ?_) ?_
            ·
              go_simp
              refine (closure_T R c k Bc own wr.drew hc (by omega) (show Box4 wr.drew Bc _ _ _ _ from HX.out)).mono ?_; rintro e w3 ⟨rfl, hb3⟩; have hb3' : Below wr.heap.size wr w3 := (Below.drew (Below.refl wr.heap.size wr)).trans hb3; have h33 := H3.out.all hb3'; have h83 := H8.out.all hb3'; have z33 := hb3'.size
              refine hK _ _ ?_; clear hK K
              try change wpAny _ _ _ _ _ _ (Act.put _ (some 21) _) _
              try simp only [Act.put, List.setIfInBounds_toArray, List.set_cons_zero, List.set_cons_succ]
              refine wpAny_ready (rs := [6]) (by kernel_rfl) (by simp) ?_
              refine AllReady.cons rfl (fun K hK => ?_) ?_
              ·
                rw [if_pos (by rfl)]
                refine wp_store_row 68 _ _ rfl (w.heap.size + 1 + 1) (tabA (tT c own k)) rfl rfl 68 (tabA (tB c own k)) h83 (by rw [tabA_size]; exact tab_info) (by rw [tabA_size, tabA_size]) (tab_one _) ?_
                have h84 := h83.row (tT c own k)
                have h34 : Tab (w3.setRow (w.heap.size + 1 + 1) (tabA (tT c own k))) w.heap.size (tT c own k) := (setRow_other w3 (w.heap.size + 1 + 1) w.heap.size _ (by omega)).trans h33
                refine hK _ _ ?_; clear hK K
                change wpAny _ _ _ _ _ _ (Act.put _ (none) _) _
                simp only [Act.put]
                refine wpAny_ready (rs := [7]) (by kernel_rfl) (by simp) ?_
                refine AllReady.cons rfl (fun K hK => ?_) ?_
                ·
                  rw [if_pos (by rfl)]
                  refine wp_store_row 68 _ _ rfl w.heap.size (tabA (tT c own (k + 1))) rfl rfl 68 (tabA (tT c own k)) h34 (by rw [tabA_size]; exact tab_info) (by rw [tabA_size, tabA_size]) (tab_one _) ?_
                  have h35 := h34.row (tT c own (k + 1))
                  have h85 : Tab ((w3.setRow (w.heap.size + 1 + 1) (tabA (tT c own k))).setRow w.heap.size (tabA (tT c own (k + 1)))) (w.heap.size + 1 + 1) (tT c own k) := (setRow_other _ w.heap.size (w.heap.size + 1 + 1) _ (by omega)).trans h84
                  refine hK _ _ ?_; clear hK K
                  change wpAny _ _ _ _ _ _ (Act.put _ (none) _) _
                  simp only [Act.put]
                  refine wpAny_done (by kernel_rfl) ?_ _
                  exact ⟨rfl, rfl, leaf_facts (R := R) (Bc := Bc) hbl HB.out hb3' hsz HO.out HOB.out HX.out h35 h85 rfl⟩
                exact AllReady.nil
              exact AllReady.nil
            exact AllReady.nil
          exact AllReady.nil
        refine AllReady.cons rfl (fun K hK => ?_) ?_
        ·
          rw [if_pos (by rfl)]
          refine wp_load_mid 68 _ rfl (w.heap.size + 1 + 1) 0 rfl (tabL (tB c own k)) _ (Tab.range (w := wr.drew) h8) Try.underlying68 rfl (by rw [tabL_length]; exact tab_info) ?_
          refine hK _ _ ?_; clear hK K
          change wpAny _ _ _ _ _ _ (Act.put _ (some 19) _) _
          simp only [Act.put, List.setIfInBounds_toArray, List.set_cons_zero, List.set_cons_succ]
          refine wpAny_ready (rs := [0, 5]) (by kernel_rfl) (by simp) ?_
          refine AllReady.cons rfl (fun K hK => ?_) ?_
          ·
            rw [if_pos (by rfl)]
            refine wp_load_mid 68 _ rfl w.heap.size 0 rfl (tabL (tT c own k)) _ (Tab.range (w := wr.drew) h3) Try.underlying68 rfl (by rw [tabL_length]; exact tab_info) ?_
            refine hK _ _ ?_; clear hK K
            change wpAny _ _ _ _ _ _ (Act.put _ (some 16) _) _
            simp only [Act.put, List.setIfInBounds_toArray, List.set_cons_zero, List.set_cons_succ]
            refine wpAny_ready (rs := [5]) (by kernel_rfl) (by simp) ?_
            refine AllReady.cons rfl (fun K hK => ?_) ?_
            ·
              go_simp
              refine (closure_T R c k Bc own wr.drew hc (by omega) (show Box4 wr.drew Bc _ _ _ _ from HX.out)).mono ?_; rintro e w3 ⟨rfl, hb3⟩; have hb3' : Below wr.heap.size wr w3 := (Below.drew (Below.refl wr.heap.size wr)).trans hb3; have h33 := H3.out.all hb3'; have h83 := H8.out.all hb3'; have z33 := hb3'.size
              refine hK _ _ ?_; clear hK K
              try change wpAny _ _ _ _ _ _ (Act.put _ (some 21) _) _
              try simp only [Act.put, List.setIfInBounds_toArray, List.set_cons_zero, List.set_cons_succ]
              refine wpAny_ready (rs := [6]) (by kernel_rfl) (by simp) ?_
              refine AllReady.cons rfl (fun K hK => ?_) ?_
              ·
                rw [if_pos (by rfl)]
                refine wp_store_row 68 _ _ rfl (w.heap.size + 1 + 1) (tabA (tT c own k)) rfl rfl 68 (tabA (tB c own k)) h83 (by rw [tabA_size]; exact tab_info) (by rw [tabA_size, tabA_size]) (tab_one _) ?_
                have h84 := h83.row (tT c own k)
                have h34 : Tab (w3.setRow (w.heap.size + 1 + 1) (tabA (tT c own k))) w.heap.size (tT c own k) := (setRow_other w3 (w.heap.size + 1 + 1) w.heap.size _ (by omega)).trans h33
                refine hK _ _ ?_; clear hK K
                change wpAny _ _ _ _ _ _ (Act.put _ (none) _) _
                simp only [Act.put]
                refine wpAny_ready (rs := [7]) (by kernel_rfl) (by simp) ?_
                refine AllReady.cons rfl (fun K hK => ?_) ?_
                ·
                  rw [if_pos (by rfl)]
                  refine wp_store_row 68 _ _ rfl w.heap.size (tabA (tT c own (k + 1))) rfl rfl 68 (tabA (tT c own k)) h34 (by rw [tabA_size]; exact tab_info) (by rw [tabA_size, tabA_size]) (tab_one _) ?_
                  have h35 := h34.row (tT c own (k + 1))
                  have h85 : Tab ((w3.setRow (w.heap.size + 1 + 1) (tabA (tT c own k))).setRow w.heap.size (tabA (tT c own (k + 1)))) (w.heap.size + 1 + 1) (tT c own k) := (setRow_other _ w.heap.size (w.heap.size + 1 + 1) _ (by omega)).trans h84
                  refine hK _ _ ?_; clear hK K
                  change wpAny _ _ _ _ _ _ (Act.put _ (none) _) _
                  simp only [Act.put]
                  refine wpAny_done (by kernel_rfl) ?_ _
                  exact ⟨rfl, rfl, leaf_facts (R := R) (Bc := Bc) hbl HB.out hb3' hsz HO.out HOB.out HX.out h35 h85 rfl⟩
                exact AllReady.nil
              exact AllReady.nil
            exact AllReady.nil
          refine AllReady.cons rfl (fun K hK => ?_) ?_
          ·
            go_simp
            refine (closure_T R c k Bc own wr.drew hc (by omega) (show Box4 wr.drew Bc _ _ _ _ from HX.out)).mono ?_; rintro e w3 ⟨rfl, hb3⟩; have hb3' : Below wr.heap.size wr w3 := (Below.drew (Below.refl wr.heap.size wr)).trans hb3; have h33 := H3.out.all hb3'; have h83 := H8.out.all hb3'; have z33 := hb3'.size
            refine hK _ _ ?_; clear hK K
            try change wpAny _ _ _ _ _ _ (Act.put _ (some 21) _) _
            try simp only [Act.put, List.setIfInBounds_toArray, List.set_cons_zero, List.set_cons_succ]
            refine wpAny_ready (rs := [0]) (by kernel_rfl) (by simp) ?_
            refine AllReady.cons rfl (fun K hK => ?_) ?_
            ·
              rw [if_pos (by rfl)]
              refine wp_load_mid 68 _ rfl w.heap.size 0 rfl (tabL (tT c own k)) _ (Tab.range h33) Try.underlying68 rfl (by rw [tabL_length]; exact tab_info) ?_
              refine hK _ _ ?_; clear hK K
              change wpAny _ _ _ _ _ _ (Act.put _ (some 16) _) _
              simp only [Act.put, List.setIfInBounds_toArray, List.set_cons_zero, List.set_cons_succ]
              refine wpAny_ready (rs := [6]) (by kernel_rfl) (by simp) ?_
              refine AllReady.cons rfl (fun K hK => ?_) ?_
              ·
                rw [if_pos (by rfl)]
                refine wp_store_row 68 _ _ rfl (w.heap.size + 1 + 1) (tabA (tT c own k)) rfl rfl 68 (tabA (tB c own k)) h83 (by rw [tabA_size]; exact tab_info) (by rw [tabA_size, tabA_size]) (tab_one _) ?_
                have h84 := h83.row (tT c own k)
                have h34 : Tab (w3.setRow (w.heap.size + 1 + 1) (tabA (tT c own k))) w.heap.size (tT c own k) := (setRow_other w3 (w.heap.size + 1 + 1) w.heap.size _ (by omega)).trans h33
                refine hK _ _ ?_; clear hK K
                change wpAny _ _ _ _ _ _ (Act.put _ (none) _) _
                simp only [Act.put]
                refine wpAny_ready (rs := [7]) (by kernel_rfl) (by simp) ?_
                refine AllReady.cons rfl (fun K hK => ?_) ?_
                ·
                  rw [if_pos (by rfl)]
                  refine wp_store_row 68 _ _ rfl w.heap.size (tabA (tT c own (k + 1))) rfl rfl 68 (tabA (tT c own k)) h34 (by rw [tabA_size]; exact tab_info) (by rw [tabA_size, tabA_size]) (tab_one _) ?_
                  have h35 := h34.row (tT c own (k + 1))
                  have h85 : Tab ((w3.setRow (w.heap.size + 1 + 1) (tabA (tT c own k))).setRow w.heap.size (tabA (tT c own (k + 1)))) (w.heap.size + 1 + 1) (tT c own k) := (setRow_other _ w.heap.size (w.heap.size + 1 + 1) _ (by omega)).trans h84
                  refine hK _ _ ?_; clear hK K
                  change wpAny _ _ _ _ _ _ (Act.put _ (none) _) _
                  simp only [Act.put]
                  refine wpAny_done (by kernel_rfl) ?_ _
                  exact ⟨rfl, rfl, leaf_facts (R := R) (Bc := Bc) hbl HB.out hb3' hsz HO.out HOB.out HX.out h35 h85 rfl⟩
                exact AllReady.nil
              exact AllReady.nil
            exact AllReady.nil
          exact AllReady.nil
        exact AllReady.nil
      exact AllReady.nil
      intro w5 hlf
      clear h3 h8 H3 H8 HX HO HB
      obtain ⟨t35, t85, x5, o5, b5⟩ := hlf
      have HT3 := Lib.hid t35
      have HT8 := Lib.hid t85
      have HX5 := Lib.hid x5
      have HO5 : Hid (OT (w5.alloc (.cells (tabA (tT c own (k + 1))) 68)) (w.heap.size + 1) c own (.slice A (k + 1) d) k) := Lib.hid (o5.all ((Below.refl _ _).alloc (Nat.le_refl _) _))
      have HB5 := Lib.hid b5
      have hz5 := b5.size
      have hl8 := t85.lt
      have hl3 := t35.lt
      have hfold := fold_tab (tT c own (k + 1))
      unfold zeroT at hfold
      have hts := tabA_size (tT c own (k + 1))
      have HN := Lib.hid (Tab.new w5 (tabA (tT c own (k + 1))) _ rfl rfl)
      clear t35 t85 x5 o5 b5
      go_wp2_with (first | (with_reducible refine wpList_load_tab rfl (.tmp 3) rfl w.heap.size rfl _ HT3.out ?_) | (at_builtin; refine wpList_append_tab w.heap.size _ rfl _ _ rfl c own A d k w5.heap.size rfl HO5.out HOB.out rfl HN.out (by omega) (by simp; omega) ?_; intro A2 d2 w6 ho6 hob6 hb6 hf6; have HO6 := Lib.hid ho6; have HOB6 := Lib.hid hob6; have HB6 := Lib.hid hb6; have HF6 := Lib.hid hf6; clear ho6 hob6 hb6 hf6))
      go_roundw
      case rel => exact ⟨k + 1, A2, d2, by omega, by go_num, rfl, HO6.out, HOB6, (HF6.out _ (.inr (by omega)) (by simp; omega)).trans (HT3.out.alloc _), (HF6.out _ (.inl rfl) (by simp; omega)).trans (HT8.out.alloc _), box_kept (HF6.out _ (.inr (by omega)) (by simp; omega)) (HX5.out.below ((Below.refl _ _).alloc (Nat.le_refl _) _)), (HB5.out.alloc hz5 _).trans (HB6.out.mono (by omega))⟩
      case measure => simp [intOf]; omega
    · have hkn : k = n := by omega
      subst hkn
      clear h3 h8 hbx hb ho
      go_wp2
      go_ret
      exact ⟨A, d, rfl, HO.out, HB.out⟩
end Go.Proofs.Ytggcjmdadomlaaa
