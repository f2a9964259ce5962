/-
NullityByStates: how many sets are quiet, as a power of two. Both sides.
-/
import Derived.Test.YtmcimfblhpflnaaDoorZf
import Derived.Ground.NamesProg
import Derived.Shelf.Lay
import Derived.Shelf.Small.Bits
import Derived.Lib.ItoaNum
namespace Go.Proofs
open Go.Shelf
shelf_lay Lays.n125 Nm 125 at Tryd as Tryd.len
end Go.Proofs
namespace Go.Proofs.YtmcimfblhpflnaaDoor
open Go.RowKit
set_option maxHeartbeats 4000000
def bl (p : Nat) : Nat := if p = 0 then 0 else p.log2 + 1
theorem bl_zero : bl 0 = 0 := rfl
theorem bl_pos {p : Nat} (h : p ≠ 0) : bl p = p.log2 + 1 := if_neg h
theorem lt_bl (p : Nat) : p < 2 ^ bl p := by
  by_cases h : p = 0
  · subst h; exact Nat.one_pos
  · rw [bl_pos h]; exact Nat.lt_log2_self
theorem bl_le {p n : Nat} : bl p ≤ n ↔ p < 2 ^ n := by
  constructor
  · intro h; exact Nat.lt_of_lt_of_le (lt_bl p) (Nat.pow_le_pow_right (by decide) h)
  · intro h
    by_cases h0 : p = 0
    · subst h0; exact Nat.zero_le _
    · rw [bl_pos h0]; exact (Nat.log2_lt h0).2 h
theorem bl_self {p : Nat} (h : p ≠ 0) : 2 ^ (bl p - 1) ≤ p := by rw [bl_pos h]; exact Nat.log2_self_le h
theorem ret_i {k : IntKind} {a b : Int} (h : a = b) : Ending.returned (.int k a) = .returned (.int k b) := by rw [h]
theorem bitLen_bl {x : Nat} (h : x < 4611686018427387904) : Lib.bitLen x = bl x := by
  by_cases h0 : x = 0
  · subst h0; rfl
  · have hb := Lib.bitLenAux_bounds 64 x (by have : (2 : Nat) ^ 64 = 18446744073709551616 := rfl; omega) h0
    show Lib.bitLenAux 64 x = _
    rw [bl_pos h0]
    obtain ⟨h1, h2, h3⟩ := hb
    have a1 := (Nat.le_log2 h0).2 h2
    have a2 := (Nat.log2_lt h0).2 h3
    omega
theorem bl62 {x : Nat} (h : x < 4611686018427387904) : bl x ≤ 62 := bl_le.2 h
theorem greatestB_any (s : Nat) (w : World) (hs : s < 4611686018427387904) :
    Calls Tryd.prog 67 #[.int .i64 s] w fun e w' => e = .returned (.int .i64 ((bl s : Int) - 1)) ∧ w' = w := by
  have hb := bitLen_bl hs
  have hcon := Any.bits_Len Tryd.len (s : Int) w (by omega) (by omega)
  change Calls Tryd.prog 85 _ _ _ at hcon
  rw [Int.toNat_natCast, hb] at hcon
  have hl := bl62 hs
  have HC := hide hcon
  clear hcon hb
  go_enter Tryd.func67, Tryd.ntmps67
  go_wp2_with (go_at_call 85; refine HC.out.mono ?_; rintro e w3 ⟨rfl, rfl⟩)
  go_ret
  exact ⟨ret_i (by omega), rfl⟩
theorem soTopB_any (s : Nat) (w : World) (hs : s < 4611686018427387904) :
    Calls Tryd.prog 66 #[.int .i64 s] w fun e w' => e = .returned (.int .i64 ((bl s : Int) - 1)) ∧ w' = w := by
  have hL := bl62 hs
  obtain ⟨b, hb⟩ : ∃ b, bl s = b := ⟨_, rfl⟩
  rw [hb] at hL ⊢
  have HB := hide hb
  clear hb
  go_enter Tryd.func66, Tryd.ntmps66
  go_wp2
  go_loop [0, 3] (fun x t => ∃ k : Nat, k ≤ b ∧ x = .int .i64 ((s / 2 ^ k : Nat) : Int) ∧ t = .int .i64 ((k : Int) - 1)) (fun x _ => (intOf x).toNat)
  case atStart => exact ⟨0, by omega, by simp, rfl⟩
  case round =>
    obtain ⟨k, hk, rfl, rfl⟩ := hrel
    obtain ⟨x, hx⟩ : ∃ x, s / 2 ^ k = x := ⟨_, rfl⟩
    have hx2 : Hid (s / 2 ^ (k + 1) = x / 2) := hide (by rw [Nat.pow_succ, ← Nat.div_div_eq_div_mul, hx])
    have hxs : x ≤ s := by rw [← hx]; exact Nat.div_le_self _ _
    rw [hx]
    by_cases hp : 0 < x
    · have hkl : k < b := by
        rcases Nat.lt_or_ge k b with h | h
        · exact h
        · rw [Nat.div_eq_of_lt (bl_le.1 (by rw [HB.out]; exact h))] at hx; omega
      clear hx
      go_wp2
      go_round
      case rel => exact ⟨k + 1, by omega, by rw [hx2.out]; go_num, by go_num⟩
      case measure => simp [intOf] <;> omega
    · have hke : b = k := by
        have h1 : s < 2 ^ k := by
          have := (Nat.div_eq_zero_iff (a := s) (b := 2 ^ k)).1 (by omega)
          have := Nat.two_pow_pos k
          omega
        have := bl_le.2 h1
        rw [HB.out] at this
        omega
      have hz : ((x : Nat) : Int) = 0 := by omega
      rw [hz]
      clear hx hz
      go_wp2
      go_ret
      exact ⟨ret_i (by omega), rfl⟩
set_option maxRecDepth 4000 in
theorem cntSpec_okb (g n c : Nat) (F : Nat → Nat) (own : Bool) (L : Nat) (w : World) (hn : n ≤ 16) (hL : L < 65536) (hs : setB n (nv F) L = true) (ha : Arr w 3 g n (iv (nv F))) :
    Calls Tryd.prog 38 #[.agg #[.slice (some ⟨g, 0, none⟩) n c, .bool own], .int .i64 (L : Nat)] w fun e w' => e = .returned (cOut F own L n) ∧ (treeB F n = true → (sN F own L n).1 ≤ 4294967296) ∧ Below w.heap.size w w' := by
  have hG : goodB n (nv F) = true := by simp only [setB, Bool.and_eq_true] at hs; exact hs.1
  have HG := hide (goodB_iff.1 hG)
  have HA := hide ha
  clear ha hG
  go_enter Tryd.func38, Tryd.ntmps38
  go_wp2_with fail
  refine (grSet_any _ _ _ (nv F) _ _ _ (by omega) (HA.out.alloc _)).mono ?_
  rintro e w1 ⟨rfl, hb1⟩
  rw [hs]
  obtain ⟨c0, c1, hzl⟩ := box28 hb1
  have HA1 := hide ((HA.out.alloc _).all hb1)
  have HB1 := hide ((by go_grown : Below w.heap.size w _).trans (hb1.mono (by simp)))
  clear hb1
  go_wp2_with fail
  refine (search_any _ _ _ F _ _ hn HG.out HA1.out).mono ?_
  rintro e w2 hsr
  rcases hsr with ⟨ht, rfl, hb2⟩ | ⟨ht, g2, m2, d2, A2, o, t, p, rfl, hq, hl, hall, hg2, hpa, _, hb2⟩
  · have HB2 := hide (HB1.out.trans (hb2.mono HB1.out.size))
    have hT := tree_no ht
    clear hb2 ht c0 c1
    go_wp2
    go_ret2
    exact ⟨by unfold cOut; rw [if_neg (by rw [hT]; simp)]; rfl, fun h => (by rw [hT] at h; cases h), HB2.out⟩
  · have hT := tree_yes ht
    have hrun : Run F n o t p := ⟨by rw [hl]; exact hq, hall⟩
    have hI := HG.out.irr
    have hB := hrun.bnd hn hI (dueB L own)
    have hbA := hrun.bndA hn hI (dueB L own)
    obtain ⟨r, hr1, hr2⟩ := hrun.ranks
    have HTA := hide (trAll_any (some ⟨g, 0, none⟩) n c g2 n n L own F p w2 hn hbA hpa (fun j hj => trBelow_any (some ⟨g, 0, none⟩) n c g2 n n L own p hn hL hB r hr2 n j (hr1 j hj) hj))
    rw [hrun.sN_eq HG.out.sym hn] at HTA
    have d0 := (hb2.cell (p := ⟨w.heap.size, 0, none⟩) hzl).trans c0
    have d1 := (hb2.cell (p := ⟨w.heap.size, 1, none⟩) hzl).trans c1
    have HB2 := hide (HB1.out.trans (hb2.mono HB1.out.size))
    obtain ⟨S, hS⟩ : ∃ S, sN F own L n = S := ⟨_, rfl⟩
    rw [hS] at HTA
    have HS := hide hS
    have HLT := hide (sN_lt hI HG.out.sym hn hrun own L)
    clear hb2 ht hB hbA hr1 hr2 hpa hq hl hall hrun c0 c1 hS
    go_wp2_with fail
    refine HTA.out.mono ?_
    rintro e w3 ⟨rfl, hb3⟩
    have HB3 := hide (HB2.out.trans (hb3.mono HB2.out.size))
    clear hb3
    have hfld : ∀ (a b : Int) (w : World), Sem.run Tryd.prog (Instr.field 67 (Value.agg #[Value.int .i64 a, Value.int .i64 b]) 0) w = .ok (.int .i64 a) w := fun a b w => by first | rfl | simp [go_sem]
    go_wp2
    try simp only [hfld]
    go_ret2
    exact ⟨by unfold cOut; rw [if_pos hT, HS.out]; rfl, fun _ => HLT.out, HB3.out⟩
theorem asked71b (g n c : Nat) (F : Nat → Nat) (own : Bool) (L : Nat) (w : World) (hL : L < 65536) (hTr : treeB F n = true) (hs : setB n (nv F) L = true) (ha : Arr w 3 g n (iv (nv F))) (hT : Tab w) (hw1 : 1 < w.heap.size) :
    Calls Tryd.prog 65 #[.agg #[.slice (some ⟨g, 0, none⟩) n c, .bool own], .int .i64 (L : Nat), .iface 71 (.agg #[])] w fun e w' => e = .returned (.tuple #[.int .i64 ((sN F own L n).1 : Nat), .bool true]) ∧ (sN F own L n).1 ≤ 4294967296 ∧ Below w.heap.size w w' := by
  have hG := goodB_iff.1 (setB_good hs)
  refine (askedG 71 (fun p => (askRun accCI (kids p n) (dueB L own) p 0 (ordL F n).reverse).1) g n c F own L w hG.n16 hTr hs ha hT hw1 (hide ?_)).mono ?_
  · intro fb gp lb d o t p W hr hT h1 k0 k1 k2 k3 kn kp kl
    exact ask71r fb g c gp lb d L own W hG hL hr hT h1 k0 k1 k2 k3 kn kp kl
  · rintro e w' ⟨⟨o, t, p, hr, rfl⟩, hb⟩
    have h := (hr.told hG.sym hG.irr hG.n16 own L).1
    exact ⟨by rw [h], sN_lt hG.irr hG.sym hG.n16 hr own L, hb⟩
theorem cntImpl_okb (g n c : Nat) (F : Nat → Nat) (own : Bool) (L : Nat) (w : World) (hn : n ≤ 16) (hL : L < 65536) (hs : setB n (nv F) L = true) (ha : Arr w 3 g n (iv (nv F))) (hT : Tab w) (hw1 : 1 < w.heap.size) :
    Calls Tryd.prog 39 #[.agg #[.slice (some ⟨g, 0, none⟩) n c, .bool own], .int .i64 (L : Nat)] w fun e w' => e = .returned (cOut F own L n) ∧ (treeB F n = true → (sN F own L n).1 ≤ 4294967296) ∧ Below w.heap.size w w' := by
  cases hTr : treeB F n
  · exact (cntImpl_ok g n c F own L w hn hL hs ha hT hw1).mono fun e w' h => ⟨h.1, (fun h0 => by cases h0), h.2⟩
  · have HA := hide ha
    have HT := hide hT
    clear ha hT
    go_enter Tryd.func39, Tryd.ntmps39
    go_wp2_with fail
    refine (asked71b g n c F own L _ hL hTr hs (HA.out.alloc _) (HT.out.below (by go_grown)) (by simp; omega)).mono ?_
    rintro e w1 ⟨rfl, hlt, hb1⟩
    have HLT := hide hlt
    have HB1 := hide ((by go_grown : Below w.heap.size w _).trans (hb1.mono (by simp)))
    clear hb1 hlt
    go_wp2
    go_ret2
    exact ⟨by unfold cOut; rw [if_pos hTr]; rfl, fun _ => HLT.out, HB1.out⟩
/-- What NullityByStates tells. -/
noncomputable def nulOut (F : Nat → Nat) (own : Bool) (n : Nat) : Value := if treeB F n = true then .tuple #[.int .i64 ((bl (sN F own 0 n).1 : Int) - 1), .bool true] else .tuple #[.int .i64 0, .bool false]
theorem nulOut_two (F : Nat → Nat) (own : Bool) (n : Nat) : ∃ v b, nulOut F own n = .tuple #[.int .i64 v, .bool b] := by
  unfold nulOut
  by_cases h : treeB F n = true
  · rw [if_pos h]; exact ⟨_, _, rfl⟩
  · rw [if_neg h]; exact ⟨_, _, rfl⟩
theorem setB0 {n : Nat} {f : Nat → Int} (h : goodB n f = true) : setB n f 0 = true := by
  have hp := pow16 (goodB_iff.1 h).n16
  simp only [setB, h, Bool.true_and, inB, decide_eq_true_eq]
  omega
theorem set0_no {n : Nat} {f : Nat → Int} (h : goodB n f = false) : setB n f 0 = false := by
  simp [setB, h]
theorem nulSpec_no (g n c : Nat) (f : Nat → Int) (own : Bool) (w : World) (hn : n ≤ 1048576) (hno : goodB n f = false) (ha : Arr w 3 g n (iv f)) :
    Calls Tryd.prog 42 #[.agg #[.slice (some ⟨g, 0, none⟩) n c, .bool own]] w fun e w' => e = .returned (.tuple #[.int .i64 0, .bool false]) ∧ Below w.heap.size w w' := by
  have HA := hide ha
  clear ha
  go_enter Tryd.func42, Tryd.ntmps42
  go_wp2_with fail
  refine (cntSpec_no g n c f own 0 _ hn (set0_no hno) (HA.out.alloc _)).mono ?_
  rintro e w1 ⟨rfl, hb1⟩
  have HB1 := hide ((by go_grown : Below w.heap.size w _).trans (hb1.mono (by simp)))
  clear hb1
  go_wp2
  go_ret2
  exact ⟨rfl, HB1.out⟩
theorem nulSpec_ok (g n c : Nat) (F : Nat → Nat) (own : Bool) (w : World) (hn : n ≤ 16) (hG : goodB n (nv F) = true) (ha : Arr w 3 g n (iv (nv F))) :
    Calls Tryd.prog 42 #[.agg #[.slice (some ⟨g, 0, none⟩) n c, .bool own]] w fun e w' => e = .returned (nulOut F own n) ∧ Below w.heap.size w w' := by
  have HA := hide ha
  clear ha
  go_enter Tryd.func42, Tryd.ntmps42
  go_wp2_with fail
  refine (cntSpec_okb g n c F own 0 _ hn (by omega) (setB0 hG) (HA.out.alloc _)).mono ?_
  rintro e w1 ⟨rfl, hlt, hb1⟩
  have HB1 := hide ((by go_grown : Below w.heap.size w _).trans (hb1.mono (by simp)))
  clear hb1
  unfold cOut
  by_cases hTr : treeB F n = true
  · have hsm : (sN F own 0 n).1 < 4611686018427387904 := Nat.lt_of_le_of_lt (hlt hTr) (by decide)
    clear hlt
    rw [if_pos hTr]
    obtain ⟨v, hv⟩ : ∃ v, (sN F own 0 n).1 = v := ⟨_, rfl⟩
    rw [hv] at hsm ⊢
    have HV := hide hv
    clear hv
    go_wp2_with fail
    refine (soTopB_any v _ hsm).mono ?_
    rintro e w2 ⟨rfl, rfl⟩
    go_wp2
    go_ret2
    exact ⟨by unfold nulOut; rw [if_pos hTr, HV.out]; rfl, HB1.out⟩
  · clear hlt
    rw [if_neg hTr]
    go_wp2
    go_ret2
    exact ⟨by unfold nulOut; rw [if_neg hTr]; rfl, HB1.out⟩
theorem nulImpl_no (g n c : Nat) (f : Nat → Int) (own : Bool) (w : World) (hn : n ≤ 1048576) (hno : goodB n f = false) (ha : Arr w 3 g n (iv f)) (hT : Tab w) (hw1 : 1 < w.heap.size) :
    Calls Tryd.prog 43 #[.agg #[.slice (some ⟨g, 0, none⟩) n c, .bool own]] w fun e w' => e = .returned (.tuple #[.int .i64 0, .bool false]) ∧ Below w.heap.size w w' := by
  have HA := hide ha
  have HT := hide hT
  clear ha hT
  go_enter Tryd.func43, Tryd.ntmps43
  go_wp2_with fail
  refine (cntImpl_no g n c f own 0 _ hn (set0_no hno) (HA.out.alloc _) (HT.out.below (by go_grown)) (by simp; omega)).mono ?_
  rintro e w1 ⟨rfl, hb1⟩
  have HB1 := hide ((by go_grown : Below w.heap.size w _).trans (hb1.mono (by simp)))
  clear hb1
  go_wp2
  go_ret2
  exact ⟨rfl, HB1.out⟩
theorem nulImpl_ok (g n c : Nat) (F : Nat → Nat) (own : Bool) (w : World) (hn : n ≤ 16) (hG : goodB n (nv F) = true) (ha : Arr w 3 g n (iv (nv F))) (hT : Tab w) (hw1 : 1 < w.heap.size) :
    Calls Tryd.prog 43 #[.agg #[.slice (some ⟨g, 0, none⟩) n c, .bool own]] w fun e w' => e = .returned (nulOut F own n) ∧ Below w.heap.size w w' := by
  have HA := hide ha
  have HT := hide hT
  clear ha hT
  go_enter Tryd.func43, Tryd.ntmps43
  go_wp2_with fail
  refine (cntImpl_okb g n c F own 0 _ hn (by omega) (setB0 hG) (HA.out.alloc _) (HT.out.below (by go_grown)) (by simp; omega)).mono ?_
  rintro e w1 ⟨rfl, hlt, hb1⟩
  have HB1 := hide ((by go_grown : Below w.heap.size w _).trans (hb1.mono (by simp)))
  clear hb1
  unfold cOut
  by_cases hTr : treeB F n = true
  · have hsm : (sN F own 0 n).1 < 4611686018427387904 := Nat.lt_of_le_of_lt (hlt hTr) (by decide)
    clear hlt
    rw [if_pos hTr]
    obtain ⟨v, hv⟩ : ∃ v, (sN F own 0 n).1 = v := ⟨_, rfl⟩
    rw [hv] at hsm ⊢
    have HV := hide hv
    clear hv
    go_wp2_with fail
    refine (greatestB_any v _ hsm).mono ?_
    rintro e w2 ⟨rfl, rfl⟩
    go_wp2
    go_ret2
    exact ⟨by unfold nulOut; rw [if_pos hTr, HV.out]; rfl, HB1.out⟩
  · clear hlt
    rw [if_neg hTr]
    go_wp2
    go_ret2
    exact ⟨by unfold nulOut; rw [if_neg hTr]; rfl, HB1.out⟩
theorem nulSpec_v (g n c : Nat) (F : Nat → Nat) (own : Bool) (w : World) (v : Int) (b : Bool) (hv : nulOut F own n = .tuple #[.int .i64 v, .bool b]) (hn : n ≤ 16) (hG : goodB n (nv F) = true) (ha : Arr w 3 g n (iv (nv F))) :
    Calls Tryd.prog 42 #[.agg #[.slice (some ⟨g, 0, none⟩) n c, .bool own]] w fun e w' => e = .returned (.tuple #[.int .i64 v, .bool b]) ∧ Below w.heap.size w w' := by
  have h := nulSpec_ok g n c F own w hn hG ha
  rwa [hv] at h
theorem nulImpl_v (g n c : Nat) (F : Nat → Nat) (own : Bool) (w : World) (v : Int) (b : Bool) (hv : nulOut F own n = .tuple #[.int .i64 v, .bool b]) (hn : n ≤ 16) (hG : goodB n (nv F) = true) (ha : Arr w 3 g n (iv (nv F))) (hT : Tab w) (hw1 : 1 < w.heap.size) :
    Calls Tryd.prog 43 #[.agg #[.slice (some ⟨g, 0, none⟩) n c, .bool own]] w fun e w' => e = .returned (.tuple #[.int .i64 v, .bool b]) ∧ Below w.heap.size w w' := by
  have h := nulImpl_ok g n c F own w hn hG ha hT hw1
  rwa [hv] at h
end Go.Proofs.YtmcimfblhpflnaaDoor
