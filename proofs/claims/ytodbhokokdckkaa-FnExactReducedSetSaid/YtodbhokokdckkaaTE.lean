import Derived.Test.YtodbhokokdckkaaSX
import Derived.Shelf.Slices.Equal
import Derived.Shelf.Slices.Empties2
import Derived.Deep.RegionHeld3
namespace Go.Proofs
open Go.Shelf
shelf_lay Lays.n111 Nm 111 at Try as Try.equal
end Go.Proofs
namespace Go.Proofs.Ytodbhokokdckkaa
open Go.RowKit
set_option maxHeartbeats 2000000
theorem get119 (Bl g n k : Nat) (L : List Nat) (w : World) (hn : L.length = n) (hk : k < n) (hn2 : n ≤ 1048576) (hbx : Blk w 22 Bl #[.slice (some ⟨g, 0, none⟩) n n]) (ha : Arr w 3 g n (lv L)) :
    Calls Try.prog 119 #[.int .i64 k, .pointer (some ⟨Bl, 0, none⟩)] w fun e w' => e = .returned (.int .i64 (L.getD k 0 : Nat)) ∧ w = w' := by
  have c0 : w.cell? ⟨Bl, 0, none⟩ = some (.slice (some ⟨g, 0, none⟩) n n) := hbx.cell 0
  obtain ⟨y, hy⟩ : ∃ y, L.getD k 0 = y := ⟨_, rfl⟩
  have c1 : w.cell? ⟨g, k, none⟩ = some (.int .i64 (y : Nat)) := by rw [ha.cell hk]; simp only [lv, hy]
  have HY := hide hy
  clear hbx ha hy hn
  go_enter Try.func119, Try.ntmps119
  go_wp2
  go_ret
  exact ⟨by rw [HY.out]; rfl, rfl⟩
theorem fold_add_lt (L : List Nat) {n : Nat} (hL : ∀ b ∈ L, b < 2 ^ n) : ∀ B, (∀ b ∈ B, b < 2 ^ n) → ∀ b ∈ L.foldl add B, b < 2 ^ n := by
  induction L with
  | nil => intro B hB; exact hB
  | cons a L ih => intro B hB; exact ih (fun b hb => hL b (by simp [hb])) _ (add_lt hB (hL a (by simp)))
def fS (L : List Nat) (k : Nat) : List Nat := (L.take k).foldl add []
theorem fS_succ {L : List Nat} {k : Nat} (h : k < L.length) : fS L (k + 1) = add (fS L k) (L.getD k 0) := by
  unfold fS
  rw [List.take_succ_eq_append_getElem h, List.foldl_append]
  have : L.getD k 0 = L[k] := by simp [h]
  rw [this]; rfl
theorem fS_fit {L : List Nat} (hL : ∀ b ∈ L, b < 65536) (k : Nat) : Bas (fS L k) ∧ M40 (fS L k) ∧ (fS L k).length ≤ 16 := by
  have h1 : Bas (fS L k) := fold_add_bas _ _ Bas.nil
  have h2 : ∀ b ∈ fS L k, b < 2 ^ 16 := fold_add_lt (n := 16) _ (fun b hb => hL b (List.mem_of_mem_take hb)) [] (by simp)
  exact ⟨h1, fun b hb => Nat.lt_of_lt_of_le (h2 b hb) (by decide), bas_length h1 h2⟩
theorem basisOf119 (Bl g n : Nat) (L : List Nat) (w : World) (hL : ∀ b ∈ L, b < 65536) (hn : L.length = n) (hn2 : n ≤ 1048576) (hbx : Blk w 22 Bl #[.slice (some ⟨g, 0, none⟩) n n]) (ha : Arr w 3 g n (lv L)) :
    Calls Try.prog 114 #[.int .i64 n, .func (.func 119) #[] #[.pointer (some ⟨Bl, 0, none⟩)]] w (GrownL w.heap.size w (fS L n)) := by
  have hmf : ∀ (fn : Fn) (first cap : Array Value) (w : World), (Instr.makeFunc fn first cap).run Try.prog w = .ok (.func fn first cap) w := fun _ _ _ _ => rfl
  have HBX := hide hbx
  have HA := hide ha
  have HL := hide hL
  have HN := hide hn
  clear hbx ha hL hn
  go_enter Try.func114, Try.ntmps114
  go_wp2
  go_loopw [10] (fun i wr => ∃ (k m : Nat) (A : Option Addr) (d : Nat), k ≤ n ∧ i = .int .i64 k ∧ Hid ((fS L k).length = m) ∧ Blk wr 22 w.heap.size #[.slice A m d] ∧ OL wr (w.heap.size + 1) (.slice A m d) (fS L k) ∧ Below w.heap.size w wr) (fun i _ => n - (intOf i).toNat)
  case atStart => exact ⟨0, 0, none, 0, by omega, rfl, hide rfl, Blk.new _ _ _ rfl, OL.nil _ _, by go_grown⟩
  case round =>
    obtain ⟨k, m, A, d, hk, rfl, HM, hx, ho, hb⟩ := hrel
    have hsz := hb.size
    have hxl := hx.lt
    have HX := hide hx
    have HO := hide ho
    have HB := hide hb
    have HBXr := hide (HBX.out.all hb)
    have HAr := hide (HA.out.all hb)
    clear hx ho hb
    by_cases hlt : k < n
    · have hkn : k < L.length := by rw [HN.out]; exact hlt
      obtain ⟨hbas, hfit, hl16⟩ := fS_fit HL.out k
      have HFit := hide hfit
      have HBas := hide hbas
      have hm64 : m ≤ 64 := by have h2 := HM.out; omega
      obtain ⟨s0, hs0⟩ : ∃ s, L.getD k 0 = s := ⟨_, rfl⟩
      have hs16 : s0 < 65536 := by rw [← hs0]; simp [hkn]; exact HL.out _ (List.getElem_mem hkn)
      have hs40 : s0 < 1099511627776 := by omega
      have HK : Hid (fS L (k + 1) = add (fS L k) s0) := hide (by rw [fS_succ hkn, hs0])
      have HS0 := hide hs0
      clear hbas hfit hl16 hs0 hkn
      go_wp2_with fail
      refine (get119 _ _ _ _ L _ HN.out hlt hn2 HBXr.out HAr.out).mono ?_
      rintro e w3 ⟨rfl, rfl⟩
      simp only [HS0.out]
      go_wp2_with fail
      refine (addF_any w.heap.size _ _ _ _ _ _ HFit.out HBas.out hs40 HM.out hm64 HX.out HO.out).mono ?_
      rintro e w4 ⟨rfl, A4, n4, c4, hn4, hx4, ho4, hb4⟩
      rw [← HK.out] at hn4 ho4
      have HN4 := hide hn4
      have HX4 := hide hx4
      have HO4 := hide ho4
      have HB4 := hide (HB.out.trans hb4)
      clear hn4 hx4 ho4 hb4
      go_wp2
      go_roundw
      case rel => exact ⟨k + 1, n4, A4, c4, by omega, by go_num, HN4, HX4.out, HO4.out, HB4.out⟩
      case measure => simp [intOf]; omega
    · have hkn : k = n := by omega
      subst hkn
      have c0 : wr.cell? ⟨w.heap.size, 0, none⟩ = some (.slice A m d) := HX.out.cell 0
      go_wp2
      go_ret
      exact ⟨A, d, m, rfl, HM.out, by have h := HO.out; exact h.mono (by omega), HB.out⟩
theorem list_eq_lv {L M : List Nat} {n : Nat} (h1 : L.length = n) (h2 : M.length = n) : ((L.map (fun x : Nat => (x : Int))).take n == (M.map (fun x : Nat => (x : Int))).take n) = decide (L = M) := by
  rw [List.take_of_length_le (by simp; omega), List.take_of_length_le (by simp; omega), Bool.eq_iff_iff]
  simp only [beq_iff_eq, decide_eq_true_eq]
  constructor
  · intro h
    exact (List.map_inj_right (fun x y hxy => by omega)).1 h
  · rintro rfl; rfl
theorem equal_any (g n m c B d : Nat) (A : Option Addr) (L M : List Nat) (w : World) (hn : L.length = n) (hm : M.length = m) (hn2 : n ≤ 1048576) (ha : Arr w 3 g n (lv L)) (ho : OL w B (.slice A m d) M) :
    Calls Try.prog 118 #[.slice (some ⟨g, 0, none⟩) n c, .slice A m d] w fun e w' => e = .returned (.bool (decide (L = M))) ∧ ∃ q, w' = w.drewN q := by
  by_cases hnm : n = m
  · subst hnm
    by_cases h0 : n = 0
    · subst h0
      have e1 : L = [] := List.length_eq_zero_iff.1 hn
      have e2 : M = [] := List.length_eq_zero_iff.1 hm
      subst e1 e2
      refine (Any.slices_Equal_int_empty Try.equal (some ⟨g, 0, none⟩) A c 0 d w (by omega)).mono ?_
      rintro e w' ⟨rfl, rfl⟩
      exact ⟨rfl, 0, rfl⟩
    · rcases ho.cases hm with ⟨_, h1, _⟩ | ⟨g2, cur, rfl, hBg, hg, hnc, hmx, hcs, hcur⟩
      · omega
      · refine (Any.slices_Equal_int Try.equal g 0 n c g2 0 n d (L.map (fun x : Nat => (x : Int))) (M.map (fun x : Nat => (x : Int))) w (by simp; omega) (by simp; omega) (by omega) (by omega) (fun j hj => ?_) (fun j hj => ?_)).mono ?_
        · have hj2 : j < L.length := by simpa using hj
          rw [Nat.zero_add, ha.cell (by omega)]
          simp [lv, hj2]
        · have hj2 : j < M.length := by simpa using hj
          rw [hg.cell, Nat.zero_add, hcur j (by omega)]
          simp [lv, hj2]
        · rintro e w' ⟨he, q, rfl⟩
          rw [list_eq_lv hn hm] at he
          exact ⟨he, q, rfl⟩
  · refine (Any.slices_Equal_int_lens Try.equal (some ⟨g, 0, none⟩) A n c m d w hnm).mono ?_
    rintro e w' ⟨rfl, rfl⟩
    refine ⟨?_, 0, rfl⟩
    rw [decide_eq_false (by rintro rfl; omega)]
theorem equal_below (g n m c B d : Nat) (A : Option Addr) (L M : List Nat) (w : World) (hn : L.length = n) (hm : M.length = m) (hn2 : n ≤ 1048576) (ha : Arr w 3 g n (lv L)) (ho : OL w B (.slice A m d) M) :
    Calls Try.prog 118 #[.slice (some ⟨g, 0, none⟩) n c, .slice A m d] w fun e w' => e = .returned (.bool (decide (L = M))) ∧ Below w.heap.size w w' :=
  (equal_any g n m c B d A L M w hn hm hn2 ha ho).mono fun _ _ ⟨h, q, hw⟩ => ⟨h, by subst hw; exact below_drewN (Below.refl _ _) q⟩
theorem one_below {W w' : World} {a : Nat} {u0 : Value} (hb : Below W.heap.size W w') (h : W.cell? ⟨a, 0, none⟩ = some u0) : w'.cell? ⟨a, 0, none⟩ = some u0 :=
  (hb.cell (p := ⟨a, 0, none⟩) (World.block_lt_of_cell? W _ h)).trans h
theorem isBasis_in (g n : Nat) (L : List Nat) (w : World) (hL : ∀ b ∈ L, 1 ≤ b ∧ b < 65536) (hn : L.length = n) (hn2 : n ≤ 1048576) (ha : Arr w 3 g n (lv L)) :
    Calls Try.prog 105 #[.slice (some ⟨g, 0, none⟩) n n] w fun e w' => e = .returned (.bool (decide (L = fS L n))) ∧ Below w.heap.size w w' := by
  have hmf : ∀ (fn : Fn) (first cap : Array Value) (w : World), (Instr.makeFunc fn first cap).run Try.prog w = .ok (.func fn first cap) w := fun _ _ _ _ => rfl
  have HA := hide ha
  have HL := hide hL
  have HN := hide hn
  have hgl := ha.lt
  clear ha hL hn
  go_enter Try.func105, Try.ntmps105
  go_wp2
  go_loop [7] (fun i => ∃ k : Nat, k ≤ n ∧ i = .int .i64 k) (fun i => n - (intOf i).toNat)
  case atStart => exact ⟨0, by omega, rfl⟩
  case round =>
    obtain ⟨k, hk, rfl⟩ := hrel
    by_cases hlt : k < n
    · have hkn : k < L.length := by rw [HN.out]; exact hlt
      obtain ⟨y, hy⟩ : ∃ y, L[k] = y := ⟨_, rfl⟩
      obtain ⟨hy1, hy2⟩ := HL.out y (by rw [← hy]; exact List.getElem_mem hkn)
      have hc : (w.alloc (.cells #[.slice (some ⟨g, 0, none⟩) n n] 22)).cell? ⟨g, k, none⟩ = some (.int .i64 (y : Nat)) := by rw [(HA.out.alloc _).cell hlt, lv_get hkn, hy]
      clear hy hkn
      go_wp2
      go_round
      case rel => exact ⟨k + 1, by omega, by go_num⟩
      case measure => simp [intOf] <;> omega
    · have hkn : k = n := by omega
      subst hkn
      have HX := hide (Blk.new w 22 #[.slice (some ⟨g, 0, none⟩) k k] (b := w.heap.size) rfl)
      have HA1 := hide (HA.out.alloc (.cells #[.slice (some ⟨g, 0, none⟩) k k] 22))
      have HL2 : Hid (∀ b ∈ L, b < 65536) := hide (fun b hb => (HL.out b hb).2)
      have KK : Hid ((w.alloc (.cells #[.slice (some ⟨g, 0, none⟩) k k] 22)).drew.cell? ⟨w.heap.size, 0, none⟩ = some (.slice (some ⟨g, 0, none⟩) k k)) := hide (HX.out.cell 0)
      go_wp2
      go_region_held3 (fun w' => w'.cell? ⟨w.heap.size, 0, none⟩ = some (.slice (some ⟨g, 0, none⟩) k k)) (first | exact KK.out | exact one_below (by assumption) KK.out | exact one_below (by assumption) (one_below (by assumption) KK.out)) (first | (go_at_call 114; refine (basisOf119 _ _ _ L _ HL2.out HN.out hn2 (by exact HX.out.drew) (by exact HA1.out.drew)).mono ?_; rintro e w3 ⟨A3, d3, m3, rfl, hm3, ho3, hb3⟩; have HM3 := hide hm3; have HO3 := hide ho3; clear hm3 ho3) | (go_at_call 118; refine (equal_below _ _ _ _ _ _ _ L (fS L k) _ HN.out HM3.out hn2 (by exact HA1.out.drew.all hb3) HO3.out).mono ?_; rintro e w4 ⟨rfl, hb4⟩))
      have HB := hide (((by go_grown : Below w.heap.size w (w.alloc (.cells #[.slice (some ⟨g, 0, none⟩) k k] 22))).trans ((Below.drew (Below.refl w.heap.size _)).trans (hb3.mono (by simp)))).trans (hb4.mono (by have := hb3.size; simp at this; omega)))
      clear hb3 hb4
      go_wp2
      go_ret
      exact ⟨rfl, HB.out⟩
end Go.Proofs.Ytodbhokokdckkaa
