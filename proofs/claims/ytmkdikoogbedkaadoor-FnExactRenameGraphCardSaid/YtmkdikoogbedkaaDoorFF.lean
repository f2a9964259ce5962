import Derived.Test.YtmkdikoogbedkaaDoorFE
namespace Go.Proofs.YtmkdikoogbedkaaDoor
open Go.RowKit
set_option maxHeartbeats 1000000
theorem renImpl_ok (g n c : Nat) (F V : Nat → Nat) (own : Bool) (b off mc : Nat) (w : World) (hn : n ≤ 16) (hF : ∀ j, j < n → F j < 2 ^ n) (hV : ∀ j, j < n → V j < n) (hgd : goodB n (nv F) = true) (hnm : namesB n n (nv V) = true)
    (ha : Arr w 3 g n (iv (nv F))) (hs : Src w (some ⟨b, off, none⟩) n (iv (nv V))) (hbl : b < w.heap.size) (hT : Tab w) :
    Calls Tryd.prog 14 #[.agg #[.slice (some ⟨g, 0, none⟩) n c, .bool own], .slice (some ⟨b, off, none⟩) n mc] w fun e w' => ∃ G, GraphOk w n (nv G) own e w' ∧ LinkTo n V (fun x y => (F x).testBit y = true) G := by
  have hmk := run_make_row' (P := Tryd.prog) 27 3 (.int .i64 0) 8 Tryd.underlying27 int_info rfl .i64 .i64 n (by omega) (by omega)
  have HA := hide ha
  have HS := hide hs
  have HT := hide hT
  have HF := hide hF
  have HV := hide hV
  have hgl := ha.lt
  have htl := hT.lt
  clear ha hs hT hF hV
  go_enter Tryd.func14, Tryd.ntmps14
  go_wp2_with fail
  refine (isGraph_any _ _ _ (nv F) _ _ (by omega) (((HA.out.alloc _).alloc _).alloc _)).mono ?_
  rintro e w1 ⟨rfl, hb1⟩
  simp only [hgd]
  have HX := hide (((Arr.box w 31 (.slice (some ⟨g, 0, none⟩) n c) (.bool own)).alloc (.cells #[.slice (some ⟨b, off, none⟩) n mc] 27)).alloc (.cells #[.slice none 0 0, .bool false] 31) |>.all hb1)
  have HY := hide (((Arr.one_at (w.alloc (.cells #[.slice (some ⟨g, 0, none⟩) n c, .bool own] 31)) 27 (.slice (some ⟨b, off, none⟩) n mc) (b := w.heap.size + 1) (by simp)).alloc (.cells #[.slice none 0 0, .bool false] 31)).all hb1)
  have HR := hide ((Arr.box_at ((w.alloc (.cells #[.slice (some ⟨g, 0, none⟩) n c, .bool own] 31)).alloc (.cells #[.slice (some ⟨b, off, none⟩) n mc] 27)) 31 (.slice none 0 0) (.bool false) (b := w.heap.size + 1 + 1) (by simp)).all hb1)
  have HB := hide ((by go_grown : Below w.heap.size w _).trans (hb1.mono (by simp; omega)))
  have x0 : w1.cell? ⟨w.heap.size, 0, none⟩ = some (.slice (some ⟨g, 0, none⟩) n c) := HX.out.cell (by omega)
  have x1 : w1.cell? ⟨w.heap.size, 1, none⟩ = some (.bool own) := HX.out.cell (by omega)
  have y0 : w1.cell? ⟨w.heap.size + 1, 0, none⟩ = some (.slice (some ⟨b, off, none⟩) n mc) := HY.out.cell (by omega)
  have hg1 : g < w1.heap.size := Nat.lt_of_lt_of_le hgl HB.out.size
  have HS1 := hide (HS.out.below HB.out)
  clear hb1
  go_wp2_with fail
  refine (isRenaming_any g n c own _ n mc (nv V) _ hn (by omega) hg1 HS1.out).mono ?_
  rintro e w2 ⟨rfl, hb2⟩
  simp only [hnm]
  have HX2 := hide (HX.out.all hb2)
  have HY2 := hide (HY.out.all hb2)
  have HR2 := hide (HR.out.all hb2)
  have HB2 := hide (HB.out.trans (hb2.mono HB.out.size))
  have hl := HX2.out.lt
  have hl' := HY2.out.lt
  have hlr : w.heap.size + 1 + 1 < w2.heap.size := HR2.out.lt
  have hsz := HB2.out.size
  clear hb2 x0 x1 y0
  have x0 : w2.cell? ⟨w.heap.size, 0, none⟩ = some (.slice (some ⟨g, 0, none⟩) n c) := HX2.out.cell (by omega)
  have x1 : w2.cell? ⟨w.heap.size, 1, none⟩ = some (.bool own) := HX2.out.cell (by omega)
  go_wp2
  go_loopw [26] (fun x wr => ∃ (k : Nat) (G : Nat → Nat), k ≤ n ∧ x = .int .i64 k ∧ Arr wr 3 w2.heap.size n (iv (nv G)) ∧ Arr wr 27 (w2.heap.size + 1) 1 (fun _ => .slice (some ⟨w2.heap.size, 0, none⟩) n n) ∧ (∀ j, j < n → G j < 65536) ∧ LinkTo n V (fun a b => a < k ∧ (F a).testBit b = true) G ∧ Below w2.heap.size w2 wr) (fun x _ => n - (intOf x).toNat)
  case atStart =>
    refine ⟨0, fun _ => 0, by omega, rfl, ?_, ?_, fun _ _ => by simp, LinkTo.zero n V (fun a b h => by have := h.1; omega), by go_grown⟩
    · exact ((Arr.made w2 (.int .i64 0) n 3).alloc _).congr (fun j _ => rfl)
    · exact Arr.one_at (w2.alloc (.cells (madeCells #[.int .i64 0] n) 3)) 27 _ (b := w2.heap.size + 1) (by simp)
  case round =>
    obtain ⟨k, G, hk, rfl, ha, hnb, hG, hL, hb⟩ := hrel
    have X := HX2.out.all hb
    have Y := HY2.out.all hb
    have R := HR2.out.all hb
    have hzr := hb.size
    have hBr : Below w.heap.size w wr := HB2.out.trans (hb.mono hsz)
    have x0 : wr.cell? ⟨w.heap.size, 0, none⟩ = some (.slice (some ⟨g, 0, none⟩) n c) := X.cell (by omega)
    have x1 : wr.cell? ⟨w.heap.size, 1, none⟩ = some (.bool own) := X.cell (by omega)
    have y0 : wr.cell? ⟨w.heap.size + 1, 0, none⟩ = some (.slice (some ⟨b, off, none⟩) n mc) := Y.cell (by omega)
    have n0 : wr.cell? ⟨w2.heap.size + 1, 0, none⟩ = some (.slice (some ⟨w2.heap.size, 0, none⟩) n n) := hnb.cell (by omega)
    have hnl := hnb.lt
    have HAr := hide ha
    have HNB := hide hnb
    have HGr := hide hG
    have HLr := hide hL
    have HBr := hide hb
    have HBw := hide hBr
    have HY := hide Y
    have HR := hide R
    clear ha hnb hG hL hb X Y R hBr
    by_cases hlt : k < n
    · have hc : wr.cell? ⟨g, k, none⟩ = some (.int .i64 (F k : Nat)) := (HA.out.below HBw.out hgl).cell hlt
      have hI := (Arr.one_at wr 3 (.int .i64 (k : Nat)) rfl).cell (k := 0) (by omega)
      have hN' := (HNB.out.alloc (.cells #[.int .i64 (k : Nat)] 3)).cell (k := 0) (by omega)
      have hS' := (HY.out.alloc (.cells #[.int .i64 (k : Nat)] 3)).cell (k := 0) (by omega)
      have hbA : Below w2.heap.size w2 (wr.alloc (.cells #[.int .i64 (k : Nat)] 3)) := by have h := HBr.out; go_grown
      have hbB : Below w.heap.size w (wr.alloc (.cells #[.int .i64 (k : Nat)] 3)) := HB2.out.trans (hbA.mono hsz)
      have HBA := hide hbA
      have HENV := hide (show Env (wr.alloc (.cells #[.int .i64 (k : Nat)] 3)) (w2.heap.size + 1) (w.heap.size + 1) wr.heap.size w2.heap.size n n (some ⟨b, off, none⟩) n mc k from ⟨hN', hS', hI⟩)
      have HSA := hide (HS.out.below hbB)
      have HTA := hide (HT.out.below hbB)
      clear hI hN' hS' hbA hbB
      go_wp2_with fail
      refine (eachRen_any (w2.heap.size + 1) (w.heap.size + 1) wr.heap.size w2.heap.size n n mc k (F k) b off V G _ _ hn hlt (HF.out k hlt) HV.out HGr.out HLr.out (by omega) (by omega) (by omega) (by omega) HENV.out HSA.out (HAr.out.alloc _) HTA.out (by omega)).mono ?_
      rintro e w5 ⟨rfl, ⟨G', ha5, hG5, hL5⟩, hg5⟩
      have hb5 := HBA.out.grown hg5 HBA.out.size (fun j hj => by injection hj; omega)
      have hnb5 := (HNB.out.alloc (.cells #[.int .i64 (k : Nat)] 3)).grown hg5 (by omega)
      have HL5 := hide (hL5.congr (E' := fun a b => a < k + 1 ∧ (F a).testBit b = true) fun x y _ _ => by
        unfold leftE
        constructor
        · rintro (⟨h1, h2⟩ | ⟨rfl, h2, _⟩)
          · exact ⟨by omega, h2⟩
          · exact ⟨by omega, h2⟩
        · rintro ⟨h1, h2⟩
          by_cases hxk : x = k
          · subst hxk; exact .inr ⟨rfl, h2, by simp⟩
          · exact .inl ⟨by omega, h2⟩)
      clear hL5 hg5
      go_wp2
      go_roundw
      case rel => exact ⟨k + 1, G', by omega, by go_num, ha5, hnb5, hG5, HL5.out, hb5⟩
      case measure => simp [intOf]; omega
    · have hkn : k = n := by omega
      subst hkn
      have r0 := HR.out.cell (k := 0) (by omega)
      have r1 := HR.out.cell (k := 1) (by omega)
      have z0 := HR.out.frozen 0
      have z1 := HR.out.frozen 1
      have hlr2 := HR.out.lt
      go_wp2
      refine bodyPost_ret (v := .tuple #[.agg #[.slice (some ⟨w2.heap.size, 0, none⟩) k k, .bool own], .bool true]) (by simp [results, Tryd.results14, go_sem, r0, r1]) rfl ?_
      refine ⟨G, ⟨w2.heap.size, rfl, by omega, (HAr.out.far (by simp; omega) _).far (by simp; omega) _, by have h := HBw.out; have hz := h.size; go_grown⟩, HLr.out.congr fun x y hx _ => by simp [hx]⟩
end Go.Proofs.YtmkdikoogbedkaaDoor
