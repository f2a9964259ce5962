/-
Texts of digits: both sides of ColoursText.
-/
import Derived.Test.YtjbhmncpbhlmiaaCB
import Derived.Laws.BytesArg
import Derived.Laws.Concat
namespace Go.Proofs.Ytjbhmncpbhlmiaa
open Go.RowKit
set_option maxHeartbeats 1000000
/-- The digits of q 0, .., q (n - 1), as numbers. -/
def dg (q : Nat → Int) (n : Nat) : List Int := (List.range n).map fun k => 48 + q k
theorem dg_succ (q : Nat → Int) (n : Nat) : dg q (n + 1) = dg q n ++ [48 + q n] := by simp [dg, List.range_succ]
theorem dg_length (q : Nat → Int) (n : Nat) : (dg q n).length = n := by simp [dg]
theorem dg_at (q : Nat → Int) {n i : Nat} (h : i < n) : (dg q n).getD i 0 = 48 + q i := by simp [dg, List.getD, h]
theorem str_snoc (l : List Int) (x : Int) : strOfNums (l ++ [x]) = strOfNums l ++ strOfNums [x] := by
  apply ByteArray.ext
  simp [strOfNums, ByteArray.data_append]
theorem str_size (l : List Int) : (strOfNums l).size = l.length := by simp [strOfNums, ByteArray.size]
theorem l1Num_digit (x : Int) (w : World) (h0 : 0 ≤ x) (h9 : x ≤ 9) :
    Calls Try.prog 26 #[.int .i64 x] w fun e w' => e = .returned (.string (strOfNums [48 + x])) ∧ Below w.heap.size w w' := by
  have hc := run_convert_bytes_arg (P := Try.prog) (w.alloc (.cells #[.int .u8 (48 + x)] 5)) 47 5 Try.underlying47 Try.underlying5 w.heap.size 0 1 1 [48 + x] rfl (fun i hi => by
    have : i = 0 := by omega
    subst this
    simp [go_sem]) 9 Try.underlying9
  have hlt : x < 10 := by omega
  go_enter Try.func26, Try.ntmps26
  go_wp2
  go_ret
  exact ⟨rfl, by go_grown⟩
theorem byte_info : (Try.prog.info? 5).map (fun i => (i.zero, i.size, i.bytes)) = some (some (.int .u8 0), 1, 1) := by kernel_rfl
/-- What ColoursText answers. -/
def TextOut (q : Nat → Int) (n : Nat) (w : World) (e : Ending) (w' : World) : Prop :=
  e = .returned (.tuple #[.string (if (inB n 1 10 && allB n q 0 9) = true then strOfNums (dg q n) else ⟨#[]⟩), .bool (inB n 1 10 && allB n q 0 9)]) ∧ Below w.heap.size w w'
theorem TextOut.no {q : Nat → Int} {n : Nat} {w w' : World} (h : (inB n 1 10 && allB n q 0 9) = false) (hb : Below w.heap.size w w') : TextOut q n w (.returned (.tuple #[.string ⟨#[]⟩, .bool false])) w' := ⟨by rw [h]; rfl, hb⟩
theorem TextOut.yes {q : Nat → Int} {n : Nat} {w w' : World} {s : ByteArray} (h : (inB n 1 10 && allB n q 0 9) = true) (hs : s = strOfNums (dg q n)) (hb : Below w.heap.size w w') : TextOut q n w (.returned (.tuple #[.string s, .bool true])) w' := ⟨by rw [h, hs]; rfl, hb⟩
theorem textSpec_any (A : Option Addr) (n c : Nat) (q : Nat → Int) (w : World) (hn : n ≤ 1048576) (hs : Src w A n (iv q)) :
    Calls Try.prog 13 #[.slice A n c] w (TextOut q n w) := by
  have HS := hide hs
  clear hs
  cases h1 : inB n 1 10
  · go_enter Try.func13, Try.ntmps13
    go_wp2_with (go_at_call 24; refine (l1InG_any _ _ _ _).mono ?_; rintro e w' ⟨rfl, hw'⟩; subst w'; rw [h1])
    go_ret2
    exact TextOut.no (by rw [h1]; rfl) (by go_grown)
  · cases h2 : allB n q 0 9
    · go_enter Try.func13, Try.ntmps13
      go_wp2_with (first | (go_at_call 24; refine (l1InG_any _ _ _ _).mono ?_; rintro e w' ⟨rfl, hw'⟩; subst w'; rw [h1]) | (go_at_call 25; refine (l1All_any _ _ _ q _ _ _ hn HS.out).mono ?_; rintro e w2 ⟨rfl, hw2⟩; subst w2; rw [h2]))
      go_ret2
      exact TextOut.no (by rw [h1, h2]; rfl) (by go_grown)
    · have HQ : Hid (∀ k, k < n → 0 ≤ q k ∧ q k ≤ 9) := hide (by simpa [allB] using h2)
      have hn10 : n ≤ 10 := by simp [inB] at h1; omega
      go_enter Try.func13, Try.ntmps13
      go_wp2_with (first | (go_at_call 24; refine (l1InG_any _ _ _ _).mono ?_; rintro e w' ⟨rfl, hw'⟩; subst w'; rw [h1]) | (go_at_call 25; refine (l1All_any _ _ _ q _ _ _ hn HS.out).mono ?_; rintro e w2 ⟨rfl, hw2⟩; subst w2; rw [h2]))
      go_loopw [4, 18] (fun s i wr => ∃ (k : Nat) (T : ByteArray), k ≤ n ∧ i = .int .i64 k ∧ s = .string T ∧ T.size ≤ 10 ∧ Hid (T = strOfNums (dg q k)) ∧ Below w.heap.size w wr) (fun _ i _ => n - (intOf i).toNat)
      case atStart => exact ⟨0, ⟨#[]⟩, Nat.zero_le _, rfl, rfl, by decide, hide rfl, Below.refl _ _⟩
      case round =>
        obtain ⟨k, T, hk, rfl, rfl, hT, HT, hb⟩ := hrel
        have HB := hide hb
        have hz := hb.size
        clear hb
        by_cases hlt : k < n
        · obtain ⟨b, off, hA, hbl, hc0⟩ := (HS.out.below HB.out) k hlt
          have hc : wr.cell? ⟨b, off + k, none⟩ = some (.int .i64 (q k)) := hc0
          clear hc0
          subst hA
          obtain ⟨q0, q9⟩ := HQ.out k hlt
          have hsz : (strOfNums [48 + q k]).size = 1 := by rw [str_size]; rfl
          go_wp2_with (go_at_call 26; refine (l1Num_digit _ _ q0 q9).mono ?_; rintro e w3 ⟨rfl, hb3⟩)
          go_roundw
          case rel =>
            refine ⟨k + 1, T ++ strOfNums [48 + q k], by omega, by go_num, rfl, ?_, hide ?_, HB.out.trans (hb3.mono hz)⟩
            · have := HT.out
              rw [this, ← str_snoc, str_size, List.length_append, dg_length]
              simp; omega
            · rw [dg_succ, str_snoc, HT.out]
          case measure => simp [intOf]; omega
        · have hkn : k = n := by omega
          subst hkn
          go_wp2
          go_ret2
          exact TextOut.yes (by rw [h1, h2]; rfl) HT.out HB.out
theorem textImpl_any (A : Option Addr) (n c : Nat) (q : Nat → Int) (w : World) (hn : n ≤ 1048576) (hs : Src w A n (iv q)) :
    Calls Try.prog 14 #[.slice A n c] w (TextOut q n w) := by
  have HS := hide hs
  clear hs
  by_cases g1 : n < 1
  · have g1' : (n : Int) < 1 := by omega
    have h1 : inB n 1 10 = false := by simp [inB]; omega
    go_enter Try.func14, Try.ntmps14
    go_wp2
    go_ret2
    exact TextOut.no (by rw [h1]; rfl) (by go_grown)
  · have g1' : ¬ (n : Int) < 1 := by omega
    by_cases g2 : 10 < n
    · have g2' : (10 : Int) < n := by omega
      have h1 : inB n 1 10 = false := by simp [inB]; omega
      go_enter Try.func14, Try.ntmps14
      go_wp2
      go_ret2
      exact TextOut.no (by rw [h1]; rfl) (by go_grown)
    · have g2' : ¬ (10 : Int) < n := by omega
      have h1 : inB n 1 10 = true := by simp [inB]; omega
      have hn10 : n ≤ 10 := by omega
      cases h2 : allB n q 0 9
      · go_enter Try.func14, Try.ntmps14
        go_wp2_with (go_at_call 23; refine (areUpTo_any _ _ _ q _ _ hn HS.out).mono ?_; rintro e w2 ⟨rfl, hb2⟩; rw [h2])
        go_ret2
        exact TextOut.no (by rw [h1, h2]; rfl) hb2
      · have HQ : Hid (∀ k, k < n → 0 ≤ q k ∧ q k ≤ 9) := hide (by simpa [allB] using h2)
        have hmk := run_make_row' (P := Try.prog) 47 5 (.int .u8 0) 1 Try.underlying47 byte_info rfl .i64 .i64 n (by omega) (by omega)
        go_enter Try.func14, Try.ntmps14
        go_wp2_with fail
        refine (areUpTo_any _ _ _ q _ _ hn HS.out).mono ?_
        rintro e w2 ⟨rfl, hb2⟩
        rw [h2]
        have HB2 := hide hb2
        have hz2 := hb2.size
        clear hb2
        go_wp2
        go_loopw [25] (fun i wr => ∃ k : Nat, k ≤ n ∧ i = .int .i64 k ∧ Hid (Arr wr 5 w2.heap.size n (fun j => if j < k then .int .u8 (48 + q j) else .int .u8 0)) ∧ Below w.heap.size w wr) (fun i _ => n - (intOf i).toNat)
        case atStart => exact ⟨0, Nat.zero_le _, rfl, hide ((Arr.made w2 _ n 5).congr (fun k hk => by simp)), by have h := HB2.out; go_grown⟩
        case round =>
          obtain ⟨k, hk, rfl, HK, hb⟩ := hrel
          have HB := hide hb
          by_cases hlt : k < n
          · obtain ⟨b, off, hA, hbl, hc0⟩ := (HS.out.below hb) k hlt
            have hc : wr.cell? ⟨b, off + k, none⟩ = some (.int .i64 (q k)) := hc0
            clear hc0 hb
            subst hA
            obtain ⟨q0, q9⟩ := HQ.out k hlt
            have hck := HK.out.cell hlt
            have hfk := HK.out.frozen k
            have hl := HK.out.lt
            go_wp2
            go_roundw
            case rel =>
              refine ⟨k + 1, by omega, by go_num, hide ((HK.out.set k _).congr fun j hj => ?_), HB.out.setCell (by simpa using hz2) _⟩
              by_cases hjk : j = k
              · subst hjk; simp
              · simp only [hjk, if_false]
                by_cases h3 : j < k
                · rw [if_pos h3, if_pos (by omega)]
                · rw [if_neg h3, if_neg (by omega)]
            case measure => simp [intOf]; omega
          · have hkn : k = n := by omega
            subst hkn
            clear hb
            have hcv := run_convert_bytes_arg (P := Try.prog) wr 47 5 Try.underlying47 Try.underlying5 w2.heap.size 0 k k (dg q k) (dg_length q k) (fun i hi => by
              have := HK.out.cell hi
              rw [Nat.zero_add, this, dg_at q hi]
              simp [hi]) 9 Try.underlying9
            go_wp2
            go_ret2
            exact TextOut.yes (by rw [h1, h2]; rfl) rfl HB.out
end Go.Proofs.Ytjbhmncpbhlmiaa
