/-
IsEvenEdges: what both models answer; and the size of a list of lists, from any room that is left.
-/
import Derived.Test.YtcpbbpgiicakcaaYE
import Derived.Test.YtcpbbpgiicakcaaGB
namespace Go.Proofs.Ytcpbbpgiicakcaa
open Go.RowKit
set_option maxHeartbeats 1000000
theorem szIntSS_gen (A : Option Addr) (n c : Nat) (Ai : Nat → Option Addr) (ln C : Nat → Nat) (R : Nat → Nat → Int) (w : World) (l : Int) (h0 : 0 ≤ l) (h1 : l ≤ 1048576) (hn : n ≤ 9223372036854775807) (hln : ∀ k, k < n → ln k ≤ 9223372036854775807) (hr : RD w A n Ai ln C R) :
    Calls Try.prog 38 #[.slice A n c, .int .i64 l] w fun e w' => ∃ r : Int, e = .returned (.int .i64 r) ∧ (-1 ≤ r ∧ r ≤ 1048576 ∧ (0 ≤ r → n ≤ 1048576 ∧ ∀ k, k < n → ln k ≤ 1048576)) ∧ w' = w := by
  have HR := hide hr
  have HL := hide hln
  clear hr hln
  by_cases h : l < n
  · go_enter Try.func38, Try.ntmps38
    go_wp2
    go_ret
    exact ⟨-1, rfl, by omega, rfl⟩
  · go_enter Try.func38, Try.ntmps38
    go_wp2
    go_loop [1, 5] (fun t i => ∃ k : Nat, ∃ L : Int, k ≤ n ∧ i = .int .i64 k ∧ t = .int .i64 L ∧ 0 ≤ L ∧ L ≤ 1048576 ∧ Hid (∀ j, j < k → ln j ≤ 1048576)) (fun _ i => n - (intOf i).toNat)
    case atStart => exact ⟨0, _, Nat.zero_le _, rfl, rfl, by omega, by omega, hide (fun j hj => absurd hj (by omega))⟩
    case round =>
      obtain ⟨k, L, hk, rfl, rfl, hL0, hL1, HK⟩ := hrel
      by_cases hlt : k < n
      · obtain ⟨b, off, hA, hbl, hc0, _⟩ := HR.out k hlt
        have hc : w.cell? ⟨b, off + k, none⟩ = some (.slice (Ai k) (ln k) (C k)) := hc0
        have hlk := HL.out k hlt
        clear hc0
        subst hA
        by_cases h2 : L < ln k
        · go_wp2_with (go_at_call 42; refine (szIntS_any _ _ _ _ _ hlk hL0 hL1).mono ?_; rintro e w' ⟨rfl, rfl⟩; simp only [h2, if_true])
          go_ret
          exact ⟨-1, rfl, by omega, rfl⟩
        · go_wp2_with (go_at_call 42; refine (szIntS_any _ _ _ _ _ hlk hL0 hL1).mono ?_; rintro e w' ⟨rfl, rfl⟩; simp only [h2, if_false])
          go_round
          case rel =>
            refine ⟨k + 1, L - ln k, by omega, by go_num, by go_num, by omega, by omega, hide fun j hj => ?_⟩
            by_cases hjk : j = k
            · subst hjk; omega
            · exact HK.out j (by omega)
          case measure => simp [intOf]; omega
      · go_wp2
        go_ret
        exact ⟨L, rfl, ⟨by omega, hL1, fun _ => ⟨by omega, fun j hj => HK.out j (by omega)⟩⟩, rfl⟩

theorem spEdges_bad (g n c m d : Nat) (F : Nat → Nat) (own : Bool) (E : Option Addr) (Ai : Nat → Option Addr) (ln C : Nat → Nat) (R : Nat → Nat → Int) (w : World) (hn1 : 1 ≤ n) (hn : n ≤ 16) (hgd : goodB n (nv F) = true) (hmd : m ≤ d)
    (ht : ¬ okT n F ln R m) (ha : Arr w 3 g n (iv (nv F))) (hr : RD w E m Ai ln C R) :
    Calls Try.prog 39 #[.agg #[.slice (some ⟨g, 0, none⟩) n c, .bool own], .slice E m d] w (Two w (.bool false) false) := by
  by_cases hm : m ≤ 200
  · refine (evSpec_ok g n c m d F own E Ai ln C R w hn1 hn hgd hm hmd ha hr).mono ?_
    rintro e w' ⟨hb, ⟨h, _⟩ | ⟨_, h⟩⟩
    · exact absurd ((okT_okS n F ln R m).2 h) ht
    · exact ⟨h, hb⟩
  · exact evSpec_big g n c m d (nv F) own E w (by omega) (by omega) hgd ha
theorem spEdges_ok (g n c m d : Nat) (F : Nat → Nat) (own : Bool) (E : Option Addr) (Ai : Nat → Option Addr) (ln C : Nat → Nat) (R : Nat → Nat → Int) (w : World) (bb : Bool) (hn1 : 1 ≤ n) (hn : n ≤ 16) (hgd : goodB n (nv F) = true) (hmd : m ≤ d)
    (ht : okT n F ln R m) (hb : (((paX R m : Nat) : Int) == 0) = bb) (ha : Arr w 3 g n (iv (nv F))) (hr : RD w E m Ai ln C R) :
    Calls Try.prog 39 #[.agg #[.slice (some ⟨g, 0, none⟩) n c, .bool own], .slice E m d] w (Two w (.bool bb) true) := by
  refine (evSpec_ok g n c m d F own E Ai ln C R w hn1 hn hgd (okT_short hn m ht) hmd ha hr).mono ?_
  rintro e w' ⟨hbw, ⟨_, h⟩ | ⟨h, _⟩⟩
  · exact ⟨by rw [h, hb], hbw⟩
  · exact absurd ((okT_okS n F ln R m).1 ht) h
theorem imEdges_bad (g n c m d : Nat) (F : Nat → Nat) (own : Bool) (E : Option Addr) (Ai : Nat → Option Addr) (ln C : Nat → Nat) (R : Nat → Nat → Int) (w : World) (hn : n ≤ 16) (hgd : goodB n (nv F) = true) (hm : m ≤ 1048576)
    (ht : ¬ okT n F ln R m) (ha : Arr w 3 g n (iv (nv F))) (hr : RD w E m Ai ln C R) :
    Calls Try.prog 41 #[.agg #[.slice (some ⟨g, 0, none⟩) n c, .bool own], .slice E m d] w (Two w (.bool false) false) := by
  refine (evEdges_ok g n c m d F own E Ai ln C R w hn hgd hm ha hr).mono ?_
  rintro e w' ⟨hb, ⟨h, _⟩ | ⟨_, h⟩⟩
  · exact absurd h ht
  · exact ⟨h, hb⟩
theorem imEdges_ok (g n c m d : Nat) (F : Nat → Nat) (own : Bool) (E : Option Addr) (Ai : Nat → Option Addr) (ln C : Nat → Nat) (R : Nat → Nat → Int) (w : World) (bb : Bool) (hn : n ≤ 16) (hgd : goodB n (nv F) = true) (hm : m ≤ 1048576)
    (ht : okT n F ln R m) (hb : (((paX R m : Nat) : Int) == 0) = bb) (ha : Arr w 3 g n (iv (nv F))) (hr : RD w E m Ai ln C R) :
    Calls Try.prog 41 #[.agg #[.slice (some ⟨g, 0, none⟩) n c, .bool own], .slice E m d] w (Two w (.bool bb) true) := by
  refine (evEdges_ok g n c m d F own E Ai ln C R w hn hgd hm ha hr).mono ?_
  rintro e w' ⟨hbw, ⟨_, h⟩ | ⟨h, _⟩⟩
  · exact ⟨by rw [h, odd_paX hn m ht, hb], hbw⟩
  · exact absurd ht h
end Go.Proofs.Ytcpbbpgiicakcaa
