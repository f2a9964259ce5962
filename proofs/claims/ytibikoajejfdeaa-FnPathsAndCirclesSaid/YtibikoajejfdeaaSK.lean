import Derived.Test.YtibikoajejfdeaaSJ
import Derived.Deep.RegionHeld3
namespace Go.Proofs.Ytibikoajejfdeaa
open Go.RowKit
set_option maxHeartbeats 2000000
theorem addF_any (Bb : Nat) (A : Option Addr) (c n : Nat) (L : List Nat) (s : Nat) (w : World) (hL : M40 L) (hB : Bas L) (hs : s < 1099511627776) (hn : L.length = n) (hlen : n ≤ 64) (hbx : Blk w 27 Bb #[.slice A n c]) (hown : OL w (Bb + 1) (.slice A n c) L) :
    Calls Try.prog 53 #[.int .i64 s, .pointer (some ⟨Bb, 0, none⟩)] w (AddPost Bb w (add L s)) := by
  by_cases hz : lin L s = 0
  · rw [add, if_pos hz]; exact addF_zero Bb A c n L s w hL hB hs hn hlen hbx hown hz
  · rw [add, if_neg hz]; exact addF_put Bb A c n L s w hL hB hs hn hlen hbx hown hz
theorem OL.mono {w : World} {B B' : Nat} {v : Value} {L : List Nat} (h : OL w B v L) (hB : B' ≤ B) : OL w B' v L := by
  refine ⟨h.1, ?_⟩
  rcases h.2 with h | ⟨g, cap, cur, h1, h2, h3⟩
  · exact .inl h
  · exact .inr ⟨g, cap, cur, h1, by omega, h3⟩
end Go.Proofs.Ytibikoajejfdeaa
