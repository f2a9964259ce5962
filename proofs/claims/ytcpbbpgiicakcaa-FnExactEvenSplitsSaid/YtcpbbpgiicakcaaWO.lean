import Derived.Test.YtcpbbpgiicakcaaWN
namespace Go.Proofs.Ytcpbbpgiicakcaa
open Go.RowKit
theorem split_yes {n : Nat} {F : Nat → Nat} {d : Nat} (hF : ∀ j, j < n → F j < 2 ^ n) (hd : d < 2 ^ n) (hG : goodB n (nv F) = true) : solB (spT F d) n d = true := by
  obtain ⟨h1, h2⟩ := spT_sym hF hd hG
  exact (sys_all h1 h2).1
theorem evSplit_ok (g n c : Nat) (F : Nat → Nat) (own : Bool) (w : World) (hn : n ≤ 16) (hF : ∀ j, j < n → F j < 2 ^ n) (hgd : goodB n (nv F) = true) (ha : Arr w 3 g n (iv (nv F))) :
    Calls Try.prog 15 #[.agg #[.slice (some ⟨g, 0, none⟩) n c, .bool own]] w (Two w (.int .i64 (solV (spT F (oddN F n)) n (oddN F n) : Nat)) true) := by
  have h := evSplitB_ok g n c F own w hn hF hgd ha
  rwa [split_yes hF (oddN_lt F n hn) hgd] at h
theorem eoSplit_ok (g n c : Nat) (F : Nat → Nat) (own : Bool) (w : World) (hn : n ≤ 16) (hF : ∀ j, j < n → F j < 2 ^ n) (hgd : goodB n (nv F) = true) (ha : Arr w 3 g n (iv (nv F))) :
    Calls Try.prog 18 #[.agg #[.slice (some ⟨g, 0, none⟩) n c, .bool own]] w (Two w (.int .i64 (solV (spT F (evenN F n)) n (evenN F n) : Nat)) true) := by
  have h := eoSplitB_ok g n c F own w hn hF hgd ha
  rwa [split_yes hF (evenN_lt F n hn) hgd] at h
end Go.Proofs.Ytcpbbpgiicakcaa
