/-
toggles: what a button toggles.
-/
import Derived.Test.YtmcimfblhpflnaaDoorTA
namespace Go.Proofs.YtmcimfblhpflnaaDoor
open Go.RowKit Go.BigFrame
set_option maxHeartbeats 4000000
def tgN (F : Nat → Nat) (own : Bool) (i : Nat) : Nat := if own then F i ||| 2 ^ i else F i
theorem toggles_any (g n c i : Nat) (F : Nat → Nat) (own : Bool) (w : World) (hi : i < n) (hn : n ≤ 16) (hF : F i < 65536) (kn : w.cell? ⟨g, i, none⟩ = some (.int .i64 (F i : Nat))) :
    Calls Tryd.prog 114 #[.agg #[.slice (some ⟨g, 0, none⟩) n c, .bool own], .int .i64 i] w fun e w' => e = .returned (.int .i64 (tgN F own i : Nat)) ∧ Below w.heap.size w w' := by
  have hin : (i : Int) < (n : Int) := by omega
  have hgl := World.block_lt_of_cell? w _ kn
  cases own
  · go_enter Tryd.func114, Tryd.ntmps114
    go_wp2
    go_ret
    exact ⟨rfl, by go_grown⟩
  · have e1 := or_wrap (F i) i hF (by omega)
    have e2 := wrap_pow (j := i) (by omega)
    have e3 := or_pow (F i) i hF (by omega)
    go_enter Tryd.func114, Tryd.ntmps114
    go_wp2_with fail
    go_quiet (fail)
    go_wp2
    go_ret
    exact ⟨by simp [tgN, e1, e2, e3], below_drewN (by go_grown) _⟩
end Go.Proofs.YtmcimfblhpflnaaDoor
