import Derived.Test.YtmcimfblhpflnaaD
import Derived.Test.YtmcimfblhpflnaaSB
import Derived.Test.YtmcimfblhpflnaaBD
import Derived.Test.YtmcimfblhpflnaaKC
namespace Go.Proofs.Ytmcimfblhpflnaa
open Go.RowKit
set_option maxHeartbeats 1000000
theorem rowToggles_any (c x : Nat) (own : Bool) (w : World) (hc : c ≤ 16) (hx : x < 2 ^ c) :
    Calls Try.prog 52 #[.int .i64 c, .bool own, .int .i64 x] w fun e w' => e = .returned (.int .i64 (rt c own x : Nat)) ∧ w = w' := by
  have h16 := pow16n hc
  cases own
  all_goals
    go_enter Try.func52, Try.ntmps52
    go_wp2
    go_ret
    refine ⟨ret_int ?_, rfl⟩
    first | exact csT_false c x hc hx | exact rowT_true c x hc hx
end Go.Proofs.Ytmcimfblhpflnaa
