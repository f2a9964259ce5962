import Derived.Test.YtggcjmdadomlaaaD
import Derived.Test.YtggcjmdadomlaaaSB
import Derived.Test.YtggcjmdadomlaaaBD
import Derived.Test.YtggcjmdadomlaaaKC
namespace Go.Proofs.Ytggcjmdadomlaaa
open Go.RowKit
set_option maxHeartbeats 1000000
theorem csToggles_any (c x : Nat) (own : Bool) (w : World) (hc : c ≤ 16) (hx : x < 2 ^ c) :
    Calls Try.prog 75 #[.int .i64 c, .bool own, .int .i64 x] w fun e w' => e = .returned (.int .i64 (rt c own x : Nat)) ∧ w = w' := by
  have h16 := pow16n hc
  cases own
  all_goals
    go_enter Try.func75, Try.ntmps75
    go_wp2
    go_ret
    refine ⟨ret_int ?_, rfl⟩
    first | exact csT_false c x hc hx | exact csT_true c x hc hx
theorem rowToggles_any (c x : Nat) (own : Bool) (w : World) (hc : c ≤ 16) (hx : x < 2 ^ c) :
    Calls Try.prog 80 #[.int .i64 c, .bool own, .int .i64 x] w fun e w' => e = .returned (.int .i64 (rt c own x : Nat)) ∧ w = w' := by
  have h16 := pow16n hc
  cases own
  all_goals
    go_enter Try.func80, Try.ntmps80
    go_wp2
    go_ret
    refine ⟨ret_int ?_, rfl⟩
    first | exact csT_false c x hc hx | exact rowT_true c x hc hx
end Go.Proofs.Ytggcjmdadomlaaa
