import Derived.Test.YtibikoajejfdeaaDoorTE
import Derived.Test.YtibikoajejfdeaaDoorPC
namespace Go.Proofs.YtibikoajejfdeaaDoor
open Go.RowKit
set_option maxHeartbeats 1000000
end Go.Proofs.YtibikoajejfdeaaDoor
