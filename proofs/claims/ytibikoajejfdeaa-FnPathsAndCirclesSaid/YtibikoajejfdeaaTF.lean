import Derived.Test.YtibikoajejfdeaaTE
import Derived.Test.YtibikoajejfdeaaPC
namespace Go.Proofs.Ytibikoajejfdeaa.T
open Go.RowKit
set_option maxHeartbeats 1000000
end Go.Proofs.Ytibikoajejfdeaa.T
