/- The contract of matronref4.Is. -/
import Derived.Test.YthigojakapgllaaTbE
namespace Go.Proofs.Ythigojakapgllaa
open Go.RowKit
open Tb (D T)

end Go.Proofs.Ythigojakapgllaa
