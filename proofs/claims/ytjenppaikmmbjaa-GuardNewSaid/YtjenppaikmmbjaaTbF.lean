/- The contract of matronref4.Is. -/
import Derived.Test.YtjenppaikmmbjaaTbE
namespace Go.Proofs.Ytjenppaikmmbjaa
open Go.RowKit
open Tb (D T)

end Go.Proofs.Ytjenppaikmmbjaa
