/- The contract of frame.Encode. -/
import Derived.Test.YtjenppaikmmbjaaFrF
import Derived.Deep.CutBlock
namespace Go.Proofs.Ytjenppaikmmbjaa
open Go.RowKit
open Fr (St F)

end Go.Proofs.Ytjenppaikmmbjaa
