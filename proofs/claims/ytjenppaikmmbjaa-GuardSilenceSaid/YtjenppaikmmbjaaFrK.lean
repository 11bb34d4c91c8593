/- The contract of the laws' own 'known' (matronlaw3). -/
import Derived.Test.YtjenppaikmmbjaaFrH
namespace Go.Proofs.Ytjenppaikmmbjaa
open Go.RowKit
open Fr (St F)

end Go.Proofs.Ytjenppaikmmbjaa
