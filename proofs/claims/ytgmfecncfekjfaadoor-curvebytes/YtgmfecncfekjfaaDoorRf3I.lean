/- The reference's Is, of a point of the group. -/
import Derived.Test.YtgmfecncfekjfaaDoorRf3B
namespace Go.Proofs.YtgmfecncfekjfaaDoor
open Go Go.RowKit Go.Lib

end Go.Proofs.YtgmfecncfekjfaaDoor
