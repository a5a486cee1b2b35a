/- field.Field.Pow, at a number of the field. -/
import Derived.Test.YtgmfecncfekjfaaDoorFdB
namespace Go.Proofs.YtgmfecncfekjfaaDoor
open Go.RowKit

end Go.Proofs.YtgmfecncfekjfaaDoor
