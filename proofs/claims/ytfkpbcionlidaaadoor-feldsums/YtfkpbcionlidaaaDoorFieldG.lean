/- field.Neg of a number of the field (apart from FieldM, for cuts without Modulus). -/
import Derived.Test.YtfkpbcionlidaaaDoorFdA
namespace Go.Proofs.YtfkpbcionlidaaaDoor
open Go.RowKit

end Go.Proofs.YtfkpbcionlidaaaDoor
