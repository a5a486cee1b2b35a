/- field.Neg of a number of the field (apart from FieldM, for cuts without Modulus). -/
import Derived.Test.YtkdejflgmgljiaaDoorFdA
namespace Go.Proofs.YtkdejflgmgljiaaDoor
open Go.RowKit

end Go.Proofs.YtkdejflgmgljiaaDoor
