/- field.Neg of a number of the field (apart from FieldM, for cuts without Modulus). -/
import Derived.Test.YtocjeboicofflaaDoorFdA
namespace Go.Proofs.YtocjeboicofflaaDoor
open Go.RowKit

end Go.Proofs.YtocjeboicofflaaDoor
