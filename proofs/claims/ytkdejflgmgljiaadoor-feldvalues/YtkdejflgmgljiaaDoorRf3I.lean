/- The reference's Is, of a point of the group. -/
import Derived.Test.YtkdejflgmgljiaaDoorRf3B
namespace Go.Proofs.YtkdejflgmgljiaaDoor
open Go Go.RowKit Go.Lib

end Go.Proofs.YtkdejflgmgljiaaDoor
