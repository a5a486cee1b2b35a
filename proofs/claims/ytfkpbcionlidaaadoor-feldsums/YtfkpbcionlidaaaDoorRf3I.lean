/- The reference's Is, of a point of the group. -/
import Derived.Test.YtfkpbcionlidaaaDoorRf3B
namespace Go.Proofs.YtfkpbcionlidaaaDoor
open Go Go.RowKit Go.Lib

end Go.Proofs.YtfkpbcionlidaaaDoor
