/- The reference's spread. -/
import Derived.Test.YtchphekaonnfeaaDoorMgE
import Derived.Test.YtchphekaonnfeaaDoorShaS
import Derived.Test.YtchphekaonnfeaaDoorMgK
import Derived.Laws.AppendOwn
import Derived.Laws.OwnMore
import Derived.Deep.AppendLies
namespace Go.Proofs.YtchphekaonnfeaaDoor
open Go.RowKit

/-- Ints in memory, n of them. -/
def IntsAt (w : World) (p o n : Nat) (f : Nat → Nat) : Prop := (∀ j, j < n → w.cell? ⟨p, o + j, none⟩ = some (.int .i64 (f j : Nat))) ∧ p < w.heap.size
theorem IntsAt.call {W w1 : World} {p o n : Nat} {f : Nat → Nat} (h : IntsAt W p o n f) (hb : Below W.heap.size W w1) : IntsAt w1 p o n f := ⟨fun j hj => (hb.cell (p := ⟨p, o + j, none⟩) h.2).trans (h.1 j hj), Nat.lt_of_lt_of_le h.2 hb.size⟩
def lenOf : Value → Nat | .slice _ n _ => n | _ => 0
end Go.Proofs.YtchphekaonnfeaaDoor
