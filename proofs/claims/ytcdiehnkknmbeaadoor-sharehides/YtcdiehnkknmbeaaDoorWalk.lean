/- Numbers in blocks, kept over a law's calls. -/
import Derived.Test.YtcdiehnkknmbeaaDoorOwn
namespace Go.Proofs.YtcdiehnkknmbeaaDoor
open Go.RowKit

def NS (w : World) (b n : Nat) : Prop := Num4 w b n ∧ b < w.heap.size
theorem NS.call {W w1 : World} {b n : Nat} (h : NS W b n) (hb : Below W.heap.size W w1) : NS w1 b n := ⟨h.1.call hb h.2, Nat.lt_of_lt_of_le h.2 hb.size⟩
theorem NS.alloc {W : World} {b n : Nat} {o : Obj} (h : NS W b n) : NS (W.alloc o) b n := h.call ((Below.refl _ _).alloc (Nat.le_refl _) o)
theorem NS.acall {W w1 : World} {b n : Nat} {o : Obj} (h : NS W b n) (hb : Below (W.alloc o).heap.size (W.alloc o) w1) : NS w1 b n := h.alloc.call hb
theorem NS.new (W : World) (n : Nat) (t : TypeId) : NS (W.alloc (.cells #[.int .u64 (limb n 0 : Nat), .int .u64 (limb n 1 : Nat), .int .u64 (limb n 2 : Nat), .int .u64 (limb n 3 : Nat)] t)) W.heap.size n := ⟨Num4.new W n t, by simp⟩
theorem NS.ncall {W w1 : World} {n : Nat} {t : TypeId} (hb : Below (W.alloc (.cells #[.int .u64 (limb n 0 : Nat), .int .u64 (limb n 1 : Nat), .int .u64 (limb n 2 : Nat), .int .u64 (limb n 3 : Nat)] t)).heap.size (W.alloc (.cells #[.int .u64 (limb n 0 : Nat), .int .u64 (limb n 1 : Nat), .int .u64 (limb n 2 : Nat), .int .u64 (limb n 3 : Nat)] t)) w1) : NS w1 W.heap.size n := (NS.new W n t).call hb
theorem NS.facts {w : World} {b n : Nat} (h : NS w b n) : (w.cell? ⟨b, 0, none⟩ = some (.int .u64 (limb n 0 : Nat)) ∧ w.cell? ⟨b, 1, none⟩ = some (.int .u64 (limb n 1 : Nat)) ∧ w.cell? ⟨b, 2, none⟩ = some (.int .u64 (limb n 2 : Nat)) ∧ w.cell? ⟨b, 3, none⟩ = some (.int .u64 (limb n 3 : Nat))) ∧ b < w.heap.size := ⟨h.1.facts, h.2⟩
theorem below_acall {a W w1 : World} {o : Obj} (h : Below a.heap.size a W) (hb : Below (W.alloc o).heap.size (W.alloc o) w1) : Below a.heap.size a w1 := below_call0 (below_alloc0 h o) hb
end Go.Proofs.YtcdiehnkknmbeaaDoor
