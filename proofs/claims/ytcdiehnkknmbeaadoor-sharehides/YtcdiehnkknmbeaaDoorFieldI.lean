/- Field.Sqrt and Base: roots, refusals among it. -/
import Derived.Test.YtcdiehnkknmbeaaDoorFieldV
import Derived.Test.YtcdiehnkknmbeaaDoorSelO
namespace Go.Proofs.YtcdiehnkknmbeaaDoor
open Go.RowKit
attribute [local go_sem] run_eq4

def rootE : Nat := 28948022309329048855892746252171976963317496166410141009864396001977208667916
theorem rootE_lt : rootE < R256 := by decide
theorem keep4 {b n : Nat} {W w1 : World} (h : b < W.heap.size ∧ (W.cell? ⟨b, 0, none⟩ = some (.int .u64 (limb (n) 0 : Nat)) ∧ W.cell? ⟨b, 1, none⟩ = some (.int .u64 (limb (n) 1 : Nat)) ∧ W.cell? ⟨b, 2, none⟩ = some (.int .u64 (limb (n) 2 : Nat)) ∧ W.cell? ⟨b, 3, none⟩ = some (.int .u64 (limb (n) 3 : Nat)))) (hb : Below W.heap.size W w1) : b < w1.heap.size ∧ (w1.cell? ⟨b, 0, none⟩ = some (.int .u64 (limb (n) 0 : Nat)) ∧ w1.cell? ⟨b, 1, none⟩ = some (.int .u64 (limb (n) 1 : Nat)) ∧ w1.cell? ⟨b, 2, none⟩ = some (.int .u64 (limb (n) 2 : Nat)) ∧ w1.cell? ⟨b, 3, none⟩ = some (.int .u64 (limb (n) 3 : Nat))) :=
  ⟨Nat.lt_of_lt_of_le h.1 hb.size, (hb.cell (p := ⟨b, 0, none⟩) h.1).trans h.2.1, (hb.cell (p := ⟨b, 1, none⟩) h.1).trans h.2.2.1, (hb.cell (p := ⟨b, 2, none⟩) h.1).trans h.2.2.2.1, (hb.cell (p := ⟨b, 3, none⟩) h.1).trans h.2.2.2.2⟩
theorem set4 {b n : Nat} {W : World} {a : Addr} {v : Value} (hne : a.block ≠ b) (h : b < W.heap.size ∧ (W.cell? ⟨b, 0, none⟩ = some (.int .u64 (limb (n) 0 : Nat)) ∧ W.cell? ⟨b, 1, none⟩ = some (.int .u64 (limb (n) 1 : Nat)) ∧ W.cell? ⟨b, 2, none⟩ = some (.int .u64 (limb (n) 2 : Nat)) ∧ W.cell? ⟨b, 3, none⟩ = some (.int .u64 (limb (n) 3 : Nat)))) : b < (W.setCell a v).heap.size ∧ ((W.setCell a v).cell? ⟨b, 0, none⟩ = some (.int .u64 (limb (n) 0 : Nat)) ∧ (W.setCell a v).cell? ⟨b, 1, none⟩ = some (.int .u64 (limb (n) 1 : Nat)) ∧ (W.setCell a v).cell? ⟨b, 2, none⟩ = some (.int .u64 (limb (n) 2 : Nat)) ∧ (W.setCell a v).cell? ⟨b, 3, none⟩ = some (.int .u64 (limb (n) 3 : Nat))) := by
  have o : ∀ j, (W.setCell a v).cell? ⟨b, j, none⟩ = W.cell? ⟨b, j, none⟩ := fun j => World.cell?_setCell_other _ _ _ _ (by intro c; apply hne; rw [c])
  exact ⟨by rw [World.size_setCell]; exact h.1, (o 0).trans h.2.1, (o 1).trans h.2.2.1, (o 2).trans h.2.2.2.1, (o 3).trans h.2.2.2.2⟩
def evenR (m r : Nat) : Nat := if r % 2 = 1 then subM m 0 r else r
theorem evenR_odd (m r : Nat) (h : r % 2 = 1) : evenR m r = subM m 0 r := if_pos h
theorem evenR_even (m r : Nat) (h : r % 2 = 0) : evenR m r = r := if_neg (by omega)
end Go.Proofs.YtcdiehnkknmbeaaDoor
