/- Wide numbers in blocks, kept over a law's calls. -/
import Derived.Test.YtgmfecncfekjfaaDoorLbA
import Derived.Test.YtgmfecncfekjfaaDoorRef2T
namespace Go.Proofs.YtgmfecncfekjfaaDoor
open Go.RowKit

def WS (w : World) (b V : Nat) : Prop := (∀ j, j < 8 → w.cell? ⟨b, j, none⟩ = some (.int .u64 (limb V j : Nat))) ∧ b < w.heap.size
theorem WS.call {W w1 : World} {b V : Nat} (h : WS W b V) (hb : Below W.heap.size W w1) : WS w1 b V := ⟨fun j hj => (hb.cell (p := ⟨b, j, none⟩) h.2).trans (h.1 j hj), Nat.lt_of_lt_of_le h.2 hb.size⟩
theorem WS.alloc {W : World} {b V : Nat} {o : Obj} (h : WS W b V) : WS (W.alloc o) b V := h.call ((Below.refl _ _).alloc (Nat.le_refl _) o)
theorem WS.new (W : World) (V : Nat) (t : TypeId) : WS (W.alloc (.cells #[.int .u64 (limb V 0 : Nat), .int .u64 (limb V 1 : Nat), .int .u64 (limb V 2 : Nat), .int .u64 (limb V 3 : Nat), .int .u64 (limb V 4 : Nat), .int .u64 (limb V 5 : Nat), .int .u64 (limb V 6 : Nat), .int .u64 (limb V 7 : Nat)] t)) W.heap.size V :=
  ⟨eightR _ (by simp [go_sem]) (by simp [go_sem]) (by simp [go_sem]) (by simp [go_sem]) (by simp [go_sem]) (by simp [go_sem]) (by simp [go_sem]) (by simp [go_sem]), by simp⟩
theorem WS.facts {w : World} {b V : Nat} (h : WS w b V) : (w.cell? ⟨b, 0, none⟩ = some (.int .u64 (limb V 0 : Nat)) ∧ w.cell? ⟨b, 1, none⟩ = some (.int .u64 (limb V 1 : Nat)) ∧ w.cell? ⟨b, 2, none⟩ = some (.int .u64 (limb V 2 : Nat)) ∧ w.cell? ⟨b, 3, none⟩ = some (.int .u64 (limb V 3 : Nat)) ∧ w.cell? ⟨b, 4, none⟩ = some (.int .u64 (limb V 4 : Nat)) ∧ w.cell? ⟨b, 5, none⟩ = some (.int .u64 (limb V 5 : Nat)) ∧ w.cell? ⟨b, 6, none⟩ = some (.int .u64 (limb V 6 : Nat)) ∧ w.cell? ⟨b, 7, none⟩ = some (.int .u64 (limb V 7 : Nat))) ∧ b < w.heap.size :=
  ⟨⟨h.1 0 (by omega), h.1 1 (by omega), h.1 2 (by omega), h.1 3 (by omega), h.1 4 (by omega), h.1 5 (by omega), h.1 6 (by omega), h.1 7 (by omega)⟩, h.2⟩
end Go.Proofs.YtgmfecncfekjfaaDoor
