/- A block of one's own that holds a number of four limbs and may be written. -/
import Derived.Test.YtcdiehnkknmbeaaDoorHold
namespace Go.Proofs.YtcdiehnkknmbeaaDoor
open Go.RowKit

def Own4 (w : World) (p n : Nat) : Prop := Num4 w p n ∧ (∀ j, j < 4 → w.frozen? ⟨p, j, none⟩ = false) ∧ p < w.heap.size
theorem Own4.new (W : World) (n : Nat) (t : TypeId) : Own4 (W.alloc (.cells #[.int .u64 (limb n 0 : Nat), .int .u64 (limb n 1 : Nat), .int .u64 (limb n 2 : Nat), .int .u64 (limb n 3 : Nat)] t)) W.heap.size n :=
  ⟨Num4.new W n t, fun j _ => by simp, by simp⟩
theorem Own4.new' {W : World} {n p : Nat} {t : TypeId} (h : p = W.heap.size) : Own4 (W.alloc (.cells #[.int .u64 (limb n 0 : Nat), .int .u64 (limb n 1 : Nat), .int .u64 (limb n 2 : Nat), .int .u64 (limb n 3 : Nat)] t)) p n := by
  subst h; exact Own4.new W n t
theorem Own4.call {W w1 : World} {p n : Nat} (h : Own4 W p n) (hb : Below W.heap.size W w1) : Own4 w1 p n :=
  ⟨h.1.call hb h.2.2, fun j hj => (hb.frozen (p := ⟨p, j, none⟩) h.2.2).trans (h.2.1 j hj), Nat.lt_of_lt_of_le h.2.2 hb.size⟩
theorem Own4.alloc {W : World} {p n : Nat} {o : Obj} (h : Own4 W p n) : Own4 (W.alloc o) p n := h.call ((Below.refl _ _).alloc (Nat.le_refl _) o)
theorem Own4.drew {W : World} {p n : Nat} (h : Own4 W p n) : Own4 W.drew p n := h
theorem Own4.drewN {W : World} {p n k : Nat} (h : Own4 W p n) : Own4 (W.drewN k) p n := h
theorem Own4.set {W : World} {p n : Nat} {a : Addr} {v : Value} (h : Own4 W p n) (hne : a.block ≠ p) : Own4 (W.setCell a v) p n :=
  ⟨h.1.set hne, fun j hj => by rw [World.frozen?_setCell]; exact h.2.1 j hj, by rw [World.size_setCell]; exact h.2.2⟩
theorem Own4.facts {w : World} {p n : Nat} (h : Own4 w p n) : (w.cell? ⟨p, 0, none⟩ = some (.int .u64 (limb n 0 : Nat)) ∧ w.cell? ⟨p, 1, none⟩ = some (.int .u64 (limb n 1 : Nat)) ∧ w.cell? ⟨p, 2, none⟩ = some (.int .u64 (limb n 2 : Nat)) ∧ w.cell? ⟨p, 3, none⟩ = some (.int .u64 (limb n 3 : Nat))) ∧
    (w.frozen? ⟨p, 0, none⟩ = false ∧ w.frozen? ⟨p, 1, none⟩ = false ∧ w.frozen? ⟨p, 2, none⟩ = false ∧ w.frozen? ⟨p, 3, none⟩ = false) ∧ p < w.heap.size :=
  ⟨h.1.facts, ⟨h.2.1 0 (by omega), h.2.1 1 (by omega), h.2.1 2 (by omega), h.2.1 3 (by omega)⟩, h.2.2⟩
theorem Own4.put {W : World} {p n k : Nat} (h : Own4 W p n) : Own4 ((((W.setCell ⟨p, 0, none⟩ (.int .u64 (limb k 0 : Nat))).setCell ⟨p, 1, none⟩ (.int .u64 (limb k 1 : Nat))).setCell ⟨p, 2, none⟩ (.int .u64 (limb k 2 : Nat))).setCell ⟨p, 3, none⟩ (.int .u64 (limb k 3 : Nat))) p k := by
  obtain ⟨⟨f0, f1, f2, f3⟩, _, _⟩ := h.facts
  refine ⟨?_, fun j hj => ?_, ?_⟩
  · refine limbs4 _ ?_ ?_ ?_ ?_ <;> simp [go_sem, f0, f1, f2, f3]
  · rw [World.frozen?_setCell, World.frozen?_setCell, World.frozen?_setCell, World.frozen?_setCell]; exact h.2.1 j hj
  · rw [World.size_setCell, World.size_setCell, World.size_setCell, World.size_setCell]; exact h.2.2
theorem Pend.own {W : World} {p k : Nat} (h : Pend W p) : Own4 ((((W.setCell ⟨p, 0, none⟩ (.int .u64 (limb k 0 : Nat))).setCell ⟨p, 1, none⟩ (.int .u64 (limb k 1 : Nat))).setCell ⟨p, 2, none⟩ (.int .u64 (limb k 2 : Nat))).setCell ⟨p, 3, none⟩ (.int .u64 (limb k 3 : Nat))) p k :=
  ⟨Num4.put h, fun j hj => by rw [World.frozen?_setCell, World.frozen?_setCell, World.frozen?_setCell, World.frozen?_setCell]; exact h.2.1 j hj, by rw [World.size_setCell, World.size_setCell, World.size_setCell, World.size_setCell]; exact h.2.2⟩
end Go.Proofs.YtcdiehnkknmbeaaDoor
