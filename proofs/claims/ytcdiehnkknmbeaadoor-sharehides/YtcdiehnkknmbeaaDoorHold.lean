/- A block that holds a number of four limbs, and what keeps it so. -/
import Derived.Test.YtcdiehnkknmbeaaDoorAdd
namespace Go.Proofs.YtcdiehnkknmbeaaDoor
open Go.RowKit

def Num4 (w : World) (b n : Nat) : Prop := ∀ j, j < 4 → w.cell? ⟨b, j, none⟩ = some (.int .u64 (limb n j : Nat))
theorem bcell3 {W w1 : World} (hb : Below W.heap.size W w1) : (∀ b o, b < W.heap.size → w1.cell? ⟨b, o, none⟩ = W.cell? ⟨b, o, none⟩) ∧ (∀ b o, b < W.heap.size → w1.frozen? ⟨b, o, none⟩ = W.frozen? ⟨b, o, none⟩) ∧ (∀ b, b < W.heap.size → b < w1.heap.size) :=
  ⟨fun b o h => hb.cell (p := ⟨b, o, none⟩) h, fun b o h => hb.frozen (p := ⟨b, o, none⟩) h, fun _ h => Nat.lt_of_lt_of_le h hb.size⟩
theorem Num4.call {W w1 : World} {b n : Nat} (h : Num4 W b n) (hb : Below W.heap.size W w1) (hlt : b < W.heap.size) : Num4 w1 b n := fun j hj => (hb.cell (p := ⟨b, j, none⟩) hlt).trans (h j hj)
theorem Num4.alloc {W : World} {b n : Nat} {o : Obj} (h : Num4 W b n) (hlt : b < W.heap.size) : Num4 (W.alloc o) b n := fun j hj => (World.cell?_alloc_lt W o ⟨b, j, none⟩ hlt).trans (h j hj)
theorem Num4.new (W : World) (n : Nat) (t : TypeId) : Num4 (W.alloc (.cells #[.int .u64 (limb n 0 : Nat), .int .u64 (limb n 1 : Nat), .int .u64 (limb n 2 : Nat), .int .u64 (limb n 3 : Nat)] t)) W.heap.size n := by
  refine limbs4 _ ?_ ?_ ?_ ?_ <;> simp [go_sem]
theorem Num4.new' {W : World} {n b : Nat} {t : TypeId} (h : b = W.heap.size) : Num4 (W.alloc (.cells #[.int .u64 (limb n 0 : Nat), .int .u64 (limb n 1 : Nat), .int .u64 (limb n 2 : Nat), .int .u64 (limb n 3 : Nat)] t)) b n := by
  subst h; exact Num4.new W n t
theorem Num4.set {W : World} {b n : Nat} {p : Addr} {v : Value} (h : Num4 W b n) (hne : p.block ≠ b) : Num4 (W.setCell p v) b n := fun j hj => by
  rw [World.cell?_setCell_other _ _ _ _ (by intro c; apply hne; rw [c])]
  exact h j hj
theorem Num4.drewN {W : World} {b n k : Nat} (h : Num4 W b n) : Num4 (W.drewN k) b n := fun j hj => h j hj
theorem Num4.drew {W : World} {b n : Nat} (h : Num4 W b n) : Num4 W.drew b n := fun j hj => h j hj
theorem Num4.facts {w : World} {b n : Nat} (h : Num4 w b n) : w.cell? ⟨b, 0, none⟩ = some (.int .u64 (limb n 0 : Nat)) ∧ w.cell? ⟨b, 1, none⟩ = some (.int .u64 (limb n 1 : Nat)) ∧ w.cell? ⟨b, 2, none⟩ = some (.int .u64 (limb n 2 : Nat)) ∧ w.cell? ⟨b, 3, none⟩ = some (.int .u64 (limb n 3 : Nat)) :=
  ⟨h 0 (by omega), h 1 (by omega), h 2 (by omega), h 3 (by omega)⟩
/-- A block of four limbs 0 that was made and is not written yet. -/
def Pend (w : World) (p : Nat) : Prop := (∀ j, j < 4 → w.cell? ⟨p, j, none⟩ = some (.int .u64 0)) ∧ (∀ j, j < 4 → w.frozen? ⟨p, j, none⟩ = false) ∧ p < w.heap.size
theorem Pend.new (W : World) (t : TypeId) : Pend (W.alloc (.cells #[.int .u64 0, .int .u64 0, .int .u64 0, .int .u64 0] t)) W.heap.size := by
  refine ⟨?_, ?_, by simp⟩
  · refine limbs4 _ ?_ ?_ ?_ ?_ <;> simp [go_sem]
  · intro j _
    simp
theorem Pend.call {W w1 : World} {p : Nat} (h : Pend W p) (hb : Below W.heap.size W w1) : Pend w1 p :=
  ⟨fun j hj => (hb.cell (p := ⟨p, j, none⟩) h.2.2).trans (h.1 j hj), fun j hj => (hb.frozen (p := ⟨p, j, none⟩) h.2.2).trans (h.2.1 j hj), Nat.lt_of_lt_of_le h.2.2 hb.size⟩
theorem Pend.call_new {W w1 : World} {t : TypeId} (hb : Below (W.alloc (.cells #[.int .u64 0, .int .u64 0, .int .u64 0, .int .u64 0] t)).heap.size (W.alloc (.cells #[.int .u64 0, .int .u64 0, .int .u64 0, .int .u64 0] t)) w1) : Pend w1 W.heap.size := Pend.call (Pend.new W t) hb
theorem Pend.call_drew {W w1 : World} {t : TypeId} (hb : Below (W.alloc (.cells #[.int .u64 0, .int .u64 0, .int .u64 0, .int .u64 0] t)).drew.heap.size (W.alloc (.cells #[.int .u64 0, .int .u64 0, .int .u64 0, .int .u64 0] t)).drew w1) : Pend w1 W.heap.size := Pend.call (W := (W.alloc (.cells #[.int .u64 0, .int .u64 0, .int .u64 0, .int .u64 0] t)).drew) (Pend.new W t) hb
theorem Pend.facts {w : World} {p : Nat} (h : Pend w p) : (w.cell? ⟨p, 0, none⟩ = some (.int .u64 0) ∧ w.cell? ⟨p, 1, none⟩ = some (.int .u64 0) ∧ w.cell? ⟨p, 2, none⟩ = some (.int .u64 0) ∧ w.cell? ⟨p, 3, none⟩ = some (.int .u64 0)) ∧
    (w.frozen? ⟨p, 0, none⟩ = false ∧ w.frozen? ⟨p, 1, none⟩ = false ∧ w.frozen? ⟨p, 2, none⟩ = false ∧ w.frozen? ⟨p, 3, none⟩ = false) ∧ p < w.heap.size :=
  ⟨⟨h.1 0 (by omega), h.1 1 (by omega), h.1 2 (by omega), h.1 3 (by omega)⟩, ⟨h.2.1 0 (by omega), h.2.1 1 (by omega), h.2.1 2 (by omega), h.2.1 3 (by omega)⟩, h.2.2⟩
/-- Four limbs stored, one behind the other. -/
theorem Num4.put {W : World} {p n : Nat} (h : Pend W p) : Num4 ((((W.setCell ⟨p, 0, none⟩ (.int .u64 (limb n 0 : Nat))).setCell ⟨p, 1, none⟩ (.int .u64 (limb n 1 : Nat))).setCell ⟨p, 2, none⟩ (.int .u64 (limb n 2 : Nat))).setCell ⟨p, 3, none⟩ (.int .u64 (limb n 3 : Nat))) p n := by
  obtain ⟨⟨f0, f1, f2, f3⟩, _, _⟩ := h.facts
  refine limbs4 _ ?_ ?_ ?_ ?_ <;> simp [go_sem, f0, f1, f2, f3]
theorem Pend.set {W : World} {p : Nat} {a : Addr} {v : Value} (h : Pend W p) (hne : a.block ≠ p) : Pend (W.setCell a v) p :=
  ⟨fun j hj => by rw [World.cell?_setCell_other _ _ _ _ (by intro c; apply hne; rw [c])]; exact h.1 j hj, fun j hj => by rw [World.frozen?_setCell]; exact h.2.1 j hj, by rw [World.size_setCell]; exact h.2.2⟩
theorem Pend.drew {W : World} {p : Nat} (h : Pend W p) : Pend W.drew p := h
theorem Pend.alloc {W : World} {p : Nat} {o : Obj} (h : Pend W p) : Pend (W.alloc o) p := h.call ((Below.refl _ _).alloc (Nat.le_refl _) o)
end Go.Proofs.YtcdiehnkknmbeaaDoor
