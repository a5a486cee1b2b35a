/- A block that holds a number of four limbs, and what keeps it so. -/
import Derived.Test.YthggapcilljooabAdd
namespace Go.Proofs.Ythggapcilljooab
open Go.RowKit

def Num4 (w : World) (b n : Nat) : Prop := ∀ j, j < 4 → w.cell? ⟨b, j, none⟩ = some (.int .u64 (limb n j : Nat))
theorem Num4.call {W w1 : World} {b n : Nat} (h : Num4 W b n) (hb : Below W.heap.size W w1) (hlt : b < W.heap.size) : Num4 w1 b n := fun j hj => (hb.cell (p := ⟨b, j, none⟩) hlt).trans (h j hj)
theorem Num4.alloc {W : World} {b n : Nat} {o : Obj} (h : Num4 W b n) (hlt : b < W.heap.size) : Num4 (W.alloc o) b n := fun j hj => (World.cell?_alloc_lt W o ⟨b, j, none⟩ hlt).trans (h j hj)
theorem Num4.new (W : World) (n : Nat) (t : TypeId) : Num4 (W.alloc (.cells #[.int .u64 (limb n 0 : Nat), .int .u64 (limb n 1 : Nat), .int .u64 (limb n 2 : Nat), .int .u64 (limb n 3 : Nat)] t)) W.heap.size n := by
  refine limbs4 _ ?_ ?_ ?_ ?_ <;> simp [go_sem]
theorem Num4.new' {W : World} {n b : Nat} {t : TypeId} (h : b = W.heap.size) : Num4 (W.alloc (.cells #[.int .u64 (limb n 0 : Nat), .int .u64 (limb n 1 : Nat), .int .u64 (limb n 2 : Nat), .int .u64 (limb n 3 : Nat)] t)) b n := by
  subst h; exact Num4.new W n t
theorem Num4.set {W : World} {b n : Nat} {p : Addr} {v : Value} (h : Num4 W b n) (hne : p.block ≠ b) : Num4 (W.setCell p v) b n := fun j hj => by
  rw [World.cell?_setCell_other _ _ _ _ (by intro c; apply hne; rw [c])]
  exact h j hj
theorem Num4.drewN {W : World} {b n k : Nat} (h : Num4 W b n) : Num4 (W.drewN k) b n := fun j hj => h j hj
theorem Num4.facts {w : World} {b n : Nat} (h : Num4 w b n) : w.cell? ⟨b, 0, none⟩ = some (.int .u64 (limb n 0 : Nat)) ∧ w.cell? ⟨b, 1, none⟩ = some (.int .u64 (limb n 1 : Nat)) ∧ w.cell? ⟨b, 2, none⟩ = some (.int .u64 (limb n 2 : Nat)) ∧ w.cell? ⟨b, 3, none⟩ = some (.int .u64 (limb n 3 : Nat)) :=
  ⟨h 0 (by omega), h 1 (by omega), h 2 (by omega), h 3 (by omega)⟩
end Go.Proofs.Ythggapcilljooab
