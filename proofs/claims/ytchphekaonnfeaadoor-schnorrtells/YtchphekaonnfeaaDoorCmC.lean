/- Several texts laid together. -/
import Derived.Test.YtchphekaonnfeaaDoorCmB
namespace Go.Proofs.YtchphekaonnfeaaDoor
open Go Go.RowKit Go.Lib

structure PointO (w : World) (b x y : Nat) (i : Bool) : Prop where
 lt : b < w.heap.size
 c0 : w.cell? ⟨b, 0, none⟩ = some (.int .u64 (limb x 0 : Nat))
 c1 : w.cell? ⟨b, 1, none⟩ = some (.int .u64 (limb x 1 : Nat))
 c2 : w.cell? ⟨b, 2, none⟩ = some (.int .u64 (limb x 2 : Nat))
 c3 : w.cell? ⟨b, 3, none⟩ = some (.int .u64 (limb x 3 : Nat))
 c4 : w.cell? ⟨b, 4, none⟩ = some (.int .u64 (limb y 0 : Nat))
 c5 : w.cell? ⟨b, 5, none⟩ = some (.int .u64 (limb y 1 : Nat))
 c6 : w.cell? ⟨b, 6, none⟩ = some (.int .u64 (limb y 2 : Nat))
 c7 : w.cell? ⟨b, 7, none⟩ = some (.int .u64 (limb y 3 : Nat))
 c8 : w.cell? ⟨b, 8, none⟩ = some (.bool i)
 fz : ∀ o, w.frozen? ⟨b, o, none⟩ = false
structure PtZ (w : World) (b : Nat) : Prop where
 lt : b < w.heap.size
 c0 : w.cell? ⟨b, 0, none⟩ = some (.int .u64 0)
 c1 : w.cell? ⟨b, 1, none⟩ = some (.int .u64 0)
 c2 : w.cell? ⟨b, 2, none⟩ = some (.int .u64 0)
 c3 : w.cell? ⟨b, 3, none⟩ = some (.int .u64 0)
 c4 : w.cell? ⟨b, 4, none⟩ = some (.int .u64 0)
 c5 : w.cell? ⟨b, 5, none⟩ = some (.int .u64 0)
 c6 : w.cell? ⟨b, 6, none⟩ = some (.int .u64 0)
 c7 : w.cell? ⟨b, 7, none⟩ = some (.int .u64 0)
 c8 : w.cell? ⟨b, 8, none⟩ = some (.bool false)
 fz : ∀ o, w.frozen? ⟨b, o, none⟩ = false
structure SpZ (w : World) (b : Nat) : Prop where
 lt : b < w.heap.size
 c0 : w.cell? ⟨b, 0, none⟩ = some (.pointer none)
 c1 : w.cell? ⟨b, 1, none⟩ = some (.int .u64 0)
 c2 : w.cell? ⟨b, 2, none⟩ = some (.int .u64 0)
 c3 : w.cell? ⟨b, 3, none⟩ = some (.int .u64 0)
 c4 : w.cell? ⟨b, 4, none⟩ = some (.int .u64 0)
 c5 : w.cell? ⟨b, 5, none⟩ = some (.int .u64 0)
 c6 : w.cell? ⟨b, 6, none⟩ = some (.int .u64 0)
 c7 : w.cell? ⟨b, 7, none⟩ = some (.int .u64 0)
 c8 : w.cell? ⟨b, 8, none⟩ = some (.int .u64 0)
 c9 : w.cell? ⟨b, 9, none⟩ = some (.int .u64 0)
 c10 : w.cell? ⟨b, 10, none⟩ = some (.int .u64 0)
 c11 : w.cell? ⟨b, 11, none⟩ = some (.int .u64 0)
 c12 : w.cell? ⟨b, 12, none⟩ = some (.int .u64 0)
 fz : ∀ o, w.frozen? ⟨b, o, none⟩ = false
theorem PointO.call {w w' : World} {b : Nat} {x y : Nat} {i : Bool} (h : PointO w b x y i) (hb : Below w.heap.size w w') : PointO w' b x y i :=
 ⟨Nat.lt_of_lt_of_le h.lt hb.size, (hb.cell (p := ⟨b, 0, none⟩) h.lt).trans h.c0, (hb.cell (p := ⟨b, 1, none⟩) h.lt).trans h.c1, (hb.cell (p := ⟨b, 2, none⟩) h.lt).trans h.c2, (hb.cell (p := ⟨b, 3, none⟩) h.lt).trans h.c3, (hb.cell (p := ⟨b, 4, none⟩) h.lt).trans h.c4, (hb.cell (p := ⟨b, 5, none⟩) h.lt).trans h.c5, (hb.cell (p := ⟨b, 6, none⟩) h.lt).trans h.c6, (hb.cell (p := ⟨b, 7, none⟩) h.lt).trans h.c7, (hb.cell (p := ⟨b, 8, none⟩) h.lt).trans h.c8, fun o => (hb.frozen (p := ⟨b, o, none⟩) h.lt).trans (h.fz o)⟩
theorem PointO.alloc {w : World} {b : Nat} {x y : Nat} {i : Bool} {ob : Obj} (h : PointO w b x y i) : PointO (w.alloc ob) b x y i := h.call (below_alloc0 (Below.refl _ _) _)
theorem PtZ.call {w w' : World} {b : Nat} (h : PtZ w b ) (hb : Below w.heap.size w w') : PtZ w' b  :=
 ⟨Nat.lt_of_lt_of_le h.lt hb.size, (hb.cell (p := ⟨b, 0, none⟩) h.lt).trans h.c0, (hb.cell (p := ⟨b, 1, none⟩) h.lt).trans h.c1, (hb.cell (p := ⟨b, 2, none⟩) h.lt).trans h.c2, (hb.cell (p := ⟨b, 3, none⟩) h.lt).trans h.c3, (hb.cell (p := ⟨b, 4, none⟩) h.lt).trans h.c4, (hb.cell (p := ⟨b, 5, none⟩) h.lt).trans h.c5, (hb.cell (p := ⟨b, 6, none⟩) h.lt).trans h.c6, (hb.cell (p := ⟨b, 7, none⟩) h.lt).trans h.c7, (hb.cell (p := ⟨b, 8, none⟩) h.lt).trans h.c8, fun o => (hb.frozen (p := ⟨b, o, none⟩) h.lt).trans (h.fz o)⟩
theorem PtZ.alloc {w : World} {b : Nat} {ob : Obj} (h : PtZ w b ) : PtZ (w.alloc ob) b  := h.call (below_alloc0 (Below.refl _ _) _)
theorem SpZ.call {w w' : World} {b : Nat} (h : SpZ w b ) (hb : Below w.heap.size w w') : SpZ w' b  :=
 ⟨Nat.lt_of_lt_of_le h.lt hb.size, (hb.cell (p := ⟨b, 0, none⟩) h.lt).trans h.c0, (hb.cell (p := ⟨b, 1, none⟩) h.lt).trans h.c1, (hb.cell (p := ⟨b, 2, none⟩) h.lt).trans h.c2, (hb.cell (p := ⟨b, 3, none⟩) h.lt).trans h.c3, (hb.cell (p := ⟨b, 4, none⟩) h.lt).trans h.c4, (hb.cell (p := ⟨b, 5, none⟩) h.lt).trans h.c5, (hb.cell (p := ⟨b, 6, none⟩) h.lt).trans h.c6, (hb.cell (p := ⟨b, 7, none⟩) h.lt).trans h.c7, (hb.cell (p := ⟨b, 8, none⟩) h.lt).trans h.c8, (hb.cell (p := ⟨b, 9, none⟩) h.lt).trans h.c9, (hb.cell (p := ⟨b, 10, none⟩) h.lt).trans h.c10, (hb.cell (p := ⟨b, 11, none⟩) h.lt).trans h.c11, (hb.cell (p := ⟨b, 12, none⟩) h.lt).trans h.c12, fun o => (hb.frozen (p := ⟨b, o, none⟩) h.lt).trans (h.fz o)⟩
theorem SpZ.alloc {w : World} {b : Nat} {ob : Obj} (h : SpZ w b ) : SpZ (w.alloc ob) b  := h.call (below_alloc0 (Below.refl _ _) _)
theorem PointO.new (w : World) (x y : Nat) (i : Bool) {b : Nat} {t : TypeId} (h : b = w.heap.size) : PointO (w.alloc (.cells #[.int .u64 (limb x 0 : Nat), .int .u64 (limb x 1 : Nat), .int .u64 (limb x 2 : Nat), .int .u64 (limb x 3 : Nat), .int .u64 (limb y 0 : Nat), .int .u64 (limb y 1 : Nat), .int .u64 (limb y 2 : Nat), .int .u64 (limb y 3 : Nat), .bool i] t)) b x y i := by
 subst h
 exact ⟨by simp, by rw [World.cell?_alloc_new]; rfl, by rw [World.cell?_alloc_new]; rfl, by rw [World.cell?_alloc_new]; rfl, by rw [World.cell?_alloc_new]; rfl, by rw [World.cell?_alloc_new]; rfl, by rw [World.cell?_alloc_new]; rfl, by rw [World.cell?_alloc_new]; rfl, by rw [World.cell?_alloc_new]; rfl, by rw [World.cell?_alloc_new]; rfl, fun o => World.frozen?_alloc_new _ _ _ _⟩
theorem PtZ.new (w : World) {b : Nat} {t : TypeId} (h : b = w.heap.size) : PtZ (w.alloc (.cells #[.int .u64 0, .int .u64 0, .int .u64 0, .int .u64 0, .int .u64 0, .int .u64 0, .int .u64 0, .int .u64 0, .bool false] t)) b := by
 subst h
 exact ⟨by simp, by rw [World.cell?_alloc_new]; rfl, by rw [World.cell?_alloc_new]; rfl, by rw [World.cell?_alloc_new]; rfl, by rw [World.cell?_alloc_new]; rfl, by rw [World.cell?_alloc_new]; rfl, by rw [World.cell?_alloc_new]; rfl, by rw [World.cell?_alloc_new]; rfl, by rw [World.cell?_alloc_new]; rfl, by rw [World.cell?_alloc_new]; rfl, fun o => World.frozen?_alloc_new _ _ _ _⟩
theorem SpZ.new (w : World) {b : Nat} {t : TypeId} (h : b = w.heap.size) : SpZ (w.alloc (.cells #[.pointer none, .int .u64 0, .int .u64 0, .int .u64 0, .int .u64 0, .int .u64 0, .int .u64 0, .int .u64 0, .int .u64 0, .int .u64 0, .int .u64 0, .int .u64 0, .int .u64 0] t)) b := by
 subst h
 exact ⟨by simp, by rw [World.cell?_alloc_new]; rfl, by rw [World.cell?_alloc_new]; rfl, by rw [World.cell?_alloc_new]; rfl, by rw [World.cell?_alloc_new]; rfl, by rw [World.cell?_alloc_new]; rfl, by rw [World.cell?_alloc_new]; rfl, by rw [World.cell?_alloc_new]; rfl, by rw [World.cell?_alloc_new]; rfl, by rw [World.cell?_alloc_new]; rfl, by rw [World.cell?_alloc_new]; rfl, by rw [World.cell?_alloc_new]; rfl, by rw [World.cell?_alloc_new]; rfl, by rw [World.cell?_alloc_new]; rfl, fun o => World.frozen?_alloc_new _ _ _ _⟩
theorem PtZ.put {w : World} {b x y : Nat} {i : Bool} (h : PtZ w b) : PointO (((((((((w.setCell ⟨b, 0, none⟩ (.int .u64 (limb x 0 : Nat))).setCell ⟨b, 1, none⟩ (.int .u64 (limb x 1 : Nat))).setCell ⟨b, 2, none⟩ (.int .u64 (limb x 2 : Nat))).setCell ⟨b, 3, none⟩ (.int .u64 (limb x 3 : Nat))).setCell ⟨b, 4, none⟩ (.int .u64 (limb y 0 : Nat))).setCell ⟨b, 5, none⟩ (.int .u64 (limb y 1 : Nat))).setCell ⟨b, 6, none⟩ (.int .u64 (limb y 2 : Nat))).setCell ⟨b, 7, none⟩ (.int .u64 (limb y 3 : Nat))).setCell ⟨b, 8, none⟩ (.bool i)) b x y i :=
 ⟨by simp only [World.size_setCell]; exact h.lt, ((cell_offS (by decide)).trans ((cell_offS (by decide)).trans ((cell_offS (by decide)).trans ((cell_offS (by decide)).trans ((cell_offS (by decide)).trans ((cell_offS (by decide)).trans ((cell_offS (by decide)).trans ((cell_offS (by decide)).trans (World.cell?_setCell_same _ _ _ h.c0))))))))), ((cell_offS (by decide)).trans ((cell_offS (by decide)).trans ((cell_offS (by decide)).trans ((cell_offS (by decide)).trans ((cell_offS (by decide)).trans ((cell_offS (by decide)).trans ((cell_offS (by decide)).trans (World.cell?_setCell_same _ _ _ ((cell_offS (by decide)).trans h.c1))))))))), ((cell_offS (by decide)).trans ((cell_offS (by decide)).trans ((cell_offS (by decide)).trans ((cell_offS (by decide)).trans ((cell_offS (by decide)).trans ((cell_offS (by decide)).trans (World.cell?_setCell_same _ _ _ ((cell_offS (by decide)).trans ((cell_offS (by decide)).trans h.c2))))))))), ((cell_offS (by decide)).trans ((cell_offS (by decide)).trans ((cell_offS (by decide)).trans ((cell_offS (by decide)).trans ((cell_offS (by decide)).trans (World.cell?_setCell_same _ _ _ ((cell_offS (by decide)).trans ((cell_offS (by decide)).trans ((cell_offS (by decide)).trans h.c3))))))))), ((cell_offS (by decide)).trans ((cell_offS (by decide)).trans ((cell_offS (by decide)).trans ((cell_offS (by decide)).trans (World.cell?_setCell_same _ _ _ ((cell_offS (by decide)).trans ((cell_offS (by decide)).trans ((cell_offS (by decide)).trans ((cell_offS (by decide)).trans h.c4))))))))), ((cell_offS (by decide)).trans ((cell_offS (by decide)).trans ((cell_offS (by decide)).trans (World.cell?_setCell_same _ _ _ ((cell_offS (by decide)).trans ((cell_offS (by decide)).trans ((cell_offS (by decide)).trans ((cell_offS (by decide)).trans ((cell_offS (by decide)).trans h.c5))))))))), ((cell_offS (by decide)).trans ((cell_offS (by decide)).trans (World.cell?_setCell_same _ _ _ ((cell_offS (by decide)).trans ((cell_offS (by decide)).trans ((cell_offS (by decide)).trans ((cell_offS (by decide)).trans ((cell_offS (by decide)).trans ((cell_offS (by decide)).trans h.c6))))))))), ((cell_offS (by decide)).trans (World.cell?_setCell_same _ _ _ ((cell_offS (by decide)).trans ((cell_offS (by decide)).trans ((cell_offS (by decide)).trans ((cell_offS (by decide)).trans ((cell_offS (by decide)).trans ((cell_offS (by decide)).trans ((cell_offS (by decide)).trans h.c7))))))))), (World.cell?_setCell_same _ _ _ ((cell_offS (by decide)).trans ((cell_offS (by decide)).trans ((cell_offS (by decide)).trans ((cell_offS (by decide)).trans ((cell_offS (by decide)).trans ((cell_offS (by decide)).trans ((cell_offS (by decide)).trans ((cell_offS (by decide)).trans h.c8))))))))), fun o => by simp only [World.frozen?_setCell]; exact h.fz o⟩
theorem PointO.sety {w : World} {b x y v : Nat} {i : Bool} (h : PointO w b x y i) : PointO ((((w.setCell ⟨b, 4, none⟩ (.int .u64 (limb v 0 : Nat))).setCell ⟨b, 5, none⟩ (.int .u64 (limb v 1 : Nat))).setCell ⟨b, 6, none⟩ (.int .u64 (limb v 2 : Nat))).setCell ⟨b, 7, none⟩ (.int .u64 (limb v 3 : Nat))) b x v i :=
 ⟨by simp only [World.size_setCell]; exact h.lt, ((cell_offS (by decide)).trans ((cell_offS (by decide)).trans ((cell_offS (by decide)).trans ((cell_offS (by decide)).trans h.c0)))), ((cell_offS (by decide)).trans ((cell_offS (by decide)).trans ((cell_offS (by decide)).trans ((cell_offS (by decide)).trans h.c1)))), ((cell_offS (by decide)).trans ((cell_offS (by decide)).trans ((cell_offS (by decide)).trans ((cell_offS (by decide)).trans h.c2)))), ((cell_offS (by decide)).trans ((cell_offS (by decide)).trans ((cell_offS (by decide)).trans ((cell_offS (by decide)).trans h.c3)))), ((cell_offS (by decide)).trans ((cell_offS (by decide)).trans ((cell_offS (by decide)).trans (World.cell?_setCell_same _ _ _ h.c4)))), ((cell_offS (by decide)).trans ((cell_offS (by decide)).trans (World.cell?_setCell_same _ _ _ ((cell_offS (by decide)).trans h.c5)))), ((cell_offS (by decide)).trans (World.cell?_setCell_same _ _ _ ((cell_offS (by decide)).trans ((cell_offS (by decide)).trans h.c6)))), (World.cell?_setCell_same _ _ _ ((cell_offS (by decide)).trans ((cell_offS (by decide)).trans ((cell_offS (by decide)).trans h.c7)))), ((cell_offS (by decide)).trans ((cell_offS (by decide)).trans ((cell_offS (by decide)).trans ((cell_offS (by decide)).trans h.c8)))), fun o => by simp only [World.frozen?_setCell]; exact h.fz o⟩
theorem PtZ.set {w : World} {b : Nat} {a : Addr} {v : Value} (h : PtZ w b) (hne : a.block ≠ b) : PtZ (w.setCell a v) b :=
 ⟨by rw [World.size_setCell]; exact h.lt, (World.cell?_setCell_other _ _ _ _ (by intro k; exact hne (congrArg Addr.block k))).trans h.c0, (World.cell?_setCell_other _ _ _ _ (by intro k; exact hne (congrArg Addr.block k))).trans h.c1, (World.cell?_setCell_other _ _ _ _ (by intro k; exact hne (congrArg Addr.block k))).trans h.c2, (World.cell?_setCell_other _ _ _ _ (by intro k; exact hne (congrArg Addr.block k))).trans h.c3, (World.cell?_setCell_other _ _ _ _ (by intro k; exact hne (congrArg Addr.block k))).trans h.c4, (World.cell?_setCell_other _ _ _ _ (by intro k; exact hne (congrArg Addr.block k))).trans h.c5, (World.cell?_setCell_other _ _ _ _ (by intro k; exact hne (congrArg Addr.block k))).trans h.c6, (World.cell?_setCell_other _ _ _ _ (by intro k; exact hne (congrArg Addr.block k))).trans h.c7, (World.cell?_setCell_other _ _ _ _ (by intro k; exact hne (congrArg Addr.block k))).trans h.c8, fun o => by rw [World.frozen?_setCell]; exact h.fz o⟩
theorem below_put9 {B b : Nat} {a w : World} {x y : Nat} {i : Bool} (h : Below B a w) (hs : B ≤ b) : Below B a (((((((((w.setCell ⟨b, 0, none⟩ (.int .u64 (limb x 0 : Nat))).setCell ⟨b, 1, none⟩ (.int .u64 (limb x 1 : Nat))).setCell ⟨b, 2, none⟩ (.int .u64 (limb x 2 : Nat))).setCell ⟨b, 3, none⟩ (.int .u64 (limb x 3 : Nat))).setCell ⟨b, 4, none⟩ (.int .u64 (limb y 0 : Nat))).setCell ⟨b, 5, none⟩ (.int .u64 (limb y 1 : Nat))).setCell ⟨b, 6, none⟩ (.int .u64 (limb y 2 : Nat))).setCell ⟨b, 7, none⟩ (.int .u64 (limb y 3 : Nat))).setCell ⟨b, 8, none⟩ (.bool i)) := (Below.setCell (p := ⟨b, 8, none⟩) (Below.setCell (p := ⟨b, 7, none⟩) (Below.setCell (p := ⟨b, 6, none⟩) (Below.setCell (p := ⟨b, 5, none⟩) (Below.setCell (p := ⟨b, 4, none⟩) (Below.setCell (p := ⟨b, 3, none⟩) (Below.setCell (p := ⟨b, 2, none⟩) (Below.setCell (p := ⟨b, 1, none⟩) (Below.setCell (p := ⟨b, 0, none⟩) h hs _) hs _) hs _) hs _) hs _) hs _) hs _) hs _) hs _)
theorem PointO.pt {w : World} {b x y : Nat} {i : Bool} (h : PointO w b x y i) : PointB w b 0 x y i := ⟨h.lt, h.c0, h.c1, h.c2, h.c3, h.c4, h.c5, h.c6, h.c7, h.c8⟩
set_option maxRecDepth 100000 in
set_option maxHeartbeats 2000000 in
theorem pneg_any (g x y : Nat) (i : Bool) (hy : y < PP) (w : World) (hM : FieldB w g PP) :
  Calls Tryd.prog 64 #[.agg #[.pointer (some ⟨g, 0, none⟩)], .agg #[.int .u64 (limb (x) 0 : Nat), .int .u64 (limb (x) 1 : Nat), .int .u64 (limb (x) 2 : Nat), .int .u64 (limb (x) 3 : Nat), .int .u64 (limb (y) 0 : Nat), .int .u64 (limb (y) 1 : Nat), .int .u64 (limb (y) 2 : Nat), .int .u64 (limb (y) 3 : Nat), .bool i]] w fun e w' => e = .returned (.agg #[.int .u64 (limb (x) 0 : Nat), .int .u64 (limb (x) 1 : Nat), .int .u64 (limb (x) 2 : Nat), .int .u64 (limb (x) 3 : Nat), .int .u64 (limb (sM 0 y) 0 : Nat), .int .u64 (limb (sM 0 y) 1 : Nat), .int .u64 (limb (sM 0 y) 2 : Nat), .int .u64 (limb (sM 0 y) 3 : Nat), .bool i]) ∧ Below w.heap.size w w' := by
 obtain ⟨a, ea⟩ : ∃ a, a = sM 0 y := ⟨_, rfl⟩
 have K1 : Hid (∀ w, FieldB w g PP → Calls Tryd.prog 66 #[.agg #[.pointer (some ⟨g, 0, none⟩)], .agg #[.int .u64 0, .int .u64 0, .int .u64 0, .int .u64 0], .agg #[.int .u64 (limb (y) 0 : Nat), .int .u64 (limb (y) 1 : Nat), .int .u64 (limb (y) 2 : Nat), .int .u64 (limb (y) 3 : Nat)]] w fun e w' => e = .returned (.agg #[.int .u64 (limb (a) 0 : Nat), .int .u64 (limb (a) 1 : Nat), .int .u64 (limb (a) 2 : Nat), .int .u64 (limb (a) 3 : Nat)]) ∧ Below w.heap.size w w') := fun w h => by have k := pminus_any g 0 y PPpos hy w h; rw [← ea, lit0.1, lit0.2.1, lit0.2.2.1, lit0.2.2.2] at k; exact k
 rw [← ea]
 have HM : Hid (FieldB w g PP) := hM
 clear hM ea hy
 have H0 : Hid (FieldB (((w.alloc (.cells #[.pointer (some ⟨g, 0, none⟩)] 91)).alloc (.cells #[.int .u64 (limb x 0 : Nat), .int .u64 (limb x 1 : Nat), .int .u64 (limb x 2 : Nat), .int .u64 (limb x 3 : Nat), .int .u64 (limb y 0 : Nat), .int .u64 (limb y 1 : Nat), .int .u64 (limb y 2 : Nat), .int .u64 (limb y 3 : Nat), .bool i] 28)).alloc (.cells #[.int .u64 0, .int .u64 0, .int .u64 0, .int .u64 0, .int .u64 0, .int .u64 0, .int .u64 0, .int .u64 0, .bool false] 28)) g PP ∧ PointO (((w.alloc (.cells #[.pointer (some ⟨g, 0, none⟩)] 91)).alloc (.cells #[.int .u64 (limb x 0 : Nat), .int .u64 (limb x 1 : Nat), .int .u64 (limb x 2 : Nat), .int .u64 (limb x 3 : Nat), .int .u64 (limb y 0 : Nat), .int .u64 (limb y 1 : Nat), .int .u64 (limb y 2 : Nat), .int .u64 (limb y 3 : Nat), .bool i] 28)).alloc (.cells #[.int .u64 0, .int .u64 0, .int .u64 0, .int .u64 0, .int .u64 0, .int .u64 0, .int .u64 0, .int .u64 0, .bool false] 28)) (w.heap.size + 1) x y i ∧ PtZ (((w.alloc (.cells #[.pointer (some ⟨g, 0, none⟩)] 91)).alloc (.cells #[.int .u64 (limb x 0 : Nat), .int .u64 (limb x 1 : Nat), .int .u64 (limb x 2 : Nat), .int .u64 (limb x 3 : Nat), .int .u64 (limb y 0 : Nat), .int .u64 (limb y 1 : Nat), .int .u64 (limb y 2 : Nat), .int .u64 (limb y 3 : Nat), .bool i] 28)).alloc (.cells #[.int .u64 0, .int .u64 0, .int .u64 0, .int .u64 0, .int .u64 0, .int .u64 0, .int .u64 0, .int .u64 0, .bool false] 28)) (w.heap.size + 1 + 1) ∧ Below w.heap.size w (((w.alloc (.cells #[.pointer (some ⟨g, 0, none⟩)] 91)).alloc (.cells #[.int .u64 (limb x 0 : Nat), .int .u64 (limb x 1 : Nat), .int .u64 (limb x 2 : Nat), .int .u64 (limb x 3 : Nat), .int .u64 (limb y 0 : Nat), .int .u64 (limb y 1 : Nat), .int .u64 (limb y 2 : Nat), .int .u64 (limb y 3 : Nat), .bool i] 28)).alloc (.cells #[.int .u64 0, .int .u64 0, .int .u64 0, .int .u64 0, .int .u64 0, .int .u64 0, .int .u64 0, .int .u64 0, .bool false] 28))) :=
  ⟨HM.out.alloc.alloc.alloc, (PointO.new _ _ _ _ (by simp)).alloc, PtZ.new _ (by simp), below_alloc0 (below_alloc0 (below_alloc0 (Below.refl _ _) _) _) _⟩
 clear HM
 go_enter Tryd.func64, Tryd.ntmps64
 go_wp2_with fail
 refine (K1.out _ H0.out.1).mono ?_
 rintro e w1 ⟨rfl, hb1⟩
 have H1 : Hid (Below w.heap.size w w1 ∧ PointO w1 (w.heap.size + 1) x y i ∧ PtZ w1 (w.heap.size + 1 + 1)) := ⟨below_call0 H0.out.2.2.2 hb1, H0.out.2.1.call hb1, H0.out.2.2.1.call hb1⟩
 clear hb1 H0 K1
 obtain ⟨pz, p0, p1, p2, p3, p4, p5, p6, p7, p8, fp⟩ := H1.out.2.1
 go_upto_region 2 with fail
 clear pz p0 p1 p2 p3 p4 p5 p6 p7 p8 fp
 obtain ⟨w2, hw2⟩ : ∃ z, z = ((((w1.setCell ⟨(w.heap.size + 1), 4, none⟩ (.int .u64 (limb a 0 : Nat))).setCell ⟨(w.heap.size + 1), 5, none⟩ (.int .u64 (limb a 1 : Nat))).setCell ⟨(w.heap.size + 1), 6, none⟩ (.int .u64 (limb a 2 : Nat))).setCell ⟨(w.heap.size + 1), 7, none⟩ (.int .u64 (limb a 3 : Nat))) := ⟨_, rfl⟩
 rw [← hw2]
 have H2 : Hid (Below w.heap.size w w2 ∧ PointO w2 (w.heap.size + 1) x a i ∧ PtZ w2 (w.heap.size + 1 + 1)) := by
  rw [hw2]
  refine ⟨below_put4 (b := 4) H1.out.1 (Nat.le_succ _), H1.out.2.1.sety, ?_⟩
  exact (((H1.out.2.2.set (Nat.ne_of_lt (Nat.lt_succ_self _))).set (Nat.ne_of_lt (Nat.lt_succ_self _))).set (Nat.ne_of_lt (Nat.lt_succ_self _))).set (Nat.ne_of_lt (Nat.lt_succ_self _))
 clear hw2 H1
 obtain ⟨pz, p0, p1, p2, p3, p4, p5, p6, p7, p8, fp⟩ := H2.out.2.1
 obtain ⟨rz, r0, r1, r2, r3, r4, r5, r6, r7, r8, fr⟩ := H2.out.2.2
 go_wp2_with fail
 obtain ⟨w3, hw3⟩ : ∃ z, z = (((((((((w2.setCell ⟨(w.heap.size + 1 + 1), 0, none⟩ (.int .u64 (limb x 0 : Nat))).setCell ⟨(w.heap.size + 1 + 1), 1, none⟩ (.int .u64 (limb x 1 : Nat))).setCell ⟨(w.heap.size + 1 + 1), 2, none⟩ (.int .u64 (limb x 2 : Nat))).setCell ⟨(w.heap.size + 1 + 1), 3, none⟩ (.int .u64 (limb x 3 : Nat))).setCell ⟨(w.heap.size + 1 + 1), 4, none⟩ (.int .u64 (limb a 0 : Nat))).setCell ⟨(w.heap.size + 1 + 1), 5, none⟩ (.int .u64 (limb a 1 : Nat))).setCell ⟨(w.heap.size + 1 + 1), 6, none⟩ (.int .u64 (limb a 2 : Nat))).setCell ⟨(w.heap.size + 1 + 1), 7, none⟩ (.int .u64 (limb a 3 : Nat))).setCell ⟨(w.heap.size + 1 + 1), 8, none⟩ (.bool i)) := ⟨_, rfl⟩
 rw [← hw3]
 have H3 : PointO w3 (w.heap.size + 1 + 1) x a i ∧ Below w.heap.size w w3 := by
  rw [hw3]
  exact ⟨H2.out.2.2.put, below_put9 H2.out.1 (Nat.le_succ_of_le (Nat.le_succ _))⟩
 clear hw3 H2 rz r0 r1 r2 r3 r4 r5 r6 r7 r8 fr pz p0 p1 p2 p3 p4 p5 p6 p7 p8 fp
 obtain ⟨⟨rz, r0, r1, r2, r3, r4, r5, r6, r7, r8, fr⟩, HB⟩ := H3
 refine bodyPost_ret (v := .agg #[.int .u64 (limb (x) 0 : Nat), .int .u64 (limb (x) 1 : Nat), .int .u64 (limb (x) 2 : Nat), .int .u64 (limb (x) 3 : Nat), .int .u64 (limb (a) 0 : Nat), .int .u64 (limb (a) 1 : Nat), .int .u64 (limb (a) 2 : Nat), .int .u64 (limb (a) 3 : Nat), .bool i]) ?_ rfl ⟨rfl, HB⟩
 simp [results, Tryd.results64, go_sem, r0, r1, r2, r3, r4, r5, r6, r7, r8]
end Go.Proofs.YtchphekaonnfeaaDoor

namespace Go.Proofs.YtchphekaonnfeaaDoor
open Go Go.RowKit Go.Lib

structure Sp13 (w : World) (b : Nat) (v0 v1 v2 v3 v4 v5 v6 v7 v8 v9 v10 v11 v12 : Value) : Prop where
 lt : b < w.heap.size
 c0 : w.cell? ⟨b, 0, none⟩ = some (v0)
 c1 : w.cell? ⟨b, 1, none⟩ = some (v1)
 c2 : w.cell? ⟨b, 2, none⟩ = some (v2)
 c3 : w.cell? ⟨b, 3, none⟩ = some (v3)
 c4 : w.cell? ⟨b, 4, none⟩ = some (v4)
 c5 : w.cell? ⟨b, 5, none⟩ = some (v5)
 c6 : w.cell? ⟨b, 6, none⟩ = some (v6)
 c7 : w.cell? ⟨b, 7, none⟩ = some (v7)
 c8 : w.cell? ⟨b, 8, none⟩ = some (v8)
 c9 : w.cell? ⟨b, 9, none⟩ = some (v9)
 c10 : w.cell? ⟨b, 10, none⟩ = some (v10)
 c11 : w.cell? ⟨b, 11, none⟩ = some (v11)
 c12 : w.cell? ⟨b, 12, none⟩ = some (v12)
 fz : ∀ o, w.frozen? ⟨b, o, none⟩ = false
theorem SpZ.put {w : World} {b : Nat} {v0 v1 v2 v3 v4 v5 v6 v7 v8 v9 v10 v11 v12 : Value} (h : SpZ w b) : Sp13 (((((((((((((w.setCell ⟨b, 0, none⟩ (v0)).setCell ⟨b, 1, none⟩ (v1)).setCell ⟨b, 2, none⟩ (v2)).setCell ⟨b, 3, none⟩ (v3)).setCell ⟨b, 4, none⟩ (v4)).setCell ⟨b, 5, none⟩ (v5)).setCell ⟨b, 6, none⟩ (v6)).setCell ⟨b, 7, none⟩ (v7)).setCell ⟨b, 8, none⟩ (v8)).setCell ⟨b, 9, none⟩ (v9)).setCell ⟨b, 10, none⟩ (v10)).setCell ⟨b, 11, none⟩ (v11)).setCell ⟨b, 12, none⟩ (v12)) b v0 v1 v2 v3 v4 v5 v6 v7 v8 v9 v10 v11 v12 :=
 ⟨by simp only [World.size_setCell]; exact h.lt, ((cell_offS (by decide)).trans ((cell_offS (by decide)).trans ((cell_offS (by decide)).trans ((cell_offS (by decide)).trans ((cell_offS (by decide)).trans ((cell_offS (by decide)).trans ((cell_offS (by decide)).trans ((cell_offS (by decide)).trans ((cell_offS (by decide)).trans ((cell_offS (by decide)).trans ((cell_offS (by decide)).trans ((cell_offS (by decide)).trans (World.cell?_setCell_same _ _ _ h.c0))))))))))))), ((cell_offS (by decide)).trans ((cell_offS (by decide)).trans ((cell_offS (by decide)).trans ((cell_offS (by decide)).trans ((cell_offS (by decide)).trans ((cell_offS (by decide)).trans ((cell_offS (by decide)).trans ((cell_offS (by decide)).trans ((cell_offS (by decide)).trans ((cell_offS (by decide)).trans ((cell_offS (by decide)).trans (World.cell?_setCell_same _ _ _ ((cell_offS (by decide)).trans h.c1))))))))))))), ((cell_offS (by decide)).trans ((cell_offS (by decide)).trans ((cell_offS (by decide)).trans ((cell_offS (by decide)).trans ((cell_offS (by decide)).trans ((cell_offS (by decide)).trans ((cell_offS (by decide)).trans ((cell_offS (by decide)).trans ((cell_offS (by decide)).trans ((cell_offS (by decide)).trans (World.cell?_setCell_same _ _ _ ((cell_offS (by decide)).trans ((cell_offS (by decide)).trans h.c2))))))))))))), ((cell_offS (by decide)).trans ((cell_offS (by decide)).trans ((cell_offS (by decide)).trans ((cell_offS (by decide)).trans ((cell_offS (by decide)).trans ((cell_offS (by decide)).trans ((cell_offS (by decide)).trans ((cell_offS (by decide)).trans ((cell_offS (by decide)).trans (World.cell?_setCell_same _ _ _ ((cell_offS (by decide)).trans ((cell_offS (by decide)).trans ((cell_offS (by decide)).trans h.c3))))))))))))), ((cell_offS (by decide)).trans ((cell_offS (by decide)).trans ((cell_offS (by decide)).trans ((cell_offS (by decide)).trans ((cell_offS (by decide)).trans ((cell_offS (by decide)).trans ((cell_offS (by decide)).trans ((cell_offS (by decide)).trans (World.cell?_setCell_same _ _ _ ((cell_offS (by decide)).trans ((cell_offS (by decide)).trans ((cell_offS (by decide)).trans ((cell_offS (by decide)).trans h.c4))))))))))))), ((cell_offS (by decide)).trans ((cell_offS (by decide)).trans ((cell_offS (by decide)).trans ((cell_offS (by decide)).trans ((cell_offS (by decide)).trans ((cell_offS (by decide)).trans ((cell_offS (by decide)).trans (World.cell?_setCell_same _ _ _ ((cell_offS (by decide)).trans ((cell_offS (by decide)).trans ((cell_offS (by decide)).trans ((cell_offS (by decide)).trans ((cell_offS (by decide)).trans h.c5))))))))))))), ((cell_offS (by decide)).trans ((cell_offS (by decide)).trans ((cell_offS (by decide)).trans ((cell_offS (by decide)).trans ((cell_offS (by decide)).trans ((cell_offS (by decide)).trans (World.cell?_setCell_same _ _ _ ((cell_offS (by decide)).trans ((cell_offS (by decide)).trans ((cell_offS (by decide)).trans ((cell_offS (by decide)).trans ((cell_offS (by decide)).trans ((cell_offS (by decide)).trans h.c6))))))))))))), ((cell_offS (by decide)).trans ((cell_offS (by decide)).trans ((cell_offS (by decide)).trans ((cell_offS (by decide)).trans ((cell_offS (by decide)).trans (World.cell?_setCell_same _ _ _ ((cell_offS (by decide)).trans ((cell_offS (by decide)).trans ((cell_offS (by decide)).trans ((cell_offS (by decide)).trans ((cell_offS (by decide)).trans ((cell_offS (by decide)).trans ((cell_offS (by decide)).trans h.c7))))))))))))), ((cell_offS (by decide)).trans ((cell_offS (by decide)).trans ((cell_offS (by decide)).trans ((cell_offS (by decide)).trans (World.cell?_setCell_same _ _ _ ((cell_offS (by decide)).trans ((cell_offS (by decide)).trans ((cell_offS (by decide)).trans ((cell_offS (by decide)).trans ((cell_offS (by decide)).trans ((cell_offS (by decide)).trans ((cell_offS (by decide)).trans ((cell_offS (by decide)).trans h.c8))))))))))))), ((cell_offS (by decide)).trans ((cell_offS (by decide)).trans ((cell_offS (by decide)).trans (World.cell?_setCell_same _ _ _ ((cell_offS (by decide)).trans ((cell_offS (by decide)).trans ((cell_offS (by decide)).trans ((cell_offS (by decide)).trans ((cell_offS (by decide)).trans ((cell_offS (by decide)).trans ((cell_offS (by decide)).trans ((cell_offS (by decide)).trans ((cell_offS (by decide)).trans h.c9))))))))))))), ((cell_offS (by decide)).trans ((cell_offS (by decide)).trans (World.cell?_setCell_same _ _ _ ((cell_offS (by decide)).trans ((cell_offS (by decide)).trans ((cell_offS (by decide)).trans ((cell_offS (by decide)).trans ((cell_offS (by decide)).trans ((cell_offS (by decide)).trans ((cell_offS (by decide)).trans ((cell_offS (by decide)).trans ((cell_offS (by decide)).trans ((cell_offS (by decide)).trans h.c10))))))))))))), ((cell_offS (by decide)).trans (World.cell?_setCell_same _ _ _ ((cell_offS (by decide)).trans ((cell_offS (by decide)).trans ((cell_offS (by decide)).trans ((cell_offS (by decide)).trans ((cell_offS (by decide)).trans ((cell_offS (by decide)).trans ((cell_offS (by decide)).trans ((cell_offS (by decide)).trans ((cell_offS (by decide)).trans ((cell_offS (by decide)).trans ((cell_offS (by decide)).trans h.c11))))))))))))), (World.cell?_setCell_same _ _ _ ((cell_offS (by decide)).trans ((cell_offS (by decide)).trans ((cell_offS (by decide)).trans ((cell_offS (by decide)).trans ((cell_offS (by decide)).trans ((cell_offS (by decide)).trans ((cell_offS (by decide)).trans ((cell_offS (by decide)).trans ((cell_offS (by decide)).trans ((cell_offS (by decide)).trans ((cell_offS (by decide)).trans ((cell_offS (by decide)).trans h.c12))))))))))))), fun o => by simp only [World.frozen?_setCell]; exact h.fz o⟩
theorem Sp13.drew {w : World} {b : Nat} {v0 v1 v2 v3 v4 v5 v6 v7 v8 v9 v10 v11 v12 : Value} (h : Sp13 w b v0 v1 v2 v3 v4 v5 v6 v7 v8 v9 v10 v11 v12) : Sp13 w.drew b v0 v1 v2 v3 v4 v5 v6 v7 v8 v9 v10 v11 v12 := ⟨h.lt, h.c0, h.c1, h.c2, h.c3, h.c4, h.c5, h.c6, h.c7, h.c8, h.c9, h.c10, h.c11, h.c12, h.fz⟩
theorem below_put13 {B b : Nat} {a w : World} {v0 v1 v2 v3 v4 v5 v6 v7 v8 v9 v10 v11 v12 : Value} (h : Below B a w) (hs : B ≤ b) : Below B a (((((((((((((w.setCell ⟨b, 0, none⟩ (v0)).setCell ⟨b, 1, none⟩ (v1)).setCell ⟨b, 2, none⟩ (v2)).setCell ⟨b, 3, none⟩ (v3)).setCell ⟨b, 4, none⟩ (v4)).setCell ⟨b, 5, none⟩ (v5)).setCell ⟨b, 6, none⟩ (v6)).setCell ⟨b, 7, none⟩ (v7)).setCell ⟨b, 8, none⟩ (v8)).setCell ⟨b, 9, none⟩ (v9)).setCell ⟨b, 10, none⟩ (v10)).setCell ⟨b, 11, none⟩ (v11)).setCell ⟨b, 12, none⟩ (v12)) := (Below.setCell (p := ⟨b, 12, none⟩) (Below.setCell (p := ⟨b, 11, none⟩) (Below.setCell (p := ⟨b, 10, none⟩) (Below.setCell (p := ⟨b, 9, none⟩) (Below.setCell (p := ⟨b, 8, none⟩) (Below.setCell (p := ⟨b, 7, none⟩) (Below.setCell (p := ⟨b, 6, none⟩) (Below.setCell (p := ⟨b, 5, none⟩) (Below.setCell (p := ⟨b, 4, none⟩) (Below.setCell (p := ⟨b, 3, none⟩) (Below.setCell (p := ⟨b, 2, none⟩) (Below.setCell (p := ⟨b, 1, none⟩) (Below.setCell (p := ⟨b, 0, none⟩) h hs _) hs _) hs _) hs _) hs _) hs _) hs _) hs _) hs _) hs _) hs _) hs _) hs _)
set_option maxRecDepth 100000 in
set_option maxHeartbeats 2000000 in
theorem pat_fin (g b o x y : Nat) (w : World) (hP : PointB w b o x y false) :
  Calls Tryd.prog 68 #[.agg #[.pointer (some ⟨g, 0, none⟩)], .pointer (some ⟨b, o, none⟩)] w fun e w' => e = .returned (.agg #[.pointer (some ⟨g, 0, none⟩), .int .u64 (limb (x) 0 : Nat), .int .u64 (limb (x) 1 : Nat), .int .u64 (limb (x) 2 : Nat), .int .u64 (limb (x) 3 : Nat), .int .u64 (limb (y) 0 : Nat), .int .u64 (limb (y) 1 : Nat), .int .u64 (limb (y) 2 : Nat), .int .u64 (limb (y) 3 : Nat), .int .u64 1, .int .u64 0, .int .u64 0, .int .u64 0]) ∧ Below w.heap.size w w' := by
 obtain ⟨w0, hw0⟩ : ∃ z, z = (w.alloc (.cells #[.pointer (some ⟨g, 0, none⟩)] 91)).alloc (.cells #[.pointer none, .int .u64 0, .int .u64 0, .int .u64 0, .int .u64 0, .int .u64 0, .int .u64 0, .int .u64 0, .int .u64 0, .int .u64 0, .int .u64 0, .int .u64 0, .int .u64 0] 116) := ⟨_, rfl⟩
 have H0 : Hid (PointB w0 b o x y false ∧ PlB w0 w.heap.size g ∧ SpZ w0 (w.heap.size + 1) ∧ Below w.heap.size w w0) := by
  rw [hw0]
  exact ⟨hP.alloc.alloc, (PlB.new _ _ _).alloc, SpZ.new _ (by simp), below_alloc0 (below_alloc0 (Below.refl _ _) _) _⟩
 obtain ⟨pz, p0, p1, p2, p3, p4, p5, p6, p7, p8⟩ := hP
 obtain ⟨q0, q1, q2, q3, q4, q5, q6, q7, q8, q9⟩ := H0.out.1
 obtain ⟨rz, r0, r1, r2, r3, r4, r5, r6, r7, r8, r9, r10, r11, r12, fr⟩ := H0.out.2.2.1
 obtain ⟨g0, gz⟩ := H0.out.2.1
 clear pz p0 p1 p2 p3 p4 p5 p6 p7 p8
 go_enter Tryd.func68, Tryd.ntmps68
 go_upto_region 1 with fail
 rw [← hw0]
 clear hw0
 go_wp2_with fail
 refine wp_region_N (fun w' => Below w0.heap.size w0 w') 11 12 rfl (by kernel_rfl) ?_
 refine wpAnyN_take (i := 0) (oi := ?o0) (v := ?v0) ?hi0 (by kernel_rfl) (by kernel_rfl) (by kernel_rfl) (by kernel_rfl) (by decide) (by kernel_rfl) ?hQ0 ?hy0 (Below.drew (Below.refl _ _)) ?more0
 case hi0 => rw [List.getElem?_toArray]; exact rfl
 case hQ0 => exact fun _ _ _ h => h
 case hy0 =>
  refine Or.inl ⟨by rfl, ?_⟩
  intro w' hSw
  obtain ⟨q0, qz⟩ := H0.out.2.1.call hSw
  obtain ⟨pz, p0, p1, p2, p3, p4, p5, p6, p7, p8⟩ := H0.out.1.call hSw
  clear hSw
  go_simp
  try with_reducible rfl
 simp only [Act.put, List.setIfInBounds_toArray, List.set_cons_zero, List.set_cons_succ]
 refine wpAnyN_takeF (i := 1) (oi := ?o1) (v := ?v1) ?hi1 (by kernel_rfl) (by kernel_rfl) (by kernel_rfl) (by decide) ?hQ1 ?hy1 (Below.drew (Below.refl _ _)) ?more1
 case hi1 => rw [List.getElem?_toArray]; exact rfl
 case hQ1 => exact fun _ _ _ h => h
 case hy1 =>
  refine Or.inl ⟨by rfl, ?_⟩
  intro w' hSw
  clear hSw
  go_simp
  try with_reducible rfl
 simp only [Act.put, List.setIfInBounds_toArray, List.set_cons_zero, List.set_cons_succ]
 refine wpAnyN_take (i := 2) (oi := ?o2) (v := ?v2) ?hi2 (by kernel_rfl) (by kernel_rfl) (by kernel_rfl) (by kernel_rfl) (by decide) (by kernel_rfl) ?hQ2 ?hy2 (Below.drew (Below.refl _ _)) ?more2
 case hi2 => rw [List.getElem?_toArray]; exact rfl
 case hQ2 => exact fun _ _ _ h => h
 case hy2 =>
  refine Or.inl ⟨by rfl, ?_⟩
  intro w' hSw
  obtain ⟨q0, qz⟩ := H0.out.2.1.call hSw
  obtain ⟨pz, p0, p1, p2, p3, p4, p5, p6, p7, p8⟩ := H0.out.1.call hSw
  clear hSw
  go_simp
  try with_reducible rfl
 simp only [Act.put, List.setIfInBounds_toArray, List.set_cons_zero, List.set_cons_succ]
 refine wpAnyN_take (i := 3) (oi := ?o3) (v := ?v3) ?hi3 (by kernel_rfl) (by kernel_rfl) (by kernel_rfl) (by kernel_rfl) (by decide) (by kernel_rfl) ?hQ3 ?hy3 (Below.drew (Below.refl _ _)) ?more3
 case hi3 => rw [List.getElem?_toArray]; exact rfl
 case hQ3 => exact fun _ _ _ h => h
 case hy3 =>
  refine Or.inl ⟨by rfl, ?_⟩
  intro w' hSw
  obtain ⟨q0, qz⟩ := H0.out.2.1.call hSw
  obtain ⟨pz, p0, p1, p2, p3, p4, p5, p6, p7, p8⟩ := H0.out.1.call hSw
  clear hSw
  go_simp
  try with_reducible rfl
 simp only [Act.put, List.setIfInBounds_toArray, List.set_cons_zero, List.set_cons_succ]
 refine wpAnyN_take (i := 4) (oi := ?o4) (v := ?v4) ?hi4 (by kernel_rfl) (by kernel_rfl) (by kernel_rfl) (by kernel_rfl) (by decide) (by kernel_rfl) ?hQ4 ?hy4 (Below.drew (Below.refl _ _)) ?more4
 case hi4 => rw [List.getElem?_toArray]; exact rfl
 case hQ4 => exact fun _ _ _ h => h
 case hy4 =>
  refine Or.inl ⟨by rfl, ?_⟩
  intro w' hSw
  obtain ⟨q0, qz⟩ := H0.out.2.1.call hSw
  obtain ⟨pz, p0, p1, p2, p3, p4, p5, p6, p7, p8⟩ := H0.out.1.call hSw
  clear hSw
  go_simp
  try with_reducible rfl
 simp only [Act.put, List.setIfInBounds_toArray, List.set_cons_zero, List.set_cons_succ]
 refine wpAnyN_takeF (i := 5) (oi := ?o5) (v := ?v5) ?hi5 (by kernel_rfl) (by kernel_rfl) (by kernel_rfl) (by decide) ?hQ5 ?hy5 (Below.drew (Below.refl _ _)) ?more5
 case hi5 => rw [List.getElem?_toArray]; exact rfl
 case hQ5 => exact fun _ _ _ h => h
 case hy5 =>
  refine Or.inl ⟨by rfl, ?_⟩
  intro w' hSw
  clear hSw
  go_simp
  try with_reducible rfl
 simp only [Act.put, List.setIfInBounds_toArray, List.set_cons_zero, List.set_cons_succ]
 refine wpAnyN_take (i := 6) (oi := ?o6) (v := ?v6) ?hi6 (by kernel_rfl) (by kernel_rfl) (by kernel_rfl) (by kernel_rfl) (by decide) (by kernel_rfl) ?hQ6 ?hy6 (Below.drew (Below.refl _ _)) ?more6
 case hi6 => rw [List.getElem?_toArray]; exact rfl
 case hQ6 => exact fun _ _ _ h => h
 case hy6 =>
  refine Or.inl ⟨by rfl, ?_⟩
  intro w' hSw
  obtain ⟨q0, qz⟩ := H0.out.2.1.call hSw
  obtain ⟨pz, p0, p1, p2, p3, p4, p5, p6, p7, p8⟩ := H0.out.1.call hSw
  clear hSw
  go_simp
  try with_reducible rfl
 simp only [Act.put, List.setIfInBounds_toArray, List.set_cons_zero, List.set_cons_succ]
 refine wpAnyN_take (i := 7) (oi := ?o7) (v := ?v7) ?hi7 (by kernel_rfl) (by kernel_rfl) (by kernel_rfl) (by kernel_rfl) (by decide) (by kernel_rfl) ?hQ7 ?hy7 (Below.drew (Below.refl _ _)) ?more7
 case hi7 => rw [List.getElem?_toArray]; exact rfl
 case hQ7 => exact fun _ _ _ h => h
 case hy7 =>
  refine Or.inl ⟨by rfl, ?_⟩
  intro w' hSw
  obtain ⟨q0, qz⟩ := H0.out.2.1.call hSw
  obtain ⟨pz, p0, p1, p2, p3, p4, p5, p6, p7, p8⟩ := H0.out.1.call hSw
  clear hSw
  go_simp
  try with_reducible rfl
 simp only [Act.put, List.setIfInBounds_toArray, List.set_cons_zero, List.set_cons_succ]
 refine wpAnyN_take (i := 8) (oi := ?o8) (v := ?v8) ?hi8 (by kernel_rfl) (by kernel_rfl) (by kernel_rfl) (by kernel_rfl) (by decide) (by kernel_rfl) ?hQ8 ?hy8 (Below.drew (Below.refl _ _)) ?more8
 case hi8 => rw [List.getElem?_toArray]; exact rfl
 case hQ8 => exact fun _ _ _ h => h
 case hy8 =>
  refine Or.inl ⟨by rfl, ?_⟩
  intro w' hSw
  obtain ⟨q0, qz⟩ := H0.out.2.1.call hSw
  obtain ⟨pz, p0, p1, p2, p3, p4, p5, p6, p7, p8⟩ := H0.out.1.call hSw
  clear hSw
  go_simp
  try with_reducible rfl
 simp only [Act.put, List.setIfInBounds_toArray, List.set_cons_zero, List.set_cons_succ]
 refine wpAnyN_takeF (i := 9) (oi := ?o9) (v := ?v9) ?hi9 (by kernel_rfl) (by kernel_rfl) (by kernel_rfl) (by decide) ?hQ9 ?hy9 (Below.drew (Below.refl _ _)) ?more9
 case hi9 => rw [List.getElem?_toArray]; exact rfl
 case hQ9 => exact fun _ _ _ h => h
 case hy9 =>
  refine Or.inl ⟨by rfl, ?_⟩
  intro w' hSw
  clear hSw
  go_simp
  try with_reducible rfl
 simp only [Act.put, List.setIfInBounds_toArray, List.set_cons_zero, List.set_cons_succ]
 refine wpAnyN_take (i := 10) (oi := ?o10) (v := ?v10) ?hi10 (by kernel_rfl) (by kernel_rfl) (by kernel_rfl) (by kernel_rfl) (by decide) (by kernel_rfl) ?hQ10 ?hy10 (Below.drew (Below.refl _ _)) ?more10
 case hi10 => rw [List.getElem?_toArray]; exact rfl
 case hQ10 => exact fun _ _ _ h => h
 case hy10 =>
  refine Or.inl ⟨by rfl, ?_⟩
  intro w' hSw
  obtain ⟨q0, qz⟩ := H0.out.2.1.call hSw
  obtain ⟨pz, p0, p1, p2, p3, p4, p5, p6, p7, p8⟩ := H0.out.1.call hSw
  clear hSw
  go_simp
  try with_reducible rfl
 simp only [Act.put, List.setIfInBounds_toArray, List.set_cons_zero, List.set_cons_succ]
 refine wpAnyN_one (i := 11) (o := ?o11) (by kernel_rfl) ?hi11 ?hw11 ?st11
 case hi11 => rw [List.getElem?_toArray]; exact rfl
 case hw11 => exact rfl
 intro K hK
 have HK11 : Hid _ := hK
 clear hK
 go_simp
 refine HK11.out _ _ ⟨fun h => absurd h (by decide +kernel), ?_⟩
 clear HK11 K
 try simp only [Act.put, List.setIfInBounds_toArray, List.set_cons_zero, List.set_cons_succ]
 refine wpAnyN_done (by kernel_rfl) ?_ _
 go_wp2_with fail
 obtain ⟨w3, hw3⟩ : ∃ z, z = (((((((((((((w0.setCell ⟨(w.heap.size + 1), 0, none⟩ (.pointer (some ⟨g, 0, none⟩))).setCell ⟨(w.heap.size + 1), 1, none⟩ (.int .u64 (limb (x) 0 : Nat))).setCell ⟨(w.heap.size + 1), 2, none⟩ (.int .u64 (limb (x) 1 : Nat))).setCell ⟨(w.heap.size + 1), 3, none⟩ (.int .u64 (limb (x) 2 : Nat))).setCell ⟨(w.heap.size + 1), 4, none⟩ (.int .u64 (limb (x) 3 : Nat))).setCell ⟨(w.heap.size + 1), 5, none⟩ (.int .u64 (limb (y) 0 : Nat))).setCell ⟨(w.heap.size + 1), 6, none⟩ (.int .u64 (limb (y) 1 : Nat))).setCell ⟨(w.heap.size + 1), 7, none⟩ (.int .u64 (limb (y) 2 : Nat))).setCell ⟨(w.heap.size + 1), 8, none⟩ (.int .u64 (limb (y) 3 : Nat))).setCell ⟨(w.heap.size + 1), 9, none⟩ (.int .u64 1)).setCell ⟨(w.heap.size + 1), 10, none⟩ (.int .u64 0)).setCell ⟨(w.heap.size + 1), 11, none⟩ (.int .u64 0)).setCell ⟨(w.heap.size + 1), 12, none⟩ (.int .u64 0)).drew := ⟨_, rfl⟩
 rw [← hw3]
 have H3 : Sp13 w3 (w.heap.size + 1) (.pointer (some ⟨g, 0, none⟩)) (.int .u64 (limb (x) 0 : Nat)) (.int .u64 (limb (x) 1 : Nat)) (.int .u64 (limb (x) 2 : Nat)) (.int .u64 (limb (x) 3 : Nat)) (.int .u64 (limb (y) 0 : Nat)) (.int .u64 (limb (y) 1 : Nat)) (.int .u64 (limb (y) 2 : Nat)) (.int .u64 (limb (y) 3 : Nat)) (.int .u64 1) (.int .u64 0) (.int .u64 0) (.int .u64 0) ∧ Below w.heap.size w w3 := by
  rw [hw3]
  exact ⟨Sp13.drew (SpZ.put H0.out.2.2.1), Below.drew (below_put13 H0.out.2.2.2 (Nat.le_succ _))⟩
 clear hw3 H0 rz r0 r1 r2 r3 r4 r5 r6 r7 r8 r9 r10 r11 r12 fr
 obtain ⟨⟨rz, r0, r1, r2, r3, r4, r5, r6, r7, r8, r9, r10, r11, r12, fr⟩, HB⟩ := H3
 refine bodyPost_ret (v := .agg #[.pointer (some ⟨g, 0, none⟩), .int .u64 (limb (x) 0 : Nat), .int .u64 (limb (x) 1 : Nat), .int .u64 (limb (x) 2 : Nat), .int .u64 (limb (x) 3 : Nat), .int .u64 (limb (y) 0 : Nat), .int .u64 (limb (y) 1 : Nat), .int .u64 (limb (y) 2 : Nat), .int .u64 (limb (y) 3 : Nat), .int .u64 1, .int .u64 0, .int .u64 0, .int .u64 0]) ?_ rfl ⟨rfl, HB⟩
 simp [results, Tryd.results68, go_sem, r0, r1, r2, r3, r4, r5, r6, r7, r8, r9, r10, r11, r12]
end Go.Proofs.YtchphekaonnfeaaDoor
