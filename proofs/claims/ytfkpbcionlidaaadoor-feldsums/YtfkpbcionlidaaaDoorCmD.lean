/- Several texts laid together. -/
import Derived.Test.YtfkpbcionlidaaaDoorCvM
import Derived.Test.YtfkpbcionlidaaaDoorCmB
namespace Go.Proofs.YtfkpbcionlidaaaDoor
open Go Go.RowKit Go.Lib

/-- Is it a point? -/
def ptOk (x y : Nat) (i : Bool) : Bool := if i then decide (x = 0 ∧ y = 0) else decide (x < PP ∧ y < PP ∧ mM y y = sqM x)
theorem pcheck_ok (g b o x y : Nat) (i : Bool) (hX : x < R256) (hY : y < R256) (hk : ptOk x y i = true) (w : World) (hM : FieldB w g PP) (hP : PointB w b o x y i) :
  Calls Tryd.prog 56 #[.agg #[.pointer (some ⟨g, 0, none⟩)], .pointer (some ⟨b, o, none⟩)] w fun e w' => e = .returned (.int .i64 0) ∧ Below w.heap.size w w' := by
 cases i with
 | true => have h := of_decide_eq_true (show decide (x = 0 ∧ y = 0) = true from hk); exact pcheck_i0 g b o x y h.1 h.2 w hM hP
 | false => have h := of_decide_eq_true (show decide (x < PP ∧ y < PP ∧ mM y y = sqM x) = true from hk); exact pcheck_on g b o x y hX hY h.1 h.2.1 h.2.2 w hM hP
theorem pcheck_bad (g b o x y : Nat) (i : Bool) (hX : x < R256) (hY : y < R256) (hk : ptOk x y i = false) (w : World) (hM : FieldB w g PP) (hP : PointB w b o x y i) :
  Calls Tryd.prog 56 #[.agg #[.pointer (some ⟨g, 0, none⟩)], .pointer (some ⟨b, o, none⟩)] w fun e w' => e = .returned (.int .i64 30) ∧ Below w.heap.size w w' := by
 cases i with
 | true => have h := of_decide_eq_false (show decide (x = 0 ∧ y = 0) = false from hk); exact pcheck_i1 g b o x y hX hY h w hM hP
 | false =>
  have h := of_decide_eq_false (show decide (x < PP ∧ y < PP ∧ mM y y = sqM x) = false from hk)
  by_cases h1 : x < PP
  ·by_cases h2 : y < PP
   ·exact pcheck_off g b o x y hX hY h1 h2 (fun c => h ⟨h1, h2, c⟩) w hM hP
   ·exact pcheck_y g b o x y hX hY h1 h2 w hM hP
  ·exact pcheck_x g b o x y hX h1 w hM hP
end Go.Proofs.YtfkpbcionlidaaaDoor

namespace Go.Proofs.YtfkpbcionlidaaaDoor
open Go Go.RowKit Go.Lib

theorem SpotB.new (w : World) (g x y z : Nat) {t : TypeId} : SpotB (w.alloc (.cells #[.pointer (some ⟨g, 0, none⟩), .int .u64 (limb x 0 : Nat), .int .u64 (limb x 1 : Nat), .int .u64 (limb x 2 : Nat), .int .u64 (limb x 3 : Nat), .int .u64 (limb y 0 : Nat), .int .u64 (limb y 1 : Nat), .int .u64 (limb y 2 : Nat), .int .u64 (limb y 3 : Nat), .int .u64 (limb z 0 : Nat), .int .u64 (limb z 1 : Nat), .int .u64 (limb z 2 : Nat), .int .u64 (limb z 3 : Nat)] t)) w.heap.size g x y z :=
 ⟨by simp, by rw [World.cell?_alloc_new]; rfl, by rw [World.cell?_alloc_new]; rfl, by rw [World.cell?_alloc_new]; rfl, by rw [World.cell?_alloc_new]; rfl, by rw [World.cell?_alloc_new]; rfl, by rw [World.cell?_alloc_new]; rfl, by rw [World.cell?_alloc_new]; rfl, by rw [World.cell?_alloc_new]; rfl, by rw [World.cell?_alloc_new]; rfl, by rw [World.cell?_alloc_new]; rfl, by rw [World.cell?_alloc_new]; rfl, by rw [World.cell?_alloc_new]; rfl, by rw [World.cell?_alloc_new]; rfl, fun o => World.frozen?_alloc_new _ _ _ _⟩
theorem PointO.but {s b x y : Nat} {i : Bool} {w w' : World} (hb : ButC s w w') (h : PointO w b x y i) (hn : b ≠ s) : PointO w' b x y i :=
 ⟨Nat.lt_of_lt_of_le h.lt hb.size, (hb.cell (p := ⟨b, 0, none⟩) h.lt hn).trans h.c0, (hb.cell (p := ⟨b, 1, none⟩) h.lt hn).trans h.c1, (hb.cell (p := ⟨b, 2, none⟩) h.lt hn).trans h.c2, (hb.cell (p := ⟨b, 3, none⟩) h.lt hn).trans h.c3, (hb.cell (p := ⟨b, 4, none⟩) h.lt hn).trans h.c4, (hb.cell (p := ⟨b, 5, none⟩) h.lt hn).trans h.c5, (hb.cell (p := ⟨b, 6, none⟩) h.lt hn).trans h.c6, (hb.cell (p := ⟨b, 7, none⟩) h.lt hn).trans h.c7, (hb.cell (p := ⟨b, 8, none⟩) h.lt hn).trans h.c8, fun o => (hb.frozen (p := ⟨b, o, none⟩) h.lt hn).trans (h.fz o)⟩
theorem PtZ.but {s b : Nat} {w w' : World} (hb : ButC s w w') (h : PtZ w b) (hn : b ≠ s) : PtZ w' b :=
 ⟨Nat.lt_of_lt_of_le h.lt hb.size, (hb.cell (p := ⟨b, 0, none⟩) h.lt hn).trans h.c0, (hb.cell (p := ⟨b, 1, none⟩) h.lt hn).trans h.c1, (hb.cell (p := ⟨b, 2, none⟩) h.lt hn).trans h.c2, (hb.cell (p := ⟨b, 3, none⟩) h.lt hn).trans h.c3, (hb.cell (p := ⟨b, 4, none⟩) h.lt hn).trans h.c4, (hb.cell (p := ⟨b, 5, none⟩) h.lt hn).trans h.c5, (hb.cell (p := ⟨b, 6, none⟩) h.lt hn).trans h.c6, (hb.cell (p := ⟨b, 7, none⟩) h.lt hn).trans h.c7, (hb.cell (p := ⟨b, 8, none⟩) h.lt hn).trans h.c8, fun o => (hb.frozen (p := ⟨b, o, none⟩) h.lt hn).trans (h.fz o)⟩
end Go.Proofs.YtfkpbcionlidaaaDoor
