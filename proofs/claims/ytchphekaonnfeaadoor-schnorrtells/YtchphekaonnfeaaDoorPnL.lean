/- Slices of points: nine cells each. -/
import Derived.Test.YtchphekaonnfeaaDoorMgQ
import Derived.Test.YtchphekaonnfeaaDoorRgA
namespace Go.Proofs.YtchphekaonnfeaaDoor
open Go Go.RowKit Go.Lib

/-- A number's four cells behind an address. -/
structure NumB (w : World) (b o n : Nat) : Prop where
  lt : b < w.heap.size
  c0 : w.cell? ⟨b, o, none⟩ = some (.int .u64 (limb n 0 : Nat))
  c1 : w.cell? ⟨b, o + 1, none⟩ = some (.int .u64 (limb n 1 : Nat))
  c2 : w.cell? ⟨b, o + 2, none⟩ = some (.int .u64 (limb n 2 : Nat))
  c3 : w.cell? ⟨b, o + 3, none⟩ = some (.int .u64 (limb n 3 : Nat))
theorem NumB.call {w w' : World} {b o n : Nat} (h : NumB w b o n) (hb : Below w.heap.size w w') : NumB w' b o n :=
  ⟨Nat.lt_of_lt_of_le h.lt hb.size, (hb.cell (p := ⟨b, o, none⟩) h.lt).trans h.c0, (hb.cell (p := ⟨b, o + 1, none⟩) h.lt).trans h.c1, (hb.cell (p := ⟨b, o + 2, none⟩) h.lt).trans h.c2, (hb.cell (p := ⟨b, o + 3, none⟩) h.lt).trans h.c3⟩
/-- Numbers behind an address. -/
def NumsAt (w : World) (a : Option Addr) (l : List Nat) : Prop :=
  ∀ j n, l[j]? = some n → ∃ b o, a = some ⟨b, o, none⟩ ∧ NumB w b (o + j * 4) n
theorem NumsAt.call {w w' : World} {a : Option Addr} {l : List Nat} (h : NumsAt w a l) (hb : Below w.heap.size w w') : NumsAt w' a l := fun j n hj => by
  obtain ⟨b, o, h1, h2⟩ := h j n hj
  exact ⟨b, o, h1, h2.call hb⟩
theorem NumsAt.alloc {w : World} {a : Option Addr} {l : List Nat} {ob : Obj} (h : NumsAt w a l) : NumsAt (w.alloc ob) a l := h.call (below_alloc0 (Below.refl _ _) _)
theorem NumsAt.get {w : World} {a : Option Addr} {l : List Nat} (h : NumsAt w a l) {k : Nat} (hk : k < l.length) : ∃ b o, a = some ⟨b, o, none⟩ ∧ NumB w b (o + k * 4) (l[k]'hk) := h k _ (List.getElem?_eq_getElem hk)
theorem NumsAt.nil (w : World) (a : Option Addr) : NumsAt w a [] := fun j p hj => by simp at hj
/-- Points, whatever they are, behind an address. -/
def PntsAt (w : World) (a : Option Addr) (l : List (Nat × Nat × Bool)) : Prop :=
  ∀ j p, l[j]? = some p → ∃ b o, a = some ⟨b, o, none⟩ ∧ PointB w b (o + j * 9) p.1 p.2.1 p.2.2
theorem PntsAt.call {w w' : World} {a : Option Addr} {l : List (Nat × Nat × Bool)} (h : PntsAt w a l) (hb : Below w.heap.size w w') : PntsAt w' a l := fun j p hj => by
  obtain ⟨b, o, h1, h2⟩ := h j p hj
  exact ⟨b, o, h1, h2.call hb⟩
theorem PntsAt.alloc {w : World} {a : Option Addr} {l : List (Nat × Nat × Bool)} {ob : Obj} (h : PntsAt w a l) : PntsAt (w.alloc ob) a l := h.call (below_alloc0 (Below.refl _ _) _)
theorem PntsAt.get {w : World} {a : Option Addr} {l : List (Nat × Nat × Bool)} (h : PntsAt w a l) {k : Nat} (hk : k < l.length) : ∃ b o, a = some ⟨b, o, none⟩ ∧ PointB w b (o + k * 9) (l[k]'hk).1 (l[k]'hk).2.1 (l[k]'hk).2.2 :=
  h k _ (List.getElem?_eq_getElem hk)
theorem PntsAt.nil (w : World) (a : Option Addr) : PntsAt w a [] := fun j p hj => by simp at hj
/-- A point of the group as three. -/
def ptT (p : Pts) : Nat × Nat × Bool := (pX p, pY p, pI p)
/-- Points of the group behind an address. -/
def PtsAt (w : World) (a : Option Addr) (l : List Pts) : Prop := PntsAt w a (l.map ptT)
theorem PtsAt.call {w w' : World} {a : Option Addr} {l : List Pts} (h : PtsAt w a l) (hb : Below w.heap.size w w') : PtsAt w' a l := PntsAt.call h hb
theorem PtsAt.get {w : World} {a : Option Addr} {l : List Pts} (h : PtsAt w a l) {k : Nat} (hk : k < l.length) : ∃ b o, a = some ⟨b, o, none⟩ ∧ PointB w b (o + k * 9) (pX (l[k]'hk)) (pY (l[k]'hk)) (pI (l[k]'hk)) := by
  obtain ⟨b, o, h1, h2⟩ := h k (ptT (l[k]'hk)) (by rw [List.getElem?_map, List.getElem?_eq_getElem hk]; rfl)
  exact ⟨b, o, h1, h2⟩
/-- A point's cells as a list. -/
def ptsL (p : Pts) : List Value := ptL (pX p) (pY p) (pI p)
theorem TabL.pt {w : World} {p n : Nat} {f : Nat → List Value} (h : TabL w p n 9 f) {j : Nat} (hj : j < n) {x y : Nat} {i : Bool} (e : f j = ptL x y i) : PointB w p (j * 9) x y i := by
  have k : ∀ c v, (ptL x y i)[c]? = some v → w.cell? ⟨p, j * 9 + c, none⟩ = some v := fun c v hv => h.2.2.2 j hj c v (by rw [e]; exact hv)
  exact ⟨h.1, k 0 _ rfl, k 1 _ rfl, k 2 _ rfl, k 3 _ rfl, k 4 _ rfl, k 5 _ rfl, k 6 _ rfl, k 7 _ rfl, k 8 _ rfl⟩
def wideL (n : Nat) : List Value := [.int .u64 (limb n 0 : Nat), .int .u64 (limb n 1 : Nat), .int .u64 (limb n 2 : Nat), .int .u64 (limb n 3 : Nat), .int .u64 (limb n 4 : Nat), .int .u64 (limb n 5 : Nat), .int .u64 (limb n 6 : Nat), .int .u64 (limb n 7 : Nat)]
theorem TabL.wide {w : World} {p n : Nat} {f : Nat → List Value} (h : TabL w p n 8 f) {j : Nat} (hj : j < n) {x : Nat} (e : f j = wideL x) {c : Nat} (hc : c < 8) : w.cell? ⟨p, j * 8 + c, none⟩ = some (.int .u64 (limb x c : Nat)) := by
  refine h.2.2.2 j hj c _ ?_
  rw [e]
  have : c = 0 ∨ c = 1 ∨ c = 2 ∨ c = 3 ∨ c = 4 ∨ c = 5 ∨ c = 6 ∨ c = 7 := by omega
  rcases this with rfl | rfl | rfl | rfl | rfl | rfl | rfl | rfl <;> rfl
end Go.Proofs.YtchphekaonnfeaaDoor
