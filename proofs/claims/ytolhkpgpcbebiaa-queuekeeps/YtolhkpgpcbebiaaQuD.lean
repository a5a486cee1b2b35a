/- Package queue: Submit. -/
import Derived.Test.YtolhkpgpcbebiaaQuC
namespace Go.Proofs.Ytolhkpgpcbebiaa
open Go Go.RowKit Go.Lib
/-- These values lie in block b from the beginning on. -/
def Blk (w : World) (b : Nat) (vs : List Value) : Prop := b < w.heap.size ∧ (∀ o, w.frozen? ⟨b, o, none⟩ = false) ∧ ∀ j u, vs[j]? = some u → w.cell? ⟨b, j, none⟩ = some u
theorem Blk.new (w : World) (vs : List Value) (t : TypeId) : Blk (w.alloc (.cells vs.toArray t)) w.heap.size vs := ⟨by simp, fun o => World.frozen?_alloc_new _ _ _ _, fun j u h => by rw [World.cell?_alloc_new, List.getElem?_toArray]; exact h⟩
theorem Blk.block {w w' : World} {b : Nat} {vs : List Value} (h : Blk w b vs) (hz : w.heap.size ≤ w'.heap.size) (e : w'.heap[b]? = w.heap[b]?) : Blk w' b vs :=
  ⟨Nat.lt_of_lt_of_le h.1 hz, fun o => (World.frozen?_of_block (w := w) (a := ⟨b, o, none⟩) e).trans (h.2.1 o), fun j u hj => (World.cell?_of_block (w := w) (a := ⟨b, j, none⟩) e).trans (h.2.2 j u hj)⟩
theorem Blk.call {w w' : World} {b : Nat} {vs : List Value} (h : Blk w b vs) (hb : Below w.heap.size w w') : Blk w' b vs := h.block hb.size (hb.block b h.1)
theorem Blk.off {w w' : World} {b : Nat} {vs : List Value} {Z : Nat → Prop} (h : Blk w b vs) (hO : Off Z w w') (hz : ¬ Z b) : Blk w' b vs := h.block hO.size (hO.block b hz)
/-- Thirteen cells of a block are written. -/
def put13 (w : World) (b : Nat) (S : Sg) : World := w.setCells b 0 [.int .u64 S.x0, .int .u64 S.x1, .int .u64 S.x2, .int .u64 S.x3, .int .u64 S.x4, .int .u64 S.x5, .int .u64 S.x6, .int .u64 S.x7, .bool S.i, .int .u64 S.x8, .int .u64 S.x9, .int .u64 S.x10, .int .u64 S.x11]
theorem put13_off {w0 w : World} {Z : Nat → Prop} {b : Nat} {S : Sg} (h : Off Z w0 w) (hz : Z b) : Off Z w0 (put13 w b S) := by
  obtain ⟨e1, e2, e3⟩ := os_setCells b [.int .u64 S.x0, .int .u64 S.x1, .int .u64 S.x2, .int .u64 S.x3, .int .u64 S.x4, .int .u64 S.x5, .int .u64 S.x6, .int .u64 S.x7, .bool S.i, .int .u64 S.x8, .int .u64 S.x9, .int .u64 S.x10, .int .u64 S.x11] 0 w
  exact ⟨e1.trans h.os, e2.trans h.tape, e3.trans h.output, by unfold put13; rw [size_setCellsB]; exact h.size, fun k hk => (heap_setCells b k (fun c => hk (c ▸ hz)) _ _ _).trans (h.block k hk)⟩
theorem put13_QI {w : World} {Z : Nat → Prop} {g b : Nat} {S : Sg} {L : List Qe} (h : QI w (fun k => Z k ∧ k ≠ b) g L) : QI (put13 w b S) Z g L :=
  (h.kept (Nat.le_of_eq (size_setCellsB b _ 0 w).symm) (fun k hk _ => heap_setCells b k hk.2 _ _ _)).mono (fun _ _ hk => hk.1)
theorem QI.drew {w : World} {Z : Nat → Prop} {g : Nat} {L : List Qe} (h : QI w Z g L) : QI w.drew Z g L := h.kept (Nat.le_refl _) (fun _ _ _ => rfl)
theorem QI.drop {w : World} {Z : Nat → Prop} {g F : Nat} {L : List Qe} (h : QI w (fun k => Z k ∧ k ≠ F) g L) : QI w Z g L := h.mono (fun _ _ hk => hk.1)
/-- A queue in blocks that are not F. -/
theorem QI.but {w w' : World} {Z : Nat → Prop} {g F : Nat} {L : List Qe} (h : QI w Z g L) (hF : w.heap.size ≤ F) (hb : Below w.heap.size w w') : QI w' (fun k => Z k ∧ k ≠ F) g L := (h.mono (Z' := fun k => Z k ∧ k ≠ F) (fun k hk hz => ⟨hz, by omega⟩)).call hb
theorem sub_end' {w w4 : World} {Z : Nat → Prop} {g F : Nat} {S : Sg} {L : List Qe} (hQ : QI w4 (fun k => Z k ∧ k ≠ F) g L) (hO : Off Z w w4) (hF : Z F) : QI (put13 w4 F S).drew Z g L ∧ Off Z w (put13 w4 F S).drew := ⟨QI.drew (put13_QI hQ), off_drew (put13_off hO hF)⟩
theorem str_ne {a b : ByteArray} (h : ¬ a = b) : (a.toList == b.toList) = false := by
  rw [beq_eq_false_iff_ne]
  intro c
  rw [Lib.toList_data, Lib.toList_data] at c
  exact h (ByteArray.ext (Array.toList_inj.1 c))
theorem sub_end {w w4 : World} {Z : Nat → Prop} {g F : Nat} {S : Sg} {L : List Qe} (hQ : QI w4 (fun k => Z k ∧ k ≠ F) g L) (hO : Off Z w w4) (hF : Z F) : QI (put13 w4 F S) Z g L ∧ Off Z w (put13 w4 F S) := ⟨put13_QI hQ, put13_off hO hF⟩
end Go.Proofs.Ytolhkpgpcbebiaa
