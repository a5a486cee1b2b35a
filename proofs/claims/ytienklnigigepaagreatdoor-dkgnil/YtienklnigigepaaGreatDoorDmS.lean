/- Texts behind an address; the reference's Number; are two lists of texts equal? -/
import Derived.Test.YtienklnigigepaaGreatDoorDmN
import Derived.Test.YtienklnigigepaaGreatDoorRef4V
import Derived.BigQuiet
namespace Go.Proofs.YtienklnigigepaaGreatDoor
open Go Go.RowKit Go.Lib

theorem below_drewN' {B : Nat} {a w : World} (h : Below B a w) (n : Nat) : Below B a (w.drewN n) := ⟨h.os, h.tape, h.output, h.size, h.block⟩
/-- Texts that lie behind an address. -/
def Strs (w : World) (a : Option Addr) (l : List ByteArray) : Prop :=
  ∀ j s, l[j]? = some s → ∃ p o, a = some ⟨p, o, none⟩ ∧ w.cell? ⟨p, o + j, none⟩ = some (.string s) ∧ p < w.heap.size
theorem Strs.call {w w' : World} {a : Option Addr} {l : List ByteArray} (h : Strs w a l) (hb : Below w.heap.size w w') : Strs w' a l := fun j s hj => by
  obtain ⟨p, o, h1, h2, h3⟩ := h j s hj
  exact ⟨p, o, h1, (hb.cell (p := ⟨p, o + j, none⟩) h3).trans h2, Nat.lt_of_lt_of_le h3 hb.size⟩
theorem Strs.get {w : World} {a : Option Addr} {l : List ByteArray} (h : Strs w a l) {k : Nat} (hk : k < l.length) : ∃ p o, a = some ⟨p, o, none⟩ ∧ w.cell? ⟨p, o + k, none⟩ = some (.string (l[k]'hk)) ∧ p < w.heap.size :=
  h k _ (List.getElem?_eq_getElem hk)

theorem u8wrap (n : Nat) : IntKind.u8.wrap (n : Int) = ((UInt8.ofNat n).toNat : Int) := by
  rw [IntKind.wrap_u8]
  simp
def one (x : UInt8) : ByteArray := ⟨#[x]⟩
theorem conv_one (y : UInt8) (w : World) : (convert 95 9 (.slice (some ⟨w.heap.size, 0, none⟩) 1 1)).run Tryz.prog (w.alloc (.cells #[.int .u8 (y.toNat : Int)] 5)) = .ok (.string (one y)) (w.alloc (.cells #[.int .u8 (y.toNat : Int)] 5)) := by
  have g2 := run_convert_bytes_back (P := Tryz.prog) (w.alloc (.cells #[.int .u8 (y.toNat : Int)] 5)) 95 9 5 ⟨w.heap.size, 0, none⟩ 1 [y] Tryz.underlying95 Tryz.underlying5 Tryz.underlying9 (fun j hj => by
    have hj' : j = 0 := by simpa using hj
    subst hj'
    simp [go_sem])
  exact g2
theorem toList_ne {s t : ByteArray} (h : s ≠ t) : (s.toList == t.toList) = false := by
  rw [ByteArray.toList_eq, ByteArray.toList_eq]
  exact beq_eq_false_iff_ne.2 fun c => h (ba_ext c)
theorem take_succ_eq {l m : List ByteArray} {k : Nat} (h1 : k < l.length) (h2 : k < m.length) (ht : l.take k = m.take k) (he : (l[k]'h1) = (m[k]'h2)) : l.take (k + 1) = m.take (k + 1) := by
  rw [List.take_succ_eq_append_getElem h1, List.take_succ_eq_append_getElem h2, ht, he]
end Go.Proofs.YtienklnigigepaaGreatDoor
