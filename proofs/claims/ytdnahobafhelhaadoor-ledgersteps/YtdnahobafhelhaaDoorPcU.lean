/- Package parcel: Unpack. -/
import Derived.Test.YtdnahobafhelhaaDoorPcT
namespace Go.Proofs.YtdnahobafhelhaaDoor
open Go Go.RowKit Go.Lib

def upPost (w : World) (s : ByteArray) (e : Ending) (w' : World) : Prop :=
  ∃ a cap, e = .returned (.tuple #[.int .i64 (upK s.data.toList), .slice a (upL s.data.toList).length cap, .int .i64 (upE s.data.toList)]) ∧ Strs w' a (upL s.data.toList) ∧ Below w.heap.size w w'
def upCap (w : World) (s : ByteArray) (e : Ending) (w' : World) : Prop :=
  ∃ a cap, e = .returned (.tuple #[.int .i64 (upK s.data.toList), .slice a (upL s.data.toList).length cap, .int .i64 (upE s.data.toList)]) ∧ Strs w' a (upL s.data.toList) ∧ Below w.heap.size w w' ∧ (upL s.data.toList).length ≤ cap
theorem RowS.len {w : World} {base cap : Nat} {a : Option Addr} {l : List ByteArray} (h : RowS w base a l cap) : l.length ≤ cap := by
  rcases h.2 with ⟨h1, h2⟩ | ⟨g, cap', cur, h1, h2, h3, h4, h5, h6, h7⟩
  · rw [h2]; exact Nat.zero_le _
  · injection h1 with h1 _ h1c
    omega
theorem up_no {t : List UInt8} {e : Int} (h : upE t = e) (h0 : e ≠ 0) : upK t = 0 ∧ upL t = [] ∧ upE t = e := by
  unfold upK upL
  rw [h, if_neg h0, if_neg h0]
  exact ⟨rfl, rfl, rfl⟩
theorem upCap_no {w w' : World} {s : ByteArray} {e : Int} (h : upE s.data.toList = e) (h0 : e ≠ 0) (hb : Below w.heap.size w w') : upCap w s (.returned (.tuple #[.int .i64 0, .slice none 0 0, .int .i64 e])) w' := by
  obtain ⟨h1, h2, h3⟩ := up_no h h0
  refine ⟨none, 0, ?_, ?_, hb, by rw [h2]; exact Nat.le_refl _⟩
  · rw [h1, h2, h3]; rfl
  · rw [h2]; intro j s hj; simp at hj
theorem two_of {t : ByteArray} (h : ¬ t.size < 2) : ∃ x y r, t.data.toList = x :: y :: r := by
  have := ba_len t
  match e : t.data.toList with
  | [] => rw [e] at this; simp at this; omega
  | [x] => rw [e] at this; simp at this; omega
  | x :: y :: r => exact ⟨x, y, r, rfl⟩
theorem upE_two {x y : UInt8} {r : List UInt8} (h : ¬ 20000 < (x :: y :: r).length) : upE (x :: y :: r) = if !(kindB x.toNat) || decide (40 < y.toNat) then 4
    else if (splitL y.toNat r).2.2 ≠ 0 then (splitL y.toNat r).2.2
    else if (splitL y.toNat r).2.1 ≠ [] then 4 else 0 := by
  unfold upE; rw [if_neg h]
end Go.Proofs.YtdnahobafhelhaaDoor
