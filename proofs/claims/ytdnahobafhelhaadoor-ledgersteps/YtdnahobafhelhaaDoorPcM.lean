/- The items that bytes begin with: the plain mathematics. -/
import Derived.Test.YtdnahobafhelhaaDoorMgA
namespace Go.Proofs.YtdnahobafhelhaaDoor
open Go Go.Lib

/-- The items, the bytes behind them, and what is wrong with the first that is none. -/
def splitL : Nat → List UInt8 → List ByteArray × List UInt8 × Int
  | 0, t => ([], t, 0)
  | c + 1, x :: y :: r =>
    if 8000 < 256 * x.toNat + y.toNat then ([], r, 2)
    else if r.length < 256 * x.toNat + y.toNat then ([], r, 90)
    else (ofL (r.take (256 * x.toNat + y.toNat)) :: (splitL c (r.drop (256 * x.toNat + y.toNat))).1, (splitL c (r.drop (256 * x.toNat + y.toNat))).2)
  | _ + 1, t => ([], t, 90)
theorem splitL_zero (t : List UInt8) : splitL 0 t = ([], t, 0) := rfl
theorem splitL_short (c : Nat) (t : List UInt8) (h : t.length < 2) : splitL (c + 1) t = ([], t, 90) := by
  match t, h with
  | [], _ => rfl
  | [x], _ => rfl
theorem splitL_long (c : Nat) (x y : UInt8) (r : List UInt8) (h : 8000 < 256 * x.toNat + y.toNat) : splitL (c + 1) (x :: y :: r) = ([], r, 2) := by
  unfold splitL; rw [if_pos h]
theorem splitL_cut (c : Nat) (x y : UInt8) (r : List UInt8) (h : ¬ 8000 < 256 * x.toNat + y.toNat) (h2 : r.length < 256 * x.toNat + y.toNat) : splitL (c + 1) (x :: y :: r) = ([], r, 90) := by
  unfold splitL; rw [if_neg h, if_pos h2]
theorem splitL_one (c : Nat) (x y : UInt8) (r : List UInt8) (h : ¬ 8000 < 256 * x.toNat + y.toNat) (h2 : ¬ r.length < 256 * x.toNat + y.toNat) :
    splitL (c + 1) (x :: y :: r) = (ofL (r.take (256 * x.toNat + y.toNat)) :: (splitL c (r.drop (256 * x.toNat + y.toNat))).1, (splitL c (r.drop (256 * x.toNat + y.toNat))).2) := by
  rw [splitL, if_neg h, if_neg h2]
theorem splitL_len (c : Nat) : ∀ t, (splitL c t).1.length ≤ c := by
  induction c with
  | zero => intro t; simp [splitL]
  | succ c ih =>
    intro t
    match t with
    | [] => simp [splitL]
    | [x] => simp [splitL]
    | x :: y :: r =>
      by_cases h : 8000 < 256 * x.toNat + y.toNat
      · rw [splitL_long c x y r h]; simp
      · by_cases h2 : r.length < 256 * x.toNat + y.toNat
        · rw [splitL_cut c x y r h h2]; simp
        · rw [splitL_one c x y r h h2]
          simp only [List.length_cons]
          have := ih (r.drop (256 * x.toNat + y.toNat))
          omega
/-- What Unpack answers. -/
def upE (t : List UInt8) : Int :=
  if 20000 < t.length then 2
  else match t with
  | x :: y :: r =>
    if !(kindB x.toNat) || decide (40 < y.toNat) then 4
    else if (splitL y.toNat r).2.2 ≠ 0 then (splitL y.toNat r).2.2
    else if (splitL y.toNat r).2.1 ≠ [] then 4 else 0
  | _ => 90
def upK (t : List UInt8) : Int := if upE t = 0 then (t.headD 0).toNat else 0
def upL (t : List UInt8) : List ByteArray := if upE t = 0 then (match t with | _ :: y :: r => (splitL y.toNat r).1 | _ => []) else []
end Go.Proofs.YtdnahobafhelhaaDoor
