/- Package king, over plain numbers: a node, what it hears, a round. -/
import Derived.Test.YtcahfkfafdoilaaRows
import Derived.WalkKit
namespace Go.Proofs.Ytcahfkfafdoilaa
open Go

/-- A node: how many nodes, how many fail, its value, how many rounds it went through, whether it heeds no king. -/
structure Kn where
  n : Nat
  f : Nat
  v : Nat
  r : Nat
  m : Bool
/-- The word as which a number is heard. -/
def hw (x : Int) : Nat := if x = 0 then 0 else if x = 1 then 1 else 2
theorem hw_le (x : Int) : hw x ≤ 2 := by unfold hw; split <;> (try split) <;> omega
/-- How often a word was told. -/
def cnt (l : List Int) (k : Nat) : Nat := l.countP (fun x => hw x == k)
theorem cnt_le (l : List Int) (k : Nat) : cnt l k ≤ l.length := List.countP_le_length
theorem cnt_snoc (l : List Int) (x : Int) (k : Nat) : cnt (l ++ [x]) k = cnt l k + if hw x = k then 1 else 0 := by
  unfold cnt; rw [List.countP_append]; simp [List.countP_cons]
theorem take_snoc {α : Type} {l : List α} {i : Nat} {x : α} (h : l[i]? = some x) : l.take (i + 1) = l.take i ++ [x] := by
  rw [List.take_add_one, h]; rfl
structure Kn.Ok (x : Kn) : Prop where
  n1 : 1 ≤ x.n
  n10 : x.n ≤ 10
  hf : 3 * x.f < x.n
  hv : x.v ≤ 2
  hr : x.r ≤ 3 * (x.f + 1)
def firstV (n f c0 c1 : Nat) : Nat := if n - f ≤ c1 then 1 else if n - f ≤ c0 then 0 else 2
def secondV (f c0 c1 c2 v : Nat) : Nat := if f < c0 then 0 else if f < c1 then 1 else if f < c2 then 2 else v
def thirdV (m : Bool) (v k : Nat) : Nat := if m then v else if k = 0 then 0 else 1
def firmB (n f v c : Nat) : Bool := decide (v ≠ 2) && decide (n - f ≤ c)
def firstK (x : Kn) (l : List Int) : Kn := { x with v := firstV x.n x.f (cnt l 0) (cnt l 1), r := x.r + 1 }
def secondK (x : Kn) (l : List Int) : Kn :=
  { x with v := secondV x.f (cnt l 0) (cnt l 1) (cnt l 2) x.v, m := firmB x.n x.f (secondV x.f (cnt l 0) (cnt l 1) (cnt l 2) x.v) (cnt l (secondV x.f (cnt l 0) (cnt l 1) (cnt l 2) x.v)), r := x.r + 1 }
def thirdK (x : Kn) (l : List Int) : Kn := { x with v := thirdV x.m x.v (hw (l.getD (x.r / 3) 2)), r := x.r + 1 }
/-- A round. -/
def stepK (x : Kn) (l : List Int) : Kn := if x.r % 3 = 0 then firstK x l else if x.r % 3 = 1 then secondK x l else thirdK x l
theorem firstV_le (n f a b : Nat) : firstV n f a b ≤ 2 := by unfold firstV; split <;> (try split) <;> omega
theorem secondV_le {f a b c v : Nat} (h : v ≤ 2) : secondV f a b c v ≤ 2 := by unfold secondV; split <;> (try split) <;> (try split) <;> omega
theorem thirdV_le {m : Bool} {v k : Nat} (h : v ≤ 2) : thirdV m v k ≤ 2 := by unfold thirdV; split <;> (try split) <;> omega
theorem stepK_n (x : Kn) (l : List Int) : (stepK x l).n = x.n := by unfold stepK; split <;> (try split) <;> rfl
theorem stepK_f (x : Kn) (l : List Int) : (stepK x l).f = x.f := by unfold stepK; split <;> (try split) <;> rfl
theorem stepK_r (x : Kn) (l : List Int) : (stepK x l).r = x.r + 1 := by unfold stepK; split <;> (try split) <;> rfl
theorem Kn.Ok.step {x : Kn} (h : x.Ok) (l : List Int) (hr : x.r < 3 * (x.f + 1)) : (stepK x l).Ok := by
  refine ⟨by rw [stepK_n]; exact h.n1, by rw [stepK_n]; exact h.n10, by rw [stepK_n, stepK_f]; exact h.hf, ?_, by rw [stepK_r, stepK_f]; exact hr⟩
  unfold stepK
  split
  · exact firstV_le _ _ _ _
  · split
    · exact secondV_le h.hv
    · exact thirdV_le h.hv
def newK (n f v : Nat) : Kn := ⟨n, f, v, 0, false⟩
theorem newK_ok {n f v : Nat} (n1 : 1 ≤ n) (n10 : n ≤ 10) (hf : 3 * f < n) (hv : v ≤ 1) : (newK n f v).Ok := ⟨n1, n10, hf, Nat.le_trans hv (by decide), Nat.zero_le _⟩
end Go.Proofs.Ytcahfkfafdoilaa
