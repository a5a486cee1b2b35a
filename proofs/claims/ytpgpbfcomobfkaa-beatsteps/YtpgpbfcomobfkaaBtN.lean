/- Package beat, over plain numbers: a watch, and what each call makes of it. -/
import Derived.Test.YtpgpbfcomobfkaaRows
import Derived.WalkKit
namespace Go.Proofs.Ytpgpbfcomobfkaa
open Go

/-- A watch: how many nodes, itself, its now; of each node when it was heard last, its timeout, whether it is silent. -/
structure Wt where
  n : Nat
  self : Nat
  now : Nat
  h : Nat → Nat
  t : Nat → Nat
  s : Nat → Bool
/-- What every watch keeps. -/
structure Wt.Ok (x : Wt) : Prop where
  n1 : 1 ≤ x.n
  n10 : x.n ≤ 10
  s1 : 1 ≤ x.self
  sn : x.self ≤ x.n
  now : x.now ≤ 1099511627776
  h : ∀ k, x.h k ≤ 1099511627776
  t : ∀ k, x.t k ≤ 64
  s : x.s x.self = false
def newW (n self now : Nat) : Wt := ⟨n, self, now, fun _ => now, fun _ => 4, fun _ => false⟩
theorem newW_ok {n self now : Nat} (h1 : 1 ≤ n) (h2 : n ≤ 10) (h3 : 1 ≤ self) (h4 : self ≤ n) (h5 : now ≤ 1099511627776) : (newW n self now).Ok :=
  ⟨h1, h2, h3, h4, h5, fun _ => h5, fun _ => (by decide : 4 ≤ 64), rfl⟩
def dbl (b : Bool) (t : Nat) : Nat := if b then min (2 * t) 64 else t
def heardW (x : Wt) (k m : Nat) : Wt :=
  ⟨x.n, x.self, m, fun j => if j = k then m else x.h j, fun j => if j = k then dbl (x.s j) (x.t j) else x.t j, fun j => if j = k then false else x.s j⟩
theorem dbl_le {b : Bool} {t : Nat} (h : t ≤ 64) : dbl b t ≤ 64 := by
  unfold dbl; split
  · exact Nat.min_le_right _ _
  · exact h
theorem heardW_ok {x : Wt} (h : x.Ok) {k m : Nat} (hm : m ≤ 1099511627776) : (heardW x k m).Ok :=
  ⟨h.n1, h.n10, h.s1, h.sn, hm, fun j => by unfold heardW; simp only; split; exact hm; exact h.h j,
   fun j => by unfold heardW; simp only; split; exact dbl_le (h.t j); exact h.t j,
   by unfold heardW; simp only; split; rfl; exact h.s⟩
/-- Is a node silent from now on? -/
def lateB (x : Wt) (k : Nat) : Bool := decide (k ≠ x.self) && (!x.s k && decide (x.h k + x.t k < x.now))
def atW (x : Wt) (m : Nat) : Wt := ⟨x.n, x.self, m, x.h, x.t, x.s⟩
theorem atW_ok {x : Wt} (h : x.Ok) {m : Nat} (hm : m ≤ 1099511627776) : (atW x m).Ok := ⟨h.n1, h.n10, h.s1, h.sn, hm, h.h, h.t, h.s⟩
/-- Behind the first k nodes were looked at. -/
def partW (x : Wt) (k : Nat) : Wt := ⟨x.n, x.self, x.now, x.h, x.t, fun j => x.s j || (decide (1 ≤ j) && (decide (j ≤ k) && lateB x j))⟩
def checkW (x : Wt) (m : Nat) : Wt := partW (atW x m) x.n
theorem partW_ok {x : Wt} (h : x.Ok) (k : Nat) : (partW x k).Ok :=
  ⟨h.n1, h.n10, h.s1, h.sn, h.now, h.h, h.t, by
    have e : lateB x x.self = false := by unfold lateB; simp
    show (x.s x.self || (decide (1 ≤ x.self) && (decide (x.self ≤ k) && lateB x x.self))) = false
    rw [h.s, e]; simp⟩
theorem checkW_ok {x : Wt} (h : x.Ok) {m : Nat} (hm : m ≤ 1099511627776) : (checkW x m).Ok := partW_ok (atW_ok h hm) _
/-- The numbers from 1 to k of which something is so. -/
def lsN (p : Nat → Bool) : Nat → List Int
  | 0 => []
  | k + 1 => lsN p k ++ (if p (k + 1) then [((k + 1 : Nat) : Int)] else [])
theorem lsN_yes {p : Nat → Bool} {k : Nat} (h : p (k + 1) = true) : lsN p (k + 1) = lsN p k ++ [((k + 1 : Nat) : Int)] := by rw [lsN, h]; rfl
theorem lsN_no {p : Nat → Bool} {k : Nat} (h : p (k + 1) = false) : lsN p (k + 1) = lsN p k := by rw [lsN, h]; simp
theorem lsN_len (p : Nat → Bool) : ∀ k, (lsN p k).length ≤ k
  | 0 => Nat.le_refl _
  | k + 1 => by
    have := lsN_len p k
    rw [lsN]; split <;> simp <;> omega
theorem lsN_mem {p : Nat → Bool} {v : Int} : ∀ {k : Nat}, v ∈ lsN p k ↔ ∃ j : Nat, v = (j : Nat) ∧ 1 ≤ j ∧ j ≤ k ∧ p j = true
  | 0 => by
    constructor
    · intro h; cases h
    · rintro ⟨j, _, h1, h2, _⟩; omega
  | k + 1 => by
    rw [lsN, List.mem_append, lsN_mem]
    constructor
    · rintro (⟨j, h1, h2, h3, h4⟩ | h)
      · exact ⟨j, h1, h2, by omega, h4⟩
      · cases e : p (k + 1) with
        | false => rw [e] at h; simp at h
        | true => rw [e] at h; simp at h; exact ⟨k + 1, by omega, by omega, Nat.le_refl _, e⟩
    · rintro ⟨j, h1, h2, h3, h4⟩
      by_cases c : j = k + 1
      · subst c; right; rw [h4]; simp [h1]
      · left; exact ⟨j, h1, h2, by omega, h4⟩
def lateL (x : Wt) : List Int := lsN (lateB x) x.n
def silL (x : Wt) : List Int := lsN x.s x.n
theorem lsN_congr {p q : Nat → Bool} : ∀ {k : Nat}, (∀ j, 1 ≤ j → j ≤ k → p j = q j) → lsN p k = lsN q k
  | 0, _ => rfl
  | k + 1, h => by rw [lsN, lsN, lsN_congr (k := k) (fun j h1 h2 => h j h1 (by omega)), h (k + 1) (by omega) (Nat.le_refl _)]
end Go.Proofs.Ytpgpbfcomobfkaa
