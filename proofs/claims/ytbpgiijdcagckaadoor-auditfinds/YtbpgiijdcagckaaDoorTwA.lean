/- Which nonce was used twice first: the plain mathematics. -/
import Derived.Test.YtbpgiijdcagckaaDoorProg
namespace Go.Proofs.YtbpgiijdcagckaaDoor
/-- The first one ahead of k that is alike with j. -/
def fstI (E : Nat → Nat → Bool) (j : Nat) : Nat → Option Nat
  | 0 => none
  | k + 1 => match fstI E j k with
    | some i => some i
    | none => if E k j = true then some k else none
theorem fstI_none {E : Nat → Nat → Bool} {j : Nat} : ∀ {k : Nat}, fstI E j k = none → ∀ i, i < k → E i j = false
  | 0, _, i, hi => absurd hi (Nat.not_lt_zero _)
  | k + 1, h, i, hi => by
    unfold fstI at h
    cases hk : fstI E j k with
    | some x => rw [hk] at h; cases h
    | none =>
      rw [hk] at h
      by_cases c : E k j = true
      · simp [c] at h
      · by_cases d : i < k
        · exact fstI_none hk i d
        · obtain rfl : i = k := by omega
          simpa using c
theorem fstI_some {E : Nat → Nat → Bool} {j i : Nat} : ∀ {k : Nat}, fstI E j k = some i → i < k ∧ E i j = true ∧ ∀ x, x < i → E x j = false
  | 0, h => by cases h
  | k + 1, h => by
    unfold fstI at h
    cases hk : fstI E j k with
    | some x =>
      rw [hk] at h
      obtain rfl : x = i := by simpa using h
      have := fstI_some hk
      exact ⟨by omega, this.2⟩
    | none =>
      rw [hk] at h
      by_cases c : E k j = true
      · rw [if_pos c] at h
        obtain rfl : k = i := by simpa using h
        exact ⟨by omega, c, fstI_none hk⟩
      · rw [if_neg c] at h
        cases h
theorem fstI_of_none {E : Nat → Nat → Bool} {j : Nat} : ∀ {k : Nat}, (∀ i, i < k → E i j = false) → fstI E j k = none
  | 0, _ => rfl
  | k + 1, h => by
    unfold fstI
    rw [fstI_of_none fun i hi => h i (by omega)]
    simp [h k (by omega)]
theorem fstI_up {E : Nat → Nat → Bool} {j i k : Nat} (h : fstI E j k = some i) : ∀ m, fstI E j (k + m) = some i
  | 0 => h
  | m + 1 => by
    rw [← Nat.add_assoc]
    unfold fstI
    rw [fstI_up h m]
theorem fstI_of_some {E : Nat → Nat → Bool} {j i k : Nat} (hi : i < k) (h1 : E i j = true) (h2 : ∀ x, x < i → E x j = false) : fstI E j k = some i := by
  have h : fstI E j (i + 1) = some i := by
    unfold fstI
    rw [fstI_of_none h2]
    simp [h1]
  have := fstI_up h (k - (i + 1))
  rw [show i + 1 + (k - (i + 1)) = k by omega] at this
  exact this
/-- Used for two: alike, and not the same. -/
def cfI (E C : Nat → Nat → Bool) (i j : Nat) : Bool := E i j && !C i j
/-- The first j with one ahead of it; the first such one. -/
def twI (E C : Nat → Nat → Bool) : Nat → Option (Nat × Nat)
  | 0 => none
  | k + 1 => match twI E C k with
    | some x => some x
    | none => (fstI (cfI E C) k k).map fun i => (i, k)
theorem twI_none {E C : Nat → Nat → Bool} : ∀ {k : Nat}, twI E C k = none → ∀ j, j < k → ∀ i, i < j → cfI E C i j = false
  | 0, _, j, hj, _, _ => absurd hj (Nat.not_lt_zero _)
  | k + 1, h, j, hj, i, hi => by
    unfold twI at h
    cases hk : twI E C k with
    | some x => rw [hk] at h; cases h
    | none =>
      rw [hk] at h
      by_cases d : j < k
      · exact twI_none hk j d i hi
      · obtain rfl : j = k := by omega
        exact fstI_none (by simpa using h) i hi
theorem twI_up {E C : Nat → Nat → Bool} {k : Nat} {x : Nat × Nat} (h : twI E C k = some x) : ∀ m, twI E C (k + m) = some x
  | 0 => h
  | m + 1 => by
    rw [← Nat.add_assoc]
    unfold twI
    rw [twI_up h m]
theorem twI_some {E C : Nat → Nat → Bool} {i j n : Nat} (hj : j < n) (h0 : twI E C j = none) (h : fstI (cfI E C) j j = some i) : twI E C n = some (i, j) := by
  have h1 : twI E C (j + 1) = some (i, j) := by
    unfold twI
    rw [h0, h]
    rfl
  have := twI_up h1 (n - (j + 1))
  rw [show j + 1 + (n - (j + 1)) = n by omega] at this
  exact this
theorem twI_step {E C : Nat → Nat → Bool} {j : Nat} (h0 : twI E C j = none) (h : fstI (cfI E C) j j = none) : twI E C (j + 1) = none := by
  unfold twI
  rw [h0, h]
  rfl
/-- What alike is. -/
structure EqR (E : Nat → Nat → Bool) : Prop where
  refl : ∀ i, E i i = true
  symm : ∀ i j, E i j = true → E j i = true
  trans : ∀ i j k, E i j = true → E j k = true → E i k = true
/-- Of a new one there is none ahead. -/
theorem tw_new {E C : Nat → Nat → Bool} {k : Nat} (h : fstI E k k = none) : fstI (cfI E C) k k = none :=
  fstI_of_none fun i hi => by unfold cfI; rw [fstI_none h i hi, Bool.false_and]
/-- Of one that is the same as the first one there is none. -/
theorem tw_same {E C : Nat → Nat → Bool} {k i : Nat} (RE : EqR E) (RC : EqR C) (h0 : twI E C k = none) (h : fstI E k k = some i) (hc : C i k = true) : fstI (cfI E C) k k = none :=
  fstI_of_none fun x hx => by
    obtain ⟨hi, he, hf⟩ := fstI_some h
    unfold cfI
    cases hE : E x k with
    | false => rfl
    | true =>
      have hxi : i ≤ x := by
        by_cases c : x < i
        · rw [hf x c] at hE; cases hE
        · omega
      by_cases c : i = x
      · subst c
        rw [hc]
        rfl
      · have h1 := twI_none h0 x hx i (by omega)
        have h2 : E i x = true := RE.trans i k x he (RE.symm x k hE)
        unfold cfI at h1
        rw [h2, Bool.true_and] at h1
        have h3 : C i x = true := by simpa using h1
        rw [RC.trans x i k (RC.symm i x h3) hc]
        rfl
/-- Of one that is not the same as the first one that is the first. -/
theorem tw_other {E C : Nat → Nat → Bool} {k i : Nat} (h : fstI E k k = some i) (hc : C i k = false) : fstI (cfI E C) k k = some i := by
  obtain ⟨hi, he, hf⟩ := fstI_some h
  exact fstI_of_some hi (by unfold cfI; rw [he, hc]; rfl) fun x hx => by unfold cfI; rw [hf x hx, Bool.false_and]
/-- How many unlike ones there are. -/
def dsI (E : Nat → Nat → Bool) : Nat → Nat
  | 0 => 0
  | k + 1 => dsI E k + (if (fstI E k k).isNone then 1 else 0)
theorem dsI_le (E : Nat → Nat → Bool) : ∀ k, dsI E k ≤ k
  | 0 => Nat.le_refl _
  | k + 1 => by
    have := dsI_le E k
    unfold dsI
    split <;> omega
theorem fstI_succ (E : Nat → Nat → Bool) (j k : Nat) : fstI E j (k + 1) = match fstI E j k with
    | some i => some i
    | none => if E k j = true then some k else none := rfl
/-- What a map of the first ones is, one on. -/
theorem fstI_step {E : Nat → Nat → Bool} (RE : EqR E) (j k : Nat) : fstI E j (k + 1) = match fstI E k k with
    | some _ => fstI E j k
    | none => if E k j = true then some k else fstI E j k := by
  rw [fstI_succ]
  cases hj : fstI E j k with
  | some i =>
    cases hk : fstI E k k with
    | some x => rfl
    | none =>
      obtain ⟨hi, he, -⟩ := fstI_some hj
      have h1 := fstI_none hk i hi
      have h2 : E k j = false := by
        cases c : E k j with
        | false => rfl
        | true => rw [RE.trans i j k he (RE.symm k j c)] at h1; cases h1
      simp [h2]
  | none =>
    cases hk : fstI E k k with
    | none => rfl
    | some x =>
      obtain ⟨hx, he, -⟩ := fstI_some hk
      have h1 := fstI_none hj x hx
      have h2 : E k j = false := by
        cases c : E k j with
        | false => rfl
        | true => rw [RE.trans x k j he c] at h1; cases h1
      simp [h2]
end Go.Proofs.YtbpgiijdcagckaaDoor
