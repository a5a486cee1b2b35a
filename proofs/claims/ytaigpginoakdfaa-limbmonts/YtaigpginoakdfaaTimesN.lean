/- A product by rows of digits: plain lists; no program in sight. -/
import Derived.Test.YtaigpginoakdfaaDgN
namespace Go.Proofs.Ytaigpginoakdfaa

theorem dval_set : ∀ (l : List Nat) (j d : Nat), j < l.length → dval (l.set j d) + 65536 ^ j * dget l j = dval l + 65536 ^ j * d
  | [], j, d, h => by simp at h
  | x :: r, 0, d, _ => by simp [dval, dget]; omega
  | x :: r, j + 1, d, h => by
    have ih := dval_set r j d (by simpa using h)
    have e : dget (x :: r) (j + 1) = dget r j := by simp [dget]
    rw [e, List.set_cons_succ, dval, dval, Nat.pow_succ, Nat.mul_comm (65536 ^ j) 65536, Nat.mul_assoc, Nat.mul_assoc]
    omega
theorem dget_set (l : List Nat) (j d i : Nat) (h : j < l.length) : dget (l.set j d) i = if i = j then d else dget l i := by
  unfold dget
  rw [List.getD_eq_getElem?_getD, List.getD_eq_getElem?_getD, List.getElem?_set]
  by_cases e : j = i
  · subst e
    simp [h]
  · rw [if_neg e, if_neg (fun c => e c.symm)]
theorem Dok.set {l : List Nat} {j d : Nat} (h : Dok l) (hd : d < 65536) : Dok (l.set j d) := by
  intro x hx
  rcases List.mem_or_eq_of_mem_set hx with g | g
  · exact h x g
  · omega

/-- Behind i rows. -/
def TimesAt (a b : List Nat) (i : Nat) (o : List Nat) : Prop :=
  Dok o ∧ o.length = a.length + b.length ∧ (∀ j, i + b.length ≤ j → dget o j = 0) ∧ dval o = dpre a i * dval b
/-- In row i, behind k digits, with the carry c. -/
def RowAt (a b : List Nat) (i k c : Nat) (o : List Nat) : Prop :=
  Dok o ∧ o.length = a.length + b.length ∧ (∀ j, i + b.length ≤ j → dget o j = 0) ∧ c < 65536 ∧ dval o + 65536 ^ (i + k) * c = dpre a i * dval b + 65536 ^ i * (dget a i * dpre b k)
theorem dval_zeros : ∀ n, dval (List.replicate n 0) = 0
  | 0 => rfl
  | n + 1 => by rw [List.replicate_succ, dval, dval_zeros n]
theorem TimesAt.start (a b : List Nat) : TimesAt a b 0 (List.replicate (a.length + b.length) 0) := by
  refine ⟨?_, by simp, ?_, ?_⟩
  · intro d hd
    simp at hd
    omega
  · intro j _
    unfold dget
    rw [List.getD_eq_getElem?_getD, List.getElem?_replicate]
    split <;> rfl
  · rw [dval_zeros]; simp [dpre]
theorem TimesAt.row {a b : List Nat} {i : Nat} {o : List Nat} (h : TimesAt a b i o) : RowAt a b i 0 0 o :=
  ⟨h.1, h.2.1, h.2.2.1, by omega, by simp [dpre, h.2.2.2]⟩
theorem times_arith (P s q o x c V V' T : Nat) (h1 : V' + P * o = V + P * (s % 65536)) (hs : s = o + x + c) (hq : s = s % 65536 + 65536 * q) (h2 : V + P * c = T) : V' + P * 65536 * q = T + P * x := by
  have e : P * s = P * (s % 65536) + P * 65536 * q := by
    conv => lhs; rw [hq]
    rw [Nat.mul_add, Nat.mul_assoc]
  have e2 : P * s = P * o + P * x + P * c := by rw [hs, Nat.mul_add, Nat.mul_add]
  omega
theorem RowAt.step {a b : List Nat} {i k c : Nat} {o : List Nat} (ha : Dok a) (hb : Dok b) (hi : i < a.length) (hk : k < b.length) (h : RowAt a b i k c o) (s : Nat) (hs : s = dget o (i + k) + dget a i * dget b k + c) :
    RowAt a b i (k + 1) (s / 65536) (o.set (i + k) (s % 65536)) := by
  obtain ⟨h1, h2, h3, h4, h5⟩ := h
  have ga := dget_lt ha i
  have gb := dget_lt hb k
  have go := dget_lt h1 (i + k)
  have gp : dget a i * dget b k ≤ 65535 * 65535 := Nat.mul_le_mul (by omega) (by omega)
  refine ⟨h1.set (by omega), by simp [h2], ?_, by omega, ?_⟩
  · intro j hj
    rw [dget_set _ _ _ _ (by omega), if_neg (by omega)]
    exact h3 j hj
  · have e1 := dval_set o (i + k) (s % 65536) (by omega)
    have e2 := times_arith (65536 ^ (i + k)) s (s / 65536) _ _ c _ _ _ e1 hs (by omega) h5
    rw [show i + (k + 1) = i + k + 1 from rfl, Nat.pow_succ, e2, dpre, Nat.mul_add, Nat.mul_add, Nat.add_assoc]
    congr 2
    rw [Nat.pow_add, Nat.mul_assoc, Nat.mul_left_comm (65536 ^ k)]
theorem RowAt.lt {a b : List Nat} {i k c : Nat} {o : List Nat} (ha : Dok a) (hb : Dok b) (h : RowAt a b i k c o) : dget o (i + k) < 65536 ∧ dget a i * dget b k ≤ 4294836225 ∧ c < 65536 :=
  ⟨dget_lt h.1 _, Nat.mul_le_mul (Nat.le_of_lt_succ (dget_lt ha i)) (Nat.le_of_lt_succ (dget_lt hb k)), h.2.2.2.1⟩
theorem RowAt.done {a b : List Nat} {i c : Nat} {o : List Nat} (hi : i < a.length) (h : RowAt a b i b.length c o) : dget o (i + b.length) = 0 ∧ TimesAt a b (i + 1) (o.set (i + b.length) c) := by
  obtain ⟨h1, h2, h3, h4, h5⟩ := h
  have z := h3 (i + b.length) (Nat.le_refl _)
  refine ⟨z, h1.set h4, by simp [h2], ?_, ?_⟩
  · intro j hj
    rw [dget_set _ _ _ _ (by omega), if_neg (by omega)]
    exact h3 j (by omega)
  · have e1 := dval_set o (i + b.length) c (by omega)
    rw [z, Nat.mul_zero, Nat.add_zero] at e1
    rw [e1, h5, dpre, dpre_eq b b.length (Nat.le_refl _), Nat.add_mul, Nat.mul_assoc]
theorem TimesAt.done {a b : List Nat} {o : List Nat} (h : TimesAt a b a.length o) : Dok o ∧ o.length = a.length + b.length ∧ dval o = dval a * dval b := by
  obtain ⟨h1, h2, _, h4⟩ := h
  rw [dpre_eq a a.length (Nat.le_refl _)] at h4
  exact ⟨h1, h2, h4⟩
end Go.Proofs.Ytaigpginoakdfaa
