/- Plain lists of digits of 16 bits and the numbers that they are; no program in sight. -/
import Derived.Test.YtaigpginoakdfaaNum
namespace Go.Proofs.Ytaigpginoakdfaa

/-- The number of a list of digits, the lowest first. -/
def dval : List Nat → Nat
  | [] => 0
  | d :: r => d + 65536 * dval r
def Dok (l : List Nat) : Prop := ∀ d ∈ l, d < 65536
theorem dval_append (a b : List Nat) : dval (a ++ b) = dval a + 65536 ^ a.length * dval b := by
  induction a with
  | nil => simp [dval]
  | cons d r ih =>
    simp only [List.cons_append, dval, ih, List.length_cons, Nat.pow_succ, Nat.mul_add, Nat.add_assoc]
    congr 1
    rw [Nat.mul_comm (65536 ^ r.length) 65536, Nat.mul_assoc]
theorem dval_lt (l : List Nat) (h : Dok l) : dval l < 65536 ^ l.length := by
  induction l with
  | nil => simp [dval]
  | cons d r ih =>
    have h1 : d < 65536 := h d (by simp)
    have h2 := ih (fun x hx => h x (by simp [hx]))
    simp only [dval, List.length_cons, Nat.pow_succ]
    omega
theorem Dok.snoc {l : List Nat} {d : Nat} (h : Dok l) (hd : d < 65536) : Dok (l ++ [d]) := by
  intro x hx
  rcases List.mem_append.1 hx with g | g
  · exact h x g
  · simp at g; omega
theorem Dok_nil : Dok [] := fun _ h => by cases h
theorem Dok.getD {l : List Nat} (h : Dok l) (i : Nat) : l.getD i 0 < 65536 := by
  rw [List.getD_eq_getElem?_getD]
  cases e : l[i]? with
  | none => simp
  | some d => simpa using h d (List.mem_of_getElem? e)
def dget (l : List Nat) (i : Nat) : Nat := l.getD i 0
theorem dget_lt {l : List Nat} (h : Dok l) (i : Nat) : dget l i < 65536 := Dok.getD h i
theorem dget_ge (l : List Nat) (i : Nat) (h : l.length ≤ i) : dget l i = 0 := by
  unfold dget; rw [List.getD_eq_getElem?_getD, List.getElem?_eq_none h]; rfl
/-- The value of the first k digits (0 behind the last). -/
def dpre (l : List Nat) : Nat → Nat
  | 0 => 0
  | k + 1 => dpre l k + 65536 ^ k * dget l k
theorem dpre_eq (l : List Nat) (k : Nat) (h : l.length ≤ k) : dpre l k = dval l := by
  have gen : ∀ k, dpre l k = dval (l.take k) := by
    intro k
    induction k with
    | zero => simp [dpre, dval]
    | succ k ih =>
      by_cases hk : k < l.length
      · rw [List.take_succ_eq_append_getElem hk, dval_append, dpre, ih]
        simp [dval, dget, hk, Nat.min_eq_left (Nat.le_of_lt hk)]
      · rw [dpre, ih, List.take_of_length_le (by omega), List.take_of_length_le (by omega)]
        simp [dget, hk]
  rw [gen, List.take_of_length_le h]
theorem dval_snoc (l : List Nat) (d : Nat) : dval (l ++ [d]) = dval l + 65536 ^ l.length * d := by
  rw [dval_append]; simp [dval]

/-- Digit t of a number. -/
def dig (a t : Nat) : Nat := a / 65536 ^ t % 65536
def digL (a m : Nat) : List Nat := (List.range m).map (dig a)
theorem dig_lt (a t : Nat) : dig a t < 65536 := Nat.mod_lt _ (by decide)
theorem digL_length (a m : Nat) : (digL a m).length = m := by simp [digL]
theorem digL_succ (a m : Nat) : digL a (m + 1) = digL a m ++ [dig a m] := by simp [digL, List.range_succ]
theorem digL_ok (a m : Nat) : Dok (digL a m) := by
  intro d hd
  simp [digL] at hd
  obtain ⟨t, _, rfl⟩ := hd
  exact dig_lt a t
theorem dval_digL (a m : Nat) : dval (digL a m) = a % 65536 ^ m := by
  induction m with
  | zero => simp [digL, dval, Nat.mod_one]
  | succ m ih =>
    rw [digL_succ, dval_snoc, ih, digL_length]
    unfold dig
    rw [Nat.pow_succ, Nat.mod_mul]
theorem dval_digL16 (a : Nat) (h : a < R256) : dval (digL a 16) = a := by
  rw [dval_digL, Nat.mod_eq_of_lt]
  exact h
theorem limb_dig (a i k : Nat) (hk : k < 4) : limb a i / 65536 ^ k % 65536 = dig a (4 * i + k) := by
  unfold limb dig
  have e1 : M64 = 65536 ^ k * (65536 * 65536 ^ (3 - k)) := by
    rw [← Nat.pow_succ', ← Nat.pow_add, show k + (3 - k).succ = 4 from by omega]; decide
  have e2 : M64 ^ i = 65536 ^ (4 * i) := by rw [Nat.pow_mul]; congr 1
  rw [e2, Nat.pow_add, ← Nat.div_div_eq_div_mul]
  generalize a / 65536 ^ (4 * i) = y
  rw [e1, Nat.mod_mul_right_div_self, Nat.mod_mul_right_mod]
/-- A limb without its m lowest digits. -/
def lsh (a i m : Nat) : Nat := limb a i / 65536 ^ m
theorem lsh_zero (a i : Nat) : lsh a i 0 = limb a i := by simp [lsh]
theorem lsh_rem (a i m : Nat) (hm : m < 4) : ((lsh a i m : Nat) : Int).tmod 65536 = (dig a (4 * i + m) : Nat) := by
  rw [← limb_dig a i m hm]
  rw [Int.tmod_eq_emod_of_nonneg (by omega)]
  unfold lsh
  omega
theorem lsh_quo (a i m : Nat) : ((lsh a i m : Nat) : Int).tdiv 65536 = (lsh a i (m + 1) : Nat) := by
  rw [Int.tdiv_eq_ediv_of_nonneg (by omega)]
  unfold lsh
  rw [Nat.pow_succ, ← Nat.div_div_eq_div_mul]
  omega
theorem lsh_lt (a i m : Nat) : lsh a i m < 18446744073709551616 := Nat.lt_of_le_of_lt (Nat.div_le_self _ _) (limb_lt a i)

theorem dpre_lt {l : List Nat} (h : Dok l) : ∀ k, dpre l k < 65536 ^ k
  | 0 => by simp [dpre]
  | k + 1 => by
    have h1 := dpre_lt h k
    have h2 := dget_lt h k
    simp only [dpre, Nat.pow_succ]
    have h3 : 65536 ^ k * dget l k ≤ 65536 ^ k * 65535 := Nat.mul_le_mul_left _ (by omega)
    generalize 65536 ^ k * dget l k = x at *
    generalize 65536 ^ k = p at *
    omega
theorem dpre_cmp {a b : List Nat} (ha : Dok a) (m N : Nat) (hN : m + 1 ≤ N) (he : ∀ j, m + 1 ≤ j → j < N → dget a j = dget b j) (hl : dget a m < dget b m) : dpre a N < dpre b N := by
  obtain ⟨t, rfl⟩ : ∃ t, N = m + 1 + t := ⟨N - (m + 1), by omega⟩
  induction t with
  | zero =>
    have h1 := dpre_lt ha m
    show dpre a m + 65536 ^ m * dget a m < dpre b m + 65536 ^ m * dget b m
    have h3 : 65536 ^ m * (dget a m + 1) ≤ 65536 ^ m * dget b m := Nat.mul_le_mul_left _ (by omega)
    rw [Nat.mul_add, Nat.mul_one] at h3
    omega
  | succ t ih =>
    have h1 := ih (by omega) (fun j h1 h2 => he j h1 (by omega))
    have h2 := he (m + 1 + t) (by omega) (by omega)
    show dpre a (m + 1 + t) + 65536 ^ (m + 1 + t) * dget a (m + 1 + t) < dpre b (m + 1 + t) + 65536 ^ (m + 1 + t) * dget b (m + 1 + t)
    rw [h2]
    omega
theorem dpre_same {a b : List Nat} : ∀ N, (∀ j, j < N → dget a j = dget b j) → dpre a N = dpre b N
  | 0, _ => rfl
  | N + 1, h => by
    have h1 := dpre_same N (fun j hj => h j (by omega))
    simp only [dpre]
    rw [h1, h N (by omega)]
theorem dpre_split (l : List Nat) (n : Nat) : ∃ r, dval l = dpre l n + 65536 ^ n * r := by
  have gen : ∀ t, ∃ r, dpre l (n + t) = dpre l n + 65536 ^ n * r := by
    intro t
    induction t with
    | zero => exact ⟨0, by simp⟩
    | succ t ih =>
      obtain ⟨r, hr⟩ := ih
      refine ⟨r + 65536 ^ t * dget l (n + t), ?_⟩
      show dpre l (n + t) + 65536 ^ (n + t) * dget l (n + t) = _
      rw [hr, Nat.pow_add, Nat.mul_add, Nat.mul_assoc, Nat.add_assoc]
  obtain ⟨r, hr⟩ := gen l.length
  rw [dpre_eq l (n + l.length) (by omega)] at hr
  exact ⟨r, hr⟩
theorem plus_arith (p x y c s A B L k1 : Nat) (hL : L + p * c = A + B) (hs : x + y + c = s) (hq : s = s % 65536 + 65536 * k1) : L + p * (s % 65536) + p * 65536 * k1 = A + p * x + (B + p * y) := by
  have e : p * s = p * (s % 65536) + p * 65536 * k1 := by
    conv => lhs; rw [hq]
    rw [Nat.mul_add, Nat.mul_assoc]
  have e2 : p * s = p * x + p * y + p * c := by rw [← hs, Nat.mul_add, Nat.mul_add]
  omega

/-- The number of t digits from place s on. -/
def hn (ds : List Nat) : Nat → Nat → Nat
  | _, 0 => 0
  | s, t + 1 => dget ds s + 65536 * hn ds (s + 1) t
theorem hn_succ (ds : List Nat) (s t : Nat) : hn ds s (t + 1) = dget ds s + 65536 * hn ds (s + 1) t := rfl
theorem hn_zero (ds : List Nat) (s : Nat) : hn ds s 0 = 0 := rfl
theorem hn_lt {ds : List Nat} (h : Dok ds) : ∀ t s, hn ds s t < 65536 ^ t
  | 0, _ => by simp [hn]
  | t + 1, s => by
    have h1 := hn_lt h t (s + 1)
    have h2 := dget_lt h s
    rw [hn_succ, Nat.pow_succ]
    omega
/-- Limb i when the places from k on are in. -/
def cellv (ds : List Nat) (k i : Nat) : Nat := hn ds (max k (4 * i)) (4 * i + 4 - max k (4 * i))
theorem cellv_top (ds : List Nat) (k i : Nat) (h : 4 * i + 4 ≤ k) : cellv ds k i = 0 := by
  unfold cellv
  rw [show 4 * i + 4 - max k (4 * i) = 0 from by omega]
  exact hn_zero ds _
theorem cellv_other (ds : List Nat) (m i : Nat) (h : i ≠ m / 4) : cellv ds (m + 1) i = cellv ds m i := by
  unfold cellv
  by_cases g : m / 4 < i
  · rw [show max (m + 1) (4 * i) = 4 * i from by omega, show max m (4 * i) = 4 * i from by omega]
  · rw [show 4 * i + 4 - max (m + 1) (4 * i) = 0 from by omega, show 4 * i + 4 - max m (4 * i) = 0 from by omega, hn_zero, hn_zero]
theorem cellv_same (ds : List Nat) (m : Nat) : cellv ds m (m / 4) = dget ds m + 65536 * cellv ds (m + 1) (m / 4) := by
  unfold cellv
  rw [show max m (4 * (m / 4)) = m from by omega, show max (m + 1) (4 * (m / 4)) = m + 1 from by omega]
  obtain ⟨t, ht⟩ : ∃ t, t = 4 * (m / 4) + 4 - (m + 1) := ⟨_, rfl⟩
  rw [← ht, show 4 * (m / 4) + 4 - m = t + 1 from by omega, hn_succ]
theorem cellv_lt {ds : List Nat} (h : Dok ds) (k i : Nat) : cellv ds k i < M64 := by
  unfold cellv
  have h1 := hn_lt h (4 * i + 4 - max k (4 * i)) (max k (4 * i))
  have h2 : 65536 ^ (4 * i + 4 - max k (4 * i)) ≤ 65536 ^ 4 := Nat.pow_le_pow_right (by decide) (by omega)
  have h3 : (65536 : Nat) ^ 4 = M64 := by decide
  omega
theorem dpre_hn (ds : List Nat) (s t : Nat) : dpre ds (s + t) = dpre ds s + 65536 ^ s * hn ds s t := by
  induction t generalizing s with
  | zero => simp [hn]
  | succ t ih =>
    have h := ih (s + 1)
    rw [show s + (t + 1) = s + 1 + t from by omega, h, hn_succ]
    show dpre ds s + 65536 ^ s * dget ds s + 65536 ^ (s + 1) * hn ds (s + 1) t = _
    rw [Nat.mul_add, Nat.pow_succ, Nat.mul_assoc, Nat.add_assoc]
theorem limb_dpre {ds : List Nat} (h : Dok ds) (n i : Nat) (hi : i < n) : limb (dpre ds (4 * n)) i = cellv ds 0 i := by
  unfold cellv
  rw [show max 0 (4 * i) = 4 * i from by omega, show 4 * i + 4 - 4 * i = 4 from by omega]
  obtain ⟨t, rfl⟩ : ∃ t, n = i + 1 + t := ⟨n - (i + 1), by omega⟩
  have e1 := dpre_hn ds (4 * i + 4) (4 * t)
  have e2 := dpre_hn ds (4 * i) 4
  rw [show 4 * (i + 1 + t) = 4 * i + 4 + 4 * t from by omega, e1, e2]
  have e3 : (65536 : Nat) ^ (4 * i) = M64 ^ i := by rw [Nat.pow_mul]; congr 1
  have e4 : (65536 : Nat) ^ (4 * i + 4) = M64 ^ i * M64 := by rw [Nat.pow_add, e3]; congr 1
  have l1 := dpre_lt h (4 * i)
  rw [e3] at l1 ⊢
  rw [e4]
  have l2 : hn ds (4 * i) 4 < M64 := hn_lt h 4 (4 * i)
  unfold limb
  rw [Nat.add_assoc, Nat.mul_assoc, ← Nat.mul_add, Nat.add_mul_div_left _ _ (Nat.lt_of_le_of_lt (Nat.zero_le _) l1), Nat.div_eq_of_lt l1, Nat.zero_add, Nat.add_mul_mod_self_left, Nat.mod_eq_of_lt l2]
end Go.Proofs.Ytaigpginoakdfaa
