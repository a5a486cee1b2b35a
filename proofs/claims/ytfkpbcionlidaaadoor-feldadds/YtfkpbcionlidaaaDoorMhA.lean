/- Several texts laid together. -/
import Derived.KernelRfl
import Derived.Test.YtfkpbcionlidaaaDoorPrimePQ
namespace Go.Proofs.YtfkpbcionlidaaaDoor

/-- A polynomial's value: its coefficients are listed from the lowest on. -/
def evI : List Int → Int → Int
  | [], _ => 0
  | c :: r, x => c + x * evI r x
/-- What is left when it is divided by X - s. -/
def qtI (s : Int) : List Int → List Int
  | [] => []
  | [_] => []
  | _ :: d :: r => evI (d :: r) s :: qtI s (d :: r)
theorem qtI_length (s : Int) : ∀ l, (qtI s l).length = l.length - 1
  | [] => rfl
  | [_] => rfl
  | _ :: d :: r => by
    have h := qtI_length s (d :: r)
    simp only [qtI, List.length_cons] at h ⊢
    omega
theorem qtI_eval (s x : Int) : ∀ l, evI l x - evI l s = (x - s) * evI (qtI s l) x
  | [] => by simp [evI, qtI]
  | [c] => by simp [evI, qtI]
  | c :: d :: r => by
    have h := qtI_eval s x (d :: r)
    have e1 : evI (c :: d :: r) x = c + x * evI (d :: r) x := rfl
    have e2 : evI (c :: d :: r) s = c + s * evI (d :: r) s := rfl
    have e3 : evI (qtI s (c :: d :: r)) x = evI (d :: r) s + x * evI (qtI s (d :: r)) x := rfl
    rw [e1, e2, e3]
    generalize evI (d :: r) x = A at *
    generalize evI (d :: r) s = B at *
    generalize evI (qtI s (d :: r)) x = C at *
    grind
def PrimeZ (Q : Int) : Prop := ∀ a b : Int, Q ∣ a * b → Q ∣ a ∨ Q ∣ b
theorem roots {Q : Int} (hp : PrimeZ Q) : ∀ (rs l : List Int), l.length ≤ rs.length → rs.Pairwise (fun a b => ¬ Q ∣ b - a) → (∀ r ∈ rs, Q ∣ evI l r) → ∀ x, Q ∣ evI l x
  | [], l, hl, _, _, x => by
    rw [List.eq_nil_of_length_eq_zero (Nat.le_zero.1 hl)]
    exact Int.dvd_zero _
  | s :: rs, l, hl, hd, hr, x => by
    have hs := hr s List.mem_cons_self
    have hd' := List.pairwise_cons.1 hd
    have ih := roots hp rs (qtI s l) (by rw [qtI_length]; simp only [List.length_cons] at hl; omega) hd'.2 (fun r hm => by
      have h1 : Q ∣ (r - s) * evI (qtI s l) r := by
        rw [← qtI_eval s r l]
        exact Int.dvd_sub (hr r (List.mem_cons_of_mem _ hm)) hs
      rcases hp _ _ h1 with h | h
      · exact absurd h (hd'.1 r hm)
      · exact h) x
    have h2 : evI l x = evI l s + (x - s) * evI (qtI s l) x := by have := qtI_eval s x l; omega
    rw [h2]
    exact Int.dvd_add hs (Int.dvd_trans ih (Int.dvd_mul_left _ _))
/-- Sums and multiples. -/
def addI : List Int → List Int → List Int
  | [], b => b
  | a, [] => a
  | x :: a, y :: b => (x + y) :: addI a b
theorem addI_eval (x : Int) : ∀ a b, evI (addI a b) x = evI a x + evI b x
  | [], b => by simp [addI, evI]
  | _ :: _, [] => by simp [addI, evI]
  | c :: a, d :: b => by
    have h := addI_eval x a b
    have e1 : evI (addI (c :: a) (d :: b)) x = (c + d) + x * evI (addI a b) x := rfl
    have e2 : evI (c :: a) x = c + x * evI a x := rfl
    have e3 : evI (d :: b) x = d + x * evI b x := rfl
    rw [e1, e2, e3, h]
    grind
theorem addI_length : ∀ a b, (addI a b).length = max a.length b.length
  | [], b => by simp [addI]
  | _ :: _, [] => by simp [addI]
  | c :: a, d :: b => by
    have h := addI_length a b
    simp only [addI, List.length_cons, h]
    omega
def mulI (c : Int) (l : List Int) : List Int := l.map (c * ·)
theorem mulI_eval (c x : Int) : ∀ l, evI (mulI c l) x = c * evI l x
  | [] => by simp [mulI, evI]
  | d :: l => by
    have h := mulI_eval c x l
    have e1 : evI (mulI c (d :: l)) x = c * d + x * evI (mulI c l) x := rfl
    have e2 : evI (d :: l) x = d + x * evI l x := rfl
    rw [e1, e2, h]
    grind
theorem mulI_length (c : Int) (l : List Int) : (mulI c l).length = l.length := by simp [mulI]
/-- The product of X - r. -/
def prodI : List Int → List Int
  | [] => [1]
  | s :: rs => addI (0 :: prodI rs) (mulI (-s) (prodI rs))
def prodV (x : Int) : List Int → Int
  | [] => 1
  | s :: rs => (x - s) * prodV x rs
theorem prodI_eval (x : Int) : ∀ rs, evI (prodI rs) x = prodV x rs
  | [] => by simp [prodI, evI, prodV]
  | s :: rs => by
    have h := prodI_eval x rs
    have e : evI (0 :: prodI rs) x = 0 + x * evI (prodI rs) x := rfl
    simp only [prodI, prodV]
    rw [addI_eval, mulI_eval, e, h]
    grind
theorem prodI_length : ∀ rs, (prodI rs).length = rs.length + 1
  | [] => rfl
  | s :: rs => by
    have h := prodI_length rs
    simp only [prodI, addI_length, mulI_length, List.length_cons, h]
    omega
theorem prodV_root (x : Int) : ∀ rs, x ∈ rs → prodV x rs = 0
  | [], h => by cases h
  | s :: rs, h => by
    simp only [prodV]
    rcases List.mem_cons.1 h with rfl | h
    · rw [Int.sub_self, Int.zero_mul]
    · rw [prodV_root x rs h, Int.mul_zero]
/-- The value that shares tell: of each place its value, times its basis. -/
def tellI (x : Int) : List (Int × List Int) → Int
  | [] => 0
  | (v, b) :: r => v * evI b x + tellI x r
def tellL : List (Int × List Int) → List Int
  | [] => []
  | (v, b) :: r => addI (mulI v b) (tellL r)
theorem tellL_eval (x : Int) : ∀ t, evI (tellL t) x = tellI x t
  | [] => rfl
  | (v, b) :: r => by
    simp only [tellL, tellI]
    rw [addI_eval, mulI_eval, tellL_eval x r]
theorem tellL_length (k : Nat) : ∀ t : List (Int × List Int), (∀ e ∈ t, e.2.length ≤ k) → (tellL t).length ≤ k
  | [], _ => Nat.zero_le _
  | (v, b) :: r, h => by
    have h1 : b.length ≤ k := h (v, b) List.mem_cons_self
    have h2 := tellL_length k r (fun e he => h e (List.mem_cons_of_mem _ he))
    simp only [tellL]
    rw [addI_length, mulI_length]
    omega
/-- LAGRANGE: what agrees with a polynomial of at most k coefficients at k places, and is one itself, is it everywhere. -/
theorem lagrange {Q : Int} (hp : PrimeZ Q) (rs p : List Int) (t : List (Int × List Int)) (hd : rs.Pairwise (fun a b => ¬ Q ∣ b - a)) (hl : p.length ≤ rs.length) (ht : ∀ e ∈ t, e.2.length ≤ rs.length)
    (h : ∀ r ∈ rs, Q ∣ tellI r t - evI p r) (x : Int) : Q ∣ tellI x t - evI p x := by
  have e : ∀ x, evI (addI (tellL t) (mulI (-1) p)) x = tellI x t - evI p x := fun x => by
    rw [addI_eval, mulI_eval, tellL_eval]
    omega
  rw [← e]
  refine roots hp rs _ ?_ hd (fun r hr => by rw [e]; exact h r hr) x
  rw [addI_length, mulI_length]
  have := tellL_length rs.length t ht
  omega
end Go.Proofs.YtfkpbcionlidaaaDoor

namespace Go.Proofs.YtfkpbcionlidaaaDoor

/-- a and b are the same modulo q. -/
def CZ (q : Nat) (a b : Int) : Prop := (q : Int) ∣ a - b
theorem CZ.refl (q : Nat) (a : Int) : CZ q a a := by unfold CZ; rw [Int.sub_self]; exact Int.dvd_zero _
theorem CZ.of_eq {q : Nat} {a b : Int} (h : a = b) : CZ q a b := h ▸ CZ.refl q a
theorem CZ.symm {q : Nat} {a b : Int} (h : CZ q a b) : CZ q b a := by
  obtain ⟨k, hk⟩ := h
  exact ⟨-k, by grind⟩
theorem CZ.trans {q : Nat} {a b c : Int} (h : CZ q a b) (g : CZ q b c) : CZ q a c := by
  obtain ⟨k, hk⟩ := h
  obtain ⟨j, hj⟩ := g
  exact ⟨k + j, by grind⟩
theorem CZ.add {q : Nat} {a b c d : Int} (h : CZ q a b) (g : CZ q c d) : CZ q (a + c) (b + d) := by
  obtain ⟨k, hk⟩ := h
  obtain ⟨j, hj⟩ := g
  exact ⟨k + j, by grind⟩
theorem CZ.sub {q : Nat} {a b c d : Int} (h : CZ q a b) (g : CZ q c d) : CZ q (a - c) (b - d) := by
  obtain ⟨k, hk⟩ := h
  obtain ⟨j, hj⟩ := g
  exact ⟨k - j, by grind⟩
theorem CZ.mul {q : Nat} {a b c d : Int} (h : CZ q a b) (g : CZ q c d) : CZ q (a * c) (b * d) := by
  obtain ⟨k, hk⟩ := h
  obtain ⟨j, hj⟩ := g
  exact ⟨k * c + b * j, by grind⟩
theorem CZ.pow {q : Nat} {a b : Int} (h : CZ q a b) : ∀ n : Nat, CZ q (a ^ n) (b ^ n)
  | 0 => by rw [Int.pow_zero, Int.pow_zero]; exact CZ.refl _ _
  | n + 1 => by rw [Int.pow_succ, Int.pow_succ]; exact (CZ.pow h n).mul h
theorem cz_mod (a q : Nat) : CZ q ((a % q : Nat) : Int) (a : Int) := by
  refine ⟨-((a / q : Nat) : Int), ?_⟩
  have h := Nat.mod_add_div a q
  have h2 : ((a % q : Nat) : Int) + (q : Int) * ((a / q : Nat) : Int) = (a : Int) := by
    rw [← Int.natCast_mul, ← Int.natCast_add, h]
  grind
theorem cz_eq {a b q : Nat} (ha : a < q) (hb : b < q) (h : CZ q (a : Int) (b : Int)) : a = b := by
  obtain ⟨k, hk⟩ := h
  rcases Int.lt_trichotomy k 0 with c | c | c
  · have : (q : Int) * k ≤ (q : Int) * (-1) := Int.mul_le_mul_of_nonneg_left (by omega) (by omega)
    omega
  · subst c
    omega
  · have : (q : Int) * 1 ≤ (q : Int) * k := Int.mul_le_mul_of_nonneg_left (by omega) (by omega)
    omega
theorem cz_zero {a q : Nat} (h : CZ q (a : Int) 0) : q ∣ a := by
  obtain ⟨k, hk⟩ := h
  exact Int.natCast_dvd_natCast.1 ⟨k, by omega⟩
theorem primeZ_of {q : Nat} (h : PrimeN q) : PrimeZ (q : Int) := fun a b hd => by
  have h1 : q ∣ a.natAbs * b.natAbs := by
    rw [← Int.natAbs_mul]
    exact Int.natAbs_dvd_natAbs.2 hd
  rcases h.dvd_mul h1 with g | g
  · exact Or.inl (Int.natAbs_dvd_natAbs.1 g)
  · exact Or.inr (Int.natAbs_dvd_natAbs.1 g)
/-- Coefficients as integers. -/
def ints (l : List Nat) : List Int := l.map fun (n : Nat) => (n : Int)
/-- The code's way to a value: from the highest coefficient down. -/
def hoN (q x : Nat) : List Nat → Nat
  | [] => 0
  | c :: r => (hoN q x r * x % q + c) % q
theorem hoN_cz (q x : Nat) : ∀ l, CZ q (hoN q x l : Nat) (evI (ints l) (x : Nat))
  | [] => CZ.refl _ _
  | c :: r => by
    have ih := hoN_cz q x r
    have e : evI (ints (c :: r)) (x : Nat) = (c : Int) + (x : Int) * evI (ints r) (x : Nat) := rfl
    rw [e]
    refine (cz_mod _ q).trans ?_
    rw [Int.natCast_add]
    refine CZ.trans (((cz_mod (hoN q x r * x) q)).add (CZ.refl q (c : Int))) ?_
    rw [Int.natCast_mul, Int.add_comm, Int.mul_comm]
    exact (CZ.refl q _).add ((CZ.refl q _).mul ih)
theorem hoN_lt (q x : Nat) (hq : 0 < q) (l : List Nat) : hoN q x l < q := by
  cases l with
  | nil => exact hq
  | cons c r => exact Nat.mod_lt _ hq
/-- The reference's: term by term. -/
theorem evI_snoc (x c : Int) : ∀ l : List Int, evI (l ++ [c]) x = evI l x + c * x ^ l.length
  | [] => by simp [evI]
  | d :: l => by
    have h := evI_snoc x c l
    have e1 : evI (d :: l ++ [c]) x = d + x * evI (l ++ [c]) x := rfl
    have e2 : evI (d :: l) x = d + x * evI l x := rfl
    rw [e1, e2, h, List.length_cons, Int.pow_succ]
    grind
theorem term_step (q x c out pow : Nat) (l : List Nat) (ho : CZ q (out : Nat) (evI (ints l) (x : Nat))) (hp : CZ q (pow : Nat) ((x : Int) ^ l.length)) :
    CZ q ((out + c * pow % q) % q : Nat) (evI (ints (l ++ [c])) (x : Nat)) ∧ CZ q ((pow * x % q : Nat) : Int) ((x : Int) ^ (l ++ [c]).length) := by
  have e : ints (l ++ [c]) = ints l ++ [(c : Int)] := by simp [ints]
  have el : (ints l).length = l.length := by simp [ints]
  constructor
  · rw [e, evI_snoc, el]
    refine (cz_mod _ q).trans ?_
    rw [Int.natCast_add]
    refine ho.add ((cz_mod _ q).trans ?_)
    rw [Int.natCast_mul]
    exact (CZ.refl q _).mul hp
  · rw [List.length_append, List.length_singleton, Int.pow_succ]
    refine (cz_mod _ q).trans ?_
    rw [Int.natCast_mul]
    exact hp.mul (CZ.refl q _)
/-- Gaps: the product of x's sums with negatives. -/
def gapN (q x : Nat) : Nat → List Nat → Nat
  | out, [] => out
  | out, a :: r => gapN q x (out * ((x + a) % q) % q) r
theorem gapN_cz (q x : Nat) : ∀ (ns : List Nat) (out : Nat), (∀ n ∈ ns, n ≤ q) → CZ q (gapN q x out (ns.map fun n => (q - n) % q) : Nat) ((out : Int) * prodV (x : Nat) (ints ns))
  | [], out, _ => by
    have e : prodV (x : Nat) (ints []) = 1 := rfl
    rw [e, Int.mul_one]
    exact CZ.refl _ _
  | n :: ns, out, h => by
    have hn : n ≤ q := h n List.mem_cons_self
    have ih := gapN_cz q x ns (out * ((x + (q - n) % q) % q) % q) (fun m hm => h m (List.mem_cons_of_mem _ hm))
    have e : prodV (x : Nat) (ints (n :: ns)) = ((x : Int) - (n : Int)) * prodV (x : Nat) (ints ns) := rfl
    rw [e]
    refine CZ.trans ih ?_
    have h1 : CZ q (((out * ((x + (q - n) % q) % q) % q : Nat) : Int)) ((out : Int) * ((x : Int) - (n : Int))) := by
      refine (cz_mod _ q).trans ?_
      rw [Int.natCast_mul]
      refine (CZ.refl q _).mul ((cz_mod _ q).trans ?_)
      rw [Int.natCast_add]
      refine CZ.trans ((CZ.refl q (x : Int)).add (cz_mod (q - n) q)) ?_
      refine ⟨1, ?_⟩
      omega
    refine CZ.trans (h1.mul (CZ.refl q _)) (CZ.of_eq ?_)
    grind
end Go.Proofs.YtfkpbcionlidaaaDoor

namespace Go.Proofs.YtfkpbcionlidaaaDoor

/-- A weight's value: the polynomial that is 1 at n and 0 at the others, at x. -/
def wtI (q : Nat) (x n : Int) (os : List Int) : Int := prodV x os * prodV n os ^ (q - 2)
/-- The code's. -/
def cwN (q x n : Nat) (os : List Nat) : Nat := gapN q x 1 (os.map fun o => (q - o) % q) * (gapN q n 1 (os.map fun o => (q - o) % q) ^ (q - 2) % q) % q
theorem cwN_cz (q x n : Nat) (os : List Nat) (h : ∀ o ∈ os, o ≤ q) : CZ q (cwN q x n os : Nat) (wtI q (x : Nat) (n : Nat) (ints os)) := by
  unfold cwN wtI
  refine (cz_mod _ q).trans ?_
  rw [Int.natCast_mul]
  have h1 := gapN_cz q x os 1 h
  have h2 := gapN_cz q n os 1 h
  have e : ((1 : Nat) : Int) = 1 := rfl
  rw [e, Int.one_mul] at h1 h2
  refine h1.mul ((cz_mod _ q).trans ?_)
  rw [Int.natCast_pow]
  exact h2.pow _
/-- The reference's. -/
def rwN (q x n : Nat) : Nat → List Nat → Nat
  | w, [] => w
  | w, o :: r => rwN q x n (w * ((x + q - o) % q * (((n + q - o) % q) ^ (q - 2) % q) % q) % q) r
theorem sub_cz (q a b : Nat) (hb : b ≤ q) : CZ q ((a + q - b) % q : Nat) ((a : Int) - (b : Int)) := by
  refine (cz_mod _ q).trans ⟨1, ?_⟩
  omega
theorem rwN_cz (q x n : Nat) : ∀ (os : List Nat) (w : Nat), (∀ o ∈ os, o ≤ q) → CZ q (rwN q x n w os : Nat) ((w : Int) * wtI q (x : Nat) (n : Nat) (ints os))
  | [], w, _ => by
    have e : wtI q (x : Nat) (n : Nat) (ints []) = 1 := by
      unfold wtI
      have e1 : ∀ y : Int, prodV y (ints []) = 1 := fun _ => rfl
      rw [e1, e1, Int.one_pow, Int.one_mul]
    rw [e, Int.mul_one]
    exact CZ.refl _ _
  | o :: os, w, h => by
    have ho : o ≤ q := h o List.mem_cons_self
    have ih := rwN_cz q x n os (w * ((x + q - o) % q * (((n + q - o) % q) ^ (q - 2) % q) % q) % q) (fun m hm => h m (List.mem_cons_of_mem _ hm))
    refine CZ.trans ih ?_
    have h1 : CZ q ((w * ((x + q - o) % q * (((n + q - o) % q) ^ (q - 2) % q) % q) % q : Nat) : Int) ((w : Int) * (((x : Int) - (o : Int)) * ((n : Int) - (o : Int)) ^ (q - 2))) := by
      refine (cz_mod _ q).trans ?_
      rw [Int.natCast_mul]
      refine (CZ.refl q _).mul ((cz_mod _ q).trans ?_)
      rw [Int.natCast_mul]
      refine (sub_cz q x o ho).mul ((cz_mod _ q).trans ?_)
      rw [Int.natCast_pow]
      exact (sub_cz q n o ho).pow _
    refine CZ.trans (h1.mul (CZ.refl q _)) (CZ.of_eq ?_)
    unfold wtI
    have e : ∀ y : Int, prodV y (ints (o :: os)) = (y - (o : Int)) * prodV y (ints os) := fun _ => rfl
    rw [e, e, Int.mul_pow]
    generalize ((n : Int) - (o : Int)) ^ (q - 2) = A
    generalize prodV (n : Int) (ints os) ^ (q - 2) = B
    generalize prodV (x : Int) (ints os) = C
    grind
theorem weights_same (q x n : Nat) (hq : 0 < q) (os : List Nat) (h : ∀ o ∈ os, o ≤ q) (h1 : 1 < q) : cwN q x n os = rwN q x n 1 os := by
  refine cz_eq (Nat.mod_lt _ hq) ?_ ?_
  · cases os with
    | nil => exact h1
    | cons o r =>
      have : ∀ (r : List Nat) (w : Nat), w < q → rwN q x n w r < q := by
        intro r
        induction r with
        | nil => exact fun w hw => hw
        | cons o r ih => exact fun w _ => ih _ (Nat.mod_lt _ hq)
      exact this r _ (Nat.mod_lt _ hq)
  · have h2 := rwN_cz q x n os 1 h
    have e : ((1 : Nat) : Int) = 1 := rfl
    rw [e, Int.one_mul] at h2
    exact (cwN_cz q x n os h).trans h2.symm
/-- The basis, as a polynomial. -/
def bsI (q : Nat) (n : Int) (os : List Int) : List Int := mulI (prodV n os ^ (q - 2)) (prodI os)
theorem bsI_eval (q : Nat) (x n : Int) (os : List Int) : evI (bsI q n os) x = wtI q x n os := by
  unfold bsI wtI
  rw [mulI_eval, prodI_eval, Int.mul_comm]
theorem bsI_length (q : Nat) (n : Int) (os : List Int) : (bsI q n os).length = os.length + 1 := by
  unfold bsI
  rw [mulI_length, prodI_length]
theorem wtI_other (q : Nat) (x n : Int) (os : List Int) (h : x ∈ os) : wtI q x n os = 0 := by
  unfold wtI
  rw [prodV_root x os h, Int.zero_mul]
theorem prodV_ne {q : Nat} (hp : PrimeN q) (n : Int) : ∀ os : List Int, (∀ o ∈ os, ¬ (q : Int) ∣ n - o) → ¬ (q : Int) ∣ prodV n os
  | [], _, hd => by
    have e : prodV n [] = 1 := rfl
    rw [e] at hd
    have h1 : q ∣ 1 := Int.natCast_dvd_natCast.1 hd
    have h2 := Nat.le_of_dvd (by decide) h1
    have h3 := hp.1
    omega
  | o :: os, h, hd => by
    have e : prodV n (o :: os) = (n - o) * prodV n os := rfl
    rw [e] at hd
    rcases primeZ_of hp _ _ hd with g | g
    · exact h o List.mem_cons_self g
    · exact prodV_ne hp n os (fun m hm => h m (List.mem_cons_of_mem _ hm)) g
theorem fermatZ {q : Nat} (hp : PrimeN q) (a : Int) (ha : ¬ (q : Int) ∣ a) : CZ q (a * a ^ (q - 2)) 1 := by
  have q2 := hp.1
  obtain ⟨b, hb⟩ : ∃ b : Nat, CZ q a (b : Int) := by
    refine ⟨(a % q).toNat, ?_⟩
    have h0 : 0 ≤ a % (q : Int) := Int.emod_nonneg _ (by omega)
    rw [Int.toNat_of_nonneg h0]
    exact ⟨a / q, by have := Int.mul_ediv_add_emod a q; omega⟩
  have hb' : ¬ q ∣ b := fun c => ha (by
    obtain ⟨k, hk⟩ := hb
    obtain ⟨j, hj⟩ := c
    refine ⟨k + (j : Int), ?_⟩
    have : (b : Int) = (q : Int) * (j : Int) := by rw [hj, Int.natCast_mul]
    grind)
  have h := fermat1 hp b hb'
  have h1 : CZ q (((b ^ (q - 1) : Nat)) : Int) 1 := by
    have t := (cz_mod (b ^ (q - 1)) q).symm
    rw [h] at t
    exact t
  have e : b ^ (q - 1) = b * b ^ (q - 2) := by
    rw [show q - 1 = (q - 2) + 1 by omega, Nat.pow_succ, Nat.mul_comm]
  rw [e, Int.natCast_mul, Int.natCast_pow] at h1
  exact (hb.mul (hb.pow _)).trans h1
theorem wtI_own {q : Nat} (hp : PrimeN q) (n : Int) (os : List Int) (h : ∀ o ∈ os, ¬ (q : Int) ∣ n - o) : CZ q (wtI q n n os) 1 := fermatZ hp _ (prodV_ne hp n os h)
end Go.Proofs.YtfkpbcionlidaaaDoor

namespace Go.Proofs.YtfkpbcionlidaaaDoor

/-- All nodes but n. -/
def othN (ns : List Nat) (n : Nat) : List Nat := ns.filter fun o => decide (o ≠ n)
def tlT (q : Nat) (p : List Int) (ns l : List Nat) : List (Int × List Int) := l.map fun n => (evI p (n : Nat), bsI q (n : Nat) (ints (othN ns n)))
theorem mem_oth {ns : List Nat} {n o : Nat} : o ∈ othN ns n ↔ o ∈ ns ∧ o ≠ n := by simp [othN]
theorem oth_length {ns : List Nat} {n : Nat} (h : n ∈ ns) : (othN ns n).length + 1 ≤ ns.length := by
  unfold othN
  have h1 : (ns.filter fun o => decide (o ≠ n)).length < ns.length := List.length_filter_lt_length_iff_exists.2 ⟨n, h, by simp⟩
  omega
theorem mem_ints {l : List Nat} {n : Nat} (h : n ∈ l) : (n : Int) ∈ ints l := List.mem_map.2 ⟨n, h, rfl⟩
theorem ints_mem {l : List Nat} {x : Int} (h : x ∈ ints l) : ∃ n : Nat, n ∈ l ∧ x = (n : Int) := by
  obtain ⟨n, h1, h2⟩ := List.mem_map.1 h
  exact ⟨n, h1, h2.symm⟩
theorem apart_nodes {q a b : Nat} (ha : a < q) (hb : b < q) (h : a ≠ b) : ¬ (q : Int) ∣ (a : Int) - (b : Int) := fun c => h (cz_eq ha hb c)
theorem tell_none (q : Nat) (p : List Int) (ns : List Nat) (r : Nat) (hr : r ∈ ns) : ∀ l : List Nat, r ∉ l → tellI (r : Nat) (tlT q p ns l) = 0
  | [], _ => rfl
  | n :: l, h => by
    have hn : r ≠ n := fun c => h (c ▸ List.mem_cons_self)
    have e : tellI (r : Nat) (tlT q p ns (n :: l)) = evI p (n : Nat) * evI (bsI q (n : Nat) (ints (othN ns n))) (r : Nat) + tellI (r : Nat) (tlT q p ns l) := rfl
    rw [e, bsI_eval, wtI_other q _ _ _ (mem_ints (mem_oth.2 ⟨hr, hn⟩)), Int.mul_zero, tell_none q p ns r hr l (fun c => h (List.mem_cons_of_mem _ c)), Int.add_zero]
theorem tell_own {q : Nat} (hp : PrimeN q) (p : List Int) (ns : List Nat) (hq : ∀ n ∈ ns, n < q) (r : Nat) (hr : r ∈ ns) : ∀ l : List Nat, l.Nodup → r ∈ l → CZ q (tellI (r : Nat) (tlT q p ns l)) (evI p (r : Nat))
  | [], _, h => by cases h
  | n :: l, hd, h => by
    have e : tellI (r : Nat) (tlT q p ns (n :: l)) = evI p (n : Nat) * evI (bsI q (n : Nat) (ints (othN ns n))) (r : Nat) + tellI (r : Nat) (tlT q p ns l) := rfl
    have hd' := List.nodup_cons.1 hd
    rw [e, bsI_eval]
    by_cases hn : r = n
    · subst hn
      rw [tell_none q p ns r hr l hd'.1, Int.add_zero]
      have ho : ∀ o ∈ ints (othN ns r), ¬ (q : Int) ∣ (r : Int) - o := fun o ho => by
        obtain ⟨m, hm, rfl⟩ := ints_mem ho
        have h1 := mem_oth.1 hm
        exact apart_nodes (hq r hr) (hq m h1.1) (fun c => h1.2 c.symm)
      have h2 := (CZ.refl q (evI p (r : Nat))).mul (wtI_own hp (r : Int) _ ho)
      rw [Int.mul_one] at h2
      exact h2
    · rw [wtI_other q _ _ _ (mem_ints (mem_oth.2 ⟨hr, hn⟩)), Int.mul_zero, Int.zero_add]
      exact tell_own hp p ns hq r hr l hd'.2 (by rcases List.mem_cons.1 h with c | c; exact absurd c hn; exact c)
theorem nodes_apart {q : Nat} : ∀ ns : List Nat, ns.Nodup → (∀ n ∈ ns, n < q) → (ints ns).Pairwise (fun a b => ¬ (q : Int) ∣ b - a)
  | [], _, _ => List.Pairwise.nil
  | n :: ns, hd, hq => by
    have hd' := List.nodup_cons.1 hd
    refine List.pairwise_cons.2 ⟨fun x hx => ?_, nodes_apart ns hd'.2 (fun m hm => hq m (List.mem_cons_of_mem _ hm))⟩
    obtain ⟨m, hm, rfl⟩ := ints_mem hx
    exact apart_nodes (hq m (List.mem_cons_of_mem _ hm)) (hq n List.mem_cons_self) (fun c => hd'.1 (c ▸ hm))
/-- The shares of a polynomial of no more coefficients than nodes tell it at every x. -/
theorem tell_all {q : Nat} (hp : PrimeN q) (p : List Int) (ns : List Nat) (hd : ns.Nodup) (hq : ∀ n ∈ ns, n < q) (hl : p.length ≤ ns.length) (x : Int) : CZ q (tellI x (tlT q p ns ns)) (evI p x) := by
  have el : (ints ns).length = ns.length := by simp [ints]
  refine lagrange (primeZ_of hp) (ints ns) p (tlT q p ns ns) (nodes_apart ns hd hq) (by rw [el]; exact hl) (fun e he => ?_) (fun r hr => ?_) x
  · obtain ⟨n, hn, rfl⟩ := List.mem_map.1 he
    show (bsI q (n : Nat) (ints (othN ns n))).length ≤ _
    rw [bsI_length, el]
    have h1 := oth_length hn
    have h2 : (ints (othN ns n)).length = (othN ns n).length := by simp [ints]
    omega
  · obtain ⟨n, hn, rfl⟩ := ints_mem hr
    exact tell_own hp p ns hq n hn ns hd hn
/-- The weights of any nodes are 1 in sum. -/
theorem tell_ones {q : Nat} (hp : PrimeN q) (ns : List Nat) (hd : ns.Nodup) (hq : ∀ n ∈ ns, n < q) (h1 : 1 ≤ ns.length) (x : Int) : CZ q (tellI x (tlT q [1] ns ns)) 1 := by
  have h := tell_all hp [1] ns hd hq h1 x
  have e : evI [1] x = 1 := by simp [evI]
  rw [e] at h
  exact h
end Go.Proofs.YtfkpbcionlidaaaDoor
