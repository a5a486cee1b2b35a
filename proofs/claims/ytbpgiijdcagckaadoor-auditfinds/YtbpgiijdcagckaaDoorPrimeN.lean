/- Plain numbers: primes, what a power is mod a prime (Fermat), and how a number is shown to be prime (Pocklington); no program in sight. -/
import Derived.KernelRfl
namespace Go.Proofs.YtbpgiijdcagckaaDoor

def PrimeN (p : Nat) : Prop := 2 ≤ p ∧ ∀ d, d ∣ p → d = 1 ∨ d = p

theorem PrimeN.coprime {p a : Nat} (h : PrimeN p) (ha : ¬ p ∣ a) : Nat.gcd p a = 1 := by
  rcases h.2 _ (Nat.gcd_dvd_left p a) with e | e
  · exact e
  · exact absurd (e ▸ Nat.gcd_dvd_right p a) ha
theorem PrimeN.dvd_mul {p a b : Nat} (h : PrimeN p) (hd : p ∣ a * b) : p ∣ a ∨ p ∣ b := by
  by_cases ha : p ∣ a
  · exact .inl ha
  · exact .inr (Nat.Coprime.dvd_of_dvd_mul_left (h.coprime ha) hd)

/-! ### Fermat -/
def choose : Nat → Nat → Nat
  | _, 0 => 1
  | 0, _ + 1 => 0
  | n + 1, k + 1 => choose n k + choose n (k + 1)
def csum (n a : Nat) : Nat → Nat
  | 0 => 0
  | m + 1 => csum n a m + choose n m * a ^ m
theorem choose_zero (n : Nat) : choose n 0 = 1 := by cases n <;> rfl
theorem csum_succ (n a : Nat) : ∀ m, csum (n + 1) a (m + 1) = csum n a (m + 1) + a * csum n a m
  | 0 => by simp [csum, choose_zero]
  | m + 1 => by
    have ih := csum_succ n a m
    have e : choose n m * (a ^ m * a) = a * (choose n m * a ^ m) := by rw [Nat.mul_comm a, Nat.mul_assoc]
    show csum (n + 1) a (m + 1) + (choose n m + choose n (m + 1)) * a ^ (m + 1) = (csum n a (m + 1) + choose n (m + 1) * a ^ (m + 1)) + a * (csum n a m + choose n m * a ^ m)
    rw [ih, Nat.add_mul, Nat.mul_add, ← e, Nat.pow_succ]
    omega
theorem choose_gt : ∀ n k, n < k → choose n k = 0
  | 0, 0, h => by omega
  | 0, _ + 1, _ => rfl
  | _ + 1, 0, h => by omega
  | n + 1, k + 1, h => by
    show choose n k + choose n (k + 1) = 0
    rw [choose_gt n k (by omega), choose_gt n (k + 1) (by omega)]
theorem choose_self : ∀ n, choose n n = 1
  | 0 => rfl
  | n + 1 => by
    show choose n n + choose n (n + 1) = 1
    rw [choose_self n, choose_gt n (n + 1) (by omega)]
theorem pow_csum (a : Nat) : ∀ n, (a + 1) ^ n = csum n a (n + 1)
  | 0 => by simp [csum, choose_zero]
  | n + 1 => by
    have e : csum n a (n + 1 + 1) = csum n a (n + 1) + choose n (n + 1) * a ^ (n + 1) := rfl
    rw [csum_succ, e, choose_gt n (n + 1) (by omega), Nat.pow_succ, pow_csum a n, Nat.mul_add, Nat.mul_one, Nat.zero_mul, Nat.mul_comm a]
    omega
theorem absorb : ∀ n k, (k + 1) * choose (n + 1) (k + 1) = (n + 1) * choose n k
  | 0, 0 => rfl
  | 0, k + 1 => by
    show (k + 1 + 1) * (choose 0 (k + 1) + choose 0 (k + 1 + 1)) = (0 + 1) * choose 0 (k + 1)
    simp [choose]
  | n + 1, 0 => by
    have ih := absorb n 0
    show (0 + 1) * (choose (n + 1) 0 + choose (n + 1) (0 + 1)) = (n + 1 + 1) * choose (n + 1) 0
    rw [choose_zero] at *
    omega
  | n + 1, k + 1 => by
    have i1 := absorb n k
    have i2 := absorb n (k + 1)
    have e1 : choose (n + 1) (k + 1) = choose n k + choose n (k + 1) := rfl
    show (k + 1 + 1) * (choose (n + 1) (k + 1) + choose (n + 1) (k + 1 + 1)) = (n + 1 + 1) * choose (n + 1) (k + 1)
    rw [Nat.mul_add, i2, Nat.add_mul (k + 1) 1, i1, Nat.one_mul, Nat.add_mul (n + 1) 1, Nat.one_mul]
    have e2 : (n + 1) * choose (n + 1) (k + 1) = (n + 1) * choose n k + (n + 1) * choose n (k + 1) := by rw [e1, Nat.mul_add]
    omega
theorem prime_choose {p : Nat} (h : PrimeN p) (k : Nat) (h0 : 0 < k) (hk : k < p) : p ∣ choose p k := by
  obtain ⟨n, rfl⟩ : ∃ n, p = n + 1 := ⟨p - 1, by omega⟩
  obtain ⟨j, rfl⟩ : ∃ j, k = j + 1 := ⟨k - 1, by omega⟩
  have e := absorb n j
  rcases h.dvd_mul (a := j + 1) (b := choose (n + 1) (j + 1)) (by rw [e]; exact Nat.dvd_mul_right _ _) with g | g
  · exact absurd (Nat.le_of_dvd (by omega) g) (by omega)
  · exact g
theorem csum_mod {p : Nat} (h : PrimeN p) (a : Nat) : ∀ m, m < p → csum p a (m + 1) % p = 1 % p
  | 0, _ => by simp [csum, choose_zero]
  | m + 1, hm => by
    rw [csum, Nat.add_mod, csum_mod h a m (by omega), Nat.mod_eq_zero_of_dvd (Nat.dvd_trans (prime_choose h (m + 1) (by omega) hm) (Nat.dvd_mul_right _ _)), Nat.add_zero, Nat.mod_mod]
theorem fermat {p : Nat} (h : PrimeN p) : ∀ a, a ^ p % p = a % p
  | 0 => by rw [Nat.zero_pow (by have := h.1; omega)]
  | a + 1 => by
    obtain ⟨m, hm⟩ : ∃ m, p = m + 1 := ⟨p - 1, by have := h.1; omega⟩
    have e := csum_mod h a m (by omega)
    rw [← hm] at e
    rw [pow_csum, csum, Nat.add_mod, e, choose_self, Nat.one_mul, fermat h a, ← Nat.add_mod, Nat.add_comm]
theorem mod_of_dvd_sub {p x y : Nat} (hle : y ≤ x) (h : p ∣ x - y) : x % p = y % p := by
  obtain ⟨k, hk⟩ := h
  have : x = y + p * k := by omega
  rw [this, Nat.add_mul_mod_self_left]
theorem dvd_sub_of_mod {p x y : Nat} (h : x % p = y % p) : p ∣ x - y := Nat.dvd_of_mod_eq_zero (Nat.sub_mod_eq_zero_of_mod_eq h)
theorem cancel {p a x y : Nat} (h : PrimeN p) (ha : ¬ p ∣ a) (e : a * x % p = a * y % p) : x % p = y % p := by
  have key : ∀ x y : Nat, y ≤ x → a * x % p = a * y % p → x % p = y % p := fun x y hle e => by
    have d := dvd_sub_of_mod e
    rw [← Nat.mul_sub] at d
    rcases h.dvd_mul d with g | g
    · exact absurd g ha
    · exact mod_of_dvd_sub hle g
  rcases Nat.le_total y x with g | g
  · exact key x y g e
  · exact (key y x g e.symm).symm
theorem fermat1 {p : Nat} (h : PrimeN p) (a : Nat) (ha : ¬ p ∣ a) : a ^ (p - 1) % p = 1 := by
  have h2 := h.1
  have e := fermat h a
  obtain ⟨m, hm⟩ : ∃ m, p = m + 1 := ⟨p - 1, by omega⟩
  have e1 : a ^ p = a * a ^ (p - 1) := by rw [hm, Nat.pow_succ, Nat.add_sub_cancel, Nat.mul_comm]
  rw [e1] at e
  have c := cancel (x := a ^ (p - 1)) (y := 1) h ha (by rw [Nat.mul_one]; exact e)
  rw [c, Nat.mod_eq_of_lt (by omega)]

/-! ### Powers, reckoned -/
def mpowF : Nat → Nat → Nat → Nat → Nat
  | 0, m, _, _ => 1 % m
  | f + 1, m, a, e => cond (Nat.beq (e % 2) 1) (mpowF f m (a * a % m) (e / 2) * a % m) (mpowF f m (a * a % m) (e / 2))
theorem mpowF_eq (m : Nat) : ∀ f a e, e < 2 ^ f → mpowF f m a e = a ^ e % m
  | 0, a, e, h => by
    have : e = 0 := by simpa using h
    subst this
    rfl
  | f + 1, a, e, h => by
    have h2 : e / 2 < 2 ^ f := by rw [Nat.pow_succ] at h; omega
    have ih := mpowF_eq m f (a * a % m) (e / 2) h2
    have sq : (a * a % m) ^ (e / 2) % m = a ^ (2 * (e / 2)) % m := by rw [← Nat.pow_mod, Nat.pow_mul, Nat.pow_two]
    rw [sq] at ih
    rw [mpowF, ih]
    by_cases h1 : e % 2 = 1
    · have e1 : e = 2 * (e / 2) + 1 := by omega
      rw [h1]
      show a ^ (2 * (e / 2)) % m * a % m = a ^ e % m
      rw [Nat.mod_mul_mod, ← Nat.pow_succ, show (2 * (e / 2)).succ = e from by omega]
    · have e1 : 2 * (e / 2) = e := by omega
      have e0 : e % 2 = 0 := by omega
      rw [e0]
      show a ^ (2 * (e / 2)) % m = a ^ e % m
      rw [e1]

/-! ### Pocklington -/
theorem pow_one_mod (d a m n : Nat) (hm : a ^ m % d = 1 % d) : a ^ (n % m) % d = a ^ n % d := by
  have e : a ^ n = a ^ (n % m) * (a ^ m) ^ (n / m) := by rw [← Nat.pow_mul, ← Nat.pow_add, Nat.mod_add_div]
  rw [e, Nat.mul_mod, Nat.pow_mod (a ^ m), hm, ← Nat.pow_mod, Nat.one_pow, ← Nat.mul_mod, Nat.mul_one]
theorem pow_gcd (d a m n : Nat) : a ^ m % d = 1 % d → a ^ n % d = 1 % d → a ^ (Nat.gcd m n) % d = 1 % d := by
  induction m, n using Nat.gcd.induction with
  | H0 n => intro _ h; rw [Nat.gcd_zero_left]; exact h
  | H1 m n hpos ih =>
    intro hm hn
    rw [Nat.gcd_rec]
    exact ih (by rw [pow_one_mod d a m n hm]; exact hn) hm
theorem dvd_lt {d n : Nat} (hn : 0 < n) (h : d ∣ n) (hne : d ≠ n) : d < n := Nat.lt_of_le_of_ne (Nat.le_of_dvd hn h) hne
theorem prime_or (n : Nat) (h : 2 ≤ n) : PrimeN n ∨ ∃ d, d ∣ n ∧ 2 ≤ d ∧ d < n := by
  by_cases c : ∃ d, d ∣ n ∧ 2 ≤ d ∧ d < n
  · exact .inr c
  · refine .inl ⟨h, fun d hd => ?_⟩
    by_cases e : d = n
    · exact .inr e
    · by_cases e1 : d = 1
      · exact .inl e1
      · have d0 : d ≠ 0 := fun z => by rw [z, Nat.zero_dvd] at hd; omega
        exact absurd ⟨d, hd, by omega, dvd_lt (by omega) hd e⟩ c
theorem exists_prime (n : Nat) (h : 2 ≤ n) : ∃ p, PrimeN p ∧ p ∣ n := by
  induction n using Nat.strongRecOn with
  | ind n ih =>
    rcases prime_or n h with g | ⟨d, hd, h2, hlt⟩
    · exact ⟨n, g, Nat.dvd_refl n⟩
    · obtain ⟨p, hp, hpd⟩ := ih d hlt h2
      exact ⟨p, hp, Nat.dvd_trans hpd hd⟩
theorem small_factor (n : Nat) (h : 2 ≤ n) (hn : ¬ PrimeN n) : ∃ p, PrimeN p ∧ p ∣ n ∧ p * p ≤ n := by
  rcases prime_or n h with g | ⟨d, ⟨e, he⟩, h2, hlt⟩
  · exact absurd g hn
  · have key : ∀ x y, 2 ≤ x → n = x * y → x ≤ y → ∃ p, PrimeN p ∧ p ∣ n ∧ p * p ≤ n := fun x y hx hxy hle => by
      obtain ⟨p, hp, hpx⟩ := exists_prime x hx
      have ple : p ≤ x := Nat.le_of_dvd (by omega) hpx
      exact ⟨p, hp, Nat.dvd_trans hpx ⟨y, hxy⟩, by rw [hxy]; exact Nat.mul_le_mul ple (Nat.le_trans ple hle)⟩
    have e2 : 2 ≤ e := by
      rcases Nat.lt_or_ge e 2 with q | q
      · have : e = 0 ∨ e = 1 := by omega
        rcases this with r | r
        · rw [r] at he; omega
        · rw [r] at he; omega
      · exact q
    rcases Nat.le_total d e with q | q
    · exact key d e h2 he q
    · exact key e d e2 (by rw [he, Nat.mul_comm]) q
/-- One prime q of N - 1 divides d - 1, for each prime d of N. -/
theorem pock_one (N a q d : Nat) (hN : 2 ≤ N) (hq : PrimeN q) (hqN : q ∣ N - 1) (h1 : a ^ (N - 1) % N = 1) (hg : Nat.gcd (a ^ ((N - 1) / q) % N + (N - 1)) N = 1) (hd : PrimeN d) (hdN : d ∣ N) : q ∣ d - 1 := by
  have d2 := hd.1
  have m1 : a ^ (N - 1) % d = 1 % d := by rw [← Nat.mod_mod_of_dvd _ hdN, h1]
  have nd : ¬ d ∣ a := fun h => by
    have z : a ^ (N - 1) % d = 0 := Nat.mod_eq_zero_of_dvd (Nat.dvd_trans h (Nat.dvd_trans ⟨a ^ (N - 2), by rw [Nat.mul_comm, ← Nat.pow_succ]⟩ (show a ^ (N - 2 + 1) ∣ a ^ (N - 1) from by rw [show N - 2 + 1 = N - 1 from by omega]; exact Nat.dvd_refl _)))
    rw [m1, Nat.mod_eq_of_lt (by omega)] at z
    omega
  have m2 : a ^ (d - 1) % d = 1 % d := by rw [fermat1 hd a nd, Nat.mod_eq_of_lt (by omega)]
  have mg := pow_gcd d a (N - 1) (d - 1) m1 m2
  by_cases hqd : q ∣ d - 1
  · exact hqd
  exfalso
  have cop : Nat.gcd q (Nat.gcd (N - 1) (d - 1)) = 1 := hq.coprime fun h => hqd (Nat.dvd_trans h (Nat.gcd_dvd_right _ _))
  have hh : N - 1 = q * ((N - 1) / q) := (Nat.mul_div_cancel' hqN).symm
  have gd : Nat.gcd (N - 1) (d - 1) ∣ (N - 1) / q := by
    refine Nat.Coprime.dvd_of_dvd_mul_left (m := q) ?_ ?_
    · show Nat.gcd _ _ = 1
      rw [Nat.gcd_comm]
      exact cop
    · rw [← hh]
      exact Nat.gcd_dvd_left _ _
  obtain ⟨k, hk⟩ := gd
  have m3 : a ^ ((N - 1) / q) % d = 1 % d := by rw [hk, Nat.pow_mul, Nat.pow_mod, mg, ← Nat.pow_mod, Nat.one_pow]
  have dd : d ∣ a ^ ((N - 1) / q) % N + (N - 1) := by
    apply Nat.dvd_of_mod_eq_zero
    rw [Nat.add_mod, Nat.mod_mod_of_dvd _ hdN, m3, ← Nat.add_mod, show 1 + (N - 1) = N from by omega]
    exact Nat.mod_eq_zero_of_dvd hdN
  have one := Nat.dvd_gcd dd hdN
  rw [hg] at one
  have := Nat.le_of_dvd (by omega) one
  omega
def lprod : List Nat → Nat
  | [] => 1
  | q :: l => q * lprod l
theorem lprod_dvd (x : Nat) : ∀ l : List Nat, (∀ q ∈ l, q ∣ x) → (∀ q m, l = q :: m ∨ (∃ k, l = k ++ q :: m) → Nat.gcd q (lprod m) = 1) → lprod l ∣ x
  | [], _, _ => ⟨x, by simp [lprod]⟩
  | q :: l, h, c => by
    have ih := lprod_dvd x l (fun y hy => h y (List.mem_cons_of_mem _ hy)) (fun y m hm => by
      refine c y m (.inr ?_)
      rcases hm with rfl | ⟨k, rfl⟩
      · exact ⟨[q], rfl⟩
      · exact ⟨q :: k, rfl⟩)
    exact Nat.Coprime.mul_dvd_of_dvd_of_dvd (c q l (.inl rfl)) (h q (List.mem_cons_self)) ih
def apart : List Nat → Bool
  | [] => true
  | q :: l => Nat.beq (Nat.gcd q (lprod l)) 1 && apart l
theorem lprod_dvd' (x : Nat) : ∀ l : List Nat, (∀ q ∈ l, q ∣ x) → apart l = true → lprod l ∣ x
  | [], _, _ => ⟨x, by simp [lprod]⟩
  | q :: l, h, c => by
    simp only [apart, Bool.and_eq_true] at c
    exact Nat.Coprime.mul_dvd_of_dvd_of_dvd (Nat.eq_of_beq_eq_true c.1) (h q (List.mem_cons_self)) (lprod_dvd' x l (fun y hy => h y (List.mem_cons_of_mem _ hy)) c.2)
/-- What is reckoned of one prime of N - 1. -/
def pockB (f N a q : Nat) : Bool := Nat.beq ((N - 1) % q) 0 && Nat.beq (Nat.gcd (mpowF f N a ((N - 1) / q) + (N - 1)) N) 1
def pockAll (f N a : Nat) : List Nat → Bool
  | [] => true
  | q :: l => pockB f N a q && pockAll f N a l
theorem pock (f N a : Nat) (l : List Nat) (hN : 2 ≤ N) (hf : N < 2 ^ f) (hl : ∀ q ∈ l, PrimeN q) (h1 : mpowF f N a (N - 1) = 1) (hb : pockAll f N a l = true) (hc : apart l = true) (hF : N < lprod l * lprod l) : PrimeN N := by
  by_cases c : PrimeN N
  · exact c
  exfalso
  obtain ⟨d, hd, hdN, hdd⟩ := small_factor N hN c
  have d2 := hd.1
  rw [mpowF_eq N f a (N - 1) (by omega)] at h1
  have all : ∀ l : List Nat, (∀ q ∈ l, PrimeN q) → pockAll f N a l = true → ∀ q ∈ l, q ∣ d - 1 := by
    intro l
    induction l with
    | nil => intro _ _ q hq; cases hq
    | cons x l ih =>
      intro hl hb q hq
      simp only [pockAll, Bool.and_eq_true] at hb
      rcases List.mem_cons.1 hq with rfl | hq
      · have hb1 := hb.1
        simp only [pockB, Bool.and_eq_true] at hb1
        have e1 := Nat.eq_of_beq_eq_true hb1.1
        have e2 := Nat.eq_of_beq_eq_true hb1.2
        rw [mpowF_eq N f a _ (Nat.lt_of_le_of_lt (Nat.div_le_self _ _) (by omega))] at e2
        exact pock_one N a q d hN (hl q (List.mem_cons_self)) (Nat.dvd_of_mod_eq_zero e1) h1 e2 hd hdN
      · exact ih (fun y hy => hl y (List.mem_cons_of_mem _ hy)) hb.2 q hq
  have dv := lprod_dvd' (d - 1) l (all l hl hb) hc
  have le := Nat.le_of_dvd (by omega) dv
  have : lprod l * lprod l ≤ d * d := Nat.mul_le_mul (by omega) (by omega)
  omega

/-! ### Small primes by trial -/
def trial (n : Nat) : Nat → Bool
  | 0 => true
  | k + 1 => cond (Nat.beq (n % (k + 2)) 0) false (trial n k)
theorem trial_no (n : Nat) : ∀ k, trial n k = true → ∀ d, 2 ≤ d → d < k + 2 → ¬ d ∣ n
  | 0, _, d, h1, h2, _ => by omega
  | k + 1, h, d, h1, h2, hd => by
    rw [trial] at h
    cases hb : Nat.beq (n % (k + 2)) 0 with
    | true => rw [hb] at h; cases h
    | false =>
      rw [hb] at h
      by_cases e : d = k + 2
      · subst e
        rw [Nat.mod_eq_zero_of_dvd hd] at hb
        cases hb
      · exact trial_no n k h d h1 (by omega) hd
theorem prime_small (n k : Nat) (hn : 2 ≤ n) (h : trial n k = true) (hk : n < (k + 2) * (k + 2)) : PrimeN n := by
  by_cases c : PrimeN n
  · exact c
  exfalso
  obtain ⟨p, hp, hpn, hpp⟩ := small_factor n hn c
  rcases Nat.lt_or_ge p (k + 2) with g | g
  · exact trial_no n k h p hp.1 g hpn
  · have := Nat.mul_le_mul g g
    omega
end Go.Proofs.YtbpgiijdcagckaaDoor
