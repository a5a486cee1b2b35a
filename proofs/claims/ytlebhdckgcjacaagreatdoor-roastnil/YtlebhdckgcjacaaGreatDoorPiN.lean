/- Numbers as bytes: the plain mathematics. -/
import Derived.Test.YtlebhdckgcjacaaGreatDoorPcN
namespace Go.Proofs.YtlebhdckgcjacaaGreatDoor
open Go Go.Lib

theorem nbyL_cons (k : Nat) : ∀ n, nbyL n (k + 1) = UInt8.ofNat (n / 256 ^ k) :: nbyL n k := by
  induction k with
  | zero => intro n; simp [nbyL]
  | succ k ih =>
    intro n
    have h1 : nbyL n (k + 1 + 1) = nbyL (n / 256) (k + 1) ++ [UInt8.ofNat n] := rfl
    have h2 : nbyL n (k + 1) = nbyL (n / 256) k ++ [UInt8.ofNat n] := rfl
    rw [h1, ih, h2, Nat.div_div_eq_div_mul, List.cons_append, Nat.pow_succ, Nat.mul_comm]
def joinN (t : List UInt8) : Nat := t.foldl (fun n b => 256 * n + b.toNat) 0
theorem joinN_snoc (t : List UInt8) (b : UInt8) : joinN (t ++ [b]) = 256 * joinN t + b.toNat := by
  unfold joinN; rw [List.foldl_append]; rfl
theorem joinN_lt (t : List UInt8) : joinN t < 256 ^ t.length := by
  suffices h : ∀ n (t : List UInt8), t.length = n → joinN t < 256 ^ n from h _ t rfl
  intro n
  induction n with
  | zero => intro t ht; rw [List.eq_nil_of_length_eq_zero ht]; decide
  | succ n ih =>
    intro t ht
    obtain ⟨s, b, rfl⟩ : ∃ s b, t = s ++ [b] := ⟨t.dropLast, t.getLast (by intro c; rw [c] at ht; simp at ht), (List.dropLast_concat_getLast _).symm⟩
    have hs : s.length = n := by simpa using ht
    have := ih s hs
    have hb := b.toNat_lt
    rw [joinN_snoc, Nat.pow_succ]
    omega
theorem joinN_numL (k : Nat) : ∀ n, n < 256 ^ k → joinN (nbyL n k) = n := by
  induction k with
  | zero => intro n h; have : n = 0 := by omega
            subst this; rfl
  | succ k ih =>
    intro n h
    have h1 : nbyL n (k + 1) = nbyL (n / 256) k ++ [UInt8.ofNat n] := rfl
    have h3 : (UInt8.ofNat n).toNat = n % 256 := by simp
    rw [h1, joinN_snoc, ih (n / 256) (by rw [Nat.pow_succ] at h; omega), h3]
    omega
/-- What Ints answers. -/
def inB (l : List Int) : Bool := l.all fun n => decide (0 ≤ n)
def inL : List Int → List UInt8
  | [] => []
  | n :: r => nbyL n.toNat 8 ++ inL r
theorem inL_append (a b : List Int) : inL (a ++ b) = inL a ++ inL b := by
  induction a with
  | nil => rfl
  | cons s r ih => simp only [List.cons_append, inL, ih, List.append_assoc]
theorem inL_length (l : List Int) : (inL l).length = 8 * l.length := by
  induction l with
  | nil => rfl
  | cons s r ih => simp only [inL, List.length_append, nbyL_length, ih, List.length_cons]; omega
def inE (l : List Int) : Int := if 1000 < l.length then 2 else if inB l then 0 else 1
def inS (l : List Int) : ByteArray := if inE l = 0 then ofL (inL l) else ⟨#[]⟩
/-- What ToInts answers. -/
def valAt (t : List UInt8) (i : Nat) : Nat := joinN ((t.drop (8 * i)).take 8)
def tiB (t : List UInt8) : Bool := decide (t.length % 8 = 0) && decide (t.length ≤ 8000) && (List.range (t.length / 8)).all fun i => decide (valAt t i < 9223372036854775808)
def tiE (t : List UInt8) : Int := if tiB t then 0 else 4
def tiL (t : List UInt8) : List Int := if tiB t then (List.range (t.length / 8)).map fun i => (valAt t i : Int) else []
theorem inL_take_succ {l : List Int} {k : Nat} (hk : k < l.length) : inL (l.take (k + 1)) = inL (l.take k) ++ nbyL (l[k]'hk).toNat 8 := by
  rw [List.take_succ_eq_append_getElem hk, inL_append]
  simp [inL]
theorem inB_mem {l : List Int} (h : inB l = true) {k : Nat} (hk : k < l.length) : 0 ≤ (l[k]'hk) := by
  have := List.all_eq_true.1 h _ (List.getElem_mem hk)
  simpa using this
theorem inB_false {l : List Int} {k : Nat} (hk : k < l.length) (h : (l[k]'hk) < 0) : inB l = false := by
  rcases Bool.eq_false_or_eq_true (inB l) with c | c
  · have := inB_mem c hk; omega
  · exact c
theorem num8 (n : Nat) : nbyL n 8 = [UInt8.ofNat (n / 256 ^ 7), UInt8.ofNat (n / 256 ^ 6), UInt8.ofNat (n / 256 ^ 5), UInt8.ofNat (n / 256 ^ 4), UInt8.ofNat (n / 256 ^ 3), UInt8.ofNat (n / 256 ^ 2), UInt8.ofNat (n / 256 ^ 1), UInt8.ofNat (n / 256 ^ 0)] := by
  rw [nbyL_cons, nbyL_cons, nbyL_cons, nbyL_cons, nbyL_cons, nbyL_cons, nbyL_cons, nbyL_cons]
  rfl
theorem num8_take (n j : Nat) (hj : j < 8) : (nbyL n 8).take (j + 1) = (nbyL n 8).take j ++ [UInt8.ofNat (n / 256 ^ (7 - j))] := by
  rw [num8]
  match j, hj with
  | 0, _ => rfl
  | 1, _ => rfl
  | 2, _ => rfl
  | 3, _ => rfl
  | 4, _ => rfl
  | 5, _ => rfl
  | 6, _ => rfl
  | 7, _ => rfl
theorem valAt_inL (l : List Int) : (∀ n ∈ l, 0 ≤ n ∧ n < 9223372036854775808) → ∀ i (hi : i < l.length), ((valAt (inL l) i : Nat) : Int) = (l[i]'hi) := by
  induction l with
  | nil => intro _ i hi; simp at hi
  | cons n r ih =>
    intro h i hi
    have hn := h n (List.mem_cons_self ..)
    match i, hi with
    | 0, _ =>
      unfold valAt
      have e : (nbyL n.toNat 8 ++ inL r).take 8 = nbyL n.toNat 8 := List.take_left' (nbyL_length 8 _)
      simp only [inL, Nat.mul_zero, List.drop_zero, e, List.getElem_cons_zero]
      rw [joinN_numL 8 n.toNat (by have : (256 : Nat) ^ 8 = 18446744073709551616 := by decide
                                   omega)]
      omega
    | i + 1, hi =>
      have e : (inL (n :: r)).drop (8 * (i + 1)) = (inL r).drop (8 * i) := by
        have : inL (n :: r) = nbyL n.toNat 8 ++ inL r := rfl
        rw [this, show 8 * (i + 1) = 8 + 8 * i from by omega, ← List.drop_drop, List.drop_left' (nbyL_length 8 _)]
      have := ih (fun m hm => h m (List.mem_cons_of_mem _ hm)) i (by simpa using hi)
      unfold valAt at this ⊢
      rw [e]
      simpa using this
/-- There and back. -/
theorem ti_in (l : List Int) (hr : ∀ n ∈ l, n < 9223372036854775808) (h : inE l = 0) : tiE (inL l) = 0 ∧ tiL (inL l) = l := by
  unfold inE at h
  split at h
  · exact absurd h (by decide)
  · rename_i h1
    split at h
    · rename_i h2
      have hall : ∀ n ∈ l, 0 ≤ n ∧ n < 9223372036854775808 := fun n hn => ⟨by have := List.all_eq_true.1 h2 n hn; simpa using this, hr n hn⟩
      have hlen := inL_length l
      have hdiv : (inL l).length / 8 = l.length := by omega
      have hB : tiB (inL l) = true := by
        unfold tiB
        rw [decide_eq_true (show (inL l).length % 8 = 0 by omega), decide_eq_true (show (inL l).length ≤ 8000 by omega), hdiv, Bool.true_and, Bool.true_and]
        refine List.all_eq_true.2 fun i hi => ?_
        have hi' : i < l.length := by simpa using hi
        have h3 := valAt_inL l hall i hi'
        have h4 := (hall _ (List.getElem_mem hi')).2
        exact decide_eq_true (by omega)
      refine ⟨by unfold tiE; rw [hB]; rfl, ?_⟩
      unfold tiL
      rw [hB, if_pos rfl, hdiv]
      apply List.ext_getElem
      · simp
      · intro i h5 h6
        simp only [List.getElem_map, List.getElem_range]
        exact valAt_inL l hall i h6
    · exact absurd h (by decide)
end Go.Proofs.YtlebhdckgcjacaaGreatDoor
