/- The law BeatTurns. -/
import Derived.Test.YtpgpbfcomobfkaaBtJ
namespace Go.Proofs.Ytpgpbfcomobfkaa
open Go Go.RowKit Go.Lib

set_option maxHeartbeats 2000000 in
theorem beatTurns_ok (n v : Nat) (a : Option Addr) (l : List Int) (m cap : Nat) (hm : m = l.length) (n1 : 1 ≤ n) (n10 : n ≤ 10) (hv : v ≤ 1099511627776) (hl : l.length ≤ 17592186044416) (w : World) (hI : IntsAt w a l) : Calls Try.prog 5 #[.int .i64 (n : Nat), .int .i64 (v : Nat), .slice a m cap] w fun e w' => e = .returned (.bool true) ∧ Below w.heap.size w w' := by
  obtain ⟨t, ht⟩ : ∃ t, t = v % n + 1 := ⟨_, rfl⟩
  obtain ⟨t', ht'⟩ : ∃ t', t' = v % n := ⟨_, rfl⟩
  have r1 : ((v : Nat) : Int).tmod ((n : Nat) : Int) = (t' : Nat) := by rw [ht']; rfl
  have r2 : (t' : Int) + 1 = (t : Nat) := by omega
  have r3 : ((t : Nat) : Int) ≤ 10 := by have := Nat.mod_lt v n1; omega
  have r0 : ¬ (((n : Nat) : Int) = 0) := by omega
  have b1 : (1 : Int) ≤ ((n : Nat) : Int) := by omega
  have b2 : ((n : Nat) : Int) ≤ 10 := by omega
  have b3 : (0 : Int) ≤ ((v : Nat) : Int) := by omega
  have b4 : ((v : Nat) : Int) ≤ (1099511627776 : Int) := by omega
  obtain ⟨R1, hR1⟩ : ∃ R1, R1 = (nextV n v l).1 := ⟨_, rfl⟩
  obtain ⟨R2, hR2⟩ : ∃ R2, R2 = (nextV n v l).2 := ⟨_, rfl⟩
  have K1 : Hid (∀ w', Calls Try.prog 21 #[.int .i64 (n : Nat), .int .i64 (v : Nat)] w' fun e w'' => e = .returned (.tuple #[.int .i64 (t : Nat), .int .i64 0]) ∧ w'' = w') :=
    fun w' => by rw [ht]; exact tturn_ok n v n1 n10 hv w'
  have K2 : Hid (∀ w', IntsAt w' a l → Calls Try.prog 22 #[.int .i64 (n : Nat), .int .i64 (v : Nat), .slice a m cap] w' fun e w'' => e = .returned (.tuple #[.int .i64 R1, .int .i64 R2]) ∧ Below w'.heap.size w' w'') :=
    fun w' h => by rw [hm, hR1, hR2]; exact next_ok n v a l cap n1 n10 hv hl w' h
  have K3 : Hid (∀ w', IntsAt w' a l → Calls Try.prog 23 #[.int .i64 (n : Nat), .int .i64 (v : Nat), .slice a m cap] w' fun e w'' => e = .returned (.tuple #[.int .i64 R1, .int .i64 R2]) ∧ w'' = w') :=
    fun w' h => by rw [hm, hR1, hR2]; exact rnext_ok n v a l cap n1 n10 hv hl w' h
  have HI : Hid (IntsAt w a l) := hI
  clear ht ht' hR1 hR2 hm n1 n10 hv hl hI
  go_enter Try.func5, Try.ntmps5
  go_wp2_with fail
  refine (K1.out _).mono ?_
  rintro e w1 ⟨rfl, rfl⟩
  go_wp2_with fail
  refine (K2.out _ HI.out).mono ?_
  rintro e w2 ⟨rfl, hb2⟩
  have H2 : Hid (Below w1.heap.size w1 w2) := hb2
  clear hb2
  go_wp2_with fail
  refine (K3.out _ (HI.out.call H2.out)).mono ?_
  rintro e w3 ⟨rfl, rfl⟩
  go_wp2_with fail
  refine (five_any _).mono ?_
  rintro e w4 ⟨rfl, hb⟩
  have HB : Hid _ := hb
  clear hb
  go_wp2_with fail
  go_ret
  exact ⟨rfl, below_call0 H2.out HB.out⟩
set_option maxHeartbeats 2000000 in
theorem beatTurns_no (n v : Int) (a : Option Addr) (m cap : Nat) (h : ¬ ((1 ≤ n ∧ n ≤ 10) ∧ 0 ≤ v ∧ v ≤ 1099511627776)) (w : World) : Calls Try.prog 5 #[.int .i64 n, .int .i64 v, .slice a m cap] w fun e w' => e = .returned (.bool true) ∧ Below w.heap.size w w' := by
  have K1 : Hid (∀ w', Calls Try.prog 21 #[.int .i64 n, .int .i64 v] w' fun e w'' => e = .returned (.tuple #[.int .i64 0, .int .i64 1]) ∧ w'' = w') := fun w' => tturn_no n v h w'
  have K2 : Hid (∀ w', Calls Try.prog 22 #[.int .i64 n, .int .i64 v, .slice a m cap] w' fun e w'' => e = .returned (.tuple #[.int .i64 0, .int .i64 1]) ∧ w'' = w') := fun w' => next_no n v a m cap h w'
  have K3 : Hid (∀ w', Calls Try.prog 23 #[.int .i64 n, .int .i64 v, .slice a m cap] w' fun e w'' => e = .returned (.tuple #[.int .i64 0, .int .i64 1]) ∧ w'' = w') := fun w' => rnext_no n v a m cap h w'
  have hc : n < 1 ∨ (1 ≤ n ∧ 10 < n) ∨ (1 ≤ n ∧ n ≤ 10 ∧ v < 0) ∨ (1 ≤ n ∧ n ≤ 10 ∧ 0 ≤ v ∧ 1099511627776 < v) := by omega
  clear h
  rcases hc with h1 | ⟨h1, h2⟩ | ⟨h1, h2, h3⟩ | ⟨h1, h2, h3, h4⟩
  all_goals
    go_enter Try.func5, Try.ntmps5
    go_wp2_with fail
    refine (K1.out _).mono ?_
    rintro e w1 ⟨rfl, rfl⟩
    go_wp2_with fail
    refine (K2.out _).mono ?_
    rintro e w1 ⟨rfl, rfl⟩
    go_wp2_with fail
    refine (K3.out _).mono ?_
    rintro e w3 ⟨rfl, rfl⟩
    go_wp2_with fail
    refine (five_any _).mono ?_
    rintro e w4 ⟨rfl, hb⟩
    have HB : Hid _ := hb
    clear hb
    go_wp2_with fail
    go_ret
    exact ⟨rfl, HB.out⟩
theorem beatTurns_any (n v : Int) (a : Option Addr) (l : List Int) (m cap : Nat) (hm : m = l.length) (hl : l.length ≤ 17592186044416) (w : World) (hI : IntsAt w a l) : Calls Try.prog 5 #[.int .i64 n, .int .i64 v, .slice a m cap] w fun e w' => e = .returned (.bool true) ∧ Below w.heap.size w w' := by
  by_cases h : (1 ≤ n ∧ n ≤ 10) ∧ 0 ≤ v ∧ v ≤ 1099511627776
  · have h1 : n = ((n.toNat : Nat) : Int) := by omega
    have h2 : v = ((v.toNat : Nat) : Int) := by omega
    rw [h1, h2]
    exact beatTurns_ok _ _ a l m cap hm (by omega) (by omega) (by omega) hl w hI
  · exact beatTurns_no n v a m cap h w
end Go.Proofs.Ytpgpbfcomobfkaa
