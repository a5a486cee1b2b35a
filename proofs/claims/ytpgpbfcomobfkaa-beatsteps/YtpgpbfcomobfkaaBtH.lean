/- The law BeatRound. -/
import Derived.Test.YtpgpbfcomobfkaaBtG
namespace Go.Proofs.Ytpgpbfcomobfkaa
open Go Go.RowKit Go.Lib

def seenN (n v : Nat) : Nat → Nat → Bool
  | 0, _ => false
  | i + 1, j => seenN n v i j || decide (j = (v + i) % n + 1)
theorem seenN_iff {n v : Nat} : ∀ {i j : Nat}, seenN n v i j = true ↔ ∃ q, q < i ∧ j = (v + q) % n + 1
  | 0, j => by
    constructor
    · intro h; cases h
    · rintro ⟨q, h, _⟩; omega
  | i + 1, j => by
    rw [seenN, Bool.or_eq_true, seenN_iff, decide_eq_true_eq]
    constructor
    · rintro (⟨q, h1, h2⟩ | h)
      · exact ⟨q, by omega, h2⟩
      · exact ⟨i, by omega, h⟩
    · rintro ⟨q, h1, h2⟩
      by_cases c : q = i
      · subst c; exact .inr h2
      · exact .inl ⟨q, by omega, h2⟩
theorem seenN_new {n v i : Nat} (hn : i < n) : seenN n v i ((v + i) % n + 1) = false := by
  cases h : seenN n v i ((v + i) % n + 1) with
  | false => rfl
  | true =>
    obtain ⟨q, h1, h2⟩ := seenN_iff.1 h
    have h3 : (v + i) % n = (v + q) % n := by omega
    have h4 := Nat.div_add_mod (v + i) n
    have h5 := Nat.div_add_mod (v + q) n
    have h6 : n * ((v + i) / n) = n * ((v + q) / n) + (i - q) := by omega
    have h7 : n ∣ (i - q) := by
      have e : i - q = n * ((v + i) / n) - n * ((v + q) / n) := by omega
      rw [e, ← Nat.mul_sub]
      exact Nat.dvd_mul_right _ _
    have := Nat.le_of_dvd (by omega) h7
    omega
structure SeenAt (w : World) (b n v i : Nat) : Prop where
  lt : b < w.heap.size
  c : ∀ j, j < 11 → w.cell? ⟨b, j, none⟩ = some (.bool (seenN n v i j))
  fz : ∀ j, w.frozen? ⟨b, j, none⟩ = false
theorem SeenAt.step {w : World} {b n v i t : Nat} (h : SeenAt w b n v i) (ht : t = (v + i) % n + 1) (h11 : t < 11) : SeenAt (w.setCell ⟨b, t, none⟩ (.bool true)) b n v (i + 1) :=
  ⟨by simpa using h.lt, fun j hj => by
    by_cases c : j = t
    · subst c; rw [cell_eq (h.c j hj), seenN, decide_eq_true ht, Bool.or_true]
    · rw [cell_ne c, h.c j hj, seenN, decide_eq_false (by omega), Bool.or_false], fun j => by rw [World.frozen?_setCell]; exact h.fz j⟩
theorem SeenAt.call {w w' : World} {b n v i : Nat} (h : SeenAt w b n v i) (hb : Below w.heap.size w w') : SeenAt w' b n v i :=
  ⟨Nat.lt_of_lt_of_le h.lt hb.size, fun j hj => (hb.cell (p := ⟨b, j, none⟩) h.lt).trans (h.c j hj), fun j => (hb.frozen (p := ⟨b, j, none⟩) h.lt).trans (h.fz j)⟩
theorem beatRound_no (n v : Int) (h : ¬ ((1 ≤ n ∧ n ≤ 10) ∧ 0 ≤ v ∧ v ≤ 549755813888)) (w : World) : Calls Try.prog 6 #[.int .i64 n, .int .i64 v] w fun e w' => e = .returned (.bool true) ∧ Below w.heap.size w w' := by
  have fin : ∀ (P : Prop), P → P := fun _ h => h
  by_cases h1 : n < 1
  · clear h
    go_enter Try.func6, Try.ntmps6
    go_wp2_with fail
    refine (five_any _).mono ?_
    rintro e w2 ⟨rfl, hb⟩
    have HB : Hid _ := hb
    clear hb
    go_wp2_with fail
    go_ret
    exact ⟨rfl, HB.out⟩
  by_cases h2 : 10 < n
  · clear h
    go_enter Try.func6, Try.ntmps6
    go_wp2_with fail
    refine (five_any _).mono ?_
    rintro e w2 ⟨rfl, hb⟩
    have HB : Hid _ := hb
    clear hb
    go_wp2_with fail
    go_ret
    exact ⟨rfl, HB.out⟩
  by_cases h3 : v < 0
  · clear h
    go_enter Try.func6, Try.ntmps6
    go_wp2_with fail
    refine (five_any _).mono ?_
    rintro e w2 ⟨rfl, hb⟩
    have HB : Hid _ := hb
    clear hb
    go_wp2_with fail
    go_ret
    exact ⟨rfl, HB.out⟩
  · have h4 : 549755813888 < v := by omega
    clear h
    go_enter Try.func6, Try.ntmps6
    go_wp2_with fail
    refine (five_any _).mono ?_
    rintro e w2 ⟨rfl, hb⟩
    have HB : Hid _ := hb
    clear hb
    go_wp2_with fail
    go_ret
    exact ⟨rfl, HB.out⟩
theorem seen_new (w : World) (n v : Nat) (t : TypeId) : SeenAt (w.alloc (Obj.cells #[.bool false, .bool false, .bool false, .bool false, .bool false, .bool false, .bool false, .bool false, .bool false, .bool false, .bool false] t)) w.heap.size n v 0 := by
  refine ⟨by simp, fun j hj => ?_, fun j => World.frozen?_alloc_new _ _ _ _⟩
  rw [World.cell?_alloc_new]
  have : j = 0 ∨ j = 1 ∨ j = 2 ∨ j = 3 ∨ j = 4 ∨ j = 5 ∨ j = 6 ∨ j = 7 ∨ j = 8 ∨ j = 9 ∨ j = 10 := by omega
  rcases this with rfl | rfl | rfl | rfl | rfl | rfl | rfl | rfl | rfl | rfl | rfl <;> rfl
set_option maxHeartbeats 1000000 in
theorem beatRound_ok (n v : Nat) (n1 : 1 ≤ n) (n10 : n ≤ 10) (hv : v ≤ 549755813888) (w : World) : Calls Try.prog 6 #[.int .i64 (n : Nat), .int .i64 (v : Nat)] w fun e w' => e = .returned (.bool true) ∧ Below w.heap.size w w' := by
  have a1 : (1 : Int) ≤ (n : Nat) := by omega
  have a2 : ((n : Nat) : Int) ≤ 10 := by omega
  have a3 : ((v : Nat) : Int) ≤ 549755813888 := by omega
  have a4 : (0 : Int) ≤ ((v : Nat) : Int) := by omega
  have HN : Hid (1 ≤ n ∧ n ≤ 10 ∧ v ≤ 549755813888) := ⟨n1, n10, hv⟩
  clear n1 n10 hv
  go_enter Try.func6, Try.ntmps6
  go_wp2_with fail
  rename_i Kr hKr
  have HKr : Hid _ := hKr
  clear hKr
  obtain ⟨W, hWW⟩ : ∃ W : World, W = (w.alloc (Obj.cells #[.bool false, .bool false, .bool false, .bool false, .bool false, .bool false, .bool false, .bool false, .bool false, .bool false, .bool false] 59)) := ⟨_, rfl⟩
  have hP : SeenAt W w.heap.size n v 0 ∧ Below w.heap.size w W := by rw [hWW]; exact ⟨seen_new w n v _, below_alloc0 (Below.refl _ _) _⟩
  have HP : Hid _ := hP
  clear hP
  rw [← hWW]
  clear hWW
  obtain ⟨g, hg⟩ : ∃ g, g = w.heap.size := ⟨_, rfl⟩
  have HG : Hid (g = w.heap.size) := hg
  rw [← hg] at HP ⊢
  clear hg
  go_loopw [6] (fun iv wr => ∃ i : Nat, i ≤ n ∧ iv = .int .i64 (i : Nat) ∧ SeenAt wr g n v i ∧ Below g w wr) (fun iv _ => n - (Go.RowKit.intOf iv).toNat)
  case atStart => exact ⟨0, Nat.zero_le _, rfl, HP.out⟩
  case round =>
    obtain ⟨i, hi, rfl, hA, hB⟩ := hrel
    rename World => wr
    have HA : Hid (_ ∧ _) := ⟨hA, hB⟩
    by_cases hlt : i < n
    · clear HKr
      have hlt' : (i : Int) < (n : Nat) := by omega
      obtain ⟨u, hu⟩ : ∃ u, u = v + i := ⟨_, rfl⟩
      have hu' : (v : Int) + (i : Int) = (u : Nat) := by omega
      obtain ⟨t, ht⟩ : ∃ t, t = u % n + 1 := ⟨_, rfl⟩
      have ht2 : t ≤ n := by rw [ht]; exact Nat.mod_lt _ HN.out.1
      have t1 : (1 : Int) ≤ (t : Nat) := by omega
      have t2 : ((t : Nat) : Int) ≤ (n : Nat) := by omega
      have t3 : ((t : Nat) : Int) < 11 := by omega
      have t4 : (0 : Int) ≤ (t : Nat) := by omega
      have cc := hA.c t (by have := HN.out; omega)
      have hs : seenN n v i t = false := by rw [ht, hu]; exact seenN_new hlt
      rw [hs] at cc
      have fc := hA.fz t
      have K1 : Hid (∀ w', Calls Try.prog 21 #[.int .i64 (n : Nat), .int .i64 (u : Nat)] w' fun e w'' => e = .returned (.tuple #[.int .i64 (t : Nat), .int .i64 0]) ∧ w'' = w') :=
        fun w' => by rw [ht]; exact tturn_ok n u HN.out.1 HN.out.2.1 (by have := HN.out; omega) w'
      have HI : Hid (i < n ∧ t = (v + i) % n + 1 ∧ t < 11) := ⟨hlt, by rw [ht, hu], by have := HN.out; omega⟩
      clear hA hB hlt hi hu ht ht2 hs
      go_wp2_with fail
      refine (K1.out _).mono ?_
      rintro e w1 ⟨rfl, rfl⟩
      go_wp2_with fail
      go_roundw
      case rel =>
        have t : i + 1 ≤ n ∧ SeenAt (w1.setCell ⟨g, t, none⟩ (.bool true)) g n v (i + 1) ∧ Below g w (w1.setCell ⟨g, t, none⟩ (.bool true)) := ⟨HI.out.1, HA.out.1.step HI.out.2.1 HI.out.2.2, HA.out.2.setCell (p := ⟨g, _, none⟩) (Nat.le_refl _) _⟩
        first | exact ⟨i + 1, t.1, by go_num, t.2⟩ | ((repeat apply Exists.intro); exact ⟨⟨i + 1, t.1, by go_num, t.2⟩, rfl⟩)
      case measure => have h1 := HI.out.1; simp [Go.RowKit.intOf]; omega
    · obtain rfl : i = n := by omega
      have hnl : ¬ ((i : Int) < (i : Int)) := Int.lt_irrefl _
      clear hlt hi hA hB
      go_wp2_with fail
      refine HKr.out _ _ ?_
      clear HKr
      go_wp2_with fail
      refine (five_any _).mono ?_
      rintro e w2 ⟨rfl, hb⟩
      have HB : Hid _ := hb
      clear hb
      go_wp2_with fail
      go_ret
      refine ⟨rfl, ?_⟩
      have h := HA.out.2
      rw [HG.out] at h
      exact below_call0 h HB.out
theorem beatRound_any (n v : Int) (w : World) : Calls Try.prog 6 #[.int .i64 n, .int .i64 v] w fun e w' => e = .returned (.bool true) ∧ Below w.heap.size w w' := by
  by_cases h : (1 ≤ n ∧ n ≤ 10) ∧ 0 ≤ v ∧ v ≤ 549755813888
  · have h1 : n = ((n.toNat : Nat) : Int) := by omega
    have h2 : v = ((v.toNat : Nat) : Int) := by omega
    rw [h1, h2]
    exact beatRound_ok _ _ (by omega) (by omega) (by omega) w
  · exact beatRound_no n v h w
end Go.Proofs.Ytpgpbfcomobfkaa
