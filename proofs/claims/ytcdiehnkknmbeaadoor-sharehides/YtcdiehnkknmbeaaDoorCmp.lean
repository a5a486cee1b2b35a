/- limb.Cmp: -1, 0 or 1, as the numbers lie. -/
import Derived.Test.YtcdiehnkknmbeaaDoorAdd
namespace Go.Proofs.YtcdiehnkknmbeaaDoor
open Go.RowKit

theorem ret_int {k : IntKind} {a b : Int} (h : a = b) : Ending.returned (.int k a) = .returned (.int k b) := by rw [h]

set_option maxHeartbeats 1000000 in
theorem cmp_any (a b : Nat) (ha : a < R256) (hb : b < R256) (w : World) :
    Calls Tryd.prog 62 #[.agg #[.int .u64 (limb (a) 0 : Nat), .int .u64 (limb (a) 1 : Nat), .int .u64 (limb (a) 2 : Nat), .int .u64 (limb (a) 3 : Nat)], .agg #[.int .u64 (limb (b) 0 : Nat), .int .u64 (limb (b) 1 : Nat), .int .u64 (limb (b) 2 : Nat), .int .u64 (limb (b) 3 : Nat)]] w fun e w' => e = .returned (.int .i64 (cmpN a b)) ∧ Below w.heap.size w w' := by
  go_enter Tryd.func62, Tryd.ntmps62
  go_wp2
  go_loopw [5] (fun i wr => ∃ k : Nat, k ≤ 4 ∧ i = .int .i64 ((k : Int) - 1) ∧ (∀ j, k ≤ j → j < 4 → limb a j = limb b j) ∧
      (∀ j, j < 4 → wr.cell? ⟨w.heap.size, j, none⟩ = some (.int .u64 (limb a j))) ∧ (∀ j, j < 4 → wr.cell? ⟨w.heap.size + 1, j, none⟩ = some (.int .u64 (limb b j))) ∧ Below w.heap.size w wr)
    (fun i _ => (intOf i + 1).toNat)
  case atStart =>
    refine ⟨4, by omega, rfl, fun j h1 h2 => by omega, ?_, ?_, by ((repeat' (first | with_reducible exact Below.refl _ _ | with_reducible refine Below.setCell ?_ ?_ _ | with_reducible refine below_alloc0 ?_ _ | with_reducible refine below_drewN ?_ _ | with_reducible refine Below.drew ?_ | refine below_call0 ?_ (by assumption))) <;> (first | omega | (simp; done) | (simp; omega)))⟩
    · refine limbs4 _ ?_ ?_ ?_ ?_ <;> simp [go_sem]
    · refine limbs4 _ ?_ ?_ ?_ ?_ <;> simp [go_sem]
  case round =>
    obtain ⟨k, hk, rfl, heq, hca, hcb, hbel⟩ := hrel
    by_cases hk0 : k = 0
    · subst hk0
      have HR : Hid (cmpN a b = 0) := by rw [cmp_eq a b ha hb heq]; exact cmpN_self b
      clear heq hca hcb
      go_wp2
      go_ret
      exact ⟨ret_int HR.out.symm, by ((repeat' (first | with_reducible exact Below.refl _ _ | with_reducible refine Below.setCell ?_ ?_ _ | with_reducible refine below_alloc0 ?_ _ | with_reducible refine below_drewN ?_ _ | with_reducible refine Below.drew ?_ | refine below_call0 ?_ (by assumption))) <;> (first | omega | (simp; done) | (simp; omega)))⟩
    · obtain ⟨m, rfl⟩ : ∃ m, k = m + 1 := ⟨k - 1, by omega⟩
      have e : ((m + 1 : Nat) : Int) - 1 = (m : Int) := by omega
      rw [e]
      clear e
      have hm : m < 4 := by omega
      have ga := hca m hm
      have gb := hcb m hm
      have HC : Hid ((∀ j, j < 4 → wr.cell? ⟨w.heap.size, j, none⟩ = some (.int .u64 (limb a j))) ∧ (∀ j, j < 4 → wr.cell? ⟨w.heap.size + 1, j, none⟩ = some (.int .u64 (limb b j)))) := ⟨hca, hcb⟩
      have HE : Hid (∀ j, m + 1 ≤ j → j < 4 → limb a j = limb b j) := heq
      clear hca hcb heq
      by_cases h1 : limb a m < limb b m
      · have HR : Hid (cmpN a b = -1) := cmpN_lt (cmp_lt a b m ha hb hm HE.out h1)
        have d1 : decide ((limb a m : Int) < (limb b m : Int)) = true := by simpa using h1
        go_wp2
        go_quiet (fail)
        go_wp2
        go_ret
        exact ⟨ret_int HR.out.symm, by ((repeat' (first | with_reducible exact Below.refl _ _ | with_reducible refine Below.setCell ?_ ?_ _ | with_reducible refine below_alloc0 ?_ _ | with_reducible refine below_drewN ?_ _ | with_reducible refine Below.drew ?_ | refine below_call0 ?_ (by assumption))) <;> (first | omega | (simp; done) | (simp; omega)))⟩
      · by_cases h2 : limb b m < limb a m
        · have HR : Hid (cmpN a b = 1) := cmpN_gt (cmp_lt b a m hb ha hm (fun j x y => (HE.out j x y).symm) h2)
          have d1 : decide ((limb a m : Int) < (limb b m : Int)) = false := by simpa using h1
          have d2 : decide ((limb b m : Int) < (limb a m : Int)) = true := by simpa using h2
          go_wp2
          go_quiet (fail)
          go_wp2
          go_quiet (fail)
          go_wp2
          go_ret
          exact ⟨ret_int HR.out.symm, by ((repeat' (first | with_reducible exact Below.refl _ _ | with_reducible refine Below.setCell ?_ ?_ _ | with_reducible refine below_alloc0 ?_ _ | with_reducible refine below_drewN ?_ _ | with_reducible refine Below.drew ?_ | refine below_call0 ?_ (by assumption))) <;> (first | omega | (simp; done) | (simp; omega)))⟩
        · have d1 : decide ((limb a m : Int) < (limb b m : Int)) = false := by simpa using h1
          have d2 : decide ((limb b m : Int) < (limb a m : Int)) = false := by simpa using h2
          have em : limb a m = limb b m := by omega
          have EM : Hid (limb a m = limb b m) := em
          clear em
          go_wp2
          go_quiet (fail)
          go_wp2
          go_quiet (fail)
          go_wp2
          go_roundw
          case rel =>
            refine ⟨m, by omega, rfl, ?_, HC.out.1, HC.out.2, by ((repeat' (first | with_reducible exact Below.refl _ _ | with_reducible refine Below.setCell ?_ ?_ _ | with_reducible refine below_alloc0 ?_ _ | with_reducible refine below_drewN ?_ _ | with_reducible refine Below.drew ?_ | refine below_call0 ?_ (by assumption))) <;> (first | omega | (simp; done) | (simp; omega)))⟩
            intro j hj hj4
            by_cases hjm : j = m
            · subst hjm; exact EM.out
            · exact HE.out j (by omega) hj4
          case measure => simp [intOf]
end Go.Proofs.YtcdiehnkknmbeaaDoor
