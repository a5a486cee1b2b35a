/- Several texts laid together. -/
import Derived.Test.YtkdejflgmgljiaaDoorFdA
import Derived.Test.YtkdejflgmgljiaaDoorLbA
import Derived.Deep.DeepCutAuto
import Derived.Test.YtkdejflgmgljiaaDoorFdB
namespace Go.Proofs.YtkdejflgmgljiaaDoor
open Go.RowKit

theorem ret_bool {a b : Bool} (h : a = b) : Ending.returned (.bool a) = .returned (.bool b) := by rw [h]

set_option maxHeartbeats 1000000 in
theorem less_ref (a b : Nat) (ha : a < R256) (hb : b < R256) (w : World) :
    Calls Tryd.prog 52 #[.agg #[.int .u64 (limb (a) 0 : Nat), .int .u64 (limb (a) 1 : Nat), .int .u64 (limb (a) 2 : Nat), .int .u64 (limb (a) 3 : Nat)], .agg #[.int .u64 (limb (b) 0 : Nat), .int .u64 (limb (b) 1 : Nat), .int .u64 (limb (b) 2 : Nat), .int .u64 (limb (b) 3 : Nat)]] w fun e w' => e = .returned (.bool (decide (a < b))) ∧ Below w.heap.size w w' := by
  go_enter Tryd.func52, Tryd.ntmps52
  go_wp2
  go_loopw [5] (fun i wr => ∃ k : Nat, k ≤ 4 ∧ i = .int .i64 ((k : Int) - 1) ∧ (∀ j, k ≤ j → j < 4 → limb a j = limb b j) ∧ Num4 wr w.heap.size a ∧ Num4 wr (w.heap.size + 1) b ∧ Below w.heap.size w wr)
    (fun i _ => (intOf i + 1).toNat)
  case atStart => exact ⟨4, by omega, rfl, fun j h1 h2 => by omega, by ((repeat' (first | assumption | (refine Num4.new' ?_; first | omega | (simp; done)) | refine Num4.set ?_ ?_ | refine Num4.alloc ?_ ?_ | refine Num4.drewN ?_ | refine Num4.call ?_ (by assumption) ?_)) <;> (first | omega | (simp; done) | (simp; omega))), by ((repeat' (first | assumption | (refine Num4.new' ?_; first | omega | (simp; done)) | refine Num4.set ?_ ?_ | refine Num4.alloc ?_ ?_ | refine Num4.drewN ?_ | refine Num4.call ?_ (by assumption) ?_)) <;> (first | omega | (simp; done) | (simp; omega))), by ((repeat' (first | with_reducible exact Below.refl _ _ | with_reducible refine Below.setCell ?_ ?_ _ | with_reducible refine below_alloc0 ?_ _ | with_reducible refine below_drewN ?_ _ | with_reducible refine Below.drew ?_ | refine below_call0 ?_ (by assumption))) <;> (first | omega | (simp; done) | (simp; omega)))⟩
  case round =>
    obtain ⟨k, hk, rfl, heq, hca, hcb, hbel⟩ := hrel
    by_cases hk0 : k = 0
    · subst hk0
      have HR : Hid (decide (a < b) = false) := by rw [cmp_eq a b ha hb heq]; simp [Hid]
      clear heq hca hcb
      go_wp2
      go_ret
      exact ⟨ret_bool HR.out.symm, by ((repeat' (first | with_reducible exact Below.refl _ _ | with_reducible refine Below.setCell ?_ ?_ _ | with_reducible refine below_alloc0 ?_ _ | with_reducible refine below_drewN ?_ _ | with_reducible refine Below.drew ?_ | refine below_call0 ?_ (by assumption))) <;> (first | omega | (simp; done) | (simp; omega)))⟩
    · obtain ⟨m, rfl⟩ : ∃ m, k = m + 1 := ⟨k - 1, by omega⟩
      have e : ((m + 1 : Nat) : Int) - 1 = (m : Int) := by omega
      rw [e]
      clear e
      have hm : m < 4 := by omega
      have ga := hca m hm
      have gb := hcb m hm
      have HC : Hid _ := And.intro hca hcb
      have HE : Hid (∀ j, m + 1 ≤ j → j < 4 → limb a j = limb b j) := heq
      clear hca hcb heq
      by_cases h1 : limb a m < limb b m
      · have HR : Hid (decide (a < b) = true) := by rw [decide_eq_true_iff]; exact cmp_lt a b m ha hb hm HE.out h1
        have e1 : ((limb a m : Int) == (limb b m : Int)) = false := by simp; omega
        have d1 : decide ((limb a m : Int) < (limb b m : Int)) = true := by simpa using h1
        go_wp2
        go_quiet (fail)
        go_wp2
        go_quiet (fail)
        go_wp2
        go_ret
        exact ⟨ret_bool HR.out.symm, by ((repeat' (first | with_reducible exact Below.refl _ _ | with_reducible refine Below.setCell ?_ ?_ _ | with_reducible refine below_alloc0 ?_ _ | with_reducible refine below_drewN ?_ _ | with_reducible refine Below.drew ?_ | refine below_call0 ?_ (by assumption))) <;> (first | omega | (simp; done) | (simp; omega)))⟩
      · by_cases h2 : limb b m < limb a m
        · have HR : Hid (decide (a < b) = false) := by
            have l := cmp_lt b a m hb ha hm (fun j x y => (HE.out j x y).symm) h2
            simp only [Hid, decide_eq_false_iff_not]
            omega
          have e1 : ((limb a m : Int) == (limb b m : Int)) = false := by simp; omega
          have d1 : decide ((limb a m : Int) < (limb b m : Int)) = false := by simpa using h1
          go_wp2
          go_quiet (fail)
          go_wp2
          go_quiet (fail)
          go_wp2
          go_ret
          exact ⟨ret_bool HR.out.symm, by ((repeat' (first | with_reducible exact Below.refl _ _ | with_reducible refine Below.setCell ?_ ?_ _ | with_reducible refine below_alloc0 ?_ _ | with_reducible refine below_drewN ?_ _ | with_reducible refine Below.drew ?_ | refine below_call0 ?_ (by assumption))) <;> (first | omega | (simp; done) | (simp; omega)))⟩
        · have em : limb a m = limb b m := by omega
          have e1 : ((limb a m : Int) == (limb b m : Int)) = true := by simp [em]
          have EM : Hid (limb a m = limb b m) := em
          clear em
          go_wp2
          go_quiet (fail)
          go_wp2
          go_roundw
          case rel =>
            refine ⟨m, by omega, rfl, ?_, HC.out.1, HC.out.2, by ((repeat' (first | with_reducible exact Below.refl _ _ | with_reducible refine Below.setCell ?_ ?_ _ | with_reducible refine below_alloc0 ?_ _ | with_reducible refine below_drewN ?_ _ | with_reducible refine Below.drew ?_ | refine below_call0 ?_ (by assumption))) <;> (first | omega | (simp; done) | (simp; omega)))⟩
            intro j hj hj4
            by_cases hjm : j = m
            · subst hjm; exact EM.out
            · exact HE.out j (by omega) hj4
          case measure => simp [intOf]

set_option maxHeartbeats 2000000 in
theorem plus2_any (a b : Nat) (ha : a < R256) (hb : b < R256) (w : World) :
    Calls Tryd.prog 70 #[.agg #[.int .u64 (limb (a) 0 : Nat), .int .u64 (limb (a) 1 : Nat), .int .u64 (limb (a) 2 : Nat), .int .u64 (limb (a) 3 : Nat)], .agg #[.int .u64 (limb (b) 0 : Nat), .int .u64 (limb (b) 1 : Nat), .int .u64 (limb (b) 2 : Nat), .int .u64 (limb (b) 3 : Nat)]] w fun e w' => e = .returned (.tuple #[.agg #[.int .u64 (limb (addN a b) 0 : Nat), .int .u64 (limb (addN a b) 1 : Nat), .int .u64 (limb (addN a b) 2 : Nat), .int .u64 (limb (addN a b) 3 : Nat)], .bool (decide (addK a b = 1))]) ∧ Below w.heap.size w w' := by
  obtain ⟨l0, l1, l2, l3⟩ := add_limbs a b ha hb
  have lk := (add_join a b ha hb).2
  have HL : Hid _ := And.intro l0 (And.intro l1 (And.intro l2 (And.intro l3 lk)))
  have hc := chain_c a b
  clear l0 l1 l2 l3 lk
  go_enter Tryd.func70, Tryd.ntmps70
  go_wp2
  go_loopw [7, 8] (fun c i wr => ∃ k : Nat, k ≤ 4 ∧ i = .int .i64 k ∧ c = .int .u64 (chain addC (limb a) (limb b) k : Nat) ∧ (∀ j, j < 4 → wr.cell? ⟨w.heap.size + 1 + 1 + 1, j, none⟩ = some (.int .u64 (part addS addC (limb a) (limb b) k j))) ∧ (∀ j, j < 4 → wr.frozen? ⟨w.heap.size + 1 + 1 + 1, j, none⟩ = false) ∧ Num4 wr w.heap.size a ∧ Num4 wr (w.heap.size + 1) b ∧ Pend wr (w.heap.size + 1 + 1) ∧ Below w.heap.size w wr ∧ w.heap.size + 1 + 1 + 1 < wr.heap.size)
    (fun _ i _ => 4 - (intOf i).toNat)
  case atStart =>
    refine ⟨0, by omega, rfl, rfl, ?_, ?_, by ((repeat' (first | assumption | (refine Num4.new' ?_; first | omega | (simp; done)) | refine Num4.set ?_ ?_ | refine Num4.alloc ?_ ?_ | refine Num4.drewN ?_ | refine Num4.call ?_ (by assumption) ?_)) <;> (first | omega | (simp; done) | (simp; omega))), by ((repeat' (first | assumption | (refine Num4.new' ?_; first | omega | (simp; done)) | refine Num4.set ?_ ?_ | refine Num4.alloc ?_ ?_ | refine Num4.drewN ?_ | refine Num4.call ?_ (by assumption) ?_)) <;> (first | omega | (simp; done) | (simp; omega))), ?_, by ((repeat' (first | with_reducible exact Below.refl _ _ | with_reducible refine Below.setCell ?_ ?_ _ | with_reducible refine below_alloc0 ?_ _ | with_reducible refine below_drewN ?_ _ | with_reducible refine Below.drew ?_ | refine below_call0 ?_ (by assumption))) <;> (first | omega | (simp; done) | (simp; omega))), by simp⟩
    · refine limbs4 _ ?_ ?_ ?_ ?_ <;> simp [part, go_sem]
    · intro j hj
      simp [go_sem]
    · have h := Pend.new ((w.alloc (.cells #[.int .u64 (limb a 0 : Nat), .int .u64 (limb a 1 : Nat), .int .u64 (limb a 2 : Nat), .int .u64 (limb a 3 : Nat)] 34)).alloc (.cells #[.int .u64 (limb b 0 : Nat), .int .u64 (limb b 1 : Nat), .int .u64 (limb b 2 : Nat), .int .u64 (limb b 3 : Nat)] 34)) 34
      simp only [World.size_alloc] at h
      exact h.alloc
  case round =>
    obtain ⟨k, hk, rfl, rfl, hcell, hfr, hA, hB, hP, hbel, hsz⟩ := hrel
    by_cases hlt : k < 4
    · have ga := hA k hlt
      have gb := hB k hlt
      have gf := hfr k hlt
      have go := hcell k hlt
      have gc := hc k
      have A64 : ∀ w', (callFunc 81 #[.int .u64 (limb a k : Nat), .int .u64 (limb b k : Nat), .int .u64 (chain addC (limb a) (limb b) k : Nat)]).run Tryd.prog w' = .ok (.value (.tuple #[.int .u64 (addS (limb a k) (limb b k) (chain addC (limb a) (limb b) k) : Nat), .int .u64 (addC (limb a k) (limb b k) (chain addC (limb a) (limb b) k) : Nat)])) w' := fun w' => add64 _ _ _ gc w'
      have hk0 : (0 : Int) ≤ (k : Int) := by omega
      have hk4 : (k : Int) < 4 := by omega
      have HC : Hid _ := hcell
      have HF : Hid _ := hfr
      have HN : Hid _ := And.intro hA (And.intro hB hP)
      clear hcell hfr hA hB hP hc
      go_wp2
      go_quiet (fail)
      go_wp2
      go_roundw
      case rel =>
        refine ⟨k + 1, by omega, by go_num, rfl, ?_, ?_, ?_, ?_, ?_, ?_, ?_⟩
        · intro j hj
          exact cell_step HC.out j hj nq
        · intro j hj
          rw [World.frozen?_setCell]
          exact HF.out j hj
        · exact (Num4.drewN HN.out.1).set (show w.heap.size + 1 + 1 + 1 ≠ w.heap.size by omega)
        · exact (Num4.drewN HN.out.2.1).set (show w.heap.size + 1 + 1 + 1 ≠ w.heap.size + 1 by omega)
        · exact (show Pend (wr.drewN nq) (w.heap.size + 1 + 1) from HN.out.2.2).set (show w.heap.size + 1 + 1 + 1 ≠ w.heap.size + 1 + 1 by omega)
        · exact (below_drewN hbel nq).setCell (show w.heap.size ≤ w.heap.size + 1 + 1 + 1 by omega) _
        · rw [World.size_setCell]; exact hsz
      case measure => simp [intOf]; omega
    · have g0 := hcell 0 (by omega)
      have g1 := hcell 1 (by omega)
      have g2 := hcell 2 (by omega)
      have g3 := hcell 3 (by omega)
      obtain ⟨⟨p0, p1, p2, p3⟩, ⟨f0, f1, f2, f3⟩, pz⟩ := hP.facts
      have hk4 : k = 4 := by omega
      subst hk4
      rw [part_done _ _ _ _ 0 (by omega)] at g0
      rw [part_done _ _ _ _ 1 (by omega)] at g1
      rw [part_done _ _ _ _ 2 (by omega)] at g2
      rw [part_done _ _ _ _ 3 (by omega)] at g3
      obtain ⟨l0, l1, l2, l3, lk⟩ := HL.out
      rw [l0] at g0
      rw [l1] at g1
      rw [l2] at g2
      rw [l3] at g3
      rw [lk]
      obtain ⟨c, hcc⟩ : ∃ c, c = addK a b := ⟨_, rfl⟩
      rw [← hcc]
      have HCC : Hid _ := hcc
      clear hA hB hcell hfr hP hc HL l0 l1 l2 l3 lk hcc
      go_wp2
      refine bodyPost_ret (v := .tuple #[.agg #[.int .u64 (limb (addN a b) 0 : Nat), .int .u64 (limb (addN a b) 1 : Nat), .int .u64 (limb (addN a b) 2 : Nat), .int .u64 (limb (addN a b) 3 : Nat)], .bool (decide (c = 1))]) ?_ rfl ⟨by rw [HCC.out], ?_⟩
      · simp [results, Tryd.results70, go_sem, p0, p1, p2, p3]
        rw [Bool.eq_iff_iff, beq_iff_eq, decide_eq_true_iff]
        omega
      · ((repeat' (first | with_reducible exact Below.refl _ _ | with_reducible refine Below.setCell ?_ ?_ _ | with_reducible refine below_alloc0 ?_ _ | with_reducible refine below_drewN ?_ _ | with_reducible refine Below.drew ?_ | refine below_call0 ?_ (by assumption))) <;> (first | omega | (simp; done) | (simp; omega)))

set_option maxHeartbeats 2000000 in
theorem minus2_any (a b : Nat) (ha : a < R256) (hb : b < R256) (w : World) :
    Calls Tryd.prog 71 #[.agg #[.int .u64 (limb (a) 0 : Nat), .int .u64 (limb (a) 1 : Nat), .int .u64 (limb (a) 2 : Nat), .int .u64 (limb (a) 3 : Nat)], .agg #[.int .u64 (limb (b) 0 : Nat), .int .u64 (limb (b) 1 : Nat), .int .u64 (limb (b) 2 : Nat), .int .u64 (limb (b) 3 : Nat)]] w fun e w' => e = .returned (.agg #[.int .u64 (limb (subN a b) 0 : Nat), .int .u64 (limb (subN a b) 1 : Nat), .int .u64 (limb (subN a b) 2 : Nat), .int .u64 (limb (subN a b) 3 : Nat)]) ∧ Below w.heap.size w w' := by
  obtain ⟨l0, l1, l2, l3⟩ := sub_limbs a b ha hb
  have lk := (sub_join a b ha hb).2
  have HL : Hid _ := And.intro l0 (And.intro l1 (And.intro l2 (And.intro l3 lk)))
  have hc := chain_d a b
  clear l0 l1 l2 l3 lk
  go_enter Tryd.func71, Tryd.ntmps71
  go_wp2
  go_loopw [6, 7] (fun c i wr => ∃ k : Nat, k ≤ 4 ∧ i = .int .i64 k ∧ c = .int .u64 (chain subB (limb a) (limb b) k : Nat) ∧ (∀ j, j < 4 → wr.cell? ⟨w.heap.size + 1 + 1 + 1, j, none⟩ = some (.int .u64 (part subS subB (limb a) (limb b) k j))) ∧ (∀ j, j < 4 → wr.frozen? ⟨w.heap.size + 1 + 1 + 1, j, none⟩ = false) ∧ Num4 wr w.heap.size a ∧ Num4 wr (w.heap.size + 1) b ∧ Pend wr (w.heap.size + 1 + 1) ∧ Below w.heap.size w wr ∧ w.heap.size + 1 + 1 + 1 < wr.heap.size)
    (fun _ i _ => 4 - (intOf i).toNat)
  case atStart =>
    refine ⟨0, by omega, rfl, rfl, ?_, ?_, by ((repeat' (first | assumption | (refine Num4.new' ?_; first | omega | (simp; done)) | refine Num4.set ?_ ?_ | refine Num4.alloc ?_ ?_ | refine Num4.drewN ?_ | refine Num4.call ?_ (by assumption) ?_)) <;> (first | omega | (simp; done) | (simp; omega))), by ((repeat' (first | assumption | (refine Num4.new' ?_; first | omega | (simp; done)) | refine Num4.set ?_ ?_ | refine Num4.alloc ?_ ?_ | refine Num4.drewN ?_ | refine Num4.call ?_ (by assumption) ?_)) <;> (first | omega | (simp; done) | (simp; omega))), ?_, by ((repeat' (first | with_reducible exact Below.refl _ _ | with_reducible refine Below.setCell ?_ ?_ _ | with_reducible refine below_alloc0 ?_ _ | with_reducible refine below_drewN ?_ _ | with_reducible refine Below.drew ?_ | refine below_call0 ?_ (by assumption))) <;> (first | omega | (simp; done) | (simp; omega))), by simp⟩
    · refine limbs4 _ ?_ ?_ ?_ ?_ <;> simp [part, go_sem]
    · intro j hj
      simp [go_sem]
    · have h := Pend.new ((w.alloc (.cells #[.int .u64 (limb a 0 : Nat), .int .u64 (limb a 1 : Nat), .int .u64 (limb a 2 : Nat), .int .u64 (limb a 3 : Nat)] 34)).alloc (.cells #[.int .u64 (limb b 0 : Nat), .int .u64 (limb b 1 : Nat), .int .u64 (limb b 2 : Nat), .int .u64 (limb b 3 : Nat)] 34)) 34
      simp only [World.size_alloc] at h
      exact h.alloc
  case round =>
    obtain ⟨k, hk, rfl, rfl, hcell, hfr, hA, hB, hP, hbel, hsz⟩ := hrel
    by_cases hlt : k < 4
    · have ga := hA k hlt
      have gb := hB k hlt
      have gf := hfr k hlt
      have go := hcell k hlt
      have gc := hc k
      have A64 : ∀ w', (callFunc 82 #[.int .u64 (limb a k : Nat), .int .u64 (limb b k : Nat), .int .u64 (chain subB (limb a) (limb b) k : Nat)]).run Tryd.prog w' = .ok (.value (.tuple #[.int .u64 (subS (limb a k) (limb b k) (chain subB (limb a) (limb b) k) : Nat), .int .u64 (subB (limb a k) (limb b k) (chain subB (limb a) (limb b) k) : Nat)])) w' := fun w' => sub64 _ _ _ gc w'
      have hk0 : (0 : Int) ≤ (k : Int) := by omega
      have hk4 : (k : Int) < 4 := by omega
      have HC : Hid _ := hcell
      have HF : Hid _ := hfr
      have HN : Hid _ := And.intro hA (And.intro hB hP)
      clear hcell hfr hA hB hP hc
      go_wp2
      go_quiet (fail)
      go_wp2
      go_roundw
      case rel =>
        refine ⟨k + 1, by omega, by go_num, rfl, ?_, ?_, ?_, ?_, ?_, ?_, ?_⟩
        · intro j hj
          exact cell_step HC.out j hj nq
        · intro j hj
          rw [World.frozen?_setCell]
          exact HF.out j hj
        · exact (Num4.drewN HN.out.1).set (show w.heap.size + 1 + 1 + 1 ≠ w.heap.size by omega)
        · exact (Num4.drewN HN.out.2.1).set (show w.heap.size + 1 + 1 + 1 ≠ w.heap.size + 1 by omega)
        · exact (show Pend (wr.drewN nq) (w.heap.size + 1 + 1) from HN.out.2.2).set (show w.heap.size + 1 + 1 + 1 ≠ w.heap.size + 1 + 1 by omega)
        · exact (below_drewN hbel nq).setCell (show w.heap.size ≤ w.heap.size + 1 + 1 + 1 by omega) _
        · rw [World.size_setCell]; exact hsz
      case measure => simp [intOf]; omega
    · have g0 := hcell 0 (by omega)
      have g1 := hcell 1 (by omega)
      have g2 := hcell 2 (by omega)
      have g3 := hcell 3 (by omega)
      obtain ⟨⟨p0, p1, p2, p3⟩, ⟨f0, f1, f2, f3⟩, pz⟩ := hP.facts
      have hk4 : k = 4 := by omega
      subst hk4
      rw [part_done _ _ _ _ 0 (by omega)] at g0
      rw [part_done _ _ _ _ 1 (by omega)] at g1
      rw [part_done _ _ _ _ 2 (by omega)] at g2
      rw [part_done _ _ _ _ 3 (by omega)] at g3
      obtain ⟨l0, l1, l2, l3, lk⟩ := HL.out
      rw [l0] at g0
      rw [l1] at g1
      rw [l2] at g2
      rw [l3] at g3
      clear hA hB hcell hfr hP hc HL l0 l1 l2 l3 lk
      go_wp2
      refine bodyPost_ret (v := .agg #[.int .u64 (limb (subN a b) 0 : Nat), .int .u64 (limb (subN a b) 1 : Nat), .int .u64 (limb (subN a b) 2 : Nat), .int .u64 (limb (subN a b) 3 : Nat)]) ?_ rfl ⟨rfl, ?_⟩
      · simp [results, Tryd.results71, go_sem, p0, p1, p2, p3]
      · ((repeat' (first | with_reducible exact Below.refl _ _ | with_reducible refine Below.setCell ?_ ?_ _ | with_reducible refine below_alloc0 ?_ _ | with_reducible refine below_drewN ?_ _ | with_reducible refine Below.drew ?_ | refine below_call0 ?_ (by assumption))) <;> (first | omega | (simp; done) | (simp; omega)))

end Go.Proofs.YtkdejflgmgljiaaDoor

namespace Go.Proofs.YtkdejflgmgljiaaDoor
open Go.RowKit

/-- The eight limbs behind i rows. -/
def tst (a b : Nat) : Nat → Nat → Nat
  | 0, _ => 0
  | i + 1, j => if i ≤ j ∧ j ≤ i + 4 then rowL (limb a i) (limb b 0) (limb b 1) (limb b 2) (limb b 3) (tst a b i i) (tst a b i (i + 1)) (tst a b i (i + 2)) (tst a b i (i + 3)) (j - i) else tst a b i j
theorem row_all_lt (d b w0 w1 w2 w3 j : Nat) (hd : d < M64) (g0 : w0 < M64) (g1 : w1 < M64) (g2 : w2 < M64) (g3 : w3 < M64) : rowL d (limb b 0) (limb b 1) (limb b 2) (limb b 3) w0 w1 w2 w3 j < M64 := by
  obtain ⟨h0, h1, h2, h3, h4⟩ := row_lt d (limb b 0) (limb b 1) (limb b 2) (limb b 3) w0 w1 w2 w3 hd (limb_lt _ _) (limb_lt _ _) (limb_lt _ _) (limb_lt _ _) g0 g1 g2 g3
  match j with
  | 0 => exact h0
  | 1 => exact h1
  | 2 => exact h2
  | 3 => exact h3
  | _ + 4 => exact h4
theorem tst_lt (a b : Nat) : ∀ i j, tst a b i j < M64
  | 0, _ => M64_pos
  | i + 1, j => by
    rw [tst]
    split
    · exact row_all_lt _ _ _ _ _ _ _ (limb_lt _ _) (tst_lt a b i _) (tst_lt a b i _) (tst_lt a b i _) (tst_lt a b i _)
    · exact tst_lt a b i j
theorem tst_high (a b : Nat) : ∀ i j, i + 4 ≤ j → tst a b i j = 0
  | 0, _, _ => rfl
  | i + 1, j, h => by
    rw [tst, if_neg (by omega)]
    exact tst_high a b i j (by omega)
/-- A limb of a that is 0 changes nothing. -/
theorem tst_zero (a b i : Nat) (h : limb a i = 0) (j : Nat) : tst a b (i + 1) j = tst a b i j := by
  rw [tst, h]
  by_cases hj : i ≤ j ∧ j ≤ i + 4
  · rw [if_pos hj]
    obtain ⟨e0, e1, e2, e3, e4⟩ := row_zero (limb b 0) (limb b 1) (limb b 2) (limb b 3) (tst a b i i) (tst a b i (i + 1)) (tst a b i (i + 2)) (tst a b i (i + 3)) (tst_lt _ _ _ _) (tst_lt _ _ _ _) (tst_lt _ _ _ _) (tst_lt _ _ _ _)
    have : j = i ∨ j = i + 1 ∨ j = i + 2 ∨ j = i + 3 ∨ j = i + 4 := by omega
    rcases this with rfl | rfl | rfl | rfl | rfl
    · rw [Nat.sub_self, e0]
    · rw [Nat.add_sub_cancel_left, e1]
    · rw [Nat.add_sub_cancel_left, e2]
    · rw [Nat.add_sub_cancel_left, e3]
    · rw [Nat.add_sub_cancel_left, e4, tst_high _ _ _ _ (by omega)]
  · rw [if_neg hj]
/-- What stands at place j inside row i, k places done. -/
def trow (a b i k j : Nat) : Nat := if i ≤ j ∧ j < i + k then tst a b (i + 1) j else tst a b i j
/-- The carry there. -/
def tcar (a b i : Nat) : Nat → Nat
  | 0 => 0
  | k + 1 => maH (limb a i) (limb b k) (tst a b i (i + k)) (tcar a b i k)
theorem tcar_lt (a b i : Nat) : ∀ k, tcar a b i k < M64
  | 0 => M64_pos
  | k + 1 => maH_lt _ _ _ _ (limb_lt _ _) (limb_lt _ _) (tst_lt _ _ _ _) (tcar_lt a b i k)
theorem trow_step (a b i k : Nat) (hk : k < 4) : maL (limb a i) (limb b k) (tst a b i (i + k)) (tcar a b i k) = tst a b (i + 1) (i + k) := by
  rw [tst, if_pos (by omega), Nat.add_sub_cancel_left]
  have : k = 0 ∨ k = 1 ∨ k = 2 ∨ k = 3 := by omega
  rcases this with rfl | rfl | rfl | rfl <;> rfl
theorem tcar_four (a b i : Nat) : tcar a b i 4 = tst a b (i + 1) (i + 4) := by
  rw [tst, if_pos (by omega), Nat.add_sub_cancel_left]
  rfl
theorem trow_at (a b i k : Nat) : trow a b i k (i + k) = tst a b i (i + k) := by unfold trow; rw [if_neg (by omega)]
theorem trow_next (a b i k j : Nat) (h : j ≠ i + k) : trow a b i (k + 1) j = trow a b i k j := by
  unfold trow
  by_cases h1 : i ≤ j ∧ j < i + k
  · rw [if_pos h1, if_pos (by omega)]
  · rw [if_neg h1, if_neg (by omega)]
theorem trow_self (a b i k : Nat) : trow a b i (k + 1) (i + k) = tst a b (i + 1) (i + k) := by unfold trow; rw [if_pos (by omega)]
theorem trow_none (a b i j : Nat) : trow a b i 0 j = tst a b i j := by unfold trow; rw [if_neg (by omega)]
theorem trow_done (a b i j : Nat) (h : j ≠ i + 4) : trow a b i 4 j = tst a b (i + 1) j := by
  unfold trow
  by_cases h1 : i ≤ j ∧ j < i + 4
  · rw [if_pos h1]
  · rw [if_neg h1, tst, if_neg (by omega)]
theorem tst_all (a b : Nat) (ha : a < R256) (hb : b < R256) : ∀ j, j < 8 → tst a b 4 j = limb (a * b) j := by
  obtain ⟨_, l0, l1, l2, l3, l4, l5, l6, l7⟩ := mul_limbs a b ha hb (rowL (limb a 0) (limb b 0) (limb b 1) (limb b 2) (limb b 3) 0 0 0 0) _ _ _ rfl rfl rfl rfl
  intro j hj
  match j, hj with
  | 0, _ => exact l0.symm
  | 1, _ => exact l1.symm
  | 2, _ => exact l2.symm
  | 3, _ => exact l3.symm
  | 4, _ => exact l4.symm
  | 5, _ => exact l5.symm
  | 6, _ => exact l6.symm
  | 7, _ => exact l7.symm

/-- Eight limbs in a block that may be written. -/
def Row8 (w : World) (p : Nat) (f : Nat → Nat) : Prop := (∀ j, j < 8 → w.cell? ⟨p, j, none⟩ = some (.int .u64 (f j : Nat))) ∧ (∀ j, j < 8 → w.frozen? ⟨p, j, none⟩ = false) ∧ p < w.heap.size
theorem Row8.drewN {W : World} {p k : Nat} {f : Nat → Nat} (h : Row8 W p f) : Row8 (W.drewN k) p f := h
theorem Row8.facts {w : World} {p : Nat} {f : Nat → Nat} (h : Row8 w p f) : (w.cell? ⟨p, 0, none⟩ = some (.int .u64 (f 0 : Nat)) ∧ w.cell? ⟨p, 1, none⟩ = some (.int .u64 (f 1 : Nat)) ∧ w.cell? ⟨p, 2, none⟩ = some (.int .u64 (f 2 : Nat)) ∧ w.cell? ⟨p, 3, none⟩ = some (.int .u64 (f 3 : Nat)) ∧ w.cell? ⟨p, 4, none⟩ = some (.int .u64 (f 4 : Nat)) ∧ w.cell? ⟨p, 5, none⟩ = some (.int .u64 (f 5 : Nat)) ∧ w.cell? ⟨p, 6, none⟩ = some (.int .u64 (f 6 : Nat)) ∧ w.cell? ⟨p, 7, none⟩ = some (.int .u64 (f 7 : Nat))) ∧ (w.frozen? ⟨p, 0, none⟩ = false ∧ w.frozen? ⟨p, 1, none⟩ = false ∧ w.frozen? ⟨p, 2, none⟩ = false ∧ w.frozen? ⟨p, 3, none⟩ = false ∧ w.frozen? ⟨p, 4, none⟩ = false ∧ w.frozen? ⟨p, 5, none⟩ = false ∧ w.frozen? ⟨p, 6, none⟩ = false ∧ w.frozen? ⟨p, 7, none⟩ = false) ∧ p < w.heap.size :=
  ⟨⟨h.1 0 (by omega), h.1 1 (by omega), h.1 2 (by omega), h.1 3 (by omega), h.1 4 (by omega), h.1 5 (by omega), h.1 6 (by omega), h.1 7 (by omega)⟩, ⟨h.2.1 0 (by omega), h.2.1 1 (by omega), h.2.1 2 (by omega), h.2.1 3 (by omega), h.2.1 4 (by omega), h.2.1 5 (by omega), h.2.1 6 (by omega), h.2.1 7 (by omega)⟩, h.2.2⟩
theorem Row8.put {W : World} {p n v : Nat} {f g : Nat → Nat} (h : Row8 W p f) (hn : n < 8) (hg : ∀ j, j < 8 → j ≠ n → g j = f j) (hv : g n = v) : Row8 (W.setCell ⟨p, n, none⟩ (.int .u64 (v : Nat))) p g := by
  refine ⟨fun j hj => ?_, fun j hj => by rw [World.frozen?_setCell]; exact h.2.1 j hj, by rw [World.size_setCell]; exact h.2.2⟩
  by_cases e : j = n
  · subst e
    rw [World.cell?_setCell_same _ _ _ (h.1 j hj), hv]
  · rw [World.cell?_setCell_other _ _ _ _ (by intro c; injection c with _ c2 _; exact e c2.symm), h.1 j hj, hg j hj e]
theorem Row8.set {W : World} {p : Nat} {f : Nat → Nat} {a : Addr} {v : Value} (h : Row8 W p f) (hne : a.block ≠ p) : Row8 (W.setCell a v) p f :=
  ⟨fun j hj => by rw [World.cell?_setCell_other _ _ _ _ (by intro c; apply hne; rw [c])]; exact h.1 j hj, fun j hj => by rw [World.frozen?_setCell]; exact h.2.1 j hj, by rw [World.size_setCell]; exact h.2.2⟩
theorem Row8.congr {W : World} {p : Nat} {f g : Nat → Nat} (h : Row8 W p f) (hg : ∀ j, j < 8 → f j = g j) : Row8 W p g := ⟨fun j hj => by rw [h.1 j hj, hg j hj], h.2⟩
theorem eightR (P : Nat → Prop) (h0 : P 0) (h1 : P 1) (h2 : P 2) (h3 : P 3) (h4 : P 4) (h5 : P 5) (h6 : P 6) (h7 : P 7) : ∀ j, j < 8 → P j := by
  intro j hj
  match j, hj with
  | 0, _ => exact h0
  | 1, _ => exact h1
  | 2, _ => exact h2
  | 3, _ => exact h3
  | 4, _ => exact h4
  | 5, _ => exact h5
  | 6, _ => exact h6
  | 7, _ => exact h7
theorem Row8.new (W : World) (t : TypeId) : Row8 (W.alloc (.cells #[.int .u64 0, .int .u64 0, .int .u64 0, .int .u64 0, .int .u64 0, .int .u64 0, .int .u64 0, .int .u64 0] t)) W.heap.size (fun _ => 0) :=
  ⟨eightR _ (by simp) (by simp) (by simp) (by simp) (by simp) (by simp) (by simp) (by simp), fun j _ => by simp, by simp⟩
theorem Row8.alloc {W : World} {p : Nat} {f : Nat → Nat} {o : Obj} (h : Row8 W p f) : Row8 (W.alloc o) p f :=
  ⟨fun j hj => (World.cell?_alloc_lt W o ⟨p, j, none⟩ h.2.2).trans (h.1 j hj), fun j hj => ((Below.refl W.heap.size W).alloc (Nat.le_refl _) o).frozen (p := ⟨p, j, none⟩) h.2.2 |>.trans (h.2.1 j hj), Nat.lt_of_lt_of_le h.2.2 (by simp)⟩

/-- What both loops keep. -/
def TmAt (w wx : World) (a b : Nat) (f : Nat → Nat) : Prop := Num4 wx w.heap.size a ∧ Num4 wx (w.heap.size + 1) b ∧ Row8 wx (w.heap.size + 1 + 1) (fun _ => 0) ∧ Row8 wx (w.heap.size + 1 + 1 + 1) f ∧ Below w.heap.size w wx
theorem TmAt.put {w W : World} {a b n v : Nat} {f g : Nat → Nat} (h : TmAt w W a b f) (hn : n < 8) (hg : ∀ j, j < 8 → j ≠ n → g j = f j) (hv : g n = v) : TmAt w (W.setCell ⟨w.heap.size + 1 + 1 + 1, n, none⟩ (.int .u64 (v : Nat))) a b g :=
  ⟨h.1.set (show w.heap.size + 1 + 1 + 1 ≠ w.heap.size by omega), h.2.1.set (show w.heap.size + 1 + 1 + 1 ≠ w.heap.size + 1 by omega), h.2.2.1.set (show w.heap.size + 1 + 1 + 1 ≠ w.heap.size + 1 + 1 by omega), h.2.2.2.1.put hn hg hv, h.2.2.2.2.setCell (show w.heap.size ≤ w.heap.size + 1 + 1 + 1 by omega) _⟩
theorem TmAt.drewN {w W : World} {a b k : Nat} {f : Nat → Nat} (h : TmAt w W a b f) : TmAt w (W.drewN k) a b f := ⟨h.1, h.2.1, h.2.2.1, h.2.2.2.1, below_drewN h.2.2.2.2 _⟩
theorem TmAt.congr {w W : World} {a b : Nat} {f g : Nat → Nat} (h : TmAt w W a b f) (hg : ∀ j, j < 8 → f j = g j) : TmAt w W a b g := ⟨h.1, h.2.1, h.2.2.1, h.2.2.2.1.congr hg, h.2.2.2.2⟩

set_option maxRecDepth 100000 in
set_option maxHeartbeats 4000000 in
theorem times2_any (a b : Nat) (ha : a < R256) (hb : b < R256) (w : World) :
    Calls Tryd.prog 73 #[.agg #[.int .u64 (limb (a) 0 : Nat), .int .u64 (limb (a) 1 : Nat), .int .u64 (limb (a) 2 : Nat), .int .u64 (limb (a) 3 : Nat)], .agg #[.int .u64 (limb (b) 0 : Nat), .int .u64 (limb (b) 1 : Nat), .int .u64 (limb (b) 2 : Nat), .int .u64 (limb (b) 3 : Nat)]] w fun e w' => e = .returned (.agg #[.int .u64 (limb (a * b) 0 : Nat), .int .u64 (limb (a * b) 1 : Nat), .int .u64 (limb (a * b) 2 : Nat), .int .u64 (limb (a * b) 3 : Nat), .int .u64 (limb (a * b) 4 : Nat), .int .u64 (limb (a * b) 5 : Nat), .int .u64 (limb (a * b) 6 : Nat), .int .u64 (limb (a * b) 7 : Nat)]) ∧ Below w.heap.size w w' := by
  have HT : Hid _ := tst_all a b ha hb
  obtain ⟨V, hV⟩ : ∃ V, V = a * b := ⟨_, rfl⟩
  rw [← hV] at HT
  rw [← hV]
  clear hV ha hb
  go_enter Tryd.func73, Tryd.ntmps73
  go_wp2_with fail
  go_loopw [6] (fun v wr => ∃ i : Nat, i ≤ 4 ∧ v = .int .i64 i ∧ TmAt w wr a b (tst a b i))
    (fun v _ => 4 - (intOf v).toNat)
  case atStart =>
    refine ⟨0, by omega, rfl, by ((repeat' (first | assumption | (refine Num4.new' ?_; first | omega | (simp; done)) | refine Num4.set ?_ ?_ | refine Num4.alloc ?_ ?_ | refine Num4.drewN ?_ | refine Num4.call ?_ (by assumption) ?_)) <;> (first | omega | (simp; done) | (simp; omega))), by ((repeat' (first | assumption | (refine Num4.new' ?_; first | omega | (simp; done)) | refine Num4.set ?_ ?_ | refine Num4.alloc ?_ ?_ | refine Num4.drewN ?_ | refine Num4.call ?_ (by assumption) ?_)) <;> (first | omega | (simp; done) | (simp; omega))), ?_, ?_, by ((repeat' (first | with_reducible exact Below.refl _ _ | with_reducible refine Below.setCell ?_ ?_ _ | with_reducible refine below_alloc0 ?_ _ | with_reducible refine below_drewN ?_ _ | with_reducible refine Below.drew ?_ | refine below_call0 ?_ (by assumption))) <;> (first | omega | (simp; done) | (simp; omega)))⟩
    · have h := Row8.new ((w.alloc (.cells #[.int .u64 (limb a 0 : Nat), .int .u64 (limb a 1 : Nat), .int .u64 (limb a 2 : Nat), .int .u64 (limb a 3 : Nat)] 34)).alloc (.cells #[.int .u64 (limb b 0 : Nat), .int .u64 (limb b 1 : Nat), .int .u64 (limb b 2 : Nat), .int .u64 (limb b 3 : Nat)] 34)) 95
      simp only [World.size_alloc] at h
      exact h.alloc
    · have h := Row8.new (((w.alloc (.cells #[.int .u64 (limb a 0 : Nat), .int .u64 (limb a 1 : Nat), .int .u64 (limb a 2 : Nat), .int .u64 (limb a 3 : Nat)] 34)).alloc (.cells #[.int .u64 (limb b 0 : Nat), .int .u64 (limb b 1 : Nat), .int .u64 (limb b 2 : Nat), .int .u64 (limb b 3 : Nat)] 34)).alloc (.cells #[.int .u64 0, .int .u64 0, .int .u64 0, .int .u64 0, .int .u64 0, .int .u64 0, .int .u64 0, .int .u64 0] 95)) 95
      simp only [World.size_alloc] at h
      exact h
  case round =>
    obtain ⟨i, hi, rfl, hT⟩ := hrel
    by_cases hi4 : i < 4
    · have hi0 : (0 : Int) ≤ (i : Int) := by omega
      have hi5 : (i : Int) < 4 := by omega
      have ga := hT.1 i hi4
      by_cases hz : limb a i = 0
      · have HN : Hid (TmAt w wr a b (tst a b (i + 1))) := hT.congr fun j _ => (tst_zero a b i hz j).symm
        rw [hz] at ga
        clear hT hz
        go_wp2
        go_roundw
        case rel => exact ⟨i + 1, by omega, by go_num, HN.out⟩
        case measure => simp [intOf]; omega
      · have hz' : ((limb a i : Int) == 0) = false := by simpa using hz
        have HN : Hid (TmAt w wr a b (trow a b i 0)) := hT.congr fun j _ => (trow_none a b i j).symm
        clear hT
        go_wp2_with fail
        go_loopw [7, 8] (fun c v wq => ∃ k : Nat, k ≤ 4 ∧ v = .int .i64 k ∧ c = .int .u64 (tcar a b i k : Nat) ∧ TmAt w wq a b (trow a b i k))
          (fun _ v _ => 4 - (intOf v).toNat)
        case atStart => exact ⟨0, by omega, rfl, rfl, HN.out⟩
        case round =>
          obtain ⟨k, hk, rfl, rfl, hQ⟩ := hrel
          clear HN
          by_cases hk4 : k < 4
          · have hk0 : (0 : Int) ≤ (k : Int) := by omega
            have hk5 : (k : Int) < 4 := by omega
            obtain ⟨n, hn⟩ : ∃ n, n = i + k := ⟨_, rfl⟩
            obtain ⟨lo, hlo⟩ : ∃ x, x = mulL (limb a i) (limb b k) := ⟨_, rfl⟩
            obtain ⟨hh, hhh⟩ : ∃ x, x = mulH (limb a i) (limb b k) := ⟨_, rfl⟩
            obtain ⟨o, ho⟩ : ∃ x, x = tst a b i (i + k) := ⟨_, rfl⟩
            obtain ⟨c, hc⟩ : ∃ x, x = tcar a b i k := ⟨_, rfl⟩
            obtain ⟨s, hs⟩ : ∃ x, x = addS lo o 0 := ⟨_, rfl⟩
            obtain ⟨c1, hc1⟩ : ∃ x, x = addC lo o 0 := ⟨_, rfl⟩
            obtain ⟨t, ht⟩ : ∃ x, x = addS s c 0 := ⟨_, rfl⟩
            obtain ⟨d, hd⟩ : ∃ x, x = addC s c 0 := ⟨_, rfl⟩
            have key := mulAdd_eq (limb a i) (limb b k) o c
            have lt := maH_lt (limb a i) (limb b k) o c (limb_lt _ _) (limb_lt _ _) (by rw [ho]; exact tst_lt _ _ _ _) (by rw [hc]; exact tcar_lt _ _ _ _)
            rw [← hlo, ← hhh, ← hs, ← hc1, ← ht, ← hd] at key
            obtain ⟨u, hu⟩ : ∃ u, u = hh + c1 := ⟨_, rfl⟩
            obtain ⟨v, hv⟩ : ∃ v, v = u + d := ⟨_, rfl⟩
            have lt2 : hh + c1 + d < 18446744073709551616 := by rw [key.2]; exact lt
            have w1 : IntKind.u64.wrap ((hh : Int) + (c1 : Int)) = (u : Nat) := by rw [addN', wrapN _ (by omega), hu]
            have w2 : IntKind.u64.wrap ((u : Int) + (d : Int)) = (v : Nat) := by rw [addN', wrapN _ (by omega), hv]
            have w3 : IntKind.i64.wrap ((i : Int) + (k : Int)) = (n : Nat) := by rw [IntKind.wrap_i64]; omega
            have vt : v = tcar a b i (k + 1) := by rw [hv, hu, key.2, ho, hc]; rfl
            have tt : t = tst a b (i + 1) (i + k) := by rw [key.1, ho, hc]; exact trow_step a b i k hk4
            have A1 : ∀ w', (callFunc 81 #[.int .u64 (lo : Nat), .int .u64 (o : Nat), .int .u64 0]).run Tryd.prog w' = .ok (.value (.tuple #[.int .u64 (s : Nat), .int .u64 (c1 : Nat)])) w' := fun w' => by rw [hs, hc1]; exact add64_0 _ _ w'
            have A2 : ∀ w', (callFunc 81 #[.int .u64 (s : Nat), .int .u64 (c : Nat), .int .u64 0]).run Tryd.prog w' = .ok (.value (.tuple #[.int .u64 (t : Nat), .int .u64 (d : Nat)])) w' := fun w' => by rw [ht, hd]; exact add64_0 _ _ w'
            have km := fun w' => mul64 (limb a i) (limb b k) (limb_lt _ _) (limb_lt _ _) w'
            rw [← hlo, ← hhh] at km
            have KM : Hid _ := km
            have ga' := hQ.1 i hi4
            have gb := hQ.2.1 k hk4
            have n8 : n < 8 := by omega
            have go : wr.cell? ⟨w.heap.size + 1 + 1 + 1, n, none⟩ = some (.int .u64 (o : Nat)) := by
              have g := hQ.2.2.2.1.1 n n8
              rw [hn, trow_at, ← ho] at g
              rw [hn]
              exact g
            have gf := hQ.2.2.2.1.2.1 n n8
            have hn0 : (0 : Int) ≤ (n : Int) := by omega
            have hn8 : (n : Int) < 8 := by omega
            have HQ : Hid (∀ j, TmAt w ((wr.drewN j).setCell ⟨w.heap.size + 1 + 1 + 1, n, none⟩ (.int .u64 (t : Nat))) a b (trow a b i (k + 1))) := fun j => hQ.drewN.put n8 (fun x _ hx => trow_next a b i k x (by omega)) (by rw [hn, trow_self, tt])
            have HV : Hid _ := vt
            rw [← hc]
            clear hn hlo hhh ho hc hs hc1 ht hd key lt hu hv lt2 vt tt km hQ n8 ga
            go_wp2_with fail
            go_quiet ((go_at_call 83; exact Calls.quiet_of_same (KM.out _)))
            go_wp2_with (first | simp only [A1] | simp only [A2])
            go_roundw
            case rel => first | exact ⟨k + 1, by omega, by go_num, by rw [← HV.out], HQ.out _⟩ | ((repeat apply Exists.intro); exact ⟨⟨k + 1, by omega, by go_num, by rw [← HV.out], HQ.out _⟩, rfl⟩)
            case measure => simp [intOf]; omega
          · obtain rfl : k = 4 := by omega
            obtain ⟨n, hn⟩ : ∃ n, n = i + 4 := ⟨_, rfl⟩
            obtain ⟨c, hc⟩ : ∃ c, c = tcar a b i 4 := ⟨_, rfl⟩
            have w3 : IntKind.i64.wrap ((i : Int) + 4) = (n : Nat) := by rw [IntKind.wrap_i64]; omega
            have n8 : n < 8 := by omega
            have go := hQ.2.2.2.1.1 n n8
            have gf := hQ.2.2.2.1.2.1 n n8
            have hn0 : (0 : Int) ≤ (n : Int) := by omega
            have hn8 : (n : Int) < 8 := by omega
            have HQ : Hid (TmAt w (wr.setCell ⟨w.heap.size + 1 + 1 + 1, n, none⟩ (.int .u64 (c : Nat))) a b (tst a b (i + 1))) := hQ.put n8 (fun x _ hx => (trow_done a b i x (by omega)).symm) (by rw [hn, hc, tcar_four])
            rw [← hc]
            clear hn hc hQ n8 ga
            go_wp2_with fail
            go_roundw
            case rel => first | exact ⟨i + 1, by omega, by go_num, HQ.out⟩ | ((repeat apply Exists.intro); exact ⟨⟨i + 1, by omega, by go_num, HQ.out⟩, rfl⟩)
            case measure => simp [intOf]; omega
    · obtain rfl : i = 4 := by omega
      have hR := hT.2.2.2.1.congr HT.out
      obtain ⟨⟨r0, r1, r2, r3, r4, r5, r6, r7⟩, _, _⟩ := hR.facts
      obtain ⟨⟨p0, p1, p2, p3, p4, p5, p6, p7⟩, ⟨f0, f1, f2, f3, f4, f5, f6, f7⟩, pz⟩ := hT.2.2.1.facts
      have WP := hT.2.2.2.2
      clear hT hR HT
      go_wp2
      refine bodyPost_ret (v := .agg #[.int .u64 (limb (V) 0 : Nat), .int .u64 (limb (V) 1 : Nat), .int .u64 (limb (V) 2 : Nat), .int .u64 (limb (V) 3 : Nat), .int .u64 (limb (V) 4 : Nat), .int .u64 (limb (V) 5 : Nat), .int .u64 (limb (V) 6 : Nat), .int .u64 (limb (V) 7 : Nat)]) ?_ rfl ⟨rfl, ?_⟩
      · simp [results, Tryd.results73, go_sem, p0, p1, p2, p3, p4, p5, p6, p7]
      · ((repeat' (first | with_reducible exact Below.refl _ _ | with_reducible refine Below.setCell ?_ ?_ _ | with_reducible refine below_alloc0 ?_ _ | with_reducible refine below_drewN ?_ _ | with_reducible refine Below.drew ?_ | refine below_call0 ?_ (by assumption))) <;> (first | omega | (simp; done) | (simp; omega)))
end Go.Proofs.YtkdejflgmgljiaaDoor

namespace Go.Proofs.YtkdejflgmgljiaaDoor
open Go.RowKit

/-- The gap to 2^256 is small: so few rounds are enough. -/
def FS (m : Nat) : Prop := R256 - m < 2 ^ 130
theorem FS_P : FS PP := by unfold FS; decide
theorem FS_Q : FS QQ := by unfold FS; decide
/-- What is left behind i rounds is below this. -/
def UB : Nat → Nat
  | 0 => R256 * R256
  | 1 => R256 * 2 ^ 131
  | 2 => R256 * 64
  | 3 => R256 + 2 ^ 136
  | _ + 4 => R256
theorem mul_lt_of {g G h H : Nat} (hg : g < G) (hh : h < H) : g * h ≤ G * H := Nat.mul_le_mul (Nat.le_of_lt hg) (Nat.le_of_lt hh)
theorem UB_step (i lo hi g : Nat) (hlo : lo < R256) (h : lo + R256 * hi < UB i) (h0 : hi ≠ 0) (hg : g < 2 ^ 130) : lo + hi * g < UB (i + 1) := by
  match i with
  | 0 =>
    have hh : hi < R256 := by
      rcases Nat.lt_or_ge hi R256 with q | q
      · exact q
      · have := Nat.mul_le_mul_left R256 q
        have e : UB 0 = R256 * R256 := rfl
        omega
    have p := mul_lt_of hh hg
    show lo + hi * g < R256 * 2 ^ 131
    have e : R256 * 2 ^ 130 + R256 ≤ R256 * 2 ^ 131 := by decide
    omega
  | 1 =>
    have hh : hi < 2 ^ 131 := by
      have e : UB 1 = R256 * 2 ^ 131 := rfl
      rw [e] at h
      exact Nat.lt_of_mul_lt_mul_left (a := R256) (by omega)
    have p := mul_lt_of hh hg
    show lo + hi * g < R256 * 64
    have e : 2 ^ 131 * 2 ^ 130 + R256 ≤ R256 * 64 := by decide
    omega
  | 2 =>
    have hh : hi < 64 := by
      have e : UB 2 = R256 * 64 := rfl
      rw [e] at h
      exact Nat.lt_of_mul_lt_mul_left (a := R256) (by omega)
    have p := mul_lt_of hh hg
    show lo + hi * g < R256 + 2 ^ 136
    have e : 64 * 2 ^ 130 = 2 ^ 136 := by decide
    omega
  | 3 =>
    have e3 : UB 3 = R256 + 2 ^ 136 := rfl
    rw [e3] at h
    have h1 : hi = 1 := by
      rcases Nat.lt_or_ge hi 2 with q | q
      · omega
      · have := Nat.mul_le_mul_left R256 q
        have e : 2 ^ 136 < R256 := by decide
        omega
    subst h1
    show lo + 1 * g < R256
    have e : 2 ^ 136 + 2 ^ 130 < R256 := by decide
    omega
  | i + 4 =>
    have e : UB (i + 4) = R256 := rfl
    rw [e] at h
    have : R256 * 1 ≤ R256 * hi := Nat.mul_le_mul_left _ (by omega)
    omega
theorem UB_le (i : Nat) : UB i ≤ R256 * R256 := by
  match i with
  | 0 => exact Nat.le_refl _
  | 1 => show R256 * 2 ^ 131 ≤ R256 * R256; decide
  | 2 => show R256 * 64 ≤ R256 * R256; decide
  | 3 => show R256 + 2 ^ 136 ≤ R256 * R256; decide
  | i + 4 => show R256 ≤ R256 * R256; decide

/-- What the loops of the reference's Reduce keep. -/
def RdAt (w wx : World) (m lo hi : Nat) : Prop := FieldB wx w.heap.size m ∧ Pend wx (w.heap.size + 1 + 1) ∧ Own4 wx (w.heap.size + 1 + 1 + 1) lo ∧ Own4 wx (w.heap.size + 1 + 1 + 1 + 1) hi ∧ Below w.heap.size w wx
theorem RdAt.call {w W w1 : World} {m lo hi : Nat} (h : RdAt w W m lo hi) (hb : Below W.heap.size W w1) : RdAt w w1 m lo hi :=
  ⟨h.1.call hb, h.2.1.call hb, h.2.2.1.call hb, h.2.2.2.1.call hb, below_call0 h.2.2.2.2 hb⟩
theorem RdAt.alloc {w W : World} {m lo hi : Nat} {o : Obj} (h : RdAt w W m lo hi) : RdAt w (W.alloc o) m lo hi := h.call ((Below.refl _ _).alloc (Nat.le_refl _) o)
theorem FieldB.setB {W : World} {g m : Nat} {a : Addr} {v : Value} (h : FieldB W g m) (hne : a.block ≠ g) : FieldB (W.setCell a v) g m :=
  ⟨h.1.set hne, fun j hj => by rw [World.cell?_setCell_other _ _ _ _ (by intro c; apply hne; rw [c])]; exact h.2.1 j hj, by rw [World.size_setCell]; exact h.2.2⟩
theorem RdAt.putLo {w W : World} {m lo hi : Nat} (h : RdAt w W m lo hi) (k : Nat) : RdAt w ((((W.setCell ⟨w.heap.size + 1 + 1 + 1, 0, none⟩ (.int .u64 (limb k 0 : Nat))).setCell ⟨w.heap.size + 1 + 1 + 1, 1, none⟩ (.int .u64 (limb k 1 : Nat))).setCell ⟨w.heap.size + 1 + 1 + 1, 2, none⟩ (.int .u64 (limb k 2 : Nat))).setCell ⟨w.heap.size + 1 + 1 + 1, 3, none⟩ (.int .u64 (limb k 3 : Nat))) m k hi := by
  have n1 : w.heap.size + 1 + 1 + 1 ≠ w.heap.size := by omega
  have n2 : w.heap.size + 1 + 1 + 1 ≠ w.heap.size + 1 + 1 := by omega
  have n3 : w.heap.size + 1 + 1 + 1 ≠ w.heap.size + 1 + 1 + 1 + 1 := by omega
  have n5 : w.heap.size ≤ w.heap.size + 1 + 1 + 1 := by omega
  exact ⟨(((h.1.setB n1).setB n1).setB n1).setB n1, (((h.2.1.set n2).set n2).set n2).set n2, h.2.2.1.put, (((h.2.2.2.1.set n3).set n3).set n3).set n3, (((h.2.2.2.2.setCell n5 _).setCell n5 _).setCell n5 _).setCell n5 _⟩
theorem RdAt.putHi {w W : World} {m lo hi : Nat} (h : RdAt w W m lo hi) (k : Nat) : RdAt w ((((W.setCell ⟨w.heap.size + 1 + 1 + 1 + 1, 0, none⟩ (.int .u64 (limb k 0 : Nat))).setCell ⟨w.heap.size + 1 + 1 + 1 + 1, 1, none⟩ (.int .u64 (limb k 1 : Nat))).setCell ⟨w.heap.size + 1 + 1 + 1 + 1, 2, none⟩ (.int .u64 (limb k 2 : Nat))).setCell ⟨w.heap.size + 1 + 1 + 1 + 1, 3, none⟩ (.int .u64 (limb k 3 : Nat))) m lo k := by
  have n1 : w.heap.size + 1 + 1 + 1 + 1 ≠ w.heap.size := by omega
  have n2 : w.heap.size + 1 + 1 + 1 + 1 ≠ w.heap.size + 1 + 1 := by omega
  have n3 : w.heap.size + 1 + 1 + 1 + 1 ≠ w.heap.size + 1 + 1 + 1 := by omega
  have n5 : w.heap.size ≤ w.heap.size + 1 + 1 + 1 + 1 := by omega
  exact ⟨(((h.1.setB n1).setB n1).setB n1).setB n1, (((h.2.1.set n2).set n2).set n2).set n2, (((h.2.2.1.set n3).set n3).set n3).set n3, h.2.2.2.1.put, (((h.2.2.2.2.setCell n5 _).setCell n5 _).setCell n5 _).setCell n5 _⟩
def cellNat (w : World) (b j : Nat) : Nat := match w.cell? ⟨b, j, none⟩ with
  | some (.int _ n) => n.toNat
  | _ => 0
def numAt (w : World) (b : Nat) : Nat := join4 (cellNat w b 0) (cellNat w b 1) (cellNat w b 2) (cellNat w b 3)
theorem numAt_eq {w : World} {b n : Nat} (h : Num4 w b n) (hn : n < R256) : numAt w b = n := by
  obtain ⟨h0, h1, h2, h3⟩ := h.facts
  unfold numAt cellNat
  rw [h0, h1, h2, h3]
  exact join_limb n hn

theorem addK_val' (a b : Nat) : R256 * addK a b + addN a b = a + b := by unfold addK addN; rw [Nat.add_comm, Nat.mod_add_div]
theorem limb_some' (m : Nat) (hm : m < R256) (h0 : 0 < m) : ¬ (limb m 0 = 0 ∧ limb m 1 = 0 ∧ limb m 2 = 0 ∧ limb m 3 = 0) := by
  rintro ⟨e0, e1, e2, e3⟩
  have j := join_limb m hm
  rw [e0, e1, e2, e3] at j
  unfold join4 at j
  omega
set_option maxRecDepth 100000 in
set_option maxHeartbeats 4000000 in
theorem reduce2_any (m V : Nat) (hF : FM m) (hS : FS m) (hV : V < R256 * R256) (w : World) :
    Calls Tryd.prog 72 #[.agg #[.int .u64 (limb m 0 : Nat), .int .u64 (limb m 1 : Nat), .int .u64 (limb m 2 : Nat), .int .u64 (limb m 3 : Nat), .int .u64 (limb (R256 - m) 0 : Nat), .int .u64 (limb (R256 - m) 1 : Nat), .int .u64 (limb (R256 - m) 2 : Nat), .int .u64 (limb (R256 - m) 3 : Nat)], .agg #[.int .u64 (limb (V) 0 : Nat), .int .u64 (limb (V) 1 : Nat), .int .u64 (limb (V) 2 : Nat), .int .u64 (limb (V) 3 : Nat), .int .u64 (limb (V) 4 : Nat), .int .u64 (limb (V) 5 : Nat), .int .u64 (limb (V) 6 : Nat), .int .u64 (limb (V) 7 : Nat)]] w fun e w' => e = .returned (.agg #[.int .u64 (limb (V % m) 0 : Nat), .int .u64 (limb (V % m) 1 : Nat), .int .u64 (limb (V % m) 2 : Nat), .int .u64 (limb (V % m) 3 : Nat)]) ∧ Below w.heap.size w w' := by
  obtain ⟨r, hr⟩ : ∃ r, r = V % m := ⟨_, rfl⟩
  rw [← hr]
  obtain ⟨G, hG⟩ : ∃ G, G = R256 - m := ⟨_, rfl⟩
  have mR := hF.2.1
  have m1 := hF.pos
  have m2 := hF.1
  have HG : Hid (G = R256 - m ∧ G < 2 ^ 130 ∧ G < R256) := ⟨hG, by rw [hG]; exact hS, by omega⟩
  have HVV : Hid _ := And.intro hr hV
  have HFB : Hid (∀ W t, FieldB ((W : World).alloc (.cells #[.int .u64 (limb m 0 : Nat), .int .u64 (limb m 1 : Nat), .int .u64 (limb m 2 : Nat), .int .u64 (limb m 3 : Nat), .int .u64 (limb (R256 - m) 0 : Nat), .int .u64 (limb (R256 - m) 1 : Nat), .int .u64 (limb (R256 - m) 2 : Nat), .int .u64 (limb (R256 - m) 3 : Nat)] t)) W.heap.size m) := fun W t => ⟨by refine limbs4 _ ?_ ?_ ?_ ?_ <;> simp [go_sem], by refine limbs4 _ ?_ ?_ ?_ ?_ <;> simp [go_sem], by simp⟩
  rw [← hG] at HFB
  rw [← hG]
  clear hr hG hS hF hV
  go_enter Tryd.func72, Tryd.ntmps72
  go_wp2_with fail
  go_loopw [7] (fun v wr => ∃ i lo hi : Nat, (i ≤ 8 ∧ lo < R256 ∧ hi < R256 ∧ (lo + R256 * hi) % m = r ∧ lo + R256 * hi < UB i) ∧ v = .int .i64 i ∧ RdAt w wr m lo hi)
    (fun v _ => 8 - (intOf v).toNat)
  case atStart =>
    refine ⟨0, V % R256, V / R256, ⟨by omega, Nat.mod_lt _ (by decide), Nat.div_lt_of_lt_mul HVV.out.2, by rw [Nat.mod_add_div, HVV.out.1], by rw [Nat.mod_add_div]; exact HVV.out.2⟩, rfl, ?_, ?_, ?_, ?_, by ((repeat' (first | with_reducible exact Below.refl _ _ | with_reducible refine Below.setCell ?_ ?_ _ | with_reducible refine below_alloc0 ?_ _ | with_reducible refine below_drewN ?_ _ | with_reducible refine Below.drew ?_ | refine below_call0 ?_ (by assumption))) <;> (first | omega | (simp; done) | (simp; omega)))⟩
    · exact FieldB.alloc (FieldB.alloc (FieldB.alloc (FieldB.alloc (HFB.out w _))))
    · have h := Pend.new ((w.alloc (.cells #[.int .u64 (limb m 0 : Nat), .int .u64 (limb m 1 : Nat), .int .u64 (limb m 2 : Nat), .int .u64 (limb m 3 : Nat), .int .u64 (limb (G) 0 : Nat), .int .u64 (limb (G) 1 : Nat), .int .u64 (limb (G) 2 : Nat), .int .u64 (limb (G) 3 : Nat)] 61)).alloc (.cells #[.int .u64 (limb V 0 : Nat), .int .u64 (limb V 1 : Nat), .int .u64 (limb V 2 : Nat), .int .u64 (limb V 3 : Nat), .int .u64 (limb V 4 : Nat), .int .u64 (limb V 5 : Nat), .int .u64 (limb V 6 : Nat), .int .u64 (limb V 7 : Nat)] 95)) 34
      simp only [World.size_alloc] at h
      exact h.alloc.alloc
    · have h := Own4.new (((w.alloc (.cells #[.int .u64 (limb m 0 : Nat), .int .u64 (limb m 1 : Nat), .int .u64 (limb m 2 : Nat), .int .u64 (limb m 3 : Nat), .int .u64 (limb (G) 0 : Nat), .int .u64 (limb (G) 1 : Nat), .int .u64 (limb (G) 2 : Nat), .int .u64 (limb (G) 3 : Nat)] 61)).alloc (.cells #[.int .u64 (limb V 0 : Nat), .int .u64 (limb V 1 : Nat), .int .u64 (limb V 2 : Nat), .int .u64 (limb V 3 : Nat), .int .u64 (limb V 4 : Nat), .int .u64 (limb V 5 : Nat), .int .u64 (limb V 6 : Nat), .int .u64 (limb V 7 : Nat)] 95)).alloc (.cells #[.int .u64 0, .int .u64 0, .int .u64 0, .int .u64 0] 34)) (V % R256) 34
      rw [limb_mod _ _ (by omega), limb_mod _ _ (by omega), limb_mod _ _ (by omega), limb_mod _ _ (by omega)] at h
      simp only [World.size_alloc] at h
      exact h.alloc
    · have h := Own4.new ((((w.alloc (.cells #[.int .u64 (limb m 0 : Nat), .int .u64 (limb m 1 : Nat), .int .u64 (limb m 2 : Nat), .int .u64 (limb m 3 : Nat), .int .u64 (limb (G) 0 : Nat), .int .u64 (limb (G) 1 : Nat), .int .u64 (limb (G) 2 : Nat), .int .u64 (limb (G) 3 : Nat)] 61)).alloc (.cells #[.int .u64 (limb V 0 : Nat), .int .u64 (limb V 1 : Nat), .int .u64 (limb V 2 : Nat), .int .u64 (limb V 3 : Nat), .int .u64 (limb V 4 : Nat), .int .u64 (limb V 5 : Nat), .int .u64 (limb V 6 : Nat), .int .u64 (limb V 7 : Nat)] 95)).alloc (.cells #[.int .u64 0, .int .u64 0, .int .u64 0, .int .u64 0] 34)).alloc (.cells #[.int .u64 (limb V 0 : Nat), .int .u64 (limb V 1 : Nat), .int .u64 (limb V 2 : Nat), .int .u64 (limb V 3 : Nat)] 34)) (V / R256) 34
      rw [limb_div, limb_div, limb_div, limb_div] at h
      simp only [World.size_alloc] at h
      exact h
  case round =>
    obtain ⟨i, lo, hi, ⟨hi8, loR, hiR, hval, hub⟩, rfl, hR⟩ := hrel
    by_cases hz : hi = 0
    · subst hz
      rw [Nat.mul_zero, Nat.add_zero] at hval
      have HR : Hid (RdAt w wr m lo 0) := hR
      have HL : Hid _ := And.intro loR hval
      obtain ⟨⟨o0, o1, o2, o3⟩, _, oz⟩ := hR.2.2.2.1.facts
      rw [limb_nought] at o0 o1 o2 o3
      have parts : i < 8 ∨ i = 8 := by omega
      clear hR loR hiR hval hub HFB HVV hi8
      have hd : i < 8 → decide ((i : Int) < 8) = true := fun h => by simp; omega
      have hd2 : i = 8 → decide ((i : Int) < 8) = false := fun h => by simp; omega
      have parts2 : decide ((i : Int) < 8) = true ∨ decide ((i : Int) < 8) = false := by rcases parts with h | h; exact .inl (hd h); exact .inr (hd2 h)
      clear parts hd hd2
      rcases parts2 with hdd | hdd
      all_goals
        go_wp2_with fail
        go_loopw [] (fun wr => ∃ x : Nat, (x < R256 ∧ x % m = r) ∧ RdAt w wr m x 0) (fun wr => numAt wr (w.heap.size + 1 + 1 + 1))
        case atStart => exact ⟨lo, HL.out, HR.out⟩
        case round =>
          obtain ⟨x, ⟨xR, xr⟩, hX⟩ := hrel
          clear HR HL o0 o1 o2 o3 oz
          obtain ⟨⟨a0, a1, a2, a3⟩, _, az⟩ := hX.2.2.1.facts
          obtain ⟨b0, b1, b2, b3⟩ := hX.1.1.facts
          have bz := hX.1.2.2
          have HX : Hid (RdAt w wr m x 0) := hX
          by_cases hxm : x < m
          · have kl : ∀ w, Calls Tryd.prog 52 #[.agg #[.int .u64 (limb (x) 0 : Nat), .int .u64 (limb (x) 1 : Nat), .int .u64 (limb (x) 2 : Nat), .int .u64 (limb (x) 3 : Nat)], .agg #[.int .u64 (limb (m) 0 : Nat), .int .u64 (limb (m) 1 : Nat), .int .u64 (limb (m) 2 : Nat), .int .u64 (limb (m) 3 : Nat)]] w fun e w' => e = .returned (.bool true) ∧ Below w.heap.size w w' := fun w => by
              have k := less_ref x m xR mR w
              rw [decide_eq_true hxm] at k
              exact k
            have KL : Hid _ := kl
            rw [Nat.mod_eq_of_lt hxm] at xr
            subst xr
            clear kl hX hxm
            go_wp2_with fail
            refine (KL.out _).mono ?_
            rintro e w2 ⟨rfl, hq2⟩
            have X2 : RdAt w w2 m x 0 := RdAt.call HX.out hq2
            obtain ⟨⟨p0, p1, p2, p3⟩, ⟨f0, f1, f2, f3⟩, pz⟩ := X2.2.1.facts
            obtain ⟨⟨c0, c1, c2, c3⟩, _, cz⟩ := X2.2.2.1.facts
            have W2 := X2.2.2.2.2
            clear hq2 X2 HX KL a0 a1 a2 a3 b0 b1 b2 b3 bz az
            go_wp2
            refine bodyPost_ret (v := .agg #[.int .u64 (limb (x) 0 : Nat), .int .u64 (limb (x) 1 : Nat), .int .u64 (limb (x) 2 : Nat), .int .u64 (limb (x) 3 : Nat)]) ?_ rfl ⟨rfl, ?_⟩
            · simp [results, Tryd.results72, go_sem, p0, p1, p2, p3]
            · ((repeat' (first | with_reducible exact Below.refl _ _ | with_reducible refine Below.setCell ?_ ?_ _ | with_reducible refine below_alloc0 ?_ _ | with_reducible refine below_drewN ?_ _ | with_reducible refine Below.drew ?_ | refine below_call0 ?_ (by assumption))) <;> (first | omega | (simp; done) | (simp; omega)))
          · have kl : ∀ w, Calls Tryd.prog 52 #[.agg #[.int .u64 (limb (x) 0 : Nat), .int .u64 (limb (x) 1 : Nat), .int .u64 (limb (x) 2 : Nat), .int .u64 (limb (x) 3 : Nat)], .agg #[.int .u64 (limb (m) 0 : Nat), .int .u64 (limb (m) 1 : Nat), .int .u64 (limb (m) 2 : Nat), .int .u64 (limb (m) 3 : Nat)]] w fun e w' => e = .returned (.bool false) ∧ Below w.heap.size w w' := fun w => by
              have k := less_ref x m xR mR w
              rw [decide_eq_false hxm] at k
              exact k
            obtain ⟨y, hy⟩ : ∃ y, y = x - m := ⟨_, rfl⟩
            have km : ∀ w, Calls Tryd.prog 71 #[.agg #[.int .u64 (limb (x) 0 : Nat), .int .u64 (limb (x) 1 : Nat), .int .u64 (limb (x) 2 : Nat), .int .u64 (limb (x) 3 : Nat)], .agg #[.int .u64 (limb (m) 0 : Nat), .int .u64 (limb (m) 1 : Nat), .int .u64 (limb (m) 2 : Nat), .int .u64 (limb (m) 3 : Nat)]] w fun e w' => e = .returned (.agg #[.int .u64 (limb (y) 0 : Nat), .int .u64 (limb (y) 1 : Nat), .int .u64 (limb (y) 2 : Nat), .int .u64 (limb (y) 3 : Nat)]) ∧ Below w.heap.size w w' := fun w => by
              have k := minus2_any x m xR mR w
              rw [show subN x m = y from by rw [hy]; unfold subN; rw [show x + R256 - m = (x - m) + R256 from by omega, Nat.add_mod_right, Nat.mod_eq_of_lt (by omega)]] at k
              exact k
            have KL : Hid _ := kl
            have KM : Hid _ := km
            have HY : Hid (y < R256 ∧ y % m = r ∧ y < x) := ⟨by omega, by rw [hy, ← xr, ← Nat.mod_eq_sub_mod (by omega)], by omega⟩
            clear kl km hX hxm hy xr
            go_wp2_with fail
            refine (KL.out _).mono ?_
            rintro e w2 ⟨rfl, hq2⟩
            have X2 : RdAt w w2 m x 0 := RdAt.call HX.out hq2
            have HX2 : Hid (RdAt w w2 m x 0) := X2
            obtain ⟨⟨c0, c1, c2, c3⟩, _, cz⟩ := X2.2.2.1.facts
            obtain ⟨d0, d1, d2, d3⟩ := X2.1.1.facts
            have dz := X2.1.2.2
            clear hq2 X2 KL a0 a1 a2 a3 b0 b1 b2 b3 bz az
            go_wp2_with fail
            refine (KM.out _).mono ?_
            rintro e w3 ⟨rfl, hq3⟩
            have X3 : RdAt w w3 m x 0 := RdAt.call HX2.out hq3
            obtain ⟨⟨e0, e1, e2, e3⟩, ⟨f0, f1, f2, f3⟩, ez⟩ := X3.2.2.1.facts
            have HX4 : Hid (RdAt w _ m y 0) := X3.putLo y
            clear hq3 X3 HX2 KM c0 c1 c2 c3 cz d0 d1 d2 d3 dz
            go_wp2_with fail
            go_roundw
            case rel => first | exact ⟨y, ⟨HY.out.1, HY.out.2.1⟩, HX4.out⟩ | ((repeat apply Exists.intro); exact ⟨⟨y, ⟨HY.out.1, HY.out.2.1⟩, HX4.out⟩, rfl⟩)
            case measure =>
              have h1 := numAt_eq HX4.out.2.2.1.1 HY.out.1
              have h2 := numAt_eq (RdAt.call HX.out (Below.refl _ _)).2.2.1.1 xR
              rw [h1, h2]
              exact HY.out.2.2
    · have hlt : i < 8 := by
        rcases Nat.lt_or_ge i 8 with q | q
        · exact q
        · obtain rfl : i = 8 := by omega
          have e : UB 8 = R256 := rfl
          rw [e] at hub
          have : R256 * 1 ≤ R256 * hi := Nat.mul_le_mul_left _ (by omega)
          omega
      obtain ⟨P, hP⟩ : ∃ P, P = G * hi := ⟨_, rfl⟩
      obtain ⟨Pl, hPl⟩ : ∃ Pl, Pl = P % R256 := ⟨_, rfl⟩
      obtain ⟨Ph, hPh⟩ : ∃ Ph, Ph = P / R256 := ⟨_, rfl⟩
      obtain ⟨lo2, hlo2⟩ : ∃ x, x = addN lo Pl := ⟨_, rfl⟩
      obtain ⟨k, hk⟩ : ∃ k, k = addK lo Pl := ⟨_, rfl⟩
      have PlR : Pl < R256 := by rw [hPl]; exact Nat.mod_lt _ (by decide)
      have k1 : k ≤ 1 := by rw [hk]; exact addK_le lo Pl loR PlR
      have lo2R : lo2 < R256 := by rw [hlo2]; exact addN_lt _ _
      have e1 : R256 * k + lo2 = lo + Pl := by rw [hk, hlo2]; exact addK_val' lo Pl
      have e2 : P = Pl + R256 * Ph := by rw [hPl, hPh, Nat.mod_add_div]
      have tot : lo2 + R256 * (Ph + k) = lo + hi * G := by
        rw [Nat.mul_comm hi G, ← hP, Nat.mul_add]
        omega
      have ub2 := UB_step i lo hi G loR hub hz HG.out.2.1
      rw [← tot] at ub2
      have hi2R : Ph + k < R256 := by
        have l := UB_le (i + 1)
        exact Nat.lt_of_mul_lt_mul_left (a := R256) (by omega)
      have HV : Hid ((lo2 + R256 * (Ph + k)) % m = r ∧ lo2 + R256 * (Ph + k) < UB (i + 1)) := ⟨by rw [tot, HG.out.1, fold_mod lo hi m mR]; exact hval, ub2⟩
      have kt : ∀ w, Calls Tryd.prog 73 #[.agg #[.int .u64 (limb (G) 0 : Nat), .int .u64 (limb (G) 1 : Nat), .int .u64 (limb (G) 2 : Nat), .int .u64 (limb (G) 3 : Nat)], .agg #[.int .u64 (limb (hi) 0 : Nat), .int .u64 (limb (hi) 1 : Nat), .int .u64 (limb (hi) 2 : Nat), .int .u64 (limb (hi) 3 : Nat)]] w fun e w' => e = .returned (.agg #[.int .u64 (limb (P) 0 : Nat), .int .u64 (limb (P) 1 : Nat), .int .u64 (limb (P) 2 : Nat), .int .u64 (limb (P) 3 : Nat), .int .u64 (limb (P) 4 : Nat), .int .u64 (limb (P) 5 : Nat), .int .u64 (limb (P) 6 : Nat), .int .u64 (limb (P) 7 : Nat)]) ∧ Below w.heap.size w w' := fun w => by
        rw [hP]
        exact times2_any G hi HG.out.2.2 hiR w
      have kp : ∀ w, Calls Tryd.prog 70 #[.agg #[.int .u64 (limb (lo) 0 : Nat), .int .u64 (limb (lo) 1 : Nat), .int .u64 (limb (lo) 2 : Nat), .int .u64 (limb (lo) 3 : Nat)], .agg #[.int .u64 (limb (P) 0 : Nat), .int .u64 (limb (P) 1 : Nat), .int .u64 (limb (P) 2 : Nat), .int .u64 (limb (P) 3 : Nat)]] w fun e w' => e = .returned (.tuple #[.agg #[.int .u64 (limb (lo2) 0 : Nat), .int .u64 (limb (lo2) 1 : Nat), .int .u64 (limb (lo2) 2 : Nat), .int .u64 (limb (lo2) 3 : Nat)], .bool (decide (k = 1))]) ∧ Below w.heap.size w w' := fun w => by
        have h := plus2_any lo Pl loR PlR w
        rw [← hlo2, ← hk, hPl, limb_mod _ _ (by omega), limb_mod _ _ (by omega), limb_mod _ _ (by omega), limb_mod _ _ (by omega)] at h
        exact h
      have lh : limb P 4 = limb Ph 0 ∧ limb P 5 = limb Ph 1 ∧ limb P 6 = limb Ph 2 ∧ limb P 7 = limb Ph 3 := by
        rw [hPh, limb_div, limb_div, limb_div, limb_div]
        exact ⟨rfl, rfl, rfl, rfl⟩
      have hsome := limb_some' hi hiR (by omega)
      have tests : ((limb hi 0 : Int) == 0) = false ∨ ((limb hi 0 : Int) == 0) = true ∧ ((limb hi 1 : Int) == 0) = false ∨ ((limb hi 0 : Int) == 0) = true ∧ ((limb hi 1 : Int) == 0) = true ∧ ((limb hi 2 : Int) == 0) = false ∨ ((limb hi 0 : Int) == 0) = true ∧ ((limb hi 1 : Int) == 0) = true ∧ ((limb hi 2 : Int) == 0) = true ∧ ((limb hi 3 : Int) == 0) = false := by
        simp only [beq_eq_false_iff_ne, beq_iff_eq, ne_eq]
        omega
      have KT : Hid _ := kt
      have KP : Hid _ := kp
      have HLH : Hid _ := lh
      have HR : Hid (RdAt w wr m lo hi) := hR
      have hlt' : (i : Int) < 8 := by omega
      obtain ⟨⟨o0, o1, o2, o3⟩, _, oz⟩ := hR.2.2.2.1.facts
      have HB : Hid _ := And.intro lo2R (And.intro hi2R k1)
      clear kt kp lh hsome hR hP hPl hPh hlo2 hk PlR lo2R e1 e2 tot ub2 hval hub hz loR hiR HFB HVV hi8 k1 hi2R
      have hdd : decide ((i : Int) < 8) = true := by simp; omega
      obtain ⟨g0, g1, g2, g3⟩ := HR.out.1.gap
      rw [← HG.out.1] at g0 g1 g2 g3
      have gz := HR.out.1.2.2
      refine wp_seq_k ?_
      intro K0 hK0
      have HK0 : Hid _ := hK0
      clear hK0
      go_wp2_with fail
      refine HK0.out _ _ ?_
      clear HK0 K0
      refine wp_seq_k ?_
      intro K1 hK1
      apply wp_block
      refine wp_seq_k ?_
      intro K2 hK2
      refine wp_seq_k ?_
      intro K3 hK3
      have HK1 : Hid _ := hK1
      have HK2 : Hid _ := hK2
      have HK3 : Hid _ := hK3
      clear hK1 hK2 hK3
      go_cut [52] (fun v wx => v = .bool false ∧ wx = wr)
      case first =>
        rcases tests with t0 | ⟨t0, t1⟩ | ⟨t0, t1, t2⟩ | ⟨t0, t1, t2, t3⟩
        all_goals
          go_wp2_with fail
          go_meet
          exact ⟨rfl, rfl⟩
      case rest =>
        obtain ⟨rfl, hwc⟩ := hcut
        subst hwc
        clear tests
        refine HK3.out _ _ ?_
        clear HK3 K3
        go_wp2_with fail
        refine HK2.out _ _ ?_
        clear HK2 K2
        go_wp2_with fail
        refine (KT.out _).mono ?_
        rintro e w1 ⟨rfl, hq1⟩
        have R1 : RdAt w w1 m lo hi := RdAt.call HR.out hq1
        obtain ⟨⟨a0, a1, a2, a3⟩, _, az⟩ := R1.2.2.1.facts
        have HR1 : Hid (RdAt w w1 m lo hi) := R1
        clear hq1 R1 KT g0 g1 g2 g3 gz o0 o1 o2 o3 oz HR
        go_wp2_with fail
        refine (KP.out _).mono ?_
        rintro e w2 ⟨rfl, hq2⟩
        have R2 : RdAt w w2 m lo hi := RdAt.call (RdAt.alloc HR1.out) hq2
        have q4 : w2.cell? ⟨w1.heap.size, 4, none⟩ = some (.int .u64 (limb P 4 : Nat)) := (Below.cell (p := ⟨w1.heap.size, 4, none⟩) hq2 (by simp)).trans (by simp [go_sem])
        have q5 : w2.cell? ⟨w1.heap.size, 5, none⟩ = some (.int .u64 (limb P 5 : Nat)) := (Below.cell (p := ⟨w1.heap.size, 5, none⟩) hq2 (by simp)).trans (by simp [go_sem])
        have q6 : w2.cell? ⟨w1.heap.size, 6, none⟩ = some (.int .u64 (limb P 6 : Nat)) := (Below.cell (p := ⟨w1.heap.size, 6, none⟩) hq2 (by simp)).trans (by simp [go_sem])
        have q7 : w2.cell? ⟨w1.heap.size, 7, none⟩ = some (.int .u64 (limb P 7 : Nat)) := (Below.cell (p := ⟨w1.heap.size, 7, none⟩) hq2 (by simp)).trans (by simp [go_sem])
        have z2 := hq2.size
        simp only [World.size_alloc] at z2
        have z3 : w1.heap.size < w2.heap.size := by omega
        obtain ⟨e4, e5, e6, e7⟩ := HLH.out
        rw [e4] at q4
        rw [e5] at q5
        rw [e6] at q6
        rw [e7] at q7
        obtain ⟨⟨a0', a1', a2', a3'⟩, ⟨f0, f1, f2, f3⟩, az'⟩ := R2.2.2.1.facts
        obtain ⟨⟨b0, b1, b2, b3⟩, ⟨d0, d1, d2, d3⟩, bz⟩ := R2.2.2.2.1.facts
        have HR2 : Hid (RdAt w w2 m lo hi) := R2
        have ne1 : w1.heap.size ≠ w.heap.size + 1 + 1 + 1 := by have := HR1.out.2.2.1.2.2; omega
        have ne2 : w1.heap.size ≠ w.heap.size + 1 + 1 + 1 + 1 := by have := HR1.out.2.2.2.1.2.2; omega
        clear hq2 R2 KP a0 a1 a2 a3 az HR1 HLH z2 e4 e5 e6 e7
        have kk : k = 0 ∨ k = 1 := by have := HB.out.2.2; omega
        rcases kk with rfl | rfl
        · rw [Nat.add_zero] at HV HB
          go_wp2_with fail
          refine HK1.out _ _ ?_
          clear HK1 K1
          go_wp2_with fail
          go_roundw
          case rel => first | exact ⟨i + 1, lo2, Ph, ⟨by omega, HB.out.1, HB.out.2.1, HV.out.1, HV.out.2⟩, by go_num, by first | exact ((RdAt.putLo HR2.out lo2).putHi Ph).alloc | exact ((RdAt.putLo HR2.out lo2).alloc).putHi Ph⟩ | ((repeat apply Exists.intro); exact ⟨⟨i + 1, lo2, Ph, ⟨by omega, HB.out.1, HB.out.2.1, HV.out.1, HV.out.2⟩, by go_num, by first | exact ((RdAt.putLo HR2.out lo2).putHi Ph).alloc | exact ((RdAt.putLo HR2.out lo2).alloc).putHi Ph⟩, rfl⟩)
          case measure => simp [intOf]; omega
        · obtain ⟨bb, hbb⟩ : ∃ bb : Bool, bb = decide (addK Ph 1 = 1) := ⟨_, rfl⟩
          obtain ⟨P1, hP1⟩ : ∃ P1, P1 = Ph + 1 := ⟨_, rfl⟩
          rw [← hP1] at HV HB
          have kq : ∀ w, Calls Tryd.prog 70 #[.agg #[.int .u64 (limb (Ph) 0 : Nat), .int .u64 (limb (Ph) 1 : Nat), .int .u64 (limb (Ph) 2 : Nat), .int .u64 (limb (Ph) 3 : Nat)], .agg #[.int .u64 1, .int .u64 0, .int .u64 0, .int .u64 0]] w fun e w' => e = .returned (.tuple #[.agg #[.int .u64 (limb (P1) 0 : Nat), .int .u64 (limb (P1) 1 : Nat), .int .u64 (limb (P1) 2 : Nat), .int .u64 (limb (P1) 3 : Nat)], .bool bb]) ∧ Below w.heap.size w w' := fun w => by
            have h := plus2_any Ph 1 (by have := HB.out.2.1; omega) (by decide) w
            rw [show addN Ph 1 = P1 from by rw [hP1]; unfold addN; exact Nat.mod_eq_of_lt (by have := HB.out.2.1; omega), ← hbb, limb_one.1, limb_one.2.1, limb_one.2.2.1, limb_one.2.2.2] at h
            exact h
          have KQ : Hid _ := kq
          clear kq hbb hP1
          go_wp2_with fail
          refine (KQ.out _).mono ?_
          rintro e w3 ⟨rfl, hq3⟩
          have R3 : RdAt w w3 m lo2 Ph := by
            first
            | exact RdAt.call (((RdAt.putLo HR2.out lo2).putHi Ph).alloc) hq3
            | exact RdAt.call (((RdAt.putLo HR2.out lo2).alloc).putHi Ph) hq3
          obtain ⟨⟨h0, h1, h2, h3⟩, ⟨v0, v1, v2, v3⟩, hz⟩ := R3.2.2.2.1.facts
          have HR3 : Hid (RdAt w w3 m lo2 Ph) := R3
          clear hq3 R3 KQ HR2 q4 q5 q6 q7 a0' a1' a2' a3' f0 f1 f2 f3 az' b0 b1 b2 b3 d0 d1 d2 d3 bz
          go_wp2_with fail
          refine HK1.out _ _ ?_
          clear HK1 K1
          go_wp2_with fail
          go_roundw
          case rel => first | exact ⟨i + 1, lo2, P1, ⟨by omega, HB.out.1, HB.out.2.1, HV.out.1, HV.out.2⟩, by go_num, by first | exact (RdAt.putHi HR3.out P1).alloc | exact (RdAt.alloc HR3.out).putHi P1⟩ | ((repeat apply Exists.intro); exact ⟨⟨i + 1, lo2, P1, ⟨by omega, HB.out.1, HB.out.2.1, HV.out.1, HV.out.2⟩, by go_num, by first | exact (RdAt.putHi HR3.out P1).alloc | exact (RdAt.alloc HR3.out).putHi P1⟩, rfl⟩)
          case measure => simp [intOf]; omega
end Go.Proofs.YtkdejflgmgljiaaDoor

namespace Go.Proofs.YtkdejflgmgljiaaDoor
open Go.RowKit

theorem limb_PP : limb PP 0 = 18446744069414583343 ∧ limb PP 1 = 18446744073709551615 ∧ limb PP 2 = 18446744073709551615 ∧ limb PP 3 = 18446744073709551615 ∧ limb (R256 - PP) 0 = 4294968273 ∧ limb (R256 - PP) 1 = 0 ∧ limb (R256 - PP) 2 = 0 ∧ limb (R256 - PP) 3 = 0 := by decide
theorem limb_QQ : limb QQ 0 = 13822214165235122497 ∧ limb QQ 1 = 13451932020343611451 ∧ limb QQ 2 = 18446744073709551614 ∧ limb QQ 3 = 18446744073709551615 ∧ limb (R256 - QQ) 0 = 4624529908474429119 ∧ limb (R256 - QQ) 1 = 4994812053365940164 ∧ limb (R256 - QQ) 2 = 1 ∧ limb (R256 - QQ) 3 = 0 := by decide
theorem Row8.call {W w1 : World} {p : Nat} {f : Nat → Nat} (h : Row8 W p f) (hb : Below W.heap.size W w1) : Row8 w1 p f :=
  ⟨fun j hj => (hb.cell (p := ⟨p, j, none⟩) h.2.2).trans (h.1 j hj), fun j hj => (hb.frozen (p := ⟨p, j, none⟩) h.2.2).trans (h.2.1 j hj), Nat.lt_of_lt_of_le h.2.2 hb.size⟩
theorem base2_any (w : World) : Calls Tryd.prog 46 #[] w fun e w' => e = .returned (.agg #[.int .u64 (limb PP 0 : Nat), .int .u64 (limb PP 1 : Nat), .int .u64 (limb PP 2 : Nat), .int .u64 (limb PP 3 : Nat), .int .u64 (limb (R256 - PP) 0 : Nat), .int .u64 (limb (R256 - PP) 1 : Nat), .int .u64 (limb (R256 - PP) 2 : Nat), .int .u64 (limb (R256 - PP) 3 : Nat)]) ∧ Below w.heap.size w w' := by
  obtain ⟨l0, l1, l2, l3, g0, g1, g2, g3⟩ := limb_PP
  rw [l0, l1, l2, l3, g0, g1, g2, g3]
  clear l0 l1 l2 l3 g0 g1 g2 g3
  go_enter Tryd.func46, Tryd.ntmps46
  go_wp2
  refine bodyPost_ret (v := .agg #[.int .u64 (18446744069414583343 : Nat), .int .u64 (18446744073709551615 : Nat), .int .u64 (18446744073709551615 : Nat), .int .u64 (18446744073709551615 : Nat), .int .u64 (4294968273 : Nat), .int .u64 (0 : Nat), .int .u64 (0 : Nat), .int .u64 (0 : Nat)]) ?_ rfl ⟨rfl, ?_⟩
  · simp [results, Tryd.results46, go_sem]
  · ((repeat' (first | with_reducible exact Below.refl _ _ | with_reducible refine Below.setCell ?_ ?_ _ | with_reducible refine below_alloc0 ?_ _ | with_reducible refine below_drewN ?_ _ | with_reducible refine Below.drew ?_ | refine below_call0 ?_ (by assumption))) <;> (first | omega | (simp; done) | (simp; omega)))

theorem scalars2_any (w : World) : Calls Tryd.prog 27 #[] w fun e w' => e = .returned (.agg #[.int .u64 (limb QQ 0 : Nat), .int .u64 (limb QQ 1 : Nat), .int .u64 (limb QQ 2 : Nat), .int .u64 (limb QQ 3 : Nat), .int .u64 (limb (R256 - QQ) 0 : Nat), .int .u64 (limb (R256 - QQ) 1 : Nat), .int .u64 (limb (R256 - QQ) 2 : Nat), .int .u64 (limb (R256 - QQ) 3 : Nat)]) ∧ Below w.heap.size w w' := by
  obtain ⟨l0, l1, l2, l3, g0, g1, g2, g3⟩ := limb_QQ
  rw [l0, l1, l2, l3, g0, g1, g2, g3]
  clear l0 l1 l2 l3 g0 g1 g2 g3
  go_enter Tryd.func27, Tryd.ntmps27
  go_wp2
  refine bodyPost_ret (v := .agg #[.int .u64 (13822214165235122497 : Nat), .int .u64 (13451932020343611451 : Nat), .int .u64 (18446744073709551614 : Nat), .int .u64 (18446744073709551615 : Nat), .int .u64 (4624529908474429119 : Nat), .int .u64 (4994812053365940164 : Nat), .int .u64 (1 : Nat), .int .u64 (0 : Nat)]) ?_ rfl ⟨rfl, ?_⟩
  · simp [results, Tryd.results27, go_sem]
  · ((repeat' (first | with_reducible exact Below.refl _ _ | with_reducible refine Below.setCell ?_ ?_ _ | with_reducible refine below_alloc0 ?_ _ | with_reducible refine below_drewN ?_ _ | with_reducible refine Below.drew ?_ | refine below_call0 ?_ (by assumption))) <;> (first | omega | (simp; done) | (simp; omega)))

theorem FieldB.new (W : World) (m : Nat) (t : TypeId) : FieldB (W.alloc (.cells #[.int .u64 (limb m 0 : Nat), .int .u64 (limb m 1 : Nat), .int .u64 (limb m 2 : Nat), .int .u64 (limb m 3 : Nat), .int .u64 (limb (R256 - m) 0 : Nat), .int .u64 (limb (R256 - m) 1 : Nat), .int .u64 (limb (R256 - m) 2 : Nat), .int .u64 (limb (R256 - m) 3 : Nat)] t)) W.heap.size m :=
  ⟨by refine limbs4 _ ?_ ?_ ?_ ?_ <;> simp [go_sem], by refine limbs4 _ ?_ ?_ ?_ ?_ <;> simp [go_sem], by simp⟩
def mB (b : Bool) : Nat := cond b PP QQ
theorem FM_B (b : Bool) : FM (mB b) := by cases b; exact FM_Q; exact FM_P
theorem FS_B (b : Bool) : FS (mB b) := by cases b; exact FS_Q; exact FS_P
theorem prime_B (b : Bool) : PrimeN (mB b) := by cases b; exact prime_Q; exact prime_P
end Go.Proofs.YtkdejflgmgljiaaDoor
