/- wardmoteref02.Less, Plus and Minus: what the reference answers, over natural numbers. -/
import Derived.Test.YtbpgiijdcagckaaDoorFdA
import Derived.Test.YtbpgiijdcagckaaDoorLbA
namespace Go.Proofs.YtbpgiijdcagckaaDoor
open Go.RowKit

theorem ret_bool {a b : Bool} (h : a = b) : Ending.returned (.bool a) = .returned (.bool b) := by rw [h]

set_option maxHeartbeats 1000000 in
theorem less_ref (a b : Nat) (ha : a < R256) (hb : b < R256) (w : World) :
    Calls Tryd.prog 28 #[.agg #[.int .u64 (limb (a) 0 : Nat), .int .u64 (limb (a) 1 : Nat), .int .u64 (limb (a) 2 : Nat), .int .u64 (limb (a) 3 : Nat)], .agg #[.int .u64 (limb (b) 0 : Nat), .int .u64 (limb (b) 1 : Nat), .int .u64 (limb (b) 2 : Nat), .int .u64 (limb (b) 3 : Nat)]] w fun e w' => e = .returned (.bool (decide (a < b))) ∧ Below w.heap.size w w' := by
  go_enter Tryd.func28, Tryd.ntmps28
  go_wp2
  go_loopw [5] (fun i wr => ∃ k : Nat, k ≤ 4 ∧ i = .int .i64 ((k : Int) - 1) ∧ (∀ j, k ≤ j → j < 4 → limb a j = limb b j) ∧ Num4 wr w.heap.size a ∧ Num4 wr (w.heap.size + 1) b ∧ Below w.heap.size w wr)
    (fun i _ => (intOf i + 1).toNat)
  case atStart => exact ⟨4, by omega, rfl, fun j h1 h2 => by omega, by ((repeat' (first | assumption | (refine Num4.new' ?_; first | omega | (simp; done)) | refine Num4.set ?_ ?_ | refine Num4.alloc ?_ ?_ | refine Num4.drewN ?_ | refine Num4.call ?_ (by assumption) ?_)) <;> (first | omega | (simp; done) | (simp; omega))), by ((repeat' (first | assumption | (refine Num4.new' ?_; first | omega | (simp; done)) | refine Num4.set ?_ ?_ | refine Num4.alloc ?_ ?_ | refine Num4.drewN ?_ | refine Num4.call ?_ (by assumption) ?_)) <;> (first | omega | (simp; done) | (simp; omega))), by ((repeat' (first | with_reducible exact Below.refl _ _ | with_reducible refine Below.setCell ?_ ?_ _ | with_reducible refine below_alloc0 ?_ _ | with_reducible refine below_drewN ?_ _ | with_reducible refine Below.drew ?_ | refine below_call0 ?_ (by assumption))) <;> (first | omega | (simp; done) | (simp; omega)))⟩
  case round =>
    obtain ⟨k, hk, rfl, heq, hca, hcb, hbel⟩ := hrel
    by_cases hk0 : k = 0
    · subst hk0
      have HR : Hid (decide (a < b) = false) := by rw [cmp_eq a b ha hb heq]; simp [Hid]
      clear heq hca hcb
      go_wp2
      go_ret
      exact ⟨ret_bool HR.out.symm, by ((repeat' (first | with_reducible exact Below.refl _ _ | with_reducible refine Below.setCell ?_ ?_ _ | with_reducible refine below_alloc0 ?_ _ | with_reducible refine below_drewN ?_ _ | with_reducible refine Below.drew ?_ | refine below_call0 ?_ (by assumption))) <;> (first | omega | (simp; done) | (simp; omega)))⟩
    · obtain ⟨m, rfl⟩ : ∃ m, k = m + 1 := ⟨k - 1, by omega⟩
      have e : ((m + 1 : Nat) : Int) - 1 = (m : Int) := by omega
      rw [e]
      clear e
      have hm : m < 4 := by omega
      have ga := hca m hm
      have gb := hcb m hm
      have HC : Hid _ := And.intro hca hcb
      have HE : Hid (∀ j, m + 1 ≤ j → j < 4 → limb a j = limb b j) := heq
      clear hca hcb heq
      by_cases h1 : limb a m < limb b m
      · have HR : Hid (decide (a < b) = true) := by rw [decide_eq_true_iff]; exact cmp_lt a b m ha hb hm HE.out h1
        have e1 : ((limb a m : Int) == (limb b m : Int)) = false := by simp; omega
        have d1 : decide ((limb a m : Int) < (limb b m : Int)) = true := by simpa using h1
        go_wp2
        go_quiet (fail)
        go_wp2
        go_quiet (fail)
        go_wp2
        go_ret
        exact ⟨ret_bool HR.out.symm, by ((repeat' (first | with_reducible exact Below.refl _ _ | with_reducible refine Below.setCell ?_ ?_ _ | with_reducible refine below_alloc0 ?_ _ | with_reducible refine below_drewN ?_ _ | with_reducible refine Below.drew ?_ | refine below_call0 ?_ (by assumption))) <;> (first | omega | (simp; done) | (simp; omega)))⟩
      · by_cases h2 : limb b m < limb a m
        · have HR : Hid (decide (a < b) = false) := by
            have l := cmp_lt b a m hb ha hm (fun j x y => (HE.out j x y).symm) h2
            simp only [Hid, decide_eq_false_iff_not]
            omega
          have e1 : ((limb a m : Int) == (limb b m : Int)) = false := by simp; omega
          have d1 : decide ((limb a m : Int) < (limb b m : Int)) = false := by simpa using h1
          go_wp2
          go_quiet (fail)
          go_wp2
          go_quiet (fail)
          go_wp2
          go_ret
          exact ⟨ret_bool HR.out.symm, by ((repeat' (first | with_reducible exact Below.refl _ _ | with_reducible refine Below.setCell ?_ ?_ _ | with_reducible refine below_alloc0 ?_ _ | with_reducible refine below_drewN ?_ _ | with_reducible refine Below.drew ?_ | refine below_call0 ?_ (by assumption))) <;> (first | omega | (simp; done) | (simp; omega)))⟩
        · have em : limb a m = limb b m := by omega
          have e1 : ((limb a m : Int) == (limb b m : Int)) = true := by simp [em]
          have EM : Hid (limb a m = limb b m) := em
          clear em
          go_wp2
          go_quiet (fail)
          go_wp2
          go_roundw
          case rel =>
            refine ⟨m, by omega, rfl, ?_, HC.out.1, HC.out.2, by ((repeat' (first | with_reducible exact Below.refl _ _ | with_reducible refine Below.setCell ?_ ?_ _ | with_reducible refine below_alloc0 ?_ _ | with_reducible refine below_drewN ?_ _ | with_reducible refine Below.drew ?_ | refine below_call0 ?_ (by assumption))) <;> (first | omega | (simp; done) | (simp; omega)))⟩
            intro j hj hj4
            by_cases hjm : j = m
            · subst hjm; exact EM.out
            · exact HE.out j (by omega) hj4
          case measure => simp [intOf]

set_option maxHeartbeats 2000000 in
theorem plus2_any (a b : Nat) (ha : a < R256) (hb : b < R256) (w : World) :
    Calls Tryd.prog 29 #[.agg #[.int .u64 (limb (a) 0 : Nat), .int .u64 (limb (a) 1 : Nat), .int .u64 (limb (a) 2 : Nat), .int .u64 (limb (a) 3 : Nat)], .agg #[.int .u64 (limb (b) 0 : Nat), .int .u64 (limb (b) 1 : Nat), .int .u64 (limb (b) 2 : Nat), .int .u64 (limb (b) 3 : Nat)]] w fun e w' => e = .returned (.tuple #[.agg #[.int .u64 (limb (addN a b) 0 : Nat), .int .u64 (limb (addN a b) 1 : Nat), .int .u64 (limb (addN a b) 2 : Nat), .int .u64 (limb (addN a b) 3 : Nat)], .bool (decide (addK a b = 1))]) ∧ Below w.heap.size w w' := by
  obtain ⟨l0, l1, l2, l3⟩ := add_limbs a b ha hb
  have lk := (add_join a b ha hb).2
  have HL : Hid _ := And.intro l0 (And.intro l1 (And.intro l2 (And.intro l3 lk)))
  have hc := chain_c a b
  clear l0 l1 l2 l3 lk
  go_enter Tryd.func29, Tryd.ntmps29
  go_wp2
  go_loopw [7, 8] (fun c i wr => ∃ k : Nat, k ≤ 4 ∧ i = .int .i64 k ∧ c = .int .u64 (chain addC (limb a) (limb b) k : Nat) ∧ (∀ j, j < 4 → wr.cell? ⟨w.heap.size + 1 + 1 + 1, j, none⟩ = some (.int .u64 (part addS addC (limb a) (limb b) k j))) ∧ (∀ j, j < 4 → wr.frozen? ⟨w.heap.size + 1 + 1 + 1, j, none⟩ = false) ∧ Num4 wr w.heap.size a ∧ Num4 wr (w.heap.size + 1) b ∧ Pend wr (w.heap.size + 1 + 1) ∧ Below w.heap.size w wr ∧ w.heap.size + 1 + 1 + 1 < wr.heap.size)
    (fun _ i _ => 4 - (intOf i).toNat)
  case atStart =>
    refine ⟨0, by omega, rfl, rfl, ?_, ?_, by ((repeat' (first | assumption | (refine Num4.new' ?_; first | omega | (simp; done)) | refine Num4.set ?_ ?_ | refine Num4.alloc ?_ ?_ | refine Num4.drewN ?_ | refine Num4.call ?_ (by assumption) ?_)) <;> (first | omega | (simp; done) | (simp; omega))), by ((repeat' (first | assumption | (refine Num4.new' ?_; first | omega | (simp; done)) | refine Num4.set ?_ ?_ | refine Num4.alloc ?_ ?_ | refine Num4.drewN ?_ | refine Num4.call ?_ (by assumption) ?_)) <;> (first | omega | (simp; done) | (simp; omega))), ?_, by ((repeat' (first | with_reducible exact Below.refl _ _ | with_reducible refine Below.setCell ?_ ?_ _ | with_reducible refine below_alloc0 ?_ _ | with_reducible refine below_drewN ?_ _ | with_reducible refine Below.drew ?_ | refine below_call0 ?_ (by assumption))) <;> (first | omega | (simp; done) | (simp; omega))), by simp⟩
    · refine limbs4 _ ?_ ?_ ?_ ?_ <;> simp [part, go_sem]
    · intro j hj
      simp [go_sem]
    · have h := Pend.new ((w.alloc (.cells #[.int .u64 (limb a 0 : Nat), .int .u64 (limb a 1 : Nat), .int .u64 (limb a 2 : Nat), .int .u64 (limb a 3 : Nat)] 27)).alloc (.cells #[.int .u64 (limb b 0 : Nat), .int .u64 (limb b 1 : Nat), .int .u64 (limb b 2 : Nat), .int .u64 (limb b 3 : Nat)] 27)) 27
      simp only [World.size_alloc] at h
      exact h.alloc
  case round =>
    obtain ⟨k, hk, rfl, rfl, hcell, hfr, hA, hB, hP, hbel, hsz⟩ := hrel
    by_cases hlt : k < 4
    · have ga := hA k hlt
      have gb := hB k hlt
      have gf := hfr k hlt
      have go := hcell k hlt
      have gc := hc k
      have A64 : ∀ w', (callFunc 39 #[.int .u64 (limb a k : Nat), .int .u64 (limb b k : Nat), .int .u64 (chain addC (limb a) (limb b) k : Nat)]).run Tryd.prog w' = .ok (.value (.tuple #[.int .u64 (addS (limb a k) (limb b k) (chain addC (limb a) (limb b) k) : Nat), .int .u64 (addC (limb a k) (limb b k) (chain addC (limb a) (limb b) k) : Nat)])) w' := fun w' => add64 _ _ _ gc w'
      have hk0 : (0 : Int) ≤ (k : Int) := by omega
      have hk4 : (k : Int) < 4 := by omega
      have HC : Hid _ := hcell
      have HF : Hid _ := hfr
      have HN : Hid _ := And.intro hA (And.intro hB hP)
      clear hcell hfr hA hB hP hc
      go_wp2
      go_quiet (fail)
      go_wp2
      go_roundw
      case rel =>
        refine ⟨k + 1, by omega, by go_num, rfl, ?_, ?_, ?_, ?_, ?_, ?_, ?_⟩
        · intro j hj
          exact cell_step HC.out j hj nq
        · intro j hj
          rw [World.frozen?_setCell]
          exact HF.out j hj
        · exact (Num4.drewN HN.out.1).set (show w.heap.size + 1 + 1 + 1 ≠ w.heap.size by omega)
        · exact (Num4.drewN HN.out.2.1).set (show w.heap.size + 1 + 1 + 1 ≠ w.heap.size + 1 by omega)
        · exact (show Pend (wr.drewN nq) (w.heap.size + 1 + 1) from HN.out.2.2).set (show w.heap.size + 1 + 1 + 1 ≠ w.heap.size + 1 + 1 by omega)
        · exact (below_drewN hbel nq).setCell (show w.heap.size ≤ w.heap.size + 1 + 1 + 1 by omega) _
        · rw [World.size_setCell]; exact hsz
      case measure => simp [intOf]; omega
    · have g0 := hcell 0 (by omega)
      have g1 := hcell 1 (by omega)
      have g2 := hcell 2 (by omega)
      have g3 := hcell 3 (by omega)
      obtain ⟨⟨p0, p1, p2, p3⟩, ⟨f0, f1, f2, f3⟩, pz⟩ := hP.facts
      have hk4 : k = 4 := by omega
      subst hk4
      rw [part_done _ _ _ _ 0 (by omega)] at g0
      rw [part_done _ _ _ _ 1 (by omega)] at g1
      rw [part_done _ _ _ _ 2 (by omega)] at g2
      rw [part_done _ _ _ _ 3 (by omega)] at g3
      obtain ⟨l0, l1, l2, l3, lk⟩ := HL.out
      rw [l0] at g0
      rw [l1] at g1
      rw [l2] at g2
      rw [l3] at g3
      rw [lk]
      obtain ⟨c, hcc⟩ : ∃ c, c = addK a b := ⟨_, rfl⟩
      rw [← hcc]
      have HCC : Hid _ := hcc
      clear hA hB hcell hfr hP hc HL l0 l1 l2 l3 lk hcc
      go_wp2
      refine bodyPost_ret (v := .tuple #[.agg #[.int .u64 (limb (addN a b) 0 : Nat), .int .u64 (limb (addN a b) 1 : Nat), .int .u64 (limb (addN a b) 2 : Nat), .int .u64 (limb (addN a b) 3 : Nat)], .bool (decide (c = 1))]) ?_ rfl ⟨by rw [HCC.out], ?_⟩
      · simp [results, Tryd.results29, go_sem, p0, p1, p2, p3]
        rw [Bool.eq_iff_iff, beq_iff_eq, decide_eq_true_iff]
        omega
      · ((repeat' (first | with_reducible exact Below.refl _ _ | with_reducible refine Below.setCell ?_ ?_ _ | with_reducible refine below_alloc0 ?_ _ | with_reducible refine below_drewN ?_ _ | with_reducible refine Below.drew ?_ | refine below_call0 ?_ (by assumption))) <;> (first | omega | (simp; done) | (simp; omega)))

set_option maxHeartbeats 2000000 in
theorem minus2_any (a b : Nat) (ha : a < R256) (hb : b < R256) (w : World) :
    Calls Tryd.prog 30 #[.agg #[.int .u64 (limb (a) 0 : Nat), .int .u64 (limb (a) 1 : Nat), .int .u64 (limb (a) 2 : Nat), .int .u64 (limb (a) 3 : Nat)], .agg #[.int .u64 (limb (b) 0 : Nat), .int .u64 (limb (b) 1 : Nat), .int .u64 (limb (b) 2 : Nat), .int .u64 (limb (b) 3 : Nat)]] w fun e w' => e = .returned (.agg #[.int .u64 (limb (subN a b) 0 : Nat), .int .u64 (limb (subN a b) 1 : Nat), .int .u64 (limb (subN a b) 2 : Nat), .int .u64 (limb (subN a b) 3 : Nat)]) ∧ Below w.heap.size w w' := by
  obtain ⟨l0, l1, l2, l3⟩ := sub_limbs a b ha hb
  have lk := (sub_join a b ha hb).2
  have HL : Hid _ := And.intro l0 (And.intro l1 (And.intro l2 (And.intro l3 lk)))
  have hc := chain_d a b
  clear l0 l1 l2 l3 lk
  go_enter Tryd.func30, Tryd.ntmps30
  go_wp2
  go_loopw [6, 7] (fun c i wr => ∃ k : Nat, k ≤ 4 ∧ i = .int .i64 k ∧ c = .int .u64 (chain subB (limb a) (limb b) k : Nat) ∧ (∀ j, j < 4 → wr.cell? ⟨w.heap.size + 1 + 1 + 1, j, none⟩ = some (.int .u64 (part subS subB (limb a) (limb b) k j))) ∧ (∀ j, j < 4 → wr.frozen? ⟨w.heap.size + 1 + 1 + 1, j, none⟩ = false) ∧ Num4 wr w.heap.size a ∧ Num4 wr (w.heap.size + 1) b ∧ Pend wr (w.heap.size + 1 + 1) ∧ Below w.heap.size w wr ∧ w.heap.size + 1 + 1 + 1 < wr.heap.size)
    (fun _ i _ => 4 - (intOf i).toNat)
  case atStart =>
    refine ⟨0, by omega, rfl, rfl, ?_, ?_, by ((repeat' (first | assumption | (refine Num4.new' ?_; first | omega | (simp; done)) | refine Num4.set ?_ ?_ | refine Num4.alloc ?_ ?_ | refine Num4.drewN ?_ | refine Num4.call ?_ (by assumption) ?_)) <;> (first | omega | (simp; done) | (simp; omega))), by ((repeat' (first | assumption | (refine Num4.new' ?_; first | omega | (simp; done)) | refine Num4.set ?_ ?_ | refine Num4.alloc ?_ ?_ | refine Num4.drewN ?_ | refine Num4.call ?_ (by assumption) ?_)) <;> (first | omega | (simp; done) | (simp; omega))), ?_, by ((repeat' (first | with_reducible exact Below.refl _ _ | with_reducible refine Below.setCell ?_ ?_ _ | with_reducible refine below_alloc0 ?_ _ | with_reducible refine below_drewN ?_ _ | with_reducible refine Below.drew ?_ | refine below_call0 ?_ (by assumption))) <;> (first | omega | (simp; done) | (simp; omega))), by simp⟩
    · refine limbs4 _ ?_ ?_ ?_ ?_ <;> simp [part, go_sem]
    · intro j hj
      simp [go_sem]
    · have h := Pend.new ((w.alloc (.cells #[.int .u64 (limb a 0 : Nat), .int .u64 (limb a 1 : Nat), .int .u64 (limb a 2 : Nat), .int .u64 (limb a 3 : Nat)] 27)).alloc (.cells #[.int .u64 (limb b 0 : Nat), .int .u64 (limb b 1 : Nat), .int .u64 (limb b 2 : Nat), .int .u64 (limb b 3 : Nat)] 27)) 27
      simp only [World.size_alloc] at h
      exact h.alloc
  case round =>
    obtain ⟨k, hk, rfl, rfl, hcell, hfr, hA, hB, hP, hbel, hsz⟩ := hrel
    by_cases hlt : k < 4
    · have ga := hA k hlt
      have gb := hB k hlt
      have gf := hfr k hlt
      have go := hcell k hlt
      have gc := hc k
      have A64 : ∀ w', (callFunc 40 #[.int .u64 (limb a k : Nat), .int .u64 (limb b k : Nat), .int .u64 (chain subB (limb a) (limb b) k : Nat)]).run Tryd.prog w' = .ok (.value (.tuple #[.int .u64 (subS (limb a k) (limb b k) (chain subB (limb a) (limb b) k) : Nat), .int .u64 (subB (limb a k) (limb b k) (chain subB (limb a) (limb b) k) : Nat)])) w' := fun w' => sub64 _ _ _ gc w'
      have hk0 : (0 : Int) ≤ (k : Int) := by omega
      have hk4 : (k : Int) < 4 := by omega
      have HC : Hid _ := hcell
      have HF : Hid _ := hfr
      have HN : Hid _ := And.intro hA (And.intro hB hP)
      clear hcell hfr hA hB hP hc
      go_wp2
      go_quiet (fail)
      go_wp2
      go_roundw
      case rel =>
        refine ⟨k + 1, by omega, by go_num, rfl, ?_, ?_, ?_, ?_, ?_, ?_, ?_⟩
        · intro j hj
          exact cell_step HC.out j hj nq
        · intro j hj
          rw [World.frozen?_setCell]
          exact HF.out j hj
        · exact (Num4.drewN HN.out.1).set (show w.heap.size + 1 + 1 + 1 ≠ w.heap.size by omega)
        · exact (Num4.drewN HN.out.2.1).set (show w.heap.size + 1 + 1 + 1 ≠ w.heap.size + 1 by omega)
        · exact (show Pend (wr.drewN nq) (w.heap.size + 1 + 1) from HN.out.2.2).set (show w.heap.size + 1 + 1 + 1 ≠ w.heap.size + 1 + 1 by omega)
        · exact (below_drewN hbel nq).setCell (show w.heap.size ≤ w.heap.size + 1 + 1 + 1 by omega) _
        · rw [World.size_setCell]; exact hsz
      case measure => simp [intOf]; omega
    · have g0 := hcell 0 (by omega)
      have g1 := hcell 1 (by omega)
      have g2 := hcell 2 (by omega)
      have g3 := hcell 3 (by omega)
      obtain ⟨⟨p0, p1, p2, p3⟩, ⟨f0, f1, f2, f3⟩, pz⟩ := hP.facts
      have hk4 : k = 4 := by omega
      subst hk4
      rw [part_done _ _ _ _ 0 (by omega)] at g0
      rw [part_done _ _ _ _ 1 (by omega)] at g1
      rw [part_done _ _ _ _ 2 (by omega)] at g2
      rw [part_done _ _ _ _ 3 (by omega)] at g3
      obtain ⟨l0, l1, l2, l3, lk⟩ := HL.out
      rw [l0] at g0
      rw [l1] at g1
      rw [l2] at g2
      rw [l3] at g3
      clear hA hB hcell hfr hP hc HL l0 l1 l2 l3 lk
      go_wp2
      refine bodyPost_ret (v := .agg #[.int .u64 (limb (subN a b) 0 : Nat), .int .u64 (limb (subN a b) 1 : Nat), .int .u64 (limb (subN a b) 2 : Nat), .int .u64 (limb (subN a b) 3 : Nat)]) ?_ rfl ⟨rfl, ?_⟩
      · simp [results, Tryd.results30, go_sem, p0, p1, p2, p3]
      · ((repeat' (first | with_reducible exact Below.refl _ _ | with_reducible refine Below.setCell ?_ ?_ _ | with_reducible refine below_alloc0 ?_ _ | with_reducible refine below_drewN ?_ _ | with_reducible refine Below.drew ?_ | refine below_call0 ?_ (by assumption))) <;> (first | omega | (simp; done) | (simp; omega)))

end Go.Proofs.YtbpgiijdcagckaaDoor
