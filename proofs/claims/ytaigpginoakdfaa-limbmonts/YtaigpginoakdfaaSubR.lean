/- wardmoteref01.Sub: the difference and its borrow, by the reference's digits. -/
import Derived.Test.YtaigpginoakdfaaNumR
import Derived.Test.YtaigpginoakdfaaPlus
import Derived.Test.YtaigpginoakdfaaMinus
import Derived.Test.YtaigpginoakdfaaDgs
namespace Go.Proofs.Ytaigpginoakdfaa
open Go.RowKit

theorem dpre16 {l : List Nat} (h : dval l < R256) : dpre l 16 = dval l := by
  obtain ⟨r, hr⟩ := dpre_split l 16
  have e : (65536 : Nat) ^ 16 = R256 := by decide
  rw [e] at hr
  rcases Nat.eq_zero_or_pos r with z | z
  · subst z; omega
  · have : R256 * 1 ≤ R256 * r := Nat.mul_le_mul_left _ z
    omega
def overL : List Nat := [0, 0, 0, 0, 0, 0, 0, 0, 0, 0, 0, 0, 0, 0, 0, 0, 1]
theorem overL_ok : Dok overL := by unfold Dok overL; decide
theorem overL_val : dval overL = R256 := by decide
theorem overL_dg (w : World) : Dg (w.alloc (.cells #[.int .i64 0, .int .i64 0, .int .i64 0, .int .i64 0, .int .i64 0, .int .i64 0, .int .i64 0, .int .i64 0, .int .i64 0, .int .i64 0, .int .i64 0, .int .i64 0, .int .i64 0, .int .i64 0, .int .i64 0, .int .i64 0, .int .i64 1] 3)) (.slice (some ⟨w.heap.size, 0, none⟩) 17 17) overL := by
  refine Or.inr ⟨w.heap.size, 17, rfl, by simp, ?_⟩
  intro j hj
  have hj' : j < 17 := hj
  rw [World.cell?_alloc_new]
  have all : ∀ j, j < 17 → (#[Value.int .i64 0, .int .i64 0, .int .i64 0, .int .i64 0, .int .i64 0, .int .i64 0, .int .i64 0, .int .i64 0, .int .i64 0, .int .i64 0, .int .i64 0, .int .i64 0, .int .i64 0, .int .i64 0, .int .i64 0, .int .i64 0, .int .i64 1] : Array Value)[j]? = some (.int .i64 (dget overL j : Nat)) := by
    intro j hj
    match j, hj with
    | 0, _ | 1, _ | 2, _ | 3, _ | 4, _ | 5, _ | 6, _ | 7, _ | 8, _ | 9, _ | 10, _ | 11, _ | 12, _ | 13, _ | 14, _ | 15, _ | 16, _ => rfl
    | n + 17, h => exact absurd h (by omega)
  exact all j hj'

set_option maxRecDepth 100000 in
set_option maxHeartbeats 1000000 in
theorem sub_ref_ge (a b : Nat) (ha : a < R256) (hb : b < R256) (h : b ≤ a) (w : World) :
    Calls Try.prog 13 #[.agg #[.int .u64 (limb (a) 0 : Nat), .int .u64 (limb (a) 1 : Nat), .int .u64 (limb (a) 2 : Nat), .int .u64 (limb (a) 3 : Nat)], .agg #[.int .u64 (limb (b) 0 : Nat), .int .u64 (limb (b) 1 : Nat), .int .u64 (limb (b) 2 : Nat), .int .u64 (limb (b) 3 : Nat)]] w fun e w' => e = .returned (.tuple #[.agg #[.int .u64 (limb (subN a b) 0 : Nat), .int .u64 (limb (subN a b) 1 : Nat), .int .u64 (limb (subN a b) 2 : Nat), .int .u64 (limb (subN a b) 3 : Nat)], .int .u64 0]) ∧ Below w.heap.size w w' := by
  have HV : Hid (subN a b = a - b) := by
    show _ = _
    unfold subN
    rw [show a + R256 - b = (a - b) + R256 from by omega, Nat.add_mod_right, Nat.mod_eq_of_lt (by omega)]
  have c0 : 0 ≤ cmpN a b := by unfold cmpN; split <;> (try split) <;> omega
  have d0 : decide (0 ≤ cmpN a b) = true := by simpa using c0
  go_enter Try.func13, Try.ntmps13
  go_wp2_with fail
  refine (digits_any a _).mono ?_
  rintro e w1 ⟨v1, rfl, d1, hb1⟩
  have hz1 := hb1.size
  have P1 := Pend.call_new hb1
  simp only [World.size_alloc] at hz1 P1
  have B1 : Num4 w1 (w.heap.size + 1) b := by ((repeat' (first | assumption | (refine Num4.new' ?_; first | omega | (simp; done)) | refine Num4.set ?_ ?_ | refine Num4.alloc ?_ ?_ | refine Num4.drewN ?_ | refine Num4.call ?_ (by assumption) ?_)) <;> (first | omega | (simp; done) | (simp; omega)))
  obtain ⟨b10, b11, b12, b13⟩ := B1.facts
  have y1 : w.heap.size + 1 < w1.heap.size := by omega
  go_wp2_with fail
  refine (digits_any b _).mono ?_
  rintro e w2 ⟨v2, rfl, d2, hb2⟩
  have P2 := P1.call hb2
  have d1' := d1.call hb2
  go_wp2_with fail
  refine (compare_any _ _ (digL a 16) (digL b 16) (digL_ok a 16) (digL_ok b 16) (by rw [digL_length]; omega) (by rw [digL_length]; omega) _ d1' d2).mono ?_
  rw [dval_digL16 a ha, dval_digL16 b hb]
  rintro e w' ⟨rfl, rfl⟩
  go_wp2_with fail
  refine (minus_ref _ _ (digL a 16) (digL b 16) (digL_ok a 16) (digL_ok b 16) (by rw [digL_length]; omega) (by rw [dval_digL16 a ha, dval_digL16 b hb]; exact h) _ d1' d2).mono ?_
  rintro e w3 ⟨v3, l, rfl, d3, ⟨lok, lval, _⟩, hb3⟩
  rw [dval_digL16 a ha, dval_digL16 b hb] at lval
  have P3 := P2.call hb3
  go_wp2_with fail
  refine (num_ref v3 l lok _ d3).mono ?_
  rw [dpre16 (by rw [lval]; omega), lval, ← HV.out]
  rintro e w4 ⟨rfl, hb4⟩
  have P4 := P3.call hb4
  obtain ⟨⟨p0, p1, p2, p3⟩, ⟨f0, f1, f2, f3⟩, pz⟩ := P4.facts
  go_wp2
  refine bodyPost_ret (v := .tuple #[.agg #[.int .u64 (limb (subN a b) 0 : Nat), .int .u64 (limb (subN a b) 1 : Nat), .int .u64 (limb (subN a b) 2 : Nat), .int .u64 (limb (subN a b) 3 : Nat)], .int .u64 0]) ?_ rfl ⟨rfl, ?_⟩
  · simp [results, Try.results13, go_sem, p0, p1, p2, p3]
  · ((repeat' (first | with_reducible exact Below.refl _ _ | with_reducible refine Below.setCell ?_ ?_ _ | with_reducible refine below_alloc0 ?_ _ | with_reducible refine below_drewN ?_ _ | with_reducible refine Below.drew ?_ | refine below_call0 ?_ (by assumption))) <;> (first | omega | (simp; done) | (simp; omega)))

set_option maxRecDepth 100000 in
set_option maxHeartbeats 1000000 in
theorem sub_ref_lt (a b : Nat) (ha : a < R256) (hb : b < R256) (h : a < b) (w : World) :
    Calls Try.prog 13 #[.agg #[.int .u64 (limb (a) 0 : Nat), .int .u64 (limb (a) 1 : Nat), .int .u64 (limb (a) 2 : Nat), .int .u64 (limb (a) 3 : Nat)], .agg #[.int .u64 (limb (b) 0 : Nat), .int .u64 (limb (b) 1 : Nat), .int .u64 (limb (b) 2 : Nat), .int .u64 (limb (b) 3 : Nat)]] w fun e w' => e = .returned (.tuple #[.agg #[.int .u64 (limb (subN a b) 0 : Nat), .int .u64 (limb (subN a b) 1 : Nat), .int .u64 (limb (subN a b) 2 : Nat), .int .u64 (limb (subN a b) 3 : Nat)], .int .u64 1]) ∧ Below w.heap.size w w' := by
  have HV : Hid (subN a b = a + R256 - b) := by
    show _ = _
    unfold subN
    rw [Nat.mod_eq_of_lt (by omega)]
  have c0 : cmpN a b < 0 := by rw [cmpN_lt h]; decide
  have d0 : decide (0 ≤ cmpN a b) = false := by simp; omega
  have hmk : ∀ w, (Instr.makeSlice 27 (.int .i64 17) (.int .i64 17)).run Try.prog w = .ok (.slice (some ⟨w.heap.size, 0, none⟩) 17 17) (w.alloc (.cells #[.int .i64 0, .int .i64 0, .int .i64 0, .int .i64 0, .int .i64 0, .int .i64 0, .int .i64 0, .int .i64 0, .int .i64 0, .int .i64 0, .int .i64 0, .int .i64 0, .int .i64 0, .int .i64 0, .int .i64 0, .int .i64 0, .int .i64 0] 3)) := fun _ => by kernel_rfl
  go_enter Try.func13, Try.ntmps13
  go_wp2_with fail
  refine (digits_any a _).mono ?_
  rintro e w1 ⟨v1, rfl, d1, hb1⟩
  have hz1 := hb1.size
  have P1 := Pend.call_new hb1
  simp only [World.size_alloc] at hz1 P1
  have B1 : Num4 w1 (w.heap.size + 1) b := by ((repeat' (first | assumption | (refine Num4.new' ?_; first | omega | (simp; done)) | refine Num4.set ?_ ?_ | refine Num4.alloc ?_ ?_ | refine Num4.drewN ?_ | refine Num4.call ?_ (by assumption) ?_)) <;> (first | omega | (simp; done) | (simp; omega)))
  obtain ⟨b10, b11, b12, b13⟩ := B1.facts
  have y1 : w.heap.size + 1 < w1.heap.size := by omega
  go_wp2_with fail
  refine (digits_any b _).mono ?_
  rintro e w2 ⟨v2, rfl, d2, hb2⟩
  have P2 := P1.call hb2
  have d1' := d1.call hb2
  go_wp2_with fail
  refine (compare_any _ _ (digL a 16) (digL b 16) (digL_ok a 16) (digL_ok b 16) (by rw [digL_length]; omega) (by rw [digL_length]; omega) _ d1' d2).mono ?_
  rw [dval_digL16 a ha, dval_digL16 b hb]
  rintro e w' ⟨rfl, rfl⟩
  go_wp2_with fail
  refine (plus_ref _ _ (digL a 16) overL (digL_ok a 16) overL_ok (by rw [digL_length]; omega) (by decide) _ (d1'.alloc _) (overL_dg _)).mono ?_
  rintro e w3 ⟨v3, l, rfl, d3, ⟨lok, lval, llen⟩, hb3⟩
  rw [dval_digL16 a ha, overL_val] at lval
  rw [digL_length, show overL.length = 17 from rfl] at llen
  have P3 := P2.alloc.call hb3
  have d2' := (d2.alloc _).call hb3
  go_wp2_with fail
  refine (minus_ref _ _ l (digL b 16) lok (digL_ok b 16) (by omega) (by rw [lval, dval_digL16 b hb]; omega) _ d3 d2').mono ?_
  rintro e w4 ⟨v4, l4, rfl, d4, ⟨lok4, lval4, _⟩, hb4⟩
  rw [lval, dval_digL16 b hb] at lval4
  have P4 := P3.call hb4
  go_wp2_with fail
  refine (num_ref v4 l4 lok4 _ d4).mono ?_
  rw [dpre16 (by rw [lval4]; omega), lval4, ← HV.out]
  rintro e w5 ⟨rfl, hb5⟩
  have P5 := P4.call hb5
  obtain ⟨⟨p0, p1, p2, p3⟩, ⟨f0, f1, f2, f3⟩, pz⟩ := P5.facts
  go_wp2
  refine bodyPost_ret (v := .tuple #[.agg #[.int .u64 (limb (subN a b) 0 : Nat), .int .u64 (limb (subN a b) 1 : Nat), .int .u64 (limb (subN a b) 2 : Nat), .int .u64 (limb (subN a b) 3 : Nat)], .int .u64 1]) ?_ rfl ⟨rfl, ?_⟩
  · simp [results, Try.results13, go_sem, p0, p1, p2, p3]
  · ((repeat' (first | with_reducible exact Below.refl _ _ | with_reducible refine Below.setCell ?_ ?_ _ | with_reducible refine below_alloc0 ?_ _ | with_reducible refine below_drewN ?_ _ | with_reducible refine Below.drew ?_ | refine below_call0 ?_ (by assumption))) <;> (first | omega | (simp; done) | (simp; omega)))

theorem sub_ref (a b : Nat) (ha : a < R256) (hb : b < R256) (w : World) :
    Calls Try.prog 13 #[.agg #[.int .u64 (limb (a) 0 : Nat), .int .u64 (limb (a) 1 : Nat), .int .u64 (limb (a) 2 : Nat), .int .u64 (limb (a) 3 : Nat)], .agg #[.int .u64 (limb (b) 0 : Nat), .int .u64 (limb (b) 1 : Nat), .int .u64 (limb (b) 2 : Nat), .int .u64 (limb (b) 3 : Nat)]] w fun e w' => e = .returned (.tuple #[.agg #[.int .u64 (limb (subN a b) 0 : Nat), .int .u64 (limb (subN a b) 1 : Nat), .int .u64 (limb (subN a b) 2 : Nat), .int .u64 (limb (subN a b) 3 : Nat)], .int .u64 (subK a b)]) ∧ Below w.heap.size w w' := by
  by_cases h : a < b
  · rw [show subK a b = 1 from if_pos h]; exact sub_ref_lt a b ha hb h w
  · rw [show subK a b = 0 from if_neg h]; exact sub_ref_ge a b ha hb (by omega) w
end Go.Proofs.Ytaigpginoakdfaa
