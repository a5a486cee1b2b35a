/- field.Field.Pow, at a number of the field. -/
import Derived.Test.YtglifkfkcepllaaDoorFieldV
namespace Go.Proofs.YtglifkfkcepllaaDoor
open Go.RowKit

set_option maxHeartbeats 2000000 in
theorem fpow_in (g m a b r : Nat) (hF : FM m) (ha : a < m) (he : b < R256) (hr : r = a ^ b % m) (w : World) (hM : FieldB w g m) :
    Calls Tryd.prog 26 #[.pointer (some ⟨g, 0, none⟩), .agg #[.int .u64 (limb (a) 0 : Nat), .int .u64 (limb (a) 1 : Nat), .int .u64 (limb (a) 2 : Nat), .int .u64 (limb (a) 3 : Nat)], .agg #[.int .u64 (limb (b) 0 : Nat), .int .u64 (limb (b) 1 : Nat), .int .u64 (limb (b) 2 : Nat), .int .u64 (limb (b) 3 : Nat)]] w fun e w' => e = .returned (.tuple #[.agg #[.int .u64 (limb (r) 0 : Nat), .int .u64 (limb (r) 1 : Nat), .int .u64 (limb (r) 2 : Nat), .int .u64 (limb (r) 3 : Nat)], .int .i64 0]) ∧ Below w.heap.size w w' := by
  have mR := hF.2.1
  have k3 := fun (w : World) (h : FieldB w g m) => power_any g m a b hF ha he w h
  rw [← hr] at k3
  have K1 : Hid _ := fun (w : World) (h : FieldB w g m) => check_in g m a (by omega) mR ha w h
  have K3 : Hid _ := k3
  have HM : Hid _ := hM
  clear k3 hM ha he hr mR hF
  go_enter Tryd.func26, Tryd.ntmps26
  go_wp2_with fail
  refine (K1.out _ (FieldB.alloc (FieldB.alloc (FieldB.alloc HM.out)))).mono ?_
  rintro e w1 ⟨rfl, hb1⟩
  have hz1 := hb1.size
  try simp only [World.size_alloc] at hz1
  have P1 := Pend.call_new hb1
  simp only [World.size_alloc] at P1
  have A1 : Num4 w1 w.heap.size a := by ((repeat' (first | assumption | (refine Num4.new' ?_; first | omega | (simp; done)) | refine Num4.set ?_ ?_ | refine Num4.alloc ?_ ?_ | refine Num4.drewN ?_ | refine Num4.call ?_ (by assumption) ?_)) <;> (first | omega | (simp; done) | (simp; omega)))
  have E1 : Num4 w1 (w.heap.size + 1) b := by ((repeat' (first | assumption | (refine Num4.new' ?_; first | omega | (simp; done)) | refine Num4.set ?_ ?_ | refine Num4.alloc ?_ ?_ | refine Num4.drewN ?_ | refine Num4.call ?_ (by assumption) ?_)) <;> (first | omega | (simp; done) | (simp; omega)))
  have M1 : FieldB w1 g m := (FieldB.alloc (FieldB.alloc (FieldB.alloc HM.out))).call hb1
  have W1 : Below w.heap.size w w1 := by ((repeat' (first | with_reducible exact Below.refl _ _ | with_reducible refine Below.setCell ?_ ?_ _ | with_reducible refine below_alloc0 ?_ _ | with_reducible refine below_drewN ?_ _ | with_reducible refine Below.drew ?_ | refine below_call0 ?_ (by assumption))) <;> (first | omega | (simp; done) | (simp; omega)))
  have z1 : w.heap.size + 1 + 1 < w1.heap.size := by omega
  clear hb1 hz1 K1 HM
  obtain ⟨a0, a1, a2, a3⟩ := A1.facts
  obtain ⟨e0, e1, e2, e3⟩ := E1.facts
  have y1 : w.heap.size < w1.heap.size := by omega
  have y2 : w.heap.size + 1 < w1.heap.size := by omega
  have HM1 : Hid (FieldB w1 g m) := M1
  have HP1 : Hid (Pend w1 (w.heap.size + 1 + 1)) := P1
  clear M1 P1
  go_wp2_with fail
  refine (K3.out _ HM1.out).mono ?_
  rintro e w3 ⟨rfl, hb3⟩
  have P3 := HP1.out.call hb3
  have W3 : Below w.heap.size w w3 := below_call0 W1 hb3
  obtain ⟨⟨p0, p1, p2, p3⟩, ⟨f0, f1, f2, f3⟩, pz⟩ := P3.facts
  clear hb3 K3 W1 A1 E1 a0 a1 a2 a3 e0 e1 e2 e3
  go_wp2
  refine bodyPost_ret (v := .tuple #[.agg #[.int .u64 (limb (r) 0 : Nat), .int .u64 (limb (r) 1 : Nat), .int .u64 (limb (r) 2 : Nat), .int .u64 (limb (r) 3 : Nat)], .int .i64 0]) ?_ rfl ⟨rfl, ?_⟩
  · simp [results, Tryd.results26, go_sem, p0, p1, p2, p3]
  · ((repeat' (first | with_reducible exact Below.refl _ _ | with_reducible refine Below.setCell ?_ ?_ _ | with_reducible refine below_alloc0 ?_ _ | with_reducible refine below_drewN ?_ _ | with_reducible refine Below.drew ?_ | refine below_call0 ?_ (by assumption))) <;> (first | omega | (simp; done) | (simp; omega)))
end Go.Proofs.YtglifkfkcepllaaDoor
