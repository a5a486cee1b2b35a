/- The walk of the statement LimbProducts. -/
import Derived.Test.YtpedidldhlldfaaWideR
import Derived.Test.YtpedidldhlldfaaTimes
import Derived.Test.YtpedidldhlldfaaDgs
import Derived.Test.YtpedidldhlldfaaEq8
import Derived.Deep.RegionHeld3
namespace Go.Proofs.Ytpedidldhlldfaa
open Go.RowKit
attribute [local go_sem] run_eq8

theorem limb_two : limb 2 0 = 2 ∧ limb 2 1 = 0 ∧ limb 2 2 = 0 ∧ limb 2 3 = 0 := by decide
theorem most_two : limb ((R256 - 1) * 2) 0 = 18446744073709551614 ∧ limb ((R256 - 1) * 2) 1 = 18446744073709551615 ∧ limb ((R256 - 1) * 2) 2 = 18446744073709551615 ∧ limb ((R256 - 1) * 2) 3 = 18446744073709551615 ∧ limb ((R256 - 1) * 2) 4 = 1 ∧ limb ((R256 - 1) * 2) 5 = 0 ∧ limb ((R256 - 1) * 2) 6 = 0 ∧ limb ((R256 - 1) * 2) 7 = 0 := by decide

set_option maxHeartbeats 2000000 in
theorem limbProducts_any (a b : Nat) (ha : a < R256) (hb : b < R256) (w : World) : Calls Try.prog 4 #[.agg #[.int .u64 (limb (a) 0 : Nat), .int .u64 (limb (a) 1 : Nat), .int .u64 (limb (a) 2 : Nat), .int .u64 (limb (a) 3 : Nat)], .agg #[.int .u64 (limb (b) 0 : Nat), .int .u64 (limb (b) 1 : Nat), .int .u64 (limb (b) 2 : Nat), .int .u64 (limb (b) 3 : Nat)]] w fun e w' => e = .returned (.bool true) ∧ Below w.heap.size w w' := by
  obtain ⟨p0, hp0⟩ : ∃ p0, p0 = a * b := ⟨_, rfl⟩
  have k1 : ∀ w, Calls Try.prog 16 #[.agg #[.int .u64 (limb (a) 0 : Nat), .int .u64 (limb (a) 1 : Nat), .int .u64 (limb (a) 2 : Nat), .int .u64 (limb (a) 3 : Nat)], .agg #[.int .u64 (limb (b) 0 : Nat), .int .u64 (limb (b) 1 : Nat), .int .u64 (limb (b) 2 : Nat), .int .u64 (limb (b) 3 : Nat)]] w fun e w' => e = .returned (.agg #[.int .u64 (limb (p0) 0 : Nat), .int .u64 (limb (p0) 1 : Nat), .int .u64 (limb (p0) 2 : Nat), .int .u64 (limb (p0) 3 : Nat), .int .u64 (limb (p0) 4 : Nat), .int .u64 (limb (p0) 5 : Nat), .int .u64 (limb (p0) 6 : Nat), .int .u64 (limb (p0) 7 : Nat)]) ∧ Below w.heap.size w w' := fun w => by
    have g := mul_any a b ha hb w
    rw [← hp0] at g
    exact g
  have K1 : Hid _ := k1
  have k2 : ∀ w, Calls Try.prog 19 #[] w fun e w' => e = .returned (.agg #[.int .u64 18446744073709551615, .int .u64 18446744073709551615, .int .u64 18446744073709551615, .int .u64 18446744073709551615]) ∧ Below w.heap.size w w' := fun w => by
    have g := most_any w
    obtain ⟨l0, l1, l2, l3⟩ := limb_most
    rw [l0, l1, l2, l3] at g
    exact g
  have K2 : Hid _ := k2
  have k3 : ∀ w, Calls Try.prog 16 #[.agg #[.int .u64 18446744073709551615, .int .u64 18446744073709551615, .int .u64 18446744073709551615, .int .u64 18446744073709551615], .agg #[.int .u64 2, .int .u64 0, .int .u64 0, .int .u64 0]] w fun e w' => e = .returned (.agg #[.int .u64 18446744073709551614, .int .u64 18446744073709551615, .int .u64 18446744073709551615, .int .u64 18446744073709551615, .int .u64 1, .int .u64 0, .int .u64 0, .int .u64 0]) ∧ Below w.heap.size w w' := fun w => by
    have g := mul_any (R256 - 1) 2 (by decide) (by decide) w
    obtain ⟨l0, l1, l2, l3⟩ := limb_most
    obtain ⟨m0, m1, m2, m3⟩ := limb_two
    obtain ⟨n0, n1, n2, n3, n4, n5, n6, n7⟩ := most_two
    rw [l0, l1, l2, l3, m0, m1, m2, m3, n0, n1, n2, n3, n4, n5, n6, n7] at g
    exact g
  have K3 : Hid _ := k3
  have HN : Hid (∀ l : List Nat, l.length = 16 + 16 → dval l = a * b → dpre l 32 = p0) := fun l h1 h2 => by rw [dpre_eq l 32 (by omega), h2, hp0]
  have HE : Hid (_ ∧ _) := ⟨dval_digL16 a ha, dval_digL16 b hb⟩
  have q1 : eq8 (limb p0 0 : Nat) (limb p0 1 : Nat) (limb p0 2 : Nat) (limb p0 3 : Nat) (limb p0 4 : Nat) (limb p0 5 : Nat) (limb p0 6 : Nat) (limb p0 7 : Nat) (limb p0 0 : Nat) (limb p0 1 : Nat) (limb p0 2 : Nat) (limb p0 3 : Nat) (limb p0 4 : Nat) (limb p0 5 : Nat) (limb p0 6 : Nat) (limb p0 7 : Nat) = true := eq8_self _ _ _ _ _ _ _ _
  have q2 : eq8 18446744073709551614 18446744073709551615 18446744073709551615 18446744073709551615 1 0 0 0 18446744073709551614 18446744073709551615 18446744073709551615 18446744073709551615 1 0 0 0 = true := by decide
  clear k1 k2 k3 hp0
  go_enter Try.func4, Try.ntmps4
  go_wp2_with fail
  obtain ⟨X, hX⟩ : ∃ X, X = (w.alloc (.cells #[.int .u64 (limb a 0 : Nat), .int .u64 (limb a 1 : Nat), .int .u64 (limb a 2 : Nat), .int .u64 (limb a 3 : Nat)] 24)).alloc (.cells #[.int .u64 (limb b 0 : Nat), .int .u64 (limb b 1 : Nat), .int .u64 (limb b 2 : Nat), .int .u64 (limb b 3 : Nat)] 24) := ⟨_, rfl⟩
  rw [← hX]
  have AX : Num4 X w.heap.size a := by rw [hX]; ((repeat' (first | assumption | (refine Num4.new' ?_; first | omega | (simp; done)) | refine Num4.set ?_ ?_ | refine Num4.alloc ?_ ?_ | refine Num4.drewN ?_ | refine Num4.call ?_ (by assumption) ?_)) <;> (first | omega | (simp; done) | (simp; omega)))
  have BX : Num4 X (w.heap.size + 1) b := by rw [hX]; ((repeat' (first | assumption | (refine Num4.new' ?_; first | omega | (simp; done)) | refine Num4.set ?_ ?_ | refine Num4.alloc ?_ ?_ | refine Num4.drewN ?_ | refine Num4.call ?_ (by assumption) ?_)) <;> (first | omega | (simp; done) | (simp; omega)))
  have WX : Below w.heap.size w X := by rw [hX]; ((repeat' (first | with_reducible exact Below.refl _ _ | with_reducible refine Below.setCell ?_ ?_ _ | with_reducible refine below_alloc0 ?_ _ | with_reducible refine below_drewN ?_ _ | with_reducible refine Below.drew ?_ | refine below_call0 ?_ (by assumption))) <;> (first | omega | (simp; done) | (simp; omega)))
  have zx : w.heap.size + 1 < X.heap.size := by rw [hX]; simp
  clear hX
  have KS : ∀ w', Below X.heap.size X w' → (Below X.heap.size X w' ∧ (w'.cell? ⟨w.heap.size, 0, none⟩ = some (.int .u64 (limb (a) 0 : Nat)) ∧ w'.cell? ⟨w.heap.size, 1, none⟩ = some (.int .u64 (limb (a) 1 : Nat)) ∧ w'.cell? ⟨w.heap.size, 2, none⟩ = some (.int .u64 (limb (a) 2 : Nat)) ∧ w'.cell? ⟨w.heap.size, 3, none⟩ = some (.int .u64 (limb (a) 3 : Nat))) ∧ (w'.cell? ⟨w.heap.size + 1, 0, none⟩ = some (.int .u64 (limb (b) 0 : Nat)) ∧ w'.cell? ⟨w.heap.size + 1, 1, none⟩ = some (.int .u64 (limb (b) 1 : Nat)) ∧ w'.cell? ⟨w.heap.size + 1, 2, none⟩ = some (.int .u64 (limb (b) 2 : Nat)) ∧ w'.cell? ⟨w.heap.size + 1, 3, none⟩ = some (.int .u64 (limb (b) 3 : Nat)))) := fun w' h =>
    ⟨h, (AX.call h (by omega)).facts, (BX.call h (by omega)).facts⟩
  have HK : Hid _ := KS
  clear KS AX BX
  go_region_held3 (fun w' => Below X.heap.size X w' ∧ (w'.cell? ⟨w.heap.size, 0, none⟩ = some (.int .u64 (limb (a) 0 : Nat)) ∧ w'.cell? ⟨w.heap.size, 1, none⟩ = some (.int .u64 (limb (a) 1 : Nat)) ∧ w'.cell? ⟨w.heap.size, 2, none⟩ = some (.int .u64 (limb (a) 2 : Nat)) ∧ w'.cell? ⟨w.heap.size, 3, none⟩ = some (.int .u64 (limb (a) 3 : Nat))) ∧ (w'.cell? ⟨w.heap.size + 1, 0, none⟩ = some (.int .u64 (limb (b) 0 : Nat)) ∧ w'.cell? ⟨w.heap.size + 1, 1, none⟩ = some (.int .u64 (limb (b) 1 : Nat)) ∧ w'.cell? ⟨w.heap.size + 1, 2, none⟩ = some (.int .u64 (limb (b) 2 : Nat)) ∧ w'.cell? ⟨w.heap.size + 1, 3, none⟩ = some (.int .u64 (limb (b) 3 : Nat))))
    ((refine HK.out _ ?_; ((repeat' (first | with_reducible exact Below.refl _ _ | exact (And.left (by assumption)) | with_reducible refine Below.setCell ?_ ?_ _ | with_reducible refine below_alloc0 ?_ _ | with_reducible refine below_drewN ?_ _ | with_reducible refine Below.drew ?_ | refine below_call0 ?_ (by assumption))) <;> (first | omega | (simp; done) | (simp; omega)))))
    (first
      | (go_at_call_of 16 (Value.int .u64 (limb a 0 : Nat)); refine (K1.out _).mono ?_; rintro e w' ⟨rfl, hq⟩)
      | (go_at_call_of 12 (Value.int .u64 (limb a 0 : Nat)); refine (digits_any a _).mono ?_; rintro e w' ⟨va, rfl, da, hq⟩)
      | (go_at_call_of 12 (Value.int .u64 (limb b 0 : Nat)); refine (digits_any b _).mono ?_; rintro e w' ⟨vb, rfl, db, hq⟩; have da' := Dg.call ‹Dg _ _ (digL a 16)› hq)
      | (go_at_call 18; refine (times_ref _ _ (digL a 16) (digL b 16) (digL_ok a 16) (digL_ok b 16) (by rw [digL_length]; omega) (by rw [digL_length]; omega) _ ‹Dg _ _ (digL a 16)› ‹Dg _ _ (digL b 16)›).mono ?_; rintro e w' ⟨x, l, rfl, dx, ⟨lok, llen, lval⟩, hq⟩; rw [HE.out.1, HE.out.2] at lval; rw [digL_length, digL_length] at llen; have ll := HN.out l llen lval; have HX : Hid _ := And.intro lok (And.intro dx ll); clear llen lval lok dx ll)
      | (go_at_call 17; have KW := wide_ref _ _ HX.out.1 _ HX.out.2.1; rw [HX.out.2.2] at KW; refine KW.mono ?_; clear KW; rintro e w' ⟨rfl, hq⟩)
      | (go_at_call 19; refine (K2.out _).mono ?_; rintro e w' ⟨rfl, hq⟩)
      | (go_at_call_of 16 (Value.int .u64 2); refine (K3.out _).mono ?_; rintro e w' ⟨rfl, hq⟩))
  go_wp2
  go_ret
  exact ⟨rfl, below_call0 WX (And.left (by assumption))⟩
end Go.Proofs.Ytpedidldhlldfaa
