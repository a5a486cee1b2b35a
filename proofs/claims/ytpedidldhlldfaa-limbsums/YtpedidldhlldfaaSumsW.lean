/- The walk of the statement LimbSums. -/
import Derived.Test.YtpedidldhlldfaaSubR
import Derived.Test.YtpedidldhlldfaaTurns
import Derived.Deep.RegionHeld3
namespace Go.Proofs.Ytpedidldhlldfaa
open Go.RowKit
attribute [local go_sem] run_eq4

theorem dpre16_mod {l : List Nat} (h : Dok l) : dpre l 16 = dval l % R256 := by
  obtain ⟨r, hr⟩ := dpre_split l 16
  have e : (65536 : Nat) ^ 16 = R256 := by decide
  have lt := dpre_lt h 16
  rw [e] at hr lt
  rw [hr, Nat.add_mul_mod_self_left, Nat.mod_eq_of_lt lt]
theorem sum_len {a b : Nat} {l : List Nat} (h : Dok l) (hv : dval l = a + b) (hl : l.length = 16 ∨ l.length = 17 ∧ 65536 ^ 16 ≤ dval l) : l.length = 16 + (if a + b < R256 then 0 else 1) := by
  have e : (65536 : Nat) ^ 16 = R256 := by decide
  have lt := dval_lt l h
  rw [e] at hl
  split
  · rcases hl with hl | ⟨_, hl⟩ <;> omega
  · rcases hl with hl | ⟨hl, _⟩
    · rw [hl, e] at lt; omega
    · omega

set_option maxHeartbeats 2000000 in
theorem sums_0 (a b : Nat) (ha : a < R256) (hb : b < R256) (h : a + b < R256) (w : World) : Calls Try.prog 3 #[.agg #[.int .u64 (limb (a) 0 : Nat), .int .u64 (limb (a) 1 : Nat), .int .u64 (limb (a) 2 : Nat), .int .u64 (limb (a) 3 : Nat)], .agg #[.int .u64 (limb (b) 0 : Nat), .int .u64 (limb (b) 1 : Nat), .int .u64 (limb (b) 2 : Nat), .int .u64 (limb (b) 3 : Nat)]] w fun e w' => e = .returned (.bool true) ∧ Below w.heap.size w w' := by
  obtain ⟨s0, hs0⟩ : ∃ s0, s0 = addN a b := ⟨_, rfl⟩
  obtain ⟨d0, hd0⟩ : ∃ d0, d0 = subN a b := ⟨_, rfl⟩
  obtain ⟨j0, hj0⟩ : ∃ j0, j0 = subK a b := ⟨_, rfl⟩
  have k1 : ∀ w, Calls Try.prog 9 #[.agg #[.int .u64 (limb (a) 0 : Nat), .int .u64 (limb (a) 1 : Nat), .int .u64 (limb (a) 2 : Nat), .int .u64 (limb (a) 3 : Nat)], .agg #[.int .u64 (limb (b) 0 : Nat), .int .u64 (limb (b) 1 : Nat), .int .u64 (limb (b) 2 : Nat), .int .u64 (limb (b) 3 : Nat)]] w fun e w' => e = .returned (.tuple #[.agg #[.int .u64 (limb (s0) 0 : Nat), .int .u64 (limb (s0) 1 : Nat), .int .u64 (limb (s0) 2 : Nat), .int .u64 (limb (s0) 3 : Nat)], .int .u64 0]) ∧ Below w.heap.size w w' := fun w => by
    have g := add_any a b ha hb w
    rw [show addK a b = 0 from Nat.div_eq_of_lt h, ← hs0] at g
    exact g
  have K1 : Hid _ := k1
  have k2 := fun w => sub_any a b ha hb w
  have k3 := fun w => sub_ref a b ha hb w
  rw [← hd0, ← hj0] at k2 k3
  have K2 : Hid _ := k2
  have K3 : Hid _ := k3
  have HL : Hid (∀ l : List Nat, Dok l → dval l = a + b → (l.length = 16 ∨ l.length = 17 ∧ 65536 ^ 16 ≤ dval l) → l.length = 16) := fun l h1 h2 h3 => by rw [sum_len h1 h2 h3, if_pos h]
  have HN : Hid (∀ l : List Nat, Dok l → dval l = a + b → dpre l 16 = s0) := fun l h1 h2 => by rw [dpre16_mod h1, h2, hs0]; rfl
  have qs : eq4 (limb (s0) 0 : Nat) (limb (s0) 1 : Nat) (limb (s0) 2 : Nat) (limb (s0) 3 : Nat) (limb (s0) 0 : Nat) (limb (s0) 1 : Nat) (limb (s0) 2 : Nat) (limb (s0) 3 : Nat) = true := by simp [eq4]
  have qd : eq4 (limb (d0) 0 : Nat) (limb (d0) 1 : Nat) (limb (d0) 2 : Nat) (limb (d0) 3 : Nat) (limb (d0) 0 : Nat) (limb (d0) 1 : Nat) (limb (d0) 2 : Nat) (limb (d0) 3 : Nat) = true := by simp [eq4]
  have ea := dval_digL16 a ha
  have eb := dval_digL16 b hb
  have HE : Hid (_ ∧ _) := ⟨ea, eb⟩
  clear k1 k2 k3 h ea eb hs0 hd0 hj0
  go_enter Try.func3, Try.ntmps3
  go_wp2_with fail
  refine (K1.out _).mono ?_
  rintro e w1 ⟨rfl, hb1⟩
  have hz1 := hb1.size
  try simp only [World.size_alloc] at hz1
  have A1 : Num4 w1 w.heap.size a := by ((repeat' (first | assumption | (refine Num4.new' ?_; first | omega | (simp; done)) | refine Num4.set ?_ ?_ | refine Num4.alloc ?_ ?_ | refine Num4.drewN ?_ | refine Num4.call ?_ (by assumption) ?_)) <;> (first | omega | (simp; done) | (simp; omega)))
  have B1 : Num4 w1 (w.heap.size + 1) b := by ((repeat' (first | assumption | (refine Num4.new' ?_; first | omega | (simp; done)) | refine Num4.set ?_ ?_ | refine Num4.alloc ?_ ?_ | refine Num4.drewN ?_ | refine Num4.call ?_ (by assumption) ?_)) <;> (first | omega | (simp; done) | (simp; omega)))
  obtain ⟨a10, a11, a12, a13⟩ := A1.facts
  obtain ⟨b10, b11, b12, b13⟩ := B1.facts
  have z1 : w.heap.size < w1.heap.size := by omega
  have y1 : w.heap.size + 1 < w1.heap.size := by omega
  go_wp2_with fail
  refine (K2.out _).mono ?_
  rintro e w2 ⟨rfl, hb2⟩
  have hz2 := hb2.size
  try simp only [World.size_alloc] at hz2
  have A2 : Num4 w2 w.heap.size a := by ((repeat' (first | assumption | (refine Num4.new' ?_; first | omega | (simp; done)) | refine Num4.set ?_ ?_ | refine Num4.alloc ?_ ?_ | refine Num4.drewN ?_ | refine Num4.call ?_ (by assumption) ?_)) <;> (first | omega | (simp; done) | (simp; omega)))
  have B2 : Num4 w2 (w.heap.size + 1) b := by ((repeat' (first | assumption | (refine Num4.new' ?_; first | omega | (simp; done)) | refine Num4.set ?_ ?_ | refine Num4.alloc ?_ ?_ | refine Num4.drewN ?_ | refine Num4.call ?_ (by assumption) ?_)) <;> (first | omega | (simp; done) | (simp; omega)))
  have S2 : Num4 w2 w1.heap.size (s0) := by ((repeat' (first | assumption | (refine Num4.new' ?_; first | omega | (simp; done)) | refine Num4.set ?_ ?_ | refine Num4.alloc ?_ ?_ | refine Num4.drewN ?_ | refine Num4.call ?_ (by assumption) ?_)) <;> (first | omega | (simp; done) | (simp; omega)))
  go_wp2_with fail
  obtain ⟨X, hX⟩ : ∃ X, X = w2.alloc (.cells #[.int .u64 (limb (d0) 0 : Nat), .int .u64 (limb (d0) 1 : Nat), .int .u64 (limb (d0) 2 : Nat), .int .u64 (limb (d0) 3 : Nat)] 24) := ⟨_, rfl⟩
  rw [← hX]
  have AX : Num4 X w.heap.size a := by rw [hX]; ((repeat' (first | assumption | (refine Num4.new' ?_; first | omega | (simp; done)) | refine Num4.set ?_ ?_ | refine Num4.alloc ?_ ?_ | refine Num4.drewN ?_ | refine Num4.call ?_ (by assumption) ?_)) <;> (first | omega | (simp; done) | (simp; omega)))
  have BX : Num4 X (w.heap.size + 1) b := by rw [hX]; ((repeat' (first | assumption | (refine Num4.new' ?_; first | omega | (simp; done)) | refine Num4.set ?_ ?_ | refine Num4.alloc ?_ ?_ | refine Num4.drewN ?_ | refine Num4.call ?_ (by assumption) ?_)) <;> (first | omega | (simp; done) | (simp; omega)))
  have SX : Num4 X w1.heap.size (s0) := by rw [hX]; ((repeat' (first | assumption | (refine Num4.new' ?_; first | omega | (simp; done)) | refine Num4.set ?_ ?_ | refine Num4.alloc ?_ ?_ | refine Num4.drewN ?_ | refine Num4.call ?_ (by assumption) ?_)) <;> (first | omega | (simp; done) | (simp; omega)))
  have DX : Num4 X w2.heap.size (d0) := by rw [hX]; ((repeat' (first | assumption | (refine Num4.new' ?_; first | omega | (simp; done)) | refine Num4.set ?_ ?_ | refine Num4.alloc ?_ ?_ | refine Num4.drewN ?_ | refine Num4.call ?_ (by assumption) ?_)) <;> (first | omega | (simp; done) | (simp; omega)))
  have WX : Below w.heap.size w X := by rw [hX]; ((repeat' (first | with_reducible exact Below.refl _ _ | with_reducible refine Below.setCell ?_ ?_ _ | with_reducible refine below_alloc0 ?_ _ | with_reducible refine below_drewN ?_ _ | with_reducible refine Below.drew ?_ | refine below_call0 ?_ (by assumption))) <;> (first | omega | (simp; done) | (simp; omega)))
  have ZX : w2.heap.size < X.heap.size := by rw [hX]; simp
  have zx : w.heap.size + 1 < X.heap.size := by omega
  clear hX
  have KS : ∀ w', Below X.heap.size X w' → (Below X.heap.size X w' ∧ (w'.cell? ⟨w.heap.size, 0, none⟩ = some (.int .u64 (limb (a) 0 : Nat)) ∧ w'.cell? ⟨w.heap.size, 1, none⟩ = some (.int .u64 (limb (a) 1 : Nat)) ∧ w'.cell? ⟨w.heap.size, 2, none⟩ = some (.int .u64 (limb (a) 2 : Nat)) ∧ w'.cell? ⟨w.heap.size, 3, none⟩ = some (.int .u64 (limb (a) 3 : Nat))) ∧ (w'.cell? ⟨w.heap.size + 1, 0, none⟩ = some (.int .u64 (limb (b) 0 : Nat)) ∧ w'.cell? ⟨w.heap.size + 1, 1, none⟩ = some (.int .u64 (limb (b) 1 : Nat)) ∧ w'.cell? ⟨w.heap.size + 1, 2, none⟩ = some (.int .u64 (limb (b) 2 : Nat)) ∧ w'.cell? ⟨w.heap.size + 1, 3, none⟩ = some (.int .u64 (limb (b) 3 : Nat)))) := fun w' h =>
    ⟨h, (AX.call h (by omega)).facts, (BX.call h (by omega)).facts⟩
  have HK : Hid _ := KS
  clear KS hb1 hb2 A1 B1 a10 a11 a12 a13 b10 b11 b12 b13 A2 B2 S2
  go_region_held3 (fun w' => Below X.heap.size X w' ∧ (w'.cell? ⟨w.heap.size, 0, none⟩ = some (.int .u64 (limb (a) 0 : Nat)) ∧ w'.cell? ⟨w.heap.size, 1, none⟩ = some (.int .u64 (limb (a) 1 : Nat)) ∧ w'.cell? ⟨w.heap.size, 2, none⟩ = some (.int .u64 (limb (a) 2 : Nat)) ∧ w'.cell? ⟨w.heap.size, 3, none⟩ = some (.int .u64 (limb (a) 3 : Nat))) ∧ (w'.cell? ⟨w.heap.size + 1, 0, none⟩ = some (.int .u64 (limb (b) 0 : Nat)) ∧ w'.cell? ⟨w.heap.size + 1, 1, none⟩ = some (.int .u64 (limb (b) 1 : Nat)) ∧ w'.cell? ⟨w.heap.size + 1, 2, none⟩ = some (.int .u64 (limb (b) 2 : Nat)) ∧ w'.cell? ⟨w.heap.size + 1, 3, none⟩ = some (.int .u64 (limb (b) 3 : Nat))))
    ((refine HK.out _ ?_; ((repeat' (first | with_reducible exact Below.refl _ _ | exact (And.left (by assumption)) | with_reducible refine Below.setCell ?_ ?_ _ | with_reducible refine below_alloc0 ?_ _ | with_reducible refine below_drewN ?_ _ | with_reducible refine Below.drew ?_ | refine below_call0 ?_ (by assumption))) <;> (first | omega | (simp; done) | (simp; omega)))))
    (first
      | (go_at_call_of 12 (Value.int .u64 (limb a 0 : Nat)); refine (digits_any a _).mono ?_; rintro e w' ⟨va, rfl, da, hq⟩)
      | (go_at_call_of 12 (Value.int .u64 (limb b 0 : Nat)); refine (digits_any b _).mono ?_; rintro e w' ⟨vb, rfl, db, hq⟩; have da' := Dg.call ‹Dg _ _ (digL a 16)› hq)
      | (go_at_call 11; refine (plus_ref _ _ (digL a 16) (digL b 16) (digL_ok a 16) (digL_ok b 16) (by rw [digL_length]; omega) (by rw [digL_length]; omega) _ ‹Dg _ _ (digL a 16)› ‹Dg _ _ (digL b 16)›).mono ?_; rintro e w' ⟨x, l, rfl, dx, ⟨lok, lval, llen⟩, hq⟩; rw [HE.out.1, HE.out.2] at lval; rw [digL_length, digL_length] at llen; have ll := HL.out l lok lval llen; obtain ⟨ad, cap, rfl⟩ := dx.len; rw [ll] at dx ⊢; clear llen ll))
  go_wp2_with fail
  refine (K3.out _).mono ?_
  rintro e w6 ⟨rfl, hb6⟩
  have hB : Below X.heap.size X w' := And.left ‹Below X.heap.size X w' ∧ _›
  have hz6 := hb6.size
  have hzB := hB.size
  have S6 : Num4 w6 w1.heap.size (s0) := (SX.call hB (by omega)).call hb6 (by omega)
  have D6 : Num4 w6 w2.heap.size (d0) := (DX.call hB (by omega)).call hb6 (by omega)
  have W6 : Below w.heap.size w w6 := below_call0 (below_call0 WX hB) hb6
  have dx6 := dx.call hb6
  go_wp2_with fail
  obtain ⟨Y, hY⟩ : ∃ Y, Y = w6.alloc (.cells #[.int .u64 (limb (d0) 0 : Nat), .int .u64 (limb (d0) 1 : Nat), .int .u64 (limb (d0) 2 : Nat), .int .u64 (limb (d0) 3 : Nat)] 24) := ⟨_, rfl⟩
  rw [← hY]
  have SY : Num4 Y w1.heap.size (s0) := by rw [hY]; exact S6.alloc (by omega)
  have DY : Num4 Y w2.heap.size (d0) := by rw [hY]; exact D6.alloc (by omega)
  have YY : Num4 Y w6.heap.size (d0) := by rw [hY]; exact Num4.new _ _ _
  have WY : Below w.heap.size w Y := by rw [hY]; exact below_alloc0 W6 _
  have ZY : w6.heap.size < Y.heap.size := by rw [hY]; simp
  have dY : Dg Y (.slice ad 16 cap) l := by rw [hY]; exact dx6.alloc _
  have KN := fun w h => num_ref (.slice ad 16 cap) l lok w h
  rw [HN.out l lok lval] at KN
  have HKN : Hid _ := KN
  have HD : Hid _ := dY
  clear hY KN dY
  have KS : ∀ w', Below Y.heap.size Y w' → (Below Y.heap.size Y w' ∧ (w'.cell? ⟨w1.heap.size, 0, none⟩ = some (.int .u64 (limb (s0) 0 : Nat)) ∧ w'.cell? ⟨w1.heap.size, 1, none⟩ = some (.int .u64 (limb (s0) 1 : Nat)) ∧ w'.cell? ⟨w1.heap.size, 2, none⟩ = some (.int .u64 (limb (s0) 2 : Nat)) ∧ w'.cell? ⟨w1.heap.size, 3, none⟩ = some (.int .u64 (limb (s0) 3 : Nat))) ∧ (w'.cell? ⟨w2.heap.size, 0, none⟩ = some (.int .u64 (limb (d0) 0 : Nat)) ∧ w'.cell? ⟨w2.heap.size, 1, none⟩ = some (.int .u64 (limb (d0) 1 : Nat)) ∧ w'.cell? ⟨w2.heap.size, 2, none⟩ = some (.int .u64 (limb (d0) 2 : Nat)) ∧ w'.cell? ⟨w2.heap.size, 3, none⟩ = some (.int .u64 (limb (d0) 3 : Nat))) ∧ (w'.cell? ⟨w6.heap.size, 0, none⟩ = some (.int .u64 (limb (d0) 0 : Nat)) ∧ w'.cell? ⟨w6.heap.size, 1, none⟩ = some (.int .u64 (limb (d0) 1 : Nat)) ∧ w'.cell? ⟨w6.heap.size, 2, none⟩ = some (.int .u64 (limb (d0) 2 : Nat)) ∧ w'.cell? ⟨w6.heap.size, 3, none⟩ = some (.int .u64 (limb (d0) 3 : Nat)))) := fun w' h =>
    ⟨h, (SY.call h (by omega)).facts, (DY.call h (by omega)).facts, (YY.call h (by omega)).facts⟩
  have HK2 : Hid _ := KS
  clear KS
  go_region_held3 (fun w' => Below Y.heap.size Y w' ∧ (w'.cell? ⟨w1.heap.size, 0, none⟩ = some (.int .u64 (limb (s0) 0 : Nat)) ∧ w'.cell? ⟨w1.heap.size, 1, none⟩ = some (.int .u64 (limb (s0) 1 : Nat)) ∧ w'.cell? ⟨w1.heap.size, 2, none⟩ = some (.int .u64 (limb (s0) 2 : Nat)) ∧ w'.cell? ⟨w1.heap.size, 3, none⟩ = some (.int .u64 (limb (s0) 3 : Nat))) ∧ (w'.cell? ⟨w2.heap.size, 0, none⟩ = some (.int .u64 (limb (d0) 0 : Nat)) ∧ w'.cell? ⟨w2.heap.size, 1, none⟩ = some (.int .u64 (limb (d0) 1 : Nat)) ∧ w'.cell? ⟨w2.heap.size, 2, none⟩ = some (.int .u64 (limb (d0) 2 : Nat)) ∧ w'.cell? ⟨w2.heap.size, 3, none⟩ = some (.int .u64 (limb (d0) 3 : Nat))) ∧ (w'.cell? ⟨w6.heap.size, 0, none⟩ = some (.int .u64 (limb (d0) 0 : Nat)) ∧ w'.cell? ⟨w6.heap.size, 1, none⟩ = some (.int .u64 (limb (d0) 1 : Nat)) ∧ w'.cell? ⟨w6.heap.size, 2, none⟩ = some (.int .u64 (limb (d0) 2 : Nat)) ∧ w'.cell? ⟨w6.heap.size, 3, none⟩ = some (.int .u64 (limb (d0) 3 : Nat))))
    ((refine HK2.out _ ?_; ((repeat' (first | with_reducible exact Below.refl _ _ | exact (And.left (by assumption)) | with_reducible refine Below.setCell ?_ ?_ _ | with_reducible refine below_alloc0 ?_ _ | with_reducible refine below_drewN ?_ _ | with_reducible refine Below.drew ?_ | refine below_call0 ?_ (by assumption))) <;> (first | omega | (simp; done) | (simp; omega)))))
    (first
      | (go_at_call 14; refine (HKN.out _ ?_).mono ?_; exact HD.out; rintro e w' ⟨rfl, hq⟩)
      | (go_at_call 15; refine (turns_any _).mono ?_; rintro e w' ⟨rfl, hq⟩))
  go_wp2
  go_ret
  exact ⟨rfl, below_call0 WY (And.left (by assumption))⟩

set_option maxHeartbeats 2000000 in
theorem sums_1 (a b : Nat) (ha : a < R256) (hb : b < R256) (h : ¬ a + b < R256) (w : World) : Calls Try.prog 3 #[.agg #[.int .u64 (limb (a) 0 : Nat), .int .u64 (limb (a) 1 : Nat), .int .u64 (limb (a) 2 : Nat), .int .u64 (limb (a) 3 : Nat)], .agg #[.int .u64 (limb (b) 0 : Nat), .int .u64 (limb (b) 1 : Nat), .int .u64 (limb (b) 2 : Nat), .int .u64 (limb (b) 3 : Nat)]] w fun e w' => e = .returned (.bool true) ∧ Below w.heap.size w w' := by
  obtain ⟨s0, hs0⟩ : ∃ s0, s0 = addN a b := ⟨_, rfl⟩
  obtain ⟨d0, hd0⟩ : ∃ d0, d0 = subN a b := ⟨_, rfl⟩
  obtain ⟨j0, hj0⟩ : ∃ j0, j0 = subK a b := ⟨_, rfl⟩
  have k1 : ∀ w, Calls Try.prog 9 #[.agg #[.int .u64 (limb (a) 0 : Nat), .int .u64 (limb (a) 1 : Nat), .int .u64 (limb (a) 2 : Nat), .int .u64 (limb (a) 3 : Nat)], .agg #[.int .u64 (limb (b) 0 : Nat), .int .u64 (limb (b) 1 : Nat), .int .u64 (limb (b) 2 : Nat), .int .u64 (limb (b) 3 : Nat)]] w fun e w' => e = .returned (.tuple #[.agg #[.int .u64 (limb (s0) 0 : Nat), .int .u64 (limb (s0) 1 : Nat), .int .u64 (limb (s0) 2 : Nat), .int .u64 (limb (s0) 3 : Nat)], .int .u64 1]) ∧ Below w.heap.size w w' := fun w => by
    have g := add_any a b ha hb w
    rw [show addK a b = 1 from (by unfold addK; unfold R256 at *; omega), ← hs0] at g
    exact g
  have K1 : Hid _ := k1
  have k2 := fun w => sub_any a b ha hb w
  have k3 := fun w => sub_ref a b ha hb w
  rw [← hd0, ← hj0] at k2 k3
  have K2 : Hid _ := k2
  have K3 : Hid _ := k3
  have HL : Hid (∀ l : List Nat, Dok l → dval l = a + b → (l.length = 16 ∨ l.length = 17 ∧ 65536 ^ 16 ≤ dval l) → l.length = 17) := fun l h1 h2 h3 => by rw [sum_len h1 h2 h3, if_neg h]
  have HN : Hid (∀ l : List Nat, Dok l → dval l = a + b → dpre l 16 = s0) := fun l h1 h2 => by rw [dpre16_mod h1, h2, hs0]; rfl
  have qs : eq4 (limb (s0) 0 : Nat) (limb (s0) 1 : Nat) (limb (s0) 2 : Nat) (limb (s0) 3 : Nat) (limb (s0) 0 : Nat) (limb (s0) 1 : Nat) (limb (s0) 2 : Nat) (limb (s0) 3 : Nat) = true := by simp [eq4]
  have qd : eq4 (limb (d0) 0 : Nat) (limb (d0) 1 : Nat) (limb (d0) 2 : Nat) (limb (d0) 3 : Nat) (limb (d0) 0 : Nat) (limb (d0) 1 : Nat) (limb (d0) 2 : Nat) (limb (d0) 3 : Nat) = true := by simp [eq4]
  have ea := dval_digL16 a ha
  have eb := dval_digL16 b hb
  have HE : Hid (_ ∧ _) := ⟨ea, eb⟩
  clear k1 k2 k3 h ea eb hs0 hd0 hj0
  go_enter Try.func3, Try.ntmps3
  go_wp2_with fail
  refine (K1.out _).mono ?_
  rintro e w1 ⟨rfl, hb1⟩
  have hz1 := hb1.size
  try simp only [World.size_alloc] at hz1
  have A1 : Num4 w1 w.heap.size a := by ((repeat' (first | assumption | (refine Num4.new' ?_; first | omega | (simp; done)) | refine Num4.set ?_ ?_ | refine Num4.alloc ?_ ?_ | refine Num4.drewN ?_ | refine Num4.call ?_ (by assumption) ?_)) <;> (first | omega | (simp; done) | (simp; omega)))
  have B1 : Num4 w1 (w.heap.size + 1) b := by ((repeat' (first | assumption | (refine Num4.new' ?_; first | omega | (simp; done)) | refine Num4.set ?_ ?_ | refine Num4.alloc ?_ ?_ | refine Num4.drewN ?_ | refine Num4.call ?_ (by assumption) ?_)) <;> (first | omega | (simp; done) | (simp; omega)))
  obtain ⟨a10, a11, a12, a13⟩ := A1.facts
  obtain ⟨b10, b11, b12, b13⟩ := B1.facts
  have z1 : w.heap.size < w1.heap.size := by omega
  have y1 : w.heap.size + 1 < w1.heap.size := by omega
  go_wp2_with fail
  refine (K2.out _).mono ?_
  rintro e w2 ⟨rfl, hb2⟩
  have hz2 := hb2.size
  try simp only [World.size_alloc] at hz2
  have A2 : Num4 w2 w.heap.size a := by ((repeat' (first | assumption | (refine Num4.new' ?_; first | omega | (simp; done)) | refine Num4.set ?_ ?_ | refine Num4.alloc ?_ ?_ | refine Num4.drewN ?_ | refine Num4.call ?_ (by assumption) ?_)) <;> (first | omega | (simp; done) | (simp; omega)))
  have B2 : Num4 w2 (w.heap.size + 1) b := by ((repeat' (first | assumption | (refine Num4.new' ?_; first | omega | (simp; done)) | refine Num4.set ?_ ?_ | refine Num4.alloc ?_ ?_ | refine Num4.drewN ?_ | refine Num4.call ?_ (by assumption) ?_)) <;> (first | omega | (simp; done) | (simp; omega)))
  have S2 : Num4 w2 w1.heap.size (s0) := by ((repeat' (first | assumption | (refine Num4.new' ?_; first | omega | (simp; done)) | refine Num4.set ?_ ?_ | refine Num4.alloc ?_ ?_ | refine Num4.drewN ?_ | refine Num4.call ?_ (by assumption) ?_)) <;> (first | omega | (simp; done) | (simp; omega)))
  go_wp2_with fail
  obtain ⟨X, hX⟩ : ∃ X, X = w2.alloc (.cells #[.int .u64 (limb (d0) 0 : Nat), .int .u64 (limb (d0) 1 : Nat), .int .u64 (limb (d0) 2 : Nat), .int .u64 (limb (d0) 3 : Nat)] 24) := ⟨_, rfl⟩
  rw [← hX]
  have AX : Num4 X w.heap.size a := by rw [hX]; ((repeat' (first | assumption | (refine Num4.new' ?_; first | omega | (simp; done)) | refine Num4.set ?_ ?_ | refine Num4.alloc ?_ ?_ | refine Num4.drewN ?_ | refine Num4.call ?_ (by assumption) ?_)) <;> (first | omega | (simp; done) | (simp; omega)))
  have BX : Num4 X (w.heap.size + 1) b := by rw [hX]; ((repeat' (first | assumption | (refine Num4.new' ?_; first | omega | (simp; done)) | refine Num4.set ?_ ?_ | refine Num4.alloc ?_ ?_ | refine Num4.drewN ?_ | refine Num4.call ?_ (by assumption) ?_)) <;> (first | omega | (simp; done) | (simp; omega)))
  have SX : Num4 X w1.heap.size (s0) := by rw [hX]; ((repeat' (first | assumption | (refine Num4.new' ?_; first | omega | (simp; done)) | refine Num4.set ?_ ?_ | refine Num4.alloc ?_ ?_ | refine Num4.drewN ?_ | refine Num4.call ?_ (by assumption) ?_)) <;> (first | omega | (simp; done) | (simp; omega)))
  have DX : Num4 X w2.heap.size (d0) := by rw [hX]; ((repeat' (first | assumption | (refine Num4.new' ?_; first | omega | (simp; done)) | refine Num4.set ?_ ?_ | refine Num4.alloc ?_ ?_ | refine Num4.drewN ?_ | refine Num4.call ?_ (by assumption) ?_)) <;> (first | omega | (simp; done) | (simp; omega)))
  have WX : Below w.heap.size w X := by rw [hX]; ((repeat' (first | with_reducible exact Below.refl _ _ | with_reducible refine Below.setCell ?_ ?_ _ | with_reducible refine below_alloc0 ?_ _ | with_reducible refine below_drewN ?_ _ | with_reducible refine Below.drew ?_ | refine below_call0 ?_ (by assumption))) <;> (first | omega | (simp; done) | (simp; omega)))
  have ZX : w2.heap.size < X.heap.size := by rw [hX]; simp
  have zx : w.heap.size + 1 < X.heap.size := by omega
  clear hX
  have KS : ∀ w', Below X.heap.size X w' → (Below X.heap.size X w' ∧ (w'.cell? ⟨w.heap.size, 0, none⟩ = some (.int .u64 (limb (a) 0 : Nat)) ∧ w'.cell? ⟨w.heap.size, 1, none⟩ = some (.int .u64 (limb (a) 1 : Nat)) ∧ w'.cell? ⟨w.heap.size, 2, none⟩ = some (.int .u64 (limb (a) 2 : Nat)) ∧ w'.cell? ⟨w.heap.size, 3, none⟩ = some (.int .u64 (limb (a) 3 : Nat))) ∧ (w'.cell? ⟨w.heap.size + 1, 0, none⟩ = some (.int .u64 (limb (b) 0 : Nat)) ∧ w'.cell? ⟨w.heap.size + 1, 1, none⟩ = some (.int .u64 (limb (b) 1 : Nat)) ∧ w'.cell? ⟨w.heap.size + 1, 2, none⟩ = some (.int .u64 (limb (b) 2 : Nat)) ∧ w'.cell? ⟨w.heap.size + 1, 3, none⟩ = some (.int .u64 (limb (b) 3 : Nat)))) := fun w' h =>
    ⟨h, (AX.call h (by omega)).facts, (BX.call h (by omega)).facts⟩
  have HK : Hid _ := KS
  clear KS hb1 hb2 A1 B1 a10 a11 a12 a13 b10 b11 b12 b13 A2 B2 S2
  go_region_held3 (fun w' => Below X.heap.size X w' ∧ (w'.cell? ⟨w.heap.size, 0, none⟩ = some (.int .u64 (limb (a) 0 : Nat)) ∧ w'.cell? ⟨w.heap.size, 1, none⟩ = some (.int .u64 (limb (a) 1 : Nat)) ∧ w'.cell? ⟨w.heap.size, 2, none⟩ = some (.int .u64 (limb (a) 2 : Nat)) ∧ w'.cell? ⟨w.heap.size, 3, none⟩ = some (.int .u64 (limb (a) 3 : Nat))) ∧ (w'.cell? ⟨w.heap.size + 1, 0, none⟩ = some (.int .u64 (limb (b) 0 : Nat)) ∧ w'.cell? ⟨w.heap.size + 1, 1, none⟩ = some (.int .u64 (limb (b) 1 : Nat)) ∧ w'.cell? ⟨w.heap.size + 1, 2, none⟩ = some (.int .u64 (limb (b) 2 : Nat)) ∧ w'.cell? ⟨w.heap.size + 1, 3, none⟩ = some (.int .u64 (limb (b) 3 : Nat))))
    ((refine HK.out _ ?_; ((repeat' (first | with_reducible exact Below.refl _ _ | exact (And.left (by assumption)) | with_reducible refine Below.setCell ?_ ?_ _ | with_reducible refine below_alloc0 ?_ _ | with_reducible refine below_drewN ?_ _ | with_reducible refine Below.drew ?_ | refine below_call0 ?_ (by assumption))) <;> (first | omega | (simp; done) | (simp; omega)))))
    (first
      | (go_at_call_of 12 (Value.int .u64 (limb a 0 : Nat)); refine (digits_any a _).mono ?_; rintro e w' ⟨va, rfl, da, hq⟩)
      | (go_at_call_of 12 (Value.int .u64 (limb b 0 : Nat)); refine (digits_any b _).mono ?_; rintro e w' ⟨vb, rfl, db, hq⟩; have da' := Dg.call ‹Dg _ _ (digL a 16)› hq)
      | (go_at_call 11; refine (plus_ref _ _ (digL a 16) (digL b 16) (digL_ok a 16) (digL_ok b 16) (by rw [digL_length]; omega) (by rw [digL_length]; omega) _ ‹Dg _ _ (digL a 16)› ‹Dg _ _ (digL b 16)›).mono ?_; rintro e w' ⟨x, l, rfl, dx, ⟨lok, lval, llen⟩, hq⟩; rw [HE.out.1, HE.out.2] at lval; rw [digL_length, digL_length] at llen; have ll := HL.out l lok lval llen; obtain ⟨ad, cap, rfl⟩ := dx.len; rw [ll] at dx ⊢; clear llen ll))
  go_wp2_with fail
  refine (K3.out _).mono ?_
  rintro e w6 ⟨rfl, hb6⟩
  have hB : Below X.heap.size X w' := And.left ‹Below X.heap.size X w' ∧ _›
  have hz6 := hb6.size
  have hzB := hB.size
  have S6 : Num4 w6 w1.heap.size (s0) := (SX.call hB (by omega)).call hb6 (by omega)
  have D6 : Num4 w6 w2.heap.size (d0) := (DX.call hB (by omega)).call hb6 (by omega)
  have W6 : Below w.heap.size w w6 := below_call0 (below_call0 WX hB) hb6
  have dx6 := dx.call hb6
  go_wp2_with fail
  obtain ⟨Y, hY⟩ : ∃ Y, Y = w6.alloc (.cells #[.int .u64 (limb (d0) 0 : Nat), .int .u64 (limb (d0) 1 : Nat), .int .u64 (limb (d0) 2 : Nat), .int .u64 (limb (d0) 3 : Nat)] 24) := ⟨_, rfl⟩
  rw [← hY]
  have SY : Num4 Y w1.heap.size (s0) := by rw [hY]; exact S6.alloc (by omega)
  have DY : Num4 Y w2.heap.size (d0) := by rw [hY]; exact D6.alloc (by omega)
  have YY : Num4 Y w6.heap.size (d0) := by rw [hY]; exact Num4.new _ _ _
  have WY : Below w.heap.size w Y := by rw [hY]; exact below_alloc0 W6 _
  have ZY : w6.heap.size < Y.heap.size := by rw [hY]; simp
  have dY : Dg Y (.slice ad 17 cap) l := by rw [hY]; exact dx6.alloc _
  have KN := fun w h => num_ref (.slice ad 17 cap) l lok w h
  rw [HN.out l lok lval] at KN
  have HKN : Hid _ := KN
  have HD : Hid _ := dY
  clear hY KN dY
  have KS : ∀ w', Below Y.heap.size Y w' → (Below Y.heap.size Y w' ∧ (w'.cell? ⟨w1.heap.size, 0, none⟩ = some (.int .u64 (limb (s0) 0 : Nat)) ∧ w'.cell? ⟨w1.heap.size, 1, none⟩ = some (.int .u64 (limb (s0) 1 : Nat)) ∧ w'.cell? ⟨w1.heap.size, 2, none⟩ = some (.int .u64 (limb (s0) 2 : Nat)) ∧ w'.cell? ⟨w1.heap.size, 3, none⟩ = some (.int .u64 (limb (s0) 3 : Nat))) ∧ (w'.cell? ⟨w2.heap.size, 0, none⟩ = some (.int .u64 (limb (d0) 0 : Nat)) ∧ w'.cell? ⟨w2.heap.size, 1, none⟩ = some (.int .u64 (limb (d0) 1 : Nat)) ∧ w'.cell? ⟨w2.heap.size, 2, none⟩ = some (.int .u64 (limb (d0) 2 : Nat)) ∧ w'.cell? ⟨w2.heap.size, 3, none⟩ = some (.int .u64 (limb (d0) 3 : Nat))) ∧ (w'.cell? ⟨w6.heap.size, 0, none⟩ = some (.int .u64 (limb (d0) 0 : Nat)) ∧ w'.cell? ⟨w6.heap.size, 1, none⟩ = some (.int .u64 (limb (d0) 1 : Nat)) ∧ w'.cell? ⟨w6.heap.size, 2, none⟩ = some (.int .u64 (limb (d0) 2 : Nat)) ∧ w'.cell? ⟨w6.heap.size, 3, none⟩ = some (.int .u64 (limb (d0) 3 : Nat)))) := fun w' h =>
    ⟨h, (SY.call h (by omega)).facts, (DY.call h (by omega)).facts, (YY.call h (by omega)).facts⟩
  have HK2 : Hid _ := KS
  clear KS
  go_region_held3 (fun w' => Below Y.heap.size Y w' ∧ (w'.cell? ⟨w1.heap.size, 0, none⟩ = some (.int .u64 (limb (s0) 0 : Nat)) ∧ w'.cell? ⟨w1.heap.size, 1, none⟩ = some (.int .u64 (limb (s0) 1 : Nat)) ∧ w'.cell? ⟨w1.heap.size, 2, none⟩ = some (.int .u64 (limb (s0) 2 : Nat)) ∧ w'.cell? ⟨w1.heap.size, 3, none⟩ = some (.int .u64 (limb (s0) 3 : Nat))) ∧ (w'.cell? ⟨w2.heap.size, 0, none⟩ = some (.int .u64 (limb (d0) 0 : Nat)) ∧ w'.cell? ⟨w2.heap.size, 1, none⟩ = some (.int .u64 (limb (d0) 1 : Nat)) ∧ w'.cell? ⟨w2.heap.size, 2, none⟩ = some (.int .u64 (limb (d0) 2 : Nat)) ∧ w'.cell? ⟨w2.heap.size, 3, none⟩ = some (.int .u64 (limb (d0) 3 : Nat))) ∧ (w'.cell? ⟨w6.heap.size, 0, none⟩ = some (.int .u64 (limb (d0) 0 : Nat)) ∧ w'.cell? ⟨w6.heap.size, 1, none⟩ = some (.int .u64 (limb (d0) 1 : Nat)) ∧ w'.cell? ⟨w6.heap.size, 2, none⟩ = some (.int .u64 (limb (d0) 2 : Nat)) ∧ w'.cell? ⟨w6.heap.size, 3, none⟩ = some (.int .u64 (limb (d0) 3 : Nat))))
    ((refine HK2.out _ ?_; ((repeat' (first | with_reducible exact Below.refl _ _ | exact (And.left (by assumption)) | with_reducible refine Below.setCell ?_ ?_ _ | with_reducible refine below_alloc0 ?_ _ | with_reducible refine below_drewN ?_ _ | with_reducible refine Below.drew ?_ | refine below_call0 ?_ (by assumption))) <;> (first | omega | (simp; done) | (simp; omega)))))
    (first
      | (go_at_call 14; refine (HKN.out _ ?_).mono ?_; exact HD.out; rintro e w' ⟨rfl, hq⟩)
      | (go_at_call 15; refine (turns_any _).mono ?_; rintro e w' ⟨rfl, hq⟩))
  go_wp2
  go_ret
  exact ⟨rfl, below_call0 WY (And.left (by assumption))⟩

theorem limbSums_any (a b : Nat) (ha : a < R256) (hb : b < R256) (w : World) : Calls Try.prog 3 #[.agg #[.int .u64 (limb (a) 0 : Nat), .int .u64 (limb (a) 1 : Nat), .int .u64 (limb (a) 2 : Nat), .int .u64 (limb (a) 3 : Nat)], .agg #[.int .u64 (limb (b) 0 : Nat), .int .u64 (limb (b) 1 : Nat), .int .u64 (limb (b) 2 : Nat), .int .u64 (limb (b) 3 : Nat)]] w fun e w' => e = .returned (.bool true) ∧ Below w.heap.size w w' := by
  by_cases h : a + b < R256
  · exact sums_0 a b ha hb h w
  · exact sums_1 a b ha hb h w
end Go.Proofs.Ytpedidldhlldfaa
