/- The walk of the statement LimbPicks. -/
import Derived.Test.YtpedidldhlldfaaPicksW
import Derived.Test.YtpedidldhlldfaaTurns
import Derived.Deep.RegionHeld3
namespace Go.Proofs.Ytpedidldhlldfaa
open Go.RowKit
attribute [local go_sem] run_eq4

theorem dget_digL (a i : Nat) (h : i < 16) : dget (digL a 16) i = dig a i := by
  unfold dget digL
  rw [List.getD_eq_getElem?_getD, List.getElem?_map, List.getElem?_range h]
  rfl
theorem dig_bit (a i r : Nat) (hr : r < 16) : dig a i / 2 ^ r % 2 = bitN a (16 * i + r) := by
  unfold dig bitN
  have e1 : 65536 = 2 ^ r * (2 * 2 ^ (15 - r)) := by
    rw [← Nat.pow_succ', ← Nat.pow_add, show r + (15 - r).succ = 16 from by omega]
  have e2 : 65536 ^ i = 2 ^ (16 * i) := by rw [Nat.pow_mul]
  rw [e2, Nat.pow_add, ← Nat.div_div_eq_div_mul]
  generalize a / 2 ^ (16 * i) = y
  rw [e1, Nat.mod_mul_right_div_self, Nat.mod_mul_right_mod]
theorem want_eq (a m i r : Nat) (h : i = m / 16 ∧ r = m % 16 ∧ i < 16) : (IntKind.u64.wrap ((dget (digL a 16) i : Int) / 2 ^ r)).tmod 2 = ((bitN a m : Nat) : Int) := by
  have hd := dig_lt a i
  rw [dget_digL a i h.2.2]
  have e : ((dig a i : Int) / 2 ^ r) = ((dig a i / 2 ^ r : Nat) : Int) := by
    rw [Int.natCast_ediv, Int.natCast_pow]; rfl
  have l : dig a i / 2 ^ r ≤ dig a i := Nat.div_le_self _ _
  have b := dig_bit a i r (by omega)
  rw [show 16 * i + r = m from by omega] at b
  rw [e, ← b]
  generalize dig a i / 2 ^ r = y at *
  rw [IntKind.wrap_u64, Int.tmod_eq_emod_of_nonneg (by omega)]
  omega

set_option maxRecDepth 100000 in
set_option maxHeartbeats 2000000 in
theorem picks_in_odd (a b m : Nat) (ha : a < R256) (hb : b < R256) (hm : m < 256) (hp : m % 2 = 1) (w : World) :
    Calls Try.prog 5 #[.agg #[.int .u64 (limb (a) 0 : Nat), .int .u64 (limb (a) 1 : Nat), .int .u64 (limb (a) 2 : Nat), .int .u64 (limb (a) 3 : Nat)], .agg #[.int .u64 (limb (b) 0 : Nat), .int .u64 (limb (b) 1 : Nat), .int .u64 (limb (b) 2 : Nat), .int .u64 (limb (b) 3 : Nat)], .int .i64 m] w fun e w' => e = .returned (.bool true) ∧ Below w.heap.size w w' := by
  have qa : eq4 (limb a 0 : Nat) (limb a 1 : Nat) (limb a 2 : Nat) (limb a 3 : Nat) (limb a 0 : Nat) (limb a 1 : Nat) (limb a 2 : Nat) (limb a 3 : Nat) = true := by simp [eq4]
  have qb : eq4 (limb b 0 : Nat) (limb b 1 : Nat) (limb b 2 : Nat) (limb b 3 : Nat) (limb b 0 : Nat) (limb b 1 : Nat) (limb b 2 : Nat) (limb b 3 : Nat) = true := by simp [eq4]
  have HB : Hid _ := fun w => bit_in a m hm w
  have HS : Hid _ := fun w => select_odd m a b (by omega) hp w
  obtain ⟨i, hi⟩ : ∃ i, i = m / 16 := ⟨_, rfl⟩
  obtain ⟨r, hr⟩ : ∃ r, r = m % 16 := ⟨_, rfl⟩
  have e0 : IntKind.u64.wrap (m : Int) = (m : Nat) := by rw [IntKind.wrap_u64]; omega
  have e1 : (m : Int).tdiv 16 = (i : Nat) := by rw [Int.tdiv_eq_ediv_of_nonneg (by omega)]; omega
  have e2 : (m : Int) / 16 = (i : Nat) := by omega
  have e3 : (m : Int).tmod 16 = (r : Nat) := by rw [Int.tmod_eq_emod_of_nonneg (by omega)]; omega
  have e4 : (m : Int) % 16 = (r : Nat) := by omega
  have e5 : ((m : Int).tmod 2 != 0) = true := by rw [Int.tmod_eq_emod_of_nonneg (by omega)]; simp; omega
  have e6 : ((m : Int) % 2 != 0) = true := by simp; omega
  have r6 : (r : Int) < 16 := by omega
  have i6 : (i : Int) < 16 := by omega
  have HI : Hid (i = m / 16 ∧ r = m % 16 ∧ i < 16) := ⟨hi, hr, by omega⟩
  clear hi hr hp
  go_enter Try.func5, Try.ntmps5
  go_wp2_with fail
  refine (digits_any a _).mono ?_
  rintro e w1 ⟨v1, rfl, d1, hb1⟩
  have hz1 := hb1.size
  simp only [World.size_alloc] at hz1
  have A1 : Num4 w1 w.heap.size a := by ((repeat' (first | assumption | (refine Num4.new' ?_; first | omega | (simp; done)) | refine Num4.set ?_ ?_ | refine Num4.alloc ?_ ?_ | refine Num4.drewN ?_ | refine Num4.call ?_ (by assumption) ?_)) <;> (first | omega | (simp; done) | (simp; omega)))
  have B1 : Num4 w1 (w.heap.size + 1) b := by ((repeat' (first | assumption | (refine Num4.new' ?_; first | omega | (simp; done)) | refine Num4.set ?_ ?_ | refine Num4.alloc ?_ ?_ | refine Num4.drewN ?_ | refine Num4.call ?_ (by assumption) ?_)) <;> (first | omega | (simp; done) | (simp; omega)))
  obtain ⟨a10, a11, a12, a13⟩ := A1.facts
  obtain ⟨b10, b11, b12, b13⟩ := B1.facts
  have z1 : w.heap.size < w1.heap.size := by omega
  have y1 : w.heap.size + 1 < w1.heap.size := by omega
  rcases d1 with ⟨_, h0⟩ | ⟨g, cap, rfl, hg, hcl⟩
  · have := digL_length a 16; rw [h0] at this; simp at this
  have gc : w1.cell? ⟨g, i, none⟩ = some (.int .i64 (dget (digL a 16) i : Nat)) := hcl i (by rw [digL_length]; exact HI.out.2.2)
  rw [digL_length]
  clear hcl
  go_wp2_with fail
  rw [want_eq a m i r HI.out]
  obtain ⟨X, hX⟩ : ∃ X, X = (w1.alloc (.cells #[.int .u64 (limb a 0 : Nat), .int .u64 (limb a 1 : Nat), .int .u64 (limb a 2 : Nat), .int .u64 (limb a 3 : Nat)] 24)) := ⟨_, rfl⟩
  rw [← hX]
  have AX : Num4 X w.heap.size a := by rw [hX]; ((repeat' (first | assumption | (refine Num4.new' ?_; first | omega | (simp; done)) | refine Num4.set ?_ ?_ | refine Num4.alloc ?_ ?_ | refine Num4.drewN ?_ | refine Num4.call ?_ (by assumption) ?_)) <;> (first | omega | (simp; done) | (simp; omega)))
  have BX : Num4 X (w.heap.size + 1) b := by rw [hX]; ((repeat' (first | assumption | (refine Num4.new' ?_; first | omega | (simp; done)) | refine Num4.set ?_ ?_ | refine Num4.alloc ?_ ?_ | refine Num4.drewN ?_ | refine Num4.call ?_ (by assumption) ?_)) <;> (first | omega | (simp; done) | (simp; omega)))
  have PX : Num4 X w1.heap.size a := by rw [hX]; ((repeat' (first | assumption | (refine Num4.new' ?_; first | omega | (simp; done)) | refine Num4.set ?_ ?_ | refine Num4.alloc ?_ ?_ | refine Num4.drewN ?_ | refine Num4.call ?_ (by assumption) ?_)) <;> (first | omega | (simp; done) | (simp; omega)))
  have WX : Below w.heap.size w X := by rw [hX]; ((repeat' (first | with_reducible exact Below.refl _ _ | with_reducible refine Below.setCell ?_ ?_ _ | with_reducible refine below_alloc0 ?_ _ | with_reducible refine below_drewN ?_ _ | with_reducible refine Below.drew ?_ | refine below_call0 ?_ (by assumption))) <;> (first | omega | (simp; done) | (simp; omega)))
  have ZX : w1.heap.size < X.heap.size := by rw [hX]; simp
  have zx : w.heap.size + 1 < X.heap.size := by omega
  clear hX
  have KS : ∀ w', Below X.heap.size X w' → (Below X.heap.size X w' ∧ (w'.cell? ⟨w.heap.size, 0, none⟩ = some (.int .u64 (limb (a) 0 : Nat)) ∧ w'.cell? ⟨w.heap.size, 1, none⟩ = some (.int .u64 (limb (a) 1 : Nat)) ∧ w'.cell? ⟨w.heap.size, 2, none⟩ = some (.int .u64 (limb (a) 2 : Nat)) ∧ w'.cell? ⟨w.heap.size, 3, none⟩ = some (.int .u64 (limb (a) 3 : Nat))) ∧ (w'.cell? ⟨w.heap.size + 1, 0, none⟩ = some (.int .u64 (limb (b) 0 : Nat)) ∧ w'.cell? ⟨w.heap.size + 1, 1, none⟩ = some (.int .u64 (limb (b) 1 : Nat)) ∧ w'.cell? ⟨w.heap.size + 1, 2, none⟩ = some (.int .u64 (limb (b) 2 : Nat)) ∧ w'.cell? ⟨w.heap.size + 1, 3, none⟩ = some (.int .u64 (limb (b) 3 : Nat))) ∧ (w'.cell? ⟨w1.heap.size, 0, none⟩ = some (.int .u64 (limb (a) 0 : Nat)) ∧ w'.cell? ⟨w1.heap.size, 1, none⟩ = some (.int .u64 (limb (a) 1 : Nat)) ∧ w'.cell? ⟨w1.heap.size, 2, none⟩ = some (.int .u64 (limb (a) 2 : Nat)) ∧ w'.cell? ⟨w1.heap.size, 3, none⟩ = some (.int .u64 (limb (a) 3 : Nat)))) := fun w' h =>
    ⟨h, (AX.call h (by omega)).facts, (BX.call h (by omega)).facts, (PX.call h (by omega)).facts⟩
  have HK : Hid _ := KS
  clear KS AX BX PX hb1 A1 B1 a10 a11 a12 a13 b10 b11 b12 b13 gc hg
  go_region_held3 (fun w' => Below X.heap.size X w' ∧ (w'.cell? ⟨w.heap.size, 0, none⟩ = some (.int .u64 (limb (a) 0 : Nat)) ∧ w'.cell? ⟨w.heap.size, 1, none⟩ = some (.int .u64 (limb (a) 1 : Nat)) ∧ w'.cell? ⟨w.heap.size, 2, none⟩ = some (.int .u64 (limb (a) 2 : Nat)) ∧ w'.cell? ⟨w.heap.size, 3, none⟩ = some (.int .u64 (limb (a) 3 : Nat))) ∧ (w'.cell? ⟨w.heap.size + 1, 0, none⟩ = some (.int .u64 (limb (b) 0 : Nat)) ∧ w'.cell? ⟨w.heap.size + 1, 1, none⟩ = some (.int .u64 (limb (b) 1 : Nat)) ∧ w'.cell? ⟨w.heap.size + 1, 2, none⟩ = some (.int .u64 (limb (b) 2 : Nat)) ∧ w'.cell? ⟨w.heap.size + 1, 3, none⟩ = some (.int .u64 (limb (b) 3 : Nat))) ∧ (w'.cell? ⟨w1.heap.size, 0, none⟩ = some (.int .u64 (limb (a) 0 : Nat)) ∧ w'.cell? ⟨w1.heap.size, 1, none⟩ = some (.int .u64 (limb (a) 1 : Nat)) ∧ w'.cell? ⟨w1.heap.size, 2, none⟩ = some (.int .u64 (limb (a) 2 : Nat)) ∧ w'.cell? ⟨w1.heap.size, 3, none⟩ = some (.int .u64 (limb (a) 3 : Nat))))
    ((refine HK.out _ ?_; ((repeat' (first | with_reducible exact Below.refl _ _ | exact (And.left (by assumption)) | with_reducible refine Below.setCell ?_ ?_ _ | with_reducible refine below_alloc0 ?_ _ | with_reducible refine below_drewN ?_ _ | with_reducible refine Below.drew ?_ | refine below_call0 ?_ (by assumption))) <;> (first | omega | (simp; done) | (simp; omega)))))
    (first
      | (go_at_call 20; refine (cmp_any a b ha hb _).mono ?_; rintro e w' ⟨rfl, hq⟩)
      | (go_at_call_of 12 (Value.int .u64 (limb a 0 : Nat)); refine (digits_any a _).mono ?_; rintro e w' ⟨va, rfl, da, hq⟩)
      | (go_at_call_of 12 (Value.int .u64 (limb b 0 : Nat)); refine (digits_any b _).mono ?_; rintro e w' ⟨vb, rfl, db, hq⟩; have da' := Dg.call ‹Dg _ _ (digL a 16)› hq)
      | (go_at_call 21; refine (compare_any _ _ (digL a 16) (digL b 16) (digL_ok a 16) (digL_ok b 16) (by rw [digL_length]; omega) (by rw [digL_length]; omega) _ ‹Dg _ _ (digL a 16)› ‹Dg _ _ (digL b 16)›).mono ?_; rw [dval_digL16 a ha, dval_digL16 b hb]; rintro e w' ⟨rfl, rfl⟩)
      | (go_at_call 22; refine (HS.out _).mono ?_; rintro e w' ⟨rfl, hq⟩)
      | (go_at_call 23; refine (HB.out _).mono ?_; rintro e w' ⟨rfl, hq⟩)
      | (go_at_call 15; refine (turns_any _).mono ?_; rintro e w' ⟨rfl, hq⟩))
  go_wp2
  go_ret
  exact ⟨rfl, below_call0 WX (And.left (by assumption))⟩

set_option maxRecDepth 100000 in
set_option maxHeartbeats 2000000 in
theorem picks_in_even (a b m : Nat) (ha : a < R256) (hb : b < R256) (hm : m < 256) (hp : m % 2 = 0) (w : World) :
    Calls Try.prog 5 #[.agg #[.int .u64 (limb (a) 0 : Nat), .int .u64 (limb (a) 1 : Nat), .int .u64 (limb (a) 2 : Nat), .int .u64 (limb (a) 3 : Nat)], .agg #[.int .u64 (limb (b) 0 : Nat), .int .u64 (limb (b) 1 : Nat), .int .u64 (limb (b) 2 : Nat), .int .u64 (limb (b) 3 : Nat)], .int .i64 m] w fun e w' => e = .returned (.bool true) ∧ Below w.heap.size w w' := by
  have qa : eq4 (limb a 0 : Nat) (limb a 1 : Nat) (limb a 2 : Nat) (limb a 3 : Nat) (limb a 0 : Nat) (limb a 1 : Nat) (limb a 2 : Nat) (limb a 3 : Nat) = true := by simp [eq4]
  have qb : eq4 (limb b 0 : Nat) (limb b 1 : Nat) (limb b 2 : Nat) (limb b 3 : Nat) (limb b 0 : Nat) (limb b 1 : Nat) (limb b 2 : Nat) (limb b 3 : Nat) = true := by simp [eq4]
  have HB : Hid _ := fun w => bit_in a m hm w
  have HS : Hid _ := fun w => select_even m a b (by omega) hp w
  obtain ⟨i, hi⟩ : ∃ i, i = m / 16 := ⟨_, rfl⟩
  obtain ⟨r, hr⟩ : ∃ r, r = m % 16 := ⟨_, rfl⟩
  have e0 : IntKind.u64.wrap (m : Int) = (m : Nat) := by rw [IntKind.wrap_u64]; omega
  have e1 : (m : Int).tdiv 16 = (i : Nat) := by rw [Int.tdiv_eq_ediv_of_nonneg (by omega)]; omega
  have e2 : (m : Int) / 16 = (i : Nat) := by omega
  have e3 : (m : Int).tmod 16 = (r : Nat) := by rw [Int.tmod_eq_emod_of_nonneg (by omega)]; omega
  have e4 : (m : Int) % 16 = (r : Nat) := by omega
  have e5 : ((m : Int).tmod 2 != 0) = false := by rw [Int.tmod_eq_emod_of_nonneg (by omega)]; simp; omega
  have e6 : ((m : Int) % 2 != 0) = false := by simp; omega
  have r6 : (r : Int) < 16 := by omega
  have i6 : (i : Int) < 16 := by omega
  have HI : Hid (i = m / 16 ∧ r = m % 16 ∧ i < 16) := ⟨hi, hr, by omega⟩
  clear hi hr hp
  go_enter Try.func5, Try.ntmps5
  go_wp2_with fail
  refine (digits_any a _).mono ?_
  rintro e w1 ⟨v1, rfl, d1, hb1⟩
  have hz1 := hb1.size
  simp only [World.size_alloc] at hz1
  have A1 : Num4 w1 w.heap.size a := by ((repeat' (first | assumption | (refine Num4.new' ?_; first | omega | (simp; done)) | refine Num4.set ?_ ?_ | refine Num4.alloc ?_ ?_ | refine Num4.drewN ?_ | refine Num4.call ?_ (by assumption) ?_)) <;> (first | omega | (simp; done) | (simp; omega)))
  have B1 : Num4 w1 (w.heap.size + 1) b := by ((repeat' (first | assumption | (refine Num4.new' ?_; first | omega | (simp; done)) | refine Num4.set ?_ ?_ | refine Num4.alloc ?_ ?_ | refine Num4.drewN ?_ | refine Num4.call ?_ (by assumption) ?_)) <;> (first | omega | (simp; done) | (simp; omega)))
  obtain ⟨a10, a11, a12, a13⟩ := A1.facts
  obtain ⟨b10, b11, b12, b13⟩ := B1.facts
  have z1 : w.heap.size < w1.heap.size := by omega
  have y1 : w.heap.size + 1 < w1.heap.size := by omega
  rcases d1 with ⟨_, h0⟩ | ⟨g, cap, rfl, hg, hcl⟩
  · have := digL_length a 16; rw [h0] at this; simp at this
  have gc : w1.cell? ⟨g, i, none⟩ = some (.int .i64 (dget (digL a 16) i : Nat)) := hcl i (by rw [digL_length]; exact HI.out.2.2)
  rw [digL_length]
  clear hcl
  go_wp2_with fail
  rw [want_eq a m i r HI.out]
  obtain ⟨X, hX⟩ : ∃ X, X = (w1.alloc (.cells #[.int .u64 (limb b 0 : Nat), .int .u64 (limb b 1 : Nat), .int .u64 (limb b 2 : Nat), .int .u64 (limb b 3 : Nat)] 24)) := ⟨_, rfl⟩
  rw [← hX]
  have AX : Num4 X w.heap.size a := by rw [hX]; ((repeat' (first | assumption | (refine Num4.new' ?_; first | omega | (simp; done)) | refine Num4.set ?_ ?_ | refine Num4.alloc ?_ ?_ | refine Num4.drewN ?_ | refine Num4.call ?_ (by assumption) ?_)) <;> (first | omega | (simp; done) | (simp; omega)))
  have BX : Num4 X (w.heap.size + 1) b := by rw [hX]; ((repeat' (first | assumption | (refine Num4.new' ?_; first | omega | (simp; done)) | refine Num4.set ?_ ?_ | refine Num4.alloc ?_ ?_ | refine Num4.drewN ?_ | refine Num4.call ?_ (by assumption) ?_)) <;> (first | omega | (simp; done) | (simp; omega)))
  have PX : Num4 X w1.heap.size b := by rw [hX]; ((repeat' (first | assumption | (refine Num4.new' ?_; first | omega | (simp; done)) | refine Num4.set ?_ ?_ | refine Num4.alloc ?_ ?_ | refine Num4.drewN ?_ | refine Num4.call ?_ (by assumption) ?_)) <;> (first | omega | (simp; done) | (simp; omega)))
  have WX : Below w.heap.size w X := by rw [hX]; ((repeat' (first | with_reducible exact Below.refl _ _ | with_reducible refine Below.setCell ?_ ?_ _ | with_reducible refine below_alloc0 ?_ _ | with_reducible refine below_drewN ?_ _ | with_reducible refine Below.drew ?_ | refine below_call0 ?_ (by assumption))) <;> (first | omega | (simp; done) | (simp; omega)))
  have ZX : w1.heap.size < X.heap.size := by rw [hX]; simp
  have zx : w.heap.size + 1 < X.heap.size := by omega
  clear hX
  have KS : ∀ w', Below X.heap.size X w' → (Below X.heap.size X w' ∧ (w'.cell? ⟨w.heap.size, 0, none⟩ = some (.int .u64 (limb (a) 0 : Nat)) ∧ w'.cell? ⟨w.heap.size, 1, none⟩ = some (.int .u64 (limb (a) 1 : Nat)) ∧ w'.cell? ⟨w.heap.size, 2, none⟩ = some (.int .u64 (limb (a) 2 : Nat)) ∧ w'.cell? ⟨w.heap.size, 3, none⟩ = some (.int .u64 (limb (a) 3 : Nat))) ∧ (w'.cell? ⟨w.heap.size + 1, 0, none⟩ = some (.int .u64 (limb (b) 0 : Nat)) ∧ w'.cell? ⟨w.heap.size + 1, 1, none⟩ = some (.int .u64 (limb (b) 1 : Nat)) ∧ w'.cell? ⟨w.heap.size + 1, 2, none⟩ = some (.int .u64 (limb (b) 2 : Nat)) ∧ w'.cell? ⟨w.heap.size + 1, 3, none⟩ = some (.int .u64 (limb (b) 3 : Nat))) ∧ (w'.cell? ⟨w1.heap.size, 0, none⟩ = some (.int .u64 (limb (b) 0 : Nat)) ∧ w'.cell? ⟨w1.heap.size, 1, none⟩ = some (.int .u64 (limb (b) 1 : Nat)) ∧ w'.cell? ⟨w1.heap.size, 2, none⟩ = some (.int .u64 (limb (b) 2 : Nat)) ∧ w'.cell? ⟨w1.heap.size, 3, none⟩ = some (.int .u64 (limb (b) 3 : Nat)))) := fun w' h =>
    ⟨h, (AX.call h (by omega)).facts, (BX.call h (by omega)).facts, (PX.call h (by omega)).facts⟩
  have HK : Hid _ := KS
  clear KS AX BX PX hb1 A1 B1 a10 a11 a12 a13 b10 b11 b12 b13 gc hg
  go_region_held3 (fun w' => Below X.heap.size X w' ∧ (w'.cell? ⟨w.heap.size, 0, none⟩ = some (.int .u64 (limb (a) 0 : Nat)) ∧ w'.cell? ⟨w.heap.size, 1, none⟩ = some (.int .u64 (limb (a) 1 : Nat)) ∧ w'.cell? ⟨w.heap.size, 2, none⟩ = some (.int .u64 (limb (a) 2 : Nat)) ∧ w'.cell? ⟨w.heap.size, 3, none⟩ = some (.int .u64 (limb (a) 3 : Nat))) ∧ (w'.cell? ⟨w.heap.size + 1, 0, none⟩ = some (.int .u64 (limb (b) 0 : Nat)) ∧ w'.cell? ⟨w.heap.size + 1, 1, none⟩ = some (.int .u64 (limb (b) 1 : Nat)) ∧ w'.cell? ⟨w.heap.size + 1, 2, none⟩ = some (.int .u64 (limb (b) 2 : Nat)) ∧ w'.cell? ⟨w.heap.size + 1, 3, none⟩ = some (.int .u64 (limb (b) 3 : Nat))) ∧ (w'.cell? ⟨w1.heap.size, 0, none⟩ = some (.int .u64 (limb (b) 0 : Nat)) ∧ w'.cell? ⟨w1.heap.size, 1, none⟩ = some (.int .u64 (limb (b) 1 : Nat)) ∧ w'.cell? ⟨w1.heap.size, 2, none⟩ = some (.int .u64 (limb (b) 2 : Nat)) ∧ w'.cell? ⟨w1.heap.size, 3, none⟩ = some (.int .u64 (limb (b) 3 : Nat))))
    ((refine HK.out _ ?_; ((repeat' (first | with_reducible exact Below.refl _ _ | exact (And.left (by assumption)) | with_reducible refine Below.setCell ?_ ?_ _ | with_reducible refine below_alloc0 ?_ _ | with_reducible refine below_drewN ?_ _ | with_reducible refine Below.drew ?_ | refine below_call0 ?_ (by assumption))) <;> (first | omega | (simp; done) | (simp; omega)))))
    (first
      | (go_at_call 20; refine (cmp_any a b ha hb _).mono ?_; rintro e w' ⟨rfl, hq⟩)
      | (go_at_call_of 12 (Value.int .u64 (limb a 0 : Nat)); refine (digits_any a _).mono ?_; rintro e w' ⟨va, rfl, da, hq⟩)
      | (go_at_call_of 12 (Value.int .u64 (limb b 0 : Nat)); refine (digits_any b _).mono ?_; rintro e w' ⟨vb, rfl, db, hq⟩; have da' := Dg.call ‹Dg _ _ (digL a 16)› hq)
      | (go_at_call 21; refine (compare_any _ _ (digL a 16) (digL b 16) (digL_ok a 16) (digL_ok b 16) (by rw [digL_length]; omega) (by rw [digL_length]; omega) _ ‹Dg _ _ (digL a 16)› ‹Dg _ _ (digL b 16)›).mono ?_; rw [dval_digL16 a ha, dval_digL16 b hb]; rintro e w' ⟨rfl, rfl⟩)
      | (go_at_call 22; refine (HS.out _).mono ?_; rintro e w' ⟨rfl, hq⟩)
      | (go_at_call 23; refine (HB.out _).mono ?_; rintro e w' ⟨rfl, hq⟩)
      | (go_at_call 15; refine (turns_any _).mono ?_; rintro e w' ⟨rfl, hq⟩))
  go_wp2
  go_ret
  exact ⟨rfl, below_call0 WX (And.left (by assumption))⟩

theorem limbPicks_any (a b : Nat) (n : Int) (ha : a < R256) (hb : b < R256) (w : World) :
    Calls Try.prog 5 #[.agg #[.int .u64 (limb (a) 0 : Nat), .int .u64 (limb (a) 1 : Nat), .int .u64 (limb (a) 2 : Nat), .int .u64 (limb (a) 3 : Nat)], .agg #[.int .u64 (limb (b) 0 : Nat), .int .u64 (limb (b) 1 : Nat), .int .u64 (limb (b) 2 : Nat), .int .u64 (limb (b) 3 : Nat)], .int .i64 n] w fun e w' => e = .returned (.bool true) ∧ Below w.heap.size w w' := by
  by_cases hin : 0 ≤ n ∧ n ≤ 255
  · obtain ⟨m, rfl⟩ := Int.eq_ofNat_of_zero_le hin.1
    rcases Nat.mod_two_eq_zero_or_one m with h | h
    · exact picks_in_even a b m ha hb (by omega) h w
    · exact picks_in_odd a b m ha hb (by omega) h w
  · rcases Int.emod_two_eq n with h | h
    · exact picks_out_even a b n ha hb (by omega) h w
    · exact picks_out_odd a b n ha hb (by omega) h w
end Go.Proofs.Ytpedidldhlldfaa
