/- limb.Mont.has: whether a number is below the modulus. -/
import Derived.Test.YtaigpginoakdfaaStrip
import Derived.Test.YtaigpginoakdfaaCmp
import Derived.Test.YtaigpginoakdfaaMul
namespace Go.Proofs.Ytaigpginoakdfaa
open Go.RowKit

set_option maxHeartbeats 1000000 in
theorem has_in (g m s c a : Nat) (ha : a < R256) (hm : m < R256) (h : a < m) (w : World) (hM : MontB w g m s c) :
    Calls Try.prog 47 #[.pointer (some ⟨g, 0, none⟩), .agg #[.int .u64 (limb (a) 0 : Nat), .int .u64 (limb (a) 1 : Nat), .int .u64 (limb (a) 2 : Nat), .int .u64 (limb (a) 3 : Nat)]] w fun e w' => e = .returned (.bool true) ∧ Below w.heap.size w w' := by
  have k1 : ∀ w, Calls Try.prog 20 #[.agg #[.int .u64 (limb (a) 0 : Nat), .int .u64 (limb (a) 1 : Nat), .int .u64 (limb (a) 2 : Nat), .int .u64 (limb (a) 3 : Nat)], .agg #[.int .u64 (limb (m) 0 : Nat), .int .u64 (limb (m) 1 : Nat), .int .u64 (limb (m) 2 : Nat), .int .u64 (limb (m) 3 : Nat)]] w fun e w' => e = .returned (.int .i64 (-1)) ∧ Below w.heap.size w w' := fun w => by
    have g := cmp_any a m ha hm w
    rw [show cmpN a m = (-1) from cmpN_lt h] at g
    exact g
  have K1 : Hid _ := k1
  have HM1 : Hid _ := hM.1
  have hg := hM.2.2.2
  clear k1 h hM
  go_enter Try.func47, Try.ntmps47
  go_wp2_with fail
  obtain ⟨X, hX⟩ : ∃ X, X = w.alloc (.cells #[.int .u64 (limb a 0 : Nat), .int .u64 (limb a 1 : Nat), .int .u64 (limb a 2 : Nat), .int .u64 (limb a 3 : Nat)] 24) := ⟨_, rfl⟩
  rw [← hX]
  have AX : Num4 X w.heap.size a := by rw [hX]; ((repeat' (first | assumption | (refine Num4.new' ?_; first | omega | (simp; done)) | refine Num4.set ?_ ?_ | refine Num4.alloc ?_ ?_ | refine Num4.drewN ?_ | refine Num4.call ?_ (by assumption) ?_)) <;> (first | omega | (simp; done) | (simp; omega)))
  have WX : Below w.heap.size w X := by rw [hX]; ((repeat' (first | with_reducible exact Below.refl _ _ | with_reducible refine Below.setCell ?_ ?_ _ | with_reducible refine below_alloc0 ?_ _ | with_reducible refine below_drewN ?_ _ | with_reducible refine Below.drew ?_ | refine below_call0 ?_ (by assumption))) <;> (first | omega | (simp; done) | (simp; omega)))
  have MX : Num4 X g m := by rw [hX]; exact Num4.alloc HM1.out hg
  have zx : w.heap.size < X.heap.size := by rw [hX]; simp
  clear hX
  have HK : Hid (∀ w', Below X.heap.size X w' → (Below X.heap.size X w' ∧ (w'.cell? ⟨w.heap.size, 0, none⟩ = some (.int .u64 (limb (a) 0 : Nat)) ∧ w'.cell? ⟨w.heap.size, 1, none⟩ = some (.int .u64 (limb (a) 1 : Nat)) ∧ w'.cell? ⟨w.heap.size, 2, none⟩ = some (.int .u64 (limb (a) 2 : Nat)) ∧ w'.cell? ⟨w.heap.size, 3, none⟩ = some (.int .u64 (limb (a) 3 : Nat))) ∧ (w'.cell? ⟨g, 0, none⟩ = some (.int .u64 (limb (m) 0 : Nat)) ∧ w'.cell? ⟨g, 1, none⟩ = some (.int .u64 (limb (m) 1 : Nat)) ∧ w'.cell? ⟨g, 2, none⟩ = some (.int .u64 (limb (m) 2 : Nat)) ∧ w'.cell? ⟨g, 3, none⟩ = some (.int .u64 (limb (m) 3 : Nat))))) := fun w' h => ⟨h, (AX.call h (by omega)).facts, (MX.call h (by omega)).facts⟩
  clear AX MX
  go_region_held3 (fun w' => Below X.heap.size X w' ∧ (w'.cell? ⟨w.heap.size, 0, none⟩ = some (.int .u64 (limb (a) 0 : Nat)) ∧ w'.cell? ⟨w.heap.size, 1, none⟩ = some (.int .u64 (limb (a) 1 : Nat)) ∧ w'.cell? ⟨w.heap.size, 2, none⟩ = some (.int .u64 (limb (a) 2 : Nat)) ∧ w'.cell? ⟨w.heap.size, 3, none⟩ = some (.int .u64 (limb (a) 3 : Nat))) ∧ (w'.cell? ⟨g, 0, none⟩ = some (.int .u64 (limb (m) 0 : Nat)) ∧ w'.cell? ⟨g, 1, none⟩ = some (.int .u64 (limb (m) 1 : Nat)) ∧ w'.cell? ⟨g, 2, none⟩ = some (.int .u64 (limb (m) 2 : Nat)) ∧ w'.cell? ⟨g, 3, none⟩ = some (.int .u64 (limb (m) 3 : Nat))))
    ((refine HK.out _ ?_; ((repeat' (first | with_reducible exact Below.refl _ _ | exact (And.left (by assumption)) | with_reducible refine Below.setCell ?_ ?_ _ | with_reducible refine below_alloc0 ?_ _ | with_reducible refine below_drewN ?_ _ | with_reducible refine Below.drew ?_ | refine below_call0 ?_ (by assumption))) <;> (first | omega | (simp; done) | (simp; omega)))))
    (first | (go_at_call 20; refine (K1.out _).mono ?_; rintro e w' ⟨rfl, hq⟩))
  go_wp2
  go_ret
  exact ⟨rfl, below_call0 WX (And.left (by assumption))⟩

set_option maxHeartbeats 1000000 in
theorem has_gt (g m s c a : Nat) (ha : a < R256) (hm : m < R256) (h : m < a) (w : World) (hM : MontB w g m s c) :
    Calls Try.prog 47 #[.pointer (some ⟨g, 0, none⟩), .agg #[.int .u64 (limb (a) 0 : Nat), .int .u64 (limb (a) 1 : Nat), .int .u64 (limb (a) 2 : Nat), .int .u64 (limb (a) 3 : Nat)]] w fun e w' => e = .returned (.bool false) ∧ Below w.heap.size w w' := by
  have k1 : ∀ w, Calls Try.prog 20 #[.agg #[.int .u64 (limb (a) 0 : Nat), .int .u64 (limb (a) 1 : Nat), .int .u64 (limb (a) 2 : Nat), .int .u64 (limb (a) 3 : Nat)], .agg #[.int .u64 (limb (m) 0 : Nat), .int .u64 (limb (m) 1 : Nat), .int .u64 (limb (m) 2 : Nat), .int .u64 (limb (m) 3 : Nat)]] w fun e w' => e = .returned (.int .i64 (1)) ∧ Below w.heap.size w w' := fun w => by
    have g := cmp_any a m ha hm w
    rw [show cmpN a m = (1) from cmpN_gt h] at g
    exact g
  have K1 : Hid _ := k1
  have HM1 : Hid _ := hM.1
  have hg := hM.2.2.2
  clear k1 h hM
  go_enter Try.func47, Try.ntmps47
  go_wp2_with fail
  obtain ⟨X, hX⟩ : ∃ X, X = w.alloc (.cells #[.int .u64 (limb a 0 : Nat), .int .u64 (limb a 1 : Nat), .int .u64 (limb a 2 : Nat), .int .u64 (limb a 3 : Nat)] 24) := ⟨_, rfl⟩
  rw [← hX]
  have AX : Num4 X w.heap.size a := by rw [hX]; ((repeat' (first | assumption | (refine Num4.new' ?_; first | omega | (simp; done)) | refine Num4.set ?_ ?_ | refine Num4.alloc ?_ ?_ | refine Num4.drewN ?_ | refine Num4.call ?_ (by assumption) ?_)) <;> (first | omega | (simp; done) | (simp; omega)))
  have WX : Below w.heap.size w X := by rw [hX]; ((repeat' (first | with_reducible exact Below.refl _ _ | with_reducible refine Below.setCell ?_ ?_ _ | with_reducible refine below_alloc0 ?_ _ | with_reducible refine below_drewN ?_ _ | with_reducible refine Below.drew ?_ | refine below_call0 ?_ (by assumption))) <;> (first | omega | (simp; done) | (simp; omega)))
  have MX : Num4 X g m := by rw [hX]; exact Num4.alloc HM1.out hg
  have zx : w.heap.size < X.heap.size := by rw [hX]; simp
  clear hX
  have HK : Hid (∀ w', Below X.heap.size X w' → (Below X.heap.size X w' ∧ (w'.cell? ⟨w.heap.size, 0, none⟩ = some (.int .u64 (limb (a) 0 : Nat)) ∧ w'.cell? ⟨w.heap.size, 1, none⟩ = some (.int .u64 (limb (a) 1 : Nat)) ∧ w'.cell? ⟨w.heap.size, 2, none⟩ = some (.int .u64 (limb (a) 2 : Nat)) ∧ w'.cell? ⟨w.heap.size, 3, none⟩ = some (.int .u64 (limb (a) 3 : Nat))) ∧ (w'.cell? ⟨g, 0, none⟩ = some (.int .u64 (limb (m) 0 : Nat)) ∧ w'.cell? ⟨g, 1, none⟩ = some (.int .u64 (limb (m) 1 : Nat)) ∧ w'.cell? ⟨g, 2, none⟩ = some (.int .u64 (limb (m) 2 : Nat)) ∧ w'.cell? ⟨g, 3, none⟩ = some (.int .u64 (limb (m) 3 : Nat))))) := fun w' h => ⟨h, (AX.call h (by omega)).facts, (MX.call h (by omega)).facts⟩
  clear AX MX
  go_region_held3 (fun w' => Below X.heap.size X w' ∧ (w'.cell? ⟨w.heap.size, 0, none⟩ = some (.int .u64 (limb (a) 0 : Nat)) ∧ w'.cell? ⟨w.heap.size, 1, none⟩ = some (.int .u64 (limb (a) 1 : Nat)) ∧ w'.cell? ⟨w.heap.size, 2, none⟩ = some (.int .u64 (limb (a) 2 : Nat)) ∧ w'.cell? ⟨w.heap.size, 3, none⟩ = some (.int .u64 (limb (a) 3 : Nat))) ∧ (w'.cell? ⟨g, 0, none⟩ = some (.int .u64 (limb (m) 0 : Nat)) ∧ w'.cell? ⟨g, 1, none⟩ = some (.int .u64 (limb (m) 1 : Nat)) ∧ w'.cell? ⟨g, 2, none⟩ = some (.int .u64 (limb (m) 2 : Nat)) ∧ w'.cell? ⟨g, 3, none⟩ = some (.int .u64 (limb (m) 3 : Nat))))
    ((refine HK.out _ ?_; ((repeat' (first | with_reducible exact Below.refl _ _ | exact (And.left (by assumption)) | with_reducible refine Below.setCell ?_ ?_ _ | with_reducible refine below_alloc0 ?_ _ | with_reducible refine below_drewN ?_ _ | with_reducible refine Below.drew ?_ | refine below_call0 ?_ (by assumption))) <;> (first | omega | (simp; done) | (simp; omega)))))
    (first | (go_at_call 20; refine (K1.out _).mono ?_; rintro e w' ⟨rfl, hq⟩))
  go_wp2
  go_ret
  exact ⟨rfl, below_call0 WX (And.left (by assumption))⟩

set_option maxHeartbeats 1000000 in
theorem has_eq (g m s c a : Nat) (ha : a < R256) (hm : m < R256) (h : a = m) (w : World) (hM : MontB w g m s c) :
    Calls Try.prog 47 #[.pointer (some ⟨g, 0, none⟩), .agg #[.int .u64 (limb (a) 0 : Nat), .int .u64 (limb (a) 1 : Nat), .int .u64 (limb (a) 2 : Nat), .int .u64 (limb (a) 3 : Nat)]] w fun e w' => e = .returned (.bool false) ∧ Below w.heap.size w w' := by
  have k1 : ∀ w, Calls Try.prog 20 #[.agg #[.int .u64 (limb (a) 0 : Nat), .int .u64 (limb (a) 1 : Nat), .int .u64 (limb (a) 2 : Nat), .int .u64 (limb (a) 3 : Nat)], .agg #[.int .u64 (limb (m) 0 : Nat), .int .u64 (limb (m) 1 : Nat), .int .u64 (limb (m) 2 : Nat), .int .u64 (limb (m) 3 : Nat)]] w fun e w' => e = .returned (.int .i64 (0)) ∧ Below w.heap.size w w' := fun w => by
    have g := cmp_any a m ha hm w
    rw [show cmpN a m = (0) from (by rw [h]; exact cmpN_self m)] at g
    exact g
  have K1 : Hid _ := k1
  have HM1 : Hid _ := hM.1
  have hg := hM.2.2.2
  clear k1 h hM
  go_enter Try.func47, Try.ntmps47
  go_wp2_with fail
  obtain ⟨X, hX⟩ : ∃ X, X = w.alloc (.cells #[.int .u64 (limb a 0 : Nat), .int .u64 (limb a 1 : Nat), .int .u64 (limb a 2 : Nat), .int .u64 (limb a 3 : Nat)] 24) := ⟨_, rfl⟩
  rw [← hX]
  have AX : Num4 X w.heap.size a := by rw [hX]; ((repeat' (first | assumption | (refine Num4.new' ?_; first | omega | (simp; done)) | refine Num4.set ?_ ?_ | refine Num4.alloc ?_ ?_ | refine Num4.drewN ?_ | refine Num4.call ?_ (by assumption) ?_)) <;> (first | omega | (simp; done) | (simp; omega)))
  have WX : Below w.heap.size w X := by rw [hX]; ((repeat' (first | with_reducible exact Below.refl _ _ | with_reducible refine Below.setCell ?_ ?_ _ | with_reducible refine below_alloc0 ?_ _ | with_reducible refine below_drewN ?_ _ | with_reducible refine Below.drew ?_ | refine below_call0 ?_ (by assumption))) <;> (first | omega | (simp; done) | (simp; omega)))
  have MX : Num4 X g m := by rw [hX]; exact Num4.alloc HM1.out hg
  have zx : w.heap.size < X.heap.size := by rw [hX]; simp
  clear hX
  have HK : Hid (∀ w', Below X.heap.size X w' → (Below X.heap.size X w' ∧ (w'.cell? ⟨w.heap.size, 0, none⟩ = some (.int .u64 (limb (a) 0 : Nat)) ∧ w'.cell? ⟨w.heap.size, 1, none⟩ = some (.int .u64 (limb (a) 1 : Nat)) ∧ w'.cell? ⟨w.heap.size, 2, none⟩ = some (.int .u64 (limb (a) 2 : Nat)) ∧ w'.cell? ⟨w.heap.size, 3, none⟩ = some (.int .u64 (limb (a) 3 : Nat))) ∧ (w'.cell? ⟨g, 0, none⟩ = some (.int .u64 (limb (m) 0 : Nat)) ∧ w'.cell? ⟨g, 1, none⟩ = some (.int .u64 (limb (m) 1 : Nat)) ∧ w'.cell? ⟨g, 2, none⟩ = some (.int .u64 (limb (m) 2 : Nat)) ∧ w'.cell? ⟨g, 3, none⟩ = some (.int .u64 (limb (m) 3 : Nat))))) := fun w' h => ⟨h, (AX.call h (by omega)).facts, (MX.call h (by omega)).facts⟩
  clear AX MX
  go_region_held3 (fun w' => Below X.heap.size X w' ∧ (w'.cell? ⟨w.heap.size, 0, none⟩ = some (.int .u64 (limb (a) 0 : Nat)) ∧ w'.cell? ⟨w.heap.size, 1, none⟩ = some (.int .u64 (limb (a) 1 : Nat)) ∧ w'.cell? ⟨w.heap.size, 2, none⟩ = some (.int .u64 (limb (a) 2 : Nat)) ∧ w'.cell? ⟨w.heap.size, 3, none⟩ = some (.int .u64 (limb (a) 3 : Nat))) ∧ (w'.cell? ⟨g, 0, none⟩ = some (.int .u64 (limb (m) 0 : Nat)) ∧ w'.cell? ⟨g, 1, none⟩ = some (.int .u64 (limb (m) 1 : Nat)) ∧ w'.cell? ⟨g, 2, none⟩ = some (.int .u64 (limb (m) 2 : Nat)) ∧ w'.cell? ⟨g, 3, none⟩ = some (.int .u64 (limb (m) 3 : Nat))))
    ((refine HK.out _ ?_; ((repeat' (first | with_reducible exact Below.refl _ _ | exact (And.left (by assumption)) | with_reducible refine Below.setCell ?_ ?_ _ | with_reducible refine below_alloc0 ?_ _ | with_reducible refine below_drewN ?_ _ | with_reducible refine Below.drew ?_ | refine below_call0 ?_ (by assumption))) <;> (first | omega | (simp; done) | (simp; omega)))))
    (first | (go_at_call 20; refine (K1.out _).mono ?_; rintro e w' ⟨rfl, hq⟩))
  go_wp2
  go_ret
  exact ⟨rfl, below_call0 WX (And.left (by assumption))⟩

end Go.Proofs.Ytaigpginoakdfaa
