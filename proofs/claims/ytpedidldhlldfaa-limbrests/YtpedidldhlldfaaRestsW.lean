/- The walk of the statement LimbRests. -/
import Derived.Test.YtpedidldhlldfaaModR
import Derived.Test.YtpedidldhlldfaaModL
import Derived.Test.YtpedidldhlldfaaTurns
namespace Go.Proofs.Ytpedidldhlldfaa
open Go.RowKit
attribute [local go_sem] run_eq4

theorem limb_all0 : limb 0 0 = 0 ∧ limb 0 1 = 0 ∧ limb 0 2 = 0 ∧ limb 0 3 = 0 := by decide

set_option maxHeartbeats 1000000 in
theorem rests_go (V m r c : Nat) (k1 : ∀ w, Calls Try.prog 24 #[.agg #[.int .u64 (limb (V) 0 : Nat), .int .u64 (limb (V) 1 : Nat), .int .u64 (limb (V) 2 : Nat), .int .u64 (limb (V) 3 : Nat), .int .u64 (limb (V) 4 : Nat), .int .u64 (limb (V) 5 : Nat), .int .u64 (limb (V) 6 : Nat), .int .u64 (limb (V) 7 : Nat)], .agg #[.int .u64 (limb (m) 0 : Nat), .int .u64 (limb (m) 1 : Nat), .int .u64 (limb (m) 2 : Nat), .int .u64 (limb (m) 3 : Nat)]] w fun e w' => e = .returned (.tuple #[.agg #[.int .u64 (limb (r) 0 : Nat), .int .u64 (limb (r) 1 : Nat), .int .u64 (limb (r) 2 : Nat), .int .u64 (limb (r) 3 : Nat)], .int .i64 c]) ∧ Below w.heap.size w w')
    (k2 : ∀ w, Calls Try.prog 25 #[.agg #[.int .u64 (limb (V) 0 : Nat), .int .u64 (limb (V) 1 : Nat), .int .u64 (limb (V) 2 : Nat), .int .u64 (limb (V) 3 : Nat), .int .u64 (limb (V) 4 : Nat), .int .u64 (limb (V) 5 : Nat), .int .u64 (limb (V) 6 : Nat), .int .u64 (limb (V) 7 : Nat)], .agg #[.int .u64 (limb (m) 0 : Nat), .int .u64 (limb (m) 1 : Nat), .int .u64 (limb (m) 2 : Nat), .int .u64 (limb (m) 3 : Nat)]] w fun e w' => e = .returned (.tuple #[.agg #[.int .u64 (limb (r) 0 : Nat), .int .u64 (limb (r) 1 : Nat), .int .u64 (limb (r) 2 : Nat), .int .u64 (limb (r) 3 : Nat)], .int .i64 c]) ∧ Below w.heap.size w w') (w : World) :
    Calls Try.prog 6 #[.agg #[.int .u64 (limb (V) 0 : Nat), .int .u64 (limb (V) 1 : Nat), .int .u64 (limb (V) 2 : Nat), .int .u64 (limb (V) 3 : Nat), .int .u64 (limb (V) 4 : Nat), .int .u64 (limb (V) 5 : Nat), .int .u64 (limb (V) 6 : Nat), .int .u64 (limb (V) 7 : Nat)], .agg #[.int .u64 (limb (m) 0 : Nat), .int .u64 (limb (m) 1 : Nat), .int .u64 (limb (m) 2 : Nat), .int .u64 (limb (m) 3 : Nat)]] w fun e w' => e = .returned (.bool true) ∧ Below w.heap.size w w' := by
  have K1 : Hid _ := k1
  have K2 : Hid _ := k2
  have q : eq4 (limb r 0 : Nat) (limb r 1 : Nat) (limb r 2 : Nat) (limb r 3 : Nat) (limb r 0 : Nat) (limb r 1 : Nat) (limb r 2 : Nat) (limb r 3 : Nat) = true := by simp [eq4]
  clear k1 k2
  go_enter Try.func6, Try.ntmps6
  go_wp2_with fail
  obtain ⟨X, hX⟩ : ∃ X, X = (w.alloc (.cells #[.int .u64 (limb V 0 : Nat), .int .u64 (limb V 1 : Nat), .int .u64 (limb V 2 : Nat), .int .u64 (limb V 3 : Nat), .int .u64 (limb V 4 : Nat), .int .u64 (limb V 5 : Nat), .int .u64 (limb V 6 : Nat), .int .u64 (limb V 7 : Nat)] 34)).alloc (.cells #[.int .u64 (limb m 0 : Nat), .int .u64 (limb m 1 : Nat), .int .u64 (limb m 2 : Nat), .int .u64 (limb m 3 : Nat)] 24) := ⟨_, rfl⟩
  rw [← hX]
  have VX : Num8 X w.heap.size V := by rw [hX]; exact (Num8.new w V _).alloc (by simp)
  have MX : Num4 X (w.heap.size + 1) m := by rw [hX]; ((repeat' (first | assumption | (refine Num4.new' ?_; first | omega | (simp; done)) | refine Num4.set ?_ ?_ | refine Num4.alloc ?_ ?_ | refine Num4.drewN ?_ | refine Num4.call ?_ (by assumption) ?_)) <;> (first | omega | (simp; done) | (simp; omega)))
  have WX : Below w.heap.size w X := by rw [hX]; ((repeat' (first | exact Below.refl _ _ | refine Below.setCell ?_ ?_ _ | refine below_alloc0 ?_ _ | refine below_drewN ?_ _ | refine Below.drew ?_ | refine below_call0 ?_ (by assumption))) <;> (first | omega | (simp; done) | (simp; omega)))
  have zx : w.heap.size + 1 < X.heap.size := by rw [hX]; simp
  clear hX
  refine (K1.out _).mono ?_
  rintro e w1 ⟨rfl, hb1⟩
  have V1 := VX.call hb1 (by omega)
  have M1 := MX.call hb1 (by omega)
  have W1 := below_call0 WX hb1
  have z1 := hb1.size
  have y1 : w.heap.size + 1 < w1.heap.size := by omega
  have y0 : w.heap.size < w1.heap.size := by omega
  obtain ⟨v0, v1, v2, v3, v4, v5, v6, v7⟩ : _ ∧ _ ∧ _ ∧ _ ∧ _ ∧ _ ∧ _ ∧ _ := ⟨V1 0 (by omega), V1 1 (by omega), V1 2 (by omega), V1 3 (by omega), V1 4 (by omega), V1 5 (by omega), V1 6 (by omega), V1 7 (by omega)⟩
  obtain ⟨m0, m1, m2, m3⟩ := M1.facts
  clear V1 M1 VX MX WX hb1 zx z1
  go_wp2_with fail
  refine (K2.out _).mono ?_
  rintro e w2 ⟨rfl, hb2⟩
  have R2 : Num4 w2 w1.heap.size r := by ((repeat' (first | assumption | (refine Num4.new' ?_; first | omega | (simp; done)) | refine Num4.set ?_ ?_ | refine Num4.alloc ?_ ?_ | refine Num4.drewN ?_ | refine Num4.call ?_ (by assumption) ?_)) <;> (first | omega | (simp; done) | (simp; omega)))
  have W2 : Below w.heap.size w w2 := below_call0 (by ((repeat' (first | exact Below.refl _ _ | refine Below.setCell ?_ ?_ _ | refine below_alloc0 ?_ _ | refine below_drewN ?_ _ | refine Below.drew ?_ | refine below_call0 ?_ (by assumption))) <;> (first | omega | (simp; done) | (simp; omega)))) hb2
  have z2 := hb2.size
  obtain ⟨r0, r1, r2, r3⟩ := R2.facts
  have y2 : w1.heap.size < w2.heap.size := by simp at z2; omega
  clear R2 W1 hb2 z2 v0 v1 v2 v3 v4 v5 v6 v7 m0 m1 m2 m3
  go_wp2_with fail
  refine (turns_any _).mono ?_
  rintro e w3 ⟨rfl, hb3⟩
  have W3 : Below w.heap.size w w3 := below_call0 (by ((repeat' (first | exact Below.refl _ _ | refine Below.setCell ?_ ?_ _ | refine below_alloc0 ?_ _ | refine below_drewN ?_ _ | refine Below.drew ?_ | refine below_call0 ?_ (by assumption))) <;> (first | omega | (simp; done) | (simp; omega)))) hb3
  clear hb3 W2
  go_wp2_with fail
  go_ret
  exact ⟨rfl, W3⟩

theorem limbRests_any (V m : Nat) (hV : V / 2 ^ 512 = 0) (hm : m < R256) (w : World) : Calls Try.prog 6 #[.agg #[.int .u64 (limb (V) 0 : Nat), .int .u64 (limb (V) 1 : Nat), .int .u64 (limb (V) 2 : Nat), .int .u64 (limb (V) 3 : Nat), .int .u64 (limb (V) 4 : Nat), .int .u64 (limb (V) 5 : Nat), .int .u64 (limb (V) 6 : Nat), .int .u64 (limb (V) 7 : Nat)], .agg #[.int .u64 (limb (m) 0 : Nat), .int .u64 (limb (m) 1 : Nat), .int .u64 (limb (m) 2 : Nat), .int .u64 (limb (m) 3 : Nat)]] w fun e w' => e = .returned (.bool true) ∧ Below w.heap.size w w' := by
  rcases Nat.eq_zero_or_pos m with rfl | h0
  · obtain ⟨e0, e1, e2, e3⟩ := limb_all0
    have k1 := mod_zero V
    have k2 := modr_zero V
    refine rests_go V 0 0 1 (fun w => ?_) (fun w => ?_) w
    · rw [e0, e1, e2, e3]; exact k1 w
    · rw [e0, e1, e2, e3]; exact k2 w
  · exact rests_go V m (V % m) 0 (mod_any V m hV h0 hm) (modr_any V m hV h0 hm) w
end Go.Proofs.Ytpedidldhlldfaa
