/- limb.Mont.Mul: a product, less R once, or a refusal. -/
import Derived.Test.YtaigpginoakdfaaMontA
namespace Go.Proofs.Ytaigpginoakdfaa
open Go.RowKit

theorem MontB.alloc {W : World} {g m s c : Nat} {o : Obj} (h : MontB W g m s c) : MontB (W.alloc o) g m s c := h.call ((Below.refl _ _).alloc (Nat.le_refl _) o)
theorem has_out (g m s c a : Nat) (ha : a < R256) (hm : m < R256) (h : m ≤ a) (w : World) (hM : MontB w g m s c) :
    Calls Try.prog 47 #[.pointer (some ⟨g, 0, none⟩), .agg #[.int .u64 (limb (a) 0 : Nat), .int .u64 (limb (a) 1 : Nat), .int .u64 (limb (a) 2 : Nat), .int .u64 (limb (a) 3 : Nat)]] w fun e w' => e = .returned (.bool false) ∧ Below w.heap.size w w' := by
  rcases Nat.lt_or_ge m a with h1 | h1
  · exact has_gt g m s c a ha hm h1 w hM
  · exact has_eq g m s c a ha hm (by omega) w hM

set_option maxHeartbeats 2000000 in
theorem mmul_ok (g m s c a b : Nat) (ha : a < m) (hb : b < m) (hm : m < R256) (hodd : m % 2 = 1) (hc : (c * limb m 0 + 1) % M64 = 0) (w : World) (hM : MontB w g m s c) :
    Calls Try.prog 28 #[.pointer (some ⟨g, 0, none⟩), .agg #[.int .u64 (limb (a) 0 : Nat), .int .u64 (limb (a) 1 : Nat), .int .u64 (limb (a) 2 : Nat), .int .u64 (limb (a) 3 : Nat)], .agg #[.int .u64 (limb (b) 0 : Nat), .int .u64 (limb (b) 1 : Nat), .int .u64 (limb (b) 2 : Nat), .int .u64 (limb (b) 3 : Nat)]] w fun e w' => e = .returned (.tuple #[.agg #[.int .u64 (limb (redN m (a * b)) 0 : Nat), .int .u64 (limb (redN m (a * b)) 1 : Nat), .int .u64 (limb (redN m (a * b)) 2 : Nat), .int .u64 (limb (redN m (a * b)) 3 : Nat)], .int .i64 0]) ∧ Below w.heap.size w w' := by
  have a2 : a < R256 := Nat.lt_trans ha hm
  have b2 : b < R256 := Nat.lt_trans hb hm
  have hV : a * b < R256 * m := Nat.mul_lt_mul_of_lt_of_le a2 (Nat.le_of_lt hb) (by omega)
  obtain ⟨r, hr⟩ : ∃ r, r = redN m (a * b) := ⟨_, rfl⟩
  obtain ⟨V, hVV⟩ : ∃ V, V = a * b := ⟨_, rfl⟩
  have k1 := fun w h => has_in g m s c a a2 hm ha w h
  have k2 := fun w h => has_in g m s c b b2 hm hb w h
  have k3 := mul_any a b a2 b2
  have k4 := fun w h => strip_any g m s c (a * b) hm hodd hc hV w h
  rw [← hVV] at k3 k4
  rw [hVV, ← hr] at k4
  rw [← hVV] at k4
  rw [← hr]
  have K1 : Hid _ := k1
  have K2 : Hid _ := k2
  have K3 : Hid _ := k3
  have K4 : Hid _ := k4
  have HM : Hid _ := hM
  have hg := hM.2.2.2
  clear k1 k2 k3 k4 hr hVV hV ha hb hM hc
  go_enter Try.func28, Try.ntmps28
  go_wp2_with fail
  refine (K1.out _ (MontB.alloc (MontB.alloc (MontB.alloc HM.out)))).mono ?_
  rintro e w1 ⟨rfl, hb1⟩
  have P1 := Pend.call_new hb1
  have hz1 := hb1.size
  simp only [World.size_alloc] at hz1 P1
  have A1 : Num4 w1 w.heap.size a := by ((repeat' (first | assumption | (refine Num4.new' ?_; first | omega | (simp; done)) | refine Num4.set ?_ ?_ | refine Num4.alloc ?_ ?_ | refine Num4.drewN ?_ | refine Num4.call ?_ (by assumption) ?_)) <;> (first | omega | (simp; done) | (simp; omega)))
  have B1 : Num4 w1 (w.heap.size + 1) b := by ((repeat' (first | assumption | (refine Num4.new' ?_; first | omega | (simp; done)) | refine Num4.set ?_ ?_ | refine Num4.alloc ?_ ?_ | refine Num4.drewN ?_ | refine Num4.call ?_ (by assumption) ?_)) <;> (first | omega | (simp; done) | (simp; omega)))
  have M1 : MontB w1 g m s c := (MontB.alloc (MontB.alloc (MontB.alloc HM.out))).call hb1
  have W1 : Below w.heap.size w w1 := by ((repeat' (first | with_reducible exact Below.refl _ _ | with_reducible refine Below.setCell ?_ ?_ _ | with_reducible refine below_alloc0 ?_ _ | with_reducible refine below_drewN ?_ _ | with_reducible refine Below.drew ?_ | refine below_call0 ?_ (by assumption))) <;> (first | omega | (simp; done) | (simp; omega)))
  have y1 : w.heap.size + 1 + 1 < w1.heap.size := by omega
  clear hb1 hz1
  obtain ⟨b0, b1, b2, b3⟩ := B1.facts
  go_wp2_with fail
  refine (K2.out _ M1).mono ?_
  rintro e w2 ⟨rfl, hb2⟩
  have P2 := P1.call hb2
  have A2 : Num4 w2 w.heap.size a := A1.call hb2 (by omega)
  have B2 : Num4 w2 (w.heap.size + 1) b := B1.call hb2 (by omega)
  have M2 := M1.call hb2
  have W2 : Below w.heap.size w w2 := below_call0 W1 hb2
  have y2 : w.heap.size + 1 + 1 < w2.heap.size := Nat.lt_of_lt_of_le y1 hb2.size
  clear b0 b1 b2 b3 A1 B1 M1 W1 P1 hb2
  obtain ⟨a0, a1, a2, a3⟩ := A2.facts
  obtain ⟨b0, b1, b2, b3⟩ := B2.facts
  go_wp2_with fail
  refine (K3.out _).mono ?_
  rintro e w3 ⟨rfl, hb3⟩
  have P3 := P2.call hb3
  have M3 := M2.call hb3
  have W3 : Below w.heap.size w w3 := below_call0 W2 hb3
  clear hb3 a0 a1 a2 a3 b0 b1 b2 b3 A2 B2 M2 W2 P2
  go_wp2_with fail
  refine (K4.out _ M3).mono ?_
  rintro e w4 ⟨rfl, hb4⟩
  have P4 := P3.call hb4
  have W4 : Below w.heap.size w w4 := below_call0 W3 hb4
  obtain ⟨⟨p0, p1, p2, p3⟩, ⟨f0, f1, f2, f3⟩, pz⟩ := P4.facts
  clear hb4 M3 W3 P3
  go_wp2
  refine bodyPost_ret (v := .tuple #[.agg #[.int .u64 (limb (r) 0 : Nat), .int .u64 (limb (r) 1 : Nat), .int .u64 (limb (r) 2 : Nat), .int .u64 (limb (r) 3 : Nat)], .int .i64 0]) ?_ rfl ⟨rfl, ?_⟩
  · simp [results, Try.results28, go_sem, p0, p1, p2, p3]
  · ((repeat' (first | with_reducible exact Below.refl _ _ | with_reducible refine Below.setCell ?_ ?_ _ | with_reducible refine below_alloc0 ?_ _ | with_reducible refine below_drewN ?_ _ | with_reducible refine Below.drew ?_ | refine below_call0 ?_ (by assumption))) <;> (first | omega | (simp; done) | (simp; omega)))

set_option maxHeartbeats 2000000 in
theorem mmul_bad1 (g m s c a b : Nat) (ha : m ≤ a) (a2 : a < R256) (hm : m < R256) (w : World) (hM : MontB w g m s c) :
    Calls Try.prog 28 #[.pointer (some ⟨g, 0, none⟩), .agg #[.int .u64 (limb (a) 0 : Nat), .int .u64 (limb (a) 1 : Nat), .int .u64 (limb (a) 2 : Nat), .int .u64 (limb (a) 3 : Nat)], .agg #[.int .u64 (limb (b) 0 : Nat), .int .u64 (limb (b) 1 : Nat), .int .u64 (limb (b) 2 : Nat), .int .u64 (limb (b) 3 : Nat)]] w fun e w' => e = .returned (.tuple #[.agg #[.int .u64 0, .int .u64 0, .int .u64 0, .int .u64 0], .int .i64 1]) ∧ Below w.heap.size w w' := by
  have k1 := fun w h => has_out g m s c a a2 hm ha w h
  have K1 : Hid _ := k1
  have HM : Hid _ := hM
  clear k1 ha hM
  go_enter Try.func28, Try.ntmps28
  go_wp2_with fail
  refine (K1.out _ (MontB.alloc (MontB.alloc (MontB.alloc HM.out)))).mono ?_
  rintro e w1 ⟨rfl, hb1⟩
  have P1 := Pend.call_new hb1
  have hz1 := hb1.size
  simp only [World.size_alloc] at hz1 P1
  have W1 : Below w.heap.size w w1 := by ((repeat' (first | with_reducible exact Below.refl _ _ | with_reducible refine Below.setCell ?_ ?_ _ | with_reducible refine below_alloc0 ?_ _ | with_reducible refine below_drewN ?_ _ | with_reducible refine Below.drew ?_ | refine below_call0 ?_ (by assumption))) <;> (first | omega | (simp; done) | (simp; omega)))
  obtain ⟨⟨p0, p1, p2, p3⟩, ⟨f0, f1, f2, f3⟩, pz⟩ := P1.facts
  clear hb1
  go_wp2
  refine bodyPost_ret (v := .tuple #[.agg #[.int .u64 0, .int .u64 0, .int .u64 0, .int .u64 0], .int .i64 1]) ?_ rfl ⟨rfl, ?_⟩
  · simp [results, Try.results28, go_sem, p0, p1, p2, p3]
  · ((repeat' (first | with_reducible exact Below.refl _ _ | with_reducible refine Below.setCell ?_ ?_ _ | with_reducible refine below_alloc0 ?_ _ | with_reducible refine below_drewN ?_ _ | with_reducible refine Below.drew ?_ | refine below_call0 ?_ (by assumption))) <;> (first | omega | (simp; done) | (simp; omega)))

set_option maxHeartbeats 2000000 in
theorem mmul_bad2 (g m s c a b : Nat) (ha : a < m) (hb : m ≤ b) (b2 : b < R256) (hm : m < R256) (w : World) (hM : MontB w g m s c) :
    Calls Try.prog 28 #[.pointer (some ⟨g, 0, none⟩), .agg #[.int .u64 (limb (a) 0 : Nat), .int .u64 (limb (a) 1 : Nat), .int .u64 (limb (a) 2 : Nat), .int .u64 (limb (a) 3 : Nat)], .agg #[.int .u64 (limb (b) 0 : Nat), .int .u64 (limb (b) 1 : Nat), .int .u64 (limb (b) 2 : Nat), .int .u64 (limb (b) 3 : Nat)]] w fun e w' => e = .returned (.tuple #[.agg #[.int .u64 0, .int .u64 0, .int .u64 0, .int .u64 0], .int .i64 1]) ∧ Below w.heap.size w w' := by
  have k1 := fun w h => has_in g m s c a (Nat.lt_trans ha hm) hm ha w h
  have k2 := fun w h => has_out g m s c b b2 hm hb w h
  have K1 : Hid _ := k1
  have K2 : Hid _ := k2
  have HM : Hid _ := hM
  clear k1 k2 ha hb hM
  go_enter Try.func28, Try.ntmps28
  go_wp2_with fail
  refine (K1.out _ (MontB.alloc (MontB.alloc (MontB.alloc HM.out)))).mono ?_
  rintro e w1 ⟨rfl, hb1⟩
  have P1 := Pend.call_new hb1
  have hz1 := hb1.size
  simp only [World.size_alloc] at hz1 P1
  have B1 : Num4 w1 (w.heap.size + 1) b := by ((repeat' (first | assumption | (refine Num4.new' ?_; first | omega | (simp; done)) | refine Num4.set ?_ ?_ | refine Num4.alloc ?_ ?_ | refine Num4.drewN ?_ | refine Num4.call ?_ (by assumption) ?_)) <;> (first | omega | (simp; done) | (simp; omega)))
  have M1 : MontB w1 g m s c := (MontB.alloc (MontB.alloc (MontB.alloc HM.out))).call hb1
  have W1 : Below w.heap.size w w1 := by ((repeat' (first | with_reducible exact Below.refl _ _ | with_reducible refine Below.setCell ?_ ?_ _ | with_reducible refine below_alloc0 ?_ _ | with_reducible refine below_drewN ?_ _ | with_reducible refine Below.drew ?_ | refine below_call0 ?_ (by assumption))) <;> (first | omega | (simp; done) | (simp; omega)))
  have y1 : w.heap.size + 1 + 1 < w1.heap.size := by omega
  clear hb1 hz1
  obtain ⟨b0, b1, b2, b3⟩ := B1.facts
  go_wp2_with fail
  refine (K2.out _ M1).mono ?_
  rintro e w2 ⟨rfl, hb2⟩
  have P2 := P1.call hb2
  have W2 : Below w.heap.size w w2 := below_call0 W1 hb2
  obtain ⟨⟨p0, p1, p2, p3⟩, ⟨f0, f1, f2, f3⟩, pz⟩ := P2.facts
  clear b0 b1 b2 b3 B1 M1 W1 P1 hb2
  go_wp2
  refine bodyPost_ret (v := .tuple #[.agg #[.int .u64 0, .int .u64 0, .int .u64 0, .int .u64 0], .int .i64 1]) ?_ rfl ⟨rfl, ?_⟩
  · simp [results, Try.results28, go_sem, p0, p1, p2, p3]
  · ((repeat' (first | with_reducible exact Below.refl _ _ | with_reducible refine Below.setCell ?_ ?_ _ | with_reducible refine below_alloc0 ?_ _ | with_reducible refine below_drewN ?_ _ | with_reducible refine Below.drew ?_ | refine below_call0 ?_ (by assumption))) <;> (first | omega | (simp; done) | (simp; omega)))
end Go.Proofs.Ytaigpginoakdfaa
