/- Several texts laid together. -/
import Derived.Test.YtbpgiijdcagckaaDoorLbA
import Derived.Deep.RegionHeld3
import Derived.Deep.RegionWith
import Derived.Deep.DeepCutAuto
namespace Go.Proofs.YtbpgiijdcagckaaDoor
open Go.RowKit

set_option maxHeartbeats 1000000 in
theorem fmulAdd_any (a b c d : Nat) (ha : a < M64) (hb : b < M64) (hc : c < M64) (hd : d < M64) (w : World) :
    Calls Tryd.prog 56 #[.int .u64 a, .int .u64 b, .int .u64 c, .int .u64 d] w fun e w' => e = .returned (.tuple #[.int .u64 (maH a b c d), .int .u64 (maL a b c d)]) ∧ w' = w := by
  obtain ⟨eL, eH⟩ := mulAdd_eq a b c d
  have l2 : mulH a b + addC (mulL a b) c 0 + addC (addS (mulL a b) c 0) d 0 < 18446744073709551616 := by rw [eH]; exact maH_lt a b c d ha hb hc hd
  have l1 : mulH a b + addC (mulL a b) c 0 < 18446744073709551616 := by omega
  have H : Hid (_ ∧ _ ∧ _ ∧ _) := ⟨eL, eH, l1, l2⟩
  clear eL eH l1 l2
  go_enter Tryd.func56, Tryd.ntmps56
  go_wp2_with (first | (go_at_call 41; refine (mul64 a b ha hb _).mono ?_; rintro e w' ⟨rfl, rfl⟩) | simp only [add64_0])
  obtain ⟨eL, eH, l1, l2⟩ := H.out
  simp only [addN', wrapN _ l1, eH, eL, wrapN _ (maH_lt a b c d ha hb hc hd)]
  go_ret2
  exact ⟨rfl, rfl⟩

set_option maxHeartbeats 2000000 in
theorem faddRow_any (d b0 b1 b2 b3 w0 w1 w2 w3 : Nat) (hd : d < M64) (h0 : b0 < M64) (h1 : b1 < M64) (h2 : b2 < M64) (h3 : b3 < M64) (g0 : w0 < M64) (g1 : w1 < M64) (g2 : w2 < M64) (g3 : w3 < M64) (w : World) :
    Calls Tryd.prog 52 #[.int .u64 d, .int .u64 b0, .int .u64 b1, .int .u64 b2, .int .u64 b3, .int .u64 w0, .int .u64 w1, .int .u64 w2, .int .u64 w3] w fun e w' =>
      e = .returned (.tuple #[.int .u64 (rowL d b0 b1 b2 b3 w0 w1 w2 w3 0), .int .u64 (rowL d b0 b1 b2 b3 w0 w1 w2 w3 1), .int .u64 (rowL d b0 b1 b2 b3 w0 w1 w2 w3 2), .int .u64 (rowL d b0 b1 b2 b3 w0 w1 w2 w3 3), .int .u64 (rowL d b0 b1 b2 b3 w0 w1 w2 w3 4)]) ∧ w' = w := by
  have k1 := maH_lt d b0 w0 0 hd h0 g0 M64_pos
  have k2 := maH_lt d b1 w1 _ hd h1 g1 k1
  have k3 := maH_lt d b2 w2 _ hd h2 g2 k2
  by_cases hz : d = 0
  · subst hz
    obtain ⟨e0, e1, e2, e3, e4⟩ := row_zero b0 b1 b2 b3 w0 w1 w2 w3 g0 g1 g2 g3
    rw [e0, e1, e2, e3, e4]
    clear e0 e1 e2 e3 e4 k1 k2 k3
    go_enter Tryd.func52, Tryd.ntmps52
    go_wp2
    exact bodyPost_ret (v := .tuple #[.int .u64 w0, .int .u64 w1, .int .u64 w2, .int .u64 w3, .int .u64 0]) (by simp [results, Tryd.results52, go_sem]) rfl ⟨rfl, rfl⟩
  · have hz' : ((d : Int) == 0) = false := by simpa using hz
    go_enter Tryd.func52, Tryd.ntmps52
    go_wp2_with fail
    refine (fmulAdd_any d b0 w0 0 hd h0 g0 M64_pos _).mono ?_
    rintro e w' ⟨rfl, rfl⟩
    go_wp2_with fail
    refine (fmulAdd_any d b1 w1 _ hd h1 g1 k1 _).mono ?_
    rintro e w' ⟨rfl, rfl⟩
    go_wp2_with fail
    refine (fmulAdd_any d b2 w2 _ hd h2 g2 k2 _).mono ?_
    rintro e w' ⟨rfl, rfl⟩
    go_wp2_with fail
    refine (fmulAdd_any d b3 w3 _ hd h3 g3 k3 _).mono ?_
    rintro e w' ⟨rfl, rfl⟩
    go_wp2
    exact bodyPost_ret (v := .tuple #[.int .u64 (maL d b0 w0 0), .int .u64 (maL d b1 w1 (maH d b0 w0 0)), .int .u64 (maL d b2 w2 (maH d b1 w1 (maH d b0 w0 0))), .int .u64 (maL d b3 w3 (maH d b2 w2 (maH d b1 w1 (maH d b0 w0 0)))), .int .u64 (maH d b3 w3 (maH d b2 w2 (maH d b1 w1 (maH d b0 w0 0))))]) (by simp [results, Tryd.results52, go_sem]) rfl ⟨rfl, rfl⟩

theorem sub64_c (x y x' y' b' : Nat) (w : World) : (callFunc 40 #[.int .u64 x, .int .u64 y, .int .u64 (subB x' y' b')]).run Tryd.prog w =
    .ok (.value (.tuple #[.int .u64 (subS x y (subB x' y' b')), .int .u64 (subB x y (subB x' y' b'))])) w := sub64 x y _ (subB_le _ _ _) w
theorem chain_nought (C : Nat → Nat → Nat → Nat) (A B : Nat → Nat) : chain C A B 0 = 0 := rfl
theorem less_steps (a m : Nat) (ha : a < R256) (hm : m < R256) :
    subS (limb a 0) (limb m 0) 0 = limb (subN a m) 0 ∧ subS (limb a 1) (limb m 1) (subB (limb a 0) (limb m 0) 0) = limb (subN a m) 1 ∧
    subS (limb a 2) (limb m 2) (subB (limb a 1) (limb m 1) (subB (limb a 0) (limb m 0) 0)) = limb (subN a m) 2 ∧
    subS (limb a 3) (limb m 3) (subB (limb a 2) (limb m 2) (subB (limb a 1) (limb m 1) (subB (limb a 0) (limb m 0) 0))) = limb (subN a m) 3 ∧
    subB (limb a 3) (limb m 3) (subB (limb a 2) (limb m 2) (subB (limb a 1) (limb m 1) (subB (limb a 0) (limb m 0) 0))) = subK a m := by
  obtain ⟨l0, l1, l2, l3⟩ := sub_limbs a m ha hm
  have lk := (sub_join a m ha hm).2
  rw [chain_four, chain_three, chain_two, chain_one, chain_nought] at lk
  rw [digs_eq, chain_nought] at l0
  rw [digs_eq, chain_one, chain_nought] at l1
  rw [digs_eq, chain_two, chain_one, chain_nought] at l2
  rw [digs_eq, chain_three, chain_two, chain_one, chain_nought] at l3
  exact ⟨l0, l1, l2, l3, lk⟩

set_option maxHeartbeats 2000000 in
theorem lessOnce_any (g o a m : Nat) (ha : a < R256) (hm : m < R256) (w : World) (hM : Num4 w g m) (hg : g < w.heap.size) :
    Calls Tryd.prog 53 #[.pointer (some ⟨g, 0, none⟩), .int .u64 o, .int .u64 (limb a 0 : Nat), .int .u64 (limb a 1 : Nat), .int .u64 (limb a 2 : Nat), .int .u64 (limb a 3 : Nat)] w fun e w' => e = .returned (.agg #[.int .u64 (limb (lessN o a m) 0 : Nat), .int .u64 (limb (lessN o a m) 1 : Nat), .int .u64 (limb (lessN o a m) 2 : Nat), .int .u64 (limb (lessN o a m) 3 : Nat)]) ∧ Below w.heap.size w w' := by
  obtain ⟨l0, l1, l2, l3, lk⟩ := less_steps a m ha hm
  obtain ⟨m0, m1, m2, m3⟩ := hM.facts
  have HL : Hid _ := And.intro l0 (And.intro l1 (And.intro l2 l3))
  clear l0 l1 l2 l3 hM
  by_cases ho : o = 0
  · subst ho
    by_cases hlt : a < m
    · rw [show subK a m = 1 from if_pos hlt] at lk
      rw [show lessN 0 a m = a from if_pos ⟨rfl, hlt⟩]
      clear hlt
      go_enter Tryd.func53, Tryd.ntmps53
      go_wp2_with (simp only [sub64_0, sub64_c])
      refine bodyPost_ret (v := .agg #[.int .u64 (limb (a) 0 : Nat), .int .u64 (limb (a) 1 : Nat), .int .u64 (limb (a) 2 : Nat), .int .u64 (limb (a) 3 : Nat)]) ?_ rfl ⟨rfl, ?_⟩
      · simp [results, Tryd.results53, go_sem]
      · ((repeat' (first | with_reducible exact Below.refl _ _ | with_reducible refine Below.setCell ?_ ?_ _ | with_reducible refine below_alloc0 ?_ _ | with_reducible refine below_drewN ?_ _ | with_reducible refine Below.drew ?_ | refine below_call0 ?_ (by assumption))) <;> (first | omega | (simp; done) | (simp; omega)))
    · rw [show subK a m = 0 from if_neg hlt] at lk
      rw [show lessN 0 a m = subN a m from if_neg (fun c => hlt c.2)]
      clear hlt
      go_enter Tryd.func53, Tryd.ntmps53
      go_wp2_with (simp only [sub64_0, sub64_c])
      obtain ⟨l0, l1, l2, l3⟩ := HL.out
      rw [l0, l1, l2, l3]
      refine bodyPost_ret (v := .agg #[.int .u64 (limb (subN a m) 0 : Nat), .int .u64 (limb (subN a m) 1 : Nat), .int .u64 (limb (subN a m) 2 : Nat), .int .u64 (limb (subN a m) 3 : Nat)]) ?_ rfl ⟨rfl, ?_⟩
      · simp [results, Tryd.results53, go_sem]
      · ((repeat' (first | with_reducible exact Below.refl _ _ | with_reducible refine Below.setCell ?_ ?_ _ | with_reducible refine below_alloc0 ?_ _ | with_reducible refine below_drewN ?_ _ | with_reducible refine Below.drew ?_ | refine below_call0 ?_ (by assumption))) <;> (first | omega | (simp; done) | (simp; omega)))
  · rw [show lessN o a m = subN a m from if_neg (fun c => ho c.1)]
    have ho' : ((o : Int) == 0) = false := by simpa using ho
    go_enter Tryd.func53, Tryd.ntmps53
    go_wp2_with (simp only [sub64_0, sub64_c])
    obtain ⟨l0, l1, l2, l3⟩ := HL.out
    rw [l0, l1, l2, l3]
    refine bodyPost_ret (v := .agg #[.int .u64 (limb (subN a m) 0 : Nat), .int .u64 (limb (subN a m) 1 : Nat), .int .u64 (limb (subN a m) 2 : Nat), .int .u64 (limb (subN a m) 3 : Nat)]) ?_ rfl ⟨rfl, ?_⟩
    · simp [results, Tryd.results53, go_sem]
    · ((repeat' (first | with_reducible exact Below.refl _ _ | with_reducible refine Below.setCell ?_ ?_ _ | with_reducible refine below_alloc0 ?_ _ | with_reducible refine below_drewN ?_ _ | with_reducible refine Below.drew ?_ | refine below_call0 ?_ (by assumption))) <;> (first | omega | (simp; done) | (simp; omega)))

/-- A block that holds a field: its modulus, and the gap to 2^256. -/
def FieldB (w : World) (g m : Nat) : Prop := Num4 w g m ∧ (∀ j, j < 4 → w.cell? ⟨g, j + 4, none⟩ = some (.int .u64 (limb (R256 - m) j : Nat))) ∧ g < w.heap.size
theorem FieldB.call {W w1 : World} {g m : Nat} (h : FieldB W g m) (hb : Below W.heap.size W w1) : FieldB w1 g m :=
  ⟨h.1.call hb h.2.2, fun j hj => (hb.cell (p := ⟨g, j + 4, none⟩) h.2.2).trans (h.2.1 j hj), Nat.lt_of_lt_of_le h.2.2 hb.size⟩
theorem FieldB.alloc {W : World} {g m : Nat} {o : Obj} (h : FieldB W g m) : FieldB (W.alloc o) g m := h.call ((Below.refl _ _).alloc (Nat.le_refl _) o)
theorem FieldB.drew {W : World} {g m : Nat} (h : FieldB W g m) : FieldB W.drew g m := h
theorem FieldB.drewN {W : World} {g m k : Nat} (h : FieldB W g m) : FieldB (W.drewN k) g m := h
theorem FieldB.gap {w : World} {g m : Nat} (h : FieldB w g m) : w.cell? ⟨g, 4, none⟩ = some (.int .u64 (limb (R256 - m) 0 : Nat)) ∧ w.cell? ⟨g, 5, none⟩ = some (.int .u64 (limb (R256 - m) 1 : Nat)) ∧ w.cell? ⟨g, 6, none⟩ = some (.int .u64 (limb (R256 - m) 2 : Nat)) ∧ w.cell? ⟨g, 7, none⟩ = some (.int .u64 (limb (R256 - m) 3 : Nat)) :=
  ⟨h.2.1 0 (by omega), h.2.1 1 (by omega), h.2.1 2 (by omega), h.2.1 3 (by omega)⟩

set_option maxHeartbeats 2000000 in
theorem newField_any (m : Nat) (h0 : 0 < m) (hm : m < R256) (w : World) :
    Calls Tryd.prog 37 #[.agg #[.int .u64 (limb (m) 0 : Nat), .int .u64 (limb (m) 1 : Nat), .int .u64 (limb (m) 2 : Nat), .int .u64 (limb (m) 3 : Nat)]] w fun e w' => ∃ g, e = .returned (.pointer (some ⟨g, 0, none⟩)) ∧ FieldB w' g m ∧ Below w.heap.size w w' := by
  obtain ⟨r, hr⟩ : ∃ r, r = R256 - m := ⟨_, rfl⟩
  obtain ⟨c, hc⟩ : ∃ c, c = subK 0 m := ⟨_, rfl⟩
  have k : ∀ w, Calls Tryd.prog 45 #[.agg #[.int .u64 0, .int .u64 0, .int .u64 0, .int .u64 0], .agg #[.int .u64 (limb (m) 0 : Nat), .int .u64 (limb (m) 1 : Nat), .int .u64 (limb (m) 2 : Nat), .int .u64 (limb (m) 3 : Nat)]] w fun e w' => e = .returned (.tuple #[.agg #[.int .u64 (limb (r) 0 : Nat), .int .u64 (limb (r) 1 : Nat), .int .u64 (limb (r) 2 : Nat), .int .u64 (limb (r) 3 : Nat)], .int .u64 c]) ∧ Below w.heap.size w w' := fun w => by
    have g := sub_any 0 m (by decide) hm w
    rw [show subN 0 m = r from by rw [hr]; unfold subN; rw [Nat.zero_add, Nat.mod_eq_of_lt (by omega)], ← hc, limb_nought, limb_nought, limb_nought, limb_nought] at g
    exact g
  have K : Hid _ := k
  have HR : Hid _ := hr
  clear k hr hc h0 hm
  go_enter Tryd.func37, Tryd.ntmps37
  go_wp2_with fail
  refine (K.out _).mono ?_
  rintro e w1 ⟨rfl, hb1⟩
  have hz1 := hb1.size
  try simp only [World.size_alloc] at hz1
  have A1 : Num4 w1 w.heap.size m := by ((repeat' (first | assumption | (refine Num4.new' ?_; first | omega | (simp; done)) | refine Num4.set ?_ ?_ | refine Num4.alloc ?_ ?_ | refine Num4.drewN ?_ | refine Num4.call ?_ (by assumption) ?_)) <;> (first | omega | (simp; done) | (simp; omega)))
  have W1 : Below w.heap.size w w1 := by ((repeat' (first | with_reducible exact Below.refl _ _ | with_reducible refine Below.setCell ?_ ?_ _ | with_reducible refine below_alloc0 ?_ _ | with_reducible refine below_drewN ?_ _ | with_reducible refine Below.drew ?_ | refine below_call0 ?_ (by assumption))) <;> (first | omega | (simp; done) | (simp; omega)))
  have z1 : w.heap.size < w1.heap.size := by omega
  clear hb1 hz1 K
  obtain ⟨a0, a1, a2, a3⟩ := A1.facts
  go_wp2
  go_ret
  refine ⟨_, rfl, ⟨?_, ?_, ?_⟩, ?_⟩
  · refine limbs4 _ ?_ ?_ ?_ ?_ <;> simp [go_sem]
  · rw [← HR.out]
    refine limbs4 _ ?_ ?_ ?_ ?_ <;> simp [go_sem]
  · simp
  · ((repeat' (first | with_reducible exact Below.refl _ _ | with_reducible refine Below.setCell ?_ ?_ _ | with_reducible refine below_alloc0 ?_ _ | with_reducible refine below_drewN ?_ _ | with_reducible refine Below.drew ?_ | refine below_call0 ?_ (by assumption))) <;> (first | omega | (simp; done) | (simp; omega)))

/-! ### Check -/
theorem check_nil (a : Nat) (w : World) : Calls Tryd.prog 26 #[.pointer none, .agg #[.int .u64 (limb (a) 0 : Nat), .int .u64 (limb (a) 1 : Nat), .int .u64 (limb (a) 2 : Nat), .int .u64 (limb (a) 3 : Nat)]] w fun e w' => e = .returned (.int .i64 7) ∧ Below w.heap.size w w' := by
  go_enter Tryd.func26, Tryd.ntmps26
  go_wp2
  go_ret
  exact ⟨rfl, by ((repeat' (first | with_reducible exact Below.refl _ _ | with_reducible refine Below.setCell ?_ ?_ _ | with_reducible refine below_alloc0 ?_ _ | with_reducible refine below_drewN ?_ _ | with_reducible refine Below.drew ?_ | refine below_call0 ?_ (by assumption))) <;> (first | omega | (simp; done) | (simp; omega)))⟩
def chkN (m a : Nat) : Int := if a < m then 0 else 20
set_option maxHeartbeats 1000000 in
theorem check_in (g m a : Nat) (ha : a < R256) (hm : m < R256) (h : a < m) (w : World) (hM : FieldB w g m) :
    Calls Tryd.prog 26 #[.pointer (some ⟨g, 0, none⟩), .agg #[.int .u64 (limb (a) 0 : Nat), .int .u64 (limb (a) 1 : Nat), .int .u64 (limb (a) 2 : Nat), .int .u64 (limb (a) 3 : Nat)]] w fun e w' => e = .returned (.int .i64 0) ∧ Below w.heap.size w w' := by
  have k1 : ∀ w, Calls Tryd.prog 38 #[.agg #[.int .u64 (limb (a) 0 : Nat), .int .u64 (limb (a) 1 : Nat), .int .u64 (limb (a) 2 : Nat), .int .u64 (limb (a) 3 : Nat)], .agg #[.int .u64 (limb (m) 0 : Nat), .int .u64 (limb (m) 1 : Nat), .int .u64 (limb (m) 2 : Nat), .int .u64 (limb (m) 3 : Nat)]] w fun e w' => e = .returned (.int .i64 (-1)) ∧ Below w.heap.size w w' := fun w => by
    have g := cmp_any a m ha hm w
    rw [show cmpN a m = (-1) from cmpN_lt h] at g
    exact g
  have K1 : Hid _ := k1
  have HM1 : Hid _ := hM.1
  have hg := hM.2.2
  clear k1 h hM
  go_enter Tryd.func26, Tryd.ntmps26
  go_wp2_with fail
  obtain ⟨X, hX⟩ : ∃ X, X = w.alloc (.cells #[.int .u64 (limb a 0 : Nat), .int .u64 (limb a 1 : Nat), .int .u64 (limb a 2 : Nat), .int .u64 (limb a 3 : Nat)] 27) := ⟨_, rfl⟩
  rw [← hX]
  have AX : Num4 X w.heap.size a := by rw [hX]; ((repeat' (first | assumption | (refine Num4.new' ?_; first | omega | (simp; done)) | refine Num4.set ?_ ?_ | refine Num4.alloc ?_ ?_ | refine Num4.drewN ?_ | refine Num4.call ?_ (by assumption) ?_)) <;> (first | omega | (simp; done) | (simp; omega)))
  have WX : Below w.heap.size w X := by rw [hX]; ((repeat' (first | with_reducible exact Below.refl _ _ | with_reducible refine Below.setCell ?_ ?_ _ | with_reducible refine below_alloc0 ?_ _ | with_reducible refine below_drewN ?_ _ | with_reducible refine Below.drew ?_ | refine below_call0 ?_ (by assumption))) <;> (first | omega | (simp; done) | (simp; omega)))
  have MX : Num4 X g m := by rw [hX]; exact Num4.alloc HM1.out hg
  have zx : w.heap.size < X.heap.size := by rw [hX]; simp
  clear hX
  have HK : Hid (∀ w', Below X.heap.size X w' → (Below X.heap.size X w' ∧ (w'.cell? ⟨w.heap.size, 0, none⟩ = some (.int .u64 (limb (a) 0 : Nat)) ∧ w'.cell? ⟨w.heap.size, 1, none⟩ = some (.int .u64 (limb (a) 1 : Nat)) ∧ w'.cell? ⟨w.heap.size, 2, none⟩ = some (.int .u64 (limb (a) 2 : Nat)) ∧ w'.cell? ⟨w.heap.size, 3, none⟩ = some (.int .u64 (limb (a) 3 : Nat))) ∧ (w'.cell? ⟨g, 0, none⟩ = some (.int .u64 (limb (m) 0 : Nat)) ∧ w'.cell? ⟨g, 1, none⟩ = some (.int .u64 (limb (m) 1 : Nat)) ∧ w'.cell? ⟨g, 2, none⟩ = some (.int .u64 (limb (m) 2 : Nat)) ∧ w'.cell? ⟨g, 3, none⟩ = some (.int .u64 (limb (m) 3 : Nat))))) := fun w' h => ⟨h, (AX.call h (by omega)).facts, (MX.call h (by omega)).facts⟩
  clear AX MX
  go_region_held3 (fun w' => Below X.heap.size X w' ∧ (w'.cell? ⟨w.heap.size, 0, none⟩ = some (.int .u64 (limb (a) 0 : Nat)) ∧ w'.cell? ⟨w.heap.size, 1, none⟩ = some (.int .u64 (limb (a) 1 : Nat)) ∧ w'.cell? ⟨w.heap.size, 2, none⟩ = some (.int .u64 (limb (a) 2 : Nat)) ∧ w'.cell? ⟨w.heap.size, 3, none⟩ = some (.int .u64 (limb (a) 3 : Nat))) ∧ (w'.cell? ⟨g, 0, none⟩ = some (.int .u64 (limb (m) 0 : Nat)) ∧ w'.cell? ⟨g, 1, none⟩ = some (.int .u64 (limb (m) 1 : Nat)) ∧ w'.cell? ⟨g, 2, none⟩ = some (.int .u64 (limb (m) 2 : Nat)) ∧ w'.cell? ⟨g, 3, none⟩ = some (.int .u64 (limb (m) 3 : Nat))))
    ((refine HK.out _ ?_; ((repeat' (first | with_reducible exact Below.refl _ _ | exact (And.left (by assumption)) | with_reducible refine Below.setCell ?_ ?_ _ | with_reducible refine below_alloc0 ?_ _ | with_reducible refine below_drewN ?_ _ | with_reducible refine Below.drew ?_ | refine below_call0 ?_ (by assumption))) <;> (first | omega | (simp; done) | (simp; omega)))))
    (first | (go_at_call 38; refine (K1.out _).mono ?_; rintro e w' ⟨rfl, hq⟩))
  go_wp2
  go_ret
  exact ⟨rfl, below_call0 WX (And.left (by assumption))⟩

set_option maxHeartbeats 1000000 in
theorem check_gt (g m a : Nat) (ha : a < R256) (hm : m < R256) (h : m < a) (w : World) (hM : FieldB w g m) :
    Calls Tryd.prog 26 #[.pointer (some ⟨g, 0, none⟩), .agg #[.int .u64 (limb (a) 0 : Nat), .int .u64 (limb (a) 1 : Nat), .int .u64 (limb (a) 2 : Nat), .int .u64 (limb (a) 3 : Nat)]] w fun e w' => e = .returned (.int .i64 20) ∧ Below w.heap.size w w' := by
  have k1 : ∀ w, Calls Tryd.prog 38 #[.agg #[.int .u64 (limb (a) 0 : Nat), .int .u64 (limb (a) 1 : Nat), .int .u64 (limb (a) 2 : Nat), .int .u64 (limb (a) 3 : Nat)], .agg #[.int .u64 (limb (m) 0 : Nat), .int .u64 (limb (m) 1 : Nat), .int .u64 (limb (m) 2 : Nat), .int .u64 (limb (m) 3 : Nat)]] w fun e w' => e = .returned (.int .i64 (1)) ∧ Below w.heap.size w w' := fun w => by
    have g := cmp_any a m ha hm w
    rw [show cmpN a m = (1) from cmpN_gt h] at g
    exact g
  have K1 : Hid _ := k1
  have HM1 : Hid _ := hM.1
  have hg := hM.2.2
  clear k1 h hM
  go_enter Tryd.func26, Tryd.ntmps26
  go_wp2_with fail
  obtain ⟨X, hX⟩ : ∃ X, X = w.alloc (.cells #[.int .u64 (limb a 0 : Nat), .int .u64 (limb a 1 : Nat), .int .u64 (limb a 2 : Nat), .int .u64 (limb a 3 : Nat)] 27) := ⟨_, rfl⟩
  rw [← hX]
  have AX : Num4 X w.heap.size a := by rw [hX]; ((repeat' (first | assumption | (refine Num4.new' ?_; first | omega | (simp; done)) | refine Num4.set ?_ ?_ | refine Num4.alloc ?_ ?_ | refine Num4.drewN ?_ | refine Num4.call ?_ (by assumption) ?_)) <;> (first | omega | (simp; done) | (simp; omega)))
  have WX : Below w.heap.size w X := by rw [hX]; ((repeat' (first | with_reducible exact Below.refl _ _ | with_reducible refine Below.setCell ?_ ?_ _ | with_reducible refine below_alloc0 ?_ _ | with_reducible refine below_drewN ?_ _ | with_reducible refine Below.drew ?_ | refine below_call0 ?_ (by assumption))) <;> (first | omega | (simp; done) | (simp; omega)))
  have MX : Num4 X g m := by rw [hX]; exact Num4.alloc HM1.out hg
  have zx : w.heap.size < X.heap.size := by rw [hX]; simp
  clear hX
  have HK : Hid (∀ w', Below X.heap.size X w' → (Below X.heap.size X w' ∧ (w'.cell? ⟨w.heap.size, 0, none⟩ = some (.int .u64 (limb (a) 0 : Nat)) ∧ w'.cell? ⟨w.heap.size, 1, none⟩ = some (.int .u64 (limb (a) 1 : Nat)) ∧ w'.cell? ⟨w.heap.size, 2, none⟩ = some (.int .u64 (limb (a) 2 : Nat)) ∧ w'.cell? ⟨w.heap.size, 3, none⟩ = some (.int .u64 (limb (a) 3 : Nat))) ∧ (w'.cell? ⟨g, 0, none⟩ = some (.int .u64 (limb (m) 0 : Nat)) ∧ w'.cell? ⟨g, 1, none⟩ = some (.int .u64 (limb (m) 1 : Nat)) ∧ w'.cell? ⟨g, 2, none⟩ = some (.int .u64 (limb (m) 2 : Nat)) ∧ w'.cell? ⟨g, 3, none⟩ = some (.int .u64 (limb (m) 3 : Nat))))) := fun w' h => ⟨h, (AX.call h (by omega)).facts, (MX.call h (by omega)).facts⟩
  clear AX MX
  go_region_held3 (fun w' => Below X.heap.size X w' ∧ (w'.cell? ⟨w.heap.size, 0, none⟩ = some (.int .u64 (limb (a) 0 : Nat)) ∧ w'.cell? ⟨w.heap.size, 1, none⟩ = some (.int .u64 (limb (a) 1 : Nat)) ∧ w'.cell? ⟨w.heap.size, 2, none⟩ = some (.int .u64 (limb (a) 2 : Nat)) ∧ w'.cell? ⟨w.heap.size, 3, none⟩ = some (.int .u64 (limb (a) 3 : Nat))) ∧ (w'.cell? ⟨g, 0, none⟩ = some (.int .u64 (limb (m) 0 : Nat)) ∧ w'.cell? ⟨g, 1, none⟩ = some (.int .u64 (limb (m) 1 : Nat)) ∧ w'.cell? ⟨g, 2, none⟩ = some (.int .u64 (limb (m) 2 : Nat)) ∧ w'.cell? ⟨g, 3, none⟩ = some (.int .u64 (limb (m) 3 : Nat))))
    ((refine HK.out _ ?_; ((repeat' (first | with_reducible exact Below.refl _ _ | exact (And.left (by assumption)) | with_reducible refine Below.setCell ?_ ?_ _ | with_reducible refine below_alloc0 ?_ _ | with_reducible refine below_drewN ?_ _ | with_reducible refine Below.drew ?_ | refine below_call0 ?_ (by assumption))) <;> (first | omega | (simp; done) | (simp; omega)))))
    (first | (go_at_call 38; refine (K1.out _).mono ?_; rintro e w' ⟨rfl, hq⟩))
  go_wp2
  go_ret
  exact ⟨rfl, below_call0 WX (And.left (by assumption))⟩

set_option maxHeartbeats 1000000 in
theorem check_eq (g m a : Nat) (ha : a < R256) (hm : m < R256) (h : a = m) (w : World) (hM : FieldB w g m) :
    Calls Tryd.prog 26 #[.pointer (some ⟨g, 0, none⟩), .agg #[.int .u64 (limb (a) 0 : Nat), .int .u64 (limb (a) 1 : Nat), .int .u64 (limb (a) 2 : Nat), .int .u64 (limb (a) 3 : Nat)]] w fun e w' => e = .returned (.int .i64 20) ∧ Below w.heap.size w w' := by
  have k1 : ∀ w, Calls Tryd.prog 38 #[.agg #[.int .u64 (limb (a) 0 : Nat), .int .u64 (limb (a) 1 : Nat), .int .u64 (limb (a) 2 : Nat), .int .u64 (limb (a) 3 : Nat)], .agg #[.int .u64 (limb (m) 0 : Nat), .int .u64 (limb (m) 1 : Nat), .int .u64 (limb (m) 2 : Nat), .int .u64 (limb (m) 3 : Nat)]] w fun e w' => e = .returned (.int .i64 (0)) ∧ Below w.heap.size w w' := fun w => by
    have g := cmp_any a m ha hm w
    rw [show cmpN a m = (0) from (by rw [h]; exact cmpN_self m)] at g
    exact g
  have K1 : Hid _ := k1
  have HM1 : Hid _ := hM.1
  have hg := hM.2.2
  clear k1 h hM
  go_enter Tryd.func26, Tryd.ntmps26
  go_wp2_with fail
  obtain ⟨X, hX⟩ : ∃ X, X = w.alloc (.cells #[.int .u64 (limb a 0 : Nat), .int .u64 (limb a 1 : Nat), .int .u64 (limb a 2 : Nat), .int .u64 (limb a 3 : Nat)] 27) := ⟨_, rfl⟩
  rw [← hX]
  have AX : Num4 X w.heap.size a := by rw [hX]; ((repeat' (first | assumption | (refine Num4.new' ?_; first | omega | (simp; done)) | refine Num4.set ?_ ?_ | refine Num4.alloc ?_ ?_ | refine Num4.drewN ?_ | refine Num4.call ?_ (by assumption) ?_)) <;> (first | omega | (simp; done) | (simp; omega)))
  have WX : Below w.heap.size w X := by rw [hX]; ((repeat' (first | with_reducible exact Below.refl _ _ | with_reducible refine Below.setCell ?_ ?_ _ | with_reducible refine below_alloc0 ?_ _ | with_reducible refine below_drewN ?_ _ | with_reducible refine Below.drew ?_ | refine below_call0 ?_ (by assumption))) <;> (first | omega | (simp; done) | (simp; omega)))
  have MX : Num4 X g m := by rw [hX]; exact Num4.alloc HM1.out hg
  have zx : w.heap.size < X.heap.size := by rw [hX]; simp
  clear hX
  have HK : Hid (∀ w', Below X.heap.size X w' → (Below X.heap.size X w' ∧ (w'.cell? ⟨w.heap.size, 0, none⟩ = some (.int .u64 (limb (a) 0 : Nat)) ∧ w'.cell? ⟨w.heap.size, 1, none⟩ = some (.int .u64 (limb (a) 1 : Nat)) ∧ w'.cell? ⟨w.heap.size, 2, none⟩ = some (.int .u64 (limb (a) 2 : Nat)) ∧ w'.cell? ⟨w.heap.size, 3, none⟩ = some (.int .u64 (limb (a) 3 : Nat))) ∧ (w'.cell? ⟨g, 0, none⟩ = some (.int .u64 (limb (m) 0 : Nat)) ∧ w'.cell? ⟨g, 1, none⟩ = some (.int .u64 (limb (m) 1 : Nat)) ∧ w'.cell? ⟨g, 2, none⟩ = some (.int .u64 (limb (m) 2 : Nat)) ∧ w'.cell? ⟨g, 3, none⟩ = some (.int .u64 (limb (m) 3 : Nat))))) := fun w' h => ⟨h, (AX.call h (by omega)).facts, (MX.call h (by omega)).facts⟩
  clear AX MX
  go_region_held3 (fun w' => Below X.heap.size X w' ∧ (w'.cell? ⟨w.heap.size, 0, none⟩ = some (.int .u64 (limb (a) 0 : Nat)) ∧ w'.cell? ⟨w.heap.size, 1, none⟩ = some (.int .u64 (limb (a) 1 : Nat)) ∧ w'.cell? ⟨w.heap.size, 2, none⟩ = some (.int .u64 (limb (a) 2 : Nat)) ∧ w'.cell? ⟨w.heap.size, 3, none⟩ = some (.int .u64 (limb (a) 3 : Nat))) ∧ (w'.cell? ⟨g, 0, none⟩ = some (.int .u64 (limb (m) 0 : Nat)) ∧ w'.cell? ⟨g, 1, none⟩ = some (.int .u64 (limb (m) 1 : Nat)) ∧ w'.cell? ⟨g, 2, none⟩ = some (.int .u64 (limb (m) 2 : Nat)) ∧ w'.cell? ⟨g, 3, none⟩ = some (.int .u64 (limb (m) 3 : Nat))))
    ((refine HK.out _ ?_; ((repeat' (first | with_reducible exact Below.refl _ _ | exact (And.left (by assumption)) | with_reducible refine Below.setCell ?_ ?_ _ | with_reducible refine below_alloc0 ?_ _ | with_reducible refine below_drewN ?_ _ | with_reducible refine Below.drew ?_ | refine below_call0 ?_ (by assumption))) <;> (first | omega | (simp; done) | (simp; omega)))))
    (first | (go_at_call 38; refine (K1.out _).mono ?_; rintro e w' ⟨rfl, hq⟩))
  go_wp2
  go_ret
  exact ⟨rfl, below_call0 WX (And.left (by assumption))⟩

theorem check_any (g m a : Nat) (ha : a < R256) (hm : m < R256) (w : World) (hM : FieldB w g m) :
    Calls Tryd.prog 26 #[.pointer (some ⟨g, 0, none⟩), .agg #[.int .u64 (limb (a) 0 : Nat), .int .u64 (limb (a) 1 : Nat), .int .u64 (limb (a) 2 : Nat), .int .u64 (limb (a) 3 : Nat)]] w fun e w' => e = .returned (.int .i64 (chkN m a)) ∧ Below w.heap.size w w' := by
  unfold chkN
  rcases Nat.lt_trichotomy a m with h | h | h
  · rw [if_pos h]; exact check_in g m a ha hm h w hM
  · rw [if_neg (by omega)]; exact check_eq g m a ha hm h w hM
  · rw [if_neg (by omega)]; exact check_gt g m a ha hm h w hM
theorem check_no (g m a : Nat) (ha : a < R256) (hm : m < R256) (h : ¬ a < m) (w : World) (hM : FieldB w g m) :
    Calls Tryd.prog 26 #[.pointer (some ⟨g, 0, none⟩), .agg #[.int .u64 (limb (a) 0 : Nat), .int .u64 (limb (a) 1 : Nat), .int .u64 (limb (a) 2 : Nat), .int .u64 (limb (a) 3 : Nat)]] w fun e w' => e = .returned (.int .i64 20) ∧ Below w.heap.size w w' := by
  have k := check_any g m a ha hm w hM
  unfold chkN at k
  rw [if_neg h] at k
  exact k
end Go.Proofs.YtbpgiijdcagckaaDoor

namespace Go.Proofs.YtbpgiijdcagckaaDoor
open Go.RowKit

def orN (a b c d : Nat) : Nat := a ||| b ||| c ||| d
theorem or_lt (a b : Nat) (ha : a < 18446744073709551616) (hb : b < 18446744073709551616) : a ||| b < 18446744073709551616 := Nat.or_lt_two_pow (n := 64) ha hb
theorem or_bits (a b c d : Nat) (ha : a < 18446744073709551616) (hb : b < 18446744073709551616) (hc : c < 18446744073709551616) (hd : d < 18446744073709551616) : bits .or .u64 (bits .or .u64 (bits .or .u64 (a : Int) (b : Int)) (c : Int)) (d : Int) = ((orN a b c d : Nat) : Int) := by
  rw [bits_or_u64_nat a b ha hb, bits_or_u64_nat _ c (or_lt a b ha hb) hc, bits_or_u64_nat _ d (or_lt _ c (or_lt a b ha hb) hc) hd]
  rfl
theorem orN_zero (a b c d : Nat) : orN a b c d = 0 ↔ a = 0 ∧ b = 0 ∧ c = 0 ∧ d = 0 := by
  unfold orN
  rw [Nat.or_eq_zero_iff, Nat.or_eq_zero_iff, Nat.or_eq_zero_iff]
  constructor
  · rintro ⟨⟨⟨h0, h1⟩, h2⟩, h3⟩; exact ⟨h0, h1, h2, h3⟩
  · rintro ⟨h0, h1, h2, h3⟩; exact ⟨⟨⟨h0, h1⟩, h2⟩, h3⟩
theorem orN_some (B : Nat) (hB : B < R256) (h : B ≠ 0) : orN (limb B 0) (limb B 1) (limb B 2) (limb B 3) ≠ 0 := by
  intro c
  obtain ⟨e0, e1, e2, e3⟩ := (orN_zero _ _ _ _).1 c
  apply h
  rw [← join_limb B hB, e0, e1, e2, e3]
  rfl
theorem join8_two (A B : Nat) (hA : A < R256) (hB : B < R256) : join8 (limb A 0) (limb A 1) (limb A 2) (limb A 3) (limb B 0) (limb B 1) (limb B 2) (limb B 3) = A + R256 * B := by
  have a := join_limb A hA
  have b := join_limb B hB
  unfold join8
  unfold join4 at a b
  rw [R256_eq, Nat.mul_assoc, Nat.mul_assoc, Nat.mul_assoc]
  generalize limb A 0 = a0 at *
  generalize limb A 1 = a1 at *
  generalize limb A 2 = a2 at *
  generalize limb A 3 = a3 at *
  generalize limb B 0 = b0 at *
  generalize limb B 1 = b1 at *
  generalize limb B 2 = b2 at *
  generalize limb B 3 = b3 at *
  subst a b
  unfold M64
  omega
def meas8 (a0 a1 a2 a3 b0 b1 b2 b3 : Value) : Nat := join8 (intOf a0).toNat (intOf a1).toNat (intOf a2).toNat (intOf a3).toNat (intOf b0).toNat (intOf b1).toNat (intOf b2).toNat (intOf b3).toNat
theorem meas8_eq (A B : Nat) (hA : A < R256) (hB : B < R256) : meas8 (.int .u64 (limb A 0 : Nat)) (.int .u64 (limb A 1 : Nat)) (.int .u64 (limb A 2 : Nat)) (.int .u64 (limb A 3 : Nat)) (.int .u64 (limb B 0 : Nat)) (.int .u64 (limb B 1 : Nat)) (.int .u64 (limb B 2 : Nat)) (.int .u64 (limb B 3 : Nat)) = A + R256 * B := by
  rw [← join8_two A B hA hB]
  rfl

set_option maxRecDepth 100000 in
set_option maxHeartbeats 4000000 in
theorem reduce_any (g m V : Nat) (hF : FM m) (hV : V < R256 * R256) (w : World) (hM : FieldB w g m) :
    Calls Tryd.prog 47 #[.pointer (some ⟨g, 0, none⟩), .agg #[.int .u64 (limb (V) 0 : Nat), .int .u64 (limb (V) 1 : Nat), .int .u64 (limb (V) 2 : Nat), .int .u64 (limb (V) 3 : Nat), .int .u64 (limb (V) 4 : Nat), .int .u64 (limb (V) 5 : Nat), .int .u64 (limb (V) 6 : Nat), .int .u64 (limb (V) 7 : Nat)]] w fun e w' => e = .returned (.agg #[.int .u64 (limb (V % m) 0 : Nat), .int .u64 (limb (V % m) 1 : Nat), .int .u64 (limb (V % m) 2 : Nat), .int .u64 (limb (V % m) 3 : Nat)]) ∧ Below w.heap.size w w' := by
  obtain ⟨r, hr⟩ : ∃ r, r = V % m := ⟨_, rfl⟩
  rw [← hr]
  have HR : Hid _ := hr
  have m1 := hF.pos
  have mR := hF.2.1
  have HF : Hid _ := And.intro hF hV
  clear hr hF hV
  go_enter Tryd.func47, Tryd.ntmps47
  go_wp2_with fail
  go_quiet (fail)
  go_wp2_with fail
  go_quiet (fail)
  go_wp2_with fail
  go_loopw [5, 6, 7, 8, 9, 10, 11, 12] (fun a0 a1 a2 a3 b0 b1 b2 b3 wr => ∃ A B : Nat, (A < R256 ∧ B < R256 ∧ (A + R256 * B) % m = r) ∧ (a0 = .int .u64 (limb A 0 : Nat) ∧ a1 = .int .u64 (limb A 1 : Nat) ∧ a2 = .int .u64 (limb A 2 : Nat) ∧ a3 = .int .u64 (limb A 3 : Nat)) ∧ (b0 = .int .u64 (limb B 0 : Nat) ∧ b1 = .int .u64 (limb B 1 : Nat) ∧ b2 = .int .u64 (limb B 2 : Nat) ∧ b3 = .int .u64 (limb B 3 : Nat)) ∧ FieldB wr g m ∧ Pend wr (w.heap.size + 1) ∧ Below w.heap.size w wr)
    (fun a0 a1 a2 a3 b0 b1 b2 b3 _ => meas8 a0 a1 a2 a3 b0 b1 b2 b3)
  case atStart =>
    refine ⟨V % R256, V / R256, ⟨Nat.mod_lt _ (by decide), Nat.div_lt_of_lt_mul HF.out.2, ?_⟩, ⟨?_, ?_, ?_, ?_⟩, ⟨?_, ?_, ?_, ?_⟩, ?_, ?_, ?_⟩
    · rw [Nat.mod_add_div, HR.out]
    · rw [limb_mod _ _ (by omega)]
    · rw [limb_mod _ _ (by omega)]
    · rw [limb_mod _ _ (by omega)]
    · rw [limb_mod _ _ (by omega)]
    · rw [limb_div]
    · rw [limb_div]
    · rw [limb_div]
    · rw [limb_div]
    · exact FieldB.drewN (FieldB.drewN (FieldB.alloc (FieldB.alloc hM)))
    · have h := Pend.new (w.alloc (.cells #[.int .u64 (limb V 0 : Nat), .int .u64 (limb V 1 : Nat), .int .u64 (limb V 2 : Nat), .int .u64 (limb V 3 : Nat), .int .u64 (limb V 4 : Nat), .int .u64 (limb V 5 : Nat), .int .u64 (limb V 6 : Nat), .int .u64 (limb V 7 : Nat)] 85)) 27
      simp only [World.size_alloc] at h
      exact h
    · ((repeat' (first | with_reducible exact Below.refl _ _ | with_reducible refine Below.setCell ?_ ?_ _ | with_reducible refine below_alloc0 ?_ _ | with_reducible refine below_drewN ?_ _ | with_reducible refine Below.drew ?_ | refine below_call0 ?_ (by assumption))) <;> (first | omega | (simp; done) | (simp; omega)))
  case round =>
    obtain ⟨A, B, ⟨hA, hB, hAB⟩, ⟨rfl, rfl, rfl, rfl⟩, ⟨rfl, rfl, rfl, rfl⟩, FX, PX, WX⟩ := hrel
    have hor := or_bits (limb B 0) (limb B 1) (limb B 2) (limb B 3) (limb_lt _ _) (limb_lt _ _) (limb_lt _ _) (limb_lt _ _)
    by_cases hB0 : B = 0
    · subst hB0
      rw [Nat.mul_zero, Nat.add_zero] at hAB
      have k : ∀ w, FieldB w g m → Calls Tryd.prog 53 #[.pointer (some ⟨g, 0, none⟩), .int .u64 0, .int .u64 (limb A 0 : Nat), .int .u64 (limb A 1 : Nat), .int .u64 (limb A 2 : Nat), .int .u64 (limb A 3 : Nat)] w fun e w' => e = .returned (.agg #[.int .u64 (limb (r) 0 : Nat), .int .u64 (limb (r) 1 : Nat), .int .u64 (limb (r) 2 : Nat), .int .u64 (limb (r) 3 : Nat)]) ∧ Below w.heap.size w w' := fun w h => by
        have k := lessOnce_any g 0 A m hA mR w h.1 h.2.2
        rw [lessN_eq 0 A m A (by omega) (by have := HF.out.1.1; omega) mR hA (by omega), hAB] at k
        exact k
      have K : Hid _ := k
      have e0 : orN (limb 0 0) (limb 0 1) (limb 0 2) (limb 0 3) = 0 := by rw [limb_nought, limb_nought, limb_nought, limb_nought]; rfl
      rw [e0] at hor
      clear hAB k e0 hM HF
      go_wp2_with fail
      refine (K.out _ FX).mono ?_
      rintro e w1 ⟨rfl, hb1⟩
      have P1 := PX.call hb1
      have W1 : Below w.heap.size w w1 := below_call0 WX hb1
      obtain ⟨⟨p0, p1, p2, p3⟩, ⟨f0, f1, f2, f3⟩, pz⟩ := P1.facts
      clear hb1 K
      go_wp2
      refine bodyPost_ret (v := .agg #[.int .u64 (limb (r) 0 : Nat), .int .u64 (limb (r) 1 : Nat), .int .u64 (limb (r) 2 : Nat), .int .u64 (limb (r) 3 : Nat)]) ?_ rfl ⟨rfl, ?_⟩
      · simp [results, Tryd.results47, go_sem, p0, p1, p2, p3]
      · ((repeat' (first | with_reducible exact Below.refl _ _ | with_reducible refine Below.setCell ?_ ?_ _ | with_reducible refine below_alloc0 ?_ _ | with_reducible refine below_drewN ?_ _ | with_reducible refine Below.drew ?_ | refine below_call0 ?_ (by assumption))) <;> (first | omega | (simp; done) | (simp; omega)))
    · obtain ⟨o, ho⟩ : ∃ o, o = orN (limb B 0) (limb B 1) (limb B 2) (limb B 3) := ⟨_, rfl⟩
      have hoz : o ≠ 0 := by rw [ho]; exact orN_some B hB hB0
      have hob : ((o : Int) == 0) = false := by simpa using hoz
      rw [← ho] at hor
      obtain ⟨G, hG⟩ : ∃ G, G = R256 - m := ⟨_, rfl⟩
      obtain ⟨x, hx⟩ : ∃ x, x = rowL (limb G 0) (limb B 0) (limb B 1) (limb B 2) (limb B 3) (limb A 0) (limb A 1) (limb A 2) (limb A 3) := ⟨_, rfl⟩
      obtain ⟨p, hp⟩ : ∃ p, p = rowL (limb G 1) (limb B 0) (limb B 1) (limb B 2) (limb B 3) (x 1) (x 2) (x 3) (x 4) := ⟨_, rfl⟩
      obtain ⟨q, hq⟩ : ∃ q, q = rowL (limb G 2) (limb B 0) (limb B 1) (limb B 2) (limb B 3) (p 1) (p 2) (p 3) (p 4) := ⟨_, rfl⟩
      obtain ⟨⟨⟨x1, x2, x3, x4⟩, p1, p2, p3, p4⟩, l0, l1, l2, l3, l4, l5, l6, l7⟩ := fold_limbs A B G hA hB (by omega) (by rw [hG]; exact limb_gap3 HF.out.1) x p q hx hp hq
      have L := limb_lt
      have Kx := fun (w : World) => faddRow_any (limb G 0) (limb B 0) (limb B 1) (limb B 2) (limb B 3) _ _ _ _ (L _ _) (L _ _) (L _ _) (L _ _) (L _ _) (L A 0) (L A 1) (L A 2) (L A 3) w
      have Kp := fun (w : World) => faddRow_any (limb G 1) (limb B 0) (limb B 1) (limb B 2) (limb B 3) _ _ _ _ (L _ _) (L _ _) (L _ _) (L _ _) (L _ _) x1 x2 x3 x4 w
      have Kq := fun (w : World) => faddRow_any (limb G 2) (limb B 0) (limb B 1) (limb B 2) (limb B 3) _ _ _ _ (L _ _) (L _ _) (L _ _) (L _ _) (L _ _) p1 p2 p3 p4 w
      rw [← hx] at Kx
      rw [← hp] at Kp
      rw [← hq] at Kq
      have Hx : Hid _ := Kx
      have Hp : Hid _ := Kp
      have Hq : Hid _ := Kq
      have hV2 : A + B * G < R256 * R256 := by
        have := fold_less A B m (by omega) mR (by omega)
        rw [← hG] at this
        have t : A + R256 * B < R256 * R256 := by
          have u : R256 * (B + 1) ≤ R256 * R256 := Nat.mul_le_mul_left _ (by omega)
          rw [Nat.mul_add, Nat.mul_one] at u
          omega
        omega
      have HV : Hid ((A + B * G) % m = r ∧ A + B * G < A + R256 * B) := ⟨by rw [hG, fold_mod A B m mR]; exact hAB, by rw [hG]; exact fold_less A B m (by omega) mR (by omega)⟩
      obtain ⟨c0, c1, c2, c3⟩ := FX.gap
      rw [← hG] at c0 c1 c2 c3
      have HL : Hid _ := And.intro l0 (And.intro l1 (And.intro l2 (And.intro l3 (And.intro l4 (And.intro l5 (And.intro l6 l7))))))
      have HAB : Hid _ := And.intro hA (And.intro hB (And.intro hV2 hoz))
      clear hx hp hq hG l0 l1 l2 l3 l4 l5 l6 l7 Kx Kp Kq L x1 x2 x3 x4 p1 p2 p3 p4 ho hAB hV2 hA hB hB0 hM hoz
      go_wp2_with fail
      refine (Hx.out _).mono ?_
      rintro e w' ⟨rfl, rfl⟩
      go_wp2_with fail
      refine (Hp.out _).mono ?_
      rintro e w' ⟨rfl, rfl⟩
      go_wp2_with fail
      refine (Hq.out _).mono ?_
      rintro e w' ⟨rfl, rfl⟩
      go_wp2_with fail
      go_roundw
      case rel =>
        obtain ⟨l0, l1, l2, l3, l4, l5, l6, l7⟩ := HL.out
        obtain ⟨hA, hB, hV2, _⟩ := HAB.out
        have hA2 : (A + B * G) % R256 < R256 := Nat.mod_lt _ (by decide)
        have hB2 : (A + B * G) / R256 < R256 := Nat.div_lt_of_lt_mul hV2
        refine ⟨(A + B * G) % R256, (A + B * G) / R256, ⟨hA2, hB2, ?_⟩, ⟨?_, ?_, ?_, ?_⟩, ⟨?_, ?_, ?_, ?_⟩, FX, PX, WX⟩
        · rw [Nat.mod_add_div]; exact HV.out.1
        · rw [limb_mod _ _ (by omega), l0]
        · rw [limb_mod _ _ (by omega), l1]
        · rw [limb_mod _ _ (by omega), l2]
        · rw [limb_mod _ _ (by omega), l3]
        · rw [limb_div, l4]
        · rw [limb_div, l5]
        · rw [limb_div, l6]
        · rw [limb_div, l7]; rfl
      case measure =>
        obtain ⟨l0, l1, l2, l3, l4, l5, l6, l7⟩ := HL.out
        obtain ⟨hA, hB, hV2, _⟩ := HAB.out
        have hA2 : (A + B * G) % R256 < R256 := Nat.mod_lt _ (by decide)
        have hB2 : (A + B * G) / R256 < R256 := Nat.div_lt_of_lt_mul hV2
        rw [meas8_eq A B hA hB]
        have e := meas8_eq _ _ hA2 hB2
        rw [limb_mod _ _ (by omega), limb_mod _ _ (by omega), limb_mod _ _ (by omega), limb_mod _ _ (by omega), limb_div, limb_div, limb_div, limb_div, l0, l1, l2, l3, l4, l5, l6, l7, Nat.mod_add_div] at e
        have g := HV.out.2
        exact Nat.lt_of_le_of_lt (Nat.le_of_eq e) g
end Go.Proofs.YtbpgiijdcagckaaDoor

namespace Go.Proofs.YtbpgiijdcagckaaDoor
open Go.RowKit

def subM (m a b : Nat) : Nat := (a + m - b) % m
theorem subM_lt (m a b : Nat) (h : 0 < m) : subM m a b < m := Nat.mod_lt _ h
theorem addK_val (a b : Nat) : R256 * addK a b + addN a b = a + b := by unfold addK addN; rw [Nat.add_comm, Nat.mod_add_div]
theorem plus_val (m a b : Nat) (hm : m < R256) (ha : a < m) (hb : b < m) : lessN (addK a b) (addN a b) m = (a + b) % m :=
  lessN_eq _ _ m (a + b) (addK_val a b).symm (by omega) hm (addN_lt a b) (addK_le a b (by omega) (by omega))
theorem minus_ge (m a b : Nat) (hm : m < R256) (ha : a < m) (hb : b < m) (h : b ≤ a) : subN a b = subM m a b := by
  unfold subN subM
  rw [show a + R256 - b = (a - b) + R256 from by omega, Nat.add_mod_right, Nat.mod_eq_of_lt (by omega), show a + m - b = (a - b) + m from by omega, Nat.add_mod_right, Nat.mod_eq_of_lt (by omega)]
theorem minus_lt (m a b : Nat) (hm : m < R256) (hb : b < m) (h : a < b) : addN (subN a b) m = subM m a b := by
  unfold addN subN subM
  rw [Nat.mod_eq_of_lt (show a + R256 - b < R256 by omega), show a + R256 - b + m = (a + m - b) + R256 from by omega, Nat.add_mod_right, Nat.mod_eq_of_lt (by omega), Nat.mod_eq_of_lt (by omega)]

set_option maxHeartbeats 2000000 in
theorem minus_fld_ge (g m a b : Nat) (hF : FM m) (ha : a < m) (hb : b < m) (h : b ≤ a) (w : World) :
    Calls Tryd.prog 44 #[.pointer (some ⟨g, 0, none⟩), .agg #[.int .u64 (limb (a) 0 : Nat), .int .u64 (limb (a) 1 : Nat), .int .u64 (limb (a) 2 : Nat), .int .u64 (limb (a) 3 : Nat)], .agg #[.int .u64 (limb (b) 0 : Nat), .int .u64 (limb (b) 1 : Nat), .int .u64 (limb (b) 2 : Nat), .int .u64 (limb (b) 3 : Nat)]] w fun e w' => e = .returned (.agg #[.int .u64 (limb (subM m a b) 0 : Nat), .int .u64 (limb (subM m a b) 1 : Nat), .int .u64 (limb (subM m a b) 2 : Nat), .int .u64 (limb (subM m a b) 3 : Nat)]) ∧ Below w.heap.size w w' := by
  have mR := hF.2.1
  have k1 := sub_any a b (by omega) (by omega)
  rw [minus_ge m a b mR ha hb h, show subK a b = 0 from if_neg (by omega)] at k1
  obtain ⟨r, hr⟩ : ∃ r, r = subM m a b := ⟨_, rfl⟩
  rw [← hr] at k1
  rw [← hr]
  have K1 : Hid _ := k1
  clear k1 hr ha hb hF mR h
  go_enter Tryd.func44, Tryd.ntmps44
  go_wp2_with fail
  refine (K1.out _).mono ?_
  rintro e w1 ⟨rfl, hb1⟩
  have hz1 := hb1.size
  try simp only [World.size_alloc] at hz1
  have P1 := Pend.call_new hb1
  simp only [World.size_alloc] at P1
  have W1 : Below w.heap.size w w1 := by ((repeat' (first | with_reducible exact Below.refl _ _ | with_reducible refine Below.setCell ?_ ?_ _ | with_reducible refine below_alloc0 ?_ _ | with_reducible refine below_drewN ?_ _ | with_reducible refine Below.drew ?_ | refine below_call0 ?_ (by assumption))) <;> (first | omega | (simp; done) | (simp; omega)))
  obtain ⟨⟨p0, p1, p2, p3⟩, ⟨f0, f1, f2, f3⟩, pz⟩ := P1.facts
  clear hb1 K1
  go_wp2
  refine bodyPost_ret (v := .agg #[.int .u64 (limb (r) 0 : Nat), .int .u64 (limb (r) 1 : Nat), .int .u64 (limb (r) 2 : Nat), .int .u64 (limb (r) 3 : Nat)]) ?_ rfl ⟨rfl, ?_⟩
  · simp [results, Tryd.results44, go_sem, p0, p1, p2, p3, pz]
  · ((repeat' (first | with_reducible exact Below.refl _ _ | with_reducible refine Below.setCell ?_ ?_ _ | with_reducible refine below_alloc0 ?_ _ | with_reducible refine below_drewN ?_ _ | with_reducible refine Below.drew ?_ | refine below_call0 ?_ (by assumption))) <;> (first | omega | (simp; done) | (simp; omega)))

set_option maxHeartbeats 2000000 in
theorem minus_fld_lt (g m a b : Nat) (hF : FM m) (hb : b < m) (h : a < b) (w : World) (hM : FieldB w g m) :
    Calls Tryd.prog 44 #[.pointer (some ⟨g, 0, none⟩), .agg #[.int .u64 (limb (a) 0 : Nat), .int .u64 (limb (a) 1 : Nat), .int .u64 (limb (a) 2 : Nat), .int .u64 (limb (a) 3 : Nat)], .agg #[.int .u64 (limb (b) 0 : Nat), .int .u64 (limb (b) 1 : Nat), .int .u64 (limb (b) 2 : Nat), .int .u64 (limb (b) 3 : Nat)]] w fun e w' => e = .returned (.agg #[.int .u64 (limb (subM m a b) 0 : Nat), .int .u64 (limb (subM m a b) 1 : Nat), .int .u64 (limb (subM m a b) 2 : Nat), .int .u64 (limb (subM m a b) 3 : Nat)]) ∧ Below w.heap.size w w' := by
  have mR := hF.2.1
  have k1 := sub_any a b (by omega) (by omega)
  rw [show subK a b = 1 from if_pos h] at k1
  have k2 := add_any (subN a b) m (subN_lt a b) mR
  rw [minus_lt m a b mR hb h] at k2
  obtain ⟨r, hr⟩ : ∃ r, r = subM m a b := ⟨_, rfl⟩
  obtain ⟨s, hs⟩ : ∃ s, s = subN a b := ⟨_, rfl⟩
  obtain ⟨c, hc⟩ : ∃ c, c = addK (subN a b) m := ⟨_, rfl⟩
  rw [← hs] at k1 k2
  rw [← hs] at hc
  rw [← hr, ← hc] at k2
  rw [← hr]
  have K1 : Hid _ := k1
  have K2 : Hid _ := k2
  have HM : Hid _ := hM
  clear k1 k2 hr hs hc hb hM hF mR h
  go_enter Tryd.func44, Tryd.ntmps44
  go_wp2_with fail
  refine (K1.out _).mono ?_
  rintro e w1 ⟨rfl, hb1⟩
  have hz1 := hb1.size
  try simp only [World.size_alloc] at hz1
  have P1 := Pend.call_new hb1
  simp only [World.size_alloc] at P1
  have M1 : FieldB w1 g m := (FieldB.alloc (FieldB.alloc (FieldB.alloc HM.out))).call hb1
  have W1 : Below w.heap.size w w1 := by ((repeat' (first | with_reducible exact Below.refl _ _ | with_reducible refine Below.setCell ?_ ?_ _ | with_reducible refine below_alloc0 ?_ _ | with_reducible refine below_drewN ?_ _ | with_reducible refine Below.drew ?_ | refine below_call0 ?_ (by assumption))) <;> (first | omega | (simp; done) | (simp; omega)))
  clear hb1 hz1 K1 HM
  obtain ⟨m0, m1, m2, m3⟩ := M1.1.facts
  have mz := M1.2.2
  go_wp2_with fail
  obtain ⟨X, hX⟩ : ∃ X, X = w1.alloc (.cells #[.int .u64 (limb s 0 : Nat), .int .u64 (limb s 1 : Nat), .int .u64 (limb s 2 : Nat), .int .u64 (limb s 3 : Nat)] 27) := ⟨_, rfl⟩
  rw [← hX]
  have OX : Own4 X w1.heap.size s := by rw [hX]; exact Own4.new _ _ _
  have PX : Pend X (w.heap.size + 1 + 1) := by rw [hX]; exact P1.alloc
  have WX : Below w.heap.size w X := by rw [hX]; exact below_alloc0 W1 _
  have MX : Num4 X g m := by rw [hX]; exact M1.1.alloc mz
  have ne : w1.heap.size ≠ w.heap.size + 1 + 1 := by have := P1.2.2; omega
  have lw : w.heap.size ≤ w1.heap.size := W1.size
  clear hX m0 m1 m2 m3
  obtain ⟨m0, m1, m2, m3⟩ := MX.facts
  obtain ⟨⟨o0, o1, o2, o3⟩, _, oz⟩ := OX.facts
  have HP : Hid _ := And.intro OX (And.intro PX WX)
  clear P1 W1 M1 OX PX WX MX
  go_cut [7, 6] (fun v7 v6 wx => v7 = .pointer (some ⟨w1.heap.size, 0, none⟩) ∧ v6 = .pointer (some ⟨w.heap.size + 1 + 1, 0, none⟩) ∧ Own4 wx w1.heap.size r ∧ Pend wx (w.heap.size + 1 + 1) ∧ Below w.heap.size w wx)
  case first =>
    go_region_with (first | (go_at_call 49; refine (K2.out _).mono ?_; rintro e w2 ⟨rfl, hq2⟩; have O2 := Own4.call (W := X.drew) HP.out.1 hq2; have P2 := Pend.call (W := X.drew) HP.out.2.1 hq2; have W2 : Below w.heap.size w w2 := below_call0 (Below.drew HP.out.2.2) hq2; obtain ⟨⟨o0, o1, o2, o3⟩, ⟨u0, u1, u2, u3⟩, oz⟩ := O2.facts))
    all_goals (go_wp2_with fail; go_meet)
    all_goals refine ⟨rfl, rfl, Own4.put O2, ?_, ?_⟩
    all_goals first
      | exact Pend.set (Pend.set (Pend.set (Pend.set P2 ne) ne) ne) ne
      | exact Below.setCell (Below.setCell (Below.setCell (Below.setCell W2 lw _) lw _) lw _) lw _
  case rest =>
    obtain ⟨rfl, rfl, OC, PC, WC⟩ := hcut
    obtain ⟨⟨p0, p1, p2, p3⟩, ⟨f0, f1, f2, f3⟩, pz⟩ := PC.facts
    obtain ⟨⟨q0, q1, q2, q3⟩, _, qz⟩ := OC.facts
    clear HP K2
    go_wp2
    refine bodyPost_ret (v := .agg #[.int .u64 (limb (r) 0 : Nat), .int .u64 (limb (r) 1 : Nat), .int .u64 (limb (r) 2 : Nat), .int .u64 (limb (r) 3 : Nat)]) ?_ rfl ⟨rfl, ?_⟩
    · simp [results, Tryd.results44, go_sem, p0, p1, p2, p3]
    · ((repeat' (first | with_reducible exact Below.refl _ _ | with_reducible refine Below.setCell ?_ ?_ _ | with_reducible refine below_alloc0 ?_ _ | with_reducible refine below_drewN ?_ _ | with_reducible refine Below.drew ?_ | refine below_call0 ?_ (by assumption))) <;> (first | omega | (simp; done) | (simp; omega)))

theorem minus_fld (g m a b : Nat) (hF : FM m) (ha : a < m) (hb : b < m) (w : World) (hM : FieldB w g m) :
    Calls Tryd.prog 44 #[.pointer (some ⟨g, 0, none⟩), .agg #[.int .u64 (limb (a) 0 : Nat), .int .u64 (limb (a) 1 : Nat), .int .u64 (limb (a) 2 : Nat), .int .u64 (limb (a) 3 : Nat)], .agg #[.int .u64 (limb (b) 0 : Nat), .int .u64 (limb (b) 1 : Nat), .int .u64 (limb (b) 2 : Nat), .int .u64 (limb (b) 3 : Nat)]] w fun e w' => e = .returned (.agg #[.int .u64 (limb (subM m a b) 0 : Nat), .int .u64 (limb (subM m a b) 1 : Nat), .int .u64 (limb (subM m a b) 2 : Nat), .int .u64 (limb (subM m a b) 3 : Nat)]) ∧ Below w.heap.size w w' := by
  by_cases h : a < b
  · exact minus_fld_lt g m a b hF hb h w hM
  · exact minus_fld_ge g m a b hF ha hb (by omega) w

set_option maxHeartbeats 2000000 in
theorem times_fld (g m a b : Nat) (hF : FM m) (ha : a < R256) (hb : b < R256) (w : World) (hM : FieldB w g m) :
    Calls Tryd.prog 43 #[.pointer (some ⟨g, 0, none⟩), .agg #[.int .u64 (limb (a) 0 : Nat), .int .u64 (limb (a) 1 : Nat), .int .u64 (limb (a) 2 : Nat), .int .u64 (limb (a) 3 : Nat)], .agg #[.int .u64 (limb (b) 0 : Nat), .int .u64 (limb (b) 1 : Nat), .int .u64 (limb (b) 2 : Nat), .int .u64 (limb (b) 3 : Nat)]] w fun e w' => e = .returned (.agg #[.int .u64 (limb (a * b % m) 0 : Nat), .int .u64 (limb (a * b % m) 1 : Nat), .int .u64 (limb (a * b % m) 2 : Nat), .int .u64 (limb (a * b % m) 3 : Nat)]) ∧ Below w.heap.size w w' := by
  have k1 := mul_any a b ha hb
  have k2 := fun (w : World) (h : FieldB w g m) => reduce_any g m (a * b) hF (Nat.mul_lt_mul_of_lt_of_le ha (Nat.le_of_lt hb) (by decide)) w h
  obtain ⟨r, hr⟩ : ∃ r, r = a * b % m := ⟨_, rfl⟩
  obtain ⟨V, hV⟩ : ∃ V, V = a * b := ⟨_, rfl⟩
  rw [← hr] at k2
  rw [← hV] at k1 k2
  rw [← hr]
  have K1 : Hid _ := k1
  have K2 : Hid _ := k2
  have HM : Hid _ := hM
  clear k1 k2 hr hV ha hb hM hF
  go_enter Tryd.func43, Tryd.ntmps43
  go_wp2_with fail
  refine (K1.out _).mono ?_
  rintro e w1 ⟨rfl, hb1⟩
  have hz1 := hb1.size
  try simp only [World.size_alloc] at hz1
  have P1 := Pend.call_new hb1
  simp only [World.size_alloc] at P1
  have M1 : FieldB w1 g m := (FieldB.alloc (FieldB.alloc (FieldB.alloc HM.out))).call hb1
  have W1 : Below w.heap.size w w1 := by ((repeat' (first | with_reducible exact Below.refl _ _ | with_reducible refine Below.setCell ?_ ?_ _ | with_reducible refine below_alloc0 ?_ _ | with_reducible refine below_drewN ?_ _ | with_reducible refine Below.drew ?_ | refine below_call0 ?_ (by assumption))) <;> (first | omega | (simp; done) | (simp; omega)))
  clear hb1 hz1 K1 HM
  go_wp2_with fail
  refine (K2.out _ M1).mono ?_
  rintro e w2 ⟨rfl, hb2⟩
  have P2 := P1.call hb2
  have W2 : Below w.heap.size w w2 := below_call0 W1 hb2
  obtain ⟨⟨p0, p1, p2, p3⟩, ⟨f0, f1, f2, f3⟩, pz⟩ := P2.facts
  clear hb2 K2 M1 W1 P1
  go_wp2
  refine bodyPost_ret (v := .agg #[.int .u64 (limb (r) 0 : Nat), .int .u64 (limb (r) 1 : Nat), .int .u64 (limb (r) 2 : Nat), .int .u64 (limb (r) 3 : Nat)]) ?_ rfl ⟨rfl, ?_⟩
  · simp [results, Tryd.results43, go_sem, p0, p1, p2, p3]
  · ((repeat' (first | with_reducible exact Below.refl _ _ | with_reducible refine Below.setCell ?_ ?_ _ | with_reducible refine below_alloc0 ?_ _ | with_reducible refine below_drewN ?_ _ | with_reducible refine Below.drew ?_ | refine below_call0 ?_ (by assumption))) <;> (first | omega | (simp; done) | (simp; omega)))
end Go.Proofs.YtbpgiijdcagckaaDoor

namespace Go.Proofs.YtbpgiijdcagckaaDoor
open Go.RowKit

abbrev z4 : Value := .agg #[.int .u64 0, .int .u64 0, .int .u64 0, .int .u64 0]

set_option maxHeartbeats 2000000 in
theorem join_minus (g m a b r : Nat) (hm : m < R256) (ha : a < m) (hb : b < m)
    (k : ∀ w, FieldB w g m → Calls Tryd.prog 44 #[.pointer (some ⟨g, 0, none⟩), .agg #[.int .u64 (limb (a) 0 : Nat), .int .u64 (limb (a) 1 : Nat), .int .u64 (limb (a) 2 : Nat), .int .u64 (limb (a) 3 : Nat)], .agg #[.int .u64 (limb (b) 0 : Nat), .int .u64 (limb (b) 1 : Nat), .int .u64 (limb (b) 2 : Nat), .int .u64 (limb (b) 3 : Nat)]] w fun e w' => e = .returned (.agg #[.int .u64 (limb (r) 0 : Nat), .int .u64 (limb (r) 1 : Nat), .int .u64 (limb (r) 2 : Nat), .int .u64 (limb (r) 3 : Nat)]) ∧ Below w.heap.size w w') (w : World) (hM : FieldB w g m) :
    Calls Tryd.prog 42 #[.pointer (some ⟨g, 0, none⟩), .func (.func 44) #[.pointer (some ⟨g, 0, none⟩)] #[], .agg #[.int .u64 (limb (a) 0 : Nat), .int .u64 (limb (a) 1 : Nat), .int .u64 (limb (a) 2 : Nat), .int .u64 (limb (a) 3 : Nat)], .agg #[.int .u64 (limb (b) 0 : Nat), .int .u64 (limb (b) 1 : Nat), .int .u64 (limb (b) 2 : Nat), .int .u64 (limb (b) 3 : Nat)]] w fun e w' => e = .returned (.tuple #[.agg #[.int .u64 (limb (r) 0 : Nat), .int .u64 (limb (r) 1 : Nat), .int .u64 (limb (r) 2 : Nat), .int .u64 (limb (r) 3 : Nat)], .int .i64 0]) ∧ Below w.heap.size w w' := by
  have K1 : Hid _ := fun (w : World) (h : FieldB w g m) => check_in g m a (by omega) hm ha w h
  have K2 : Hid _ := fun (w : World) (h : FieldB w g m) => check_in g m b (by omega) hm hb w h
  have K3 : Hid _ := k
  have HM : Hid _ := hM
  clear k hM ha hb hm
  go_enter Tryd.func42, Tryd.ntmps42
  go_wp2_with fail
  refine (K1.out _ (FieldB.alloc (FieldB.alloc (FieldB.alloc HM.out)))).mono ?_
  rintro e w1 ⟨rfl, hb1⟩
  have hz1 := hb1.size
  try simp only [World.size_alloc] at hz1
  have P1 := Pend.call_new hb1
  simp only [World.size_alloc] at P1
  have A1 : Num4 w1 w.heap.size a := by ((repeat' (first | assumption | (refine Num4.new' ?_; first | omega | (simp; done)) | refine Num4.set ?_ ?_ | refine Num4.alloc ?_ ?_ | refine Num4.drewN ?_ | refine Num4.call ?_ (by assumption) ?_)) <;> (first | omega | (simp; done) | (simp; omega)))
  have B1 : Num4 w1 (w.heap.size + 1) b := by ((repeat' (first | assumption | (refine Num4.new' ?_; first | omega | (simp; done)) | refine Num4.set ?_ ?_ | refine Num4.alloc ?_ ?_ | refine Num4.drewN ?_ | refine Num4.call ?_ (by assumption) ?_)) <;> (first | omega | (simp; done) | (simp; omega)))
  have M1 : FieldB w1 g m := (FieldB.alloc (FieldB.alloc (FieldB.alloc HM.out))).call hb1
  have W1 : Below w.heap.size w w1 := by ((repeat' (first | with_reducible exact Below.refl _ _ | with_reducible refine Below.setCell ?_ ?_ _ | with_reducible refine below_alloc0 ?_ _ | with_reducible refine below_drewN ?_ _ | with_reducible refine Below.drew ?_ | refine below_call0 ?_ (by assumption))) <;> (first | omega | (simp; done) | (simp; omega)))
  have z1 : w.heap.size + 1 + 1 < w1.heap.size := by omega
  clear hb1 hz1 K1 HM
  obtain ⟨b0, b1, b2, b3⟩ := B1.facts
  go_wp2_with fail
  refine (K2.out _ M1).mono ?_
  rintro e w2 ⟨rfl, hb2⟩
  have P2 := P1.call hb2
  have A2 := A1.call hb2 (by omega)
  have B2 := B1.call hb2 (by omega)
  have M2 := M1.call hb2
  have W2 : Below w.heap.size w w2 := below_call0 W1 hb2
  have z2 : w.heap.size + 1 + 1 < w2.heap.size := Nat.lt_of_lt_of_le z1 hb2.size
  clear hb2 K2 M1 W1 P1 A1 B1 b0 b1 b2 b3
  obtain ⟨b0, b1, b2, b3⟩ := B2.facts
  obtain ⟨a0, a1, a2, a3⟩ := A2.facts
  go_wp2_with fail
  refine (K3.out _ M2).mono ?_
  rintro e w3 ⟨rfl, hb3⟩
  have P3 := P2.call hb3
  have W3 : Below w.heap.size w w3 := below_call0 W2 hb3
  obtain ⟨⟨p0, p1, p2, p3⟩, ⟨f0, f1, f2, f3⟩, pz⟩ := P3.facts
  clear hb3 K3 M2 W2 P2 A2 B2 b0 b1 b2 b3 a0 a1 a2 a3
  go_wp2
  refine bodyPost_ret (v := .tuple #[.agg #[.int .u64 (limb (r) 0 : Nat), .int .u64 (limb (r) 1 : Nat), .int .u64 (limb (r) 2 : Nat), .int .u64 (limb (r) 3 : Nat)], .int .i64 0]) ?_ rfl ⟨rfl, ?_⟩
  · simp [results, Tryd.results42, go_sem, p0, p1, p2, p3]
  · ((repeat' (first | with_reducible exact Below.refl _ _ | with_reducible refine Below.setCell ?_ ?_ _ | with_reducible refine below_alloc0 ?_ _ | with_reducible refine below_drewN ?_ _ | with_reducible refine Below.drew ?_ | refine below_call0 ?_ (by assumption))) <;> (first | omega | (simp; done) | (simp; omega)))

set_option maxHeartbeats 2000000 in
theorem join_times (g m a b r : Nat) (hm : m < R256) (ha : a < m) (hb : b < m)
    (k : ∀ w, FieldB w g m → Calls Tryd.prog 43 #[.pointer (some ⟨g, 0, none⟩), .agg #[.int .u64 (limb (a) 0 : Nat), .int .u64 (limb (a) 1 : Nat), .int .u64 (limb (a) 2 : Nat), .int .u64 (limb (a) 3 : Nat)], .agg #[.int .u64 (limb (b) 0 : Nat), .int .u64 (limb (b) 1 : Nat), .int .u64 (limb (b) 2 : Nat), .int .u64 (limb (b) 3 : Nat)]] w fun e w' => e = .returned (.agg #[.int .u64 (limb (r) 0 : Nat), .int .u64 (limb (r) 1 : Nat), .int .u64 (limb (r) 2 : Nat), .int .u64 (limb (r) 3 : Nat)]) ∧ Below w.heap.size w w') (w : World) (hM : FieldB w g m) :
    Calls Tryd.prog 42 #[.pointer (some ⟨g, 0, none⟩), .func (.func 43) #[.pointer (some ⟨g, 0, none⟩)] #[], .agg #[.int .u64 (limb (a) 0 : Nat), .int .u64 (limb (a) 1 : Nat), .int .u64 (limb (a) 2 : Nat), .int .u64 (limb (a) 3 : Nat)], .agg #[.int .u64 (limb (b) 0 : Nat), .int .u64 (limb (b) 1 : Nat), .int .u64 (limb (b) 2 : Nat), .int .u64 (limb (b) 3 : Nat)]] w fun e w' => e = .returned (.tuple #[.agg #[.int .u64 (limb (r) 0 : Nat), .int .u64 (limb (r) 1 : Nat), .int .u64 (limb (r) 2 : Nat), .int .u64 (limb (r) 3 : Nat)], .int .i64 0]) ∧ Below w.heap.size w w' := by
  have K1 : Hid _ := fun (w : World) (h : FieldB w g m) => check_in g m a (by omega) hm ha w h
  have K2 : Hid _ := fun (w : World) (h : FieldB w g m) => check_in g m b (by omega) hm hb w h
  have K3 : Hid _ := k
  have HM : Hid _ := hM
  clear k hM ha hb hm
  go_enter Tryd.func42, Tryd.ntmps42
  go_wp2_with fail
  refine (K1.out _ (FieldB.alloc (FieldB.alloc (FieldB.alloc HM.out)))).mono ?_
  rintro e w1 ⟨rfl, hb1⟩
  have hz1 := hb1.size
  try simp only [World.size_alloc] at hz1
  have P1 := Pend.call_new hb1
  simp only [World.size_alloc] at P1
  have A1 : Num4 w1 w.heap.size a := by ((repeat' (first | assumption | (refine Num4.new' ?_; first | omega | (simp; done)) | refine Num4.set ?_ ?_ | refine Num4.alloc ?_ ?_ | refine Num4.drewN ?_ | refine Num4.call ?_ (by assumption) ?_)) <;> (first | omega | (simp; done) | (simp; omega)))
  have B1 : Num4 w1 (w.heap.size + 1) b := by ((repeat' (first | assumption | (refine Num4.new' ?_; first | omega | (simp; done)) | refine Num4.set ?_ ?_ | refine Num4.alloc ?_ ?_ | refine Num4.drewN ?_ | refine Num4.call ?_ (by assumption) ?_)) <;> (first | omega | (simp; done) | (simp; omega)))
  have M1 : FieldB w1 g m := (FieldB.alloc (FieldB.alloc (FieldB.alloc HM.out))).call hb1
  have W1 : Below w.heap.size w w1 := by ((repeat' (first | with_reducible exact Below.refl _ _ | with_reducible refine Below.setCell ?_ ?_ _ | with_reducible refine below_alloc0 ?_ _ | with_reducible refine below_drewN ?_ _ | with_reducible refine Below.drew ?_ | refine below_call0 ?_ (by assumption))) <;> (first | omega | (simp; done) | (simp; omega)))
  have z1 : w.heap.size + 1 + 1 < w1.heap.size := by omega
  clear hb1 hz1 K1 HM
  obtain ⟨b0, b1, b2, b3⟩ := B1.facts
  go_wp2_with fail
  refine (K2.out _ M1).mono ?_
  rintro e w2 ⟨rfl, hb2⟩
  have P2 := P1.call hb2
  have A2 := A1.call hb2 (by omega)
  have B2 := B1.call hb2 (by omega)
  have M2 := M1.call hb2
  have W2 : Below w.heap.size w w2 := below_call0 W1 hb2
  have z2 : w.heap.size + 1 + 1 < w2.heap.size := Nat.lt_of_lt_of_le z1 hb2.size
  clear hb2 K2 M1 W1 P1 A1 B1 b0 b1 b2 b3
  obtain ⟨b0, b1, b2, b3⟩ := B2.facts
  obtain ⟨a0, a1, a2, a3⟩ := A2.facts
  go_wp2_with fail
  refine (K3.out _ M2).mono ?_
  rintro e w3 ⟨rfl, hb3⟩
  have P3 := P2.call hb3
  have W3 : Below w.heap.size w w3 := below_call0 W2 hb3
  obtain ⟨⟨p0, p1, p2, p3⟩, ⟨f0, f1, f2, f3⟩, pz⟩ := P3.facts
  clear hb3 K3 M2 W2 P2 A2 B2 b0 b1 b2 b3 a0 a1 a2 a3
  go_wp2
  refine bodyPost_ret (v := .tuple #[.agg #[.int .u64 (limb (r) 0 : Nat), .int .u64 (limb (r) 1 : Nat), .int .u64 (limb (r) 2 : Nat), .int .u64 (limb (r) 3 : Nat)], .int .i64 0]) ?_ rfl ⟨rfl, ?_⟩
  · simp [results, Tryd.results42, go_sem, p0, p1, p2, p3]
  · ((repeat' (first | with_reducible exact Below.refl _ _ | with_reducible refine Below.setCell ?_ ?_ _ | with_reducible refine below_alloc0 ?_ _ | with_reducible refine below_drewN ?_ _ | with_reducible refine Below.drew ?_ | refine below_call0 ?_ (by assumption))) <;> (first | omega | (simp; done) | (simp; omega)))

set_option maxHeartbeats 2000000 in
theorem join_bad1 (pv : Option Addr) (fv : Value) (a b : Nat) (ec : Int) (hec : ec ≠ 0) (P : World → Prop) (hP : ∀ w o, P w → P (w.alloc o))
    (k : ∀ w, P w → Calls Tryd.prog 26 #[.pointer pv, .agg #[.int .u64 (limb (a) 0 : Nat), .int .u64 (limb (a) 1 : Nat), .int .u64 (limb (a) 2 : Nat), .int .u64 (limb (a) 3 : Nat)]] w fun e w' => e = .returned (.int .i64 ec) ∧ Below w.heap.size w w') (w : World) (hw : P w) :
    Calls Tryd.prog 42 #[.pointer pv, fv, .agg #[.int .u64 (limb (a) 0 : Nat), .int .u64 (limb (a) 1 : Nat), .int .u64 (limb (a) 2 : Nat), .int .u64 (limb (a) 3 : Nat)], .agg #[.int .u64 (limb (b) 0 : Nat), .int .u64 (limb (b) 1 : Nat), .int .u64 (limb (b) 2 : Nat), .int .u64 (limb (b) 3 : Nat)]] w fun e w' => e = .returned (.tuple #[z4, .int .i64 ec]) ∧ Below w.heap.size w w' := by
  have K1 : Hid _ := k
  have H : Hid _ := hP _ (.cells #[.int .u64 0, .int .u64 0, .int .u64 0, .int .u64 0] 27) (hP _ (.cells #[.int .u64 (limb b 0 : Nat), .int .u64 (limb b 1 : Nat), .int .u64 (limb b 2 : Nat), .int .u64 (limb b 3 : Nat)] 27) (hP w (.cells #[.int .u64 (limb a 0 : Nat), .int .u64 (limb a 1 : Nat), .int .u64 (limb a 2 : Nat), .int .u64 (limb a 3 : Nat)] 27) hw))
  have he : (ec == 0) = false := by simpa using hec
  clear k hP hw hec
  go_enter Tryd.func42, Tryd.ntmps42
  go_wp2_with fail
  refine (K1.out _ H.out).mono ?_
  rintro e w1 ⟨rfl, hb1⟩
  have hz1 := hb1.size
  try simp only [World.size_alloc] at hz1
  have P1 := Pend.call_new hb1
  simp only [World.size_alloc] at P1
  have W1 : Below w.heap.size w w1 := by ((repeat' (first | with_reducible exact Below.refl _ _ | with_reducible refine Below.setCell ?_ ?_ _ | with_reducible refine below_alloc0 ?_ _ | with_reducible refine below_drewN ?_ _ | with_reducible refine Below.drew ?_ | refine below_call0 ?_ (by assumption))) <;> (first | omega | (simp; done) | (simp; omega)))
  obtain ⟨⟨p0, p1, p2, p3⟩, ⟨f0, f1, f2, f3⟩, pz⟩ := P1.facts
  clear hb1 K1 H
  go_wp2
  refine bodyPost_ret (v := .tuple #[z4, .int .i64 ec]) ?_ rfl ⟨rfl, ?_⟩
  · simp [results, Tryd.results42, go_sem, p0, p1, p2, p3]
  · ((repeat' (first | with_reducible exact Below.refl _ _ | with_reducible refine Below.setCell ?_ ?_ _ | with_reducible refine below_alloc0 ?_ _ | with_reducible refine below_drewN ?_ _ | with_reducible refine Below.drew ?_ | refine below_call0 ?_ (by assumption))) <;> (first | omega | (simp; done) | (simp; omega)))

set_option maxHeartbeats 2000000 in
theorem join_bad2 (fv : Value) (g m a b : Nat) (hm : m < R256) (ha : a < m) (hb : ¬ b < m) (hbR : b < R256) (w : World) (hM : FieldB w g m) :
    Calls Tryd.prog 42 #[.pointer (some ⟨g, 0, none⟩), fv, .agg #[.int .u64 (limb (a) 0 : Nat), .int .u64 (limb (a) 1 : Nat), .int .u64 (limb (a) 2 : Nat), .int .u64 (limb (a) 3 : Nat)], .agg #[.int .u64 (limb (b) 0 : Nat), .int .u64 (limb (b) 1 : Nat), .int .u64 (limb (b) 2 : Nat), .int .u64 (limb (b) 3 : Nat)]] w fun e w' => e = .returned (.tuple #[z4, .int .i64 20]) ∧ Below w.heap.size w w' := by
  have K1 : Hid _ := fun (w : World) (h : FieldB w g m) => check_in g m a (by omega) hm ha w h
  have K2 : Hid _ := fun (w : World) (h : FieldB w g m) => check_no g m b hbR hm hb w h
  have HM : Hid _ := hM
  clear hM ha hb hm hbR
  go_enter Tryd.func42, Tryd.ntmps42
  go_wp2_with fail
  refine (K1.out _ (FieldB.alloc (FieldB.alloc (FieldB.alloc HM.out)))).mono ?_
  rintro e w1 ⟨rfl, hb1⟩
  have hz1 := hb1.size
  try simp only [World.size_alloc] at hz1
  have P1 := Pend.call_new hb1
  simp only [World.size_alloc] at P1
  have B1 : Num4 w1 (w.heap.size + 1) b := by ((repeat' (first | assumption | (refine Num4.new' ?_; first | omega | (simp; done)) | refine Num4.set ?_ ?_ | refine Num4.alloc ?_ ?_ | refine Num4.drewN ?_ | refine Num4.call ?_ (by assumption) ?_)) <;> (first | omega | (simp; done) | (simp; omega)))
  have M1 : FieldB w1 g m := (FieldB.alloc (FieldB.alloc (FieldB.alloc HM.out))).call hb1
  have W1 : Below w.heap.size w w1 := by ((repeat' (first | with_reducible exact Below.refl _ _ | with_reducible refine Below.setCell ?_ ?_ _ | with_reducible refine below_alloc0 ?_ _ | with_reducible refine below_drewN ?_ _ | with_reducible refine Below.drew ?_ | refine below_call0 ?_ (by assumption))) <;> (first | omega | (simp; done) | (simp; omega)))
  clear hb1 hz1 K1 HM
  obtain ⟨b0, b1, b2, b3⟩ := B1.facts
  go_wp2_with fail
  refine (K2.out _ M1).mono ?_
  rintro e w2 ⟨rfl, hb2⟩
  have P2 := P1.call hb2
  have W2 : Below w.heap.size w w2 := below_call0 W1 hb2
  obtain ⟨⟨p0, p1, p2, p3⟩, ⟨f0, f1, f2, f3⟩, pz⟩ := P2.facts
  clear hb2 K2 M1 W1 P1 B1 b0 b1 b2 b3
  go_wp2
  refine bodyPost_ret (v := .tuple #[z4, .int .i64 20]) ?_ rfl ⟨rfl, ?_⟩
  · simp [results, Tryd.results42, go_sem, p0, p1, p2, p3]
  · ((repeat' (first | with_reducible exact Below.refl _ _ | with_reducible refine Below.setCell ?_ ?_ _ | with_reducible refine below_alloc0 ?_ _ | with_reducible refine below_drewN ?_ _ | with_reducible refine Below.drew ?_ | refine below_call0 ?_ (by assumption))) <;> (first | omega | (simp; done) | (simp; omega)))

/-! ### Add, Sub, Mul, Neg: what join answers -/
set_option maxHeartbeats 1000000 in
theorem fsub_go (pv : Option Addr) (a b : Nat) (v0 v1 v2 v3 ec : Int) (P : World → Prop) (hP : ∀ w o, P w → P (w.alloc o))
    (k : ∀ w, P w → Calls Tryd.prog 42 #[.pointer pv, .func (.func 44) #[.pointer pv] #[], .agg #[.int .u64 (limb (a) 0 : Nat), .int .u64 (limb (a) 1 : Nat), .int .u64 (limb (a) 2 : Nat), .int .u64 (limb (a) 3 : Nat)], .agg #[.int .u64 (limb (b) 0 : Nat), .int .u64 (limb (b) 1 : Nat), .int .u64 (limb (b) 2 : Nat), .int .u64 (limb (b) 3 : Nat)]] w fun e w' => e = .returned (.tuple #[.agg #[.int .u64 v0, .int .u64 v1, .int .u64 v2, .int .u64 v3], .int .i64 ec]) ∧ Below w.heap.size w w') (w : World) (hw : P w) :
    Calls Tryd.prog 35 #[.pointer pv, .agg #[.int .u64 (limb (a) 0 : Nat), .int .u64 (limb (a) 1 : Nat), .int .u64 (limb (a) 2 : Nat), .int .u64 (limb (a) 3 : Nat)], .agg #[.int .u64 (limb (b) 0 : Nat), .int .u64 (limb (b) 1 : Nat), .int .u64 (limb (b) 2 : Nat), .int .u64 (limb (b) 3 : Nat)]] w fun e w' => e = .returned (.tuple #[.agg #[.int .u64 v0, .int .u64 v1, .int .u64 v2, .int .u64 v3], .int .i64 ec]) ∧ Below w.heap.size w w' := by
  have K1 : Hid _ := k
  have H : Hid _ := hP _ (.cells #[.int .u64 0, .int .u64 0, .int .u64 0, .int .u64 0] 27) (hP _ (.cells #[.int .u64 (limb b 0 : Nat), .int .u64 (limb b 1 : Nat), .int .u64 (limb b 2 : Nat), .int .u64 (limb b 3 : Nat)] 27) (hP w (.cells #[.int .u64 (limb a 0 : Nat), .int .u64 (limb a 1 : Nat), .int .u64 (limb a 2 : Nat), .int .u64 (limb a 3 : Nat)] 27) hw))
  clear k hP hw
  go_enter Tryd.func35, Tryd.ntmps35
  go_wp2_with fail
  refine (K1.out _ H.out).mono ?_
  rintro e w1 ⟨rfl, hb1⟩
  have hz1 := hb1.size
  try simp only [World.size_alloc] at hz1
  have P1 := Pend.call_new hb1
  simp only [World.size_alloc] at P1
  have W1 : Below w.heap.size w w1 := by ((repeat' (first | with_reducible exact Below.refl _ _ | with_reducible refine Below.setCell ?_ ?_ _ | with_reducible refine below_alloc0 ?_ _ | with_reducible refine below_drewN ?_ _ | with_reducible refine Below.drew ?_ | refine below_call0 ?_ (by assumption))) <;> (first | omega | (simp; done) | (simp; omega)))
  obtain ⟨⟨p0, p1, p2, p3⟩, ⟨f0, f1, f2, f3⟩, pz⟩ := P1.facts
  clear hb1 K1 H
  go_wp2
  refine bodyPost_ret (v := .tuple #[.agg #[.int .u64 v0, .int .u64 v1, .int .u64 v2, .int .u64 v3], .int .i64 ec]) ?_ rfl ⟨rfl, ?_⟩
  · simp [results, Tryd.results35, go_sem, p0, p1, p2, p3]
  · ((repeat' (first | with_reducible exact Below.refl _ _ | with_reducible refine Below.setCell ?_ ?_ _ | with_reducible refine below_alloc0 ?_ _ | with_reducible refine below_drewN ?_ _ | with_reducible refine Below.drew ?_ | refine below_call0 ?_ (by assumption))) <;> (first | omega | (simp; done) | (simp; omega)))

set_option maxHeartbeats 1000000 in
theorem fmul_go (pv : Option Addr) (a b : Nat) (v0 v1 v2 v3 ec : Int) (P : World → Prop) (hP : ∀ w o, P w → P (w.alloc o))
    (k : ∀ w, P w → Calls Tryd.prog 42 #[.pointer pv, .func (.func 43) #[.pointer pv] #[], .agg #[.int .u64 (limb (a) 0 : Nat), .int .u64 (limb (a) 1 : Nat), .int .u64 (limb (a) 2 : Nat), .int .u64 (limb (a) 3 : Nat)], .agg #[.int .u64 (limb (b) 0 : Nat), .int .u64 (limb (b) 1 : Nat), .int .u64 (limb (b) 2 : Nat), .int .u64 (limb (b) 3 : Nat)]] w fun e w' => e = .returned (.tuple #[.agg #[.int .u64 v0, .int .u64 v1, .int .u64 v2, .int .u64 v3], .int .i64 ec]) ∧ Below w.heap.size w w') (w : World) (hw : P w) :
    Calls Tryd.prog 34 #[.pointer pv, .agg #[.int .u64 (limb (a) 0 : Nat), .int .u64 (limb (a) 1 : Nat), .int .u64 (limb (a) 2 : Nat), .int .u64 (limb (a) 3 : Nat)], .agg #[.int .u64 (limb (b) 0 : Nat), .int .u64 (limb (b) 1 : Nat), .int .u64 (limb (b) 2 : Nat), .int .u64 (limb (b) 3 : Nat)]] w fun e w' => e = .returned (.tuple #[.agg #[.int .u64 v0, .int .u64 v1, .int .u64 v2, .int .u64 v3], .int .i64 ec]) ∧ Below w.heap.size w w' := by
  have K1 : Hid _ := k
  have H : Hid _ := hP _ (.cells #[.int .u64 0, .int .u64 0, .int .u64 0, .int .u64 0] 27) (hP _ (.cells #[.int .u64 (limb b 0 : Nat), .int .u64 (limb b 1 : Nat), .int .u64 (limb b 2 : Nat), .int .u64 (limb b 3 : Nat)] 27) (hP w (.cells #[.int .u64 (limb a 0 : Nat), .int .u64 (limb a 1 : Nat), .int .u64 (limb a 2 : Nat), .int .u64 (limb a 3 : Nat)] 27) hw))
  clear k hP hw
  go_enter Tryd.func34, Tryd.ntmps34
  go_wp2_with fail
  refine (K1.out _ H.out).mono ?_
  rintro e w1 ⟨rfl, hb1⟩
  have hz1 := hb1.size
  try simp only [World.size_alloc] at hz1
  have P1 := Pend.call_new hb1
  simp only [World.size_alloc] at P1
  have W1 : Below w.heap.size w w1 := by ((repeat' (first | with_reducible exact Below.refl _ _ | with_reducible refine Below.setCell ?_ ?_ _ | with_reducible refine below_alloc0 ?_ _ | with_reducible refine below_drewN ?_ _ | with_reducible refine Below.drew ?_ | refine below_call0 ?_ (by assumption))) <;> (first | omega | (simp; done) | (simp; omega)))
  obtain ⟨⟨p0, p1, p2, p3⟩, ⟨f0, f1, f2, f3⟩, pz⟩ := P1.facts
  clear hb1 K1 H
  go_wp2
  refine bodyPost_ret (v := .tuple #[.agg #[.int .u64 v0, .int .u64 v1, .int .u64 v2, .int .u64 v3], .int .i64 ec]) ?_ rfl ⟨rfl, ?_⟩
  · simp [results, Tryd.results34, go_sem, p0, p1, p2, p3]
  · ((repeat' (first | with_reducible exact Below.refl _ _ | with_reducible refine Below.setCell ?_ ?_ _ | with_reducible refine below_alloc0 ?_ _ | with_reducible refine below_drewN ?_ _ | with_reducible refine Below.drew ?_ | refine below_call0 ?_ (by assumption))) <;> (first | omega | (simp; done) | (simp; omega)))


/-- What a call of two numbers answers, in both fields' words: the value below m, or the error. -/
def numE (ok : Bool) (r : Nat) : Nat := cond ok r 0
def okE (ok : Bool) (e : Int) : Int := cond ok 0 e
theorem FB_alloc (g m : Nat) : ∀ (w : World) (o : Obj), FieldB w g m → FieldB (w.alloc o) g m := fun _ _ h => h.alloc

theorem fsub_in (g m a b : Nat) (hF : FM m) (ha : a < m) (hb : b < m) (w : World) (hM : FieldB w g m) :
    Calls Tryd.prog 35 #[.pointer (some ⟨g, 0, none⟩), .agg #[.int .u64 (limb (a) 0 : Nat), .int .u64 (limb (a) 1 : Nat), .int .u64 (limb (a) 2 : Nat), .int .u64 (limb (a) 3 : Nat)], .agg #[.int .u64 (limb (b) 0 : Nat), .int .u64 (limb (b) 1 : Nat), .int .u64 (limb (b) 2 : Nat), .int .u64 (limb (b) 3 : Nat)]] w fun e w' => e = .returned (.tuple #[.agg #[.int .u64 (limb (subM m a b) 0 : Nat), .int .u64 (limb (subM m a b) 1 : Nat), .int .u64 (limb (subM m a b) 2 : Nat), .int .u64 (limb (subM m a b) 3 : Nat)], .int .i64 0]) ∧ Below w.heap.size w w' :=
  fsub_go _ a b _ _ _ _ 0 (fun w => FieldB w g m) (FB_alloc g m) (fun w h => join_minus g m a b _ hF.2.1 ha hb (fun w h => (fun g m a b hF ha hb w hM => minus_fld g m a b hF ha hb w hM) g m a b hF ha hb w h) w h) w hM
theorem fsub_no (g m a b : Nat) (hF : FM m) (ha : a < R256) (hb : b < R256) (h : ¬ (a < m ∧ b < m)) (w : World) (hM : FieldB w g m) :
    Calls Tryd.prog 35 #[.pointer (some ⟨g, 0, none⟩), .agg #[.int .u64 (limb (a) 0 : Nat), .int .u64 (limb (a) 1 : Nat), .int .u64 (limb (a) 2 : Nat), .int .u64 (limb (a) 3 : Nat)], .agg #[.int .u64 (limb (b) 0 : Nat), .int .u64 (limb (b) 1 : Nat), .int .u64 (limb (b) 2 : Nat), .int .u64 (limb (b) 3 : Nat)]] w fun e w' => e = .returned (.tuple #[z4, .int .i64 20]) ∧ Below w.heap.size w w' := by
  refine fsub_go _ a b _ _ _ _ 20 (fun w => FieldB w g m) (FB_alloc g m) (fun w h' => ?_) w hM
  by_cases h1 : a < m
  · exact join_bad2 _ g m a b hF.2.1 h1 (fun c => h ⟨h1, c⟩) hb w h'
  · exact join_bad1 _ _ a b 20 (by decide) (fun w => FieldB w g m) (FB_alloc g m) (fun w h' => check_no g m a ha hF.2.1 h1 w h') w h'
theorem fsub_nil (a b : Nat) (w : World) :
    Calls Tryd.prog 35 #[.pointer none, .agg #[.int .u64 (limb (a) 0 : Nat), .int .u64 (limb (a) 1 : Nat), .int .u64 (limb (a) 2 : Nat), .int .u64 (limb (a) 3 : Nat)], .agg #[.int .u64 (limb (b) 0 : Nat), .int .u64 (limb (b) 1 : Nat), .int .u64 (limb (b) 2 : Nat), .int .u64 (limb (b) 3 : Nat)]] w fun e w' => e = .returned (.tuple #[z4, .int .i64 7]) ∧ Below w.heap.size w w' :=
  fsub_go none a b _ _ _ _ 7 (fun _ => True) (fun _ _ _ => trivial) (fun w _ => join_bad1 none _ a b 7 (by decide) (fun _ => True) (fun _ _ _ => trivial) (fun w _ => check_nil a w) w trivial) w trivial
theorem fmul_in (g m a b : Nat) (hF : FM m) (ha : a < m) (hb : b < m) (w : World) (hM : FieldB w g m) :
    Calls Tryd.prog 34 #[.pointer (some ⟨g, 0, none⟩), .agg #[.int .u64 (limb (a) 0 : Nat), .int .u64 (limb (a) 1 : Nat), .int .u64 (limb (a) 2 : Nat), .int .u64 (limb (a) 3 : Nat)], .agg #[.int .u64 (limb (b) 0 : Nat), .int .u64 (limb (b) 1 : Nat), .int .u64 (limb (b) 2 : Nat), .int .u64 (limb (b) 3 : Nat)]] w fun e w' => e = .returned (.tuple #[.agg #[.int .u64 (limb (a * b % m) 0 : Nat), .int .u64 (limb (a * b % m) 1 : Nat), .int .u64 (limb (a * b % m) 2 : Nat), .int .u64 (limb (a * b % m) 3 : Nat)], .int .i64 0]) ∧ Below w.heap.size w w' :=
  fmul_go _ a b _ _ _ _ 0 (fun w => FieldB w g m) (FB_alloc g m) (fun w h => join_times g m a b _ hF.2.1 ha hb (fun w h => (fun g m a b hF ha hb w hM => times_fld g m a b hF (Nat.lt_trans ha hF.2.1) (Nat.lt_trans hb hF.2.1) w hM) g m a b hF ha hb w h) w h) w hM
theorem fmul_no (g m a b : Nat) (hF : FM m) (ha : a < R256) (hb : b < R256) (h : ¬ (a < m ∧ b < m)) (w : World) (hM : FieldB w g m) :
    Calls Tryd.prog 34 #[.pointer (some ⟨g, 0, none⟩), .agg #[.int .u64 (limb (a) 0 : Nat), .int .u64 (limb (a) 1 : Nat), .int .u64 (limb (a) 2 : Nat), .int .u64 (limb (a) 3 : Nat)], .agg #[.int .u64 (limb (b) 0 : Nat), .int .u64 (limb (b) 1 : Nat), .int .u64 (limb (b) 2 : Nat), .int .u64 (limb (b) 3 : Nat)]] w fun e w' => e = .returned (.tuple #[z4, .int .i64 20]) ∧ Below w.heap.size w w' := by
  refine fmul_go _ a b _ _ _ _ 20 (fun w => FieldB w g m) (FB_alloc g m) (fun w h' => ?_) w hM
  by_cases h1 : a < m
  · exact join_bad2 _ g m a b hF.2.1 h1 (fun c => h ⟨h1, c⟩) hb w h'
  · exact join_bad1 _ _ a b 20 (by decide) (fun w => FieldB w g m) (FB_alloc g m) (fun w h' => check_no g m a ha hF.2.1 h1 w h') w h'
theorem fmul_nil (a b : Nat) (w : World) :
    Calls Tryd.prog 34 #[.pointer none, .agg #[.int .u64 (limb (a) 0 : Nat), .int .u64 (limb (a) 1 : Nat), .int .u64 (limb (a) 2 : Nat), .int .u64 (limb (a) 3 : Nat)], .agg #[.int .u64 (limb (b) 0 : Nat), .int .u64 (limb (b) 1 : Nat), .int .u64 (limb (b) 2 : Nat), .int .u64 (limb (b) 3 : Nat)]] w fun e w' => e = .returned (.tuple #[z4, .int .i64 7]) ∧ Below w.heap.size w w' :=
  fmul_go none a b _ _ _ _ 7 (fun _ => True) (fun _ _ _ => trivial) (fun w _ => join_bad1 none _ a b 7 (by decide) (fun _ => True) (fun _ _ _ => trivial) (fun w _ => check_nil a w) w trivial) w trivial
end Go.Proofs.YtbpgiijdcagckaaDoor
