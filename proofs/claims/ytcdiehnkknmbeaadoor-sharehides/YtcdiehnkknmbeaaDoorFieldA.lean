/- field.mulAdd, field.addRow, Field.lessOnce, newField and Field.Check: what they answer, over natural numbers. -/
import Derived.Test.YtcdiehnkknmbeaaDoorFieldN
import Derived.Test.YtcdiehnkknmbeaaDoorMul
import Derived.Test.YtcdiehnkknmbeaaDoorCmp
import Derived.Test.YtcdiehnkknmbeaaDoorTurnsL
import Derived.Deep.RegionHeld3
namespace Go.Proofs.YtcdiehnkknmbeaaDoor
open Go.RowKit

set_option maxHeartbeats 1000000 in
theorem fmulAdd_any (a b c d : Nat) (ha : a < M64) (hb : b < M64) (hc : c < M64) (hd : d < M64) (w : World) :
    Calls Tryd.prog 74 #[.int .u64 a, .int .u64 b, .int .u64 c, .int .u64 d] w fun e w' => e = .returned (.tuple #[.int .u64 (maH a b c d), .int .u64 (maL a b c d)]) ∧ w' = w := by
  obtain ⟨eL, eH⟩ := mulAdd_eq a b c d
  have l2 : mulH a b + addC (mulL a b) c 0 + addC (addS (mulL a b) c 0) d 0 < 18446744073709551616 := by rw [eH]; exact maH_lt a b c d ha hb hc hd
  have l1 : mulH a b + addC (mulL a b) c 0 < 18446744073709551616 := by omega
  have H : Hid (_ ∧ _ ∧ _ ∧ _) := ⟨eL, eH, l1, l2⟩
  clear eL eH l1 l2
  go_enter Tryd.func74, Tryd.ntmps74
  go_wp2_with (first | (go_at_call 59; refine (mul64 a b ha hb _).mono ?_; rintro e w' ⟨rfl, rfl⟩) | simp only [add64_0])
  obtain ⟨eL, eH, l1, l2⟩ := H.out
  simp only [addN', wrapN _ l1, eH, eL, wrapN _ (maH_lt a b c d ha hb hc hd)]
  go_ret2
  exact ⟨rfl, rfl⟩

set_option maxHeartbeats 2000000 in
theorem faddRow_any (d b0 b1 b2 b3 w0 w1 w2 w3 : Nat) (hd : d < M64) (h0 : b0 < M64) (h1 : b1 < M64) (h2 : b2 < M64) (h3 : b3 < M64) (g0 : w0 < M64) (g1 : w1 < M64) (g2 : w2 < M64) (g3 : w3 < M64) (w : World) :
    Calls Tryd.prog 72 #[.int .u64 d, .int .u64 b0, .int .u64 b1, .int .u64 b2, .int .u64 b3, .int .u64 w0, .int .u64 w1, .int .u64 w2, .int .u64 w3] w fun e w' =>
      e = .returned (.tuple #[.int .u64 (rowL d b0 b1 b2 b3 w0 w1 w2 w3 0), .int .u64 (rowL d b0 b1 b2 b3 w0 w1 w2 w3 1), .int .u64 (rowL d b0 b1 b2 b3 w0 w1 w2 w3 2), .int .u64 (rowL d b0 b1 b2 b3 w0 w1 w2 w3 3), .int .u64 (rowL d b0 b1 b2 b3 w0 w1 w2 w3 4)]) ∧ w' = w := by
  have k1 := maH_lt d b0 w0 0 hd h0 g0 M64_pos
  have k2 := maH_lt d b1 w1 _ hd h1 g1 k1
  have k3 := maH_lt d b2 w2 _ hd h2 g2 k2
  by_cases hz : d = 0
  · subst hz
    obtain ⟨e0, e1, e2, e3, e4⟩ := row_zero b0 b1 b2 b3 w0 w1 w2 w3 g0 g1 g2 g3
    rw [e0, e1, e2, e3, e4]
    clear e0 e1 e2 e3 e4 k1 k2 k3
    go_enter Tryd.func72, Tryd.ntmps72
    go_wp2
    exact bodyPost_ret (v := .tuple #[.int .u64 w0, .int .u64 w1, .int .u64 w2, .int .u64 w3, .int .u64 0]) (by simp [results, Tryd.results72, go_sem]) rfl ⟨rfl, rfl⟩
  · have hz' : ((d : Int) == 0) = false := by simpa using hz
    go_enter Tryd.func72, Tryd.ntmps72
    go_wp2_with fail
    refine (fmulAdd_any d b0 w0 0 hd h0 g0 M64_pos _).mono ?_
    rintro e w' ⟨rfl, rfl⟩
    go_wp2_with fail
    refine (fmulAdd_any d b1 w1 _ hd h1 g1 k1 _).mono ?_
    rintro e w' ⟨rfl, rfl⟩
    go_wp2_with fail
    refine (fmulAdd_any d b2 w2 _ hd h2 g2 k2 _).mono ?_
    rintro e w' ⟨rfl, rfl⟩
    go_wp2_with fail
    refine (fmulAdd_any d b3 w3 _ hd h3 g3 k3 _).mono ?_
    rintro e w' ⟨rfl, rfl⟩
    go_wp2
    exact bodyPost_ret (v := .tuple #[.int .u64 (maL d b0 w0 0), .int .u64 (maL d b1 w1 (maH d b0 w0 0)), .int .u64 (maL d b2 w2 (maH d b1 w1 (maH d b0 w0 0))), .int .u64 (maL d b3 w3 (maH d b2 w2 (maH d b1 w1 (maH d b0 w0 0)))), .int .u64 (maH d b3 w3 (maH d b2 w2 (maH d b1 w1 (maH d b0 w0 0))))]) (by simp [results, Tryd.results72, go_sem]) rfl ⟨rfl, rfl⟩

theorem sub64_c (x y x' y' b' : Nat) (w : World) : (callFunc 61 #[.int .u64 x, .int .u64 y, .int .u64 (subB x' y' b')]).run Tryd.prog w =
    .ok (.value (.tuple #[.int .u64 (subS x y (subB x' y' b')), .int .u64 (subB x y (subB x' y' b'))])) w := sub64 x y _ (subB_le _ _ _) w
theorem chain_nought (C : Nat → Nat → Nat → Nat) (A B : Nat → Nat) : chain C A B 0 = 0 := rfl
theorem less_steps (a m : Nat) (ha : a < R256) (hm : m < R256) :
    subS (limb a 0) (limb m 0) 0 = limb (subN a m) 0 ∧ subS (limb a 1) (limb m 1) (subB (limb a 0) (limb m 0) 0) = limb (subN a m) 1 ∧
    subS (limb a 2) (limb m 2) (subB (limb a 1) (limb m 1) (subB (limb a 0) (limb m 0) 0)) = limb (subN a m) 2 ∧
    subS (limb a 3) (limb m 3) (subB (limb a 2) (limb m 2) (subB (limb a 1) (limb m 1) (subB (limb a 0) (limb m 0) 0))) = limb (subN a m) 3 ∧
    subB (limb a 3) (limb m 3) (subB (limb a 2) (limb m 2) (subB (limb a 1) (limb m 1) (subB (limb a 0) (limb m 0) 0))) = subK a m := by
  obtain ⟨l0, l1, l2, l3⟩ := sub_limbs a m ha hm
  have lk := (sub_join a m ha hm).2
  rw [chain_four, chain_three, chain_two, chain_one, chain_nought] at lk
  rw [digs_eq, chain_nought] at l0
  rw [digs_eq, chain_one, chain_nought] at l1
  rw [digs_eq, chain_two, chain_one, chain_nought] at l2
  rw [digs_eq, chain_three, chain_two, chain_one, chain_nought] at l3
  exact ⟨l0, l1, l2, l3, lk⟩

set_option maxHeartbeats 2000000 in
theorem lessOnce_any (g o a m : Nat) (ha : a < R256) (hm : m < R256) (w : World) (hM : Num4 w g m) (hg : g < w.heap.size) :
    Calls Tryd.prog 58 #[.pointer (some ⟨g, 0, none⟩), .int .u64 o, .int .u64 (limb a 0 : Nat), .int .u64 (limb a 1 : Nat), .int .u64 (limb a 2 : Nat), .int .u64 (limb a 3 : Nat)] w fun e w' => e = .returned (.agg #[.int .u64 (limb (lessN o a m) 0 : Nat), .int .u64 (limb (lessN o a m) 1 : Nat), .int .u64 (limb (lessN o a m) 2 : Nat), .int .u64 (limb (lessN o a m) 3 : Nat)]) ∧ Below w.heap.size w w' := by
  obtain ⟨l0, l1, l2, l3, lk⟩ := less_steps a m ha hm
  obtain ⟨m0, m1, m2, m3⟩ := hM.facts
  have HL : Hid _ := And.intro l0 (And.intro l1 (And.intro l2 l3))
  clear l0 l1 l2 l3 hM
  by_cases ho : o = 0
  · subst ho
    by_cases hlt : a < m
    · rw [show subK a m = 1 from if_pos hlt] at lk
      rw [show lessN 0 a m = a from if_pos ⟨rfl, hlt⟩]
      clear hlt
      go_enter Tryd.func58, Tryd.ntmps58
      go_wp2_with (simp only [sub64_0, sub64_c])
      refine bodyPost_ret (v := .agg #[.int .u64 (limb (a) 0 : Nat), .int .u64 (limb (a) 1 : Nat), .int .u64 (limb (a) 2 : Nat), .int .u64 (limb (a) 3 : Nat)]) ?_ rfl ⟨rfl, ?_⟩
      · simp [results, Tryd.results58, go_sem]
      · ((repeat' (first | with_reducible exact Below.refl _ _ | with_reducible refine Below.setCell ?_ ?_ _ | with_reducible refine below_alloc0 ?_ _ | with_reducible refine below_drewN ?_ _ | with_reducible refine Below.drew ?_ | refine below_call0 ?_ (by assumption))) <;> (first | omega | (simp; done) | (simp; omega)))
    · rw [show subK a m = 0 from if_neg hlt] at lk
      rw [show lessN 0 a m = subN a m from if_neg (fun c => hlt c.2)]
      clear hlt
      go_enter Tryd.func58, Tryd.ntmps58
      go_wp2_with (simp only [sub64_0, sub64_c])
      obtain ⟨l0, l1, l2, l3⟩ := HL.out
      rw [l0, l1, l2, l3]
      refine bodyPost_ret (v := .agg #[.int .u64 (limb (subN a m) 0 : Nat), .int .u64 (limb (subN a m) 1 : Nat), .int .u64 (limb (subN a m) 2 : Nat), .int .u64 (limb (subN a m) 3 : Nat)]) ?_ rfl ⟨rfl, ?_⟩
      · simp [results, Tryd.results58, go_sem]
      · ((repeat' (first | with_reducible exact Below.refl _ _ | with_reducible refine Below.setCell ?_ ?_ _ | with_reducible refine below_alloc0 ?_ _ | with_reducible refine below_drewN ?_ _ | with_reducible refine Below.drew ?_ | refine below_call0 ?_ (by assumption))) <;> (first | omega | (simp; done) | (simp; omega)))
  · rw [show lessN o a m = subN a m from if_neg (fun c => ho c.1)]
    have ho' : ((o : Int) == 0) = false := by simpa using ho
    go_enter Tryd.func58, Tryd.ntmps58
    go_wp2_with (simp only [sub64_0, sub64_c])
    obtain ⟨l0, l1, l2, l3⟩ := HL.out
    rw [l0, l1, l2, l3]
    refine bodyPost_ret (v := .agg #[.int .u64 (limb (subN a m) 0 : Nat), .int .u64 (limb (subN a m) 1 : Nat), .int .u64 (limb (subN a m) 2 : Nat), .int .u64 (limb (subN a m) 3 : Nat)]) ?_ rfl ⟨rfl, ?_⟩
    · simp [results, Tryd.results58, go_sem]
    · ((repeat' (first | with_reducible exact Below.refl _ _ | with_reducible refine Below.setCell ?_ ?_ _ | with_reducible refine below_alloc0 ?_ _ | with_reducible refine below_drewN ?_ _ | with_reducible refine Below.drew ?_ | refine below_call0 ?_ (by assumption))) <;> (first | omega | (simp; done) | (simp; omega)))

/-- A block that holds a field: its modulus, and the gap to 2^256. -/
def FieldB (w : World) (g m : Nat) : Prop := Num4 w g m ∧ (∀ j, j < 4 → w.cell? ⟨g, j + 4, none⟩ = some (.int .u64 (limb (R256 - m) j : Nat))) ∧ g < w.heap.size
theorem FieldB.call {W w1 : World} {g m : Nat} (h : FieldB W g m) (hb : Below W.heap.size W w1) : FieldB w1 g m :=
  ⟨h.1.call hb h.2.2, fun j hj => (hb.cell (p := ⟨g, j + 4, none⟩) h.2.2).trans (h.2.1 j hj), Nat.lt_of_lt_of_le h.2.2 hb.size⟩
theorem FieldB.alloc {W : World} {g m : Nat} {o : Obj} (h : FieldB W g m) : FieldB (W.alloc o) g m := h.call ((Below.refl _ _).alloc (Nat.le_refl _) o)
theorem FieldB.drew {W : World} {g m : Nat} (h : FieldB W g m) : FieldB W.drew g m := h
theorem FieldB.drewN {W : World} {g m k : Nat} (h : FieldB W g m) : FieldB (W.drewN k) g m := h
theorem FieldB.gap {w : World} {g m : Nat} (h : FieldB w g m) : w.cell? ⟨g, 4, none⟩ = some (.int .u64 (limb (R256 - m) 0 : Nat)) ∧ w.cell? ⟨g, 5, none⟩ = some (.int .u64 (limb (R256 - m) 1 : Nat)) ∧ w.cell? ⟨g, 6, none⟩ = some (.int .u64 (limb (R256 - m) 2 : Nat)) ∧ w.cell? ⟨g, 7, none⟩ = some (.int .u64 (limb (R256 - m) 3 : Nat)) :=
  ⟨h.2.1 0 (by omega), h.2.1 1 (by omega), h.2.1 2 (by omega), h.2.1 3 (by omega)⟩

set_option maxHeartbeats 2000000 in
theorem newField_any (m : Nat) (h0 : 0 < m) (hm : m < R256) (w : World) :
    Calls Tryd.prog 43 #[.agg #[.int .u64 (limb (m) 0 : Nat), .int .u64 (limb (m) 1 : Nat), .int .u64 (limb (m) 2 : Nat), .int .u64 (limb (m) 3 : Nat)]] w fun e w' => ∃ g, e = .returned (.pointer (some ⟨g, 0, none⟩)) ∧ FieldB w' g m ∧ Below w.heap.size w w' := by
  obtain ⟨r, hr⟩ : ∃ r, r = R256 - m := ⟨_, rfl⟩
  obtain ⟨c, hc⟩ : ∃ c, c = subK 0 m := ⟨_, rfl⟩
  have k : ∀ w, Calls Tryd.prog 56 #[.agg #[.int .u64 0, .int .u64 0, .int .u64 0, .int .u64 0], .agg #[.int .u64 (limb (m) 0 : Nat), .int .u64 (limb (m) 1 : Nat), .int .u64 (limb (m) 2 : Nat), .int .u64 (limb (m) 3 : Nat)]] w fun e w' => e = .returned (.tuple #[.agg #[.int .u64 (limb (r) 0 : Nat), .int .u64 (limb (r) 1 : Nat), .int .u64 (limb (r) 2 : Nat), .int .u64 (limb (r) 3 : Nat)], .int .u64 c]) ∧ Below w.heap.size w w' := fun w => by
    have g := sub_any 0 m (by decide) hm w
    rw [show subN 0 m = r from by rw [hr]; unfold subN; rw [Nat.zero_add, Nat.mod_eq_of_lt (by omega)], ← hc, limb_nought, limb_nought, limb_nought, limb_nought] at g
    exact g
  have K : Hid _ := k
  have HR : Hid _ := hr
  clear k hr hc h0 hm
  go_enter Tryd.func43, Tryd.ntmps43
  go_wp2_with fail
  refine (K.out _).mono ?_
  rintro e w1 ⟨rfl, hb1⟩
  have hz1 := hb1.size
  try simp only [World.size_alloc] at hz1
  have A1 : Num4 w1 w.heap.size m := by ((repeat' (first | assumption | (refine Num4.new' ?_; first | omega | (simp; done)) | refine Num4.set ?_ ?_ | refine Num4.alloc ?_ ?_ | refine Num4.drewN ?_ | refine Num4.call ?_ (by assumption) ?_)) <;> (first | omega | (simp; done) | (simp; omega)))
  have W1 : Below w.heap.size w w1 := by ((repeat' (first | with_reducible exact Below.refl _ _ | with_reducible refine Below.setCell ?_ ?_ _ | with_reducible refine below_alloc0 ?_ _ | with_reducible refine below_drewN ?_ _ | with_reducible refine Below.drew ?_ | refine below_call0 ?_ (by assumption))) <;> (first | omega | (simp; done) | (simp; omega)))
  have z1 : w.heap.size < w1.heap.size := by omega
  clear hb1 hz1 K
  obtain ⟨a0, a1, a2, a3⟩ := A1.facts
  go_wp2
  go_ret
  refine ⟨_, rfl, ⟨?_, ?_, ?_⟩, ?_⟩
  · refine limbs4 _ ?_ ?_ ?_ ?_ <;> simp [go_sem]
  · rw [← HR.out]
    refine limbs4 _ ?_ ?_ ?_ ?_ <;> simp [go_sem]
  · simp
  · ((repeat' (first | with_reducible exact Below.refl _ _ | with_reducible refine Below.setCell ?_ ?_ _ | with_reducible refine below_alloc0 ?_ _ | with_reducible refine below_drewN ?_ _ | with_reducible refine Below.drew ?_ | refine below_call0 ?_ (by assumption))) <;> (first | omega | (simp; done) | (simp; omega)))

/-! ### Check -/
theorem check_nil (a : Nat) (w : World) : Calls Tryd.prog 51 #[.pointer none, .agg #[.int .u64 (limb (a) 0 : Nat), .int .u64 (limb (a) 1 : Nat), .int .u64 (limb (a) 2 : Nat), .int .u64 (limb (a) 3 : Nat)]] w fun e w' => e = .returned (.int .i64 7) ∧ Below w.heap.size w w' := by
  go_enter Tryd.func51, Tryd.ntmps51
  go_wp2
  go_ret
  exact ⟨rfl, by ((repeat' (first | with_reducible exact Below.refl _ _ | with_reducible refine Below.setCell ?_ ?_ _ | with_reducible refine below_alloc0 ?_ _ | with_reducible refine below_drewN ?_ _ | with_reducible refine Below.drew ?_ | refine below_call0 ?_ (by assumption))) <;> (first | omega | (simp; done) | (simp; omega)))⟩
def chkN (m a : Nat) : Int := if a < m then 0 else 20
set_option maxHeartbeats 1000000 in
theorem check_in (g m a : Nat) (ha : a < R256) (hm : m < R256) (h : a < m) (w : World) (hM : FieldB w g m) :
    Calls Tryd.prog 51 #[.pointer (some ⟨g, 0, none⟩), .agg #[.int .u64 (limb (a) 0 : Nat), .int .u64 (limb (a) 1 : Nat), .int .u64 (limb (a) 2 : Nat), .int .u64 (limb (a) 3 : Nat)]] w fun e w' => e = .returned (.int .i64 0) ∧ Below w.heap.size w w' := by
  have k1 : ∀ w, Calls Tryd.prog 62 #[.agg #[.int .u64 (limb (a) 0 : Nat), .int .u64 (limb (a) 1 : Nat), .int .u64 (limb (a) 2 : Nat), .int .u64 (limb (a) 3 : Nat)], .agg #[.int .u64 (limb (m) 0 : Nat), .int .u64 (limb (m) 1 : Nat), .int .u64 (limb (m) 2 : Nat), .int .u64 (limb (m) 3 : Nat)]] w fun e w' => e = .returned (.int .i64 (-1)) ∧ Below w.heap.size w w' := fun w => by
    have g := cmp_any a m ha hm w
    rw [show cmpN a m = (-1) from cmpN_lt h] at g
    exact g
  have K1 : Hid _ := k1
  have HM1 : Hid _ := hM.1
  have hg := hM.2.2
  clear k1 h hM
  go_enter Tryd.func51, Tryd.ntmps51
  go_wp2_with fail
  obtain ⟨X, hX⟩ : ∃ X, X = w.alloc (.cells #[.int .u64 (limb a 0 : Nat), .int .u64 (limb a 1 : Nat), .int .u64 (limb a 2 : Nat), .int .u64 (limb a 3 : Nat)] 25) := ⟨_, rfl⟩
  rw [← hX]
  have AX : Num4 X w.heap.size a := by rw [hX]; ((repeat' (first | assumption | (refine Num4.new' ?_; first | omega | (simp; done)) | refine Num4.set ?_ ?_ | refine Num4.alloc ?_ ?_ | refine Num4.drewN ?_ | refine Num4.call ?_ (by assumption) ?_)) <;> (first | omega | (simp; done) | (simp; omega)))
  have WX : Below w.heap.size w X := by rw [hX]; ((repeat' (first | with_reducible exact Below.refl _ _ | with_reducible refine Below.setCell ?_ ?_ _ | with_reducible refine below_alloc0 ?_ _ | with_reducible refine below_drewN ?_ _ | with_reducible refine Below.drew ?_ | refine below_call0 ?_ (by assumption))) <;> (first | omega | (simp; done) | (simp; omega)))
  have MX : Num4 X g m := by rw [hX]; exact Num4.alloc HM1.out hg
  have zx : w.heap.size < X.heap.size := by rw [hX]; simp
  clear hX
  have HK : Hid (∀ w', Below X.heap.size X w' → (Below X.heap.size X w' ∧ (w'.cell? ⟨w.heap.size, 0, none⟩ = some (.int .u64 (limb (a) 0 : Nat)) ∧ w'.cell? ⟨w.heap.size, 1, none⟩ = some (.int .u64 (limb (a) 1 : Nat)) ∧ w'.cell? ⟨w.heap.size, 2, none⟩ = some (.int .u64 (limb (a) 2 : Nat)) ∧ w'.cell? ⟨w.heap.size, 3, none⟩ = some (.int .u64 (limb (a) 3 : Nat))) ∧ (w'.cell? ⟨g, 0, none⟩ = some (.int .u64 (limb (m) 0 : Nat)) ∧ w'.cell? ⟨g, 1, none⟩ = some (.int .u64 (limb (m) 1 : Nat)) ∧ w'.cell? ⟨g, 2, none⟩ = some (.int .u64 (limb (m) 2 : Nat)) ∧ w'.cell? ⟨g, 3, none⟩ = some (.int .u64 (limb (m) 3 : Nat))))) := fun w' h => ⟨h, (AX.call h (by omega)).facts, (MX.call h (by omega)).facts⟩
  clear AX MX
  go_region_held3 (fun w' => Below X.heap.size X w' ∧ (w'.cell? ⟨w.heap.size, 0, none⟩ = some (.int .u64 (limb (a) 0 : Nat)) ∧ w'.cell? ⟨w.heap.size, 1, none⟩ = some (.int .u64 (limb (a) 1 : Nat)) ∧ w'.cell? ⟨w.heap.size, 2, none⟩ = some (.int .u64 (limb (a) 2 : Nat)) ∧ w'.cell? ⟨w.heap.size, 3, none⟩ = some (.int .u64 (limb (a) 3 : Nat))) ∧ (w'.cell? ⟨g, 0, none⟩ = some (.int .u64 (limb (m) 0 : Nat)) ∧ w'.cell? ⟨g, 1, none⟩ = some (.int .u64 (limb (m) 1 : Nat)) ∧ w'.cell? ⟨g, 2, none⟩ = some (.int .u64 (limb (m) 2 : Nat)) ∧ w'.cell? ⟨g, 3, none⟩ = some (.int .u64 (limb (m) 3 : Nat))))
    ((refine HK.out _ ?_; ((repeat' (first | with_reducible exact Below.refl _ _ | exact (And.left (by assumption)) | with_reducible refine Below.setCell ?_ ?_ _ | with_reducible refine below_alloc0 ?_ _ | with_reducible refine below_drewN ?_ _ | with_reducible refine Below.drew ?_ | refine below_call0 ?_ (by assumption))) <;> (first | omega | (simp; done) | (simp; omega)))))
    (first | (go_at_call 62; refine (K1.out _).mono ?_; rintro e w' ⟨rfl, hq⟩))
  go_wp2
  go_ret
  exact ⟨rfl, below_call0 WX (And.left (by assumption))⟩

set_option maxHeartbeats 1000000 in
theorem check_gt (g m a : Nat) (ha : a < R256) (hm : m < R256) (h : m < a) (w : World) (hM : FieldB w g m) :
    Calls Tryd.prog 51 #[.pointer (some ⟨g, 0, none⟩), .agg #[.int .u64 (limb (a) 0 : Nat), .int .u64 (limb (a) 1 : Nat), .int .u64 (limb (a) 2 : Nat), .int .u64 (limb (a) 3 : Nat)]] w fun e w' => e = .returned (.int .i64 20) ∧ Below w.heap.size w w' := by
  have k1 : ∀ w, Calls Tryd.prog 62 #[.agg #[.int .u64 (limb (a) 0 : Nat), .int .u64 (limb (a) 1 : Nat), .int .u64 (limb (a) 2 : Nat), .int .u64 (limb (a) 3 : Nat)], .agg #[.int .u64 (limb (m) 0 : Nat), .int .u64 (limb (m) 1 : Nat), .int .u64 (limb (m) 2 : Nat), .int .u64 (limb (m) 3 : Nat)]] w fun e w' => e = .returned (.int .i64 (1)) ∧ Below w.heap.size w w' := fun w => by
    have g := cmp_any a m ha hm w
    rw [show cmpN a m = (1) from cmpN_gt h] at g
    exact g
  have K1 : Hid _ := k1
  have HM1 : Hid _ := hM.1
  have hg := hM.2.2
  clear k1 h hM
  go_enter Tryd.func51, Tryd.ntmps51
  go_wp2_with fail
  obtain ⟨X, hX⟩ : ∃ X, X = w.alloc (.cells #[.int .u64 (limb a 0 : Nat), .int .u64 (limb a 1 : Nat), .int .u64 (limb a 2 : Nat), .int .u64 (limb a 3 : Nat)] 25) := ⟨_, rfl⟩
  rw [← hX]
  have AX : Num4 X w.heap.size a := by rw [hX]; ((repeat' (first | assumption | (refine Num4.new' ?_; first | omega | (simp; done)) | refine Num4.set ?_ ?_ | refine Num4.alloc ?_ ?_ | refine Num4.drewN ?_ | refine Num4.call ?_ (by assumption) ?_)) <;> (first | omega | (simp; done) | (simp; omega)))
  have WX : Below w.heap.size w X := by rw [hX]; ((repeat' (first | with_reducible exact Below.refl _ _ | with_reducible refine Below.setCell ?_ ?_ _ | with_reducible refine below_alloc0 ?_ _ | with_reducible refine below_drewN ?_ _ | with_reducible refine Below.drew ?_ | refine below_call0 ?_ (by assumption))) <;> (first | omega | (simp; done) | (simp; omega)))
  have MX : Num4 X g m := by rw [hX]; exact Num4.alloc HM1.out hg
  have zx : w.heap.size < X.heap.size := by rw [hX]; simp
  clear hX
  have HK : Hid (∀ w', Below X.heap.size X w' → (Below X.heap.size X w' ∧ (w'.cell? ⟨w.heap.size, 0, none⟩ = some (.int .u64 (limb (a) 0 : Nat)) ∧ w'.cell? ⟨w.heap.size, 1, none⟩ = some (.int .u64 (limb (a) 1 : Nat)) ∧ w'.cell? ⟨w.heap.size, 2, none⟩ = some (.int .u64 (limb (a) 2 : Nat)) ∧ w'.cell? ⟨w.heap.size, 3, none⟩ = some (.int .u64 (limb (a) 3 : Nat))) ∧ (w'.cell? ⟨g, 0, none⟩ = some (.int .u64 (limb (m) 0 : Nat)) ∧ w'.cell? ⟨g, 1, none⟩ = some (.int .u64 (limb (m) 1 : Nat)) ∧ w'.cell? ⟨g, 2, none⟩ = some (.int .u64 (limb (m) 2 : Nat)) ∧ w'.cell? ⟨g, 3, none⟩ = some (.int .u64 (limb (m) 3 : Nat))))) := fun w' h => ⟨h, (AX.call h (by omega)).facts, (MX.call h (by omega)).facts⟩
  clear AX MX
  go_region_held3 (fun w' => Below X.heap.size X w' ∧ (w'.cell? ⟨w.heap.size, 0, none⟩ = some (.int .u64 (limb (a) 0 : Nat)) ∧ w'.cell? ⟨w.heap.size, 1, none⟩ = some (.int .u64 (limb (a) 1 : Nat)) ∧ w'.cell? ⟨w.heap.size, 2, none⟩ = some (.int .u64 (limb (a) 2 : Nat)) ∧ w'.cell? ⟨w.heap.size, 3, none⟩ = some (.int .u64 (limb (a) 3 : Nat))) ∧ (w'.cell? ⟨g, 0, none⟩ = some (.int .u64 (limb (m) 0 : Nat)) ∧ w'.cell? ⟨g, 1, none⟩ = some (.int .u64 (limb (m) 1 : Nat)) ∧ w'.cell? ⟨g, 2, none⟩ = some (.int .u64 (limb (m) 2 : Nat)) ∧ w'.cell? ⟨g, 3, none⟩ = some (.int .u64 (limb (m) 3 : Nat))))
    ((refine HK.out _ ?_; ((repeat' (first | with_reducible exact Below.refl _ _ | exact (And.left (by assumption)) | with_reducible refine Below.setCell ?_ ?_ _ | with_reducible refine below_alloc0 ?_ _ | with_reducible refine below_drewN ?_ _ | with_reducible refine Below.drew ?_ | refine below_call0 ?_ (by assumption))) <;> (first | omega | (simp; done) | (simp; omega)))))
    (first | (go_at_call 62; refine (K1.out _).mono ?_; rintro e w' ⟨rfl, hq⟩))
  go_wp2
  go_ret
  exact ⟨rfl, below_call0 WX (And.left (by assumption))⟩

set_option maxHeartbeats 1000000 in
theorem check_eq (g m a : Nat) (ha : a < R256) (hm : m < R256) (h : a = m) (w : World) (hM : FieldB w g m) :
    Calls Tryd.prog 51 #[.pointer (some ⟨g, 0, none⟩), .agg #[.int .u64 (limb (a) 0 : Nat), .int .u64 (limb (a) 1 : Nat), .int .u64 (limb (a) 2 : Nat), .int .u64 (limb (a) 3 : Nat)]] w fun e w' => e = .returned (.int .i64 20) ∧ Below w.heap.size w w' := by
  have k1 : ∀ w, Calls Tryd.prog 62 #[.agg #[.int .u64 (limb (a) 0 : Nat), .int .u64 (limb (a) 1 : Nat), .int .u64 (limb (a) 2 : Nat), .int .u64 (limb (a) 3 : Nat)], .agg #[.int .u64 (limb (m) 0 : Nat), .int .u64 (limb (m) 1 : Nat), .int .u64 (limb (m) 2 : Nat), .int .u64 (limb (m) 3 : Nat)]] w fun e w' => e = .returned (.int .i64 (0)) ∧ Below w.heap.size w w' := fun w => by
    have g := cmp_any a m ha hm w
    rw [show cmpN a m = (0) from (by rw [h]; exact cmpN_self m)] at g
    exact g
  have K1 : Hid _ := k1
  have HM1 : Hid _ := hM.1
  have hg := hM.2.2
  clear k1 h hM
  go_enter Tryd.func51, Tryd.ntmps51
  go_wp2_with fail
  obtain ⟨X, hX⟩ : ∃ X, X = w.alloc (.cells #[.int .u64 (limb a 0 : Nat), .int .u64 (limb a 1 : Nat), .int .u64 (limb a 2 : Nat), .int .u64 (limb a 3 : Nat)] 25) := ⟨_, rfl⟩
  rw [← hX]
  have AX : Num4 X w.heap.size a := by rw [hX]; ((repeat' (first | assumption | (refine Num4.new' ?_; first | omega | (simp; done)) | refine Num4.set ?_ ?_ | refine Num4.alloc ?_ ?_ | refine Num4.drewN ?_ | refine Num4.call ?_ (by assumption) ?_)) <;> (first | omega | (simp; done) | (simp; omega)))
  have WX : Below w.heap.size w X := by rw [hX]; ((repeat' (first | with_reducible exact Below.refl _ _ | with_reducible refine Below.setCell ?_ ?_ _ | with_reducible refine below_alloc0 ?_ _ | with_reducible refine below_drewN ?_ _ | with_reducible refine Below.drew ?_ | refine below_call0 ?_ (by assumption))) <;> (first | omega | (simp; done) | (simp; omega)))
  have MX : Num4 X g m := by rw [hX]; exact Num4.alloc HM1.out hg
  have zx : w.heap.size < X.heap.size := by rw [hX]; simp
  clear hX
  have HK : Hid (∀ w', Below X.heap.size X w' → (Below X.heap.size X w' ∧ (w'.cell? ⟨w.heap.size, 0, none⟩ = some (.int .u64 (limb (a) 0 : Nat)) ∧ w'.cell? ⟨w.heap.size, 1, none⟩ = some (.int .u64 (limb (a) 1 : Nat)) ∧ w'.cell? ⟨w.heap.size, 2, none⟩ = some (.int .u64 (limb (a) 2 : Nat)) ∧ w'.cell? ⟨w.heap.size, 3, none⟩ = some (.int .u64 (limb (a) 3 : Nat))) ∧ (w'.cell? ⟨g, 0, none⟩ = some (.int .u64 (limb (m) 0 : Nat)) ∧ w'.cell? ⟨g, 1, none⟩ = some (.int .u64 (limb (m) 1 : Nat)) ∧ w'.cell? ⟨g, 2, none⟩ = some (.int .u64 (limb (m) 2 : Nat)) ∧ w'.cell? ⟨g, 3, none⟩ = some (.int .u64 (limb (m) 3 : Nat))))) := fun w' h => ⟨h, (AX.call h (by omega)).facts, (MX.call h (by omega)).facts⟩
  clear AX MX
  go_region_held3 (fun w' => Below X.heap.size X w' ∧ (w'.cell? ⟨w.heap.size, 0, none⟩ = some (.int .u64 (limb (a) 0 : Nat)) ∧ w'.cell? ⟨w.heap.size, 1, none⟩ = some (.int .u64 (limb (a) 1 : Nat)) ∧ w'.cell? ⟨w.heap.size, 2, none⟩ = some (.int .u64 (limb (a) 2 : Nat)) ∧ w'.cell? ⟨w.heap.size, 3, none⟩ = some (.int .u64 (limb (a) 3 : Nat))) ∧ (w'.cell? ⟨g, 0, none⟩ = some (.int .u64 (limb (m) 0 : Nat)) ∧ w'.cell? ⟨g, 1, none⟩ = some (.int .u64 (limb (m) 1 : Nat)) ∧ w'.cell? ⟨g, 2, none⟩ = some (.int .u64 (limb (m) 2 : Nat)) ∧ w'.cell? ⟨g, 3, none⟩ = some (.int .u64 (limb (m) 3 : Nat))))
    ((refine HK.out _ ?_; ((repeat' (first | with_reducible exact Below.refl _ _ | exact (And.left (by assumption)) | with_reducible refine Below.setCell ?_ ?_ _ | with_reducible refine below_alloc0 ?_ _ | with_reducible refine below_drewN ?_ _ | with_reducible refine Below.drew ?_ | refine below_call0 ?_ (by assumption))) <;> (first | omega | (simp; done) | (simp; omega)))))
    (first | (go_at_call 62; refine (K1.out _).mono ?_; rintro e w' ⟨rfl, hq⟩))
  go_wp2
  go_ret
  exact ⟨rfl, below_call0 WX (And.left (by assumption))⟩

theorem check_any (g m a : Nat) (ha : a < R256) (hm : m < R256) (w : World) (hM : FieldB w g m) :
    Calls Tryd.prog 51 #[.pointer (some ⟨g, 0, none⟩), .agg #[.int .u64 (limb (a) 0 : Nat), .int .u64 (limb (a) 1 : Nat), .int .u64 (limb (a) 2 : Nat), .int .u64 (limb (a) 3 : Nat)]] w fun e w' => e = .returned (.int .i64 (chkN m a)) ∧ Below w.heap.size w w' := by
  unfold chkN
  rcases Nat.lt_trichotomy a m with h | h | h
  · rw [if_pos h]; exact check_in g m a ha hm h w hM
  · rw [if_neg (by omega)]; exact check_eq g m a ha hm h w hM
  · rw [if_neg (by omega)]; exact check_gt g m a ha hm h w hM
theorem check_no (g m a : Nat) (ha : a < R256) (hm : m < R256) (h : ¬ a < m) (w : World) (hM : FieldB w g m) :
    Calls Tryd.prog 51 #[.pointer (some ⟨g, 0, none⟩), .agg #[.int .u64 (limb (a) 0 : Nat), .int .u64 (limb (a) 1 : Nat), .int .u64 (limb (a) 2 : Nat), .int .u64 (limb (a) 3 : Nat)]] w fun e w' => e = .returned (.int .i64 20) ∧ Below w.heap.size w w' := by
  have k := check_any g m a ha hm w hM
  unfold chkN at k
  rw [if_neg h] at k
  exact k
end Go.Proofs.YtcdiehnkknmbeaaDoor
