/- The scalars' field, the code's and the reference's; Zero. -/
import Derived.Test.YtjdfipfeclphkaaDoorMgD
import Derived.Test.YtjdfipfeclphkaaDoorDmH
import Derived.Test.YtjdfipfeclphkaaDoorFieldR
import Derived.Test.YtjdfipfeclphkaaDoorRef2R
import Derived.Test.YtjdfipfeclphkaaDoorFromB
import Derived.Test.YtjdfipfeclphkaaDoorFromR
namespace Go.Proofs.YtjdfipfeclphkaaDoor
open Go.RowKit
attribute [local go_sem] run_eq4

/-- The package's variable of the scalars' prime. -/
def GlobQ (w : World) : Prop := Num4 w 1 QQ ∧ 1 < w.heap.size
theorem GlobQ.call {W w1 : World} (h : GlobQ W) (hb : Below W.heap.size W w1) : GlobQ w1 := ⟨h.1.call hb h.2, Nat.lt_of_lt_of_le h.2 hb.size⟩
theorem GlobQ.alloc {W : World} {o : Obj} (h : GlobQ W) : GlobQ (W.alloc o) := h.call ((Below.refl _ _).alloc (Nat.le_refl _) o)
theorem GlobQ.drew {W : World} (h : GlobQ W) : GlobQ W.drew := h
theorem GlobQ.drewN {W : World} {k : Nat} (h : GlobQ W) : GlobQ (W.drewN k) := h
theorem scalars_any (w : World) (hG : GlobQ w) :
    Calls Tryd.prog 40 #[] w fun e w' => ∃ g, e = .returned (.pointer (some ⟨g, 0, none⟩)) ∧ FieldB w' g QQ ∧ Below w.heap.size w w' := by
  obtain ⟨m, hm⟩ : ∃ m, m = QQ := ⟨_, rfl⟩
  have k := newField_any QQ (by have := FM_Q.pos; omega) FM_Q.2.1
  obtain ⟨g0, g1, g2, g3⟩ := hG.1.facts
  rw [← hm] at k g0 g1 g2 g3
  rw [← hm]
  have K : Hid _ := k
  clear k hm hG
  go_enter Tryd.func40, Tryd.ntmps40
  go_wp2_with fail
  refine (K.out _).mono ?_
  rintro e w1 ⟨g, rfl, hF, hb1⟩
  go_wp2
  go_ret
  exact ⟨g, rfl, hF, hb1⟩

theorem limb_QQ : limb QQ 0 = 13822214165235122497 ∧ limb QQ 1 = 13451932020343611451 ∧ limb QQ 2 = 18446744073709551614 ∧ limb QQ 3 = 18446744073709551615 ∧ limb (R256 - QQ) 0 = 4624529908474429119 ∧ limb (R256 - QQ) 1 = 4994812053365940164 ∧ limb (R256 - QQ) 2 = 1 ∧ limb (R256 - QQ) 3 = 0 := by decide
theorem scalars2_any (w : World) : Calls Tryd.prog 14 #[] w fun e w' => e = .returned (.agg #[.int .u64 (limb QQ 0 : Nat), .int .u64 (limb QQ 1 : Nat), .int .u64 (limb QQ 2 : Nat), .int .u64 (limb QQ 3 : Nat), .int .u64 (limb (R256 - QQ) 0 : Nat), .int .u64 (limb (R256 - QQ) 1 : Nat), .int .u64 (limb (R256 - QQ) 2 : Nat), .int .u64 (limb (R256 - QQ) 3 : Nat)]) ∧ Below w.heap.size w w' := by
  obtain ⟨l0, l1, l2, l3, g0, g1, g2, g3⟩ := limb_QQ
  rw [l0, l1, l2, l3, g0, g1, g2, g3]
  clear l0 l1 l2 l3 g0 g1 g2 g3
  go_enter Tryd.func14, Tryd.ntmps14
  go_wp2
  refine bodyPost_ret (v := .agg #[.int .u64 (13822214165235122497 : Nat), .int .u64 (13451932020343611451 : Nat), .int .u64 (18446744073709551614 : Nat), .int .u64 (18446744073709551615 : Nat), .int .u64 (4624529908474429119 : Nat), .int .u64 (4994812053365940164 : Nat), .int .u64 (1 : Nat), .int .u64 (0 : Nat)]) ?_ rfl ⟨rfl, ?_⟩
  · simp [results, Tryd.results14, go_sem]
  · ((repeat' (first | with_reducible exact Below.refl _ _ | with_reducible refine Below.setCell ?_ ?_ _ | with_reducible refine below_alloc0 ?_ _ | with_reducible refine below_drewN ?_ _ | with_reducible refine Below.drew ?_ | refine below_call0 ?_ (by assumption))) <;> (first | omega | (simp; done) | (simp; omega)))

theorem eq4_zero (a : Nat) (ha : a < R256) : eq4 (limb a 0 : Nat) (limb a 1 : Nat) (limb a 2 : Nat) (limb a 3 : Nat) 0 0 0 0 = decide (a = 0) := by
  have h := eq4_num a 0 ha (by decide)
  rw [limb_nought, limb_nought, limb_nought, limb_nought] at h
  exact h
theorem has2_any (m a : Nat) (hm : m < R256) (ha : a < R256) (w : World) : Calls Tryd.prog 15 #[.agg #[.int .u64 (limb (m) 0 : Nat), .int .u64 (limb (m) 1 : Nat), .int .u64 (limb (m) 2 : Nat), .int .u64 (limb (m) 3 : Nat), .int .u64 (limb (R256 - (m)) 0 : Nat), .int .u64 (limb (R256 - (m)) 1 : Nat), .int .u64 (limb (R256 - (m)) 2 : Nat), .int .u64 (limb (R256 - (m)) 3 : Nat)], .agg #[.int .u64 (limb (a) 0 : Nat), .int .u64 (limb (a) 1 : Nat), .int .u64 (limb (a) 2 : Nat), .int .u64 (limb (a) 3 : Nat)]] w fun e w' => e = .returned (.bool (decide (a < m))) ∧ Below w.heap.size w w' := by
  obtain ⟨G, hG⟩ : ∃ G, G = R256 - m := ⟨_, rfl⟩
  rw [← hG]
  have K : Hid _ := less_ref a m ha hm
  clear hG ha hm
  go_enter Tryd.func15, Tryd.ntmps15
  go_wp2_with fail
  refine (K.out _).mono ?_
  rintro e w1 ⟨rfl, hb1⟩
  have hz1 := hb1.size
  try simp only [World.size_alloc] at hz1
  have W1 : Below w.heap.size w w1 := by ((repeat' (first | with_reducible exact Below.refl _ _ | with_reducible refine Below.setCell ?_ ?_ _ | with_reducible refine below_alloc0 ?_ _ | with_reducible refine below_drewN ?_ _ | with_reducible refine Below.drew ?_ | refine below_call0 ?_ (by assumption))) <;> (first | omega | (simp; done) | (simp; omega)))
  clear hb1 K
  go_wp2
  go_ret
  exact ⟨rfl, W1⟩
set_option maxHeartbeats 1000000 in
theorem zero2_a (x0 x1 x2 x3 : Int) (h0 : (x0 == 0) = false) (w : World) :
    Calls Tryd.prog 28 #[.agg #[.int .u64 x0, .int .u64 x1, .int .u64 x2, .int .u64 x3]] w fun e w' => e = .returned (.bool false) ∧ Below w.heap.size w w' := by
  go_enter Tryd.func28, Tryd.ntmps28
  go_wp2_with fail
  go_ret
  exact ⟨rfl, below_alloc0 (Below.refl _ _) _⟩
set_option maxHeartbeats 1000000 in
theorem zero2_b (x0 x1 x2 x3 : Int) (h0 : (x0 == 0) = true) (h1 : (x1 == 0) = false) (w : World) :
    Calls Tryd.prog 28 #[.agg #[.int .u64 x0, .int .u64 x1, .int .u64 x2, .int .u64 x3]] w fun e w' => e = .returned (.bool false) ∧ Below w.heap.size w w' := by
  go_enter Tryd.func28, Tryd.ntmps28
  go_wp2_with fail
  go_ret
  exact ⟨rfl, below_alloc0 (Below.refl _ _) _⟩
set_option maxHeartbeats 1000000 in
theorem zero2_c (x0 x1 x2 x3 : Int) (h0 : (x0 == 0) = true) (h1 : (x1 == 0) = true) (h2 : (x2 == 0) = false) (w : World) :
    Calls Tryd.prog 28 #[.agg #[.int .u64 x0, .int .u64 x1, .int .u64 x2, .int .u64 x3]] w fun e w' => e = .returned (.bool false) ∧ Below w.heap.size w w' := by
  go_enter Tryd.func28, Tryd.ntmps28
  go_wp2_with fail
  go_ret
  exact ⟨rfl, below_alloc0 (Below.refl _ _) _⟩
set_option maxHeartbeats 1000000 in
theorem zero2_d (x0 x1 x2 x3 : Int) (h0 : (x0 == 0) = true) (h1 : (x1 == 0) = true) (h2 : (x2 == 0) = true) (h3 : (x3 == 0) = false) (w : World) :
    Calls Tryd.prog 28 #[.agg #[.int .u64 x0, .int .u64 x1, .int .u64 x2, .int .u64 x3]] w fun e w' => e = .returned (.bool false) ∧ Below w.heap.size w w' := by
  go_enter Tryd.func28, Tryd.ntmps28
  go_wp2_with fail
  go_ret
  exact ⟨rfl, below_alloc0 (Below.refl _ _) _⟩
set_option maxHeartbeats 1000000 in
theorem zero2_e (x0 x1 x2 x3 : Int) (h0 : (x0 == 0) = true) (h1 : (x1 == 0) = true) (h2 : (x2 == 0) = true) (h3 : (x3 == 0) = true) (w : World) :
    Calls Tryd.prog 28 #[.agg #[.int .u64 x0, .int .u64 x1, .int .u64 x2, .int .u64 x3]] w fun e w' => e = .returned (.bool true) ∧ Below w.heap.size w w' := by
  go_enter Tryd.func28, Tryd.ntmps28
  go_wp2_with fail
  go_ret
  exact ⟨rfl, below_alloc0 (Below.refl _ _) _⟩
theorem zero2_any (a : Nat) (ha : a < R256) (w : World) : Calls Tryd.prog 28 #[.agg #[.int .u64 (limb (a) 0 : Nat), .int .u64 (limb (a) 1 : Nat), .int .u64 (limb (a) 2 : Nat), .int .u64 (limb (a) 3 : Nat)]] w fun e w' => e = .returned (.bool (decide (a = 0))) ∧ Below w.heap.size w w' := by
  have h := eq4_zero a ha
  unfold eq4 at h
  rw [← h]
  cases h0 : ((limb a 0 : Nat) : Int) == 0
  · exact zero2_a _ _ _ _ h0 w
  · cases h1 : ((limb a 1 : Nat) : Int) == 0
    · exact zero2_b _ _ _ _ h0 h1 w
    · cases h2 : ((limb a 2 : Nat) : Int) == 0
      · exact zero2_c _ _ _ _ h0 h1 h2 w
      · cases h3 : ((limb a 3 : Nat) : Int) == 0
        · exact zero2_d _ _ _ _ h0 h1 h2 h3 w
        · exact zero2_e _ _ _ _ h0 h1 h2 h3 w
end Go.Proofs.YtjdfipfeclphkaaDoor
