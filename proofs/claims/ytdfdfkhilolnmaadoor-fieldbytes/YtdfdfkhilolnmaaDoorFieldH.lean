/- What every statement of layer 2 asks besides: the inverse of 2, and a root of 4. -/
import Derived.Test.YtdfdfkhilolnmaaDoorFieldI
namespace Go.Proofs.YtdfdfkhilolnmaaDoor
open Go.RowKit
attribute [local go_sem] run_eq4

theorem half_two : 2 ^ (PP - 2) % PP * 2 % PP = 1 := by
  rw [← mpowF_eq PP 256 2 (PP - 2) (by decide)]
  kernel_rfl
theorem root_four : 4 ^ rootE % PP * (4 ^ rootE % PP) % PP = 4 ∧ evenR PP (4 ^ rootE % PP) = 2 := by
  rw [← mpowF_eq PP 256 4 rootE (by decide)]
  exact ⟨by kernel_rfl, by kernel_rfl⟩

set_option maxHeartbeats 2000000 in
theorem half_any (w : World) (hG : Glob w) : Calls Tryd.prog 18 #[] w fun e w' => e = .returned (.bool true) ∧ Below w.heap.size w w' := by
  obtain ⟨H, hH⟩ : ∃ H, H = 2 ^ (PP - 2) % PP := ⟨_, rfl⟩
  have HP : H < PP := by rw [hH]; exact Nat.mod_lt _ (by decide)
  have k2 : ∀ (g : Nat) (w : World), FieldB w g PP → Calls Tryd.prog 27 #[.pointer (some ⟨g, 0, none⟩), .agg #[.int .u64 2, .int .u64 0, .int .u64 0, .int .u64 0]] w fun e w' => e = .returned (.tuple #[.agg #[.int .u64 (limb (H) 0 : Nat), .int .u64 (limb (H) 1 : Nat), .int .u64 (limb (H) 2 : Nat), .int .u64 (limb (H) 3 : Nat)], .int .i64 0]) ∧ Below w.heap.size w w' := fun g w h => by
    have k := finv_in g PP 2 H FM_P (by decide) (by decide) hH w h
    rw [limb_two.1, limb_two.2.1, limb_two.2.2.1, limb_two.2.2.2] at k
    exact k
  have k3 : ∀ (g : Nat) (w : World), FieldB w g PP → Calls Tryd.prog 20 #[.pointer (some ⟨g, 0, none⟩), .agg #[.int .u64 (limb (H) 0 : Nat), .int .u64 (limb (H) 1 : Nat), .int .u64 (limb (H) 2 : Nat), .int .u64 (limb (H) 3 : Nat)], .agg #[.int .u64 2, .int .u64 0, .int .u64 0, .int .u64 0]] w fun e w' => e = .returned (.tuple #[.agg #[.int .u64 1, .int .u64 0, .int .u64 0, .int .u64 0], .int .i64 0]) ∧ Below w.heap.size w w' := fun g w h => by
    have k := fmul_in g PP H 2 FM_P HP (by decide) w h
    rw [show H * 2 % PP = 1 from by rw [hH]; exact half_two, limb_two.1, limb_two.2.1, limb_two.2.2.1, limb_two.2.2.2, limb_one.1, limb_one.2.1, limb_one.2.2.1, limb_one.2.2.2] at k
    exact k
  have k4 : ∀ (g : Nat) (w : World), Glob w → FieldB w g PP → Calls Tryd.prog 29 #[.pointer (some ⟨g, 0, none⟩), .agg #[.int .u64 4, .int .u64 0, .int .u64 0, .int .u64 0]] w fun e w' => e = .returned (.tuple #[.agg #[.int .u64 2, .int .u64 0, .int .u64 0, .int .u64 0], .int .i64 0]) ∧ Below w.heap.size w w' := fun g w hG h => by
    have k := fsqrt_P g 4 _ 2 true (by decide) rfl (by rw [root_four.1]; decide) root_four.2.symm w hG h
    rw [limb_four.1, limb_four.2.1, limb_four.2.2.1, limb_four.2.2.2, limb_two.1, limb_two.2.1, limb_two.2.2.1, limb_two.2.2.2] at k
    exact k
  have k1 := base_any
  obtain ⟨q, hq⟩ : ∃ q, q = PP := ⟨_, rfl⟩
  rw [← hq] at k1 k2 k3 k4
  have K1 : Hid _ := k1
  have K2 : Hid _ := k2
  have K3 : Hid _ := k3
  have K4 : Hid _ := k4
  have HG : Hid (Glob w) := hG
  clear k1 k2 k3 k4 hH HP hq hG
  go_enter Tryd.func18, Tryd.ntmps18
  go_wp2_with fail
  refine (K1.out _ HG.out).mono ?_
  rintro e w1 ⟨g, rfl, M1, hb1⟩
  have W1 : Below w.heap.size w w1 := hb1
  have G1 := Glob.call HG.out hb1
  clear hb1 K1
  go_wp2_with fail
  refine (K2.out _ _ M1).mono ?_
  rintro e w2 ⟨rfl, hb2⟩
  have M2 := M1.call hb2
  have G2 := G1.call hb2
  have W2 : Below w.heap.size w w2 := below_call0 W1 hb2
  clear hb2 K2 M1 G1 W1
  go_wp2_with fail
  refine (K3.out _ _ (FieldB.alloc M2)).mono ?_
  rintro e w3 ⟨rfl, hb3⟩
  have M3 := (FieldB.alloc M2).call hb3
  have G3 := G2.alloc.call hb3
  have W3 : Below w.heap.size w w3 := below_call0 (below_alloc0 W2 _) hb3
  clear hb3 K3 M2 G2 W2
  go_wp2_with fail
  refine (K4.out _ _ (Glob.alloc G3) (FieldB.alloc M3)).mono ?_
  rintro e w4 ⟨rfl, hb4⟩
  have O4 := Below.cell (p := ⟨w3.heap.size, 0, none⟩) hb4 (by simp)
  have W4 : Below w.heap.size w w4 := below_call0 (below_alloc0 W3 _) hb4
  have hz4 := hb4.size
  simp only [World.size_alloc] at hz4
  have q0 : w4.cell? ⟨w3.heap.size, 0, none⟩ = some (.int .u64 1) := (Below.cell (p := ⟨w3.heap.size, 0, none⟩) hb4 (by simp)).trans (by simp)
  have q1 : w4.cell? ⟨w3.heap.size, 1, none⟩ = some (.int .u64 0) := (Below.cell (p := ⟨w3.heap.size, 1, none⟩) hb4 (by simp)).trans (by simp)
  have q2 : w4.cell? ⟨w3.heap.size, 2, none⟩ = some (.int .u64 0) := (Below.cell (p := ⟨w3.heap.size, 2, none⟩) hb4 (by simp)).trans (by simp)
  have q3 : w4.cell? ⟨w3.heap.size, 3, none⟩ = some (.int .u64 0) := (Below.cell (p := ⟨w3.heap.size, 3, none⟩) hb4 (by simp)).trans (by simp)
  have z4 : w3.heap.size < w4.heap.size := by omega
  have t1 : eq4 1 0 0 0 1 0 0 0 = true := rfl
  have t2 : eq4 2 0 0 0 2 0 0 0 = true := rfl
  clear hb4 O4 K4 M3 G3 W3 hz4 HG
  go_wp2
  go_ret
  exact ⟨rfl, by ((repeat' (first | with_reducible exact Below.refl _ _ | with_reducible refine Below.setCell ?_ ?_ _ | with_reducible refine below_alloc0 ?_ _ | with_reducible refine below_drewN ?_ _ | with_reducible refine Below.drew ?_ | refine below_call0 ?_ (by assumption))) <;> (first | omega | (simp; done) | (simp; omega)))⟩
end Go.Proofs.YtdfdfkhilolnmaaDoor
