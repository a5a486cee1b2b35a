/- The reference's Mul of a field. -/
import Derived.Test.YtbpgiijdcagckaaDoorRef2G
import Derived.Test.YtbpgiijdcagckaaDoorHeldN
namespace Go.Proofs.YtbpgiijdcagckaaDoor
open Go.RowKit

set_option maxRecDepth 100000 in
set_option maxHeartbeats 2000000 in
theorem mul2_go (m a b V r : Nat) (kt : ∀ w, Calls Tryd.prog 32 #[.agg #[.int .u64 (limb (a) 0 : Nat), .int .u64 (limb (a) 1 : Nat), .int .u64 (limb (a) 2 : Nat), .int .u64 (limb (a) 3 : Nat)], .agg #[.int .u64 (limb (b) 0 : Nat), .int .u64 (limb (b) 1 : Nat), .int .u64 (limb (b) 2 : Nat), .int .u64 (limb (b) 3 : Nat)]] w fun e w' => e = .returned (.agg #[.int .u64 (limb (V) 0 : Nat), .int .u64 (limb (V) 1 : Nat), .int .u64 (limb (V) 2 : Nat), .int .u64 (limb (V) 3 : Nat), .int .u64 (limb (V) 4 : Nat), .int .u64 (limb (V) 5 : Nat), .int .u64 (limb (V) 6 : Nat), .int .u64 (limb (V) 7 : Nat)]) ∧ Below w.heap.size w w') (kr : ∀ w, Calls Tryd.prog 31 #[.agg #[.int .u64 (limb (m) 0 : Nat), .int .u64 (limb (m) 1 : Nat), .int .u64 (limb (m) 2 : Nat), .int .u64 (limb (m) 3 : Nat), .int .u64 (limb (R256 - (m)) 0 : Nat), .int .u64 (limb (R256 - (m)) 1 : Nat), .int .u64 (limb (R256 - (m)) 2 : Nat), .int .u64 (limb (R256 - (m)) 3 : Nat)], .agg #[.int .u64 (limb (V) 0 : Nat), .int .u64 (limb (V) 1 : Nat), .int .u64 (limb (V) 2 : Nat), .int .u64 (limb (V) 3 : Nat), .int .u64 (limb (V) 4 : Nat), .int .u64 (limb (V) 5 : Nat), .int .u64 (limb (V) 6 : Nat), .int .u64 (limb (V) 7 : Nat)]] w fun e w' => e = .returned (.agg #[.int .u64 (limb (r) 0 : Nat), .int .u64 (limb (r) 1 : Nat), .int .u64 (limb (r) 2 : Nat), .int .u64 (limb (r) 3 : Nat)]) ∧ Below w.heap.size w w') (w : World) :
    Calls Tryd.prog 20 #[.agg #[.int .u64 (limb (m) 0 : Nat), .int .u64 (limb (m) 1 : Nat), .int .u64 (limb (m) 2 : Nat), .int .u64 (limb (m) 3 : Nat), .int .u64 (limb (R256 - (m)) 0 : Nat), .int .u64 (limb (R256 - (m)) 1 : Nat), .int .u64 (limb (R256 - (m)) 2 : Nat), .int .u64 (limb (R256 - (m)) 3 : Nat)], .agg #[.int .u64 (limb (a) 0 : Nat), .int .u64 (limb (a) 1 : Nat), .int .u64 (limb (a) 2 : Nat), .int .u64 (limb (a) 3 : Nat)], .agg #[.int .u64 (limb (b) 0 : Nat), .int .u64 (limb (b) 1 : Nat), .int .u64 (limb (b) 2 : Nat), .int .u64 (limb (b) 3 : Nat)]] w fun e w' => e = .returned (.agg #[.int .u64 (limb (r) 0 : Nat), .int .u64 (limb (r) 1 : Nat), .int .u64 (limb (r) 2 : Nat), .int .u64 (limb (r) 3 : Nat)]) ∧ Below w.heap.size w w' := by
  obtain ⟨G, hG⟩ : ∃ G, G = R256 - m := ⟨_, rfl⟩
  have HFN : Hid (∀ W t, FieldB ((W : World).alloc (.cells #[.int .u64 (limb m 0 : Nat), .int .u64 (limb m 1 : Nat), .int .u64 (limb m 2 : Nat), .int .u64 (limb m 3 : Nat), .int .u64 (limb (R256 - m) 0 : Nat), .int .u64 (limb (R256 - m) 1 : Nat), .int .u64 (limb (R256 - m) 2 : Nat), .int .u64 (limb (R256 - m) 3 : Nat)] t)) W.heap.size m) := fun W t => FieldB.new W m t
  rw [← hG] at kr HFN
  rw [← hG]
  have KT : Hid _ := kt
  have KR : Hid _ := kr
  have HG : Hid (G = R256 - m) := hG
  clear kt kr hG
  go_enter Tryd.func20, Tryd.ntmps20
  go_wp2_with fail
  obtain ⟨Y, hY⟩ : ∃ Y, Y = (((w.alloc (.cells #[.int .u64 (limb m 0 : Nat), .int .u64 (limb m 1 : Nat), .int .u64 (limb m 2 : Nat), .int .u64 (limb m 3 : Nat), .int .u64 (limb G 0 : Nat), .int .u64 (limb G 1 : Nat), .int .u64 (limb G 2 : Nat), .int .u64 (limb G 3 : Nat)] 69)).alloc (.cells #[.int .u64 (limb a 0 : Nat), .int .u64 (limb a 1 : Nat), .int .u64 (limb a 2 : Nat), .int .u64 (limb a 3 : Nat)] 27)).alloc (.cells #[.int .u64 (limb b 0 : Nat), .int .u64 (limb b 1 : Nat), .int .u64 (limb b 2 : Nat), .int .u64 (limb b 3 : Nat)] 27)).alloc (.cells #[.int .u64 0, .int .u64 0, .int .u64 0, .int .u64 0] 27) := ⟨_, rfl⟩
  rw [← hY]
  have HF : Hid (FieldB Y w.heap.size m) := by rw [hY]; exact FieldB.alloc (FieldB.alloc (FieldB.alloc (HFN.out w _)))
  have HA : Hid (NS Y (w.heap.size + 1) a) := by
    rw [hY]
    have t := NS.alloc (o := .cells #[.int .u64 0, .int .u64 0, .int .u64 0, .int .u64 0] 27) (NS.alloc (o := .cells #[.int .u64 (limb b 0 : Nat), .int .u64 (limb b 1 : Nat), .int .u64 (limb b 2 : Nat), .int .u64 (limb b 3 : Nat)] 27) (NS.new (w.alloc (.cells #[.int .u64 (limb m 0 : Nat), .int .u64 (limb m 1 : Nat), .int .u64 (limb m 2 : Nat), .int .u64 (limb m 3 : Nat), .int .u64 (limb G 0 : Nat), .int .u64 (limb G 1 : Nat), .int .u64 (limb G 2 : Nat), .int .u64 (limb G 3 : Nat)] 69)) a 27))
    simp only [World.size_alloc] at t
    exact t
  have HB : Hid (NS Y (w.heap.size + 1 + 1) b) := by
    rw [hY]
    have t := NS.alloc (o := .cells #[.int .u64 0, .int .u64 0, .int .u64 0, .int .u64 0] 27) (NS.new ((w.alloc (.cells #[.int .u64 (limb m 0 : Nat), .int .u64 (limb m 1 : Nat), .int .u64 (limb m 2 : Nat), .int .u64 (limb m 3 : Nat), .int .u64 (limb G 0 : Nat), .int .u64 (limb G 1 : Nat), .int .u64 (limb G 2 : Nat), .int .u64 (limb G 3 : Nat)] 69)).alloc (.cells #[.int .u64 (limb a 0 : Nat), .int .u64 (limb a 1 : Nat), .int .u64 (limb a 2 : Nat), .int .u64 (limb a 3 : Nat)] 27)) b 27)
    simp only [World.size_alloc] at t
    exact t
  have HP : Hid (Pend Y (w.heap.size + 1 + 1 + 1)) := by
    rw [hY]
    have t := Pend.new (((w.alloc (.cells #[.int .u64 (limb m 0 : Nat), .int .u64 (limb m 1 : Nat), .int .u64 (limb m 2 : Nat), .int .u64 (limb m 3 : Nat), .int .u64 (limb G 0 : Nat), .int .u64 (limb G 1 : Nat), .int .u64 (limb G 2 : Nat), .int .u64 (limb G 3 : Nat)] 69)).alloc (.cells #[.int .u64 (limb a 0 : Nat), .int .u64 (limb a 1 : Nat), .int .u64 (limb a 2 : Nat), .int .u64 (limb a 3 : Nat)] 27)).alloc (.cells #[.int .u64 (limb b 0 : Nat), .int .u64 (limb b 1 : Nat), .int .u64 (limb b 2 : Nat), .int .u64 (limb b 3 : Nat)] 27)) 27
    simp only [World.size_alloc] at t
    exact t
  have HW : Hid (Below w.heap.size w Y) := by rw [hY]; exact below_alloc0 (below_alloc0 (below_alloc0 (below_alloc0 (Below.refl _ _) _) _) _) _
  clear hY HFN
  refine wp_region_N (fun w' => Below Y.heap.size Y w') 5 6 rfl (by kernel_rfl) ?_
  refine wpAnyN_take (i := 0) (oi := ?o0) (v := ?v0) ?hi0 (by kernel_rfl) (by kernel_rfl) (by kernel_rfl) (by kernel_rfl) (by decide) (by kernel_rfl) ?hQ0 ?hy0 (Below.drew (Below.refl _ _)) ?more0
  case hi0 => rw [List.getElem?_toArray]; exact rfl
  case hQ0 => exact fun _ _ _ h => h
  case hy0 =>
    refine Or.inl ⟨by rfl, ?_⟩
    intro w' hSw
    have F' := FieldB.call HF.out hSw
    obtain ⟨m0, m1, m2, m3⟩ := F'.1.facts
    obtain ⟨g0, g1, g2, g3⟩ := F'.gap
    rw [← HG.out] at g0 g1 g2 g3
    obtain ⟨⟨a0, a1, a2, a3⟩, az⟩ := (NS.call HA.out hSw).facts
    obtain ⟨⟨b0, b1, b2, b3⟩, bz⟩ := (NS.call HB.out hSw).facts
    clear hSw F'
    go_simp
    try with_reducible rfl
  simp only [Act.put, List.setIfInBounds_toArray, List.set_cons_zero, List.set_cons_succ]
  refine wpAnyN_take (i := 1) (oi := ?o1) (v := ?v1) ?hi1 (by kernel_rfl) (by kernel_rfl) (by kernel_rfl) (by kernel_rfl) (by decide) (by kernel_rfl) ?hQ1 ?hy1 (Below.drew (Below.refl _ _)) ?more1
  case hi1 => rw [List.getElem?_toArray]; exact rfl
  case hQ1 => exact fun _ _ _ h => h
  case hy1 =>
    refine Or.inl ⟨by rfl, ?_⟩
    intro w' hSw
    have F' := FieldB.call HF.out hSw
    obtain ⟨m0, m1, m2, m3⟩ := F'.1.facts
    obtain ⟨g0, g1, g2, g3⟩ := F'.gap
    rw [← HG.out] at g0 g1 g2 g3
    obtain ⟨⟨a0, a1, a2, a3⟩, az⟩ := (NS.call HA.out hSw).facts
    obtain ⟨⟨b0, b1, b2, b3⟩, bz⟩ := (NS.call HB.out hSw).facts
    clear hSw F'
    go_simp
    try with_reducible rfl
  simp only [Act.put, List.setIfInBounds_toArray, List.set_cons_zero, List.set_cons_succ]
  refine wpAnyN_take (i := 2) (oi := ?o2) (v := ?v2) ?hi2 (by kernel_rfl) (by kernel_rfl) (by kernel_rfl) (by kernel_rfl) (by decide) (by kernel_rfl) ?hQ2 ?hy2 (Below.drew (Below.refl _ _)) ?more2
  case hi2 => rw [List.getElem?_toArray]; exact rfl
  case hQ2 => exact fun _ _ _ h => h
  case hy2 =>
    refine Or.inl ⟨by rfl, ?_⟩
    intro w' hSw
    have F' := FieldB.call HF.out hSw
    obtain ⟨m0, m1, m2, m3⟩ := F'.1.facts
    obtain ⟨g0, g1, g2, g3⟩ := F'.gap
    rw [← HG.out] at g0 g1 g2 g3
    obtain ⟨⟨a0, a1, a2, a3⟩, az⟩ := (NS.call HA.out hSw).facts
    obtain ⟨⟨b0, b1, b2, b3⟩, bz⟩ := (NS.call HB.out hSw).facts
    clear hSw F'
    go_simp
    try with_reducible rfl
  simp only [Act.put, List.setIfInBounds_toArray, List.set_cons_zero, List.set_cons_succ]
  refine wpAnyN_one (i := 3) (o := ?o3) (by kernel_rfl) ?hi3 ?hw3 ?st3
  case hi3 => rw [List.getElem?_toArray]; exact rfl
  case hw3 => exact rfl
  intro K hK
  have HK3 : Hid _ := hK
  clear hK
  go_simp
  refine (KT.out _).mono ?_
  rintro e w1 ⟨rfl, hq1⟩
  have HB1 : Hid (Below Y.heap.size Y w1) := below_call0 (Below.drew (Below.refl _ _)) hq1
  clear hq1
  go_wp2_with fail
  refine HK3.out _ _ ⟨fun _ => HB1.out, ?_⟩
  clear HK3 K
  try simp only [Act.put, List.setIfInBounds_toArray, List.set_cons_zero, List.set_cons_succ]
  refine wpAnyN_one (i := 4) (o := ?o4) (by kernel_rfl) ?hi4 ?hw4 ?st4
  case hi4 => rw [List.getElem?_toArray]; exact rfl
  case hw4 => exact rfl
  intro K hK
  have HK4 : Hid _ := hK
  clear hK
  go_simp
  refine (KR.out _).mono ?_
  rintro e w2 ⟨rfl, hq2⟩
  have HB2 : Hid (Below Y.heap.size Y w2) := below_call0 HB1.out hq2
  obtain ⟨⟨p0, p1, p2, p3⟩, ⟨f0, f1, f2, f3⟩, pz⟩ := (Pend.call HP.out HB2.out).facts
  clear hq2
  go_wp2_with fail
  refine HK4.out _ _ ⟨fun _ => HB2.out, ?_⟩
  clear HK4 K
  try simp only [Act.put, List.setIfInBounds_toArray, List.set_cons_zero, List.set_cons_succ]
  refine wpAnyN_one (i := 5) (o := ?o5) (by kernel_rfl) ?hi5 ?hw5 ?st5
  case hi5 => rw [List.getElem?_toArray]; exact rfl
  case hw5 => exact rfl
  intro K hK
  have HK5 : Hid _ := hK
  clear hK
  go_simp
  refine HK5.out _ _ ⟨fun h => absurd h (by decide +kernel), ?_⟩
  clear HK5 K
  try simp only [Act.put, List.setIfInBounds_toArray, List.set_cons_zero, List.set_cons_succ]
  refine wpAnyN_done (by kernel_rfl) ?_ _
  go_wp2_with fail
  have W2 : Below w.heap.size w w2 := below_call0 HW.out HB2.out
  refine bodyPost_ret (v := .agg #[.int .u64 (limb (r) 0 : Nat), .int .u64 (limb (r) 1 : Nat), .int .u64 (limb (r) 2 : Nat), .int .u64 (limb (r) 3 : Nat)]) ?_ rfl ⟨rfl, ?_⟩
  · simp [results, Tryd.results20, go_sem, p0, p1, p2, p3]
  · ((repeat' (first | with_reducible exact Below.refl _ _ | with_reducible refine Below.setCell ?_ ?_ _ | with_reducible refine below_alloc0 ?_ _ | with_reducible refine below_drewN ?_ _ | with_reducible refine Below.drew ?_ | refine below_call0 ?_ (by assumption))) <;> (first | omega | (simp; done) | (simp; omega)))
theorem mul2_any (m a b : Nat) (hF : FM m) (hS : FS m) (ha : a < R256) (hb : b < R256) (w : World) : Calls Tryd.prog 20 #[.agg #[.int .u64 (limb (m) 0 : Nat), .int .u64 (limb (m) 1 : Nat), .int .u64 (limb (m) 2 : Nat), .int .u64 (limb (m) 3 : Nat), .int .u64 (limb (R256 - (m)) 0 : Nat), .int .u64 (limb (R256 - (m)) 1 : Nat), .int .u64 (limb (R256 - (m)) 2 : Nat), .int .u64 (limb (R256 - (m)) 3 : Nat)], .agg #[.int .u64 (limb (a) 0 : Nat), .int .u64 (limb (a) 1 : Nat), .int .u64 (limb (a) 2 : Nat), .int .u64 (limb (a) 3 : Nat)], .agg #[.int .u64 (limb (b) 0 : Nat), .int .u64 (limb (b) 1 : Nat), .int .u64 (limb (b) 2 : Nat), .int .u64 (limb (b) 3 : Nat)]] w fun e w' => e = .returned (.agg #[.int .u64 (limb (a * b % m) 0 : Nat), .int .u64 (limb (a * b % m) 1 : Nat), .int .u64 (limb (a * b % m) 2 : Nat), .int .u64 (limb (a * b % m) 3 : Nat)]) ∧ Below w.heap.size w w' :=
  mul2_go m a b (a * b) _ (times2_any a b ha hb) (reduce2_any m (a * b) hF hS (Nat.mul_lt_mul_of_lt_of_le ha (Nat.le_of_lt hb) (by decide))) w
end Go.Proofs.YtbpgiijdcagckaaDoor
