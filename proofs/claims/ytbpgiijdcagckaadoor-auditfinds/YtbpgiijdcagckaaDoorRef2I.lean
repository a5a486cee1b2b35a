/- The reference's Zero, Inv and Invert. -/
import Derived.Test.YtbpgiijdcagckaaDoorRef2P
import Derived.Test.YtbpgiijdcagckaaDoorFdB
import Derived.Test.YtbpgiijdcagckaaDoorLbA
namespace Go.Proofs.YtbpgiijdcagckaaDoor
open Go.RowKit

set_option maxHeartbeats 1000000 in
theorem zero2_a (x0 x1 x2 x3 : Int) (h0 : (x0 == 0) = false) (w : World) :
    Calls Tryd.prog 21 #[.agg #[.int .u64 x0, .int .u64 x1, .int .u64 x2, .int .u64 x3]] w fun e w' => e = .returned (.bool false) ∧ Below w.heap.size w w' := by
  go_enter Tryd.func21, Tryd.ntmps21
  go_wp2_with fail
  go_ret
  exact ⟨rfl, below_alloc0 (Below.refl _ _) _⟩
set_option maxHeartbeats 1000000 in
theorem zero2_b (x0 x1 x2 x3 : Int) (h0 : (x0 == 0) = true) (h1 : (x1 == 0) = false) (w : World) :
    Calls Tryd.prog 21 #[.agg #[.int .u64 x0, .int .u64 x1, .int .u64 x2, .int .u64 x3]] w fun e w' => e = .returned (.bool false) ∧ Below w.heap.size w w' := by
  go_enter Tryd.func21, Tryd.ntmps21
  go_wp2_with fail
  go_ret
  exact ⟨rfl, below_alloc0 (Below.refl _ _) _⟩
set_option maxHeartbeats 1000000 in
theorem zero2_c (x0 x1 x2 x3 : Int) (h0 : (x0 == 0) = true) (h1 : (x1 == 0) = true) (h2 : (x2 == 0) = false) (w : World) :
    Calls Tryd.prog 21 #[.agg #[.int .u64 x0, .int .u64 x1, .int .u64 x2, .int .u64 x3]] w fun e w' => e = .returned (.bool false) ∧ Below w.heap.size w w' := by
  go_enter Tryd.func21, Tryd.ntmps21
  go_wp2_with fail
  go_ret
  exact ⟨rfl, below_alloc0 (Below.refl _ _) _⟩
set_option maxHeartbeats 1000000 in
theorem zero2_d (x0 x1 x2 x3 : Int) (h0 : (x0 == 0) = true) (h1 : (x1 == 0) = true) (h2 : (x2 == 0) = true) (h3 : (x3 == 0) = false) (w : World) :
    Calls Tryd.prog 21 #[.agg #[.int .u64 x0, .int .u64 x1, .int .u64 x2, .int .u64 x3]] w fun e w' => e = .returned (.bool false) ∧ Below w.heap.size w w' := by
  go_enter Tryd.func21, Tryd.ntmps21
  go_wp2_with fail
  go_ret
  exact ⟨rfl, below_alloc0 (Below.refl _ _) _⟩
set_option maxHeartbeats 1000000 in
theorem zero2_e (x0 x1 x2 x3 : Int) (h0 : (x0 == 0) = true) (h1 : (x1 == 0) = true) (h2 : (x2 == 0) = true) (h3 : (x3 == 0) = true) (w : World) :
    Calls Tryd.prog 21 #[.agg #[.int .u64 x0, .int .u64 x1, .int .u64 x2, .int .u64 x3]] w fun e w' => e = .returned (.bool true) ∧ Below w.heap.size w w' := by
  go_enter Tryd.func21, Tryd.ntmps21
  go_wp2_with fail
  go_ret
  exact ⟨rfl, below_alloc0 (Below.refl _ _) _⟩
theorem zero2_any (a : Nat) (ha : a < R256) (w : World) : Calls Tryd.prog 21 #[.agg #[.int .u64 (limb (a) 0 : Nat), .int .u64 (limb (a) 1 : Nat), .int .u64 (limb (a) 2 : Nat), .int .u64 (limb (a) 3 : Nat)]] w fun e w' => e = .returned (.bool (decide (a = 0))) ∧ Below w.heap.size w w' := by
  have h := eq4_zero a ha
  unfold eq4 at h
  rw [← h]
  cases h0 : ((limb a 0 : Nat) : Int) == 0
  · exact zero2_a _ _ _ _ h0 w
  · cases h1 : ((limb a 1 : Nat) : Int) == 0
    · exact zero2_b _ _ _ _ h0 h1 w
    · cases h2 : ((limb a 2 : Nat) : Int) == 0
      · exact zero2_c _ _ _ _ h0 h1 h2 w
      · cases h3 : ((limb a 3 : Nat) : Int) == 0
        · exact zero2_d _ _ _ _ h0 h1 h2 h3 w
        · exact zero2_e _ _ _ _ h0 h1 h2 h3 w
set_option maxRecDepth 100000 in
set_option maxHeartbeats 2000000 in
theorem inv2_go (m a s r : Nat) (kt : ∀ w, Calls Tryd.prog 30 #[.agg #[.int .u64 (limb (m) 0 : Nat), .int .u64 (limb (m) 1 : Nat), .int .u64 (limb (m) 2 : Nat), .int .u64 (limb (m) 3 : Nat)], .agg #[.int .u64 2, .int .u64 0, .int .u64 0, .int .u64 0]] w fun e w' => e = .returned (.agg #[.int .u64 (limb (s) 0 : Nat), .int .u64 (limb (s) 1 : Nat), .int .u64 (limb (s) 2 : Nat), .int .u64 (limb (s) 3 : Nat)]) ∧ Below w.heap.size w w') (kr : ∀ w, Calls Tryd.prog 33 #[.agg #[.int .u64 (limb (m) 0 : Nat), .int .u64 (limb (m) 1 : Nat), .int .u64 (limb (m) 2 : Nat), .int .u64 (limb (m) 3 : Nat), .int .u64 (limb (R256 - (m)) 0 : Nat), .int .u64 (limb (R256 - (m)) 1 : Nat), .int .u64 (limb (R256 - (m)) 2 : Nat), .int .u64 (limb (R256 - (m)) 3 : Nat)], .agg #[.int .u64 (limb (a) 0 : Nat), .int .u64 (limb (a) 1 : Nat), .int .u64 (limb (a) 2 : Nat), .int .u64 (limb (a) 3 : Nat)], .agg #[.int .u64 (limb (s) 0 : Nat), .int .u64 (limb (s) 1 : Nat), .int .u64 (limb (s) 2 : Nat), .int .u64 (limb (s) 3 : Nat)]] w fun e w' => e = .returned (.agg #[.int .u64 (limb (r) 0 : Nat), .int .u64 (limb (r) 1 : Nat), .int .u64 (limb (r) 2 : Nat), .int .u64 (limb (r) 3 : Nat)]) ∧ Below w.heap.size w w') (w : World) :
    Calls Tryd.prog 22 #[.agg #[.int .u64 (limb (m) 0 : Nat), .int .u64 (limb (m) 1 : Nat), .int .u64 (limb (m) 2 : Nat), .int .u64 (limb (m) 3 : Nat), .int .u64 (limb (R256 - (m)) 0 : Nat), .int .u64 (limb (R256 - (m)) 1 : Nat), .int .u64 (limb (R256 - (m)) 2 : Nat), .int .u64 (limb (R256 - (m)) 3 : Nat)], .agg #[.int .u64 (limb (a) 0 : Nat), .int .u64 (limb (a) 1 : Nat), .int .u64 (limb (a) 2 : Nat), .int .u64 (limb (a) 3 : Nat)]] w fun e w' => e = .returned (.agg #[.int .u64 (limb (r) 0 : Nat), .int .u64 (limb (r) 1 : Nat), .int .u64 (limb (r) 2 : Nat), .int .u64 (limb (r) 3 : Nat)]) ∧ Below w.heap.size w w' := by
  obtain ⟨G, hG⟩ : ∃ G, G = R256 - m := ⟨_, rfl⟩
  have HFN : Hid (∀ W t, FieldB ((W : World).alloc (.cells #[.int .u64 (limb m 0 : Nat), .int .u64 (limb m 1 : Nat), .int .u64 (limb m 2 : Nat), .int .u64 (limb m 3 : Nat), .int .u64 (limb (R256 - m) 0 : Nat), .int .u64 (limb (R256 - m) 1 : Nat), .int .u64 (limb (R256 - m) 2 : Nat), .int .u64 (limb (R256 - m) 3 : Nat)] t)) W.heap.size m) := fun W t => FieldB.new W m t
  rw [← hG] at kr HFN
  rw [← hG]
  have KT : Hid _ := kt
  have KR : Hid _ := kr
  have HG : Hid (G = R256 - m) := hG
  clear kt kr hG
  go_enter Tryd.func22, Tryd.ntmps22
  go_wp2_with fail
  obtain ⟨Y, hY⟩ : ∃ Y, Y = ((w.alloc (.cells #[.int .u64 (limb m 0 : Nat), .int .u64 (limb m 1 : Nat), .int .u64 (limb m 2 : Nat), .int .u64 (limb m 3 : Nat), .int .u64 (limb G 0 : Nat), .int .u64 (limb G 1 : Nat), .int .u64 (limb G 2 : Nat), .int .u64 (limb G 3 : Nat)] 69)).alloc (.cells #[.int .u64 (limb a 0 : Nat), .int .u64 (limb a 1 : Nat), .int .u64 (limb a 2 : Nat), .int .u64 (limb a 3 : Nat)] 27)).alloc (.cells #[.int .u64 0, .int .u64 0, .int .u64 0, .int .u64 0] 27) := ⟨_, rfl⟩
  rw [← hY]
  have HF : Hid (FieldB Y w.heap.size m) := by rw [hY]; exact FieldB.alloc (FieldB.alloc (HFN.out w _))
  have HA : Hid (NS Y (w.heap.size + 1) a) := by
    rw [hY]
    have t := NS.alloc (o := .cells #[.int .u64 0, .int .u64 0, .int .u64 0, .int .u64 0] 27) (NS.new (w.alloc (.cells #[.int .u64 (limb m 0 : Nat), .int .u64 (limb m 1 : Nat), .int .u64 (limb m 2 : Nat), .int .u64 (limb m 3 : Nat), .int .u64 (limb G 0 : Nat), .int .u64 (limb G 1 : Nat), .int .u64 (limb G 2 : Nat), .int .u64 (limb G 3 : Nat)] 69)) a 27)
    simp only [World.size_alloc] at t
    exact t
  have HP : Hid (Pend Y (w.heap.size + 1 + 1)) := by
    rw [hY]
    have t := Pend.new ((w.alloc (.cells #[.int .u64 (limb m 0 : Nat), .int .u64 (limb m 1 : Nat), .int .u64 (limb m 2 : Nat), .int .u64 (limb m 3 : Nat), .int .u64 (limb G 0 : Nat), .int .u64 (limb G 1 : Nat), .int .u64 (limb G 2 : Nat), .int .u64 (limb G 3 : Nat)] 69)).alloc (.cells #[.int .u64 (limb a 0 : Nat), .int .u64 (limb a 1 : Nat), .int .u64 (limb a 2 : Nat), .int .u64 (limb a 3 : Nat)] 27)) 27
    simp only [World.size_alloc] at t
    exact t
  have HW : Hid (Below w.heap.size w Y) := by rw [hY]; exact below_alloc0 (below_alloc0 (below_alloc0 (Below.refl _ _) _) _) _
  clear hY HFN
  refine wp_region_N (fun w' => Below Y.heap.size Y w') 7 8 rfl (by kernel_rfl) ?_
  refine wpAnyN_take (i := 0) (oi := ?o0) (v := ?v0) ?hi0 (by kernel_rfl) (by kernel_rfl) (by kernel_rfl) (by kernel_rfl) (by decide) (by kernel_rfl) ?hQ0 ?hy0 (Below.drew (Below.refl _ _)) ?more0
  case hi0 => rw [List.getElem?_toArray]; exact rfl
  case hQ0 => exact fun _ _ _ h => h
  case hy0 =>
    refine Or.inl ⟨by rfl, ?_⟩
    intro w' hSw
    have F' := FieldB.call HF.out hSw
    obtain ⟨m0, m1, m2, m3⟩ := F'.1.facts
    obtain ⟨g0, g1, g2, g3⟩ := F'.gap
    rw [← HG.out] at g0 g1 g2 g3
    obtain ⟨⟨a0, a1, a2, a3⟩, az⟩ := (NS.call HA.out hSw).facts
    clear F' hSw
    go_simp
    try with_reducible rfl
  simp only [Act.put, List.setIfInBounds_toArray, List.set_cons_zero, List.set_cons_succ]
  refine wpAnyN_take (i := 1) (oi := ?o1) (v := ?v1) ?hi1 (by kernel_rfl) (by kernel_rfl) (by kernel_rfl) (by kernel_rfl) (by decide) (by kernel_rfl) ?hQ1 ?hy1 (Below.drew (Below.refl _ _)) ?more1
  case hi1 => rw [List.getElem?_toArray]; exact rfl
  case hQ1 => exact fun _ _ _ h => h
  case hy1 =>
    refine Or.inl ⟨by rfl, ?_⟩
    intro w' hSw
    have F' := FieldB.call HF.out hSw
    obtain ⟨m0, m1, m2, m3⟩ := F'.1.facts
    obtain ⟨g0, g1, g2, g3⟩ := F'.gap
    rw [← HG.out] at g0 g1 g2 g3
    obtain ⟨⟨a0, a1, a2, a3⟩, az⟩ := (NS.call HA.out hSw).facts
    clear F' hSw
    go_simp
    try with_reducible rfl
  simp only [Act.put, List.setIfInBounds_toArray, List.set_cons_zero, List.set_cons_succ]
  refine wpAnyN_take (i := 2) (oi := ?o2) (v := ?v2) ?hi2 (by kernel_rfl) (by kernel_rfl) (by kernel_rfl) (by kernel_rfl) (by decide) (by kernel_rfl) ?hQ2 ?hy2 (Below.drew (Below.refl _ _)) ?more2
  case hi2 => rw [List.getElem?_toArray]; exact rfl
  case hQ2 => exact fun _ _ _ h => h
  case hy2 =>
    refine Or.inl ⟨by rfl, ?_⟩
    intro w' hSw
    have F' := FieldB.call HF.out hSw
    obtain ⟨m0, m1, m2, m3⟩ := F'.1.facts
    obtain ⟨g0, g1, g2, g3⟩ := F'.gap
    rw [← HG.out] at g0 g1 g2 g3
    obtain ⟨⟨a0, a1, a2, a3⟩, az⟩ := (NS.call HA.out hSw).facts
    clear F' hSw
    go_simp
    try with_reducible rfl
  simp only [Act.put, List.setIfInBounds_toArray, List.set_cons_zero, List.set_cons_succ]
  refine wpAnyN_take (i := 3) (oi := ?o3) (v := ?v3) ?hi3 (by kernel_rfl) (by kernel_rfl) (by kernel_rfl) (by kernel_rfl) (by decide) (by kernel_rfl) ?hQ3 ?hy3 (Below.drew (Below.refl _ _)) ?more3
  case hi3 => rw [List.getElem?_toArray]; exact rfl
  case hQ3 => exact fun _ _ _ h => h
  case hy3 =>
    refine Or.inl ⟨by rfl, ?_⟩
    intro w' hSw
    have F' := FieldB.call HF.out hSw
    obtain ⟨m0, m1, m2, m3⟩ := F'.1.facts
    obtain ⟨g0, g1, g2, g3⟩ := F'.gap
    rw [← HG.out] at g0 g1 g2 g3
    obtain ⟨⟨a0, a1, a2, a3⟩, az⟩ := (NS.call HA.out hSw).facts
    clear F' hSw
    go_simp
    try with_reducible rfl
  simp only [Act.put, List.setIfInBounds_toArray, List.set_cons_zero, List.set_cons_succ]
  refine wpAnyN_take (i := 4) (oi := ?o4) (v := ?v4) ?hi4 (by kernel_rfl) (by kernel_rfl) (by kernel_rfl) (by kernel_rfl) (by decide) (by kernel_rfl) ?hQ4 ?hy4 (Below.drew (Below.refl _ _)) ?more4
  case hi4 => rw [List.getElem?_toArray]; exact rfl
  case hQ4 => exact fun _ _ _ h => h
  case hy4 =>
    refine Or.inl ⟨by rfl, ?_⟩
    intro w' hSw
    have F' := FieldB.call HF.out hSw
    obtain ⟨m0, m1, m2, m3⟩ := F'.1.facts
    obtain ⟨g0, g1, g2, g3⟩ := F'.gap
    rw [← HG.out] at g0 g1 g2 g3
    obtain ⟨⟨a0, a1, a2, a3⟩, az⟩ := (NS.call HA.out hSw).facts
    clear F' hSw
    go_simp
    try with_reducible rfl
  simp only [Act.put, List.setIfInBounds_toArray, List.set_cons_zero, List.set_cons_succ]
  refine wpAnyN_one (i := 5) (o := ?o5) (by kernel_rfl) ?hi5 ?hw5 ?st5
  case hi5 => rw [List.getElem?_toArray]; exact rfl
  case hw5 => exact rfl
  intro K hK
  have HK5 : Hid _ := hK
  clear hK
  go_simp
  refine (KT.out _).mono ?_
  rintro e w1 ⟨rfl, hq1⟩
  have HB1 : Hid (Below Y.heap.size Y w1) := below_call0 (Below.drew (Below.refl _ _)) hq1
  clear hq1
  go_wp2_with fail
  refine HK5.out _ _ ⟨fun _ => HB1.out, ?_⟩
  clear HK5 K
  try simp only [Act.put, List.setIfInBounds_toArray, List.set_cons_zero, List.set_cons_succ]
  refine wpAnyN_one (i := 6) (o := ?o6) (by kernel_rfl) ?hi6 ?hw6 ?st6
  case hi6 => rw [List.getElem?_toArray]; exact rfl
  case hw6 => exact rfl
  intro K hK
  have HK6 : Hid _ := hK
  clear hK
  go_simp
  refine (KR.out _).mono ?_
  rintro e w2 ⟨rfl, hq2⟩
  have HB2 : Hid (Below Y.heap.size Y w2) := below_call0 HB1.out hq2
  obtain ⟨⟨p0, p1, p2, p3⟩, ⟨f0, f1, f2, f3⟩, pz⟩ := (Pend.call HP.out HB2.out).facts
  clear hq2
  go_wp2_with fail
  refine HK6.out _ _ ⟨fun _ => HB2.out, ?_⟩
  clear HK6 K
  try simp only [Act.put, List.setIfInBounds_toArray, List.set_cons_zero, List.set_cons_succ]
  refine wpAnyN_one (i := 7) (o := ?o7) (by kernel_rfl) ?hi7 ?hw7 ?st7
  case hi7 => rw [List.getElem?_toArray]; exact rfl
  case hw7 => exact rfl
  intro K hK
  have HK7 : Hid _ := hK
  clear hK
  go_simp
  refine HK7.out _ _ ⟨fun h => absurd h (by decide +kernel), ?_⟩
  clear HK7 K
  try simp only [Act.put, List.setIfInBounds_toArray, List.set_cons_zero, List.set_cons_succ]
  refine wpAnyN_done (by kernel_rfl) ?_ _
  go_wp2_with fail
  have W2 : Below w.heap.size w w2 := below_call0 HW.out HB2.out
  refine bodyPost_ret (v := .agg #[.int .u64 (limb (r) 0 : Nat), .int .u64 (limb (r) 1 : Nat), .int .u64 (limb (r) 2 : Nat), .int .u64 (limb (r) 3 : Nat)]) ?_ rfl ⟨rfl, ?_⟩
  · simp [results, Tryd.results22, go_sem, p0, p1, p2, p3]
  · ((repeat' (first | with_reducible exact Below.refl _ _ | with_reducible refine Below.setCell ?_ ?_ _ | with_reducible refine below_alloc0 ?_ _ | with_reducible refine below_drewN ?_ _ | with_reducible refine Below.drew ?_ | refine below_call0 ?_ (by assumption))) <;> (first | omega | (simp; done) | (simp; omega)))
theorem inv2_any (m a : Nat) (hF : FM m) (hS : FS m) (ha : a < R256) (w : World) : Calls Tryd.prog 22 #[.agg #[.int .u64 (limb (m) 0 : Nat), .int .u64 (limb (m) 1 : Nat), .int .u64 (limb (m) 2 : Nat), .int .u64 (limb (m) 3 : Nat), .int .u64 (limb (R256 - (m)) 0 : Nat), .int .u64 (limb (R256 - (m)) 1 : Nat), .int .u64 (limb (R256 - (m)) 2 : Nat), .int .u64 (limb (R256 - (m)) 3 : Nat)], .agg #[.int .u64 (limb (a) 0 : Nat), .int .u64 (limb (a) 1 : Nat), .int .u64 (limb (a) 2 : Nat), .int .u64 (limb (a) 3 : Nat)]] w fun e w' => e = .returned (.agg #[.int .u64 (limb (a ^ (m - 2) % m) 0 : Nat), .int .u64 (limb (a ^ (m - 2) % m) 1 : Nat), .int .u64 (limb (a ^ (m - 2) % m) 2 : Nat), .int .u64 (limb (a ^ (m - 2) % m) 3 : Nat)]) ∧ Below w.heap.size w w' := by
  have mR := hF.2.1
  have m1 := hF.pos
  refine inv2_go m a (m - 2) _ (fun w => ?_) (pow2_any m a (m - 2) hF hS ha (by omega)) w
  have k := minus2_any m 2 mR (by decide) w
  rw [show subN m 2 = m - 2 from by unfold subN; rw [show m + R256 - 2 = (m - 2) + R256 from by omega, Nat.add_mod_right, Nat.mod_eq_of_lt (by omega)], limb_two.1, limb_two.2.1, limb_two.2.2.1, limb_two.2.2.2] at k
  exact k
end Go.Proofs.YtbpgiijdcagckaaDoor
