/- The walk of the statement LimbMonts. -/
import Derived.Test.YtaigpginoakdfaaMontX
import Derived.Test.YtaigpginoakdfaaProdR
import Derived.Test.YtaigpginoakdfaaOkR
import Derived.Test.YtaigpginoakdfaaTurns
import Derived.Test.YtaigpginoakdfaaWalk
import Derived.Test.YtaigpginoakdfaaHeldR
namespace Go.Proofs.Ytaigpginoakdfaa
open Go.RowKit
attribute [local go_sem] run_eq4

set_option maxHeartbeats 1000000 in
theorem monts_bad (m a b : Nat) (k : ∀ w, Calls Try.prog 26 #[.agg #[.int .u64 (limb (m) 0 : Nat), .int .u64 (limb (m) 1 : Nat), .int .u64 (limb (m) 2 : Nat), .int .u64 (limb (m) 3 : Nat)]] w fun e w' => e = .returned (.tuple #[.pointer none, .int .i64 1]) ∧ Below w.heap.size w w') (ko : ∀ w, Calls Try.prog 27 #[.agg #[.int .u64 (limb (m) 0 : Nat), .int .u64 (limb (m) 1 : Nat), .int .u64 (limb (m) 2 : Nat), .int .u64 (limb (m) 3 : Nat)]] w fun e w' => e = .returned (.bool false) ∧ Below w.heap.size w w') (w : World) :
    Calls Try.prog 7 #[.agg #[.int .u64 (limb (m) 0 : Nat), .int .u64 (limb (m) 1 : Nat), .int .u64 (limb (m) 2 : Nat), .int .u64 (limb (m) 3 : Nat)], .agg #[.int .u64 (limb (a) 0 : Nat), .int .u64 (limb (a) 1 : Nat), .int .u64 (limb (a) 2 : Nat), .int .u64 (limb (a) 3 : Nat)], .agg #[.int .u64 (limb (b) 0 : Nat), .int .u64 (limb (b) 1 : Nat), .int .u64 (limb (b) 2 : Nat), .int .u64 (limb (b) 3 : Nat)]] w fun e w' => e = .returned (.bool true) ∧ Below w.heap.size w w' := by
  have K0 : Hid _ := k
  have KO : Hid _ := ko
  clear k ko
  go_enter Try.func7, Try.ntmps7
  go_wp2_with fail
  refine (K0.out _).mono ?_
  rintro e w1 ⟨rfl, hb1⟩
  have HM1 : Hid (NS w1 (w.heap.size) m) := by
    have t := NS.call (W := _) (NS.alloc (NS.alloc (NS.new _ _ _))) hb1
    try simp only [World.size_alloc] at t
    exact t
  have HA1 : Hid (NS w1 (w.heap.size + 1) a) := by
    have t := NS.call (W := _) (NS.alloc (NS.new _ _ _)) hb1
    try simp only [World.size_alloc] at t
    exact t
  have HB1 : Hid (NS w1 (w.heap.size + 1 + 1) b) := by
    have t := NS.call (W := _) (NS.new _ _ _) hb1
    try simp only [World.size_alloc] at t
    exact t
  have HW1 : Hid (Below w.heap.size w w1) := below_call0 (below_alloc0 (below_alloc0 (below_alloc0 (Below.refl _ _) _) _) _) hb1
  clear hb1
  obtain ⟨⟨mm0, mm1, mm2, mm3⟩, mmz⟩ := HM1.out.facts
  go_wp2_with fail
  refine (KO.out _).mono ?_
  rintro e w2 ⟨rfl, hb2⟩
  have HM2 : Hid (NS w2 (w.heap.size) m) := NS.call HM1.out hb2
  have HA2 : Hid (NS w2 (w.heap.size + 1) a) := NS.call HA1.out hb2
  have HB2 : Hid (NS w2 (w.heap.size + 1 + 1) b) := NS.call HB1.out hb2
  have HW2 : Hid (Below w.heap.size w w2) := below_call0 HW1.out hb2
  clear hb2
  clear HM1 HA1 HB1 HW1
  clear mm0 mm1 mm2 mm3 mmz
  go_wp2_with fail
  refine (turns_any _).mono ?_
  rintro e w3 ⟨rfl, hb3⟩
  have HW3 : Hid (Below w.heap.size w w3) := below_call0 HW2.out hb3
  clear hb3
  clear HM2 HA2 HB2 HW2
  go_wp2_with fail
  go_ret
  exact ⟨rfl, HW3.out⟩

set_option maxRecDepth 100000 in
set_option maxHeartbeats 8000000 in
theorem monts_in (m a b p t r sq u : Nat) (ca cb : Int)
    (k0 : ∀ w, Calls Try.prog 26 #[.agg #[.int .u64 (limb (m) 0 : Nat), .int .u64 (limb (m) 1 : Nat), .int .u64 (limb (m) 2 : Nat), .int .u64 (limb (m) 3 : Nat)]] w fun e w' => ∃ g c, e = .returned (.tuple #[.pointer (some ⟨g, 0, none⟩), .int .i64 0]) ∧ MontB w' g m sq c ∧ (c * limb m 0 + 1) % M64 = 0 ∧ Below w.heap.size w w')
    (kO : ∀ w, Calls Try.prog 27 #[.agg #[.int .u64 (limb (m) 0 : Nat), .int .u64 (limb (m) 1 : Nat), .int .u64 (limb (m) 2 : Nat), .int .u64 (limb (m) 3 : Nat)]] w fun e w' => e = .returned (.bool true) ∧ Below w.heap.size w w')
    (k1 : ∀ g c, (c * limb m 0 + 1) % M64 = 0 → ∀ w, MontB w g m sq c → Calls Try.prog 28 #[.pointer (some ⟨g, 0, none⟩), .agg #[.int .u64 (limb (a) 0 : Nat), .int .u64 (limb (a) 1 : Nat), .int .u64 (limb (a) 2 : Nat), .int .u64 (limb (a) 3 : Nat)], .agg #[.int .u64 (limb (b) 0 : Nat), .int .u64 (limb (b) 1 : Nat), .int .u64 (limb (b) 2 : Nat), .int .u64 (limb (b) 3 : Nat)]] w fun e w' => e = .returned (.tuple #[.agg #[.int .u64 (limb (p) 0 : Nat), .int .u64 (limb (p) 1 : Nat), .int .u64 (limb (p) 2 : Nat), .int .u64 (limb (p) 3 : Nat)], .int .i64 0]) ∧ Below w.heap.size w w')
    (k2 : ∀ g c, (c * limb m 0 + 1) % M64 = 0 → ∀ w, MontB w g m sq c → Calls Try.prog 29 #[.pointer (some ⟨g, 0, none⟩), .agg #[.int .u64 (limb (a) 0 : Nat), .int .u64 (limb (a) 1 : Nat), .int .u64 (limb (a) 2 : Nat), .int .u64 (limb (a) 3 : Nat)]] w fun e w' => e = .returned (.tuple #[.agg #[.int .u64 (limb (t) 0 : Nat), .int .u64 (limb (t) 1 : Nat), .int .u64 (limb (t) 2 : Nat), .int .u64 (limb (t) 3 : Nat)], .int .i64 0]) ∧ Below w.heap.size w w')
    (k3 : ∀ g c, (c * limb m 0 + 1) % M64 = 0 → ∀ w, MontB w g m sq c → Calls Try.prog 30 #[.pointer (some ⟨g, 0, none⟩), .agg #[.int .u64 (limb (a) 0 : Nat), .int .u64 (limb (a) 1 : Nat), .int .u64 (limb (a) 2 : Nat), .int .u64 (limb (a) 3 : Nat)]] w fun e w' => e = .returned (.tuple #[.agg #[.int .u64 (limb (r) 0 : Nat), .int .u64 (limb (r) 1 : Nat), .int .u64 (limb (r) 2 : Nat), .int .u64 (limb (r) 3 : Nat)], .int .i64 0]) ∧ Below w.heap.size w w')
    (kD : ∀ (x : Nat) (w : World), Calls Try.prog 12 #[.agg #[.int .u64 (limb (x) 0 : Nat), .int .u64 (limb (x) 1 : Nat), .int .u64 (limb (x) 2 : Nat), .int .u64 (limb (x) 3 : Nat)]] w fun e w' => ∃ v, e = .returned v ∧ Dg w' v (digL x 16) ∧ Below w.heap.size w w')
    (kA : ∀ v u w, Dg w v (digL a 16) → Dg w u (digL m 16) → Calls Try.prog 21 #[v, u] w fun e w' => e = .returned (.int .i64 (ca)) ∧ Below w.heap.size w w')
    (kB : ∀ v u w, Dg w v (digL b 16) → Dg w u (digL m 16) → Calls Try.prog 21 #[v, u] w fun e w' => e = .returned (.int .i64 (cb)) ∧ Below w.heap.size w w')
    (kT : ∀ w, Calls Try.prog 31 #[.agg #[.int .u64 (limb (a) 0 : Nat), .int .u64 (limb (a) 1 : Nat), .int .u64 (limb (a) 2 : Nat), .int .u64 (limb (a) 3 : Nat)], .agg #[.int .u64 (limb (m) 0 : Nat), .int .u64 (limb (m) 1 : Nat), .int .u64 (limb (m) 2 : Nat), .int .u64 (limb (m) 3 : Nat)]] w fun e w' => e = .returned (.agg #[.int .u64 (limb (t) 0 : Nat), .int .u64 (limb (t) 1 : Nat), .int .u64 (limb (t) 2 : Nat), .int .u64 (limb (t) 3 : Nat)]) ∧ Below w.heap.size w w')
    (kF : ∀ w, Calls Try.prog 31 #[.agg #[.int .u64 (limb (r) 0 : Nat), .int .u64 (limb (r) 1 : Nat), .int .u64 (limb (r) 2 : Nat), .int .u64 (limb (r) 3 : Nat)], .agg #[.int .u64 (limb (m) 0 : Nat), .int .u64 (limb (m) 1 : Nat), .int .u64 (limb (m) 2 : Nat), .int .u64 (limb (m) 3 : Nat)]] w fun e w' => e = .returned (.agg #[.int .u64 (limb (a) 0 : Nat), .int .u64 (limb (a) 1 : Nat), .int .u64 (limb (a) 2 : Nat), .int .u64 (limb (a) 3 : Nat)]) ∧ Below w.heap.size w w')
    (kR : ∀ v u w, Dg w v (digL r 16) → Dg w u (digL m 16) → Calls Try.prog 21 #[v, u] w fun e w' => e = .returned (.int .i64 (-1)) ∧ Below w.heap.size w w')
    (kU : ∀ w, Calls Try.prog 31 #[.agg #[.int .u64 (limb (p) 0 : Nat), .int .u64 (limb (p) 1 : Nat), .int .u64 (limb (p) 2 : Nat), .int .u64 (limb (p) 3 : Nat)], .agg #[.int .u64 (limb (m) 0 : Nat), .int .u64 (limb (m) 1 : Nat), .int .u64 (limb (m) 2 : Nat), .int .u64 (limb (m) 3 : Nat)]] w fun e w' => e = .returned (.agg #[.int .u64 (limb (u) 0 : Nat), .int .u64 (limb (u) 1 : Nat), .int .u64 (limb (u) 2 : Nat), .int .u64 (limb (u) 3 : Nat)]) ∧ Below w.heap.size w w')
    (kP : ∀ w, Calls Try.prog 32 #[.agg #[.int .u64 (limb (a) 0 : Nat), .int .u64 (limb (a) 1 : Nat), .int .u64 (limb (a) 2 : Nat), .int .u64 (limb (a) 3 : Nat)], .agg #[.int .u64 (limb (b) 0 : Nat), .int .u64 (limb (b) 1 : Nat), .int .u64 (limb (b) 2 : Nat), .int .u64 (limb (b) 3 : Nat)], .agg #[.int .u64 (limb (m) 0 : Nat), .int .u64 (limb (m) 1 : Nat), .int .u64 (limb (m) 2 : Nat), .int .u64 (limb (m) 3 : Nat)]] w fun e w' => e = .returned (.agg #[.int .u64 (limb (u) 0 : Nat), .int .u64 (limb (u) 1 : Nat), .int .u64 (limb (u) 2 : Nat), .int .u64 (limb (u) 3 : Nat)]) ∧ Below w.heap.size w w')
    (kC : ∀ v u w, Dg w v (digL p 16) → Dg w u (digL m 16) → Calls Try.prog 21 #[v, u] w fun e w' => e = .returned (.int .i64 (-1)) ∧ Below w.heap.size w w')
    (ha : decide (ca < 0) = true) (hb : decide (cb < 0) = true)
    (w : World) : Calls Try.prog 7 #[.agg #[.int .u64 (limb (m) 0 : Nat), .int .u64 (limb (m) 1 : Nat), .int .u64 (limb (m) 2 : Nat), .int .u64 (limb (m) 3 : Nat)], .agg #[.int .u64 (limb (a) 0 : Nat), .int .u64 (limb (a) 1 : Nat), .int .u64 (limb (a) 2 : Nat), .int .u64 (limb (a) 3 : Nat)], .agg #[.int .u64 (limb (b) 0 : Nat), .int .u64 (limb (b) 1 : Nat), .int .u64 (limb (b) 2 : Nat), .int .u64 (limb (b) 3 : Nat)]] w fun e w' => e = .returned (.bool true) ∧ Below w.heap.size w w' := by
  have K0 : Hid _ := k0
  have KO : Hid _ := kO
  have K1 : Hid _ := k1
  have K2 : Hid _ := k2
  have K3 : Hid _ := k3
  have KD : Hid _ := kD
  have KA : Hid _ := kA
  have KB : Hid _ := kB
  have KT : Hid _ := kT
  have KF : Hid _ := kF
  have KR : Hid _ := kR
  have KU : Hid _ := kU
  have KP : Hid _ := kP
  have KC : Hid _ := kC
  have et : eq4 (limb t 0 : Nat) (limb t 1 : Nat) (limb t 2 : Nat) (limb t 3 : Nat) (limb t 0 : Nat) (limb t 1 : Nat) (limb t 2 : Nat) (limb t 3 : Nat) = true := by simp [eq4]
  have ea : eq4 (limb a 0 : Nat) (limb a 1 : Nat) (limb a 2 : Nat) (limb a 3 : Nat) (limb a 0 : Nat) (limb a 1 : Nat) (limb a 2 : Nat) (limb a 3 : Nat) = true := by simp [eq4]
  have eu : eq4 (limb u 0 : Nat) (limb u 1 : Nat) (limb u 2 : Nat) (limb u 3 : Nat) (limb u 0 : Nat) (limb u 1 : Nat) (limb u 2 : Nat) (limb u 3 : Nat) = true := by simp [eq4]
  clear k0 kO k1 k2 k3 kD kA kB kT kF kR kU kP kC
  go_enter Try.func7, Try.ntmps7
  go_wp2_with fail
  refine (K0.out _).mono ?_
  rintro e w1 ⟨g, c, rfl, hX1, hc, hb1⟩
  have HM1 : Hid (NS w1 (w.heap.size) m) := by
    have t := NS.call (W := _) (NS.alloc (NS.alloc (NS.new _ _ _))) hb1
    try simp only [World.size_alloc] at t
    exact t
  have HA1 : Hid (NS w1 (w.heap.size + 1) a) := by
    have t := NS.call (W := _) (NS.alloc (NS.new _ _ _)) hb1
    try simp only [World.size_alloc] at t
    exact t
  have HB1 : Hid (NS w1 (w.heap.size + 1 + 1) b) := by
    have t := NS.call (W := _) (NS.new _ _ _) hb1
    try simp only [World.size_alloc] at t
    exact t
  have HW1 : Hid (Below w.heap.size w w1) := below_call0 (below_alloc0 (below_alloc0 (below_alloc0 (Below.refl _ _) _) _) _) hb1
  have HX1 : Hid (MontB w1 g m sq c) := hX1
  have HC : Hid _ := hc
  clear hc
  clear hb1
  clear hX1
  obtain ⟨⟨mm0, mm1, mm2, mm3⟩, mmz⟩ := HM1.out.facts
  go_wp2_with fail
  refine (KO.out _).mono ?_
  rintro e w2 ⟨rfl, hb2⟩
  have HM2 : Hid (NS w2 (w.heap.size) m) := NS.call HM1.out hb2
  have HA2 : Hid (NS w2 (w.heap.size + 1) a) := NS.call HA1.out hb2
  have HB2 : Hid (NS w2 (w.heap.size + 1 + 1) b) := NS.call HB1.out hb2
  have HW2 : Hid (Below w.heap.size w w2) := below_call0 HW1.out hb2
  have HX2 : Hid (MontB w2 g m sq c) := MontB.call HX1.out hb2
  clear hb2
  clear HM1 HA1 HB1 HW1 HX1
  clear mm0 mm1 mm2 mm3 mmz
  obtain ⟨⟨aa0, aa1, aa2, aa3⟩, aaz⟩ := HA2.out.facts
  obtain ⟨⟨bb0, bb1, bb2, bb3⟩, bbz⟩ := HB2.out.facts
  go_wp2_with fail
  refine (K1.out g c HC.out _ HX2.out).mono ?_
  rintro e w3 ⟨rfl, hb3⟩
  have HM3 : Hid (NS w3 (w.heap.size) m) := NS.call HM2.out hb3
  have HA3 : Hid (NS w3 (w.heap.size + 1) a) := NS.call HA2.out hb3
  have HB3 : Hid (NS w3 (w.heap.size + 1 + 1) b) := NS.call HB2.out hb3
  have HW3 : Hid (Below w.heap.size w w3) := below_call0 HW2.out hb3
  have HX3 : Hid (MontB w3 g m sq c) := MontB.call HX2.out hb3
  clear hb3
  clear HM2 HA2 HB2 HW2 HX2
  clear aa0 aa1 aa2 aa3 aaz bb0 bb1 bb2 bb3 bbz
  obtain ⟨⟨aa0, aa1, aa2, aa3⟩, aaz⟩ := HA3.out.facts
  go_wp2_with fail
  refine (K2.out g c HC.out _ (MontB.alloc HX3.out)).mono ?_
  rintro e w4 ⟨rfl, hb4⟩
  have HM4 : Hid (NS w4 (w.heap.size) m) := NS.acall HM3.out hb4
  have HA4 : Hid (NS w4 (w.heap.size + 1) a) := NS.acall HA3.out hb4
  have HB4 : Hid (NS w4 (w.heap.size + 1 + 1) b) := NS.acall HB3.out hb4
  have HC4 : Hid (NS w4 w3.heap.size p) := NS.ncall hb4
  have HW4 : Hid (Below w.heap.size w w4) := below_acall HW3.out hb4
  have HX4 : Hid (MontB w4 g m sq c) := MontB.call (MontB.alloc HX3.out) hb4
  clear hb4
  clear HM3 HA3 HB3 HW3 HX3
  clear aa0 aa1 aa2 aa3 aaz
  obtain ⟨⟨aa0, aa1, aa2, aa3⟩, aaz⟩ := HA4.out.facts
  go_wp2_with fail
  refine (K3.out g c HC.out _ (MontB.alloc HX4.out)).mono ?_
  rintro e w5 ⟨rfl, hb5⟩
  have HM5 : Hid (NS w5 (w.heap.size) m) := NS.acall HM4.out hb5
  have HA5 : Hid (NS w5 (w.heap.size + 1) a) := NS.acall HA4.out hb5
  have HB5 : Hid (NS w5 (w.heap.size + 1 + 1) b) := NS.acall HB4.out hb5
  have HC5 : Hid (NS w5 (w3.heap.size) p) := NS.acall HC4.out hb5
  have HT5 : Hid (NS w5 w4.heap.size t) := NS.ncall hb5
  have HW5 : Hid (Below w.heap.size w w5) := below_acall HW4.out hb5
  clear hb5
  clear HM4 HA4 HB4 HC4 HW4 HX4
  clear aa0 aa1 aa2 aa3 aaz
  obtain ⟨⟨mm0, mm1, mm2, mm3⟩, mmz⟩ := HM5.out.facts
  go_wp2_with fail
  refine (KD.out m _).mono ?_
  rintro e w6 ⟨vd, rfl, hD6, hb6⟩
  have HM6 : Hid (NS w6 (w.heap.size) m) := NS.acall HM5.out hb6
  have HA6 : Hid (NS w6 (w.heap.size + 1) a) := NS.acall HA5.out hb6
  have HB6 : Hid (NS w6 (w.heap.size + 1 + 1) b) := NS.acall HB5.out hb6
  have HC6 : Hid (NS w6 (w3.heap.size) p) := NS.acall HC5.out hb6
  have HT6 : Hid (NS w6 (w4.heap.size) t) := NS.acall HT5.out hb6
  have HR6 : Hid (NS w6 w5.heap.size r) := NS.ncall hb6
  have HW6 : Hid (Below w.heap.size w w6) := below_acall HW5.out hb6
  have HD6 : Hid (Dg w6 vd (digL m 16)) := hD6
  clear hb6
  clear hD6
  clear HM5 HA5 HB5 HC5 HT5 HW5
  clear mm0 mm1 mm2 mm3 mmz
  obtain ⟨⟨aa0, aa1, aa2, aa3⟩, aaz⟩ := HA6.out.facts
  go_wp2_with fail
  refine (KD.out a _).mono ?_
  rintro e w7 ⟨va, rfl, hV7, hb7⟩
  have HM7 : Hid (NS w7 (w.heap.size) m) := NS.call HM6.out hb7
  have HA7 : Hid (NS w7 (w.heap.size + 1) a) := NS.call HA6.out hb7
  have HB7 : Hid (NS w7 (w.heap.size + 1 + 1) b) := NS.call HB6.out hb7
  have HC7 : Hid (NS w7 (w3.heap.size) p) := NS.call HC6.out hb7
  have HT7 : Hid (NS w7 (w4.heap.size) t) := NS.call HT6.out hb7
  have HR7 : Hid (NS w7 (w5.heap.size) r) := NS.call HR6.out hb7
  have HW7 : Hid (Below w.heap.size w w7) := below_call0 HW6.out hb7
  have HD7 : Hid (Dg w7 vd (digL m 16)) := Dg.call HD6.out hb7
  have HV7 : Hid (Dg w7 va (digL a 16)) := hV7
  clear hb7
  clear hV7
  clear HM6 HA6 HB6 HC6 HT6 HR6 HW6 HD6
  clear aa0 aa1 aa2 aa3 aaz
  go_wp2_with fail
  refine (KA.out va vd _ HV7.out HD7.out).mono ?_
  rintro e w8 ⟨rfl, hb8⟩
  have HM8 : Hid (NS w8 (w.heap.size) m) := NS.call HM7.out hb8
  have HA8 : Hid (NS w8 (w.heap.size + 1) a) := NS.call HA7.out hb8
  have HB8 : Hid (NS w8 (w.heap.size + 1 + 1) b) := NS.call HB7.out hb8
  have HC8 : Hid (NS w8 (w3.heap.size) p) := NS.call HC7.out hb8
  have HT8 : Hid (NS w8 (w4.heap.size) t) := NS.call HT7.out hb8
  have HR8 : Hid (NS w8 (w5.heap.size) r) := NS.call HR7.out hb8
  have HW8 : Hid (Below w.heap.size w w8) := below_call0 HW7.out hb8
  have HD8 : Hid (Dg w8 vd (digL m 16)) := Dg.call HD7.out hb8
  clear hb8
  clear HM7 HA7 HB7 HC7 HT7 HR7 HW7 HD7 HV7
  obtain ⟨⟨bb0, bb1, bb2, bb3⟩, bbz⟩ := HB8.out.facts
  go_wp2_with fail
  refine (KD.out b _).mono ?_
  rintro e w9 ⟨vb, rfl, hV9, hb9⟩
  have HM9 : Hid (NS w9 (w.heap.size) m) := NS.call HM8.out hb9
  have HA9 : Hid (NS w9 (w.heap.size + 1) a) := NS.call HA8.out hb9
  have HB9 : Hid (NS w9 (w.heap.size + 1 + 1) b) := NS.call HB8.out hb9
  have HC9 : Hid (NS w9 (w3.heap.size) p) := NS.call HC8.out hb9
  have HT9 : Hid (NS w9 (w4.heap.size) t) := NS.call HT8.out hb9
  have HR9 : Hid (NS w9 (w5.heap.size) r) := NS.call HR8.out hb9
  have HW9 : Hid (Below w.heap.size w w9) := below_call0 HW8.out hb9
  have HD9 : Hid (Dg w9 vd (digL m 16)) := Dg.call HD8.out hb9
  have HV9 : Hid (Dg w9 vb (digL b 16)) := hV9
  clear hb9
  clear hV9
  clear HM8 HA8 HB8 HC8 HT8 HR8 HW8 HD8
  clear bb0 bb1 bb2 bb3 bbz
  go_wp2_with fail
  refine (KB.out vb vd _ HV9.out HD9.out).mono ?_
  rintro e w10 ⟨rfl, hb10⟩
  have HM10 : Hid (NS w10 (w.heap.size) m) := NS.call HM9.out hb10
  have HA10 : Hid (NS w10 (w.heap.size + 1) a) := NS.call HA9.out hb10
  have HB10 : Hid (NS w10 (w.heap.size + 1 + 1) b) := NS.call HB9.out hb10
  have HC10 : Hid (NS w10 (w3.heap.size) p) := NS.call HC9.out hb10
  have HT10 : Hid (NS w10 (w4.heap.size) t) := NS.call HT9.out hb10
  have HR10 : Hid (NS w10 (w5.heap.size) r) := NS.call HR9.out hb10
  have HW10 : Hid (Below w.heap.size w w10) := below_call0 HW9.out hb10
  have HD10 : Hid (Dg w10 vd (digL m 16)) := Dg.call HD9.out hb10
  clear hb10
  clear HM9 HA9 HB9 HC9 HT9 HR9 HW9 HD9 HV9
  go_wp2_with fail
  refine wp_region_H (fun w' => Below w10.heap.size w10 w') 19 rfl (by kernel_rfl) ?_
  refine wpAnyH_take (i := 0) (oi := ?o0_10) (v := ?v0_10) ?hi0_10 (by kernel_rfl) (by kernel_rfl) (by kernel_rfl) ?hQ0_10 ?hy0_10 (Below.drew (Below.refl _ _)) ?more0_10
  case hi0_10 => rw [List.getElem?_toArray]; exact rfl
  case hQ0_10 => exact fun _ _ _ h => h
  case hy0_10 =>
    refine Or.inl ⟨by rfl, ?_⟩
    intro w' hSw
    obtain ⟨⟨tt0, tt1, tt2, tt3⟩, ttz⟩ := (NS.call HT10.out hSw).facts
    clear hSw
    go_simp
    try with_reducible rfl
  simp only [Act.put, List.setIfInBounds_toArray, List.set_cons_zero, List.set_cons_succ]
  refine wpAnyH_take (i := 1) (oi := ?o1_10) (v := ?v1_10) ?hi1_10 (by kernel_rfl) (by kernel_rfl) (by kernel_rfl) ?hQ1_10 ?hy1_10 (Below.drew (Below.refl _ _)) ?more1_10
  case hi1_10 => rw [List.getElem?_toArray]; exact rfl
  case hQ1_10 => exact fun _ _ _ h => h
  case hy1_10 =>
    refine Or.inl ⟨by rfl, ?_⟩
    intro w' hSw
    obtain ⟨⟨aa0, aa1, aa2, aa3⟩, aaz⟩ := (NS.call HA10.out hSw).facts
    clear hSw
    go_simp
    try with_reducible rfl
  simp only [Act.put, List.setIfInBounds_toArray, List.set_cons_zero, List.set_cons_succ]
  refine wpAnyH_take (i := 2) (oi := ?o2_10) (v := ?v2_10) ?hi2_10 (by kernel_rfl) (by kernel_rfl) (by kernel_rfl) ?hQ2_10 ?hy2_10 (Below.drew (Below.refl _ _)) ?more2_10
  case hi2_10 => rw [List.getElem?_toArray]; exact rfl
  case hQ2_10 => exact fun _ _ _ h => h
  case hy2_10 =>
    refine Or.inl ⟨by rfl, ?_⟩
    intro w' hSw
    obtain ⟨⟨mm0, mm1, mm2, mm3⟩, mmz⟩ := (NS.call HM10.out hSw).facts
    clear hSw
    go_simp
    try with_reducible rfl
  simp only [Act.put, List.setIfInBounds_toArray, List.set_cons_zero, List.set_cons_succ]
  refine wpAnyH_one (i := 3) (o := ?o3_10) (by kernel_rfl) ?hi3_10 ?hw3_10 ?st3_10
  case hi3_10 => rw [List.getElem?_toArray]; exact rfl
  case hw3_10 => exact rfl
  intro K hK
  have HK3 : Hid _ := hK
  clear hK
  go_simp
  refine (KT.out _).mono ?_
  rintro e wr10_1 ⟨rfl, hq⟩
  have HB10_1 : Hid (Below w10.heap.size w10 wr10_1) := below_call0 (Below.drew (Below.refl _ _)) hq
  clear hq
  go_wp2_with fail
  refine HK3.out _ _ ⟨HB10_1.out, ?_⟩
  clear HK3 K
  try simp only [Act.put, List.setIfInBounds_toArray, List.set_cons_zero, List.set_cons_succ]
  refine wpAnyH_take (i := 4) (oi := ?o4_10) (v := ?v4_10) ?hi4_10 (by kernel_rfl) (by kernel_rfl) (by kernel_rfl) ?hQ4_10 ?hy4_10 HB10_1.out ?more4_10
  case hi4_10 => rw [List.getElem?_toArray]; exact rfl
  case hQ4_10 => exact fun _ _ _ h => h
  case hy4_10 =>
    refine Or.inl ⟨by rfl, ?_⟩
    intro w' hSw
    clear hSw
    go_simp
    try with_reducible rfl
  simp only [Act.put, List.setIfInBounds_toArray, List.set_cons_zero, List.set_cons_succ]
  refine wpAnyH_take (i := 5) (oi := ?o5_10) (v := ?v5_10) ?hi5_10 (by kernel_rfl) (by kernel_rfl) (by kernel_rfl) ?hQ5_10 ?hy5_10 HB10_1.out ?more5_10
  case hi5_10 => rw [List.getElem?_toArray]; exact rfl
  case hQ5_10 => exact fun _ _ _ h => h
  case hy5_10 =>
    refine Or.inl ⟨by rfl, ?_⟩
    intro w' hSw
    clear hSw
    go_simp
    try with_reducible rfl
  simp only [Act.put, List.setIfInBounds_toArray, List.set_cons_zero, List.set_cons_succ]
  refine wpAnyH_take (i := 6) (oi := ?o6_10) (v := ?v6_10) ?hi6_10 (by kernel_rfl) (by kernel_rfl) (by kernel_rfl) ?hQ6_10 ?hy6_10 HB10_1.out ?more6_10
  case hi6_10 => rw [List.getElem?_toArray]; exact rfl
  case hQ6_10 => exact fun _ _ _ h => h
  case hy6_10 =>
    refine Or.inl ⟨by rfl, ?_⟩
    intro w' hSw
    obtain ⟨⟨rr0, rr1, rr2, rr3⟩, rrz⟩ := (NS.call HR10.out hSw).facts
    clear hSw
    go_simp
    try with_reducible rfl
  simp only [Act.put, List.setIfInBounds_toArray, List.set_cons_zero, List.set_cons_succ]
  refine wpAnyH_take (i := 7) (oi := ?o7_10) (v := ?v7_10) ?hi7_10 (by kernel_rfl) (by kernel_rfl) (by kernel_rfl) ?hQ7_10 ?hy7_10 HB10_1.out ?more7_10
  case hi7_10 => rw [List.getElem?_toArray]; exact rfl
  case hQ7_10 => exact fun _ _ _ h => h
  case hy7_10 =>
    refine Or.inl ⟨by rfl, ?_⟩
    intro w' hSw
    obtain ⟨⟨mm0, mm1, mm2, mm3⟩, mmz⟩ := (NS.call HM10.out hSw).facts
    clear hSw
    go_simp
    try with_reducible rfl
  simp only [Act.put, List.setIfInBounds_toArray, List.set_cons_zero, List.set_cons_succ]
  refine wpAnyH_take (i := 9) (oi := ?o9_10) (v := ?v9_10) ?hi9_10 (by kernel_rfl) (by kernel_rfl) (by kernel_rfl) ?hQ9_10 ?hy9_10 HB10_1.out ?more9_10
  case hi9_10 => rw [List.getElem?_toArray]; exact rfl
  case hQ9_10 => exact fun _ _ _ h => h
  case hy9_10 =>
    refine Or.inl ⟨by rfl, ?_⟩
    intro w' hSw
    obtain ⟨⟨aa0, aa1, aa2, aa3⟩, aaz⟩ := (NS.call HA10.out hSw).facts
    clear hSw
    go_simp
    try with_reducible rfl
  simp only [Act.put, List.setIfInBounds_toArray, List.set_cons_zero, List.set_cons_succ]
  refine wpAnyH_one (i := 8) (o := ?o8_10) (by kernel_rfl) ?hi8_10 ?hw8_10 ?st8_10
  case hi8_10 => rw [List.getElem?_toArray]; exact rfl
  case hw8_10 => exact rfl
  intro K hK
  have HK8 : Hid _ := hK
  clear hK
  go_simp
  refine (KF.out _).mono ?_
  rintro e wr10_2 ⟨rfl, hq⟩
  have HB10_2 : Hid (Below w10.heap.size w10 wr10_2) := below_call0 HB10_1.out hq
  clear hq
  go_wp2_with fail
  refine HK8.out _ _ ⟨HB10_2.out, ?_⟩
  clear HK8 K
  try simp only [Act.put, List.setIfInBounds_toArray, List.set_cons_zero, List.set_cons_succ]
  refine wpAnyH_take (i := 10) (oi := ?o10_10) (v := ?v10_10) ?hi10_10 (by kernel_rfl) (by kernel_rfl) (by kernel_rfl) ?hQ10_10 ?hy10_10 HB10_2.out ?more10_10
  case hi10_10 => rw [List.getElem?_toArray]; exact rfl
  case hQ10_10 => exact fun _ _ _ h => h
  case hy10_10 =>
    refine Or.inl ⟨by rfl, ?_⟩
    intro w' hSw
    clear hSw
    go_simp
    try with_reducible rfl
  simp only [Act.put, List.setIfInBounds_toArray, List.set_cons_zero, List.set_cons_succ]
  refine wpAnyH_take (i := 11) (oi := ?o11_10) (v := ?v11_10) ?hi11_10 (by kernel_rfl) (by kernel_rfl) (by kernel_rfl) ?hQ11_10 ?hy11_10 HB10_2.out ?more11_10
  case hi11_10 => rw [List.getElem?_toArray]; exact rfl
  case hQ11_10 => exact fun _ _ _ h => h
  case hy11_10 =>
    refine Or.inl ⟨by rfl, ?_⟩
    intro w' hSw
    clear hSw
    go_simp
    try with_reducible rfl
  simp only [Act.put, List.setIfInBounds_toArray, List.set_cons_zero, List.set_cons_succ]
  refine wpAnyH_take (i := 12) (oi := ?o12_10) (v := ?v12_10) ?hi12_10 (by kernel_rfl) (by kernel_rfl) (by kernel_rfl) ?hQ12_10 ?hy12_10 HB10_2.out ?more12_10
  case hi12_10 => rw [List.getElem?_toArray]; exact rfl
  case hQ12_10 => exact fun _ _ _ h => h
  case hy12_10 =>
    refine Or.inl ⟨by rfl, ?_⟩
    intro w' hSw
    clear hSw
    go_simp
    try with_reducible rfl
  simp only [Act.put, List.setIfInBounds_toArray, List.set_cons_zero, List.set_cons_succ]
  refine wpAnyH_take (i := 13) (oi := ?o13_10) (v := ?v13_10) ?hi13_10 (by kernel_rfl) (by kernel_rfl) (by kernel_rfl) ?hQ13_10 ?hy13_10 HB10_2.out ?more13_10
  case hi13_10 => rw [List.getElem?_toArray]; exact rfl
  case hQ13_10 => exact fun _ _ _ h => h
  case hy13_10 =>
    refine Or.inl ⟨by rfl, ?_⟩
    intro w' hSw
    obtain ⟨⟨rr0, rr1, rr2, rr3⟩, rrz⟩ := (NS.call HR10.out hSw).facts
    clear hSw
    go_simp
    try with_reducible rfl
  simp only [Act.put, List.setIfInBounds_toArray, List.set_cons_zero, List.set_cons_succ]
  refine wpAnyH_take (i := 15) (oi := ?o15_10) (v := ?v15_10) ?hi15_10 (by kernel_rfl) (by kernel_rfl) (by kernel_rfl) ?hQ15_10 ?hy15_10 HB10_2.out ?more15_10
  case hi15_10 => rw [List.getElem?_toArray]; exact rfl
  case hQ15_10 => exact fun _ _ _ h => h
  case hy15_10 =>
    refine Or.inl ⟨by rfl, ?_⟩
    intro w' hSw
    clear hSw
    go_simp
    try with_reducible rfl
  simp only [Act.put, List.setIfInBounds_toArray, List.set_cons_zero, List.set_cons_succ]
  refine wpAnyH_one (i := 14) (o := ?o14_10) (by kernel_rfl) ?hi14_10 ?hw14_10 ?st14_10
  case hi14_10 => rw [List.getElem?_toArray]; exact rfl
  case hw14_10 => exact rfl
  intro K hK
  have HK14 : Hid _ := hK
  clear hK
  go_simp
  refine (KD.out r _).mono ?_
  rintro e wr10_3 ⟨vr, rfl, hvr, hq⟩
  have HB10_3 : Hid (Below w10.heap.size w10 wr10_3) := below_call0 HB10_2.out hq
  have Hvr : Hid (Dg _ vr (digL r 16)) := hvr
  clear hvr
  clear hq
  go_wp2_with fail
  refine HK14.out _ _ ⟨HB10_3.out, ?_⟩
  clear HK14 K
  try simp only [Act.put, List.setIfInBounds_toArray, List.set_cons_zero, List.set_cons_succ]
  refine wpAnyH_one (i := 16) (o := ?o16_10) (by kernel_rfl) ?hi16_10 ?hw16_10 ?st16_10
  case hi16_10 => rw [List.getElem?_toArray]; exact rfl
  case hw16_10 => exact rfl
  intro K hK
  have HK16 : Hid _ := hK
  clear hK
  go_simp
  refine (KR.out vr vd _ Hvr.out (Dg.call HD10.out HB10_3.out)).mono ?_
  rintro e w11 ⟨rfl, hq⟩
  have HB10_4 : Hid (Below w10.heap.size w10 w11) := below_call0 HB10_3.out hq
  clear hq
  go_wp2_with fail
  refine HK16.out _ _ ⟨HB10_4.out, ?_⟩
  clear HK16 K
  try simp only [Act.put, List.setIfInBounds_toArray, List.set_cons_zero, List.set_cons_succ]
  refine wpAnyH_take (i := 17) (oi := ?o17_10) (v := ?v17_10) ?hi17_10 (by kernel_rfl) (by kernel_rfl) (by kernel_rfl) ?hQ17_10 ?hy17_10 HB10_4.out ?more17_10
  case hi17_10 => rw [List.getElem?_toArray]; exact rfl
  case hQ17_10 => exact fun _ _ _ h => h
  case hy17_10 =>
    refine Or.inl ⟨by rfl, ?_⟩
    intro w' hSw
    clear hSw
    go_simp
    try with_reducible rfl
  simp only [Act.put, List.setIfInBounds_toArray, List.set_cons_zero, List.set_cons_succ]
  refine wpAnyH_take (i := 18) (oi := ?o18_10) (v := ?v18_10) ?hi18_10 (by kernel_rfl) (by kernel_rfl) (by kernel_rfl) ?hQ18_10 ?hy18_10 HB10_4.out ?more18_10
  case hi18_10 => rw [List.getElem?_toArray]; exact rfl
  case hQ18_10 => exact fun _ _ _ h => h
  case hy18_10 =>
    refine Or.inl ⟨by rfl, ?_⟩
    intro w' hSw
    clear hSw
    go_simp
    try with_reducible rfl
  simp only [Act.put, List.setIfInBounds_toArray, List.set_cons_zero, List.set_cons_succ]
  refine wpAnyH_done (by kernel_rfl) ?_ _
  have HM11 : Hid (NS w11 (w.heap.size) m) := NS.call HM10.out HB10_4.out
  have HA11 : Hid (NS w11 (w.heap.size + 1) a) := NS.call HA10.out HB10_4.out
  have HB11 : Hid (NS w11 (w.heap.size + 1 + 1) b) := NS.call HB10.out HB10_4.out
  have HC11 : Hid (NS w11 (w3.heap.size) p) := NS.call HC10.out HB10_4.out
  have HT11 : Hid (NS w11 (w4.heap.size) t) := NS.call HT10.out HB10_4.out
  have HR11 : Hid (NS w11 (w5.heap.size) r) := NS.call HR10.out HB10_4.out
  have HD11 : Hid (Dg w11 vd (digL m 16)) := Dg.call HD10.out HB10_4.out
  have HW11 : Hid (Below w.heap.size w w11) := below_call0 HW10.out HB10_4.out
  clear HM10 HA10 HB10 HC10 HT10 HR10 HW10 HD10 HB10_1 HB10_2 HB10_3 HB10_4
  clear Hvr
  go_wp2_with fail
  refine wp_region_H (fun w' => Below w11.heap.size w11 w') 19 rfl (by kernel_rfl) ?_
  refine wpAnyH_take (i := 0) (oi := ?o0_11) (v := ?v0_11) ?hi0_11 (by kernel_rfl) (by kernel_rfl) (by kernel_rfl) ?hQ0_11 ?hy0_11 (Below.drew (Below.refl _ _)) ?more0_11
  case hi0_11 => rw [List.getElem?_toArray]; exact rfl
  case hQ0_11 => exact fun _ _ _ h => h
  case hy0_11 =>
    refine Or.inl ⟨by rfl, ?_⟩
    intro w' hSw
    obtain ⟨⟨cc0, cc1, cc2, cc3⟩, ccz⟩ := (NS.call HC11.out hSw).facts
    clear hSw
    go_simp
    try with_reducible rfl
  simp only [Act.put, List.setIfInBounds_toArray, List.set_cons_zero, List.set_cons_succ]
  refine wpAnyH_take (i := 1) (oi := ?o1_11) (v := ?v1_11) ?hi1_11 (by kernel_rfl) (by kernel_rfl) (by kernel_rfl) ?hQ1_11 ?hy1_11 (Below.drew (Below.refl _ _)) ?more1_11
  case hi1_11 => rw [List.getElem?_toArray]; exact rfl
  case hQ1_11 => exact fun _ _ _ h => h
  case hy1_11 =>
    refine Or.inl ⟨by rfl, ?_⟩
    intro w' hSw
    obtain ⟨⟨mm0, mm1, mm2, mm3⟩, mmz⟩ := (NS.call HM11.out hSw).facts
    clear hSw
    go_simp
    try with_reducible rfl
  simp only [Act.put, List.setIfInBounds_toArray, List.set_cons_zero, List.set_cons_succ]
  refine wpAnyH_take (i := 3) (oi := ?o3_11) (v := ?v3_11) ?hi3_11 (by kernel_rfl) (by kernel_rfl) (by kernel_rfl) ?hQ3_11 ?hy3_11 (Below.drew (Below.refl _ _)) ?more3_11
  case hi3_11 => rw [List.getElem?_toArray]; exact rfl
  case hQ3_11 => exact fun _ _ _ h => h
  case hy3_11 =>
    refine Or.inl ⟨by rfl, ?_⟩
    intro w' hSw
    obtain ⟨⟨aa0, aa1, aa2, aa3⟩, aaz⟩ := (NS.call HA11.out hSw).facts
    clear hSw
    go_simp
    try with_reducible rfl
  simp only [Act.put, List.setIfInBounds_toArray, List.set_cons_zero, List.set_cons_succ]
  refine wpAnyH_take (i := 4) (oi := ?o4_11) (v := ?v4_11) ?hi4_11 (by kernel_rfl) (by kernel_rfl) (by kernel_rfl) ?hQ4_11 ?hy4_11 (Below.drew (Below.refl _ _)) ?more4_11
  case hi4_11 => rw [List.getElem?_toArray]; exact rfl
  case hQ4_11 => exact fun _ _ _ h => h
  case hy4_11 =>
    refine Or.inl ⟨by rfl, ?_⟩
    intro w' hSw
    obtain ⟨⟨bb0, bb1, bb2, bb3⟩, bbz⟩ := (NS.call HB11.out hSw).facts
    clear hSw
    go_simp
    try with_reducible rfl
  simp only [Act.put, List.setIfInBounds_toArray, List.set_cons_zero, List.set_cons_succ]
  refine wpAnyH_take (i := 5) (oi := ?o5_11) (v := ?v5_11) ?hi5_11 (by kernel_rfl) (by kernel_rfl) (by kernel_rfl) ?hQ5_11 ?hy5_11 (Below.drew (Below.refl _ _)) ?more5_11
  case hi5_11 => rw [List.getElem?_toArray]; exact rfl
  case hQ5_11 => exact fun _ _ _ h => h
  case hy5_11 =>
    refine Or.inl ⟨by rfl, ?_⟩
    intro w' hSw
    obtain ⟨⟨mm0, mm1, mm2, mm3⟩, mmz⟩ := (NS.call HM11.out hSw).facts
    clear hSw
    go_simp
    try with_reducible rfl
  simp only [Act.put, List.setIfInBounds_toArray, List.set_cons_zero, List.set_cons_succ]
  refine wpAnyH_one (i := 2) (o := ?o2_11) (by kernel_rfl) ?hi2_11 ?hw2_11 ?st2_11
  case hi2_11 => rw [List.getElem?_toArray]; exact rfl
  case hw2_11 => exact rfl
  intro K hK
  have HK2 : Hid _ := hK
  clear hK
  go_simp
  refine (KU.out _).mono ?_
  rintro e wr11_1 ⟨rfl, hq⟩
  have HB11_1 : Hid (Below w11.heap.size w11 wr11_1) := below_call0 (Below.drew (Below.refl _ _)) hq
  clear hq
  go_wp2_with fail
  refine HK2.out _ _ ⟨HB11_1.out, ?_⟩
  clear HK2 K
  try simp only [Act.put, List.setIfInBounds_toArray, List.set_cons_zero, List.set_cons_succ]
  refine wpAnyH_one (i := 6) (o := ?o6_11) (by kernel_rfl) ?hi6_11 ?hw6_11 ?st6_11
  case hi6_11 => rw [List.getElem?_toArray]; exact rfl
  case hw6_11 => exact rfl
  intro K hK
  have HK6 : Hid _ := hK
  clear hK
  go_simp
  refine (KP.out _).mono ?_
  rintro e wr11_2 ⟨rfl, hq⟩
  have HB11_2 : Hid (Below w11.heap.size w11 wr11_2) := below_call0 HB11_1.out hq
  clear hq
  go_wp2_with fail
  refine HK6.out _ _ ⟨HB11_2.out, ?_⟩
  clear HK6 K
  try simp only [Act.put, List.setIfInBounds_toArray, List.set_cons_zero, List.set_cons_succ]
  refine wpAnyH_take (i := 7) (oi := ?o7_11) (v := ?v7_11) ?hi7_11 (by kernel_rfl) (by kernel_rfl) (by kernel_rfl) ?hQ7_11 ?hy7_11 HB11_2.out ?more7_11
  case hi7_11 => rw [List.getElem?_toArray]; exact rfl
  case hQ7_11 => exact fun _ _ _ h => h
  case hy7_11 =>
    refine Or.inl ⟨by rfl, ?_⟩
    intro w' hSw
    clear hSw
    go_simp
    try with_reducible rfl
  simp only [Act.put, List.setIfInBounds_toArray, List.set_cons_zero, List.set_cons_succ]
  refine wpAnyH_take (i := 8) (oi := ?o8_11) (v := ?v8_11) ?hi8_11 (by kernel_rfl) (by kernel_rfl) (by kernel_rfl) ?hQ8_11 ?hy8_11 HB11_2.out ?more8_11
  case hi8_11 => rw [List.getElem?_toArray]; exact rfl
  case hQ8_11 => exact fun _ _ _ h => h
  case hy8_11 =>
    refine Or.inl ⟨by rfl, ?_⟩
    intro w' hSw
    clear hSw
    go_simp
    try with_reducible rfl
  simp only [Act.put, List.setIfInBounds_toArray, List.set_cons_zero, List.set_cons_succ]
  refine wpAnyH_take (i := 9) (oi := ?o9_11) (v := ?v9_11) ?hi9_11 (by kernel_rfl) (by kernel_rfl) (by kernel_rfl) ?hQ9_11 ?hy9_11 HB11_2.out ?more9_11
  case hi9_11 => rw [List.getElem?_toArray]; exact rfl
  case hQ9_11 => exact fun _ _ _ h => h
  case hy9_11 =>
    refine Or.inl ⟨by rfl, ?_⟩
    intro w' hSw
    obtain ⟨⟨cc0, cc1, cc2, cc3⟩, ccz⟩ := (NS.call HC11.out hSw).facts
    clear hSw
    go_simp
    try with_reducible rfl
  simp only [Act.put, List.setIfInBounds_toArray, List.set_cons_zero, List.set_cons_succ]
  refine wpAnyH_take (i := 11) (oi := ?o11_11) (v := ?v11_11) ?hi11_11 (by kernel_rfl) (by kernel_rfl) (by kernel_rfl) ?hQ11_11 ?hy11_11 HB11_2.out ?more11_11
  case hi11_11 => rw [List.getElem?_toArray]; exact rfl
  case hQ11_11 => exact fun _ _ _ h => h
  case hy11_11 =>
    refine Or.inl ⟨by rfl, ?_⟩
    intro w' hSw
    clear hSw
    go_simp
    try with_reducible rfl
  simp only [Act.put, List.setIfInBounds_toArray, List.set_cons_zero, List.set_cons_succ]
  refine wpAnyH_one (i := 10) (o := ?o10_11) (by kernel_rfl) ?hi10_11 ?hw10_11 ?st10_11
  case hi10_11 => rw [List.getElem?_toArray]; exact rfl
  case hw10_11 => exact rfl
  intro K hK
  have HK10 : Hid _ := hK
  clear hK
  go_simp
  refine (KD.out p _).mono ?_
  rintro e wr11_3 ⟨vp, rfl, hvp, hq⟩
  have HB11_3 : Hid (Below w11.heap.size w11 wr11_3) := below_call0 HB11_2.out hq
  have Hvp : Hid (Dg _ vp (digL p 16)) := hvp
  clear hvp
  clear hq
  go_wp2_with fail
  refine HK10.out _ _ ⟨HB11_3.out, ?_⟩
  clear HK10 K
  try simp only [Act.put, List.setIfInBounds_toArray, List.set_cons_zero, List.set_cons_succ]
  refine wpAnyH_one (i := 12) (o := ?o12_11) (by kernel_rfl) ?hi12_11 ?hw12_11 ?st12_11
  case hi12_11 => rw [List.getElem?_toArray]; exact rfl
  case hw12_11 => exact rfl
  intro K hK
  have HK12 : Hid _ := hK
  clear hK
  go_simp
  refine (KC.out vp vd _ Hvp.out (Dg.call HD11.out HB11_3.out)).mono ?_
  rintro e wr11_4 ⟨rfl, hq⟩
  have HB11_4 : Hid (Below w11.heap.size w11 wr11_4) := below_call0 HB11_3.out hq
  clear hq
  go_wp2_with fail
  refine HK12.out _ _ ⟨HB11_4.out, ?_⟩
  clear HK12 K
  try simp only [Act.put, List.setIfInBounds_toArray, List.set_cons_zero, List.set_cons_succ]
  refine wpAnyH_take (i := 13) (oi := ?o13_11) (v := ?v13_11) ?hi13_11 (by kernel_rfl) (by kernel_rfl) (by kernel_rfl) ?hQ13_11 ?hy13_11 HB11_4.out ?more13_11
  case hi13_11 => rw [List.getElem?_toArray]; exact rfl
  case hQ13_11 => exact fun _ _ _ h => h
  case hy13_11 =>
    refine Or.inl ⟨by rfl, ?_⟩
    intro w' hSw
    clear hSw
    go_simp
    try with_reducible rfl
  simp only [Act.put, List.setIfInBounds_toArray, List.set_cons_zero, List.set_cons_succ]
  refine wpAnyH_take (i := 14) (oi := ?o14_11) (v := ?v14_11) ?hi14_11 (by kernel_rfl) (by kernel_rfl) (by kernel_rfl) ?hQ14_11 ?hy14_11 HB11_4.out ?more14_11
  case hi14_11 => rw [List.getElem?_toArray]; exact rfl
  case hQ14_11 => exact fun _ _ _ h => h
  case hy14_11 =>
    refine Or.inl ⟨by rfl, ?_⟩
    intro w' hSw
    clear hSw
    go_simp
    try with_reducible rfl
  simp only [Act.put, List.setIfInBounds_toArray, List.set_cons_zero, List.set_cons_succ]
  refine wpAnyH_take (i := 15) (oi := ?o15_11) (v := ?v15_11) ?hi15_11 (by kernel_rfl) (by kernel_rfl) (by kernel_rfl) ?hQ15_11 ?hy15_11 HB11_4.out ?more15_11
  case hi15_11 => rw [List.getElem?_toArray]; exact rfl
  case hQ15_11 => exact fun _ _ _ h => h
  case hy15_11 =>
    refine Or.inl ⟨by rfl, ?_⟩
    intro w' hSw
    clear hSw
    go_simp
    try with_reducible rfl
  simp only [Act.put, List.setIfInBounds_toArray, List.set_cons_zero, List.set_cons_succ]
  refine wpAnyH_one (i := 16) (o := ?o16_11) (by kernel_rfl) ?hi16_11 ?hw16_11 ?st16_11
  case hi16_11 => rw [List.getElem?_toArray]; exact rfl
  case hw16_11 => exact rfl
  intro K hK
  have HK16 : Hid _ := hK
  clear hK
  go_simp
  refine (turns_any _).mono ?_
  rintro e w12 ⟨rfl, hq⟩
  have HB11_5 : Hid (Below w11.heap.size w11 w12) := below_call0 HB11_4.out hq
  clear hq
  go_wp2_with fail
  refine HK16.out _ _ ⟨HB11_5.out, ?_⟩
  clear HK16 K
  try simp only [Act.put, List.setIfInBounds_toArray, List.set_cons_zero, List.set_cons_succ]
  refine wpAnyH_take (i := 17) (oi := ?o17_11) (v := ?v17_11) ?hi17_11 (by kernel_rfl) (by kernel_rfl) (by kernel_rfl) ?hQ17_11 ?hy17_11 HB11_5.out ?more17_11
  case hi17_11 => rw [List.getElem?_toArray]; exact rfl
  case hQ17_11 => exact fun _ _ _ h => h
  case hy17_11 =>
    refine Or.inl ⟨by rfl, ?_⟩
    intro w' hSw
    clear hSw
    go_simp
    try with_reducible rfl
  simp only [Act.put, List.setIfInBounds_toArray, List.set_cons_zero, List.set_cons_succ]
  refine wpAnyH_take (i := 18) (oi := ?o18_11) (v := ?v18_11) ?hi18_11 (by kernel_rfl) (by kernel_rfl) (by kernel_rfl) ?hQ18_11 ?hy18_11 HB11_5.out ?more18_11
  case hi18_11 => rw [List.getElem?_toArray]; exact rfl
  case hQ18_11 => exact fun _ _ _ h => h
  case hy18_11 =>
    refine Or.inl ⟨by rfl, ?_⟩
    intro w' hSw
    clear hSw
    go_simp
    try with_reducible rfl
  simp only [Act.put, List.setIfInBounds_toArray, List.set_cons_zero, List.set_cons_succ]
  refine wpAnyH_done (by kernel_rfl) ?_ _
  have HM12 : Hid (NS w12 (w.heap.size) m) := NS.call HM11.out HB11_5.out
  have HA12 : Hid (NS w12 (w.heap.size + 1) a) := NS.call HA11.out HB11_5.out
  have HB12 : Hid (NS w12 (w.heap.size + 1 + 1) b) := NS.call HB11.out HB11_5.out
  have HC12 : Hid (NS w12 (w3.heap.size) p) := NS.call HC11.out HB11_5.out
  have HT12 : Hid (NS w12 (w4.heap.size) t) := NS.call HT11.out HB11_5.out
  have HR12 : Hid (NS w12 (w5.heap.size) r) := NS.call HR11.out HB11_5.out
  have HD12 : Hid (Dg w12 vd (digL m 16)) := Dg.call HD11.out HB11_5.out
  have HW12 : Hid (Below w.heap.size w w12) := below_call0 HW11.out HB11_5.out
  clear HM11 HA11 HB11 HC11 HT11 HR11 HW11 HD11 HB11_1 HB11_2 HB11_3 HB11_4 HB11_5
  clear Hvp
  go_wp2_with fail
  go_ret
  exact ⟨rfl, HW12.out⟩

set_option maxRecDepth 100000 in
set_option maxHeartbeats 8000000 in
theorem monts_nb (m a b p t r sq : Nat) (ca cb : Int)
    (k0 : ∀ w, Calls Try.prog 26 #[.agg #[.int .u64 (limb (m) 0 : Nat), .int .u64 (limb (m) 1 : Nat), .int .u64 (limb (m) 2 : Nat), .int .u64 (limb (m) 3 : Nat)]] w fun e w' => ∃ g c, e = .returned (.tuple #[.pointer (some ⟨g, 0, none⟩), .int .i64 0]) ∧ MontB w' g m sq c ∧ (c * limb m 0 + 1) % M64 = 0 ∧ Below w.heap.size w w')
    (kO : ∀ w, Calls Try.prog 27 #[.agg #[.int .u64 (limb (m) 0 : Nat), .int .u64 (limb (m) 1 : Nat), .int .u64 (limb (m) 2 : Nat), .int .u64 (limb (m) 3 : Nat)]] w fun e w' => e = .returned (.bool true) ∧ Below w.heap.size w w')
    (k1 : ∀ g c, (c * limb m 0 + 1) % M64 = 0 → ∀ w, MontB w g m sq c → Calls Try.prog 28 #[.pointer (some ⟨g, 0, none⟩), .agg #[.int .u64 (limb (a) 0 : Nat), .int .u64 (limb (a) 1 : Nat), .int .u64 (limb (a) 2 : Nat), .int .u64 (limb (a) 3 : Nat)], .agg #[.int .u64 (limb (b) 0 : Nat), .int .u64 (limb (b) 1 : Nat), .int .u64 (limb (b) 2 : Nat), .int .u64 (limb (b) 3 : Nat)]] w fun e w' => e = .returned (.tuple #[.agg #[.int .u64 (limb (p) 0 : Nat), .int .u64 (limb (p) 1 : Nat), .int .u64 (limb (p) 2 : Nat), .int .u64 (limb (p) 3 : Nat)], .int .i64 1]) ∧ Below w.heap.size w w')
    (k2 : ∀ g c, (c * limb m 0 + 1) % M64 = 0 → ∀ w, MontB w g m sq c → Calls Try.prog 29 #[.pointer (some ⟨g, 0, none⟩), .agg #[.int .u64 (limb (a) 0 : Nat), .int .u64 (limb (a) 1 : Nat), .int .u64 (limb (a) 2 : Nat), .int .u64 (limb (a) 3 : Nat)]] w fun e w' => e = .returned (.tuple #[.agg #[.int .u64 (limb (t) 0 : Nat), .int .u64 (limb (t) 1 : Nat), .int .u64 (limb (t) 2 : Nat), .int .u64 (limb (t) 3 : Nat)], .int .i64 0]) ∧ Below w.heap.size w w')
    (k3 : ∀ g c, (c * limb m 0 + 1) % M64 = 0 → ∀ w, MontB w g m sq c → Calls Try.prog 30 #[.pointer (some ⟨g, 0, none⟩), .agg #[.int .u64 (limb (a) 0 : Nat), .int .u64 (limb (a) 1 : Nat), .int .u64 (limb (a) 2 : Nat), .int .u64 (limb (a) 3 : Nat)]] w fun e w' => e = .returned (.tuple #[.agg #[.int .u64 (limb (r) 0 : Nat), .int .u64 (limb (r) 1 : Nat), .int .u64 (limb (r) 2 : Nat), .int .u64 (limb (r) 3 : Nat)], .int .i64 0]) ∧ Below w.heap.size w w')
    (kD : ∀ (x : Nat) (w : World), Calls Try.prog 12 #[.agg #[.int .u64 (limb (x) 0 : Nat), .int .u64 (limb (x) 1 : Nat), .int .u64 (limb (x) 2 : Nat), .int .u64 (limb (x) 3 : Nat)]] w fun e w' => ∃ v, e = .returned v ∧ Dg w' v (digL x 16) ∧ Below w.heap.size w w')
    (kA : ∀ v u w, Dg w v (digL a 16) → Dg w u (digL m 16) → Calls Try.prog 21 #[v, u] w fun e w' => e = .returned (.int .i64 (ca)) ∧ Below w.heap.size w w')
    (kB : ∀ v u w, Dg w v (digL b 16) → Dg w u (digL m 16) → Calls Try.prog 21 #[v, u] w fun e w' => e = .returned (.int .i64 (cb)) ∧ Below w.heap.size w w')
    (kT : ∀ w, Calls Try.prog 31 #[.agg #[.int .u64 (limb (a) 0 : Nat), .int .u64 (limb (a) 1 : Nat), .int .u64 (limb (a) 2 : Nat), .int .u64 (limb (a) 3 : Nat)], .agg #[.int .u64 (limb (m) 0 : Nat), .int .u64 (limb (m) 1 : Nat), .int .u64 (limb (m) 2 : Nat), .int .u64 (limb (m) 3 : Nat)]] w fun e w' => e = .returned (.agg #[.int .u64 (limb (t) 0 : Nat), .int .u64 (limb (t) 1 : Nat), .int .u64 (limb (t) 2 : Nat), .int .u64 (limb (t) 3 : Nat)]) ∧ Below w.heap.size w w')
    (kF : ∀ w, Calls Try.prog 31 #[.agg #[.int .u64 (limb (r) 0 : Nat), .int .u64 (limb (r) 1 : Nat), .int .u64 (limb (r) 2 : Nat), .int .u64 (limb (r) 3 : Nat)], .agg #[.int .u64 (limb (m) 0 : Nat), .int .u64 (limb (m) 1 : Nat), .int .u64 (limb (m) 2 : Nat), .int .u64 (limb (m) 3 : Nat)]] w fun e w' => e = .returned (.agg #[.int .u64 (limb (a) 0 : Nat), .int .u64 (limb (a) 1 : Nat), .int .u64 (limb (a) 2 : Nat), .int .u64 (limb (a) 3 : Nat)]) ∧ Below w.heap.size w w')
    (kR : ∀ v u w, Dg w v (digL r 16) → Dg w u (digL m 16) → Calls Try.prog 21 #[v, u] w fun e w' => e = .returned (.int .i64 (-1)) ∧ Below w.heap.size w w')
    (zp : eq4 (limb p 0 : Nat) (limb p 1 : Nat) (limb p 2 : Nat) (limb p 3 : Nat) 0 0 0 0 = true)
    (ha : decide (ca < 0) = true) (hb : decide (cb < 0) = false)
    (w : World) : Calls Try.prog 7 #[.agg #[.int .u64 (limb (m) 0 : Nat), .int .u64 (limb (m) 1 : Nat), .int .u64 (limb (m) 2 : Nat), .int .u64 (limb (m) 3 : Nat)], .agg #[.int .u64 (limb (a) 0 : Nat), .int .u64 (limb (a) 1 : Nat), .int .u64 (limb (a) 2 : Nat), .int .u64 (limb (a) 3 : Nat)], .agg #[.int .u64 (limb (b) 0 : Nat), .int .u64 (limb (b) 1 : Nat), .int .u64 (limb (b) 2 : Nat), .int .u64 (limb (b) 3 : Nat)]] w fun e w' => e = .returned (.bool true) ∧ Below w.heap.size w w' := by
  have K0 : Hid _ := k0
  have KO : Hid _ := kO
  have K1 : Hid _ := k1
  have K2 : Hid _ := k2
  have K3 : Hid _ := k3
  have KD : Hid _ := kD
  have KA : Hid _ := kA
  have KB : Hid _ := kB
  have KT : Hid _ := kT
  have KF : Hid _ := kF
  have KR : Hid _ := kR
  have et : eq4 (limb t 0 : Nat) (limb t 1 : Nat) (limb t 2 : Nat) (limb t 3 : Nat) (limb t 0 : Nat) (limb t 1 : Nat) (limb t 2 : Nat) (limb t 3 : Nat) = true := by simp [eq4]
  have ea : eq4 (limb a 0 : Nat) (limb a 1 : Nat) (limb a 2 : Nat) (limb a 3 : Nat) (limb a 0 : Nat) (limb a 1 : Nat) (limb a 2 : Nat) (limb a 3 : Nat) = true := by simp [eq4]
  clear k0 kO k1 k2 k3 kD kA kB kT kF kR
  go_enter Try.func7, Try.ntmps7
  go_wp2_with fail
  refine (K0.out _).mono ?_
  rintro e w1 ⟨g, c, rfl, hX1, hc, hb1⟩
  have HM1 : Hid (NS w1 (w.heap.size) m) := by
    have t := NS.call (W := _) (NS.alloc (NS.alloc (NS.new _ _ _))) hb1
    try simp only [World.size_alloc] at t
    exact t
  have HA1 : Hid (NS w1 (w.heap.size + 1) a) := by
    have t := NS.call (W := _) (NS.alloc (NS.new _ _ _)) hb1
    try simp only [World.size_alloc] at t
    exact t
  have HB1 : Hid (NS w1 (w.heap.size + 1 + 1) b) := by
    have t := NS.call (W := _) (NS.new _ _ _) hb1
    try simp only [World.size_alloc] at t
    exact t
  have HW1 : Hid (Below w.heap.size w w1) := below_call0 (below_alloc0 (below_alloc0 (below_alloc0 (Below.refl _ _) _) _) _) hb1
  have HX1 : Hid (MontB w1 g m sq c) := hX1
  have HC : Hid _ := hc
  clear hc
  clear hb1
  clear hX1
  obtain ⟨⟨mm0, mm1, mm2, mm3⟩, mmz⟩ := HM1.out.facts
  go_wp2_with fail
  refine (KO.out _).mono ?_
  rintro e w2 ⟨rfl, hb2⟩
  have HM2 : Hid (NS w2 (w.heap.size) m) := NS.call HM1.out hb2
  have HA2 : Hid (NS w2 (w.heap.size + 1) a) := NS.call HA1.out hb2
  have HB2 : Hid (NS w2 (w.heap.size + 1 + 1) b) := NS.call HB1.out hb2
  have HW2 : Hid (Below w.heap.size w w2) := below_call0 HW1.out hb2
  have HX2 : Hid (MontB w2 g m sq c) := MontB.call HX1.out hb2
  clear hb2
  clear HM1 HA1 HB1 HW1 HX1
  clear mm0 mm1 mm2 mm3 mmz
  obtain ⟨⟨aa0, aa1, aa2, aa3⟩, aaz⟩ := HA2.out.facts
  obtain ⟨⟨bb0, bb1, bb2, bb3⟩, bbz⟩ := HB2.out.facts
  go_wp2_with fail
  refine (K1.out g c HC.out _ HX2.out).mono ?_
  rintro e w3 ⟨rfl, hb3⟩
  have HM3 : Hid (NS w3 (w.heap.size) m) := NS.call HM2.out hb3
  have HA3 : Hid (NS w3 (w.heap.size + 1) a) := NS.call HA2.out hb3
  have HB3 : Hid (NS w3 (w.heap.size + 1 + 1) b) := NS.call HB2.out hb3
  have HW3 : Hid (Below w.heap.size w w3) := below_call0 HW2.out hb3
  have HX3 : Hid (MontB w3 g m sq c) := MontB.call HX2.out hb3
  clear hb3
  clear HM2 HA2 HB2 HW2 HX2
  clear aa0 aa1 aa2 aa3 aaz bb0 bb1 bb2 bb3 bbz
  obtain ⟨⟨aa0, aa1, aa2, aa3⟩, aaz⟩ := HA3.out.facts
  go_wp2_with fail
  refine (K2.out g c HC.out _ (MontB.alloc HX3.out)).mono ?_
  rintro e w4 ⟨rfl, hb4⟩
  have HM4 : Hid (NS w4 (w.heap.size) m) := NS.acall HM3.out hb4
  have HA4 : Hid (NS w4 (w.heap.size + 1) a) := NS.acall HA3.out hb4
  have HB4 : Hid (NS w4 (w.heap.size + 1 + 1) b) := NS.acall HB3.out hb4
  have HC4 : Hid (NS w4 w3.heap.size p) := NS.ncall hb4
  have HW4 : Hid (Below w.heap.size w w4) := below_acall HW3.out hb4
  have HX4 : Hid (MontB w4 g m sq c) := MontB.call (MontB.alloc HX3.out) hb4
  clear hb4
  clear HM3 HA3 HB3 HW3 HX3
  clear aa0 aa1 aa2 aa3 aaz
  obtain ⟨⟨aa0, aa1, aa2, aa3⟩, aaz⟩ := HA4.out.facts
  go_wp2_with fail
  refine (K3.out g c HC.out _ (MontB.alloc HX4.out)).mono ?_
  rintro e w5 ⟨rfl, hb5⟩
  have HM5 : Hid (NS w5 (w.heap.size) m) := NS.acall HM4.out hb5
  have HA5 : Hid (NS w5 (w.heap.size + 1) a) := NS.acall HA4.out hb5
  have HB5 : Hid (NS w5 (w.heap.size + 1 + 1) b) := NS.acall HB4.out hb5
  have HC5 : Hid (NS w5 (w3.heap.size) p) := NS.acall HC4.out hb5
  have HT5 : Hid (NS w5 w4.heap.size t) := NS.ncall hb5
  have HW5 : Hid (Below w.heap.size w w5) := below_acall HW4.out hb5
  clear hb5
  clear HM4 HA4 HB4 HC4 HW4 HX4
  clear aa0 aa1 aa2 aa3 aaz
  obtain ⟨⟨mm0, mm1, mm2, mm3⟩, mmz⟩ := HM5.out.facts
  go_wp2_with fail
  refine (KD.out m _).mono ?_
  rintro e w6 ⟨vd, rfl, hD6, hb6⟩
  have HM6 : Hid (NS w6 (w.heap.size) m) := NS.acall HM5.out hb6
  have HA6 : Hid (NS w6 (w.heap.size + 1) a) := NS.acall HA5.out hb6
  have HB6 : Hid (NS w6 (w.heap.size + 1 + 1) b) := NS.acall HB5.out hb6
  have HC6 : Hid (NS w6 (w3.heap.size) p) := NS.acall HC5.out hb6
  have HT6 : Hid (NS w6 (w4.heap.size) t) := NS.acall HT5.out hb6
  have HR6 : Hid (NS w6 w5.heap.size r) := NS.ncall hb6
  have HW6 : Hid (Below w.heap.size w w6) := below_acall HW5.out hb6
  have HD6 : Hid (Dg w6 vd (digL m 16)) := hD6
  clear hb6
  clear hD6
  clear HM5 HA5 HB5 HC5 HT5 HW5
  clear mm0 mm1 mm2 mm3 mmz
  obtain ⟨⟨aa0, aa1, aa2, aa3⟩, aaz⟩ := HA6.out.facts
  go_wp2_with fail
  refine (KD.out a _).mono ?_
  rintro e w7 ⟨va, rfl, hV7, hb7⟩
  have HM7 : Hid (NS w7 (w.heap.size) m) := NS.call HM6.out hb7
  have HA7 : Hid (NS w7 (w.heap.size + 1) a) := NS.call HA6.out hb7
  have HB7 : Hid (NS w7 (w.heap.size + 1 + 1) b) := NS.call HB6.out hb7
  have HC7 : Hid (NS w7 (w3.heap.size) p) := NS.call HC6.out hb7
  have HT7 : Hid (NS w7 (w4.heap.size) t) := NS.call HT6.out hb7
  have HR7 : Hid (NS w7 (w5.heap.size) r) := NS.call HR6.out hb7
  have HW7 : Hid (Below w.heap.size w w7) := below_call0 HW6.out hb7
  have HD7 : Hid (Dg w7 vd (digL m 16)) := Dg.call HD6.out hb7
  have HV7 : Hid (Dg w7 va (digL a 16)) := hV7
  clear hb7
  clear hV7
  clear HM6 HA6 HB6 HC6 HT6 HR6 HW6 HD6
  clear aa0 aa1 aa2 aa3 aaz
  go_wp2_with fail
  refine (KA.out va vd _ HV7.out HD7.out).mono ?_
  rintro e w8 ⟨rfl, hb8⟩
  have HM8 : Hid (NS w8 (w.heap.size) m) := NS.call HM7.out hb8
  have HA8 : Hid (NS w8 (w.heap.size + 1) a) := NS.call HA7.out hb8
  have HB8 : Hid (NS w8 (w.heap.size + 1 + 1) b) := NS.call HB7.out hb8
  have HC8 : Hid (NS w8 (w3.heap.size) p) := NS.call HC7.out hb8
  have HT8 : Hid (NS w8 (w4.heap.size) t) := NS.call HT7.out hb8
  have HR8 : Hid (NS w8 (w5.heap.size) r) := NS.call HR7.out hb8
  have HW8 : Hid (Below w.heap.size w w8) := below_call0 HW7.out hb8
  have HD8 : Hid (Dg w8 vd (digL m 16)) := Dg.call HD7.out hb8
  clear hb8
  clear HM7 HA7 HB7 HC7 HT7 HR7 HW7 HD7 HV7
  obtain ⟨⟨bb0, bb1, bb2, bb3⟩, bbz⟩ := HB8.out.facts
  go_wp2_with fail
  refine (KD.out b _).mono ?_
  rintro e w9 ⟨vb, rfl, hV9, hb9⟩
  have HM9 : Hid (NS w9 (w.heap.size) m) := NS.call HM8.out hb9
  have HA9 : Hid (NS w9 (w.heap.size + 1) a) := NS.call HA8.out hb9
  have HB9 : Hid (NS w9 (w.heap.size + 1 + 1) b) := NS.call HB8.out hb9
  have HC9 : Hid (NS w9 (w3.heap.size) p) := NS.call HC8.out hb9
  have HT9 : Hid (NS w9 (w4.heap.size) t) := NS.call HT8.out hb9
  have HR9 : Hid (NS w9 (w5.heap.size) r) := NS.call HR8.out hb9
  have HW9 : Hid (Below w.heap.size w w9) := below_call0 HW8.out hb9
  have HD9 : Hid (Dg w9 vd (digL m 16)) := Dg.call HD8.out hb9
  have HV9 : Hid (Dg w9 vb (digL b 16)) := hV9
  clear hb9
  clear hV9
  clear HM8 HA8 HB8 HC8 HT8 HR8 HW8 HD8
  clear bb0 bb1 bb2 bb3 bbz
  go_wp2_with fail
  refine (KB.out vb vd _ HV9.out HD9.out).mono ?_
  rintro e w10 ⟨rfl, hb10⟩
  have HM10 : Hid (NS w10 (w.heap.size) m) := NS.call HM9.out hb10
  have HA10 : Hid (NS w10 (w.heap.size + 1) a) := NS.call HA9.out hb10
  have HB10 : Hid (NS w10 (w.heap.size + 1 + 1) b) := NS.call HB9.out hb10
  have HC10 : Hid (NS w10 (w3.heap.size) p) := NS.call HC9.out hb10
  have HT10 : Hid (NS w10 (w4.heap.size) t) := NS.call HT9.out hb10
  have HR10 : Hid (NS w10 (w5.heap.size) r) := NS.call HR9.out hb10
  have HW10 : Hid (Below w.heap.size w w10) := below_call0 HW9.out hb10
  have HD10 : Hid (Dg w10 vd (digL m 16)) := Dg.call HD9.out hb10
  clear hb10
  clear HM9 HA9 HB9 HC9 HT9 HR9 HW9 HD9 HV9
  go_wp2_with fail
  refine wp_region_H (fun w' => Below w10.heap.size w10 w') 19 rfl (by kernel_rfl) ?_
  refine wpAnyH_take (i := 0) (oi := ?o0_10) (v := ?v0_10) ?hi0_10 (by kernel_rfl) (by kernel_rfl) (by kernel_rfl) ?hQ0_10 ?hy0_10 (Below.drew (Below.refl _ _)) ?more0_10
  case hi0_10 => rw [List.getElem?_toArray]; exact rfl
  case hQ0_10 => exact fun _ _ _ h => h
  case hy0_10 =>
    refine Or.inl ⟨by rfl, ?_⟩
    intro w' hSw
    obtain ⟨⟨tt0, tt1, tt2, tt3⟩, ttz⟩ := (NS.call HT10.out hSw).facts
    clear hSw
    go_simp
    try with_reducible rfl
  simp only [Act.put, List.setIfInBounds_toArray, List.set_cons_zero, List.set_cons_succ]
  refine wpAnyH_take (i := 1) (oi := ?o1_10) (v := ?v1_10) ?hi1_10 (by kernel_rfl) (by kernel_rfl) (by kernel_rfl) ?hQ1_10 ?hy1_10 (Below.drew (Below.refl _ _)) ?more1_10
  case hi1_10 => rw [List.getElem?_toArray]; exact rfl
  case hQ1_10 => exact fun _ _ _ h => h
  case hy1_10 =>
    refine Or.inl ⟨by rfl, ?_⟩
    intro w' hSw
    obtain ⟨⟨aa0, aa1, aa2, aa3⟩, aaz⟩ := (NS.call HA10.out hSw).facts
    clear hSw
    go_simp
    try with_reducible rfl
  simp only [Act.put, List.setIfInBounds_toArray, List.set_cons_zero, List.set_cons_succ]
  refine wpAnyH_take (i := 2) (oi := ?o2_10) (v := ?v2_10) ?hi2_10 (by kernel_rfl) (by kernel_rfl) (by kernel_rfl) ?hQ2_10 ?hy2_10 (Below.drew (Below.refl _ _)) ?more2_10
  case hi2_10 => rw [List.getElem?_toArray]; exact rfl
  case hQ2_10 => exact fun _ _ _ h => h
  case hy2_10 =>
    refine Or.inl ⟨by rfl, ?_⟩
    intro w' hSw
    obtain ⟨⟨mm0, mm1, mm2, mm3⟩, mmz⟩ := (NS.call HM10.out hSw).facts
    clear hSw
    go_simp
    try with_reducible rfl
  simp only [Act.put, List.setIfInBounds_toArray, List.set_cons_zero, List.set_cons_succ]
  refine wpAnyH_one (i := 3) (o := ?o3_10) (by kernel_rfl) ?hi3_10 ?hw3_10 ?st3_10
  case hi3_10 => rw [List.getElem?_toArray]; exact rfl
  case hw3_10 => exact rfl
  intro K hK
  have HK3 : Hid _ := hK
  clear hK
  go_simp
  refine (KT.out _).mono ?_
  rintro e wr10_1 ⟨rfl, hq⟩
  have HB10_1 : Hid (Below w10.heap.size w10 wr10_1) := below_call0 (Below.drew (Below.refl _ _)) hq
  clear hq
  go_wp2_with fail
  refine HK3.out _ _ ⟨HB10_1.out, ?_⟩
  clear HK3 K
  try simp only [Act.put, List.setIfInBounds_toArray, List.set_cons_zero, List.set_cons_succ]
  refine wpAnyH_take (i := 4) (oi := ?o4_10) (v := ?v4_10) ?hi4_10 (by kernel_rfl) (by kernel_rfl) (by kernel_rfl) ?hQ4_10 ?hy4_10 HB10_1.out ?more4_10
  case hi4_10 => rw [List.getElem?_toArray]; exact rfl
  case hQ4_10 => exact fun _ _ _ h => h
  case hy4_10 =>
    refine Or.inl ⟨by rfl, ?_⟩
    intro w' hSw
    clear hSw
    go_simp
    try with_reducible rfl
  simp only [Act.put, List.setIfInBounds_toArray, List.set_cons_zero, List.set_cons_succ]
  refine wpAnyH_take (i := 5) (oi := ?o5_10) (v := ?v5_10) ?hi5_10 (by kernel_rfl) (by kernel_rfl) (by kernel_rfl) ?hQ5_10 ?hy5_10 HB10_1.out ?more5_10
  case hi5_10 => rw [List.getElem?_toArray]; exact rfl
  case hQ5_10 => exact fun _ _ _ h => h
  case hy5_10 =>
    refine Or.inl ⟨by rfl, ?_⟩
    intro w' hSw
    clear hSw
    go_simp
    try with_reducible rfl
  simp only [Act.put, List.setIfInBounds_toArray, List.set_cons_zero, List.set_cons_succ]
  refine wpAnyH_take (i := 6) (oi := ?o6_10) (v := ?v6_10) ?hi6_10 (by kernel_rfl) (by kernel_rfl) (by kernel_rfl) ?hQ6_10 ?hy6_10 HB10_1.out ?more6_10
  case hi6_10 => rw [List.getElem?_toArray]; exact rfl
  case hQ6_10 => exact fun _ _ _ h => h
  case hy6_10 =>
    refine Or.inl ⟨by rfl, ?_⟩
    intro w' hSw
    obtain ⟨⟨rr0, rr1, rr2, rr3⟩, rrz⟩ := (NS.call HR10.out hSw).facts
    clear hSw
    go_simp
    try with_reducible rfl
  simp only [Act.put, List.setIfInBounds_toArray, List.set_cons_zero, List.set_cons_succ]
  refine wpAnyH_take (i := 7) (oi := ?o7_10) (v := ?v7_10) ?hi7_10 (by kernel_rfl) (by kernel_rfl) (by kernel_rfl) ?hQ7_10 ?hy7_10 HB10_1.out ?more7_10
  case hi7_10 => rw [List.getElem?_toArray]; exact rfl
  case hQ7_10 => exact fun _ _ _ h => h
  case hy7_10 =>
    refine Or.inl ⟨by rfl, ?_⟩
    intro w' hSw
    obtain ⟨⟨mm0, mm1, mm2, mm3⟩, mmz⟩ := (NS.call HM10.out hSw).facts
    clear hSw
    go_simp
    try with_reducible rfl
  simp only [Act.put, List.setIfInBounds_toArray, List.set_cons_zero, List.set_cons_succ]
  refine wpAnyH_take (i := 9) (oi := ?o9_10) (v := ?v9_10) ?hi9_10 (by kernel_rfl) (by kernel_rfl) (by kernel_rfl) ?hQ9_10 ?hy9_10 HB10_1.out ?more9_10
  case hi9_10 => rw [List.getElem?_toArray]; exact rfl
  case hQ9_10 => exact fun _ _ _ h => h
  case hy9_10 =>
    refine Or.inl ⟨by rfl, ?_⟩
    intro w' hSw
    obtain ⟨⟨aa0, aa1, aa2, aa3⟩, aaz⟩ := (NS.call HA10.out hSw).facts
    clear hSw
    go_simp
    try with_reducible rfl
  simp only [Act.put, List.setIfInBounds_toArray, List.set_cons_zero, List.set_cons_succ]
  refine wpAnyH_one (i := 8) (o := ?o8_10) (by kernel_rfl) ?hi8_10 ?hw8_10 ?st8_10
  case hi8_10 => rw [List.getElem?_toArray]; exact rfl
  case hw8_10 => exact rfl
  intro K hK
  have HK8 : Hid _ := hK
  clear hK
  go_simp
  refine (KF.out _).mono ?_
  rintro e wr10_2 ⟨rfl, hq⟩
  have HB10_2 : Hid (Below w10.heap.size w10 wr10_2) := below_call0 HB10_1.out hq
  clear hq
  go_wp2_with fail
  refine HK8.out _ _ ⟨HB10_2.out, ?_⟩
  clear HK8 K
  try simp only [Act.put, List.setIfInBounds_toArray, List.set_cons_zero, List.set_cons_succ]
  refine wpAnyH_take (i := 10) (oi := ?o10_10) (v := ?v10_10) ?hi10_10 (by kernel_rfl) (by kernel_rfl) (by kernel_rfl) ?hQ10_10 ?hy10_10 HB10_2.out ?more10_10
  case hi10_10 => rw [List.getElem?_toArray]; exact rfl
  case hQ10_10 => exact fun _ _ _ h => h
  case hy10_10 =>
    refine Or.inl ⟨by rfl, ?_⟩
    intro w' hSw
    clear hSw
    go_simp
    try with_reducible rfl
  simp only [Act.put, List.setIfInBounds_toArray, List.set_cons_zero, List.set_cons_succ]
  refine wpAnyH_take (i := 11) (oi := ?o11_10) (v := ?v11_10) ?hi11_10 (by kernel_rfl) (by kernel_rfl) (by kernel_rfl) ?hQ11_10 ?hy11_10 HB10_2.out ?more11_10
  case hi11_10 => rw [List.getElem?_toArray]; exact rfl
  case hQ11_10 => exact fun _ _ _ h => h
  case hy11_10 =>
    refine Or.inl ⟨by rfl, ?_⟩
    intro w' hSw
    clear hSw
    go_simp
    try with_reducible rfl
  simp only [Act.put, List.setIfInBounds_toArray, List.set_cons_zero, List.set_cons_succ]
  refine wpAnyH_take (i := 12) (oi := ?o12_10) (v := ?v12_10) ?hi12_10 (by kernel_rfl) (by kernel_rfl) (by kernel_rfl) ?hQ12_10 ?hy12_10 HB10_2.out ?more12_10
  case hi12_10 => rw [List.getElem?_toArray]; exact rfl
  case hQ12_10 => exact fun _ _ _ h => h
  case hy12_10 =>
    refine Or.inl ⟨by rfl, ?_⟩
    intro w' hSw
    clear hSw
    go_simp
    try with_reducible rfl
  simp only [Act.put, List.setIfInBounds_toArray, List.set_cons_zero, List.set_cons_succ]
  refine wpAnyH_take (i := 13) (oi := ?o13_10) (v := ?v13_10) ?hi13_10 (by kernel_rfl) (by kernel_rfl) (by kernel_rfl) ?hQ13_10 ?hy13_10 HB10_2.out ?more13_10
  case hi13_10 => rw [List.getElem?_toArray]; exact rfl
  case hQ13_10 => exact fun _ _ _ h => h
  case hy13_10 =>
    refine Or.inl ⟨by rfl, ?_⟩
    intro w' hSw
    obtain ⟨⟨rr0, rr1, rr2, rr3⟩, rrz⟩ := (NS.call HR10.out hSw).facts
    clear hSw
    go_simp
    try with_reducible rfl
  simp only [Act.put, List.setIfInBounds_toArray, List.set_cons_zero, List.set_cons_succ]
  refine wpAnyH_take (i := 15) (oi := ?o15_10) (v := ?v15_10) ?hi15_10 (by kernel_rfl) (by kernel_rfl) (by kernel_rfl) ?hQ15_10 ?hy15_10 HB10_2.out ?more15_10
  case hi15_10 => rw [List.getElem?_toArray]; exact rfl
  case hQ15_10 => exact fun _ _ _ h => h
  case hy15_10 =>
    refine Or.inl ⟨by rfl, ?_⟩
    intro w' hSw
    clear hSw
    go_simp
    try with_reducible rfl
  simp only [Act.put, List.setIfInBounds_toArray, List.set_cons_zero, List.set_cons_succ]
  refine wpAnyH_one (i := 14) (o := ?o14_10) (by kernel_rfl) ?hi14_10 ?hw14_10 ?st14_10
  case hi14_10 => rw [List.getElem?_toArray]; exact rfl
  case hw14_10 => exact rfl
  intro K hK
  have HK14 : Hid _ := hK
  clear hK
  go_simp
  refine (KD.out r _).mono ?_
  rintro e wr10_3 ⟨vr, rfl, hvr, hq⟩
  have HB10_3 : Hid (Below w10.heap.size w10 wr10_3) := below_call0 HB10_2.out hq
  have Hvr : Hid (Dg _ vr (digL r 16)) := hvr
  clear hvr
  clear hq
  go_wp2_with fail
  refine HK14.out _ _ ⟨HB10_3.out, ?_⟩
  clear HK14 K
  try simp only [Act.put, List.setIfInBounds_toArray, List.set_cons_zero, List.set_cons_succ]
  refine wpAnyH_one (i := 16) (o := ?o16_10) (by kernel_rfl) ?hi16_10 ?hw16_10 ?st16_10
  case hi16_10 => rw [List.getElem?_toArray]; exact rfl
  case hw16_10 => exact rfl
  intro K hK
  have HK16 : Hid _ := hK
  clear hK
  go_simp
  refine (KR.out vr vd _ Hvr.out (Dg.call HD10.out HB10_3.out)).mono ?_
  rintro e w11 ⟨rfl, hq⟩
  have HB10_4 : Hid (Below w10.heap.size w10 w11) := below_call0 HB10_3.out hq
  clear hq
  go_wp2_with fail
  refine HK16.out _ _ ⟨HB10_4.out, ?_⟩
  clear HK16 K
  try simp only [Act.put, List.setIfInBounds_toArray, List.set_cons_zero, List.set_cons_succ]
  refine wpAnyH_take (i := 17) (oi := ?o17_10) (v := ?v17_10) ?hi17_10 (by kernel_rfl) (by kernel_rfl) (by kernel_rfl) ?hQ17_10 ?hy17_10 HB10_4.out ?more17_10
  case hi17_10 => rw [List.getElem?_toArray]; exact rfl
  case hQ17_10 => exact fun _ _ _ h => h
  case hy17_10 =>
    refine Or.inl ⟨by rfl, ?_⟩
    intro w' hSw
    clear hSw
    go_simp
    try with_reducible rfl
  simp only [Act.put, List.setIfInBounds_toArray, List.set_cons_zero, List.set_cons_succ]
  refine wpAnyH_take (i := 18) (oi := ?o18_10) (v := ?v18_10) ?hi18_10 (by kernel_rfl) (by kernel_rfl) (by kernel_rfl) ?hQ18_10 ?hy18_10 HB10_4.out ?more18_10
  case hi18_10 => rw [List.getElem?_toArray]; exact rfl
  case hQ18_10 => exact fun _ _ _ h => h
  case hy18_10 =>
    refine Or.inl ⟨by rfl, ?_⟩
    intro w' hSw
    clear hSw
    go_simp
    try with_reducible rfl
  simp only [Act.put, List.setIfInBounds_toArray, List.set_cons_zero, List.set_cons_succ]
  refine wpAnyH_done (by kernel_rfl) ?_ _
  have HM11 : Hid (NS w11 (w.heap.size) m) := NS.call HM10.out HB10_4.out
  have HA11 : Hid (NS w11 (w.heap.size + 1) a) := NS.call HA10.out HB10_4.out
  have HB11 : Hid (NS w11 (w.heap.size + 1 + 1) b) := NS.call HB10.out HB10_4.out
  have HC11 : Hid (NS w11 (w3.heap.size) p) := NS.call HC10.out HB10_4.out
  have HT11 : Hid (NS w11 (w4.heap.size) t) := NS.call HT10.out HB10_4.out
  have HR11 : Hid (NS w11 (w5.heap.size) r) := NS.call HR10.out HB10_4.out
  have HD11 : Hid (Dg w11 vd (digL m 16)) := Dg.call HD10.out HB10_4.out
  have HW11 : Hid (Below w.heap.size w w11) := below_call0 HW10.out HB10_4.out
  clear HM10 HA10 HB10 HC10 HT10 HR10 HW10 HD10 HB10_1 HB10_2 HB10_3 HB10_4
  clear Hvr
  obtain ⟨⟨cc0, cc1, cc2, cc3⟩, ccz⟩ := HC11.out.facts
  go_wp2_with fail
  refine (turns_any _).mono ?_
  rintro e w12 ⟨rfl, hb12⟩
  have HW12 : Hid (Below w.heap.size w w12) := below_call0 HW11.out hb12
  clear hb12
  clear HM11 HA11 HB11 HC11 HT11 HR11 HW11 HD11
  clear cc0 cc1 cc2 cc3 ccz
  go_wp2_with fail
  go_ret
  exact ⟨rfl, HW12.out⟩

set_option maxRecDepth 100000 in
set_option maxHeartbeats 8000000 in
theorem monts_na (m a b p t r sq : Nat) (ca cb : Int)
    (k0 : ∀ w, Calls Try.prog 26 #[.agg #[.int .u64 (limb (m) 0 : Nat), .int .u64 (limb (m) 1 : Nat), .int .u64 (limb (m) 2 : Nat), .int .u64 (limb (m) 3 : Nat)]] w fun e w' => ∃ g c, e = .returned (.tuple #[.pointer (some ⟨g, 0, none⟩), .int .i64 0]) ∧ MontB w' g m sq c ∧ (c * limb m 0 + 1) % M64 = 0 ∧ Below w.heap.size w w')
    (kO : ∀ w, Calls Try.prog 27 #[.agg #[.int .u64 (limb (m) 0 : Nat), .int .u64 (limb (m) 1 : Nat), .int .u64 (limb (m) 2 : Nat), .int .u64 (limb (m) 3 : Nat)]] w fun e w' => e = .returned (.bool true) ∧ Below w.heap.size w w')
    (k1 : ∀ g c, (c * limb m 0 + 1) % M64 = 0 → ∀ w, MontB w g m sq c → Calls Try.prog 28 #[.pointer (some ⟨g, 0, none⟩), .agg #[.int .u64 (limb (a) 0 : Nat), .int .u64 (limb (a) 1 : Nat), .int .u64 (limb (a) 2 : Nat), .int .u64 (limb (a) 3 : Nat)], .agg #[.int .u64 (limb (b) 0 : Nat), .int .u64 (limb (b) 1 : Nat), .int .u64 (limb (b) 2 : Nat), .int .u64 (limb (b) 3 : Nat)]] w fun e w' => e = .returned (.tuple #[.agg #[.int .u64 (limb (p) 0 : Nat), .int .u64 (limb (p) 1 : Nat), .int .u64 (limb (p) 2 : Nat), .int .u64 (limb (p) 3 : Nat)], .int .i64 1]) ∧ Below w.heap.size w w')
    (k2 : ∀ g c, (c * limb m 0 + 1) % M64 = 0 → ∀ w, MontB w g m sq c → Calls Try.prog 29 #[.pointer (some ⟨g, 0, none⟩), .agg #[.int .u64 (limb (a) 0 : Nat), .int .u64 (limb (a) 1 : Nat), .int .u64 (limb (a) 2 : Nat), .int .u64 (limb (a) 3 : Nat)]] w fun e w' => e = .returned (.tuple #[.agg #[.int .u64 (limb (t) 0 : Nat), .int .u64 (limb (t) 1 : Nat), .int .u64 (limb (t) 2 : Nat), .int .u64 (limb (t) 3 : Nat)], .int .i64 1]) ∧ Below w.heap.size w w')
    (k3 : ∀ g c, (c * limb m 0 + 1) % M64 = 0 → ∀ w, MontB w g m sq c → Calls Try.prog 30 #[.pointer (some ⟨g, 0, none⟩), .agg #[.int .u64 (limb (a) 0 : Nat), .int .u64 (limb (a) 1 : Nat), .int .u64 (limb (a) 2 : Nat), .int .u64 (limb (a) 3 : Nat)]] w fun e w' => e = .returned (.tuple #[.agg #[.int .u64 (limb (r) 0 : Nat), .int .u64 (limb (r) 1 : Nat), .int .u64 (limb (r) 2 : Nat), .int .u64 (limb (r) 3 : Nat)], .int .i64 1]) ∧ Below w.heap.size w w')
    (kD : ∀ (x : Nat) (w : World), Calls Try.prog 12 #[.agg #[.int .u64 (limb (x) 0 : Nat), .int .u64 (limb (x) 1 : Nat), .int .u64 (limb (x) 2 : Nat), .int .u64 (limb (x) 3 : Nat)]] w fun e w' => ∃ v, e = .returned v ∧ Dg w' v (digL x 16) ∧ Below w.heap.size w w')
    (kA : ∀ v u w, Dg w v (digL a 16) → Dg w u (digL m 16) → Calls Try.prog 21 #[v, u] w fun e w' => e = .returned (.int .i64 (ca)) ∧ Below w.heap.size w w')
    (kB : ∀ v u w, Dg w v (digL b 16) → Dg w u (digL m 16) → Calls Try.prog 21 #[v, u] w fun e w' => e = .returned (.int .i64 (cb)) ∧ Below w.heap.size w w')
    (zp : eq4 (limb p 0 : Nat) (limb p 1 : Nat) (limb p 2 : Nat) (limb p 3 : Nat) 0 0 0 0 = true)
    (zt : eq4 (limb t 0 : Nat) (limb t 1 : Nat) (limb t 2 : Nat) (limb t 3 : Nat) 0 0 0 0 = true)
    (zr : eq4 (limb r 0 : Nat) (limb r 1 : Nat) (limb r 2 : Nat) (limb r 3 : Nat) 0 0 0 0 = true)
    (ha : decide (ca < 0) = false) (bb : Bool) (hb : decide (cb < 0) = bb)
    (w : World) : Calls Try.prog 7 #[.agg #[.int .u64 (limb (m) 0 : Nat), .int .u64 (limb (m) 1 : Nat), .int .u64 (limb (m) 2 : Nat), .int .u64 (limb (m) 3 : Nat)], .agg #[.int .u64 (limb (a) 0 : Nat), .int .u64 (limb (a) 1 : Nat), .int .u64 (limb (a) 2 : Nat), .int .u64 (limb (a) 3 : Nat)], .agg #[.int .u64 (limb (b) 0 : Nat), .int .u64 (limb (b) 1 : Nat), .int .u64 (limb (b) 2 : Nat), .int .u64 (limb (b) 3 : Nat)]] w fun e w' => e = .returned (.bool true) ∧ Below w.heap.size w w' := by
  have K0 : Hid _ := k0
  have KO : Hid _ := kO
  have K1 : Hid _ := k1
  have K2 : Hid _ := k2
  have K3 : Hid _ := k3
  have KD : Hid _ := kD
  have KA : Hid _ := kA
  have KB : Hid _ := kB
  clear k0 kO k1 k2 k3 kD kA kB
  go_enter Try.func7, Try.ntmps7
  go_wp2_with fail
  refine (K0.out _).mono ?_
  rintro e w1 ⟨g, c, rfl, hX1, hc, hb1⟩
  have HM1 : Hid (NS w1 (w.heap.size) m) := by
    have t := NS.call (W := _) (NS.alloc (NS.alloc (NS.new _ _ _))) hb1
    try simp only [World.size_alloc] at t
    exact t
  have HA1 : Hid (NS w1 (w.heap.size + 1) a) := by
    have t := NS.call (W := _) (NS.alloc (NS.new _ _ _)) hb1
    try simp only [World.size_alloc] at t
    exact t
  have HB1 : Hid (NS w1 (w.heap.size + 1 + 1) b) := by
    have t := NS.call (W := _) (NS.new _ _ _) hb1
    try simp only [World.size_alloc] at t
    exact t
  have HW1 : Hid (Below w.heap.size w w1) := below_call0 (below_alloc0 (below_alloc0 (below_alloc0 (Below.refl _ _) _) _) _) hb1
  have HX1 : Hid (MontB w1 g m sq c) := hX1
  have HC : Hid _ := hc
  clear hc
  clear hb1
  clear hX1
  obtain ⟨⟨mm0, mm1, mm2, mm3⟩, mmz⟩ := HM1.out.facts
  go_wp2_with fail
  refine (KO.out _).mono ?_
  rintro e w2 ⟨rfl, hb2⟩
  have HM2 : Hid (NS w2 (w.heap.size) m) := NS.call HM1.out hb2
  have HA2 : Hid (NS w2 (w.heap.size + 1) a) := NS.call HA1.out hb2
  have HB2 : Hid (NS w2 (w.heap.size + 1 + 1) b) := NS.call HB1.out hb2
  have HW2 : Hid (Below w.heap.size w w2) := below_call0 HW1.out hb2
  have HX2 : Hid (MontB w2 g m sq c) := MontB.call HX1.out hb2
  clear hb2
  clear HM1 HA1 HB1 HW1 HX1
  clear mm0 mm1 mm2 mm3 mmz
  obtain ⟨⟨aa0, aa1, aa2, aa3⟩, aaz⟩ := HA2.out.facts
  obtain ⟨⟨bb0, bb1, bb2, bb3⟩, bbz⟩ := HB2.out.facts
  go_wp2_with fail
  refine (K1.out g c HC.out _ HX2.out).mono ?_
  rintro e w3 ⟨rfl, hb3⟩
  have HM3 : Hid (NS w3 (w.heap.size) m) := NS.call HM2.out hb3
  have HA3 : Hid (NS w3 (w.heap.size + 1) a) := NS.call HA2.out hb3
  have HB3 : Hid (NS w3 (w.heap.size + 1 + 1) b) := NS.call HB2.out hb3
  have HW3 : Hid (Below w.heap.size w w3) := below_call0 HW2.out hb3
  have HX3 : Hid (MontB w3 g m sq c) := MontB.call HX2.out hb3
  clear hb3
  clear HM2 HA2 HB2 HW2 HX2
  clear aa0 aa1 aa2 aa3 aaz bb0 bb1 bb2 bb3 bbz
  obtain ⟨⟨aa0, aa1, aa2, aa3⟩, aaz⟩ := HA3.out.facts
  go_wp2_with fail
  refine (K2.out g c HC.out _ (MontB.alloc HX3.out)).mono ?_
  rintro e w4 ⟨rfl, hb4⟩
  have HM4 : Hid (NS w4 (w.heap.size) m) := NS.acall HM3.out hb4
  have HA4 : Hid (NS w4 (w.heap.size + 1) a) := NS.acall HA3.out hb4
  have HB4 : Hid (NS w4 (w.heap.size + 1 + 1) b) := NS.acall HB3.out hb4
  have HC4 : Hid (NS w4 w3.heap.size p) := NS.ncall hb4
  have HW4 : Hid (Below w.heap.size w w4) := below_acall HW3.out hb4
  have HX4 : Hid (MontB w4 g m sq c) := MontB.call (MontB.alloc HX3.out) hb4
  clear hb4
  clear HM3 HA3 HB3 HW3 HX3
  clear aa0 aa1 aa2 aa3 aaz
  obtain ⟨⟨aa0, aa1, aa2, aa3⟩, aaz⟩ := HA4.out.facts
  go_wp2_with fail
  refine (K3.out g c HC.out _ (MontB.alloc HX4.out)).mono ?_
  rintro e w5 ⟨rfl, hb5⟩
  have HM5 : Hid (NS w5 (w.heap.size) m) := NS.acall HM4.out hb5
  have HA5 : Hid (NS w5 (w.heap.size + 1) a) := NS.acall HA4.out hb5
  have HB5 : Hid (NS w5 (w.heap.size + 1 + 1) b) := NS.acall HB4.out hb5
  have HC5 : Hid (NS w5 (w3.heap.size) p) := NS.acall HC4.out hb5
  have HT5 : Hid (NS w5 w4.heap.size t) := NS.ncall hb5
  have HW5 : Hid (Below w.heap.size w w5) := below_acall HW4.out hb5
  clear hb5
  clear HM4 HA4 HB4 HC4 HW4 HX4
  clear aa0 aa1 aa2 aa3 aaz
  obtain ⟨⟨mm0, mm1, mm2, mm3⟩, mmz⟩ := HM5.out.facts
  go_wp2_with fail
  refine (KD.out m _).mono ?_
  rintro e w6 ⟨vd, rfl, hD6, hb6⟩
  have HM6 : Hid (NS w6 (w.heap.size) m) := NS.acall HM5.out hb6
  have HA6 : Hid (NS w6 (w.heap.size + 1) a) := NS.acall HA5.out hb6
  have HB6 : Hid (NS w6 (w.heap.size + 1 + 1) b) := NS.acall HB5.out hb6
  have HC6 : Hid (NS w6 (w3.heap.size) p) := NS.acall HC5.out hb6
  have HT6 : Hid (NS w6 (w4.heap.size) t) := NS.acall HT5.out hb6
  have HR6 : Hid (NS w6 w5.heap.size r) := NS.ncall hb6
  have HW6 : Hid (Below w.heap.size w w6) := below_acall HW5.out hb6
  have HD6 : Hid (Dg w6 vd (digL m 16)) := hD6
  clear hb6
  clear hD6
  clear HM5 HA5 HB5 HC5 HT5 HW5
  clear mm0 mm1 mm2 mm3 mmz
  obtain ⟨⟨aa0, aa1, aa2, aa3⟩, aaz⟩ := HA6.out.facts
  go_wp2_with fail
  refine (KD.out a _).mono ?_
  rintro e w7 ⟨va, rfl, hV7, hb7⟩
  have HM7 : Hid (NS w7 (w.heap.size) m) := NS.call HM6.out hb7
  have HA7 : Hid (NS w7 (w.heap.size + 1) a) := NS.call HA6.out hb7
  have HB7 : Hid (NS w7 (w.heap.size + 1 + 1) b) := NS.call HB6.out hb7
  have HC7 : Hid (NS w7 (w3.heap.size) p) := NS.call HC6.out hb7
  have HT7 : Hid (NS w7 (w4.heap.size) t) := NS.call HT6.out hb7
  have HR7 : Hid (NS w7 (w5.heap.size) r) := NS.call HR6.out hb7
  have HW7 : Hid (Below w.heap.size w w7) := below_call0 HW6.out hb7
  have HD7 : Hid (Dg w7 vd (digL m 16)) := Dg.call HD6.out hb7
  have HV7 : Hid (Dg w7 va (digL a 16)) := hV7
  clear hb7
  clear hV7
  clear HM6 HA6 HB6 HC6 HT6 HR6 HW6 HD6
  clear aa0 aa1 aa2 aa3 aaz
  go_wp2_with fail
  refine (KA.out va vd _ HV7.out HD7.out).mono ?_
  rintro e w8 ⟨rfl, hb8⟩
  have HM8 : Hid (NS w8 (w.heap.size) m) := NS.call HM7.out hb8
  have HA8 : Hid (NS w8 (w.heap.size + 1) a) := NS.call HA7.out hb8
  have HB8 : Hid (NS w8 (w.heap.size + 1 + 1) b) := NS.call HB7.out hb8
  have HC8 : Hid (NS w8 (w3.heap.size) p) := NS.call HC7.out hb8
  have HT8 : Hid (NS w8 (w4.heap.size) t) := NS.call HT7.out hb8
  have HR8 : Hid (NS w8 (w5.heap.size) r) := NS.call HR7.out hb8
  have HW8 : Hid (Below w.heap.size w w8) := below_call0 HW7.out hb8
  have HD8 : Hid (Dg w8 vd (digL m 16)) := Dg.call HD7.out hb8
  clear hb8
  clear HM7 HA7 HB7 HC7 HT7 HR7 HW7 HD7 HV7
  obtain ⟨⟨bb0, bb1, bb2, bb3⟩, bbz⟩ := HB8.out.facts
  go_wp2_with fail
  refine (KD.out b _).mono ?_
  rintro e w9 ⟨vb, rfl, hV9, hb9⟩
  have HM9 : Hid (NS w9 (w.heap.size) m) := NS.call HM8.out hb9
  have HA9 : Hid (NS w9 (w.heap.size + 1) a) := NS.call HA8.out hb9
  have HB9 : Hid (NS w9 (w.heap.size + 1 + 1) b) := NS.call HB8.out hb9
  have HC9 : Hid (NS w9 (w3.heap.size) p) := NS.call HC8.out hb9
  have HT9 : Hid (NS w9 (w4.heap.size) t) := NS.call HT8.out hb9
  have HR9 : Hid (NS w9 (w5.heap.size) r) := NS.call HR8.out hb9
  have HW9 : Hid (Below w.heap.size w w9) := below_call0 HW8.out hb9
  have HD9 : Hid (Dg w9 vd (digL m 16)) := Dg.call HD8.out hb9
  have HV9 : Hid (Dg w9 vb (digL b 16)) := hV9
  clear hb9
  clear hV9
  clear HM8 HA8 HB8 HC8 HT8 HR8 HW8 HD8
  clear bb0 bb1 bb2 bb3 bbz
  go_wp2_with fail
  refine (KB.out vb vd _ HV9.out HD9.out).mono ?_
  rintro e w10 ⟨rfl, hb10⟩
  have HM10 : Hid (NS w10 (w.heap.size) m) := NS.call HM9.out hb10
  have HA10 : Hid (NS w10 (w.heap.size + 1) a) := NS.call HA9.out hb10
  have HB10 : Hid (NS w10 (w.heap.size + 1 + 1) b) := NS.call HB9.out hb10
  have HC10 : Hid (NS w10 (w3.heap.size) p) := NS.call HC9.out hb10
  have HT10 : Hid (NS w10 (w4.heap.size) t) := NS.call HT9.out hb10
  have HR10 : Hid (NS w10 (w5.heap.size) r) := NS.call HR9.out hb10
  have HW10 : Hid (Below w.heap.size w w10) := below_call0 HW9.out hb10
  have HD10 : Hid (Dg w10 vd (digL m 16)) := Dg.call HD9.out hb10
  clear hb10
  clear HM9 HA9 HB9 HC9 HT9 HR9 HW9 HD9 HV9
  obtain ⟨⟨cc0, cc1, cc2, cc3⟩, ccz⟩ := HC10.out.facts
  obtain ⟨⟨tt0, tt1, tt2, tt3⟩, ttz⟩ := HT10.out.facts
  obtain ⟨⟨rr0, rr1, rr2, rr3⟩, rrz⟩ := HR10.out.facts
  go_wp2_with fail
  refine (turns_any _).mono ?_
  rintro e w11 ⟨rfl, hb11⟩
  have HW11 : Hid (Below w.heap.size w w11) := below_call0 HW10.out hb11
  clear hb11
  clear HM10 HA10 HB10 HC10 HT10 HR10 HW10 HD10
  clear cc0 cc1 cc2 cc3 ccz tt0 tt1 tt2 tt3 ttz rr0 rr1 rr2 rr3 rrz
  go_wp2_with fail
  go_ret
  exact ⟨rfl, HW11.out⟩

theorem limbMonts_any (m a b : Nat) (hm : m < R256) (ha : a < R256) (hb : b < R256) (w : World) : Calls Try.prog 7 #[.agg #[.int .u64 (limb (m) 0 : Nat), .int .u64 (limb (m) 1 : Nat), .int .u64 (limb (m) 2 : Nat), .int .u64 (limb (m) 3 : Nat)], .agg #[.int .u64 (limb (a) 0 : Nat), .int .u64 (limb (a) 1 : Nat), .int .u64 (limb (a) 2 : Nat), .int .u64 (limb (a) 3 : Nat)], .agg #[.int .u64 (limb (b) 0 : Nat), .int .u64 (limb (b) 1 : Nat), .int .u64 (limb (b) 2 : Nat), .int .u64 (limb (b) 3 : Nat)]] w fun e w' => e = .returned (.bool true) ∧ Below w.heap.size w w' := by
  have ko := okr_any m hm
  by_cases he : m % 2 = 0
  · rw [decide_eq_false (by omega)] at ko
    exact monts_bad m a b (newmont_even m he) ko w
  by_cases h1 : m = 1
  · rw [decide_eq_false (by omega)] at ko
    exact monts_bad m a b (newmont_one m h1) ko w
  have hodd : m % 2 = 1 := by omega
  rw [decide_eq_true ⟨hodd, h1⟩] at ko
  have m0 : 0 < m := by omega
  have sql : R256 * R256 % m < m := Nat.mod_lt _ m0
  have zz : eq4 (limb 0 0 : Nat) (limb 0 1 : Nat) (limb 0 2 : Nat) (limb 0 3 : Nat) 0 0 0 0 = true := by rw [limb_nought, limb_nought, limb_nought, limb_nought]; rfl
  have kd := digits_any
  have kless : ∀ x, x < m → ∀ v u w, Dg w v (digL x 16) → Dg w u (digL m 16) → Calls Try.prog 21 #[v, u] w fun e w' => e = .returned (.int .i64 (-1)) ∧ Below w.heap.size w w' := fun x hx v u w hv hu => cmpr_any x m (-1) (Nat.lt_trans hx hm) hm (cmpN_lt hx) v u w hv hu
  have kany : ∀ x, x < R256 → ∀ v u w, Dg w v (digL x 16) → Dg w u (digL m 16) → Calls Try.prog 21 #[v, u] w fun e w' => e = .returned (.int .i64 (cmpN x m)) ∧ Below w.heap.size w w' := fun x hx v u w hv hu => cmpr_any x m _ hx hm rfl v u w hv hu
  by_cases hA : a < m
  · have rl : redN m (a * 1) < m := red_lt m _ m0
    have kto : ∀ g c, (c * limb m 0 + 1) % M64 = 0 → ∀ w, MontB w g m (R256 * R256 % m) c → Calls Try.prog 29 #[.pointer (some ⟨g, 0, none⟩), .agg #[.int .u64 (limb (a) 0 : Nat), .int .u64 (limb (a) 1 : Nat), .int .u64 (limb (a) 2 : Nat), .int .u64 (limb (a) 3 : Nat)]] w fun e w' => e = .returned (.tuple #[.agg #[.int .u64 (limb (a * R256 % m) 0 : Nat), .int .u64 (limb (a * R256 % m) 1 : Nat), .int .u64 (limb (a * R256 % m) 2 : Nat), .int .u64 (limb (a * R256 % m) 3 : Nat)], .int .i64 0]) ∧ Below w.heap.size w w' := fun g c hc w hM =>
      mto_go g m _ c a _ 0 (fun w h => by
        have k := mmul_ok g m _ c a (R256 * R256 % m) hA sql hm hodd hc w h
        rw [red_R m a hodd] at k
        exact k) w hM
    have kfrom : ∀ g c, (c * limb m 0 + 1) % M64 = 0 → ∀ w, MontB w g m (R256 * R256 % m) c → Calls Try.prog 30 #[.pointer (some ⟨g, 0, none⟩), .agg #[.int .u64 (limb (a) 0 : Nat), .int .u64 (limb (a) 1 : Nat), .int .u64 (limb (a) 2 : Nat), .int .u64 (limb (a) 3 : Nat)]] w fun e w' => e = .returned (.tuple #[.agg #[.int .u64 (limb (redN m (a * 1)) 0 : Nat), .int .u64 (limb (redN m (a * 1)) 1 : Nat), .int .u64 (limb (redN m (a * 1)) 2 : Nat), .int .u64 (limb (redN m (a * 1)) 3 : Nat)], .int .i64 0]) ∧ Below w.heap.size w w' := fun g c hc w hM =>
      mfrom_go g m _ c a _ 0 (fun w h => by
        have k := mmul_ok g m _ c a 1 hA (by omega) hm hodd hc w h
        rw [limb_one.1, limb_one.2.1, limb_one.2.2.1, limb_one.2.2.2] at k
        exact k) w hM
    have kback : ∀ w, Calls Try.prog 31 #[.agg #[.int .u64 (limb (redN m (a * 1)) 0 : Nat), .int .u64 (limb (redN m (a * 1)) 1 : Nat), .int .u64 (limb (redN m (a * 1)) 2 : Nat), .int .u64 (limb (redN m (a * 1)) 3 : Nat)], .agg #[.int .u64 (limb (m) 0 : Nat), .int .u64 (limb (m) 1 : Nat), .int .u64 (limb (m) 2 : Nat), .int .u64 (limb (m) 3 : Nat)]] w fun e w' => e = .returned (.agg #[.int .u64 (limb (a) 0 : Nat), .int .u64 (limb (a) 1 : Nat), .int .u64 (limb (a) 2 : Nat), .int .u64 (limb (a) 3 : Nat)]) ∧ Below w.heap.size w w' := fun w => by
      have k := to_ref (redN m (a * 1)) m (Nat.lt_trans rl hm) m0 hm w
      rw [red_up m _ hodd, Nat.mul_one, Nat.mod_eq_of_lt hA] at k
      rw [Nat.mul_one]
      exact k
    by_cases hB : b < m
    · have pl : redN m (a * b) < m := red_lt m _ m0
      have kup : ∀ w, Calls Try.prog 31 #[.agg #[.int .u64 (limb (redN m (a * b)) 0 : Nat), .int .u64 (limb (redN m (a * b)) 1 : Nat), .int .u64 (limb (redN m (a * b)) 2 : Nat), .int .u64 (limb (redN m (a * b)) 3 : Nat)], .agg #[.int .u64 (limb (m) 0 : Nat), .int .u64 (limb (m) 1 : Nat), .int .u64 (limb (m) 2 : Nat), .int .u64 (limb (m) 3 : Nat)]] w fun e w' => e = .returned (.agg #[.int .u64 (limb (a * b % m) 0 : Nat), .int .u64 (limb (a * b % m) 1 : Nat), .int .u64 (limb (a * b % m) 2 : Nat), .int .u64 (limb (a * b % m) 3 : Nat)]) ∧ Below w.heap.size w w' := fun w => by
        have k := to_ref (redN m (a * b)) m (Nat.lt_trans pl hm) m0 hm w
        rw [red_up m _ hodd] at k
        exact k
      exact monts_in m a b (redN m (a * b)) (a * R256 % m) (redN m (a * 1)) (R256 * R256 % m) (a * b % m) (-1) (-1) (newmont_ok m hm hodd h1) ko (fun g c hc w hM => mmul_ok g m _ c a b hA hB hm hodd hc w hM) kto kfrom kd (kless a hA) (kless b hB) (to_ref a m ha m0 hm) kback (kless _ rl) kup (product_ref a b m ha hb m0 hm) (kless _ pl) rfl rfl w
    · refine monts_nb m a b 0 (a * R256 % m) (redN m (a * 1)) (R256 * R256 % m) (-1) (cmpN b m) (newmont_ok m hm hodd h1) ko (fun g c hc w hM => ?_) kto kfrom kd (kless a hA) (kany b hb) (to_ref a m ha m0 hm) kback (kless _ rl) zz rfl (cmpN_not b m hB) w
      rw [limb_nought, limb_nought, limb_nought, limb_nought]
      exact mmul_bad2 g m _ c a b hA (Nat.le_of_not_lt hB) hb hm w hM
  · have hle := Nat.le_of_not_lt hA
    refine monts_na m a b 0 0 0 (R256 * R256 % m) (cmpN a m) (cmpN b m) (newmont_ok m hm hodd h1) ko (fun g c hc w hM => ?_) (fun g c hc w hM => ?_) (fun g c hc w hM => ?_) kd (kany a ha) (kany b hb) zz zz zz (cmpN_not a m hA) _ rfl w
    · rw [limb_nought, limb_nought, limb_nought, limb_nought]
      exact mmul_bad1 g m _ c a b hle ha hm w hM
    · refine mto_go g m _ c a 0 1 (fun w h => ?_) w hM
      rw [limb_nought, limb_nought, limb_nought, limb_nought]
      exact mmul_bad1 g m _ c a _ hle ha hm w h
    · refine mfrom_go g m _ c a 0 1 (fun w h => ?_) w hM
      have k := mmul_bad1 g m _ c a 1 hle ha hm w h
      rw [limb_one.1, limb_one.2.1, limb_one.2.2.1, limb_one.2.2.2] at k
      rw [limb_nought, limb_nought, limb_nought, limb_nought]
      exact k
end Go.Proofs.Ytaigpginoakdfaa
