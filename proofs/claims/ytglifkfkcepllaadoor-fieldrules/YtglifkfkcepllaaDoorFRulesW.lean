/- The walk of the statement FieldRules. -/
import Derived.Test.YtglifkfkcepllaaDoorFieldM
import Derived.Test.YtglifkfkcepllaaDoorFieldL
import Derived.Test.YtglifkfkcepllaaDoorRef2F
import Derived.Test.YtglifkfkcepllaaDoorThree
namespace Go.Proofs.YtglifkfkcepllaaDoor
open Go.RowKit
attribute [local go_sem] run_eq4

set_option maxRecDepth 100000 in
set_option maxHeartbeats 8000000 in
theorem rules_go (base : Bool) (m ta tb tc a b c ab abc bc ac s lf n zr i : Nat)
    (k1 : ∀ w, Glob w → GlobQ w → Calls Tryd.prog 9 #[.bool base] w fun e w' => ∃ g, e = .returned (.tuple #[.pointer (some ⟨g, 0, none⟩), .agg #[.int .u64 (limb m 0 : Nat), .int .u64 (limb m 1 : Nat), .int .u64 (limb m 2 : Nat), .int .u64 (limb m 3 : Nat), .int .u64 (limb (R256 - m) 0 : Nat), .int .u64 (limb (R256 - m) 1 : Nat), .int .u64 (limb (R256 - m) 2 : Nat), .int .u64 (limb (R256 - m) 3 : Nat)]]) ∧ FieldB w' g m ∧ Below w.heap.size w w')
    (k2 : ∀ w, Calls Tryd.prog 36 #[.agg #[.int .u64 (limb m 0 : Nat), .int .u64 (limb m 1 : Nat), .int .u64 (limb m 2 : Nat), .int .u64 (limb m 3 : Nat), .int .u64 (limb (R256 - m) 0 : Nat), .int .u64 (limb (R256 - m) 1 : Nat), .int .u64 (limb (R256 - m) 2 : Nat), .int .u64 (limb (R256 - m) 3 : Nat)], .agg #[.int .u64 (limb (ta) 0 : Nat), .int .u64 (limb (ta) 1 : Nat), .int .u64 (limb (ta) 2 : Nat), .int .u64 (limb (ta) 3 : Nat)]] w fun e w' => e = .returned (.agg #[.int .u64 (limb (a) 0 : Nat), .int .u64 (limb (a) 1 : Nat), .int .u64 (limb (a) 2 : Nat), .int .u64 (limb (a) 3 : Nat)]) ∧ Below w.heap.size w w')
    (k3 : ∀ w, Calls Tryd.prog 36 #[.agg #[.int .u64 (limb m 0 : Nat), .int .u64 (limb m 1 : Nat), .int .u64 (limb m 2 : Nat), .int .u64 (limb m 3 : Nat), .int .u64 (limb (R256 - m) 0 : Nat), .int .u64 (limb (R256 - m) 1 : Nat), .int .u64 (limb (R256 - m) 2 : Nat), .int .u64 (limb (R256 - m) 3 : Nat)], .agg #[.int .u64 (limb (tb) 0 : Nat), .int .u64 (limb (tb) 1 : Nat), .int .u64 (limb (tb) 2 : Nat), .int .u64 (limb (tb) 3 : Nat)]] w fun e w' => e = .returned (.agg #[.int .u64 (limb (b) 0 : Nat), .int .u64 (limb (b) 1 : Nat), .int .u64 (limb (b) 2 : Nat), .int .u64 (limb (b) 3 : Nat)]) ∧ Below w.heap.size w w')
    (k4 : ∀ w, Calls Tryd.prog 36 #[.agg #[.int .u64 (limb m 0 : Nat), .int .u64 (limb m 1 : Nat), .int .u64 (limb m 2 : Nat), .int .u64 (limb m 3 : Nat), .int .u64 (limb (R256 - m) 0 : Nat), .int .u64 (limb (R256 - m) 1 : Nat), .int .u64 (limb (R256 - m) 2 : Nat), .int .u64 (limb (R256 - m) 3 : Nat)], .agg #[.int .u64 (limb (tc) 0 : Nat), .int .u64 (limb (tc) 1 : Nat), .int .u64 (limb (tc) 2 : Nat), .int .u64 (limb (tc) 3 : Nat)]] w fun e w' => e = .returned (.agg #[.int .u64 (limb (c) 0 : Nat), .int .u64 (limb (c) 1 : Nat), .int .u64 (limb (c) 2 : Nat), .int .u64 (limb (c) 3 : Nat)]) ∧ Below w.heap.size w w')
    (k5 : ∀ (g : Nat) (w : World), FieldB w g m → Calls Tryd.prog 20 #[.pointer (some ⟨g, 0, none⟩), .agg #[.int .u64 (limb (a) 0 : Nat), .int .u64 (limb (a) 1 : Nat), .int .u64 (limb (a) 2 : Nat), .int .u64 (limb (a) 3 : Nat)], .agg #[.int .u64 (limb (b) 0 : Nat), .int .u64 (limb (b) 1 : Nat), .int .u64 (limb (b) 2 : Nat), .int .u64 (limb (b) 3 : Nat)]] w fun e w' => e = .returned (.tuple #[.agg #[.int .u64 (limb (ab) 0 : Nat), .int .u64 (limb (ab) 1 : Nat), .int .u64 (limb (ab) 2 : Nat), .int .u64 (limb (ab) 3 : Nat)], .int .i64 0]) ∧ Below w.heap.size w w')
    (k6 : ∀ (g : Nat) (w : World), FieldB w g m → Calls Tryd.prog 20 #[.pointer (some ⟨g, 0, none⟩), .agg #[.int .u64 (limb (b) 0 : Nat), .int .u64 (limb (b) 1 : Nat), .int .u64 (limb (b) 2 : Nat), .int .u64 (limb (b) 3 : Nat)], .agg #[.int .u64 (limb (a) 0 : Nat), .int .u64 (limb (a) 1 : Nat), .int .u64 (limb (a) 2 : Nat), .int .u64 (limb (a) 3 : Nat)]] w fun e w' => e = .returned (.tuple #[.agg #[.int .u64 (limb (ab) 0 : Nat), .int .u64 (limb (ab) 1 : Nat), .int .u64 (limb (ab) 2 : Nat), .int .u64 (limb (ab) 3 : Nat)], .int .i64 0]) ∧ Below w.heap.size w w')
    (k7 : ∀ (g : Nat) (w : World), FieldB w g m → Calls Tryd.prog 20 #[.pointer (some ⟨g, 0, none⟩), .agg #[.int .u64 (limb (ab) 0 : Nat), .int .u64 (limb (ab) 1 : Nat), .int .u64 (limb (ab) 2 : Nat), .int .u64 (limb (ab) 3 : Nat)], .agg #[.int .u64 (limb (c) 0 : Nat), .int .u64 (limb (c) 1 : Nat), .int .u64 (limb (c) 2 : Nat), .int .u64 (limb (c) 3 : Nat)]] w fun e w' => e = .returned (.tuple #[.agg #[.int .u64 (limb (abc) 0 : Nat), .int .u64 (limb (abc) 1 : Nat), .int .u64 (limb (abc) 2 : Nat), .int .u64 (limb (abc) 3 : Nat)], .int .i64 0]) ∧ Below w.heap.size w w')
    (k8 : ∀ (g : Nat) (w : World), FieldB w g m → Calls Tryd.prog 20 #[.pointer (some ⟨g, 0, none⟩), .agg #[.int .u64 (limb (b) 0 : Nat), .int .u64 (limb (b) 1 : Nat), .int .u64 (limb (b) 2 : Nat), .int .u64 (limb (b) 3 : Nat)], .agg #[.int .u64 (limb (c) 0 : Nat), .int .u64 (limb (c) 1 : Nat), .int .u64 (limb (c) 2 : Nat), .int .u64 (limb (c) 3 : Nat)]] w fun e w' => e = .returned (.tuple #[.agg #[.int .u64 (limb (bc) 0 : Nat), .int .u64 (limb (bc) 1 : Nat), .int .u64 (limb (bc) 2 : Nat), .int .u64 (limb (bc) 3 : Nat)], .int .i64 0]) ∧ Below w.heap.size w w')
    (k9 : ∀ (g : Nat) (w : World), FieldB w g m → Calls Tryd.prog 20 #[.pointer (some ⟨g, 0, none⟩), .agg #[.int .u64 (limb (a) 0 : Nat), .int .u64 (limb (a) 1 : Nat), .int .u64 (limb (a) 2 : Nat), .int .u64 (limb (a) 3 : Nat)], .agg #[.int .u64 (limb (bc) 0 : Nat), .int .u64 (limb (bc) 1 : Nat), .int .u64 (limb (bc) 2 : Nat), .int .u64 (limb (bc) 3 : Nat)]] w fun e w' => e = .returned (.tuple #[.agg #[.int .u64 (limb (abc) 0 : Nat), .int .u64 (limb (abc) 1 : Nat), .int .u64 (limb (abc) 2 : Nat), .int .u64 (limb (abc) 3 : Nat)], .int .i64 0]) ∧ Below w.heap.size w w')
    (k10 : ∀ (g : Nat) (w : World), FieldB w g m → Calls Tryd.prog 20 #[.pointer (some ⟨g, 0, none⟩), .agg #[.int .u64 (limb (a) 0 : Nat), .int .u64 (limb (a) 1 : Nat), .int .u64 (limb (a) 2 : Nat), .int .u64 (limb (a) 3 : Nat)], .agg #[.int .u64 (limb (c) 0 : Nat), .int .u64 (limb (c) 1 : Nat), .int .u64 (limb (c) 2 : Nat), .int .u64 (limb (c) 3 : Nat)]] w fun e w' => e = .returned (.tuple #[.agg #[.int .u64 (limb (ac) 0 : Nat), .int .u64 (limb (ac) 1 : Nat), .int .u64 (limb (ac) 2 : Nat), .int .u64 (limb (ac) 3 : Nat)], .int .i64 0]) ∧ Below w.heap.size w w')
    (k11 : ∀ (g : Nat) (w : World), FieldB w g m → Calls Tryd.prog 10 #[.pointer (some ⟨g, 0, none⟩), .agg #[.int .u64 (limb (b) 0 : Nat), .int .u64 (limb (b) 1 : Nat), .int .u64 (limb (b) 2 : Nat), .int .u64 (limb (b) 3 : Nat)], .agg #[.int .u64 (limb (c) 0 : Nat), .int .u64 (limb (c) 1 : Nat), .int .u64 (limb (c) 2 : Nat), .int .u64 (limb (c) 3 : Nat)]] w fun e w' => e = .returned (.tuple #[.agg #[.int .u64 (limb (s) 0 : Nat), .int .u64 (limb (s) 1 : Nat), .int .u64 (limb (s) 2 : Nat), .int .u64 (limb (s) 3 : Nat)], .int .i64 0]) ∧ Below w.heap.size w w')
    (k12 : ∀ (g : Nat) (w : World), FieldB w g m → Calls Tryd.prog 20 #[.pointer (some ⟨g, 0, none⟩), .agg #[.int .u64 (limb (a) 0 : Nat), .int .u64 (limb (a) 1 : Nat), .int .u64 (limb (a) 2 : Nat), .int .u64 (limb (a) 3 : Nat)], .agg #[.int .u64 (limb (s) 0 : Nat), .int .u64 (limb (s) 1 : Nat), .int .u64 (limb (s) 2 : Nat), .int .u64 (limb (s) 3 : Nat)]] w fun e w' => e = .returned (.tuple #[.agg #[.int .u64 (limb (lf) 0 : Nat), .int .u64 (limb (lf) 1 : Nat), .int .u64 (limb (lf) 2 : Nat), .int .u64 (limb (lf) 3 : Nat)], .int .i64 0]) ∧ Below w.heap.size w w')
    (k13 : ∀ (g : Nat) (w : World), FieldB w g m → Calls Tryd.prog 10 #[.pointer (some ⟨g, 0, none⟩), .agg #[.int .u64 (limb (ab) 0 : Nat), .int .u64 (limb (ab) 1 : Nat), .int .u64 (limb (ab) 2 : Nat), .int .u64 (limb (ab) 3 : Nat)], .agg #[.int .u64 (limb (ac) 0 : Nat), .int .u64 (limb (ac) 1 : Nat), .int .u64 (limb (ac) 2 : Nat), .int .u64 (limb (ac) 3 : Nat)]] w fun e w' => e = .returned (.tuple #[.agg #[.int .u64 (limb (lf) 0 : Nat), .int .u64 (limb (lf) 1 : Nat), .int .u64 (limb (lf) 2 : Nat), .int .u64 (limb (lf) 3 : Nat)], .int .i64 0]) ∧ Below w.heap.size w w')
    (k14 : ∀ (g : Nat) (w : World), FieldB w g m → Calls Tryd.prog 12 #[.pointer (some ⟨g, 0, none⟩), .agg #[.int .u64 (limb (a) 0 : Nat), .int .u64 (limb (a) 1 : Nat), .int .u64 (limb (a) 2 : Nat), .int .u64 (limb (a) 3 : Nat)]] w fun e w' => e = .returned (.tuple #[.agg #[.int .u64 (limb (n) 0 : Nat), .int .u64 (limb (n) 1 : Nat), .int .u64 (limb (n) 2 : Nat), .int .u64 (limb (n) 3 : Nat)], .int .i64 0]) ∧ Below w.heap.size w w')
    (k15 : ∀ (g : Nat) (w : World), FieldB w g m → Calls Tryd.prog 10 #[.pointer (some ⟨g, 0, none⟩), .agg #[.int .u64 (limb (a) 0 : Nat), .int .u64 (limb (a) 1 : Nat), .int .u64 (limb (a) 2 : Nat), .int .u64 (limb (a) 3 : Nat)], .agg #[.int .u64 (limb (n) 0 : Nat), .int .u64 (limb (n) 1 : Nat), .int .u64 (limb (n) 2 : Nat), .int .u64 (limb (n) 3 : Nat)]] w fun e w' => e = .returned (.tuple #[.agg #[.int .u64 (limb (zr) 0 : Nat), .int .u64 (limb (zr) 1 : Nat), .int .u64 (limb (zr) 2 : Nat), .int .u64 (limb (zr) 3 : Nat)], .int .i64 0]) ∧ Below w.heap.size w w')
    (k16 : ∀ (g : Nat) (w : World), FieldB w g m → Calls Tryd.prog 20 #[.pointer (some ⟨g, 0, none⟩), .agg #[.int .u64 (limb (a) 0 : Nat), .int .u64 (limb (a) 1 : Nat), .int .u64 (limb (a) 2 : Nat), .int .u64 (limb (a) 3 : Nat)], .agg #[.int .u64 1, .int .u64 0, .int .u64 0, .int .u64 0]] w fun e w' => e = .returned (.tuple #[.agg #[.int .u64 (limb (a) 0 : Nat), .int .u64 (limb (a) 1 : Nat), .int .u64 (limb (a) 2 : Nat), .int .u64 (limb (a) 3 : Nat)], .int .i64 0]) ∧ Below w.heap.size w w')
    (k17 : ∀ (g : Nat) (w : World), FieldB w g m → Calls Tryd.prog 27 #[.pointer (some ⟨g, 0, none⟩), .agg #[.int .u64 (limb (a) 0 : Nat), .int .u64 (limb (a) 1 : Nat), .int .u64 (limb (a) 2 : Nat), .int .u64 (limb (a) 3 : Nat)]] w fun e w' => e = .returned (.tuple #[.agg #[.int .u64 (limb (i) 0 : Nat), .int .u64 (limb (i) 1 : Nat), .int .u64 (limb (i) 2 : Nat), .int .u64 (limb (i) 3 : Nat)], .int .i64 0]) ∧ Below w.heap.size w w')
    (k18 : ∀ (g : Nat) (w : World), FieldB w g m → Calls Tryd.prog 20 #[.pointer (some ⟨g, 0, none⟩), .agg #[.int .u64 (limb (a) 0 : Nat), .int .u64 (limb (a) 1 : Nat), .int .u64 (limb (a) 2 : Nat), .int .u64 (limb (a) 3 : Nat)], .agg #[.int .u64 (limb (i) 0 : Nat), .int .u64 (limb (i) 1 : Nat), .int .u64 (limb (i) 2 : Nat), .int .u64 (limb (i) 3 : Nat)]] w fun e w' => e = .returned (.tuple #[.agg #[.int .u64 1, .int .u64 0, .int .u64 0, .int .u64 0], .int .i64 0]) ∧ Below w.heap.size w w')
    (ez : eq4 (limb zr 0 : Nat) (limb zr 1 : Nat) (limb zr 2 : Nat) (limb zr 3 : Nat) 0 0 0 0 = true) (ea : eq4 (limb a 0 : Nat) (limb a 1 : Nat) (limb a 2 : Nat) (limb a 3 : Nat) 0 0 0 0 = false) (w : World) (hG : Glob w) (hQ : GlobQ w) : Calls Tryd.prog 8 #[.bool base, .agg #[.int .u64 (limb ta 0 : Nat), .int .u64 (limb ta 1 : Nat), .int .u64 (limb ta 2 : Nat), .int .u64 (limb ta 3 : Nat), .int .u64 (limb tb 0 : Nat), .int .u64 (limb tb 1 : Nat), .int .u64 (limb tb 2 : Nat), .int .u64 (limb tb 3 : Nat), .int .u64 (limb tc 0 : Nat), .int .u64 (limb tc 1 : Nat), .int .u64 (limb tc 2 : Nat), .int .u64 (limb tc 3 : Nat)]] w fun e w' => e = .returned (.bool true) ∧ Below w.heap.size w w' := by
  have HG : Hid (Glob w ∧ GlobQ w) := ⟨hG, hQ⟩
  have K1 : Hid _ := k1
  have K2 : Hid _ := k2
  have K3 : Hid _ := k3
  have K4 : Hid _ := k4
  have K5 : Hid _ := k5
  have K6 : Hid _ := k6
  have K7 : Hid _ := k7
  have K8 : Hid _ := k8
  have K9 : Hid _ := k9
  have K10 : Hid _ := k10
  have K11 : Hid _ := k11
  have K12 : Hid _ := k12
  have K13 : Hid _ := k13
  have K14 : Hid _ := k14
  have K15 : Hid _ := k15
  have K16 : Hid _ := k16
  have K17 : Hid _ := k17
  have K18 : Hid _ := k18
  have eab_ : eq4 (limb ab 0 : Nat) (limb ab 1 : Nat) (limb ab 2 : Nat) (limb ab 3 : Nat) (limb ab 0 : Nat) (limb ab 1 : Nat) (limb ab 2 : Nat) (limb ab 3 : Nat) = true := by simp [eq4]
  have eabc_ : eq4 (limb abc 0 : Nat) (limb abc 1 : Nat) (limb abc 2 : Nat) (limb abc 3 : Nat) (limb abc 0 : Nat) (limb abc 1 : Nat) (limb abc 2 : Nat) (limb abc 3 : Nat) = true := by simp [eq4]
  have elf_ : eq4 (limb lf 0 : Nat) (limb lf 1 : Nat) (limb lf 2 : Nat) (limb lf 3 : Nat) (limb lf 0 : Nat) (limb lf 1 : Nat) (limb lf 2 : Nat) (limb lf 3 : Nat) = true := by simp [eq4]
  have ea_ : eq4 (limb a 0 : Nat) (limb a 1 : Nat) (limb a 2 : Nat) (limb a 3 : Nat) (limb a 0 : Nat) (limb a 1 : Nat) (limb a 2 : Nat) (limb a 3 : Nat) = true := by simp [eq4]
  have e1 : eq4 1 0 0 0 1 0 0 0 = true := rfl
  clear hG hQ k1 k2 k3 k4 k5 k6 k7 k8 k9 k10 k11 k12 k13 k14 k15 k16 k17 k18
  go_enter Tryd.func8, Tryd.ntmps8
  go_wp2_with fail
  refine (K1.out _ (Glob.alloc HG.out.1) (GlobQ.alloc HG.out.2)).mono ?_
  rintro e w1 ⟨g, rfl, hF1, hb1⟩
  have HW1 : Hid (Below w.heap.size w w1) := below_call0 (below_alloc0 (Below.refl _ _) _) hb1
  have HG1 : Hid (Glob w1) := Glob.call (Glob.alloc HG.out.1) hb1
  have HF1 : Hid (FieldB w1 g m) := hF1
  have HT1 : Hid (T3 w1 w.heap.size ta tb tc) := T3.call (T3.new w ta tb tc _) hb1
  clear hb1
  clear hF1
  obtain ⟨⟨ta0, ta1, ta2, ta3⟩, ⟨tb0, tb1, tb2, tb3⟩, ⟨tc0, tc1, tc2, tc3⟩, tz⟩ := (HT1.out).facts
  go_wp2_with fail
  refine (K2.out _).mono ?_
  rintro e w2 ⟨rfl, hb2⟩
  have HW2 : Hid (Below w.heap.size w w2) := below_acall HW1.out hb2
  have HG2 : Hid (Glob w2) := Glob.call (Glob.alloc HG1.out) hb2
  have HF2 : Hid (FieldB w2 g m) := FieldB.call (FieldB.alloc HF1.out) hb2
  have HT2 : Hid (T3 w2 w.heap.size ta tb tc) := T3.call (T3.alloc HT1.out) hb2
  have HS2 : Hid (FieldB w2 w1.heap.size m) := FieldB.call (FieldB.new w1 m _) hb2
  clear hb2
  clear HW1 HG1 HF1 HT1
  clear ta0 ta1 ta2 ta3 tb0 tb1 tb2 tb3 tc0 tc1 tc2 tc3 tz
  obtain ⟨⟨ta0, ta1, ta2, ta3⟩, ⟨tb0, tb1, tb2, tb3⟩, ⟨tc0, tc1, tc2, tc3⟩, tz⟩ := (HT2.out).facts
  obtain ⟨sm0, sm1, sm2, sm3⟩ := (HS2.out).1.facts
  obtain ⟨sg0, sg1, sg2, sg3⟩ := (HS2.out).gap
  have sz := (HS2.out).2.2
  go_wp2_with fail
  refine (K3.out _).mono ?_
  rintro e w3 ⟨rfl, hb3⟩
  have HA3 : Hid (NS w3 w2.heap.size a) := NS.ncall hb3
  have HW3 : Hid (Below w.heap.size w w3) := below_acall HW2.out hb3
  have HG3 : Hid (Glob w3) := Glob.call (Glob.alloc HG2.out) hb3
  have HF3 : Hid (FieldB w3 g m) := FieldB.call (FieldB.alloc HF2.out) hb3
  have HT3 : Hid (T3 w3 w.heap.size ta tb tc) := T3.call (T3.alloc HT2.out) hb3
  have HS3 : Hid (FieldB w3 w1.heap.size m) := FieldB.call (FieldB.alloc HS2.out) hb3
  clear hb3
  clear HW2 HG2 HF2 HT2 HS2
  clear ta0 ta1 ta2 ta3 tb0 tb1 tb2 tb3 tc0 tc1 tc2 tc3 tz sm0 sg0 sm1 sg1 sm2 sg2 sm3 sg3 sz
  obtain ⟨⟨ta0, ta1, ta2, ta3⟩, ⟨tb0, tb1, tb2, tb3⟩, ⟨tc0, tc1, tc2, tc3⟩, tz⟩ := (HT3.out).facts
  obtain ⟨sm0, sm1, sm2, sm3⟩ := (HS3.out).1.facts
  obtain ⟨sg0, sg1, sg2, sg3⟩ := (HS3.out).gap
  have sz := (HS3.out).2.2
  go_wp2_with fail
  refine (K4.out _).mono ?_
  rintro e w4 ⟨rfl, hb4⟩
  have HA4 : Hid (NS w4 (w2.heap.size) a) := NS.acall HA3.out hb4
  have HB4 : Hid (NS w4 w3.heap.size b) := NS.ncall hb4
  have HW4 : Hid (Below w.heap.size w w4) := below_acall HW3.out hb4
  have HG4 : Hid (Glob w4) := Glob.call (Glob.alloc HG3.out) hb4
  have HF4 : Hid (FieldB w4 g m) := FieldB.call (FieldB.alloc HF3.out) hb4
  clear hb4
  clear HA3 HW3 HG3 HF3 HT3 HS3
  clear ta0 ta1 ta2 ta3 tb0 tb1 tb2 tb3 tc0 tc1 tc2 tc3 tz sm0 sg0 sm1 sg1 sm2 sg2 sm3 sg3 sz
  obtain ⟨⟨aa0, aa1, aa2, aa3⟩, aaz⟩ := HA4.out.facts
  obtain ⟨⟨bb0, bb1, bb2, bb3⟩, bbz⟩ := HB4.out.facts
  go_wp2_with fail
  refine (K5.out g _ (FieldB.alloc HF4.out)).mono ?_
  rintro e w5 ⟨rfl, hb5⟩
  have HA5 : Hid (NS w5 (w2.heap.size) a) := NS.acall HA4.out hb5
  have HB5 : Hid (NS w5 (w3.heap.size) b) := NS.acall HB4.out hb5
  have HC5 : Hid (NS w5 w4.heap.size c) := NS.ncall hb5
  have HW5 : Hid (Below w.heap.size w w5) := below_acall HW4.out hb5
  have HG5 : Hid (Glob w5) := Glob.call (Glob.alloc HG4.out) hb5
  have HF5 : Hid (FieldB w5 g m) := FieldB.call (FieldB.alloc HF4.out) hb5
  clear hb5
  clear HA4 HB4 HW4 HG4 HF4
  clear aa0 aa1 aa2 aa3 aaz bb0 bb1 bb2 bb3 bbz
  obtain ⟨⟨aa0, aa1, aa2, aa3⟩, aaz⟩ := HA5.out.facts
  obtain ⟨⟨bb0, bb1, bb2, bb3⟩, bbz⟩ := HB5.out.facts
  go_wp2_with fail
  refine (K6.out g _ (FieldB.alloc HF5.out)).mono ?_
  rintro e w6 ⟨rfl, hb6⟩
  have HA6 : Hid (NS w6 (w2.heap.size) a) := NS.acall HA5.out hb6
  have HB6 : Hid (NS w6 (w3.heap.size) b) := NS.acall HB5.out hb6
  have HC6 : Hid (NS w6 (w4.heap.size) c) := NS.acall HC5.out hb6
  have HD6 : Hid (NS w6 w5.heap.size ab) := NS.ncall hb6
  have HW6 : Hid (Below w.heap.size w w6) := below_acall HW5.out hb6
  have HG6 : Hid (Glob w6) := Glob.call (Glob.alloc HG5.out) hb6
  have HF6 : Hid (FieldB w6 g m) := FieldB.call (FieldB.alloc HF5.out) hb6
  clear hb6
  clear HA5 HB5 HC5 HW5 HG5 HF5
  clear aa0 aa1 aa2 aa3 aaz bb0 bb1 bb2 bb3 bbz
  obtain ⟨⟨cc0, cc1, cc2, cc3⟩, ccz⟩ := HC6.out.facts
  obtain ⟨⟨dd0, dd1, dd2, dd3⟩, ddz⟩ := HD6.out.facts
  go_wp2_with fail
  refine (K7.out g _ (FieldB.alloc HF6.out)).mono ?_
  rintro e w7 ⟨rfl, hb7⟩
  have HA7 : Hid (NS w7 (w2.heap.size) a) := NS.acall HA6.out hb7
  have HB7 : Hid (NS w7 (w3.heap.size) b) := NS.acall HB6.out hb7
  have HC7 : Hid (NS w7 (w4.heap.size) c) := NS.acall HC6.out hb7
  have HD7 : Hid (NS w7 (w5.heap.size) ab) := NS.acall HD6.out hb7
  have HE7 : Hid (NS w7 w6.heap.size ab) := NS.ncall hb7
  have HW7 : Hid (Below w.heap.size w w7) := below_acall HW6.out hb7
  have HG7 : Hid (Glob w7) := Glob.call (Glob.alloc HG6.out) hb7
  have HF7 : Hid (FieldB w7 g m) := FieldB.call (FieldB.alloc HF6.out) hb7
  clear hb7
  clear HA6 HB6 HC6 HD6 HW6 HG6 HF6
  clear cc0 cc1 cc2 cc3 ccz dd0 dd1 dd2 dd3 ddz
  obtain ⟨⟨bb0, bb1, bb2, bb3⟩, bbz⟩ := HB7.out.facts
  obtain ⟨⟨cc0, cc1, cc2, cc3⟩, ccz⟩ := HC7.out.facts
  go_wp2_with fail
  refine (K8.out g _ (FieldB.alloc HF7.out)).mono ?_
  rintro e w8 ⟨rfl, hb8⟩
  have HA8 : Hid (NS w8 (w2.heap.size) a) := NS.acall HA7.out hb8
  have HB8 : Hid (NS w8 (w3.heap.size) b) := NS.acall HB7.out hb8
  have HC8 : Hid (NS w8 (w4.heap.size) c) := NS.acall HC7.out hb8
  have HD8 : Hid (NS w8 (w5.heap.size) ab) := NS.acall HD7.out hb8
  have HE8 : Hid (NS w8 (w6.heap.size) ab) := NS.acall HE7.out hb8
  have HH8 : Hid (NS w8 w7.heap.size abc) := NS.ncall hb8
  have HW8 : Hid (Below w.heap.size w w8) := below_acall HW7.out hb8
  have HG8 : Hid (Glob w8) := Glob.call (Glob.alloc HG7.out) hb8
  have HF8 : Hid (FieldB w8 g m) := FieldB.call (FieldB.alloc HF7.out) hb8
  clear hb8
  clear HA7 HB7 HC7 HD7 HE7 HW7 HG7 HF7
  clear bb0 bb1 bb2 bb3 bbz cc0 cc1 cc2 cc3 ccz
  obtain ⟨⟨aa0, aa1, aa2, aa3⟩, aaz⟩ := HA8.out.facts
  go_wp2_with fail
  refine (K9.out g _ (FieldB.alloc HF8.out)).mono ?_
  rintro e w9 ⟨rfl, hb9⟩
  have HA9 : Hid (NS w9 (w2.heap.size) a) := NS.acall HA8.out hb9
  have HB9 : Hid (NS w9 (w3.heap.size) b) := NS.acall HB8.out hb9
  have HC9 : Hid (NS w9 (w4.heap.size) c) := NS.acall HC8.out hb9
  have HD9 : Hid (NS w9 (w5.heap.size) ab) := NS.acall HD8.out hb9
  have HE9 : Hid (NS w9 (w6.heap.size) ab) := NS.acall HE8.out hb9
  have HH9 : Hid (NS w9 (w7.heap.size) abc) := NS.acall HH8.out hb9
  have HW9 : Hid (Below w.heap.size w w9) := below_acall HW8.out hb9
  have HG9 : Hid (Glob w9) := Glob.call (Glob.alloc HG8.out) hb9
  have HF9 : Hid (FieldB w9 g m) := FieldB.call (FieldB.alloc HF8.out) hb9
  clear hb9
  clear HA8 HB8 HC8 HD8 HE8 HH8 HW8 HG8 HF8
  clear aa0 aa1 aa2 aa3 aaz
  obtain ⟨⟨aa0, aa1, aa2, aa3⟩, aaz⟩ := HA9.out.facts
  obtain ⟨⟨cc0, cc1, cc2, cc3⟩, ccz⟩ := HC9.out.facts
  go_wp2_with fail
  refine (K10.out g _ (FieldB.alloc HF9.out)).mono ?_
  rintro e w10 ⟨rfl, hb10⟩
  have HA10 : Hid (NS w10 (w2.heap.size) a) := NS.acall HA9.out hb10
  have HB10 : Hid (NS w10 (w3.heap.size) b) := NS.acall HB9.out hb10
  have HC10 : Hid (NS w10 (w4.heap.size) c) := NS.acall HC9.out hb10
  have HD10 : Hid (NS w10 (w5.heap.size) ab) := NS.acall HD9.out hb10
  have HE10 : Hid (NS w10 (w6.heap.size) ab) := NS.acall HE9.out hb10
  have HH10 : Hid (NS w10 (w7.heap.size) abc) := NS.acall HH9.out hb10
  have HJ10 : Hid (NS w10 w9.heap.size abc) := NS.ncall hb10
  have HW10 : Hid (Below w.heap.size w w10) := below_acall HW9.out hb10
  have HG10 : Hid (Glob w10) := Glob.call (Glob.alloc HG9.out) hb10
  have HF10 : Hid (FieldB w10 g m) := FieldB.call (FieldB.alloc HF9.out) hb10
  clear hb10
  clear HA9 HB9 HC9 HD9 HE9 HH9 HW9 HG9 HF9
  clear aa0 aa1 aa2 aa3 aaz cc0 cc1 cc2 cc3 ccz
  obtain ⟨⟨bb0, bb1, bb2, bb3⟩, bbz⟩ := HB10.out.facts
  obtain ⟨⟨cc0, cc1, cc2, cc3⟩, ccz⟩ := HC10.out.facts
  go_wp2_with fail
  refine (K11.out g _ (FieldB.alloc HF10.out)).mono ?_
  rintro e w11 ⟨rfl, hb11⟩
  have HA11 : Hid (NS w11 (w2.heap.size) a) := NS.acall HA10.out hb11
  have HD11 : Hid (NS w11 (w5.heap.size) ab) := NS.acall HD10.out hb11
  have HE11 : Hid (NS w11 (w6.heap.size) ab) := NS.acall HE10.out hb11
  have HH11 : Hid (NS w11 (w7.heap.size) abc) := NS.acall HH10.out hb11
  have HJ11 : Hid (NS w11 (w9.heap.size) abc) := NS.acall HJ10.out hb11
  have HL11 : Hid (NS w11 w10.heap.size ac) := NS.ncall hb11
  have HW11 : Hid (Below w.heap.size w w11) := below_acall HW10.out hb11
  have HG11 : Hid (Glob w11) := Glob.call (Glob.alloc HG10.out) hb11
  have HF11 : Hid (FieldB w11 g m) := FieldB.call (FieldB.alloc HF10.out) hb11
  clear hb11
  clear HA10 HB10 HC10 HD10 HE10 HH10 HJ10 HW10 HG10 HF10
  clear bb0 bb1 bb2 bb3 bbz cc0 cc1 cc2 cc3 ccz
  obtain ⟨⟨aa0, aa1, aa2, aa3⟩, aaz⟩ := HA11.out.facts
  go_wp2_with fail
  refine (K12.out g _ (FieldB.alloc HF11.out)).mono ?_
  rintro e w12 ⟨rfl, hb12⟩
  have HA12 : Hid (NS w12 (w2.heap.size) a) := NS.acall HA11.out hb12
  have HD12 : Hid (NS w12 (w5.heap.size) ab) := NS.acall HD11.out hb12
  have HE12 : Hid (NS w12 (w6.heap.size) ab) := NS.acall HE11.out hb12
  have HH12 : Hid (NS w12 (w7.heap.size) abc) := NS.acall HH11.out hb12
  have HJ12 : Hid (NS w12 (w9.heap.size) abc) := NS.acall HJ11.out hb12
  have HL12 : Hid (NS w12 (w10.heap.size) ac) := NS.acall HL11.out hb12
  have HW12 : Hid (Below w.heap.size w w12) := below_acall HW11.out hb12
  have HG12 : Hid (Glob w12) := Glob.call (Glob.alloc HG11.out) hb12
  have HF12 : Hid (FieldB w12 g m) := FieldB.call (FieldB.alloc HF11.out) hb12
  clear hb12
  clear HA11 HD11 HE11 HH11 HJ11 HL11 HW11 HG11 HF11
  clear aa0 aa1 aa2 aa3 aaz
  obtain ⟨⟨dd0, dd1, dd2, dd3⟩, ddz⟩ := HD12.out.facts
  obtain ⟨⟨ll0, ll1, ll2, ll3⟩, llz⟩ := HL12.out.facts
  go_wp2_with fail
  refine (K13.out g _ (FieldB.alloc HF12.out)).mono ?_
  rintro e w13 ⟨rfl, hb13⟩
  have HA13 : Hid (NS w13 (w2.heap.size) a) := NS.acall HA12.out hb13
  have HD13 : Hid (NS w13 (w5.heap.size) ab) := NS.acall HD12.out hb13
  have HE13 : Hid (NS w13 (w6.heap.size) ab) := NS.acall HE12.out hb13
  have HH13 : Hid (NS w13 (w7.heap.size) abc) := NS.acall HH12.out hb13
  have HJ13 : Hid (NS w13 (w9.heap.size) abc) := NS.acall HJ12.out hb13
  have HN13 : Hid (NS w13 w12.heap.size lf) := NS.ncall hb13
  have HW13 : Hid (Below w.heap.size w w13) := below_acall HW12.out hb13
  have HG13 : Hid (Glob w13) := Glob.call (Glob.alloc HG12.out) hb13
  have HF13 : Hid (FieldB w13 g m) := FieldB.call (FieldB.alloc HF12.out) hb13
  clear hb13
  clear HA12 HD12 HE12 HH12 HJ12 HL12 HW12 HG12 HF12
  clear dd0 dd1 dd2 dd3 ddz ll0 ll1 ll2 ll3 llz
  obtain ⟨⟨aa0, aa1, aa2, aa3⟩, aaz⟩ := HA13.out.facts
  go_wp2_with fail
  refine (K14.out g _ (FieldB.alloc HF13.out)).mono ?_
  rintro e w14 ⟨rfl, hb14⟩
  have HA14 : Hid (NS w14 (w2.heap.size) a) := NS.acall HA13.out hb14
  have HD14 : Hid (NS w14 (w5.heap.size) ab) := NS.acall HD13.out hb14
  have HE14 : Hid (NS w14 (w6.heap.size) ab) := NS.acall HE13.out hb14
  have HH14 : Hid (NS w14 (w7.heap.size) abc) := NS.acall HH13.out hb14
  have HJ14 : Hid (NS w14 (w9.heap.size) abc) := NS.acall HJ13.out hb14
  have HN14 : Hid (NS w14 (w12.heap.size) lf) := NS.acall HN13.out hb14
  have HO14 : Hid (NS w14 w13.heap.size lf) := NS.ncall hb14
  have HW14 : Hid (Below w.heap.size w w14) := below_acall HW13.out hb14
  have HG14 : Hid (Glob w14) := Glob.call (Glob.alloc HG13.out) hb14
  have HF14 : Hid (FieldB w14 g m) := FieldB.call (FieldB.alloc HF13.out) hb14
  clear hb14
  clear HA13 HD13 HE13 HH13 HJ13 HN13 HW13 HG13 HF13
  clear aa0 aa1 aa2 aa3 aaz
  obtain ⟨⟨aa0, aa1, aa2, aa3⟩, aaz⟩ := HA14.out.facts
  go_wp2_with fail
  refine (K15.out g _ (FieldB.alloc HF14.out)).mono ?_
  rintro e w15 ⟨rfl, hb15⟩
  have HA15 : Hid (NS w15 (w2.heap.size) a) := NS.acall HA14.out hb15
  have HD15 : Hid (NS w15 (w5.heap.size) ab) := NS.acall HD14.out hb15
  have HE15 : Hid (NS w15 (w6.heap.size) ab) := NS.acall HE14.out hb15
  have HH15 : Hid (NS w15 (w7.heap.size) abc) := NS.acall HH14.out hb15
  have HJ15 : Hid (NS w15 (w9.heap.size) abc) := NS.acall HJ14.out hb15
  have HN15 : Hid (NS w15 (w12.heap.size) lf) := NS.acall HN14.out hb15
  have HO15 : Hid (NS w15 (w13.heap.size) lf) := NS.acall HO14.out hb15
  have HW15 : Hid (Below w.heap.size w w15) := below_acall HW14.out hb15
  have HG15 : Hid (Glob w15) := Glob.call (Glob.alloc HG14.out) hb15
  have HF15 : Hid (FieldB w15 g m) := FieldB.call (FieldB.alloc HF14.out) hb15
  clear hb15
  clear HA14 HD14 HE14 HH14 HJ14 HN14 HO14 HW14 HG14 HF14
  clear aa0 aa1 aa2 aa3 aaz
  obtain ⟨⟨aa0, aa1, aa2, aa3⟩, aaz⟩ := HA15.out.facts
  go_wp2_with fail
  refine (K16.out g _ (FieldB.alloc HF15.out)).mono ?_
  rintro e w16 ⟨rfl, hb16⟩
  have HA16 : Hid (NS w16 (w2.heap.size) a) := NS.acall HA15.out hb16
  have HD16 : Hid (NS w16 (w5.heap.size) ab) := NS.acall HD15.out hb16
  have HE16 : Hid (NS w16 (w6.heap.size) ab) := NS.acall HE15.out hb16
  have HH16 : Hid (NS w16 (w7.heap.size) abc) := NS.acall HH15.out hb16
  have HJ16 : Hid (NS w16 (w9.heap.size) abc) := NS.acall HJ15.out hb16
  have HN16 : Hid (NS w16 (w12.heap.size) lf) := NS.acall HN15.out hb16
  have HO16 : Hid (NS w16 (w13.heap.size) lf) := NS.acall HO15.out hb16
  have HR16 : Hid (NS w16 w15.heap.size zr) := NS.ncall hb16
  have HW16 : Hid (Below w.heap.size w w16) := below_acall HW15.out hb16
  have HG16 : Hid (Glob w16) := Glob.call (Glob.alloc HG15.out) hb16
  have HF16 : Hid (FieldB w16 g m) := FieldB.call (FieldB.alloc HF15.out) hb16
  clear hb16
  clear HA15 HD15 HE15 HH15 HJ15 HN15 HO15 HW15 HG15 HF15
  clear aa0 aa1 aa2 aa3 aaz
  obtain ⟨⟨aa0, aa1, aa2, aa3⟩, aaz⟩ := HA16.out.facts
  go_wp2_with fail
  refine (K17.out g _ (FieldB.alloc HF16.out)).mono ?_
  rintro e w17 ⟨rfl, hb17⟩
  have HA17 : Hid (NS w17 (w2.heap.size) a) := NS.acall HA16.out hb17
  have HD17 : Hid (NS w17 (w5.heap.size) ab) := NS.acall HD16.out hb17
  have HE17 : Hid (NS w17 (w6.heap.size) ab) := NS.acall HE16.out hb17
  have HH17 : Hid (NS w17 (w7.heap.size) abc) := NS.acall HH16.out hb17
  have HJ17 : Hid (NS w17 (w9.heap.size) abc) := NS.acall HJ16.out hb17
  have HN17 : Hid (NS w17 (w12.heap.size) lf) := NS.acall HN16.out hb17
  have HO17 : Hid (NS w17 (w13.heap.size) lf) := NS.acall HO16.out hb17
  have HR17 : Hid (NS w17 (w15.heap.size) zr) := NS.acall HR16.out hb17
  have HU17 : Hid (NS w17 w16.heap.size a) := NS.ncall hb17
  have HW17 : Hid (Below w.heap.size w w17) := below_acall HW16.out hb17
  have HG17 : Hid (Glob w17) := Glob.call (Glob.alloc HG16.out) hb17
  have HF17 : Hid (FieldB w17 g m) := FieldB.call (FieldB.alloc HF16.out) hb17
  clear hb17
  clear HA16 HD16 HE16 HH16 HJ16 HN16 HO16 HR16 HW16 HG16 HF16
  clear aa0 aa1 aa2 aa3 aaz
  obtain ⟨⟨aa0, aa1, aa2, aa3⟩, aaz⟩ := HA17.out.facts
  go_wp2_with fail
  refine (K18.out g _ (FieldB.alloc HF17.out)).mono ?_
  rintro e w18 ⟨rfl, hb18⟩
  have HA18 : Hid (NS w18 (w2.heap.size) a) := NS.acall HA17.out hb18
  have HD18 : Hid (NS w18 (w5.heap.size) ab) := NS.acall HD17.out hb18
  have HE18 : Hid (NS w18 (w6.heap.size) ab) := NS.acall HE17.out hb18
  have HH18 : Hid (NS w18 (w7.heap.size) abc) := NS.acall HH17.out hb18
  have HJ18 : Hid (NS w18 (w9.heap.size) abc) := NS.acall HJ17.out hb18
  have HN18 : Hid (NS w18 (w12.heap.size) lf) := NS.acall HN17.out hb18
  have HO18 : Hid (NS w18 (w13.heap.size) lf) := NS.acall HO17.out hb18
  have HR18 : Hid (NS w18 (w15.heap.size) zr) := NS.acall HR17.out hb18
  have HU18 : Hid (NS w18 (w16.heap.size) a) := NS.acall HU17.out hb18
  have HW18 : Hid (Below w.heap.size w w18) := below_acall HW17.out hb18
  have HG18 : Hid (Glob w18) := Glob.call (Glob.alloc HG17.out) hb18
  clear hb18
  clear HA17 HD17 HE17 HH17 HJ17 HN17 HO17 HR17 HU17 HW17 HG17 HF17
  clear aa0 aa1 aa2 aa3 aaz
  obtain ⟨⟨aa0, aa1, aa2, aa3⟩, aaz⟩ := HA18.out.facts
  obtain ⟨⟨dd0, dd1, dd2, dd3⟩, ddz⟩ := HD18.out.facts
  obtain ⟨⟨ee0, ee1, ee2, ee3⟩, eez⟩ := HE18.out.facts
  obtain ⟨⟨hh0, hh1, hh2, hh3⟩, hhz⟩ := HH18.out.facts
  obtain ⟨⟨jj0, jj1, jj2, jj3⟩, jjz⟩ := HJ18.out.facts
  obtain ⟨⟨nn0, nn1, nn2, nn3⟩, nnz⟩ := HN18.out.facts
  obtain ⟨⟨oo0, oo1, oo2, oo3⟩, ooz⟩ := HO18.out.facts
  obtain ⟨⟨rr0, rr1, rr2, rr3⟩, rrz⟩ := HR18.out.facts
  obtain ⟨⟨uu0, uu1, uu2, uu3⟩, uuz⟩ := HU18.out.facts
  go_wp2_with fail
  refine (half_any _ (Glob.alloc HG18.out)).mono ?_
  rintro e w19 ⟨rfl, hb19⟩
  have HW19 : Hid (Below w.heap.size w w19) := below_acall HW18.out hb19
  clear hb19
  clear HA18 HD18 HE18 HH18 HJ18 HN18 HO18 HR18 HU18 HW18 HG18
  clear aa0 aa1 aa2 aa3 aaz dd0 dd1 dd2 dd3 ddz ee0 ee1 ee2 ee3 eez hh0 hh1 hh2 hh3 hhz jj0 jj1 jj2 jj3 jjz nn0 nn1 nn2 nn3 nnz oo0 oo1 oo2 oo3 ooz rr0 rr1 rr2 rr3 rrz uu0 uu1 uu2 uu3 uuz
  go_wp2_with fail
  go_ret
  exact ⟨rfl, HW19.out⟩

set_option maxRecDepth 100000 in
set_option maxHeartbeats 8000000 in
theorem rules_zero (base : Bool) (m ta tb tc a b c ab abc bc ac s lf n zr : Nat)
    (k1 : ∀ w, Glob w → GlobQ w → Calls Tryd.prog 9 #[.bool base] w fun e w' => ∃ g, e = .returned (.tuple #[.pointer (some ⟨g, 0, none⟩), .agg #[.int .u64 (limb m 0 : Nat), .int .u64 (limb m 1 : Nat), .int .u64 (limb m 2 : Nat), .int .u64 (limb m 3 : Nat), .int .u64 (limb (R256 - m) 0 : Nat), .int .u64 (limb (R256 - m) 1 : Nat), .int .u64 (limb (R256 - m) 2 : Nat), .int .u64 (limb (R256 - m) 3 : Nat)]]) ∧ FieldB w' g m ∧ Below w.heap.size w w')
    (k2 : ∀ w, Calls Tryd.prog 36 #[.agg #[.int .u64 (limb m 0 : Nat), .int .u64 (limb m 1 : Nat), .int .u64 (limb m 2 : Nat), .int .u64 (limb m 3 : Nat), .int .u64 (limb (R256 - m) 0 : Nat), .int .u64 (limb (R256 - m) 1 : Nat), .int .u64 (limb (R256 - m) 2 : Nat), .int .u64 (limb (R256 - m) 3 : Nat)], .agg #[.int .u64 (limb (ta) 0 : Nat), .int .u64 (limb (ta) 1 : Nat), .int .u64 (limb (ta) 2 : Nat), .int .u64 (limb (ta) 3 : Nat)]] w fun e w' => e = .returned (.agg #[.int .u64 (limb (a) 0 : Nat), .int .u64 (limb (a) 1 : Nat), .int .u64 (limb (a) 2 : Nat), .int .u64 (limb (a) 3 : Nat)]) ∧ Below w.heap.size w w')
    (k3 : ∀ w, Calls Tryd.prog 36 #[.agg #[.int .u64 (limb m 0 : Nat), .int .u64 (limb m 1 : Nat), .int .u64 (limb m 2 : Nat), .int .u64 (limb m 3 : Nat), .int .u64 (limb (R256 - m) 0 : Nat), .int .u64 (limb (R256 - m) 1 : Nat), .int .u64 (limb (R256 - m) 2 : Nat), .int .u64 (limb (R256 - m) 3 : Nat)], .agg #[.int .u64 (limb (tb) 0 : Nat), .int .u64 (limb (tb) 1 : Nat), .int .u64 (limb (tb) 2 : Nat), .int .u64 (limb (tb) 3 : Nat)]] w fun e w' => e = .returned (.agg #[.int .u64 (limb (b) 0 : Nat), .int .u64 (limb (b) 1 : Nat), .int .u64 (limb (b) 2 : Nat), .int .u64 (limb (b) 3 : Nat)]) ∧ Below w.heap.size w w')
    (k4 : ∀ w, Calls Tryd.prog 36 #[.agg #[.int .u64 (limb m 0 : Nat), .int .u64 (limb m 1 : Nat), .int .u64 (limb m 2 : Nat), .int .u64 (limb m 3 : Nat), .int .u64 (limb (R256 - m) 0 : Nat), .int .u64 (limb (R256 - m) 1 : Nat), .int .u64 (limb (R256 - m) 2 : Nat), .int .u64 (limb (R256 - m) 3 : Nat)], .agg #[.int .u64 (limb (tc) 0 : Nat), .int .u64 (limb (tc) 1 : Nat), .int .u64 (limb (tc) 2 : Nat), .int .u64 (limb (tc) 3 : Nat)]] w fun e w' => e = .returned (.agg #[.int .u64 (limb (c) 0 : Nat), .int .u64 (limb (c) 1 : Nat), .int .u64 (limb (c) 2 : Nat), .int .u64 (limb (c) 3 : Nat)]) ∧ Below w.heap.size w w')
    (k5 : ∀ (g : Nat) (w : World), FieldB w g m → Calls Tryd.prog 20 #[.pointer (some ⟨g, 0, none⟩), .agg #[.int .u64 (limb (a) 0 : Nat), .int .u64 (limb (a) 1 : Nat), .int .u64 (limb (a) 2 : Nat), .int .u64 (limb (a) 3 : Nat)], .agg #[.int .u64 (limb (b) 0 : Nat), .int .u64 (limb (b) 1 : Nat), .int .u64 (limb (b) 2 : Nat), .int .u64 (limb (b) 3 : Nat)]] w fun e w' => e = .returned (.tuple #[.agg #[.int .u64 (limb (ab) 0 : Nat), .int .u64 (limb (ab) 1 : Nat), .int .u64 (limb (ab) 2 : Nat), .int .u64 (limb (ab) 3 : Nat)], .int .i64 0]) ∧ Below w.heap.size w w')
    (k6 : ∀ (g : Nat) (w : World), FieldB w g m → Calls Tryd.prog 20 #[.pointer (some ⟨g, 0, none⟩), .agg #[.int .u64 (limb (b) 0 : Nat), .int .u64 (limb (b) 1 : Nat), .int .u64 (limb (b) 2 : Nat), .int .u64 (limb (b) 3 : Nat)], .agg #[.int .u64 (limb (a) 0 : Nat), .int .u64 (limb (a) 1 : Nat), .int .u64 (limb (a) 2 : Nat), .int .u64 (limb (a) 3 : Nat)]] w fun e w' => e = .returned (.tuple #[.agg #[.int .u64 (limb (ab) 0 : Nat), .int .u64 (limb (ab) 1 : Nat), .int .u64 (limb (ab) 2 : Nat), .int .u64 (limb (ab) 3 : Nat)], .int .i64 0]) ∧ Below w.heap.size w w')
    (k7 : ∀ (g : Nat) (w : World), FieldB w g m → Calls Tryd.prog 20 #[.pointer (some ⟨g, 0, none⟩), .agg #[.int .u64 (limb (ab) 0 : Nat), .int .u64 (limb (ab) 1 : Nat), .int .u64 (limb (ab) 2 : Nat), .int .u64 (limb (ab) 3 : Nat)], .agg #[.int .u64 (limb (c) 0 : Nat), .int .u64 (limb (c) 1 : Nat), .int .u64 (limb (c) 2 : Nat), .int .u64 (limb (c) 3 : Nat)]] w fun e w' => e = .returned (.tuple #[.agg #[.int .u64 (limb (abc) 0 : Nat), .int .u64 (limb (abc) 1 : Nat), .int .u64 (limb (abc) 2 : Nat), .int .u64 (limb (abc) 3 : Nat)], .int .i64 0]) ∧ Below w.heap.size w w')
    (k8 : ∀ (g : Nat) (w : World), FieldB w g m → Calls Tryd.prog 20 #[.pointer (some ⟨g, 0, none⟩), .agg #[.int .u64 (limb (b) 0 : Nat), .int .u64 (limb (b) 1 : Nat), .int .u64 (limb (b) 2 : Nat), .int .u64 (limb (b) 3 : Nat)], .agg #[.int .u64 (limb (c) 0 : Nat), .int .u64 (limb (c) 1 : Nat), .int .u64 (limb (c) 2 : Nat), .int .u64 (limb (c) 3 : Nat)]] w fun e w' => e = .returned (.tuple #[.agg #[.int .u64 (limb (bc) 0 : Nat), .int .u64 (limb (bc) 1 : Nat), .int .u64 (limb (bc) 2 : Nat), .int .u64 (limb (bc) 3 : Nat)], .int .i64 0]) ∧ Below w.heap.size w w')
    (k9 : ∀ (g : Nat) (w : World), FieldB w g m → Calls Tryd.prog 20 #[.pointer (some ⟨g, 0, none⟩), .agg #[.int .u64 (limb (a) 0 : Nat), .int .u64 (limb (a) 1 : Nat), .int .u64 (limb (a) 2 : Nat), .int .u64 (limb (a) 3 : Nat)], .agg #[.int .u64 (limb (bc) 0 : Nat), .int .u64 (limb (bc) 1 : Nat), .int .u64 (limb (bc) 2 : Nat), .int .u64 (limb (bc) 3 : Nat)]] w fun e w' => e = .returned (.tuple #[.agg #[.int .u64 (limb (abc) 0 : Nat), .int .u64 (limb (abc) 1 : Nat), .int .u64 (limb (abc) 2 : Nat), .int .u64 (limb (abc) 3 : Nat)], .int .i64 0]) ∧ Below w.heap.size w w')
    (k10 : ∀ (g : Nat) (w : World), FieldB w g m → Calls Tryd.prog 20 #[.pointer (some ⟨g, 0, none⟩), .agg #[.int .u64 (limb (a) 0 : Nat), .int .u64 (limb (a) 1 : Nat), .int .u64 (limb (a) 2 : Nat), .int .u64 (limb (a) 3 : Nat)], .agg #[.int .u64 (limb (c) 0 : Nat), .int .u64 (limb (c) 1 : Nat), .int .u64 (limb (c) 2 : Nat), .int .u64 (limb (c) 3 : Nat)]] w fun e w' => e = .returned (.tuple #[.agg #[.int .u64 (limb (ac) 0 : Nat), .int .u64 (limb (ac) 1 : Nat), .int .u64 (limb (ac) 2 : Nat), .int .u64 (limb (ac) 3 : Nat)], .int .i64 0]) ∧ Below w.heap.size w w')
    (k11 : ∀ (g : Nat) (w : World), FieldB w g m → Calls Tryd.prog 10 #[.pointer (some ⟨g, 0, none⟩), .agg #[.int .u64 (limb (b) 0 : Nat), .int .u64 (limb (b) 1 : Nat), .int .u64 (limb (b) 2 : Nat), .int .u64 (limb (b) 3 : Nat)], .agg #[.int .u64 (limb (c) 0 : Nat), .int .u64 (limb (c) 1 : Nat), .int .u64 (limb (c) 2 : Nat), .int .u64 (limb (c) 3 : Nat)]] w fun e w' => e = .returned (.tuple #[.agg #[.int .u64 (limb (s) 0 : Nat), .int .u64 (limb (s) 1 : Nat), .int .u64 (limb (s) 2 : Nat), .int .u64 (limb (s) 3 : Nat)], .int .i64 0]) ∧ Below w.heap.size w w')
    (k12 : ∀ (g : Nat) (w : World), FieldB w g m → Calls Tryd.prog 20 #[.pointer (some ⟨g, 0, none⟩), .agg #[.int .u64 (limb (a) 0 : Nat), .int .u64 (limb (a) 1 : Nat), .int .u64 (limb (a) 2 : Nat), .int .u64 (limb (a) 3 : Nat)], .agg #[.int .u64 (limb (s) 0 : Nat), .int .u64 (limb (s) 1 : Nat), .int .u64 (limb (s) 2 : Nat), .int .u64 (limb (s) 3 : Nat)]] w fun e w' => e = .returned (.tuple #[.agg #[.int .u64 (limb (lf) 0 : Nat), .int .u64 (limb (lf) 1 : Nat), .int .u64 (limb (lf) 2 : Nat), .int .u64 (limb (lf) 3 : Nat)], .int .i64 0]) ∧ Below w.heap.size w w')
    (k13 : ∀ (g : Nat) (w : World), FieldB w g m → Calls Tryd.prog 10 #[.pointer (some ⟨g, 0, none⟩), .agg #[.int .u64 (limb (ab) 0 : Nat), .int .u64 (limb (ab) 1 : Nat), .int .u64 (limb (ab) 2 : Nat), .int .u64 (limb (ab) 3 : Nat)], .agg #[.int .u64 (limb (ac) 0 : Nat), .int .u64 (limb (ac) 1 : Nat), .int .u64 (limb (ac) 2 : Nat), .int .u64 (limb (ac) 3 : Nat)]] w fun e w' => e = .returned (.tuple #[.agg #[.int .u64 (limb (lf) 0 : Nat), .int .u64 (limb (lf) 1 : Nat), .int .u64 (limb (lf) 2 : Nat), .int .u64 (limb (lf) 3 : Nat)], .int .i64 0]) ∧ Below w.heap.size w w')
    (k14 : ∀ (g : Nat) (w : World), FieldB w g m → Calls Tryd.prog 12 #[.pointer (some ⟨g, 0, none⟩), .agg #[.int .u64 (limb (a) 0 : Nat), .int .u64 (limb (a) 1 : Nat), .int .u64 (limb (a) 2 : Nat), .int .u64 (limb (a) 3 : Nat)]] w fun e w' => e = .returned (.tuple #[.agg #[.int .u64 (limb (n) 0 : Nat), .int .u64 (limb (n) 1 : Nat), .int .u64 (limb (n) 2 : Nat), .int .u64 (limb (n) 3 : Nat)], .int .i64 0]) ∧ Below w.heap.size w w')
    (k15 : ∀ (g : Nat) (w : World), FieldB w g m → Calls Tryd.prog 10 #[.pointer (some ⟨g, 0, none⟩), .agg #[.int .u64 (limb (a) 0 : Nat), .int .u64 (limb (a) 1 : Nat), .int .u64 (limb (a) 2 : Nat), .int .u64 (limb (a) 3 : Nat)], .agg #[.int .u64 (limb (n) 0 : Nat), .int .u64 (limb (n) 1 : Nat), .int .u64 (limb (n) 2 : Nat), .int .u64 (limb (n) 3 : Nat)]] w fun e w' => e = .returned (.tuple #[.agg #[.int .u64 (limb (zr) 0 : Nat), .int .u64 (limb (zr) 1 : Nat), .int .u64 (limb (zr) 2 : Nat), .int .u64 (limb (zr) 3 : Nat)], .int .i64 0]) ∧ Below w.heap.size w w')
    (k16 : ∀ (g : Nat) (w : World), FieldB w g m → Calls Tryd.prog 20 #[.pointer (some ⟨g, 0, none⟩), .agg #[.int .u64 (limb (a) 0 : Nat), .int .u64 (limb (a) 1 : Nat), .int .u64 (limb (a) 2 : Nat), .int .u64 (limb (a) 3 : Nat)], .agg #[.int .u64 1, .int .u64 0, .int .u64 0, .int .u64 0]] w fun e w' => e = .returned (.tuple #[.agg #[.int .u64 (limb (a) 0 : Nat), .int .u64 (limb (a) 1 : Nat), .int .u64 (limb (a) 2 : Nat), .int .u64 (limb (a) 3 : Nat)], .int .i64 0]) ∧ Below w.heap.size w w')
    (k17 : ∀ (g : Nat) (w : World), FieldB w g m → Calls Tryd.prog 27 #[.pointer (some ⟨g, 0, none⟩), .agg #[.int .u64 (limb (a) 0 : Nat), .int .u64 (limb (a) 1 : Nat), .int .u64 (limb (a) 2 : Nat), .int .u64 (limb (a) 3 : Nat)]] w fun e w' => e = .returned (.tuple #[.agg #[.int .u64 0, .int .u64 0, .int .u64 0, .int .u64 0], .int .i64 21]) ∧ Below w.heap.size w w')
    (k18 : ∀ (g : Nat) (w : World), FieldB w g m → Calls Tryd.prog 20 #[.pointer (some ⟨g, 0, none⟩), .agg #[.int .u64 (limb (a) 0 : Nat), .int .u64 (limb (a) 1 : Nat), .int .u64 (limb (a) 2 : Nat), .int .u64 (limb (a) 3 : Nat)], .agg #[.int .u64 0, .int .u64 0, .int .u64 0, .int .u64 0]] w fun e w' => e = .returned (.tuple #[.agg #[.int .u64 0, .int .u64 0, .int .u64 0, .int .u64 0], .int .i64 0]) ∧ Below w.heap.size w w')
    (ez : eq4 (limb zr 0 : Nat) (limb zr 1 : Nat) (limb zr 2 : Nat) (limb zr 3 : Nat) 0 0 0 0 = true) (ea : eq4 (limb a 0 : Nat) (limb a 1 : Nat) (limb a 2 : Nat) (limb a 3 : Nat) 0 0 0 0 = true) (w : World) (hG : Glob w) (hQ : GlobQ w) : Calls Tryd.prog 8 #[.bool base, .agg #[.int .u64 (limb ta 0 : Nat), .int .u64 (limb ta 1 : Nat), .int .u64 (limb ta 2 : Nat), .int .u64 (limb ta 3 : Nat), .int .u64 (limb tb 0 : Nat), .int .u64 (limb tb 1 : Nat), .int .u64 (limb tb 2 : Nat), .int .u64 (limb tb 3 : Nat), .int .u64 (limb tc 0 : Nat), .int .u64 (limb tc 1 : Nat), .int .u64 (limb tc 2 : Nat), .int .u64 (limb tc 3 : Nat)]] w fun e w' => e = .returned (.bool true) ∧ Below w.heap.size w w' := by
  have HG : Hid (Glob w ∧ GlobQ w) := ⟨hG, hQ⟩
  have K1 : Hid _ := k1
  have K2 : Hid _ := k2
  have K3 : Hid _ := k3
  have K4 : Hid _ := k4
  have K5 : Hid _ := k5
  have K6 : Hid _ := k6
  have K7 : Hid _ := k7
  have K8 : Hid _ := k8
  have K9 : Hid _ := k9
  have K10 : Hid _ := k10
  have K11 : Hid _ := k11
  have K12 : Hid _ := k12
  have K13 : Hid _ := k13
  have K14 : Hid _ := k14
  have K15 : Hid _ := k15
  have K16 : Hid _ := k16
  have K17 : Hid _ := k17
  have K18 : Hid _ := k18
  have eab_ : eq4 (limb ab 0 : Nat) (limb ab 1 : Nat) (limb ab 2 : Nat) (limb ab 3 : Nat) (limb ab 0 : Nat) (limb ab 1 : Nat) (limb ab 2 : Nat) (limb ab 3 : Nat) = true := by simp [eq4]
  have eabc_ : eq4 (limb abc 0 : Nat) (limb abc 1 : Nat) (limb abc 2 : Nat) (limb abc 3 : Nat) (limb abc 0 : Nat) (limb abc 1 : Nat) (limb abc 2 : Nat) (limb abc 3 : Nat) = true := by simp [eq4]
  have elf_ : eq4 (limb lf 0 : Nat) (limb lf 1 : Nat) (limb lf 2 : Nat) (limb lf 3 : Nat) (limb lf 0 : Nat) (limb lf 1 : Nat) (limb lf 2 : Nat) (limb lf 3 : Nat) = true := by simp [eq4]
  have ea_ : eq4 (limb a 0 : Nat) (limb a 1 : Nat) (limb a 2 : Nat) (limb a 3 : Nat) (limb a 0 : Nat) (limb a 1 : Nat) (limb a 2 : Nat) (limb a 3 : Nat) = true := by simp [eq4]
  have e1 : eq4 1 0 0 0 1 0 0 0 = true := rfl
  clear hG hQ k1 k2 k3 k4 k5 k6 k7 k8 k9 k10 k11 k12 k13 k14 k15 k16 k17 k18
  go_enter Tryd.func8, Tryd.ntmps8
  go_wp2_with fail
  refine (K1.out _ (Glob.alloc HG.out.1) (GlobQ.alloc HG.out.2)).mono ?_
  rintro e w1 ⟨g, rfl, hF1, hb1⟩
  have HW1 : Hid (Below w.heap.size w w1) := below_call0 (below_alloc0 (Below.refl _ _) _) hb1
  have HG1 : Hid (Glob w1) := Glob.call (Glob.alloc HG.out.1) hb1
  have HF1 : Hid (FieldB w1 g m) := hF1
  have HT1 : Hid (T3 w1 w.heap.size ta tb tc) := T3.call (T3.new w ta tb tc _) hb1
  clear hb1
  clear hF1
  obtain ⟨⟨ta0, ta1, ta2, ta3⟩, ⟨tb0, tb1, tb2, tb3⟩, ⟨tc0, tc1, tc2, tc3⟩, tz⟩ := (HT1.out).facts
  go_wp2_with fail
  refine (K2.out _).mono ?_
  rintro e w2 ⟨rfl, hb2⟩
  have HW2 : Hid (Below w.heap.size w w2) := below_acall HW1.out hb2
  have HG2 : Hid (Glob w2) := Glob.call (Glob.alloc HG1.out) hb2
  have HF2 : Hid (FieldB w2 g m) := FieldB.call (FieldB.alloc HF1.out) hb2
  have HT2 : Hid (T3 w2 w.heap.size ta tb tc) := T3.call (T3.alloc HT1.out) hb2
  have HS2 : Hid (FieldB w2 w1.heap.size m) := FieldB.call (FieldB.new w1 m _) hb2
  clear hb2
  clear HW1 HG1 HF1 HT1
  clear ta0 ta1 ta2 ta3 tb0 tb1 tb2 tb3 tc0 tc1 tc2 tc3 tz
  obtain ⟨⟨ta0, ta1, ta2, ta3⟩, ⟨tb0, tb1, tb2, tb3⟩, ⟨tc0, tc1, tc2, tc3⟩, tz⟩ := (HT2.out).facts
  obtain ⟨sm0, sm1, sm2, sm3⟩ := (HS2.out).1.facts
  obtain ⟨sg0, sg1, sg2, sg3⟩ := (HS2.out).gap
  have sz := (HS2.out).2.2
  go_wp2_with fail
  refine (K3.out _).mono ?_
  rintro e w3 ⟨rfl, hb3⟩
  have HA3 : Hid (NS w3 w2.heap.size a) := NS.ncall hb3
  have HW3 : Hid (Below w.heap.size w w3) := below_acall HW2.out hb3
  have HG3 : Hid (Glob w3) := Glob.call (Glob.alloc HG2.out) hb3
  have HF3 : Hid (FieldB w3 g m) := FieldB.call (FieldB.alloc HF2.out) hb3
  have HT3 : Hid (T3 w3 w.heap.size ta tb tc) := T3.call (T3.alloc HT2.out) hb3
  have HS3 : Hid (FieldB w3 w1.heap.size m) := FieldB.call (FieldB.alloc HS2.out) hb3
  clear hb3
  clear HW2 HG2 HF2 HT2 HS2
  clear ta0 ta1 ta2 ta3 tb0 tb1 tb2 tb3 tc0 tc1 tc2 tc3 tz sm0 sg0 sm1 sg1 sm2 sg2 sm3 sg3 sz
  obtain ⟨⟨ta0, ta1, ta2, ta3⟩, ⟨tb0, tb1, tb2, tb3⟩, ⟨tc0, tc1, tc2, tc3⟩, tz⟩ := (HT3.out).facts
  obtain ⟨sm0, sm1, sm2, sm3⟩ := (HS3.out).1.facts
  obtain ⟨sg0, sg1, sg2, sg3⟩ := (HS3.out).gap
  have sz := (HS3.out).2.2
  go_wp2_with fail
  refine (K4.out _).mono ?_
  rintro e w4 ⟨rfl, hb4⟩
  have HA4 : Hid (NS w4 (w2.heap.size) a) := NS.acall HA3.out hb4
  have HB4 : Hid (NS w4 w3.heap.size b) := NS.ncall hb4
  have HW4 : Hid (Below w.heap.size w w4) := below_acall HW3.out hb4
  have HG4 : Hid (Glob w4) := Glob.call (Glob.alloc HG3.out) hb4
  have HF4 : Hid (FieldB w4 g m) := FieldB.call (FieldB.alloc HF3.out) hb4
  clear hb4
  clear HA3 HW3 HG3 HF3 HT3 HS3
  clear ta0 ta1 ta2 ta3 tb0 tb1 tb2 tb3 tc0 tc1 tc2 tc3 tz sm0 sg0 sm1 sg1 sm2 sg2 sm3 sg3 sz
  obtain ⟨⟨aa0, aa1, aa2, aa3⟩, aaz⟩ := HA4.out.facts
  obtain ⟨⟨bb0, bb1, bb2, bb3⟩, bbz⟩ := HB4.out.facts
  go_wp2_with fail
  refine (K5.out g _ (FieldB.alloc HF4.out)).mono ?_
  rintro e w5 ⟨rfl, hb5⟩
  have HA5 : Hid (NS w5 (w2.heap.size) a) := NS.acall HA4.out hb5
  have HB5 : Hid (NS w5 (w3.heap.size) b) := NS.acall HB4.out hb5
  have HC5 : Hid (NS w5 w4.heap.size c) := NS.ncall hb5
  have HW5 : Hid (Below w.heap.size w w5) := below_acall HW4.out hb5
  have HG5 : Hid (Glob w5) := Glob.call (Glob.alloc HG4.out) hb5
  have HF5 : Hid (FieldB w5 g m) := FieldB.call (FieldB.alloc HF4.out) hb5
  clear hb5
  clear HA4 HB4 HW4 HG4 HF4
  clear aa0 aa1 aa2 aa3 aaz bb0 bb1 bb2 bb3 bbz
  obtain ⟨⟨aa0, aa1, aa2, aa3⟩, aaz⟩ := HA5.out.facts
  obtain ⟨⟨bb0, bb1, bb2, bb3⟩, bbz⟩ := HB5.out.facts
  go_wp2_with fail
  refine (K6.out g _ (FieldB.alloc HF5.out)).mono ?_
  rintro e w6 ⟨rfl, hb6⟩
  have HA6 : Hid (NS w6 (w2.heap.size) a) := NS.acall HA5.out hb6
  have HB6 : Hid (NS w6 (w3.heap.size) b) := NS.acall HB5.out hb6
  have HC6 : Hid (NS w6 (w4.heap.size) c) := NS.acall HC5.out hb6
  have HD6 : Hid (NS w6 w5.heap.size ab) := NS.ncall hb6
  have HW6 : Hid (Below w.heap.size w w6) := below_acall HW5.out hb6
  have HG6 : Hid (Glob w6) := Glob.call (Glob.alloc HG5.out) hb6
  have HF6 : Hid (FieldB w6 g m) := FieldB.call (FieldB.alloc HF5.out) hb6
  clear hb6
  clear HA5 HB5 HC5 HW5 HG5 HF5
  clear aa0 aa1 aa2 aa3 aaz bb0 bb1 bb2 bb3 bbz
  obtain ⟨⟨cc0, cc1, cc2, cc3⟩, ccz⟩ := HC6.out.facts
  obtain ⟨⟨dd0, dd1, dd2, dd3⟩, ddz⟩ := HD6.out.facts
  go_wp2_with fail
  refine (K7.out g _ (FieldB.alloc HF6.out)).mono ?_
  rintro e w7 ⟨rfl, hb7⟩
  have HA7 : Hid (NS w7 (w2.heap.size) a) := NS.acall HA6.out hb7
  have HB7 : Hid (NS w7 (w3.heap.size) b) := NS.acall HB6.out hb7
  have HC7 : Hid (NS w7 (w4.heap.size) c) := NS.acall HC6.out hb7
  have HD7 : Hid (NS w7 (w5.heap.size) ab) := NS.acall HD6.out hb7
  have HE7 : Hid (NS w7 w6.heap.size ab) := NS.ncall hb7
  have HW7 : Hid (Below w.heap.size w w7) := below_acall HW6.out hb7
  have HG7 : Hid (Glob w7) := Glob.call (Glob.alloc HG6.out) hb7
  have HF7 : Hid (FieldB w7 g m) := FieldB.call (FieldB.alloc HF6.out) hb7
  clear hb7
  clear HA6 HB6 HC6 HD6 HW6 HG6 HF6
  clear cc0 cc1 cc2 cc3 ccz dd0 dd1 dd2 dd3 ddz
  obtain ⟨⟨bb0, bb1, bb2, bb3⟩, bbz⟩ := HB7.out.facts
  obtain ⟨⟨cc0, cc1, cc2, cc3⟩, ccz⟩ := HC7.out.facts
  go_wp2_with fail
  refine (K8.out g _ (FieldB.alloc HF7.out)).mono ?_
  rintro e w8 ⟨rfl, hb8⟩
  have HA8 : Hid (NS w8 (w2.heap.size) a) := NS.acall HA7.out hb8
  have HB8 : Hid (NS w8 (w3.heap.size) b) := NS.acall HB7.out hb8
  have HC8 : Hid (NS w8 (w4.heap.size) c) := NS.acall HC7.out hb8
  have HD8 : Hid (NS w8 (w5.heap.size) ab) := NS.acall HD7.out hb8
  have HE8 : Hid (NS w8 (w6.heap.size) ab) := NS.acall HE7.out hb8
  have HH8 : Hid (NS w8 w7.heap.size abc) := NS.ncall hb8
  have HW8 : Hid (Below w.heap.size w w8) := below_acall HW7.out hb8
  have HG8 : Hid (Glob w8) := Glob.call (Glob.alloc HG7.out) hb8
  have HF8 : Hid (FieldB w8 g m) := FieldB.call (FieldB.alloc HF7.out) hb8
  clear hb8
  clear HA7 HB7 HC7 HD7 HE7 HW7 HG7 HF7
  clear bb0 bb1 bb2 bb3 bbz cc0 cc1 cc2 cc3 ccz
  obtain ⟨⟨aa0, aa1, aa2, aa3⟩, aaz⟩ := HA8.out.facts
  go_wp2_with fail
  refine (K9.out g _ (FieldB.alloc HF8.out)).mono ?_
  rintro e w9 ⟨rfl, hb9⟩
  have HA9 : Hid (NS w9 (w2.heap.size) a) := NS.acall HA8.out hb9
  have HB9 : Hid (NS w9 (w3.heap.size) b) := NS.acall HB8.out hb9
  have HC9 : Hid (NS w9 (w4.heap.size) c) := NS.acall HC8.out hb9
  have HD9 : Hid (NS w9 (w5.heap.size) ab) := NS.acall HD8.out hb9
  have HE9 : Hid (NS w9 (w6.heap.size) ab) := NS.acall HE8.out hb9
  have HH9 : Hid (NS w9 (w7.heap.size) abc) := NS.acall HH8.out hb9
  have HW9 : Hid (Below w.heap.size w w9) := below_acall HW8.out hb9
  have HG9 : Hid (Glob w9) := Glob.call (Glob.alloc HG8.out) hb9
  have HF9 : Hid (FieldB w9 g m) := FieldB.call (FieldB.alloc HF8.out) hb9
  clear hb9
  clear HA8 HB8 HC8 HD8 HE8 HH8 HW8 HG8 HF8
  clear aa0 aa1 aa2 aa3 aaz
  obtain ⟨⟨aa0, aa1, aa2, aa3⟩, aaz⟩ := HA9.out.facts
  obtain ⟨⟨cc0, cc1, cc2, cc3⟩, ccz⟩ := HC9.out.facts
  go_wp2_with fail
  refine (K10.out g _ (FieldB.alloc HF9.out)).mono ?_
  rintro e w10 ⟨rfl, hb10⟩
  have HA10 : Hid (NS w10 (w2.heap.size) a) := NS.acall HA9.out hb10
  have HB10 : Hid (NS w10 (w3.heap.size) b) := NS.acall HB9.out hb10
  have HC10 : Hid (NS w10 (w4.heap.size) c) := NS.acall HC9.out hb10
  have HD10 : Hid (NS w10 (w5.heap.size) ab) := NS.acall HD9.out hb10
  have HE10 : Hid (NS w10 (w6.heap.size) ab) := NS.acall HE9.out hb10
  have HH10 : Hid (NS w10 (w7.heap.size) abc) := NS.acall HH9.out hb10
  have HJ10 : Hid (NS w10 w9.heap.size abc) := NS.ncall hb10
  have HW10 : Hid (Below w.heap.size w w10) := below_acall HW9.out hb10
  have HG10 : Hid (Glob w10) := Glob.call (Glob.alloc HG9.out) hb10
  have HF10 : Hid (FieldB w10 g m) := FieldB.call (FieldB.alloc HF9.out) hb10
  clear hb10
  clear HA9 HB9 HC9 HD9 HE9 HH9 HW9 HG9 HF9
  clear aa0 aa1 aa2 aa3 aaz cc0 cc1 cc2 cc3 ccz
  obtain ⟨⟨bb0, bb1, bb2, bb3⟩, bbz⟩ := HB10.out.facts
  obtain ⟨⟨cc0, cc1, cc2, cc3⟩, ccz⟩ := HC10.out.facts
  go_wp2_with fail
  refine (K11.out g _ (FieldB.alloc HF10.out)).mono ?_
  rintro e w11 ⟨rfl, hb11⟩
  have HA11 : Hid (NS w11 (w2.heap.size) a) := NS.acall HA10.out hb11
  have HD11 : Hid (NS w11 (w5.heap.size) ab) := NS.acall HD10.out hb11
  have HE11 : Hid (NS w11 (w6.heap.size) ab) := NS.acall HE10.out hb11
  have HH11 : Hid (NS w11 (w7.heap.size) abc) := NS.acall HH10.out hb11
  have HJ11 : Hid (NS w11 (w9.heap.size) abc) := NS.acall HJ10.out hb11
  have HL11 : Hid (NS w11 w10.heap.size ac) := NS.ncall hb11
  have HW11 : Hid (Below w.heap.size w w11) := below_acall HW10.out hb11
  have HG11 : Hid (Glob w11) := Glob.call (Glob.alloc HG10.out) hb11
  have HF11 : Hid (FieldB w11 g m) := FieldB.call (FieldB.alloc HF10.out) hb11
  clear hb11
  clear HA10 HB10 HC10 HD10 HE10 HH10 HJ10 HW10 HG10 HF10
  clear bb0 bb1 bb2 bb3 bbz cc0 cc1 cc2 cc3 ccz
  obtain ⟨⟨aa0, aa1, aa2, aa3⟩, aaz⟩ := HA11.out.facts
  go_wp2_with fail
  refine (K12.out g _ (FieldB.alloc HF11.out)).mono ?_
  rintro e w12 ⟨rfl, hb12⟩
  have HA12 : Hid (NS w12 (w2.heap.size) a) := NS.acall HA11.out hb12
  have HD12 : Hid (NS w12 (w5.heap.size) ab) := NS.acall HD11.out hb12
  have HE12 : Hid (NS w12 (w6.heap.size) ab) := NS.acall HE11.out hb12
  have HH12 : Hid (NS w12 (w7.heap.size) abc) := NS.acall HH11.out hb12
  have HJ12 : Hid (NS w12 (w9.heap.size) abc) := NS.acall HJ11.out hb12
  have HL12 : Hid (NS w12 (w10.heap.size) ac) := NS.acall HL11.out hb12
  have HW12 : Hid (Below w.heap.size w w12) := below_acall HW11.out hb12
  have HG12 : Hid (Glob w12) := Glob.call (Glob.alloc HG11.out) hb12
  have HF12 : Hid (FieldB w12 g m) := FieldB.call (FieldB.alloc HF11.out) hb12
  clear hb12
  clear HA11 HD11 HE11 HH11 HJ11 HL11 HW11 HG11 HF11
  clear aa0 aa1 aa2 aa3 aaz
  obtain ⟨⟨dd0, dd1, dd2, dd3⟩, ddz⟩ := HD12.out.facts
  obtain ⟨⟨ll0, ll1, ll2, ll3⟩, llz⟩ := HL12.out.facts
  go_wp2_with fail
  refine (K13.out g _ (FieldB.alloc HF12.out)).mono ?_
  rintro e w13 ⟨rfl, hb13⟩
  have HA13 : Hid (NS w13 (w2.heap.size) a) := NS.acall HA12.out hb13
  have HD13 : Hid (NS w13 (w5.heap.size) ab) := NS.acall HD12.out hb13
  have HE13 : Hid (NS w13 (w6.heap.size) ab) := NS.acall HE12.out hb13
  have HH13 : Hid (NS w13 (w7.heap.size) abc) := NS.acall HH12.out hb13
  have HJ13 : Hid (NS w13 (w9.heap.size) abc) := NS.acall HJ12.out hb13
  have HN13 : Hid (NS w13 w12.heap.size lf) := NS.ncall hb13
  have HW13 : Hid (Below w.heap.size w w13) := below_acall HW12.out hb13
  have HG13 : Hid (Glob w13) := Glob.call (Glob.alloc HG12.out) hb13
  have HF13 : Hid (FieldB w13 g m) := FieldB.call (FieldB.alloc HF12.out) hb13
  clear hb13
  clear HA12 HD12 HE12 HH12 HJ12 HL12 HW12 HG12 HF12
  clear dd0 dd1 dd2 dd3 ddz ll0 ll1 ll2 ll3 llz
  obtain ⟨⟨aa0, aa1, aa2, aa3⟩, aaz⟩ := HA13.out.facts
  go_wp2_with fail
  refine (K14.out g _ (FieldB.alloc HF13.out)).mono ?_
  rintro e w14 ⟨rfl, hb14⟩
  have HA14 : Hid (NS w14 (w2.heap.size) a) := NS.acall HA13.out hb14
  have HD14 : Hid (NS w14 (w5.heap.size) ab) := NS.acall HD13.out hb14
  have HE14 : Hid (NS w14 (w6.heap.size) ab) := NS.acall HE13.out hb14
  have HH14 : Hid (NS w14 (w7.heap.size) abc) := NS.acall HH13.out hb14
  have HJ14 : Hid (NS w14 (w9.heap.size) abc) := NS.acall HJ13.out hb14
  have HN14 : Hid (NS w14 (w12.heap.size) lf) := NS.acall HN13.out hb14
  have HO14 : Hid (NS w14 w13.heap.size lf) := NS.ncall hb14
  have HW14 : Hid (Below w.heap.size w w14) := below_acall HW13.out hb14
  have HG14 : Hid (Glob w14) := Glob.call (Glob.alloc HG13.out) hb14
  have HF14 : Hid (FieldB w14 g m) := FieldB.call (FieldB.alloc HF13.out) hb14
  clear hb14
  clear HA13 HD13 HE13 HH13 HJ13 HN13 HW13 HG13 HF13
  clear aa0 aa1 aa2 aa3 aaz
  obtain ⟨⟨aa0, aa1, aa2, aa3⟩, aaz⟩ := HA14.out.facts
  go_wp2_with fail
  refine (K15.out g _ (FieldB.alloc HF14.out)).mono ?_
  rintro e w15 ⟨rfl, hb15⟩
  have HA15 : Hid (NS w15 (w2.heap.size) a) := NS.acall HA14.out hb15
  have HD15 : Hid (NS w15 (w5.heap.size) ab) := NS.acall HD14.out hb15
  have HE15 : Hid (NS w15 (w6.heap.size) ab) := NS.acall HE14.out hb15
  have HH15 : Hid (NS w15 (w7.heap.size) abc) := NS.acall HH14.out hb15
  have HJ15 : Hid (NS w15 (w9.heap.size) abc) := NS.acall HJ14.out hb15
  have HN15 : Hid (NS w15 (w12.heap.size) lf) := NS.acall HN14.out hb15
  have HO15 : Hid (NS w15 (w13.heap.size) lf) := NS.acall HO14.out hb15
  have HW15 : Hid (Below w.heap.size w w15) := below_acall HW14.out hb15
  have HG15 : Hid (Glob w15) := Glob.call (Glob.alloc HG14.out) hb15
  have HF15 : Hid (FieldB w15 g m) := FieldB.call (FieldB.alloc HF14.out) hb15
  clear hb15
  clear HA14 HD14 HE14 HH14 HJ14 HN14 HO14 HW14 HG14 HF14
  clear aa0 aa1 aa2 aa3 aaz
  obtain ⟨⟨aa0, aa1, aa2, aa3⟩, aaz⟩ := HA15.out.facts
  go_wp2_with fail
  refine (K16.out g _ (FieldB.alloc HF15.out)).mono ?_
  rintro e w16 ⟨rfl, hb16⟩
  have HA16 : Hid (NS w16 (w2.heap.size) a) := NS.acall HA15.out hb16
  have HD16 : Hid (NS w16 (w5.heap.size) ab) := NS.acall HD15.out hb16
  have HE16 : Hid (NS w16 (w6.heap.size) ab) := NS.acall HE15.out hb16
  have HH16 : Hid (NS w16 (w7.heap.size) abc) := NS.acall HH15.out hb16
  have HJ16 : Hid (NS w16 (w9.heap.size) abc) := NS.acall HJ15.out hb16
  have HN16 : Hid (NS w16 (w12.heap.size) lf) := NS.acall HN15.out hb16
  have HO16 : Hid (NS w16 (w13.heap.size) lf) := NS.acall HO15.out hb16
  have HR16 : Hid (NS w16 w15.heap.size zr) := NS.ncall hb16
  have HW16 : Hid (Below w.heap.size w w16) := below_acall HW15.out hb16
  have HG16 : Hid (Glob w16) := Glob.call (Glob.alloc HG15.out) hb16
  have HF16 : Hid (FieldB w16 g m) := FieldB.call (FieldB.alloc HF15.out) hb16
  clear hb16
  clear HA15 HD15 HE15 HH15 HJ15 HN15 HO15 HW15 HG15 HF15
  clear aa0 aa1 aa2 aa3 aaz
  obtain ⟨⟨aa0, aa1, aa2, aa3⟩, aaz⟩ := HA16.out.facts
  go_wp2_with fail
  refine (K17.out g _ (FieldB.alloc HF16.out)).mono ?_
  rintro e w17 ⟨rfl, hb17⟩
  have HA17 : Hid (NS w17 (w2.heap.size) a) := NS.acall HA16.out hb17
  have HD17 : Hid (NS w17 (w5.heap.size) ab) := NS.acall HD16.out hb17
  have HE17 : Hid (NS w17 (w6.heap.size) ab) := NS.acall HE16.out hb17
  have HH17 : Hid (NS w17 (w7.heap.size) abc) := NS.acall HH16.out hb17
  have HJ17 : Hid (NS w17 (w9.heap.size) abc) := NS.acall HJ16.out hb17
  have HN17 : Hid (NS w17 (w12.heap.size) lf) := NS.acall HN16.out hb17
  have HO17 : Hid (NS w17 (w13.heap.size) lf) := NS.acall HO16.out hb17
  have HR17 : Hid (NS w17 (w15.heap.size) zr) := NS.acall HR16.out hb17
  have HU17 : Hid (NS w17 w16.heap.size a) := NS.ncall hb17
  have HW17 : Hid (Below w.heap.size w w17) := below_acall HW16.out hb17
  have HG17 : Hid (Glob w17) := Glob.call (Glob.alloc HG16.out) hb17
  have HF17 : Hid (FieldB w17 g m) := FieldB.call (FieldB.alloc HF16.out) hb17
  clear hb17
  clear HA16 HD16 HE16 HH16 HJ16 HN16 HO16 HR16 HW16 HG16 HF16
  clear aa0 aa1 aa2 aa3 aaz
  obtain ⟨⟨aa0, aa1, aa2, aa3⟩, aaz⟩ := HA17.out.facts
  go_wp2_with fail
  refine (K18.out g _ (FieldB.alloc HF17.out)).mono ?_
  rintro e w18 ⟨rfl, hb18⟩
  have HA18 : Hid (NS w18 (w2.heap.size) a) := NS.acall HA17.out hb18
  have HD18 : Hid (NS w18 (w5.heap.size) ab) := NS.acall HD17.out hb18
  have HE18 : Hid (NS w18 (w6.heap.size) ab) := NS.acall HE17.out hb18
  have HH18 : Hid (NS w18 (w7.heap.size) abc) := NS.acall HH17.out hb18
  have HJ18 : Hid (NS w18 (w9.heap.size) abc) := NS.acall HJ17.out hb18
  have HN18 : Hid (NS w18 (w12.heap.size) lf) := NS.acall HN17.out hb18
  have HO18 : Hid (NS w18 (w13.heap.size) lf) := NS.acall HO17.out hb18
  have HR18 : Hid (NS w18 (w15.heap.size) zr) := NS.acall HR17.out hb18
  have HU18 : Hid (NS w18 (w16.heap.size) a) := NS.acall HU17.out hb18
  have HW18 : Hid (Below w.heap.size w w18) := below_acall HW17.out hb18
  have HG18 : Hid (Glob w18) := Glob.call (Glob.alloc HG17.out) hb18
  clear hb18
  clear HA17 HD17 HE17 HH17 HJ17 HN17 HO17 HR17 HU17 HW17 HG17 HF17
  clear aa0 aa1 aa2 aa3 aaz
  obtain ⟨⟨aa0, aa1, aa2, aa3⟩, aaz⟩ := HA18.out.facts
  obtain ⟨⟨dd0, dd1, dd2, dd3⟩, ddz⟩ := HD18.out.facts
  obtain ⟨⟨ee0, ee1, ee2, ee3⟩, eez⟩ := HE18.out.facts
  obtain ⟨⟨hh0, hh1, hh2, hh3⟩, hhz⟩ := HH18.out.facts
  obtain ⟨⟨jj0, jj1, jj2, jj3⟩, jjz⟩ := HJ18.out.facts
  obtain ⟨⟨nn0, nn1, nn2, nn3⟩, nnz⟩ := HN18.out.facts
  obtain ⟨⟨oo0, oo1, oo2, oo3⟩, ooz⟩ := HO18.out.facts
  obtain ⟨⟨rr0, rr1, rr2, rr3⟩, rrz⟩ := HR18.out.facts
  obtain ⟨⟨uu0, uu1, uu2, uu3⟩, uuz⟩ := HU18.out.facts
  go_wp2_with fail
  refine (half_any _ (Glob.alloc HG18.out)).mono ?_
  rintro e w19 ⟨rfl, hb19⟩
  have HW19 : Hid (Below w.heap.size w w19) := below_acall HW18.out hb19
  clear hb19
  clear HA18 HD18 HE18 HH18 HJ18 HN18 HO18 HR18 HU18 HW18 HG18
  clear aa0 aa1 aa2 aa3 aaz dd0 dd1 dd2 dd3 ddz ee0 ee1 ee2 ee3 eez hh0 hh1 hh2 hh3 hhz jj0 jj1 jj2 jj3 jjz nn0 nn1 nn2 nn3 nnz oo0 oo1 oo2 oo3 ooz rr0 rr1 rr2 rr3 rrz uu0 uu1 uu2 uu3 uuz
  go_wp2_with fail
  go_ret
  exact ⟨rfl, HW19.out⟩

theorem fieldRules_any (base : Bool) (ta tb tc : Nat) (ha : ta < R256) (hb : tb < R256) (hc : tc < R256) (w : World) (hG : Glob w) (hQ : GlobQ w) : Calls Tryd.prog 8 #[.bool base, .agg #[.int .u64 (limb ta 0 : Nat), .int .u64 (limb ta 1 : Nat), .int .u64 (limb ta 2 : Nat), .int .u64 (limb ta 3 : Nat), .int .u64 (limb tb 0 : Nat), .int .u64 (limb tb 1 : Nat), .int .u64 (limb tb 2 : Nat), .int .u64 (limb tb 3 : Nat), .int .u64 (limb tc 0 : Nat), .int .u64 (limb tc 1 : Nat), .int .u64 (limb tc 2 : Nat), .int .u64 (limb tc 3 : Nat)]] w fun e w' => e = .returned (.bool true) ∧ Below w.heap.size w w' := by
  have hF := FM_B base
  have hS := FS_B base
  have hp := prime_B base
  obtain ⟨m, hm⟩ : ∃ m, m = mB base := ⟨_, rfl⟩
  have k1 := of_any base
  rw [← hm] at hF hS hp k1
  have h0 : 0 < m := by have := hF.pos; omega
  have h1 := hF.pos
  have R := hF.2.1
  have L : ∀ x, x % m < m := fun x => Nat.mod_lt _ h0
  have kmul := fun (x y r : Nat) (hx : x < m) (hy : y < m) (hr : x * y % m = r) (g : Nat) (w : World) (h : FieldB w g m) => (by
    have k := fmul_in g m x y hF hx hy w h
    rw [hr] at k
    exact k : Calls Tryd.prog 20 #[.pointer (some ⟨g, 0, none⟩), .agg #[.int .u64 (limb (x) 0 : Nat), .int .u64 (limb (x) 1 : Nat), .int .u64 (limb (x) 2 : Nat), .int .u64 (limb (x) 3 : Nat)], .agg #[.int .u64 (limb (y) 0 : Nat), .int .u64 (limb (y) 1 : Nat), .int .u64 (limb (y) 2 : Nat), .int .u64 (limb (y) 3 : Nat)]] w fun e w' => e = .returned (.tuple #[.agg #[.int .u64 (limb (r) 0 : Nat), .int .u64 (limb (r) 1 : Nat), .int .u64 (limb (r) 2 : Nat), .int .u64 (limb (r) 3 : Nat)], .int .i64 0]) ∧ Below w.heap.size w w')
  have kadd := fun (x y r : Nat) (hx : x < m) (hy : y < m) (hr : (x + y) % m = r) (g : Nat) (w : World) (h : FieldB w g m) => (by
    have k := fadd_in g m x y hF hx hy w h
    rw [hr] at k
    exact k : Calls Tryd.prog 10 #[.pointer (some ⟨g, 0, none⟩), .agg #[.int .u64 (limb (x) 0 : Nat), .int .u64 (limb (x) 1 : Nat), .int .u64 (limb (x) 2 : Nat), .int .u64 (limb (x) 3 : Nat)], .agg #[.int .u64 (limb (y) 0 : Nat), .int .u64 (limb (y) 1 : Nat), .int .u64 (limb (y) 2 : Nat), .int .u64 (limb (y) 3 : Nat)]] w fun e w' => e = .returned (.tuple #[.agg #[.int .u64 (limb (r) 0 : Nat), .int .u64 (limb (r) 1 : Nat), .int .u64 (limb (r) 2 : Nat), .int .u64 (limb (r) 3 : Nat)], .int .i64 0]) ∧ Below w.heap.size w w')
  obtain ⟨a, ea⟩ : ∃ a, a = ta % m := ⟨_, rfl⟩
  obtain ⟨b, eb⟩ : ∃ b, b = tb % m := ⟨_, rfl⟩
  obtain ⟨c, ec⟩ : ∃ c, c = tc % m := ⟨_, rfl⟩
  have al : a < m := by rw [ea]; exact L _
  have bl : b < m := by rw [eb]; exact L _
  have cl : c < m := by rw [ec]; exact L _
  have ka := in_any m ta hF hS ha
  have kb := in_any m tb hF hS hb
  have kc := in_any m tc hF hS hc
  rw [← ea] at ka
  rw [← eb] at kb
  rw [← ec] at kc
  have ko : ∀ (g : Nat) (w : World), FieldB w g m → Calls Tryd.prog 20 #[.pointer (some ⟨g, 0, none⟩), .agg #[.int .u64 (limb (a) 0 : Nat), .int .u64 (limb (a) 1 : Nat), .int .u64 (limb (a) 2 : Nat), .int .u64 (limb (a) 3 : Nat)], .agg #[.int .u64 1, .int .u64 0, .int .u64 0, .int .u64 0]] w fun e w' => e = .returned (.tuple #[.agg #[.int .u64 (limb (a) 0 : Nat), .int .u64 (limb (a) 1 : Nat), .int .u64 (limb (a) 2 : Nat), .int .u64 (limb (a) 3 : Nat)], .int .i64 0]) ∧ Below w.heap.size w w' := fun g w h => by
    have k := fmul_in g m a 1 hF al h1 w h
    rw [Nat.mul_one, Nat.mod_eq_of_lt al, limb_one.1, limb_one.2.1, limb_one.2.2.1, limb_one.2.2.2] at k
    exact k
  have ez : eq4 (limb 0 0 : Nat) (limb 0 1 : Nat) (limb 0 2 : Nat) (limb 0 3 : Nat) 0 0 0 0 = true := by rw [limb_nought, limb_nought, limb_nought, limb_nought]; rfl
  have na : subM m 0 a < m := subM_lt _ _ _ h0
  by_cases z : a = 0
  · have ki : ∀ (g : Nat) (w : World), FieldB w g m → Calls Tryd.prog 27 #[.pointer (some ⟨g, 0, none⟩), .agg #[.int .u64 (limb (a) 0 : Nat), .int .u64 (limb (a) 1 : Nat), .int .u64 (limb (a) 2 : Nat), .int .u64 (limb (a) 3 : Nat)]] w fun e w' => e = .returned (.tuple #[.agg #[.int .u64 0, .int .u64 0, .int .u64 0, .int .u64 0], .int .i64 21]) ∧ Below w.heap.size w w' := fun g w h => by
      have k := finv_zero g m hF w h
      rw [z, limb_nought, limb_nought, limb_nought, limb_nought]
      exact k
    have kz : ∀ (g : Nat) (w : World), FieldB w g m → Calls Tryd.prog 20 #[.pointer (some ⟨g, 0, none⟩), .agg #[.int .u64 (limb (a) 0 : Nat), .int .u64 (limb (a) 1 : Nat), .int .u64 (limb (a) 2 : Nat), .int .u64 (limb (a) 3 : Nat)], .agg #[.int .u64 0, .int .u64 0, .int .u64 0, .int .u64 0]] w fun e w' => e = .returned (.tuple #[.agg #[.int .u64 0, .int .u64 0, .int .u64 0, .int .u64 0], .int .i64 0]) ∧ Below w.heap.size w w' := fun g w h => by
      have k := fmul_in g m a 0 hF al h0 w h
      rw [Nat.mul_zero, Nat.zero_mod, limb_nought, limb_nought, limb_nought, limb_nought] at k
      exact k
    exact rules_zero base m ta tb tc a b c (a * b % m) (a * b % m * c % m) (b * c % m) (a * c % m) ((b + c) % m) (a * ((b + c) % m) % m) (subM m 0 a) 0 k1 ka kb kc (kmul _ _ _ al bl rfl) (kmul _ _ _ bl al (mul_mod_comm m b a)) (kmul _ _ _ (L _) cl rfl) (kmul _ _ _ bl cl rfl) (kmul _ _ _ al (L _) (mul_mod_assoc m a b c).symm) (kmul _ _ _ al cl rfl) (kadd _ _ _ bl cl rfl) (kmul _ _ _ al (L _) rfl) (kadd _ _ _ (L _) (L _) (mul_mod_dist m a b c).symm) (fun g w h => fneg_in g m a hF al w h) (kadd _ _ _ al na (add_neg m a al)) ko ki kz ez (by rw [eq4_zero a (by omega)]; simpa using z) w hG hQ
  · have ki : ∀ (g : Nat) (w : World), FieldB w g m → Calls Tryd.prog 27 #[.pointer (some ⟨g, 0, none⟩), .agg #[.int .u64 (limb (a) 0 : Nat), .int .u64 (limb (a) 1 : Nat), .int .u64 (limb (a) 2 : Nat), .int .u64 (limb (a) 3 : Nat)]] w fun e w' => e = .returned (.tuple #[.agg #[.int .u64 (limb (a ^ (m - 2) % m) 0 : Nat), .int .u64 (limb (a ^ (m - 2) % m) 1 : Nat), .int .u64 (limb (a ^ (m - 2) % m) 2 : Nat), .int .u64 (limb (a ^ (m - 2) % m) 3 : Nat)], .int .i64 0]) ∧ Below w.heap.size w w' := fun g w h => finv_in g m a _ hF al z rfl w h
    have kz : ∀ (g : Nat) (w : World), FieldB w g m → Calls Tryd.prog 20 #[.pointer (some ⟨g, 0, none⟩), .agg #[.int .u64 (limb (a) 0 : Nat), .int .u64 (limb (a) 1 : Nat), .int .u64 (limb (a) 2 : Nat), .int .u64 (limb (a) 3 : Nat)], .agg #[.int .u64 (limb (a ^ (m - 2) % m) 0 : Nat), .int .u64 (limb (a ^ (m - 2) % m) 1 : Nat), .int .u64 (limb (a ^ (m - 2) % m) 2 : Nat), .int .u64 (limb (a ^ (m - 2) % m) 3 : Nat)]] w fun e w' => e = .returned (.tuple #[.agg #[.int .u64 1, .int .u64 0, .int .u64 0, .int .u64 0], .int .i64 0]) ∧ Below w.heap.size w w' := fun g w h => by
      have k := fmul_in g m a (a ^ (m - 2) % m) hF al (L _) w h
      rw [inv_mod hp z al, limb_one.1, limb_one.2.1, limb_one.2.2.1, limb_one.2.2.2] at k
      exact k
    exact rules_go base m ta tb tc a b c (a * b % m) (a * b % m * c % m) (b * c % m) (a * c % m) ((b + c) % m) (a * ((b + c) % m) % m) (subM m 0 a) 0 _ k1 ka kb kc (kmul _ _ _ al bl rfl) (kmul _ _ _ bl al (mul_mod_comm m b a)) (kmul _ _ _ (L _) cl rfl) (kmul _ _ _ bl cl rfl) (kmul _ _ _ al (L _) (mul_mod_assoc m a b c).symm) (kmul _ _ _ al cl rfl) (kadd _ _ _ bl cl rfl) (kmul _ _ _ al (L _) rfl) (kadd _ _ _ (L _) (L _) (mul_mod_dist m a b c).symm) (fun g w h => fneg_in g m a hF al w h) (kadd _ _ _ al na (add_neg m a al)) ko ki kz ez (by rw [eq4_zero a (by omega)]; simpa using z) w hG hQ
end Go.Proofs.YtglifkfkcepllaaDoor
