/- The walk of the statement FieldBytes. -/
import Derived.Test.YtdfdfkhilolnmaaDoorFieldH
import Derived.Test.YtdfdfkhilolnmaaDoorFieldE
import Derived.Test.YtdfdfkhilolnmaaDoorRef2F
import Derived.Test.YtdfdfkhilolnmaaDoorRef2G
import Derived.Test.YtdfdfkhilolnmaaDoorWalkW
import Derived.Test.YtdfdfkhilolnmaaDoorHeldR
namespace Go.Proofs.YtdfdfkhilolnmaaDoor
open Go.RowKit
attribute [local go_sem] run_eq4

set_option maxRecDepth 100000 in
set_option maxHeartbeats 8000000 in
theorem fbytes_in (base : Bool) (m a n : Nat) (c : Int) (s B : ByteArray)
    (k1 : ∀ w, Glob w → GlobQ w → Calls Tryd.prog 9 #[.bool base] w fun e w' => ∃ g, e = .returned (.tuple #[.pointer (some ⟨g, 0, none⟩), .agg #[.int .u64 (limb m 0 : Nat), .int .u64 (limb m 1 : Nat), .int .u64 (limb m 2 : Nat), .int .u64 (limb m 3 : Nat), .int .u64 (limb (R256 - m) 0 : Nat), .int .u64 (limb (R256 - m) 1 : Nat), .int .u64 (limb (R256 - m) 2 : Nat), .int .u64 (limb (R256 - m) 3 : Nat)]]) ∧ FieldB w' g m ∧ Below w.heap.size w w')
    (k2 : ∀ (g : Nat) (w : World), FieldB w g m → Calls Tryd.prog 32 #[.pointer (some ⟨g, 0, none⟩), .agg #[.int .u64 (limb (a) 0 : Nat), .int .u64 (limb (a) 1 : Nat), .int .u64 (limb (a) 2 : Nat), .int .u64 (limb (a) 3 : Nat)]] w fun e w' => e = .returned (.tuple #[.string B, .int .i64 0]) ∧ Below w.heap.size w w')
    (k3 : ∀ (g : Nat) (w : World), FieldB w g m → Calls Tryd.prog 33 #[.pointer (some ⟨g, 0, none⟩), .string s] w fun e w' => e = .returned (.tuple #[.agg #[.int .u64 (limb (n) 0 : Nat), .int .u64 (limb (n) 1 : Nat), .int .u64 (limb (n) 2 : Nat), .int .u64 (limb (n) 3 : Nat)], .int .i64 c]) ∧ Below w.heap.size w w')
    (k4 : ∀ w, Calls Tryd.prog 34 #[.agg #[.int .u64 (limb m 0 : Nat), .int .u64 (limb m 1 : Nat), .int .u64 (limb m 2 : Nat), .int .u64 (limb m 3 : Nat), .int .u64 (limb (R256 - m) 0 : Nat), .int .u64 (limb (R256 - m) 1 : Nat), .int .u64 (limb (R256 - m) 2 : Nat), .int .u64 (limb (R256 - m) 3 : Nat)], .string s] w fun e w' => e = .returned (.tuple #[.agg #[.int .u64 (limb (n) 0 : Nat), .int .u64 (limb (n) 1 : Nat), .int .u64 (limb (n) 2 : Nat), .int .u64 (limb (n) 3 : Nat)], .int .i64 c]) ∧ Below w.heap.size w w')
    (k5 : ∀ w, Calls Tryd.prog 14 #[.agg #[.int .u64 (limb m 0 : Nat), .int .u64 (limb m 1 : Nat), .int .u64 (limb m 2 : Nat), .int .u64 (limb m 3 : Nat), .int .u64 (limb (R256 - m) 0 : Nat), .int .u64 (limb (R256 - m) 1 : Nat), .int .u64 (limb (R256 - m) 2 : Nat), .int .u64 (limb (R256 - m) 3 : Nat)], .agg #[.int .u64 (limb (a) 0 : Nat), .int .u64 (limb (a) 1 : Nat), .int .u64 (limb (a) 2 : Nat), .int .u64 (limb (a) 3 : Nat)]] w fun e w' => e = .returned (.bool true) ∧ Below w.heap.size w w')
    (k6 : ∀ (g : Nat) (w : World), FieldB w g m → Calls Tryd.prog 33 #[.pointer (some ⟨g, 0, none⟩), .string B] w fun e w' => e = .returned (.tuple #[.agg #[.int .u64 (limb (a) 0 : Nat), .int .u64 (limb (a) 1 : Nat), .int .u64 (limb (a) 2 : Nat), .int .u64 (limb (a) 3 : Nat)], .int .i64 0]) ∧ Below w.heap.size w w')
    (k7 : ∀ w, Calls Tryd.prog 35 #[.agg #[.int .u64 (limb (a) 0 : Nat), .int .u64 (limb (a) 1 : Nat), .int .u64 (limb (a) 2 : Nat), .int .u64 (limb (a) 3 : Nat)]] w fun e w' => e = .returned (.string B) ∧ Below w.heap.size w w')
    (w : World) (hG : Glob w) (hQ : GlobQ w) : Calls Tryd.prog 7 #[.bool base, .agg #[.int .u64 (limb (a) 0 : Nat), .int .u64 (limb (a) 1 : Nat), .int .u64 (limb (a) 2 : Nat), .int .u64 (limb (a) 3 : Nat)], .string s] w fun e w' => e = .returned (.bool true) ∧ Below w.heap.size w w' := by
  have HG : Hid (Glob w ∧ GlobQ w) := ⟨hG, hQ⟩
  have K1 : Hid _ := k1
  have K2 : Hid _ := k2
  have K3 : Hid _ := k3
  have K4 : Hid _ := k4
  have K5 : Hid _ := k5
  have K6 : Hid _ := k6
  have K7 : Hid _ := k7
  have ea : eq4 (limb a 0 : Nat) (limb a 1 : Nat) (limb a 2 : Nat) (limb a 3 : Nat) (limb a 0 : Nat) (limb a 1 : Nat) (limb a 2 : Nat) (limb a 3 : Nat) = true := by simp [eq4]
  have en : eq4 (limb n 0 : Nat) (limb n 1 : Nat) (limb n 2 : Nat) (limb n 3 : Nat) (limb n 0 : Nat) (limb n 1 : Nat) (limb n 2 : Nat) (limb n 3 : Nat) = true := by simp [eq4]
  have tb : (B.toList == B.toList) = true := by simp
  clear hG hQ k1 k2 k3 k4 k5 k6 k7
  go_enter Tryd.func7, Tryd.ntmps7
  go_wp2_with fail
  refine (K1.out _ (Glob.alloc HG.out.1) (GlobQ.alloc HG.out.2)).mono ?_
  rintro e w1 ⟨g, rfl, hF1, hb1⟩
  have HA1 : Hid (NS w1 (w.heap.size) a) := by
    have t := NS.call (W := _) (NS.new _ _ _) hb1
    try simp only [World.size_alloc] at t
    exact t
  have HW1 : Hid (Below w.heap.size w w1) := below_call0 (below_alloc0 (Below.refl _ _) _) hb1
  have HG1 : Hid (Glob w1) := Glob.call (Glob.alloc HG.out.1) hb1
  have HF1 : Hid (FieldB w1 g m) := hF1
  clear hb1
  clear hF1
  obtain ⟨⟨aa0, aa1, aa2, aa3⟩, aaz⟩ := HA1.out.facts
  go_wp2_with fail
  refine (K2.out g _ (FieldB.alloc HF1.out)).mono ?_
  rintro e w2 ⟨rfl, hb2⟩
  have HA2 : Hid (NS w2 (w.heap.size) a) := NS.acall HA1.out hb2
  have HW2 : Hid (Below w.heap.size w w2) := below_acall HW1.out hb2
  have HG2 : Hid (Glob w2) := Glob.call (Glob.alloc HG1.out) hb2
  have HF2 : Hid (FieldB w2 g m) := FieldB.call (FieldB.alloc HF1.out) hb2
  have HS2 : Hid (FieldB w2 w1.heap.size m) := FieldB.call (FieldB.new w1 m _) hb2
  clear hb2
  clear HA1 HW1 HG1 HF1
  clear aa0 aa1 aa2 aa3 aaz
  go_wp2_with fail
  refine (K3.out g _ HF2.out).mono ?_
  rintro e w3 ⟨rfl, hb3⟩
  have HA3 : Hid (NS w3 (w.heap.size) a) := NS.call HA2.out hb3
  have HW3 : Hid (Below w.heap.size w w3) := below_call0 HW2.out hb3
  have HG3 : Hid (Glob w3) := Glob.call HG2.out hb3
  have HF3 : Hid (FieldB w3 g m) := FieldB.call HF2.out hb3
  have HS3 : Hid (FieldB w3 w1.heap.size m) := FieldB.call HS2.out hb3
  clear hb3
  clear HA2 HW2 HG2 HF2 HS2
  obtain ⟨sm0, sm1, sm2, sm3⟩ := (HS3.out).1.facts
  obtain ⟨sg0, sg1, sg2, sg3⟩ := (HS3.out).gap
  have sz := (HS3.out).2.2
  go_wp2_with fail
  refine (K4.out _).mono ?_
  rintro e w4 ⟨rfl, hb4⟩
  have HA4 : Hid (NS w4 (w.heap.size) a) := NS.acall HA3.out hb4
  have HN4 : Hid (NS w4 w3.heap.size n) := NS.ncall hb4
  have HW4 : Hid (Below w.heap.size w w4) := below_acall HW3.out hb4
  have HG4 : Hid (Glob w4) := Glob.call (Glob.alloc HG3.out) hb4
  have HF4 : Hid (FieldB w4 g m) := FieldB.call (FieldB.alloc HF3.out) hb4
  have HS4 : Hid (FieldB w4 w1.heap.size m) := FieldB.call (FieldB.alloc HS3.out) hb4
  clear hb4
  clear HA3 HW3 HG3 HF3 HS3
  clear sm0 sg0 sm1 sg1 sm2 sg2 sm3 sg3 sz
  obtain ⟨⟨aa0, aa1, aa2, aa3⟩, aaz⟩ := HA4.out.facts
  obtain ⟨⟨nn0, nn1, nn2, nn3⟩, nnz⟩ := HN4.out.facts
  obtain ⟨sm0, sm1, sm2, sm3⟩ := (HS4.out).1.facts
  obtain ⟨sg0, sg1, sg2, sg3⟩ := (HS4.out).gap
  have sz := (HS4.out).2.2
  go_wp2_with fail
  refine (K5.out _).mono ?_
  rintro e w5 ⟨rfl, hb5⟩
  have HA5 : Hid (NS w5 (w.heap.size) a) := NS.acall HA4.out hb5
  have HN5 : Hid (NS w5 (w3.heap.size) n) := NS.acall HN4.out hb5
  have HM5 : Hid (NS w5 w4.heap.size n) := NS.ncall hb5
  have HW5 : Hid (Below w.heap.size w w5) := below_acall HW4.out hb5
  have HG5 : Hid (Glob w5) := Glob.call (Glob.alloc HG4.out) hb5
  have HF5 : Hid (FieldB w5 g m) := FieldB.call (FieldB.alloc HF4.out) hb5
  have HS5 : Hid (FieldB w5 w1.heap.size m) := FieldB.call (FieldB.alloc HS4.out) hb5
  clear hb5
  clear HA4 HN4 HW4 HG4 HF4 HS4
  clear aa0 aa1 aa2 aa3 aaz nn0 nn1 nn2 nn3 nnz sm0 sg0 sm1 sg1 sm2 sg2 sm3 sg3 sz
  go_wp2_with fail
  refine (K6.out g _ HF5.out).mono ?_
  rintro e w6 ⟨rfl, hb6⟩
  have HA6 : Hid (NS w6 (w.heap.size) a) := NS.call HA5.out hb6
  have HN6 : Hid (NS w6 (w3.heap.size) n) := NS.call HN5.out hb6
  have HM6 : Hid (NS w6 (w4.heap.size) n) := NS.call HM5.out hb6
  have HW6 : Hid (Below w.heap.size w w6) := below_call0 HW5.out hb6
  have HG6 : Hid (Glob w6) := Glob.call HG5.out hb6
  have HF6 : Hid (FieldB w6 g m) := FieldB.call HF5.out hb6
  have HS6 : Hid (FieldB w6 w1.heap.size m) := FieldB.call HS5.out hb6
  clear hb6
  clear HA5 HN5 HM5 HW5 HG5 HF5 HS5
  obtain ⟨⟨aa0, aa1, aa2, aa3⟩, aaz⟩ := HA6.out.facts
  go_wp2_with fail
  refine (K7.out _).mono ?_
  rintro e w7 ⟨rfl, hb7⟩
  have HA7 : Hid (NS w7 (w.heap.size) a) := NS.acall HA6.out hb7
  have HB7 : Hid (NS w7 w6.heap.size a) := NS.ncall hb7
  have HW7 : Hid (Below w.heap.size w w7) := below_acall HW6.out hb7
  have HG7 : Hid (Glob w7) := Glob.call (Glob.alloc HG6.out) hb7
  clear hb7
  clear HA6 HN6 HM6 HW6 HG6 HF6 HS6
  clear aa0 aa1 aa2 aa3 aaz
  obtain ⟨⟨aa0, aa1, aa2, aa3⟩, aaz⟩ := HA7.out.facts
  obtain ⟨⟨bb0, bb1, bb2, bb3⟩, bbz⟩ := HB7.out.facts
  go_wp2_with fail
  refine (half_any _ HG7.out).mono ?_
  rintro e w8 ⟨rfl, hb8⟩
  have HW8 : Hid (Below w.heap.size w w8) := below_call0 HW7.out hb8
  clear hb8
  clear HA7 HB7 HW7 HG7
  clear aa0 aa1 aa2 aa3 aaz bb0 bb1 bb2 bb3 bbz
  go_wp2_with fail
  go_ret
  exact ⟨rfl, HW8.out⟩

set_option maxRecDepth 100000 in
set_option maxHeartbeats 8000000 in
theorem fbytes_no (base : Bool) (m a n : Nat) (c : Int) (s : ByteArray)
    (k1 : ∀ w, Glob w → GlobQ w → Calls Tryd.prog 9 #[.bool base] w fun e w' => ∃ g, e = .returned (.tuple #[.pointer (some ⟨g, 0, none⟩), .agg #[.int .u64 (limb m 0 : Nat), .int .u64 (limb m 1 : Nat), .int .u64 (limb m 2 : Nat), .int .u64 (limb m 3 : Nat), .int .u64 (limb (R256 - m) 0 : Nat), .int .u64 (limb (R256 - m) 1 : Nat), .int .u64 (limb (R256 - m) 2 : Nat), .int .u64 (limb (R256 - m) 3 : Nat)]]) ∧ FieldB w' g m ∧ Below w.heap.size w w')
    (k2 : ∀ (g : Nat) (w : World), FieldB w g m → Calls Tryd.prog 32 #[.pointer (some ⟨g, 0, none⟩), .agg #[.int .u64 (limb (a) 0 : Nat), .int .u64 (limb (a) 1 : Nat), .int .u64 (limb (a) 2 : Nat), .int .u64 (limb (a) 3 : Nat)]] w fun e w' => e = .returned (.tuple #[.string ByteArray.empty, .int .i64 20]) ∧ Below w.heap.size w w')
    (k3 : ∀ (g : Nat) (w : World), FieldB w g m → Calls Tryd.prog 33 #[.pointer (some ⟨g, 0, none⟩), .string s] w fun e w' => e = .returned (.tuple #[.agg #[.int .u64 (limb (n) 0 : Nat), .int .u64 (limb (n) 1 : Nat), .int .u64 (limb (n) 2 : Nat), .int .u64 (limb (n) 3 : Nat)], .int .i64 c]) ∧ Below w.heap.size w w')
    (k4 : ∀ w, Calls Tryd.prog 34 #[.agg #[.int .u64 (limb m 0 : Nat), .int .u64 (limb m 1 : Nat), .int .u64 (limb m 2 : Nat), .int .u64 (limb m 3 : Nat), .int .u64 (limb (R256 - m) 0 : Nat), .int .u64 (limb (R256 - m) 1 : Nat), .int .u64 (limb (R256 - m) 2 : Nat), .int .u64 (limb (R256 - m) 3 : Nat)], .string s] w fun e w' => e = .returned (.tuple #[.agg #[.int .u64 (limb (n) 0 : Nat), .int .u64 (limb (n) 1 : Nat), .int .u64 (limb (n) 2 : Nat), .int .u64 (limb (n) 3 : Nat)], .int .i64 c]) ∧ Below w.heap.size w w')
    (k5 : ∀ w, Calls Tryd.prog 14 #[.agg #[.int .u64 (limb m 0 : Nat), .int .u64 (limb m 1 : Nat), .int .u64 (limb m 2 : Nat), .int .u64 (limb m 3 : Nat), .int .u64 (limb (R256 - m) 0 : Nat), .int .u64 (limb (R256 - m) 1 : Nat), .int .u64 (limb (R256 - m) 2 : Nat), .int .u64 (limb (R256 - m) 3 : Nat)], .agg #[.int .u64 (limb (a) 0 : Nat), .int .u64 (limb (a) 1 : Nat), .int .u64 (limb (a) 2 : Nat), .int .u64 (limb (a) 3 : Nat)]] w fun e w' => e = .returned (.bool false) ∧ Below w.heap.size w w')
    (w : World) (hG : Glob w) (hQ : GlobQ w) : Calls Tryd.prog 7 #[.bool base, .agg #[.int .u64 (limb (a) 0 : Nat), .int .u64 (limb (a) 1 : Nat), .int .u64 (limb (a) 2 : Nat), .int .u64 (limb (a) 3 : Nat)], .string s] w fun e w' => e = .returned (.bool true) ∧ Below w.heap.size w w' := by
  have HG : Hid (Glob w ∧ GlobQ w) := ⟨hG, hQ⟩
  have K1 : Hid _ := k1
  have K2 : Hid _ := k2
  have K3 : Hid _ := k3
  have K4 : Hid _ := k4
  have K5 : Hid _ := k5
  have ea : eq4 (limb a 0 : Nat) (limb a 1 : Nat) (limb a 2 : Nat) (limb a 3 : Nat) (limb a 0 : Nat) (limb a 1 : Nat) (limb a 2 : Nat) (limb a 3 : Nat) = true := by simp [eq4]
  have en : eq4 (limb n 0 : Nat) (limb n 1 : Nat) (limb n 2 : Nat) (limb n 3 : Nat) (limb n 0 : Nat) (limb n 1 : Nat) (limb n 2 : Nat) (limb n 3 : Nat) = true := by simp [eq4]
  have tb : (ByteArray.empty.toList == ByteArray.empty.toList) = true := by simp
  clear hG hQ k1 k2 k3 k4 k5
  go_enter Tryd.func7, Tryd.ntmps7
  go_wp2_with fail
  refine (K1.out _ (Glob.alloc HG.out.1) (GlobQ.alloc HG.out.2)).mono ?_
  rintro e w1 ⟨g, rfl, hF1, hb1⟩
  have HA1 : Hid (NS w1 (w.heap.size) a) := by
    have t := NS.call (W := _) (NS.new _ _ _) hb1
    try simp only [World.size_alloc] at t
    exact t
  have HW1 : Hid (Below w.heap.size w w1) := below_call0 (below_alloc0 (Below.refl _ _) _) hb1
  have HG1 : Hid (Glob w1) := Glob.call (Glob.alloc HG.out.1) hb1
  have HF1 : Hid (FieldB w1 g m) := hF1
  clear hb1
  clear hF1
  obtain ⟨⟨aa0, aa1, aa2, aa3⟩, aaz⟩ := HA1.out.facts
  go_wp2_with fail
  refine (K2.out g _ (FieldB.alloc HF1.out)).mono ?_
  rintro e w2 ⟨rfl, hb2⟩
  have HA2 : Hid (NS w2 (w.heap.size) a) := NS.acall HA1.out hb2
  have HW2 : Hid (Below w.heap.size w w2) := below_acall HW1.out hb2
  have HG2 : Hid (Glob w2) := Glob.call (Glob.alloc HG1.out) hb2
  have HF2 : Hid (FieldB w2 g m) := FieldB.call (FieldB.alloc HF1.out) hb2
  have HS2 : Hid (FieldB w2 w1.heap.size m) := FieldB.call (FieldB.new w1 m _) hb2
  clear hb2
  clear HA1 HW1 HG1 HF1
  clear aa0 aa1 aa2 aa3 aaz
  go_wp2_with fail
  refine (K3.out g _ HF2.out).mono ?_
  rintro e w3 ⟨rfl, hb3⟩
  have HA3 : Hid (NS w3 (w.heap.size) a) := NS.call HA2.out hb3
  have HW3 : Hid (Below w.heap.size w w3) := below_call0 HW2.out hb3
  have HG3 : Hid (Glob w3) := Glob.call HG2.out hb3
  have HF3 : Hid (FieldB w3 g m) := FieldB.call HF2.out hb3
  have HS3 : Hid (FieldB w3 w1.heap.size m) := FieldB.call HS2.out hb3
  clear hb3
  clear HA2 HW2 HG2 HF2 HS2
  obtain ⟨sm0, sm1, sm2, sm3⟩ := (HS3.out).1.facts
  obtain ⟨sg0, sg1, sg2, sg3⟩ := (HS3.out).gap
  have sz := (HS3.out).2.2
  go_wp2_with fail
  refine (K4.out _).mono ?_
  rintro e w4 ⟨rfl, hb4⟩
  have HA4 : Hid (NS w4 (w.heap.size) a) := NS.acall HA3.out hb4
  have HN4 : Hid (NS w4 w3.heap.size n) := NS.ncall hb4
  have HW4 : Hid (Below w.heap.size w w4) := below_acall HW3.out hb4
  have HG4 : Hid (Glob w4) := Glob.call (Glob.alloc HG3.out) hb4
  have HF4 : Hid (FieldB w4 g m) := FieldB.call (FieldB.alloc HF3.out) hb4
  have HS4 : Hid (FieldB w4 w1.heap.size m) := FieldB.call (FieldB.alloc HS3.out) hb4
  clear hb4
  clear HA3 HW3 HG3 HF3 HS3
  clear sm0 sg0 sm1 sg1 sm2 sg2 sm3 sg3 sz
  obtain ⟨⟨aa0, aa1, aa2, aa3⟩, aaz⟩ := HA4.out.facts
  obtain ⟨⟨nn0, nn1, nn2, nn3⟩, nnz⟩ := HN4.out.facts
  obtain ⟨sm0, sm1, sm2, sm3⟩ := (HS4.out).1.facts
  obtain ⟨sg0, sg1, sg2, sg3⟩ := (HS4.out).gap
  have sz := (HS4.out).2.2
  go_wp2_with fail
  refine (K5.out _).mono ?_
  rintro e w5 ⟨rfl, hb5⟩
  have HA5 : Hid (NS w5 (w.heap.size) a) := NS.acall HA4.out hb5
  have HN5 : Hid (NS w5 (w3.heap.size) n) := NS.acall HN4.out hb5
  have HM5 : Hid (NS w5 w4.heap.size n) := NS.ncall hb5
  have HW5 : Hid (Below w.heap.size w w5) := below_acall HW4.out hb5
  have HG5 : Hid (Glob w5) := Glob.call (Glob.alloc HG4.out) hb5
  have HF5 : Hid (FieldB w5 g m) := FieldB.call (FieldB.alloc HF4.out) hb5
  have HS5 : Hid (FieldB w5 w1.heap.size m) := FieldB.call (FieldB.alloc HS4.out) hb5
  clear hb5
  clear HA4 HN4 HW4 HG4 HF4 HS4
  clear aa0 aa1 aa2 aa3 aaz nn0 nn1 nn2 nn3 nnz sm0 sg0 sm1 sg1 sm2 sg2 sm3 sg3 sz
  go_wp2_with fail
  refine (half_any _ HG5.out).mono ?_
  rintro e w6 ⟨rfl, hb6⟩
  have HW6 : Hid (Below w.heap.size w w6) := below_call0 HW5.out hb6
  clear hb6
  clear HA5 HN5 HM5 HW5 HG5 HF5 HS5
  go_wp2_with fail
  go_ret
  exact ⟨rfl, HW6.out⟩

theorem dec_pair (m : Nat) (s : ByteArray) (hF : FM m) : ∃ (n : Nat) (c : Int), (∀ (g : Nat) (w : World), FieldB w g m → Calls Tryd.prog 33 #[.pointer (some ⟨g, 0, none⟩), .string s] w fun e w' => e = .returned (.tuple #[.agg #[.int .u64 (limb (n) 0 : Nat), .int .u64 (limb (n) 1 : Nat), .int .u64 (limb (n) 2 : Nat), .int .u64 (limb (n) 3 : Nat)], .int .i64 c]) ∧ Below w.heap.size w w') ∧ (∀ w, Calls Tryd.prog 34 #[.agg #[.int .u64 (limb (m) 0 : Nat), .int .u64 (limb (m) 1 : Nat), .int .u64 (limb (m) 2 : Nat), .int .u64 (limb (m) 3 : Nat), .int .u64 (limb (R256 - (m)) 0 : Nat), .int .u64 (limb (R256 - (m)) 1 : Nat), .int .u64 (limb (R256 - (m)) 2 : Nat), .int .u64 (limb (R256 - (m)) 3 : Nat)], .string s] w fun e w' => e = .returned (.tuple #[.agg #[.int .u64 (limb (n) 0 : Nat), .int .u64 (limb (n) 1 : Nat), .int .u64 (limb (n) 2 : Nat), .int .u64 (limb (n) 3 : Nat)], .int .i64 c]) ∧ Below w.heap.size w w') := by
  have hm := hF.2.1
  by_cases hs : s.size = 32
  · have nl : numB (sbyte s) < R256 := numB_lt _ (sbyte_lt s)
    by_cases h : numB (sbyte s) < m
    · exact ⟨numB (sbyte s), 0, fun g w hM => decode_go g m _ s (from_any s hs) (fun w h' => check_in g m _ nl hm h w h') w hM, fun w => decode2_go m _ s (from_any_ref s hs) (has2_b m _ true hm nl (decide_eq_true h)) w⟩
    · refine ⟨0, 20, fun g w hM => ?_, fun w => ?_⟩ <;> rw [limb_nought, limb_nought, limb_nought, limb_nought]
      · exact decode_no g m _ s (from_any s hs) (fun w h' => check_no g m _ nl hm h w h') w hM
      · exact decode2_no m _ s (from_any_ref s hs) (has2_b m _ false hm nl (decide_eq_false h)) w
  · refine ⟨0, 4, fun g w hM => ?_, fun w => ?_⟩ <;> rw [limb_nought, limb_nought, limb_nought, limb_nought]
    · exact decode_form g s (from_bad s hs) w
    · exact decode2_form m s (from_bad_ref s hs) w
theorem fieldBytes_any (base : Bool) (a : Nat) (s : ByteArray) (ha : a < R256) (w : World) (hG : Glob w) (hQ : GlobQ w) : Calls Tryd.prog 7 #[.bool base, .agg #[.int .u64 (limb (a) 0 : Nat), .int .u64 (limb (a) 1 : Nat), .int .u64 (limb (a) 2 : Nat), .int .u64 (limb (a) 3 : Nat)], .string s] w fun e w' => e = .returned (.bool true) ∧ Below w.heap.size w w' := by
  have hF := FM_B base
  have hm := hF.2.1
  obtain ⟨n, c, k3, k4⟩ := dec_pair (mB base) s hF
  by_cases h : a < mB base
  · have k6 : ∀ (g : Nat) (w : World), FieldB w g (mB base) → Calls Tryd.prog 33 #[.pointer (some ⟨g, 0, none⟩), .string ⟨(bytesL a 32).toArray⟩] w fun e w' => e = .returned (.tuple #[.agg #[.int .u64 (limb (a) 0 : Nat), .int .u64 (limb (a) 1 : Nat), .int .u64 (limb (a) 2 : Nat), .int .u64 (limb (a) 3 : Nat)], .int .i64 0]) ∧ Below w.heap.size w w' := fun g w hM => by
      refine decode_go g _ a _ (fun w => ?_) (fun w h' => check_in g _ a ha hm h w h') w hM
      have k := from_any ⟨(bytesL a 32).toArray⟩ (text_size a) w
      rw [numB_byteN a ha _ (text_byte a)] at k
      exact k
    exact fbytes_in base (mB base) a n c s _ (of_any base) (fun g w hM => encode_go g _ a _ (fun w h' => check_in g _ a ha hm h w h') (bytes_any a) w hM) k3 k4 (has2_b _ a true hm ha (decide_eq_true h)) k6 (bytes_ref a) w hG hQ
  · exact fbytes_no base (mB base) a n c s (of_any base) (fun g w hM => encode_bad (some ⟨g, 0, none⟩) a 20 (by decide) (fun w => FieldB w g (mB base)) (FB_alloc g _) (fun w h' => check_no g _ a ha hm h w h') w hM) k3 k4 (has2_b _ a false hm ha (decide_eq_false h)) w hG hQ
end Go.Proofs.YtdfdfkhilolnmaaDoor
