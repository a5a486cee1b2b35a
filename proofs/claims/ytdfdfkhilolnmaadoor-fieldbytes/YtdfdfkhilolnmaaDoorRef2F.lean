/- The reference's two fields, wardmotelaw02.of and wardmotelaw02.in: a field of the code and the document's beside it; a number brought below the prime. -/
import Derived.Test.YtdfdfkhilolnmaaDoorRef2R
import Derived.Test.YtdfdfkhilolnmaaDoorFieldI
namespace Go.Proofs.YtdfdfkhilolnmaaDoor
open Go.RowKit

theorem limb_PP : limb PP 0 = 18446744069414583343 ∧ limb PP 1 = 18446744073709551615 ∧ limb PP 2 = 18446744073709551615 ∧ limb PP 3 = 18446744073709551615 ∧ limb (R256 - PP) 0 = 4294968273 ∧ limb (R256 - PP) 1 = 0 ∧ limb (R256 - PP) 2 = 0 ∧ limb (R256 - PP) 3 = 0 := by decide
theorem limb_QQ : limb QQ 0 = 13822214165235122497 ∧ limb QQ 1 = 13451932020343611451 ∧ limb QQ 2 = 18446744073709551614 ∧ limb QQ 3 = 18446744073709551615 ∧ limb (R256 - QQ) 0 = 4624529908474429119 ∧ limb (R256 - QQ) 1 = 4994812053365940164 ∧ limb (R256 - QQ) 2 = 1 ∧ limb (R256 - QQ) 3 = 0 := by decide
theorem Row8.call {W w1 : World} {p : Nat} {f : Nat → Nat} (h : Row8 W p f) (hb : Below W.heap.size W w1) : Row8 w1 p f :=
  ⟨fun j hj => (hb.cell (p := ⟨p, j, none⟩) h.2.2).trans (h.1 j hj), fun j hj => (hb.frozen (p := ⟨p, j, none⟩) h.2.2).trans (h.2.1 j hj), Nat.lt_of_lt_of_le h.2.2 hb.size⟩
theorem base2_any (w : World) : Calls Tryd.prog 38 #[] w fun e w' => e = .returned (.agg #[.int .u64 (limb PP 0 : Nat), .int .u64 (limb PP 1 : Nat), .int .u64 (limb PP 2 : Nat), .int .u64 (limb PP 3 : Nat), .int .u64 (limb (R256 - PP) 0 : Nat), .int .u64 (limb (R256 - PP) 1 : Nat), .int .u64 (limb (R256 - PP) 2 : Nat), .int .u64 (limb (R256 - PP) 3 : Nat)]) ∧ Below w.heap.size w w' := by
  obtain ⟨l0, l1, l2, l3, g0, g1, g2, g3⟩ := limb_PP
  rw [l0, l1, l2, l3, g0, g1, g2, g3]
  clear l0 l1 l2 l3 g0 g1 g2 g3
  go_enter Tryd.func38, Tryd.ntmps38
  go_wp2
  refine bodyPost_ret (v := .agg #[.int .u64 (18446744069414583343 : Nat), .int .u64 (18446744073709551615 : Nat), .int .u64 (18446744073709551615 : Nat), .int .u64 (18446744073709551615 : Nat), .int .u64 (4294968273 : Nat), .int .u64 (0 : Nat), .int .u64 (0 : Nat), .int .u64 (0 : Nat)]) ?_ rfl ⟨rfl, ?_⟩
  · simp [results, Tryd.results38, go_sem]
  · ((repeat' (first | with_reducible exact Below.refl _ _ | with_reducible refine Below.setCell ?_ ?_ _ | with_reducible refine below_alloc0 ?_ _ | with_reducible refine below_drewN ?_ _ | with_reducible refine Below.drew ?_ | refine below_call0 ?_ (by assumption))) <;> (first | omega | (simp; done) | (simp; omega)))

theorem scalars2_any (w : World) : Calls Tryd.prog 40 #[] w fun e w' => e = .returned (.agg #[.int .u64 (limb QQ 0 : Nat), .int .u64 (limb QQ 1 : Nat), .int .u64 (limb QQ 2 : Nat), .int .u64 (limb QQ 3 : Nat), .int .u64 (limb (R256 - QQ) 0 : Nat), .int .u64 (limb (R256 - QQ) 1 : Nat), .int .u64 (limb (R256 - QQ) 2 : Nat), .int .u64 (limb (R256 - QQ) 3 : Nat)]) ∧ Below w.heap.size w w' := by
  obtain ⟨l0, l1, l2, l3, g0, g1, g2, g3⟩ := limb_QQ
  rw [l0, l1, l2, l3, g0, g1, g2, g3]
  clear l0 l1 l2 l3 g0 g1 g2 g3
  go_enter Tryd.func40, Tryd.ntmps40
  go_wp2
  refine bodyPost_ret (v := .agg #[.int .u64 (13822214165235122497 : Nat), .int .u64 (13451932020343611451 : Nat), .int .u64 (18446744073709551614 : Nat), .int .u64 (18446744073709551615 : Nat), .int .u64 (4624529908474429119 : Nat), .int .u64 (4994812053365940164 : Nat), .int .u64 (1 : Nat), .int .u64 (0 : Nat)]) ?_ rfl ⟨rfl, ?_⟩
  · simp [results, Tryd.results40, go_sem]
  · ((repeat' (first | with_reducible exact Below.refl _ _ | with_reducible refine Below.setCell ?_ ?_ _ | with_reducible refine below_alloc0 ?_ _ | with_reducible refine below_drewN ?_ _ | with_reducible refine Below.drew ?_ | refine below_call0 ?_ (by assumption))) <;> (first | omega | (simp; done) | (simp; omega)))

theorem FieldB.new (W : World) (m : Nat) (t : TypeId) : FieldB (W.alloc (.cells #[.int .u64 (limb m 0 : Nat), .int .u64 (limb m 1 : Nat), .int .u64 (limb m 2 : Nat), .int .u64 (limb m 3 : Nat), .int .u64 (limb (R256 - m) 0 : Nat), .int .u64 (limb (R256 - m) 1 : Nat), .int .u64 (limb (R256 - m) 2 : Nat), .int .u64 (limb (R256 - m) 3 : Nat)] t)) W.heap.size m :=
  ⟨by refine limbs4 _ ?_ ?_ ?_ ?_ <;> simp [go_sem], by refine limbs4 _ ?_ ?_ ?_ ?_ <;> simp [go_sem], by simp⟩
def mB (b : Bool) : Nat := cond b PP QQ
theorem FM_B (b : Bool) : FM (mB b) := by cases b; exact FM_Q; exact FM_P
theorem FS_B (b : Bool) : FS (mB b) := by cases b; exact FS_Q; exact FS_P
theorem prime_B (b : Bool) : PrimeN (mB b) := by cases b; exact prime_Q; exact prime_P
set_option maxHeartbeats 2000000 in
theorem of_true (w : World) (hG : Glob w) (hQ : GlobQ w) : Calls Tryd.prog 9 #[.bool true] w fun e w' => ∃ g, e = .returned (.tuple #[.pointer (some ⟨g, 0, none⟩), .agg #[.int .u64 (limb PP 0 : Nat), .int .u64 (limb PP 1 : Nat), .int .u64 (limb PP 2 : Nat), .int .u64 (limb PP 3 : Nat), .int .u64 (limb (R256 - PP) 0 : Nat), .int .u64 (limb (R256 - PP) 1 : Nat), .int .u64 (limb (R256 - PP) 2 : Nat), .int .u64 (limb (R256 - PP) 3 : Nat)]]) ∧ FieldB w' g PP ∧ Below w.heap.size w w' := by
  obtain ⟨m, hm⟩ : ∃ m, m = PP := ⟨_, rfl⟩
  have k1 := fun w h => base_any w h
  have k2 := fun w => base2_any w
  rw [← hm] at k1 k2
  rw [← hm]
  have K1 : Hid _ := k1
  have K2 : Hid _ := k2
  have HG : Hid _ := hG
  have HGQ : Hid (Glob w ∧ GlobQ w) := ⟨hG, hQ⟩
  have HNZ : Hid (¬ (limb m 0 = 0 ∧ limb m 1 = 0 ∧ limb m 2 = 0 ∧ limb m 3 = 0)) := by rw [hm]; exact limb_some' _ (by decide) (by decide)
  clear k1 k2 hm hG hQ
  go_enter Tryd.func9, Tryd.ntmps9
  go_wp2_with fail
  refine (K1.out _ (by first | exact Glob.alloc HG.out | exact GlobQ.alloc HG.out)).mono ?_
  rintro e w1 ⟨g, rfl, M1, hb1⟩
  have R1 : Row8 w1 w.heap.size (fun _ => 0) := Row8.call (Row8.new w 27) hb1
  have W1 : Below w.heap.size w w1 := below_call0 (below_alloc0 (Below.refl _ _) _) hb1
  clear hb1 K1
  go_wp2_with fail
  refine (K2.out _).mono ?_
  rintro e w2 ⟨rfl, hb2⟩
  have M2 := M1.call hb2
  have R2 := R1.call hb2
  have W2 : Below w.heap.size w w2 := below_call0 W1 hb2
  obtain ⟨⟨p0, p1, p2, p3, p4, p5, p6, p7⟩, ⟨f0, f1, f2, f3, f4, f5, f6, f7⟩, pz⟩ := R2.facts
  have HM : Hid (FieldB w2 g m) := M2
  have hgz := M2.2.2
  have gne : w.heap.size ≠ g := by
    intro c
    have a := M2.1 0 (by omega)
    rw [← c, p0] at a
    have b := M2.1 1 (by omega)
    rw [← c, p1] at b
    have c2 := M2.1 2 (by omega)
    rw [← c, p2] at c2
    have d := M2.1 3 (by omega)
    rw [← c, p3] at d
    simp at a b c2 d
    exact HNZ.out ⟨by omega, by omega, by omega, by omega⟩
  clear hb2 K2 M1 R1 W1 M2 R2
  go_wp2
  refine bodyPost_ret (v := .tuple #[.pointer (some ⟨g, 0, none⟩), .agg #[.int .u64 (limb m 0 : Nat), .int .u64 (limb m 1 : Nat), .int .u64 (limb m 2 : Nat), .int .u64 (limb m 3 : Nat), .int .u64 (limb (R256 - m) 0 : Nat), .int .u64 (limb (R256 - m) 1 : Nat), .int .u64 (limb (R256 - m) 2 : Nat), .int .u64 (limb (R256 - m) 3 : Nat)]]) ?_ rfl ⟨g, rfl, ?_, ?_⟩
  · simp [results, Tryd.results9, go_sem, p0, p1, p2, p3, p4, p5, p6, p7]
  · exact (((((((HM.out.setB gne).setB gne).setB gne).setB gne).setB gne).setB gne).setB gne).setB gne
  · ((repeat' (first | with_reducible exact Below.refl _ _ | with_reducible refine Below.setCell ?_ ?_ _ | with_reducible refine below_alloc0 ?_ _ | with_reducible refine below_drewN ?_ _ | with_reducible refine Below.drew ?_ | refine below_call0 ?_ (by assumption))) <;> (first | omega | (simp; done) | (simp; omega)))

set_option maxHeartbeats 2000000 in
theorem of_false (w : World) (hG : Glob w) (hQ : GlobQ w) : Calls Tryd.prog 9 #[.bool false] w fun e w' => ∃ g, e = .returned (.tuple #[.pointer (some ⟨g, 0, none⟩), .agg #[.int .u64 (limb QQ 0 : Nat), .int .u64 (limb QQ 1 : Nat), .int .u64 (limb QQ 2 : Nat), .int .u64 (limb QQ 3 : Nat), .int .u64 (limb (R256 - QQ) 0 : Nat), .int .u64 (limb (R256 - QQ) 1 : Nat), .int .u64 (limb (R256 - QQ) 2 : Nat), .int .u64 (limb (R256 - QQ) 3 : Nat)]]) ∧ FieldB w' g QQ ∧ Below w.heap.size w w' := by
  obtain ⟨m, hm⟩ : ∃ m, m = QQ := ⟨_, rfl⟩
  have k1 := fun w h => scalars_any w h
  have k2 := fun w => scalars2_any w
  rw [← hm] at k1 k2
  rw [← hm]
  have K1 : Hid _ := k1
  have K2 : Hid _ := k2
  have HG : Hid _ := hQ
  have HGQ : Hid (Glob w ∧ GlobQ w) := ⟨hG, hQ⟩
  have HNZ : Hid (¬ (limb m 0 = 0 ∧ limb m 1 = 0 ∧ limb m 2 = 0 ∧ limb m 3 = 0)) := by rw [hm]; exact limb_some' _ (by decide) (by decide)
  clear k1 k2 hm hG hQ
  go_enter Tryd.func9, Tryd.ntmps9
  go_wp2_with fail
  refine (K1.out _ (by first | exact Glob.alloc HG.out | exact GlobQ.alloc HG.out)).mono ?_
  rintro e w1 ⟨g, rfl, M1, hb1⟩
  have R1 : Row8 w1 w.heap.size (fun _ => 0) := Row8.call (Row8.new w 27) hb1
  have W1 : Below w.heap.size w w1 := below_call0 (below_alloc0 (Below.refl _ _) _) hb1
  clear hb1 K1
  go_wp2_with fail
  refine (K2.out _).mono ?_
  rintro e w2 ⟨rfl, hb2⟩
  have M2 := M1.call hb2
  have R2 := R1.call hb2
  have W2 : Below w.heap.size w w2 := below_call0 W1 hb2
  obtain ⟨⟨p0, p1, p2, p3, p4, p5, p6, p7⟩, ⟨f0, f1, f2, f3, f4, f5, f6, f7⟩, pz⟩ := R2.facts
  have HM : Hid (FieldB w2 g m) := M2
  have hgz := M2.2.2
  have gne : w.heap.size ≠ g := by
    intro c
    have a := M2.1 0 (by omega)
    rw [← c, p0] at a
    have b := M2.1 1 (by omega)
    rw [← c, p1] at b
    have c2 := M2.1 2 (by omega)
    rw [← c, p2] at c2
    have d := M2.1 3 (by omega)
    rw [← c, p3] at d
    simp at a b c2 d
    exact HNZ.out ⟨by omega, by omega, by omega, by omega⟩
  clear hb2 K2 M1 R1 W1 M2 R2
  go_wp2
  refine bodyPost_ret (v := .tuple #[.pointer (some ⟨g, 0, none⟩), .agg #[.int .u64 (limb m 0 : Nat), .int .u64 (limb m 1 : Nat), .int .u64 (limb m 2 : Nat), .int .u64 (limb m 3 : Nat), .int .u64 (limb (R256 - m) 0 : Nat), .int .u64 (limb (R256 - m) 1 : Nat), .int .u64 (limb (R256 - m) 2 : Nat), .int .u64 (limb (R256 - m) 3 : Nat)]]) ?_ rfl ⟨g, rfl, ?_, ?_⟩
  · simp [results, Tryd.results9, go_sem, p0, p1, p2, p3, p4, p5, p6, p7]
  · exact (((((((HM.out.setB gne).setB gne).setB gne).setB gne).setB gne).setB gne).setB gne).setB gne
  · ((repeat' (first | with_reducible exact Below.refl _ _ | with_reducible refine Below.setCell ?_ ?_ _ | with_reducible refine below_alloc0 ?_ _ | with_reducible refine below_drewN ?_ _ | with_reducible refine Below.drew ?_ | refine below_call0 ?_ (by assumption))) <;> (first | omega | (simp; done) | (simp; omega)))

theorem of_any (b : Bool) (w : World) (hG : Glob w) (hQ : GlobQ w) : Calls Tryd.prog 9 #[.bool b] w fun e w' => ∃ g, e = .returned (.tuple #[.pointer (some ⟨g, 0, none⟩), .agg #[.int .u64 (limb (mB b) 0 : Nat), .int .u64 (limb (mB b) 1 : Nat), .int .u64 (limb (mB b) 2 : Nat), .int .u64 (limb (mB b) 3 : Nat), .int .u64 (limb (R256 - (mB b)) 0 : Nat), .int .u64 (limb (R256 - (mB b)) 1 : Nat), .int .u64 (limb (R256 - (mB b)) 2 : Nat), .int .u64 (limb (R256 - (mB b)) 3 : Nat)]]) ∧ FieldB w' g (mB b) ∧ Below w.heap.size w w' := by
  cases b
  · exact of_false w hG hQ
  · exact of_true w hG hQ

set_option maxHeartbeats 2000000 in
theorem in_any (m a : Nat) (hF : FM m) (hS : FS m) (ha : a < R256) (w : World) : Calls Tryd.prog 36 #[.agg #[.int .u64 (limb m 0 : Nat), .int .u64 (limb m 1 : Nat), .int .u64 (limb m 2 : Nat), .int .u64 (limb m 3 : Nat), .int .u64 (limb (R256 - m) 0 : Nat), .int .u64 (limb (R256 - m) 1 : Nat), .int .u64 (limb (R256 - m) 2 : Nat), .int .u64 (limb (R256 - m) 3 : Nat)], .agg #[.int .u64 (limb (a) 0 : Nat), .int .u64 (limb (a) 1 : Nat), .int .u64 (limb (a) 2 : Nat), .int .u64 (limb (a) 3 : Nat)]] w fun e w' => e = .returned (.agg #[.int .u64 (limb (a % m) 0 : Nat), .int .u64 (limb (a % m) 1 : Nat), .int .u64 (limb (a % m) 2 : Nat), .int .u64 (limb (a % m) 3 : Nat)]) ∧ Below w.heap.size w w' := by
  have k : ∀ w, Calls Tryd.prog 24 #[.agg #[.int .u64 (limb m 0 : Nat), .int .u64 (limb m 1 : Nat), .int .u64 (limb m 2 : Nat), .int .u64 (limb m 3 : Nat), .int .u64 (limb (R256 - m) 0 : Nat), .int .u64 (limb (R256 - m) 1 : Nat), .int .u64 (limb (R256 - m) 2 : Nat), .int .u64 (limb (R256 - m) 3 : Nat)], .agg #[.int .u64 (limb a 0 : Nat), .int .u64 (limb a 1 : Nat), .int .u64 (limb a 2 : Nat), .int .u64 (limb a 3 : Nat), .int .u64 0, .int .u64 0, .int .u64 0, .int .u64 0]] w fun e w' => e = .returned (.agg #[.int .u64 (limb (a % m) 0 : Nat), .int .u64 (limb (a % m) 1 : Nat), .int .u64 (limb (a % m) 2 : Nat), .int .u64 (limb (a % m) 3 : Nat)]) ∧ Below w.heap.size w w' := fun w => by
    have h := reduce2_any m a hF hS (Nat.lt_of_lt_of_le ha (by decide)) w
    have z : ∀ k, 4 ≤ k → limb a k = 0 := fun k hk => by
      unfold limb
      rw [Nat.div_eq_of_lt, Nat.zero_mod]
      refine Nat.lt_of_lt_of_le ha ?_
      rw [R256_pow4]
      exact Nat.pow_le_pow_right M64_pos hk
    rw [z 4 (by omega), z 5 (by omega), z 6 (by omega), z 7 (by omega)] at h
    exact h
  obtain ⟨r, hr⟩ : ∃ r, r = a % m := ⟨_, rfl⟩
  rw [← hr] at k
  rw [← hr]
  obtain ⟨G, hG⟩ : ∃ G, G = R256 - m := ⟨_, rfl⟩
  rw [← hG] at k
  rw [← hG]
  have K : Hid _ := k
  clear k hr hG hF hS ha
  go_enter Tryd.func36, Tryd.ntmps36
  go_wp2_with fail
  refine (K.out _).mono ?_
  rintro e w1 ⟨rfl, hb1⟩
  have hz1 := hb1.size
  try simp only [World.size_alloc] at hz1
  have P1 := Pend.call_new hb1
  simp only [World.size_alloc] at P1
  have W1 : Below w.heap.size w w1 := by ((repeat' (first | with_reducible exact Below.refl _ _ | with_reducible refine Below.setCell ?_ ?_ _ | with_reducible refine below_alloc0 ?_ _ | with_reducible refine below_drewN ?_ _ | with_reducible refine Below.drew ?_ | refine below_call0 ?_ (by assumption))) <;> (first | omega | (simp; done) | (simp; omega)))
  obtain ⟨⟨p0, p1, p2, p3⟩, ⟨f0, f1, f2, f3⟩, pz⟩ := P1.facts
  clear hb1 K
  go_wp2
  refine bodyPost_ret (v := .agg #[.int .u64 (limb (r) 0 : Nat), .int .u64 (limb (r) 1 : Nat), .int .u64 (limb (r) 2 : Nat), .int .u64 (limb (r) 3 : Nat)]) ?_ rfl ⟨rfl, ?_⟩
  · simp [results, Tryd.results36, go_sem, p0, p1, p2, p3]
  · ((repeat' (first | with_reducible exact Below.refl _ _ | with_reducible refine Below.setCell ?_ ?_ _ | with_reducible refine below_alloc0 ?_ _ | with_reducible refine below_drewN ?_ _ | with_reducible refine Below.drew ?_ | refine below_call0 ?_ (by assumption))) <;> (first | omega | (simp; done) | (simp; omega)))
end Go.Proofs.YtdfdfkhilolnmaaDoor
