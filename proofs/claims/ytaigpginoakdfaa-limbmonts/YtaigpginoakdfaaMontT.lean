/- limb.Mont.To and limb.Mont.From: a number with R, and without. -/
import Derived.Test.YtaigpginoakdfaaMontM
import Derived.Test.YtaigpginoakdfaaTurns
import Derived.Deep.RegionWith
namespace Go.Proofs.Ytaigpginoakdfaa
open Go.RowKit

set_option maxHeartbeats 1000000 in
theorem mfrom_go (g m s c a r ec : Nat) (k : ∀ w, MontB w g m s c → Calls Try.prog 28 #[.pointer (some ⟨g, 0, none⟩), .agg #[.int .u64 (limb (a) 0 : Nat), .int .u64 (limb (a) 1 : Nat), .int .u64 (limb (a) 2 : Nat), .int .u64 (limb (a) 3 : Nat)], .agg #[.int .u64 1, .int .u64 0, .int .u64 0, .int .u64 0]] w fun e w' => e = .returned (.tuple #[.agg #[.int .u64 (limb (r) 0 : Nat), .int .u64 (limb (r) 1 : Nat), .int .u64 (limb (r) 2 : Nat), .int .u64 (limb (r) 3 : Nat)], .int .i64 ec]) ∧ Below w.heap.size w w') (w : World) (hM : MontB w g m s c) :
    Calls Try.prog 30 #[.pointer (some ⟨g, 0, none⟩), .agg #[.int .u64 (limb (a) 0 : Nat), .int .u64 (limb (a) 1 : Nat), .int .u64 (limb (a) 2 : Nat), .int .u64 (limb (a) 3 : Nat)]] w fun e w' => e = .returned (.tuple #[.agg #[.int .u64 (limb (r) 0 : Nat), .int .u64 (limb (r) 1 : Nat), .int .u64 (limb (r) 2 : Nat), .int .u64 (limb (r) 3 : Nat)], .int .i64 ec]) ∧ Below w.heap.size w w' := by
  have K : Hid _ := k
  have HM : Hid _ := hM
  clear k hM
  go_enter Try.func30, Try.ntmps30
  go_wp2_with fail
  refine (K.out _ (MontB.alloc (MontB.alloc HM.out))).mono ?_
  rintro e w1 ⟨rfl, hb1⟩
  have P1 := Pend.call_new hb1
  have hz1 := hb1.size
  simp only [World.size_alloc] at hz1 P1
  have W1 : Below w.heap.size w w1 := by ((repeat' (first | with_reducible exact Below.refl _ _ | with_reducible refine Below.setCell ?_ ?_ _ | with_reducible refine below_alloc0 ?_ _ | with_reducible refine below_drewN ?_ _ | with_reducible refine Below.drew ?_ | refine below_call0 ?_ (by assumption))) <;> (first | omega | (simp; done) | (simp; omega)))
  obtain ⟨⟨p0, p1, p2, p3⟩, ⟨f0, f1, f2, f3⟩, pz⟩ := P1.facts
  clear hb1
  go_wp2
  refine bodyPost_ret (v := .tuple #[.agg #[.int .u64 (limb (r) 0 : Nat), .int .u64 (limb (r) 1 : Nat), .int .u64 (limb (r) 2 : Nat), .int .u64 (limb (r) 3 : Nat)], .int .i64 ec]) ?_ rfl ⟨rfl, ?_⟩
  · simp [results, Try.results30, go_sem, p0, p1, p2, p3]
  · ((repeat' (first | with_reducible exact Below.refl _ _ | with_reducible refine Below.setCell ?_ ?_ _ | with_reducible refine below_alloc0 ?_ _ | with_reducible refine below_drewN ?_ _ | with_reducible refine Below.drew ?_ | refine below_call0 ?_ (by assumption))) <;> (first | omega | (simp; done) | (simp; omega)))

set_option maxHeartbeats 2000000 in
theorem mto_go (g m s c a r ec : Nat) (k : ∀ w, MontB w g m s c → Calls Try.prog 28 #[.pointer (some ⟨g, 0, none⟩), .agg #[.int .u64 (limb (a) 0 : Nat), .int .u64 (limb (a) 1 : Nat), .int .u64 (limb (a) 2 : Nat), .int .u64 (limb (a) 3 : Nat)], .agg #[.int .u64 (limb (s) 0 : Nat), .int .u64 (limb (s) 1 : Nat), .int .u64 (limb (s) 2 : Nat), .int .u64 (limb (s) 3 : Nat)]] w fun e w' => e = .returned (.tuple #[.agg #[.int .u64 (limb (r) 0 : Nat), .int .u64 (limb (r) 1 : Nat), .int .u64 (limb (r) 2 : Nat), .int .u64 (limb (r) 3 : Nat)], .int .i64 ec]) ∧ Below w.heap.size w w') (w : World) (hM : MontB w g m s c) :
    Calls Try.prog 29 #[.pointer (some ⟨g, 0, none⟩), .agg #[.int .u64 (limb (a) 0 : Nat), .int .u64 (limb (a) 1 : Nat), .int .u64 (limb (a) 2 : Nat), .int .u64 (limb (a) 3 : Nat)]] w fun e w' => e = .returned (.tuple #[.agg #[.int .u64 (limb (r) 0 : Nat), .int .u64 (limb (r) 1 : Nat), .int .u64 (limb (r) 2 : Nat), .int .u64 (limb (r) 3 : Nat)], .int .i64 ec]) ∧ Below w.heap.size w w' := by
  have K : Hid _ := k
  have hg := hM.2.2.2
  have HM : Hid _ := hM
  clear k hM
  go_enter Try.func29, Try.ntmps29
  go_wp2_with fail
  obtain ⟨X, hX⟩ : ∃ X, X = (w.alloc (.cells #[.int .u64 (limb a 0 : Nat), .int .u64 (limb a 1 : Nat), .int .u64 (limb a 2 : Nat), .int .u64 (limb a 3 : Nat)] 24)).alloc (.cells #[.int .u64 0, .int .u64 0, .int .u64 0, .int .u64 0] 24) := ⟨_, rfl⟩
  rw [← hX]
  have AX : Num4 X w.heap.size a := by rw [hX]; ((repeat' (first | assumption | (refine Num4.new' ?_; first | omega | (simp; done)) | refine Num4.set ?_ ?_ | refine Num4.alloc ?_ ?_ | refine Num4.drewN ?_ | refine Num4.call ?_ (by assumption) ?_)) <;> (first | omega | (simp; done) | (simp; omega)))
  have PX : Pend X (w.heap.size + 1) := by
    rw [hX]
    have h := Pend.new (w.alloc (.cells #[.int .u64 (limb a 0 : Nat), .int .u64 (limb a 1 : Nat), .int .u64 (limb a 2 : Nat), .int .u64 (limb a 3 : Nat)] 24)) 24
    simp only [World.size_alloc] at h
    exact h
  have WX : Below w.heap.size w X := by rw [hX]; ((repeat' (first | with_reducible exact Below.refl _ _ | with_reducible refine Below.setCell ?_ ?_ _ | with_reducible refine below_alloc0 ?_ _ | with_reducible refine below_drewN ?_ _ | with_reducible refine Below.drew ?_ | refine below_call0 ?_ (by assumption))) <;> (first | omega | (simp; done) | (simp; omega)))
  have MX : MontB X g m s c := by rw [hX]; exact MontB.alloc (MontB.alloc HM.out)
  clear hX
  obtain ⟨a0, a1, a2, a3⟩ := AX.facts
  have s0 : X.cell? ⟨g, 4, none⟩ = some (.int .u64 (limb s 0 : Nat)) := MX.2.1 0 (by omega)
  have s1 : X.cell? ⟨g, 5, none⟩ = some (.int .u64 (limb s 1 : Nat)) := MX.2.1 1 (by omega)
  have s2 : X.cell? ⟨g, 6, none⟩ = some (.int .u64 (limb s 2 : Nat)) := MX.2.1 2 (by omega)
  have s3 : X.cell? ⟨g, 7, none⟩ = some (.int .u64 (limb s 3 : Nat)) := MX.2.1 3 (by omega)
  have HP : Hid _ := And.intro PX (And.intro WX MX)
  clear AX PX WX MX HM
  go_region_with (first | (go_at_call 28; refine (K.out _ (by exact HP.out.2.2)).mono ?_; rintro e w1 ⟨rfl, hq1⟩; have P1 := Pend.call (W := X.drew) HP.out.1 hq1; obtain ⟨⟨p0, p1, p2, p3⟩, ⟨f0, f1, f2, f3⟩, pz⟩ := P1.facts))
  all_goals
    go_wp2
    refine bodyPost_ret (v := .tuple #[.agg #[.int .u64 (limb (r) 0 : Nat), .int .u64 (limb (r) 1 : Nat), .int .u64 (limb (r) 2 : Nat), .int .u64 (limb (r) 3 : Nat)], .int .i64 ec]) ?_ rfl ⟨rfl, ?_⟩
    · simp [results, Try.results29, go_sem, p0, p1, p2, p3]
    · have W1 : Below w.heap.size w _ := below_call0 (Below.drew HP.out.2.1) hq1
      ((repeat' (first | with_reducible exact Below.refl _ _ | with_reducible refine Below.setCell ?_ ?_ _ | with_reducible refine below_alloc0 ?_ _ | with_reducible refine below_drewN ?_ _ | with_reducible refine Below.drew ?_ | refine below_call0 ?_ (by assumption))) <;> (first | omega | (simp; done) | (simp; omega)))
end Go.Proofs.Ytaigpginoakdfaa
