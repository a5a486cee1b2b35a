/- Several texts laid together. -/
import Derived.Test.YtbpgiijdcagckaaDoorFieldP
import Derived.Deep.DeepCutAuto
import Derived.Deep.RegionHeld3
import Derived.Deep.RegionWith
import Derived.Test.YtbpgiijdcagckaaDoorLbA
namespace Go.Proofs.YtbpgiijdcagckaaDoor
open Go.RowKit
attribute [local go_sem] run_eq4

/-- The package's variable of the scalars' prime. -/
def GlobQ (w : World) : Prop := Num4 w 0 QQ ∧ 0 < w.heap.size
theorem GlobQ.call {W w1 : World} (h : GlobQ W) (hb : Below W.heap.size W w1) : GlobQ w1 := ⟨h.1.call hb h.2, Nat.lt_of_lt_of_le h.2 hb.size⟩
theorem GlobQ.alloc {W : World} {o : Obj} (h : GlobQ W) : GlobQ (W.alloc o) := h.call ((Below.refl _ _).alloc (Nat.le_refl _) o)
theorem GlobQ.drew {W : World} (h : GlobQ W) : GlobQ W.drew := h
theorem GlobQ.drewN {W : World} {k : Nat} (h : GlobQ W) : GlobQ (W.drewN k) := h
theorem scalars_any (w : World) (hG : GlobQ w) :
    Calls Tryd.prog 25 #[] w fun e w' => ∃ g, e = .returned (.pointer (some ⟨g, 0, none⟩)) ∧ FieldB w' g QQ ∧ Below w.heap.size w w' := by
  obtain ⟨m, hm⟩ : ∃ m, m = QQ := ⟨_, rfl⟩
  have k := newField_any QQ (by have := FM_Q.pos; omega) FM_Q.2.1
  obtain ⟨g0, g1, g2, g3⟩ := hG.1.facts
  rw [← hm] at k g0 g1 g2 g3
  rw [← hm]
  have K : Hid _ := k
  clear k hm hG
  go_enter Tryd.func25, Tryd.ntmps25
  go_wp2_with fail
  refine (K.out _).mono ?_
  rintro e w1 ⟨g, rfl, hF, hb1⟩
  go_wp2
  go_ret
  exact ⟨g, rfl, hF, hb1⟩

set_option maxHeartbeats 1000000 in
theorem finv_bad (pv : Option Addr) (a : Nat) (ec : Int) (hec : ec ≠ 0) (P : World → Prop) (hP : ∀ w o, P w → P (w.alloc o))
    (k : ∀ w, P w → Calls Tryd.prog 26 #[.pointer pv, .agg #[.int .u64 (limb (a) 0 : Nat), .int .u64 (limb (a) 1 : Nat), .int .u64 (limb (a) 2 : Nat), .int .u64 (limb (a) 3 : Nat)]] w fun e w' => e = .returned (.int .i64 ec) ∧ Below w.heap.size w w') (w : World) (hw : P w) :
    Calls Tryd.prog 36 #[.pointer pv, .agg #[.int .u64 (limb (a) 0 : Nat), .int .u64 (limb (a) 1 : Nat), .int .u64 (limb (a) 2 : Nat), .int .u64 (limb (a) 3 : Nat)]] w fun e w' => e = .returned (.tuple #[z4, .int .i64 ec]) ∧ Below w.heap.size w w' := by
  have K1 : Hid _ := k
  have H : Hid _ := hP _ (.cells #[.int .u64 0, .int .u64 0, .int .u64 0, .int .u64 0] 27) (hP w (.cells #[.int .u64 (limb a 0 : Nat), .int .u64 (limb a 1 : Nat), .int .u64 (limb a 2 : Nat), .int .u64 (limb a 3 : Nat)] 27) hw)
  have he : (ec == 0) = false := by simpa using hec
  clear k hP hw hec
  go_enter Tryd.func36, Tryd.ntmps36
  go_wp2_with fail
  refine (K1.out _ H.out).mono ?_
  rintro e w1 ⟨rfl, hb1⟩
  have hz1 := hb1.size
  try simp only [World.size_alloc] at hz1
  have P1 := Pend.call_new hb1
  simp only [World.size_alloc] at P1
  have W1 : Below w.heap.size w w1 := by ((repeat' (first | with_reducible exact Below.refl _ _ | with_reducible refine Below.setCell ?_ ?_ _ | with_reducible refine below_alloc0 ?_ _ | with_reducible refine below_drewN ?_ _ | with_reducible refine Below.drew ?_ | refine below_call0 ?_ (by assumption))) <;> (first | omega | (simp; done) | (simp; omega)))
  obtain ⟨⟨p0, p1, p2, p3⟩, ⟨f0, f1, f2, f3⟩, pz⟩ := P1.facts
  clear hb1 K1 H
  go_wp2
  refine bodyPost_ret (v := .tuple #[z4, .int .i64 ec]) ?_ rfl ⟨rfl, ?_⟩
  · simp [results, Tryd.results36, go_sem, p0, p1, p2, p3]
  · ((repeat' (first | with_reducible exact Below.refl _ _ | with_reducible refine Below.setCell ?_ ?_ _ | with_reducible refine below_alloc0 ?_ _ | with_reducible refine below_drewN ?_ _ | with_reducible refine Below.drew ?_ | refine below_call0 ?_ (by assumption))) <;> (first | omega | (simp; done) | (simp; omega)))


/-! ### Inverses -/
theorem eq4_zero (a : Nat) (ha : a < R256) : eq4 (limb a 0 : Nat) (limb a 1 : Nat) (limb a 2 : Nat) (limb a 3 : Nat) 0 0 0 0 = decide (a = 0) := by
  have h := eq4_num a 0 ha (by decide)
  rw [limb_nought, limb_nought, limb_nought, limb_nought] at h
  exact h
set_option maxHeartbeats 1000000 in
theorem finv_zero (g m : Nat) (hF : FM m) (w : World) (hM : FieldB w g m) :
    Calls Tryd.prog 36 #[.pointer (some ⟨g, 0, none⟩), z4] w fun e w' => e = .returned (.tuple #[z4, .int .i64 21]) ∧ Below w.heap.size w w' := by
  have k : ∀ w, FieldB w g m → Calls Tryd.prog 26 #[.pointer (some ⟨g, 0, none⟩), z4] w fun e w' => e = .returned (.int .i64 0) ∧ Below w.heap.size w w' := fun w h => by
    have k := check_in g m 0 (by decide) hF.2.1 (by have := hF.pos; omega) w h
    rw [limb_nought, limb_nought, limb_nought, limb_nought] at k
    exact k
  have K1 : Hid _ := k
  have HM : Hid _ := hM
  clear k hF hM
  go_enter Tryd.func36, Tryd.ntmps36
  go_wp2_with fail
  refine (K1.out _ (FieldB.alloc (FieldB.alloc HM.out))).mono ?_
  rintro e w1 ⟨rfl, hb1⟩
  have hz1 := hb1.size
  try simp only [World.size_alloc] at hz1
  have P1 := Pend.call_new hb1
  have P0 := Pend.call ((Pend.new w 27).alloc (o := .cells #[.int .u64 0, .int .u64 0, .int .u64 0, .int .u64 0] 27)) hb1
  simp only [World.size_alloc] at P1
  have W1 : Below w.heap.size w w1 := by ((repeat' (first | with_reducible exact Below.refl _ _ | with_reducible refine Below.setCell ?_ ?_ _ | with_reducible refine below_alloc0 ?_ _ | with_reducible refine below_drewN ?_ _ | with_reducible refine Below.drew ?_ | refine below_call0 ?_ (by assumption))) <;> (first | omega | (simp; done) | (simp; omega)))
  obtain ⟨⟨p0, p1, p2, p3⟩, ⟨f0, f1, f2, f3⟩, pz⟩ := P1.facts
  obtain ⟨⟨q0, q1, q2, q3⟩, _, _⟩ := P0.facts
  have z : eq4 0 0 0 0 0 0 0 0 = true := rfl
  clear hb1 K1
  go_wp2
  refine bodyPost_ret (v := .tuple #[z4, .int .i64 21]) ?_ rfl ⟨rfl, ?_⟩
  · simp [results, Tryd.results36, go_sem, p0, p1, p2, p3]
  · ((repeat' (first | with_reducible exact Below.refl _ _ | with_reducible refine Below.setCell ?_ ?_ _ | with_reducible refine below_alloc0 ?_ _ | with_reducible refine below_drewN ?_ _ | with_reducible refine Below.drew ?_ | refine below_call0 ?_ (by assumption))) <;> (first | omega | (simp; done) | (simp; omega)))

theorem limb_two : limb 2 0 = 2 ∧ limb 2 1 = 0 ∧ limb 2 2 = 0 ∧ limb 2 3 = 0 := by decide
theorem limb_four : limb 4 0 = 4 ∧ limb 4 1 = 0 ∧ limb 4 2 = 0 ∧ limb 4 3 = 0 := by decide
set_option maxHeartbeats 2000000 in
theorem finv_in (g m a r : Nat) (hF : FM m) (ha : a < m) (h0 : a ≠ 0) (hr : r = a ^ (m - 2) % m) (w : World) (hM : FieldB w g m) :
    Calls Tryd.prog 36 #[.pointer (some ⟨g, 0, none⟩), .agg #[.int .u64 (limb (a) 0 : Nat), .int .u64 (limb (a) 1 : Nat), .int .u64 (limb (a) 2 : Nat), .int .u64 (limb (a) 3 : Nat)]] w fun e w' => e = .returned (.tuple #[.agg #[.int .u64 (limb (r) 0 : Nat), .int .u64 (limb (r) 1 : Nat), .int .u64 (limb (r) 2 : Nat), .int .u64 (limb (r) 3 : Nat)], .int .i64 0]) ∧ Below w.heap.size w w' := by
  have mR := hF.2.1
  have m1 := hF.pos
  obtain ⟨s, hs⟩ : ∃ s, s = m - 2 := ⟨_, rfl⟩
  have k2 : ∀ w, Calls Tryd.prog 45 #[.agg #[.int .u64 (limb (m) 0 : Nat), .int .u64 (limb (m) 1 : Nat), .int .u64 (limb (m) 2 : Nat), .int .u64 (limb (m) 3 : Nat)], .agg #[.int .u64 2, .int .u64 0, .int .u64 0, .int .u64 0]] w fun e w' => e = .returned (.tuple #[.agg #[.int .u64 (limb (s) 0 : Nat), .int .u64 (limb (s) 1 : Nat), .int .u64 (limb (s) 2 : Nat), .int .u64 (limb (s) 3 : Nat)], .int .u64 0]) ∧ Below w.heap.size w w' := fun w => by
    have k := sub_any m 2 mR (by decide) w
    rw [show subN m 2 = s from by rw [hs]; unfold subN; rw [show m + R256 - 2 = (m - 2) + R256 from by omega, Nat.add_mod_right, Nat.mod_eq_of_lt (by omega)], show subK m 2 = 0 from if_neg (by omega), limb_two.1, limb_two.2.1, limb_two.2.2.1, limb_two.2.2.2] at k
    exact k
  have k3 := fun (w : World) (h : FieldB w g m) => power_any g m a s hF ha (by omega) w h
  rw [hs, ← hr] at k3
  rw [← hs] at k3
  have K1 : Hid _ := fun (w : World) (h : FieldB w g m) => check_in g m a (by omega) mR ha w h
  have K2 : Hid _ := k2
  have K3 : Hid _ := k3
  have HM : Hid _ := hM
  have ez := eq4_zero a (by omega)
  rw [show decide (a = 0) = false from by simpa using h0] at ez
  clear k2 k3 hM ha h0 hr hs mR m1 hF
  go_enter Tryd.func36, Tryd.ntmps36
  go_wp2_with fail
  refine (K1.out _ (FieldB.alloc (FieldB.alloc HM.out))).mono ?_
  rintro e w1 ⟨rfl, hb1⟩
  have hz1 := hb1.size
  try simp only [World.size_alloc] at hz1
  have P1 := Pend.call_new hb1
  simp only [World.size_alloc] at P1
  have A1 : Num4 w1 w.heap.size a := by ((repeat' (first | assumption | (refine Num4.new' ?_; first | omega | (simp; done)) | refine Num4.set ?_ ?_ | refine Num4.alloc ?_ ?_ | refine Num4.drewN ?_ | refine Num4.call ?_ (by assumption) ?_)) <;> (first | omega | (simp; done) | (simp; omega)))
  have M1 : FieldB w1 g m := (FieldB.alloc (FieldB.alloc HM.out)).call hb1
  have W1 : Below w.heap.size w w1 := by ((repeat' (first | with_reducible exact Below.refl _ _ | with_reducible refine Below.setCell ?_ ?_ _ | with_reducible refine below_alloc0 ?_ _ | with_reducible refine below_drewN ?_ _ | with_reducible refine Below.drew ?_ | refine below_call0 ?_ (by assumption))) <;> (first | omega | (simp; done) | (simp; omega)))
  have z1 : w.heap.size + 1 < w1.heap.size := by omega
  clear hb1 hz1 K1 HM
  obtain ⟨a0, a1, a2, a3⟩ := A1.facts
  obtain ⟨m0, m1, m2, m3⟩ := M1.1.facts
  have mz := M1.2.2
  go_wp2_with fail
  refine (K2.out _).mono ?_
  rintro e w2 ⟨rfl, hb2⟩
  have P2 := P1.call hb2
  have A2 := A1.call hb2 (by omega)
  have M2 := M1.call hb2
  have W2 : Below w.heap.size w w2 := below_call0 W1 hb2
  have z2 : w.heap.size + 1 < w2.heap.size := Nat.lt_of_lt_of_le z1 hb2.size
  have y2 : w.heap.size < w2.heap.size := by omega
  clear hb2 K2 M1 W1 P1 A1 a0 a1 a2 a3 m0 m1 m2 m3 mz
  obtain ⟨a0, a1, a2, a3⟩ := A2.facts
  go_wp2_with fail
  refine (K3.out _ (FieldB.alloc M2)).mono ?_
  rintro e w3 ⟨rfl, hb3⟩
  have P3 := P2.alloc.call hb3
  have W3 : Below w.heap.size w w3 := below_call0 (below_alloc0 W2 _) hb3
  obtain ⟨⟨p0, p1, p2, p3⟩, ⟨f0, f1, f2, f3⟩, pz⟩ := P3.facts
  clear hb3 K3 M2 W2 P2 A2 a0 a1 a2 a3
  go_wp2
  refine bodyPost_ret (v := .tuple #[.agg #[.int .u64 (limb (r) 0 : Nat), .int .u64 (limb (r) 1 : Nat), .int .u64 (limb (r) 2 : Nat), .int .u64 (limb (r) 3 : Nat)], .int .i64 0]) ?_ rfl ⟨rfl, ?_⟩
  · simp [results, Tryd.results36, go_sem, p0, p1, p2, p3]
  · ((repeat' (first | with_reducible exact Below.refl _ _ | with_reducible refine Below.setCell ?_ ?_ _ | with_reducible refine below_alloc0 ?_ _ | with_reducible refine below_drewN ?_ _ | with_reducible refine Below.drew ?_ | refine below_call0 ?_ (by assumption))) <;> (first | omega | (simp; done) | (simp; omega)))

end Go.Proofs.YtbpgiijdcagckaaDoor

namespace Go.Proofs.YtbpgiijdcagckaaDoor
open Go.RowKit
attribute [local go_sem] run_eq4

def rootE : Nat := 28948022309329048855892746252171976963317496166410141009864396001977208667916
theorem rootE_lt : rootE < R256 := by decide
theorem keep4 {b n : Nat} {W w1 : World} (h : b < W.heap.size ∧ (W.cell? ⟨b, 0, none⟩ = some (.int .u64 (limb (n) 0 : Nat)) ∧ W.cell? ⟨b, 1, none⟩ = some (.int .u64 (limb (n) 1 : Nat)) ∧ W.cell? ⟨b, 2, none⟩ = some (.int .u64 (limb (n) 2 : Nat)) ∧ W.cell? ⟨b, 3, none⟩ = some (.int .u64 (limb (n) 3 : Nat)))) (hb : Below W.heap.size W w1) : b < w1.heap.size ∧ (w1.cell? ⟨b, 0, none⟩ = some (.int .u64 (limb (n) 0 : Nat)) ∧ w1.cell? ⟨b, 1, none⟩ = some (.int .u64 (limb (n) 1 : Nat)) ∧ w1.cell? ⟨b, 2, none⟩ = some (.int .u64 (limb (n) 2 : Nat)) ∧ w1.cell? ⟨b, 3, none⟩ = some (.int .u64 (limb (n) 3 : Nat))) :=
  ⟨Nat.lt_of_lt_of_le h.1 hb.size, (hb.cell (p := ⟨b, 0, none⟩) h.1).trans h.2.1, (hb.cell (p := ⟨b, 1, none⟩) h.1).trans h.2.2.1, (hb.cell (p := ⟨b, 2, none⟩) h.1).trans h.2.2.2.1, (hb.cell (p := ⟨b, 3, none⟩) h.1).trans h.2.2.2.2⟩
theorem set4 {b n : Nat} {W : World} {a : Addr} {v : Value} (hne : a.block ≠ b) (h : b < W.heap.size ∧ (W.cell? ⟨b, 0, none⟩ = some (.int .u64 (limb (n) 0 : Nat)) ∧ W.cell? ⟨b, 1, none⟩ = some (.int .u64 (limb (n) 1 : Nat)) ∧ W.cell? ⟨b, 2, none⟩ = some (.int .u64 (limb (n) 2 : Nat)) ∧ W.cell? ⟨b, 3, none⟩ = some (.int .u64 (limb (n) 3 : Nat)))) : b < (W.setCell a v).heap.size ∧ ((W.setCell a v).cell? ⟨b, 0, none⟩ = some (.int .u64 (limb (n) 0 : Nat)) ∧ (W.setCell a v).cell? ⟨b, 1, none⟩ = some (.int .u64 (limb (n) 1 : Nat)) ∧ (W.setCell a v).cell? ⟨b, 2, none⟩ = some (.int .u64 (limb (n) 2 : Nat)) ∧ (W.setCell a v).cell? ⟨b, 3, none⟩ = some (.int .u64 (limb (n) 3 : Nat))) := by
  have o : ∀ j, (W.setCell a v).cell? ⟨b, j, none⟩ = W.cell? ⟨b, j, none⟩ := fun j => World.cell?_setCell_other _ _ _ _ (by intro c; apply hne; rw [c])
  exact ⟨by rw [World.size_setCell]; exact h.1, (o 0).trans h.2.1, (o 1).trans h.2.2.1, (o 2).trans h.2.2.2.1, (o 3).trans h.2.2.2.2⟩
def evenR (m r : Nat) : Nat := if r % 2 = 1 then subM m 0 r else r
theorem evenR_odd (m r : Nat) (h : r % 2 = 1) : evenR m r = subM m 0 r := if_pos h
theorem evenR_even (m r : Nat) (h : r % 2 = 0) : evenR m r = r := if_neg (by omega)
end Go.Proofs.YtbpgiijdcagckaaDoor
