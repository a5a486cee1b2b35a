/- Several texts laid together. -/
import Derived.Test.YtgmfecncfekjfaaDoorFieldP
import Derived.Deep.DeepCutAuto
import Derived.Deep.RegionHeld3
import Derived.Deep.RegionWith
import Derived.Test.YtgmfecncfekjfaaDoorLbA
namespace Go.Proofs.YtgmfecncfekjfaaDoor
open Go.RowKit
attribute [local go_sem] run_eq4

/-- The package's variable of the scalars' prime. -/
def GlobQ (w : World) : Prop := Num4 w 0 QQ ∧ 0 < w.heap.size
theorem GlobQ.call {W w1 : World} (h : GlobQ W) (hb : Below W.heap.size W w1) : GlobQ w1 := ⟨h.1.call hb h.2, Nat.lt_of_lt_of_le h.2 hb.size⟩
theorem GlobQ.alloc {W : World} {o : Obj} (h : GlobQ W) : GlobQ (W.alloc o) := h.call ((Below.refl _ _).alloc (Nat.le_refl _) o)
theorem GlobQ.drew {W : World} (h : GlobQ W) : GlobQ W.drew := h
theorem GlobQ.drewN {W : World} {k : Nat} (h : GlobQ W) : GlobQ (W.drewN k) := h
theorem eq4_zero (a : Nat) (ha : a < R256) : eq4 (limb a 0 : Nat) (limb a 1 : Nat) (limb a 2 : Nat) (limb a 3 : Nat) 0 0 0 0 = decide (a = 0) := by
  have h := eq4_num a 0 ha (by decide)
  rw [limb_nought, limb_nought, limb_nought, limb_nought] at h
  exact h
theorem limb_two : limb 2 0 = 2 ∧ limb 2 1 = 0 ∧ limb 2 2 = 0 ∧ limb 2 3 = 0 := by decide
set_option maxHeartbeats 2000000 in
theorem finv_in (g m a r : Nat) (hF : FM m) (ha : a < m) (h0 : a ≠ 0) (hr : r = a ^ (m - 2) % m) (w : World) (hM : FieldB w g m) :
    Calls Tryd.prog 67 #[.pointer (some ⟨g, 0, none⟩), .agg #[.int .u64 (limb (a) 0 : Nat), .int .u64 (limb (a) 1 : Nat), .int .u64 (limb (a) 2 : Nat), .int .u64 (limb (a) 3 : Nat)]] w fun e w' => e = .returned (.tuple #[.agg #[.int .u64 (limb (r) 0 : Nat), .int .u64 (limb (r) 1 : Nat), .int .u64 (limb (r) 2 : Nat), .int .u64 (limb (r) 3 : Nat)], .int .i64 0]) ∧ Below w.heap.size w w' := by
  have mR := hF.2.1
  have m1 := hF.pos
  obtain ⟨s, hs⟩ : ∃ s, s = m - 2 := ⟨_, rfl⟩
  have k2 : ∀ w, Calls Tryd.prog 81 #[.agg #[.int .u64 (limb (m) 0 : Nat), .int .u64 (limb (m) 1 : Nat), .int .u64 (limb (m) 2 : Nat), .int .u64 (limb (m) 3 : Nat)], .agg #[.int .u64 2, .int .u64 0, .int .u64 0, .int .u64 0]] w fun e w' => e = .returned (.tuple #[.agg #[.int .u64 (limb (s) 0 : Nat), .int .u64 (limb (s) 1 : Nat), .int .u64 (limb (s) 2 : Nat), .int .u64 (limb (s) 3 : Nat)], .int .u64 0]) ∧ Below w.heap.size w w' := fun w => by
    have k := sub_any m 2 mR (by decide) w
    rw [show subN m 2 = s from by rw [hs]; unfold subN; rw [show m + R256 - 2 = (m - 2) + R256 from by omega, Nat.add_mod_right, Nat.mod_eq_of_lt (by omega)], show subK m 2 = 0 from if_neg (by omega), limb_two.1, limb_two.2.1, limb_two.2.2.1, limb_two.2.2.2] at k
    exact k
  have k3 := fun (w : World) (h : FieldB w g m) => power_any g m a s hF ha (by omega) w h
  rw [hs, ← hr] at k3
  rw [← hs] at k3
  have K1 : Hid _ := fun (w : World) (h : FieldB w g m) => check_in g m a (by omega) mR ha w h
  have K2 : Hid _ := k2
  have K3 : Hid _ := k3
  have HM : Hid _ := hM
  have ez := eq4_zero a (by omega)
  rw [show decide (a = 0) = false from by simpa using h0] at ez
  clear k2 k3 hM ha h0 hr hs mR m1 hF
  go_enter Tryd.func67, Tryd.ntmps67
  go_wp2_with fail
  refine (K1.out _ (FieldB.alloc (FieldB.alloc HM.out))).mono ?_
  rintro e w1 ⟨rfl, hb1⟩
  have hz1 := hb1.size
  try simp only [World.size_alloc] at hz1
  have P1 := Pend.call_new hb1
  simp only [World.size_alloc] at P1
  have A1 : Num4 w1 w.heap.size a := by ((repeat' (first | assumption | (refine Num4.new' ?_; first | omega | (simp; done)) | refine Num4.set ?_ ?_ | refine Num4.alloc ?_ ?_ | refine Num4.drewN ?_ | refine Num4.call ?_ (by assumption) ?_)) <;> (first | omega | (simp; done) | (simp; omega)))
  have M1 : FieldB w1 g m := (FieldB.alloc (FieldB.alloc HM.out)).call hb1
  have W1 : Below w.heap.size w w1 := by ((repeat' (first | with_reducible exact Below.refl _ _ | with_reducible refine Below.setCell ?_ ?_ _ | with_reducible refine below_alloc0 ?_ _ | with_reducible refine below_drewN ?_ _ | with_reducible refine Below.drew ?_ | refine below_call0 ?_ (by assumption))) <;> (first | omega | (simp; done) | (simp; omega)))
  have z1 : w.heap.size + 1 < w1.heap.size := by omega
  clear hb1 hz1 K1 HM
  obtain ⟨a0, a1, a2, a3⟩ := A1.facts
  obtain ⟨m0, m1, m2, m3⟩ := M1.1.facts
  have mz := M1.2.2
  go_wp2_with fail
  refine (K2.out _).mono ?_
  rintro e w2 ⟨rfl, hb2⟩
  have P2 := P1.call hb2
  have A2 := A1.call hb2 (by omega)
  have M2 := M1.call hb2
  have W2 : Below w.heap.size w w2 := below_call0 W1 hb2
  have z2 : w.heap.size + 1 < w2.heap.size := Nat.lt_of_lt_of_le z1 hb2.size
  have y2 : w.heap.size < w2.heap.size := by omega
  clear hb2 K2 M1 W1 P1 A1 a0 a1 a2 a3 m0 m1 m2 m3 mz
  obtain ⟨a0, a1, a2, a3⟩ := A2.facts
  go_wp2_with fail
  refine (K3.out _ (FieldB.alloc M2)).mono ?_
  rintro e w3 ⟨rfl, hb3⟩
  have P3 := P2.alloc.call hb3
  have W3 : Below w.heap.size w w3 := below_call0 (below_alloc0 W2 _) hb3
  obtain ⟨⟨p0, p1, p2, p3⟩, ⟨f0, f1, f2, f3⟩, pz⟩ := P3.facts
  clear hb3 K3 M2 W2 P2 A2 a0 a1 a2 a3
  go_wp2
  refine bodyPost_ret (v := .tuple #[.agg #[.int .u64 (limb (r) 0 : Nat), .int .u64 (limb (r) 1 : Nat), .int .u64 (limb (r) 2 : Nat), .int .u64 (limb (r) 3 : Nat)], .int .i64 0]) ?_ rfl ⟨rfl, ?_⟩
  · simp [results, Tryd.results67, go_sem, p0, p1, p2, p3]
  · ((repeat' (first | with_reducible exact Below.refl _ _ | with_reducible refine Below.setCell ?_ ?_ _ | with_reducible refine below_alloc0 ?_ _ | with_reducible refine below_drewN ?_ _ | with_reducible refine Below.drew ?_ | refine below_call0 ?_ (by assumption))) <;> (first | omega | (simp; done) | (simp; omega)))

end Go.Proofs.YtgmfecncfekjfaaDoor

namespace Go.Proofs.YtgmfecncfekjfaaDoor
open Go.RowKit
attribute [local go_sem] run_eq4

def rootE : Nat := 28948022309329048855892746252171976963317496166410141009864396001977208667916
theorem rootE_lt : rootE < R256 := by decide
/-- The package's variables hold P, and (P + 1) / 4. -/
def Glob (w : World) : Prop := Num4 w 4 PP ∧ Num4 w 5 rootE ∧ 4 < w.heap.size ∧ 5 < w.heap.size
theorem Glob.call {W w1 : World} (h : Glob W) (hb : Below W.heap.size W w1) : Glob w1 :=
  ⟨h.1.call hb h.2.2.1, h.2.1.call hb h.2.2.2, Nat.lt_of_lt_of_le h.2.2.1 hb.size, Nat.lt_of_lt_of_le h.2.2.2 hb.size⟩
theorem Glob.alloc {W : World} {o : Obj} (h : Glob W) : Glob (W.alloc o) := h.call ((Below.refl _ _).alloc (Nat.le_refl _) o)
theorem Glob.drew {W : World} (h : Glob W) : Glob W.drew := h
theorem Glob.drewN {W : World} {k : Nat} (h : Glob W) : Glob (W.drewN k) := h

theorem keep4 {b n : Nat} {W w1 : World} (h : b < W.heap.size ∧ (W.cell? ⟨b, 0, none⟩ = some (.int .u64 (limb (n) 0 : Nat)) ∧ W.cell? ⟨b, 1, none⟩ = some (.int .u64 (limb (n) 1 : Nat)) ∧ W.cell? ⟨b, 2, none⟩ = some (.int .u64 (limb (n) 2 : Nat)) ∧ W.cell? ⟨b, 3, none⟩ = some (.int .u64 (limb (n) 3 : Nat)))) (hb : Below W.heap.size W w1) : b < w1.heap.size ∧ (w1.cell? ⟨b, 0, none⟩ = some (.int .u64 (limb (n) 0 : Nat)) ∧ w1.cell? ⟨b, 1, none⟩ = some (.int .u64 (limb (n) 1 : Nat)) ∧ w1.cell? ⟨b, 2, none⟩ = some (.int .u64 (limb (n) 2 : Nat)) ∧ w1.cell? ⟨b, 3, none⟩ = some (.int .u64 (limb (n) 3 : Nat))) :=
  ⟨Nat.lt_of_lt_of_le h.1 hb.size, (hb.cell (p := ⟨b, 0, none⟩) h.1).trans h.2.1, (hb.cell (p := ⟨b, 1, none⟩) h.1).trans h.2.2.1, (hb.cell (p := ⟨b, 2, none⟩) h.1).trans h.2.2.2.1, (hb.cell (p := ⟨b, 3, none⟩) h.1).trans h.2.2.2.2⟩
theorem set4 {b n : Nat} {W : World} {a : Addr} {v : Value} (hne : a.block ≠ b) (h : b < W.heap.size ∧ (W.cell? ⟨b, 0, none⟩ = some (.int .u64 (limb (n) 0 : Nat)) ∧ W.cell? ⟨b, 1, none⟩ = some (.int .u64 (limb (n) 1 : Nat)) ∧ W.cell? ⟨b, 2, none⟩ = some (.int .u64 (limb (n) 2 : Nat)) ∧ W.cell? ⟨b, 3, none⟩ = some (.int .u64 (limb (n) 3 : Nat)))) : b < (W.setCell a v).heap.size ∧ ((W.setCell a v).cell? ⟨b, 0, none⟩ = some (.int .u64 (limb (n) 0 : Nat)) ∧ (W.setCell a v).cell? ⟨b, 1, none⟩ = some (.int .u64 (limb (n) 1 : Nat)) ∧ (W.setCell a v).cell? ⟨b, 2, none⟩ = some (.int .u64 (limb (n) 2 : Nat)) ∧ (W.setCell a v).cell? ⟨b, 3, none⟩ = some (.int .u64 (limb (n) 3 : Nat))) := by
  have o : ∀ j, (W.setCell a v).cell? ⟨b, j, none⟩ = W.cell? ⟨b, j, none⟩ := fun j => World.cell?_setCell_other _ _ _ _ (by intro c; apply hne; rw [c])
  exact ⟨by rw [World.size_setCell]; exact h.1, (o 0).trans h.2.1, (o 1).trans h.2.2.1, (o 2).trans h.2.2.2.1, (o 3).trans h.2.2.2.2⟩
def evenR (m r : Nat) : Nat := if r % 2 = 1 then subM m 0 r else r
theorem evenR_odd (m r : Nat) (h : r % 2 = 1) : evenR m r = subM m 0 r := if_pos h
theorem evenR_even (m r : Nat) (h : r % 2 = 0) : evenR m r = r := if_neg (by omega)
set_option maxHeartbeats 4000000 in
theorem fsqrt_P (g a r s : Nat) (ok : Bool) (ha : a < PP) (hr : r = a ^ rootE % PP) (hok : ok = decide (r * r % PP = a)) (hs : s = evenR PP r) (w : World) (hG : Glob w) (hM : FieldB w g PP) :
    Calls Tryd.prog 78 #[.pointer (some ⟨g, 0, none⟩), .agg #[.int .u64 (limb (a) 0 : Nat), .int .u64 (limb (a) 1 : Nat), .int .u64 (limb (a) 2 : Nat), .int .u64 (limb (a) 3 : Nat)]] w fun e w' => e = .returned (cond ok (.tuple #[.agg #[.int .u64 (limb (s) 0 : Nat), .int .u64 (limb (s) 1 : Nat), .int .u64 (limb (s) 2 : Nat), .int .u64 (limb (s) 3 : Nat)], .int .i64 0]) (.tuple #[z4, .int .i64 22])) ∧ Below w.heap.size w w' := by
  have rR : r < PP := by rw [hr]; exact Nat.mod_lt _ (by decide)
  have aR : a < R256 := Nat.lt_trans ha FM_P.2.1
  obtain ⟨x, hx⟩ : ∃ x, x = r * r % PP := ⟨_, rfl⟩
  have xR : x < R256 := by rw [hx]; exact Nat.lt_trans (Nat.mod_lt _ (by decide)) FM_P.2.1
  have k2 := fun (w : World) (h : FieldB w g PP) => power_any g PP a rootE FM_P ha rootE_lt w h
  have k3 := fun (w : World) (h : FieldB w g PP) => times_fld g PP r r FM_P (Nat.lt_trans rR FM_P.2.1) (Nat.lt_trans rR FM_P.2.1) w h
  have k4 : ∀ w, FieldB w g PP → Calls Tryd.prog 93 #[.pointer (some ⟨g, 0, none⟩), z4, .agg #[.int .u64 (limb (r) 0 : Nat), .int .u64 (limb (r) 1 : Nat), .int .u64 (limb (r) 2 : Nat), .int .u64 (limb (r) 3 : Nat)]] w fun e w' => e = .returned (.agg #[.int .u64 (limb (subM PP 0 r) 0 : Nat), .int .u64 (limb (subM PP 0 r) 1 : Nat), .int .u64 (limb (subM PP 0 r) 2 : Nat), .int .u64 (limb (subM PP 0 r) 3 : Nat)]) ∧ Below w.heap.size w w' := fun w h => by
    have k := minus_fld g PP 0 r FM_P (by decide) rR w h
    rw [limb_nought, limb_nought, limb_nought, limb_nought] at k
    exact k
  obtain ⟨n, hn⟩ : ∃ n, n = subM PP 0 r := ⟨_, rfl⟩
  have k5 : ∀ w, Calls Tryd.prog 92 #[.int .u64 (limb r 0 : Nat), .agg #[.int .u64 (limb (n) 0 : Nat), .int .u64 (limb (n) 1 : Nat), .int .u64 (limb (n) 2 : Nat), .int .u64 (limb (n) 3 : Nat)], .agg #[.int .u64 (limb (r) 0 : Nat), .int .u64 (limb (r) 1 : Nat), .int .u64 (limb (r) 2 : Nat), .int .u64 (limb (r) 3 : Nat)]] w fun e w' => e = .returned (.agg #[.int .u64 (limb (s) 0 : Nat), .int .u64 (limb (s) 1 : Nat), .int .u64 (limb (s) 2 : Nat), .int .u64 (limb (s) 3 : Nat)]) ∧ Below w.heap.size w w' := fun w => by
    have l0 : limb r 0 % 2 = r % 2 := by rw [limb_zero]; unfold M64; omega
    by_cases h : r % 2 = 1
    · rw [hs, evenR_odd PP r h, hn]
      exact select_odd _ _ _ (limb_lt r 0) (by omega) w
    · rw [hs, evenR_even PP r (by omega)]
      exact select_even _ _ _ (limb_lt r 0) (by omega) w
  have ez := eq4_num x a xR aR
  rw [hx, ← hok] at ez
  rw [← hx] at ez
  have ek := eq4_num PP PP FM_P.2.1 FM_P.2.1
  rw [decide_eq_true rfl] at ek
  obtain ⟨q, hq⟩ : ∃ q, q = PP := ⟨_, rfl⟩
  obtain ⟨re, hre⟩ : ∃ re, re = rootE := ⟨_, rfl⟩
  rw [← hr] at k2
  rw [← hx] at k3
  rw [← hn] at k4
  have k1 := fun (w : World) (h : FieldB w g PP) => check_in g PP a aR FM_P.2.1 ha w h
  rw [← hre] at k2
  rw [← hq] at k1 k2 k3 k4 ek hM
  have K1 : Hid _ := k1
  have K2 : Hid _ := k2
  have K3 : Hid _ := k3
  have K4 : Hid _ := k4
  have K5 : Hid _ := k5
  have HM : Hid _ := hM
  have HG : Hid _ := hG
  have HQ : Hid _ := And.intro hq hre
  clear k1 k2 k3 k4 k5 hM hG ha hr hok hs hx hn hq hre rR aR xR
  go_enter Tryd.func78, Tryd.ntmps78
  go_wp2_with fail
  refine (K1.out _ (FieldB.alloc (FieldB.alloc HM.out))).mono ?_
  rintro e w1 ⟨rfl, hb1⟩
  have hz1 := hb1.size
  try simp only [World.size_alloc] at hz1
  have P1 := Pend.call_new hb1
  simp only [World.size_alloc] at P1
  have A1 : Num4 w1 w.heap.size a := by ((repeat' (first | assumption | (refine Num4.new' ?_; first | omega | (simp; done)) | refine Num4.set ?_ ?_ | refine Num4.alloc ?_ ?_ | refine Num4.drewN ?_ | refine Num4.call ?_ (by assumption) ?_)) <;> (first | omega | (simp; done) | (simp; omega)))
  have M1 : FieldB w1 g q := (FieldB.alloc (FieldB.alloc HM.out)).call hb1
  have G1 : Glob w1 := Glob.call (Glob.alloc (Glob.alloc HG.out)) hb1
  have W1 : Below w.heap.size w w1 := by ((repeat' (first | with_reducible exact Below.refl _ _ | with_reducible refine Below.setCell ?_ ?_ _ | with_reducible refine below_alloc0 ?_ _ | with_reducible refine below_drewN ?_ _ | with_reducible refine Below.drew ?_ | refine below_call0 ?_ (by assumption))) <;> (first | omega | (simp; done) | (simp; omega)))
  have z1 : w.heap.size + 1 < w1.heap.size := by omega
  clear hb1 hz1 K1 HM HG
  obtain ⟨m0, m1, m2, m3⟩ := M1.1.facts
  have mz := M1.2.2
  obtain ⟨g0, g1, g2, g3⟩ := G1.1.facts
  obtain ⟨h0, h1, h2, h3⟩ := G1.2.1.facts
  obtain ⟨a0, a1, a2, a3⟩ := A1.facts
  rw [← HQ.out.1] at g0 g1 g2 g3
  rw [← HQ.out.2] at h0 h1 h2 h3
  go_wp2_with fail
  go_quiet (fail)
  go_wp2_with fail
  refine (K2.out _ (FieldB.drewN M1)).mono ?_
  rintro e w2 ⟨rfl, hb2⟩
  have P2 := Pend.call (W := w1.drewN nq) P1 hb2
  have A2 := Num4.call (W := w1.drewN nq) A1 hb2 (Nat.lt_trans (by omega) z1)
  have M2 := FieldB.call (W := w1.drewN nq) M1 hb2
  have W2 : Below w.heap.size w w2 := below_call0 (below_drewN W1 _) hb2
  have z2 : w.heap.size + 1 < w2.heap.size := Nat.lt_of_lt_of_le z1 hb2.size
  clear hb2 K2 M1 W1 P1 A1 G1 a0 a1 a2 a3 m0 m1 m2 m3 mz g0 g1 g2 g3 h0 h1 h2 h3 HQ
  go_wp2_with fail
  obtain ⟨X, hX⟩ : ∃ X, X = w2.alloc (.cells #[.int .u64 (limb r 0 : Nat), .int .u64 (limb r 1 : Nat), .int .u64 (limb r 2 : Nat), .int .u64 (limb r 3 : Nat)] 24) := ⟨_, rfl⟩
  rw [← hX]
  have RX : Num4 X w2.heap.size r := by rw [hX]; exact Num4.new _ _ _
  have AX : Num4 X w.heap.size a := by rw [hX]; exact A2.alloc (by omega)
  have PX : Pend X (w.heap.size + 1) := by rw [hX]; exact P2.alloc
  have MX : FieldB X g q := by rw [hX]; exact M2.alloc
  have WX : Below w.heap.size w X := by rw [hX]; exact below_alloc0 W2 _
  have zx : w2.heap.size < X.heap.size := by rw [hX]; simp
  clear hX A2 P2 M2 W2
  have HK : Hid (∀ w', Below X.heap.size X w' → (Below X.heap.size X w' ∧ (w'.cell? ⟨w2.heap.size, 0, none⟩ = some (.int .u64 (limb (r) 0 : Nat)) ∧ w'.cell? ⟨w2.heap.size, 1, none⟩ = some (.int .u64 (limb (r) 1 : Nat)) ∧ w'.cell? ⟨w2.heap.size, 2, none⟩ = some (.int .u64 (limb (r) 2 : Nat)) ∧ w'.cell? ⟨w2.heap.size, 3, none⟩ = some (.int .u64 (limb (r) 3 : Nat))) ∧ (w'.cell? ⟨w.heap.size, 0, none⟩ = some (.int .u64 (limb (a) 0 : Nat)) ∧ w'.cell? ⟨w.heap.size, 1, none⟩ = some (.int .u64 (limb (a) 1 : Nat)) ∧ w'.cell? ⟨w.heap.size, 2, none⟩ = some (.int .u64 (limb (a) 2 : Nat)) ∧ w'.cell? ⟨w.heap.size, 3, none⟩ = some (.int .u64 (limb (a) 3 : Nat))))) := fun w' h =>
    ⟨h, (RX.call h (by omega)).facts, (AX.call h (by omega)).facts⟩
  have HX : Hid _ := And.intro MX (And.intro PX (And.intro WX RX))
  clear RX AX MX PX WX
  go_cut [7, 4, 0, 32] (fun v7 v4 v0 v32 wx => v7 = .pointer (some ⟨w2.heap.size, 0, none⟩) ∧ v4 = .pointer (some ⟨w.heap.size + 1, 0, none⟩) ∧ v0 = .pointer (some ⟨g, 0, none⟩) ∧ v32 = .bool (!ok) ∧ Below X.heap.size X wx)
  case first =>
    go_region_held3 (fun w' => Below X.heap.size X w' ∧ (w'.cell? ⟨w2.heap.size, 0, none⟩ = some (.int .u64 (limb (r) 0 : Nat)) ∧ w'.cell? ⟨w2.heap.size, 1, none⟩ = some (.int .u64 (limb (r) 1 : Nat)) ∧ w'.cell? ⟨w2.heap.size, 2, none⟩ = some (.int .u64 (limb (r) 2 : Nat)) ∧ w'.cell? ⟨w2.heap.size, 3, none⟩ = some (.int .u64 (limb (r) 3 : Nat))) ∧ (w'.cell? ⟨w.heap.size, 0, none⟩ = some (.int .u64 (limb (a) 0 : Nat)) ∧ w'.cell? ⟨w.heap.size, 1, none⟩ = some (.int .u64 (limb (a) 1 : Nat)) ∧ w'.cell? ⟨w.heap.size, 2, none⟩ = some (.int .u64 (limb (a) 2 : Nat)) ∧ w'.cell? ⟨w.heap.size, 3, none⟩ = some (.int .u64 (limb (a) 3 : Nat))))
      ((refine HK.out _ ?_; ((repeat' (first | with_reducible exact Below.refl _ _ | exact (And.left (by assumption)) | with_reducible refine Below.setCell ?_ ?_ _ | with_reducible refine below_alloc0 ?_ _ | with_reducible refine below_drewN ?_ _ | with_reducible refine Below.drew ?_ | refine below_call0 ?_ (by assumption))) <;> (first | omega | (simp; done) | (simp; omega)))))
      (first | (go_at_call 60; refine (K3.out _ (by first | exact HX.out.1 | exact FieldB.drew HX.out.1)).mono ?_; rintro e w3 ⟨rfl, hq3⟩))
    all_goals (go_wp2_with fail; go_meet)
    all_goals exact ⟨rfl, rfl, rfl, by simp, And.left (by assumption)⟩
  case rest =>
    obtain ⟨rfl, rfl, rfl, rfl, hbx⟩ := hcut
    have M3 := HX.out.1.call hbx
    have P3 := HX.out.2.1.call hbx
    have W3 : Below w.heap.size w wc := below_call0 HX.out.2.2.1 hbx
    have R3 := HX.out.2.2.2.call hbx zx
    have z3 : w2.heap.size < wc.heap.size := Nat.lt_of_lt_of_le zx hbx.size
    clear HX HK K3 hbx
    cases ok
    · obtain ⟨⟨p0, p1, p2, p3⟩, ⟨f0, f1, f2, f3⟩, pz⟩ := P3.facts
      go_wp2
      refine bodyPost_ret (v := .tuple #[z4, .int .i64 22]) ?_ rfl ⟨rfl, ?_⟩
      · simp [results, Tryd.results78, go_sem, p0, p1, p2, p3]
      · ((repeat' (first | with_reducible exact Below.refl _ _ | with_reducible refine Below.setCell ?_ ?_ _ | with_reducible refine below_alloc0 ?_ _ | with_reducible refine below_drewN ?_ _ | with_reducible refine Below.drew ?_ | refine below_call0 ?_ (by assumption))) <;> (first | omega | (simp; done) | (simp; omega)))
    · have HS : Hid (w2.heap.size < wc.heap.size ∧ (wc.cell? ⟨w2.heap.size, 0, none⟩ = some (.int .u64 (limb (r) 0 : Nat)) ∧ wc.cell? ⟨w2.heap.size, 1, none⟩ = some (.int .u64 (limb (r) 1 : Nat)) ∧ wc.cell? ⟨w2.heap.size, 2, none⟩ = some (.int .u64 (limb (r) 2 : Nat)) ∧ wc.cell? ⟨w2.heap.size, 3, none⟩ = some (.int .u64 (limb (r) 3 : Nat)))) := ⟨z3, R3.facts⟩
      have HX3 : Hid _ := And.intro M3 (And.intro P3 W3)
      have ne : w.heap.size + 1 ≠ w2.heap.size := by omega
      clear R3 M3 P3 W3
      go_wp2_with fail
      go_region_held3 (fun w' => w2.heap.size < w'.heap.size ∧ (w'.cell? ⟨w2.heap.size, 0, none⟩ = some (.int .u64 (limb (r) 0 : Nat)) ∧ w'.cell? ⟨w2.heap.size, 1, none⟩ = some (.int .u64 (limb (r) 1 : Nat)) ∧ w'.cell? ⟨w2.heap.size, 2, none⟩ = some (.int .u64 (limb (r) 2 : Nat)) ∧ w'.cell? ⟨w2.heap.size, 3, none⟩ = some (.int .u64 (limb (r) 3 : Nat))))
        ((first | exact HS.out | (with_reducible assumption) | exact keep4 (by assumption) (by assumption) | exact set4 ne (set4 ne (set4 ne (set4 ne (by assumption))))))
        (first
        | (go_at_call 93; refine (K4.out _ (by first | exact HX3.out.1 | exact FieldB.drew HX3.out.1)).mono ?_; rintro e w4 ⟨rfl, hq4⟩; have B4 : Below wc.heap.size wc w4 := below_call0 (by first | exact Below.refl _ _ | exact Below.drew (Below.refl _ _)) hq4)
        | (go_at_call 92; refine (K5.out _).mono ?_; rintro e w5 ⟨rfl, hq5⟩; have B5 : Below wc.heap.size wc w5 := below_call0 (by first | exact B4 | exact Below.drew B4) hq5; have P5 := HX3.out.2.1.call B5; have W5 : Below w.heap.size w w5 := below_call0 HX3.out.2.2 B5; obtain ⟨⟨p0, p1, p2, p3⟩, ⟨f0, f1, f2, f3⟩, pz⟩ := P5.facts))
      all_goals
        go_wp2
        refine bodyPost_ret (v := .tuple #[.agg #[.int .u64 (limb (s) 0 : Nat), .int .u64 (limb (s) 1 : Nat), .int .u64 (limb (s) 2 : Nat), .int .u64 (limb (s) 3 : Nat)], .int .i64 0]) ?_ rfl ⟨rfl, ?_⟩
        · simp [results, Tryd.results78, go_sem, p0, p1, p2, p3]
        · ((repeat' (first | with_reducible exact Below.refl _ _ | with_reducible refine Below.setCell ?_ ?_ _ | with_reducible refine below_alloc0 ?_ _ | with_reducible refine below_drewN ?_ _ | with_reducible refine Below.drew ?_ | refine below_call0 ?_ (by assumption))) <;> (first | omega | (simp; done) | (simp; omega)))
end Go.Proofs.YtgmfecncfekjfaaDoor
