/- The walk of the statement LimbRules. -/
import Derived.Test.YtpedidldhlldfabEq8
import Derived.Test.YtpedidldhlldfabLow
import Derived.Deep.RegionHeld3
import Derived.Deep.DeepCutAuto
namespace Go.Proofs.Ytpedidldhlldfab
open Go.RowKit
attribute [local go_sem] run_eq4 run_eq8

theorem sub_add (a b : Nat) (ha : a < R256) (hb : b < R256) : subN (addN a b) b = a := by
  unfold subN addN
  unfold R256 at *
  omega
theorem add_comm' (a b : Nat) : addN b a = addN a b := by unfold addN; rw [Nat.add_comm]
theorem low_add (a b c : Nat) : addN (c * a % R256) (c * b % R256) = c * addN a b % R256 := by
  unfold addN
  rw [← Nat.add_mod, ← Nat.mul_add, Nat.mul_mod c ((a + b) % R256), Nat.mod_mod, ← Nat.mul_mod]

set_option maxHeartbeats 1600000 in
theorem limbRules_any (a b c : Nat) (ha : a < R256) (hb : b < R256) (hc : c < R256) (w : World) : Calls Try.prog 3 #[.agg #[.int .u64 (limb (a) 0 : Nat), .int .u64 (limb (a) 1 : Nat), .int .u64 (limb (a) 2 : Nat), .int .u64 (limb (a) 3 : Nat)], .agg #[.int .u64 (limb (b) 0 : Nat), .int .u64 (limb (b) 1 : Nat), .int .u64 (limb (b) 2 : Nat), .int .u64 (limb (b) 3 : Nat)], .agg #[.int .u64 (limb (c) 0 : Nat), .int .u64 (limb (c) 1 : Nat), .int .u64 (limb (c) 2 : Nat), .int .u64 (limb (c) 3 : Nat)]] w fun e w' => e = .returned (.bool true) ∧ Below w.heap.size w w' := by
  obtain ⟨s, hs⟩ : ∃ s, s = addN a b := ⟨_, rfl⟩
  have hsl : s < R256 := by rw [hs]; exact addN_lt a b
  obtain ⟨l, hl⟩ : ∃ l, l = c * s % R256 := ⟨_, rfl⟩
  have k1 := fun w => add_any a b ha hb w
  rw [← hs] at k1
  have k2 := fun w => sub_any s b hsl hb w
  rw [show subN s b = a from by rw [hs]; exact sub_add a b ha hb] at k2
  have k3 := fun w => add_any b a hb ha w
  rw [add_comm', ← hs] at k3
  have k4 := fun w => mul_any c s hc hsl w
  have k5 := fun w => lower_any (c * s) w
  rw [← hl] at k5
  have k6 := fun w => mul_any c a hc ha w
  have k7 := fun w => mul_any c b hc hb w
  have k8 := fun w => lower_any (c * a) w
  have k9 := fun w => lower_any (c * b) w
  have k10 := fun w => add_any (c * a % R256) (c * b % R256) (Nat.mod_lt _ (by decide)) (Nat.mod_lt _ (by decide)) w
  rw [low_add, ← hs, ← hl] at k10
  have k11 := fun w => mul_any a b ha hb w
  have k12 := fun w => mul_any b a hb ha w
  rw [Nat.mul_comm b a] at k12
  have K1 : Hid _ := k1
  have K2 : Hid _ := k2
  have K3 : Hid _ := k3
  have K4 : Hid _ := k4
  have K5 : Hid _ := k5
  have K6 : Hid _ := k6
  have K7 : Hid _ := k7
  have K8 : Hid _ := k8
  have K9 : Hid _ := k9
  have K10 : Hid _ := k10
  have K11 : Hid _ := k11
  have K12 : Hid _ := k12
  clear k1 k2 k3 k4 k5 k6 k7 k8 k9 k10 k11 k12 hs hl hsl ha hb hc
  go_enter Try.func3, Try.ntmps3
  go_wp2_with fail
  refine (K1.out _).mono ?_
  rintro e w1 ⟨rfl, hb1⟩
  have hz1 := hb1.size
  try simp only [World.size_alloc] at hz1
  have A1 : Num4 w1 w.heap.size a := by ((repeat' (first | assumption | (refine Num4.new' ?_; first | omega | (simp; done)) | refine Num4.set ?_ ?_ | refine Num4.alloc ?_ ?_ | refine Num4.drewN ?_ | refine Num4.call ?_ (by assumption) ?_)) <;> (first | omega | (simp; done) | (simp; omega)))
  have B1 : Num4 w1 (w.heap.size + 1) b := by ((repeat' (first | assumption | (refine Num4.new' ?_; first | omega | (simp; done)) | refine Num4.set ?_ ?_ | refine Num4.alloc ?_ ?_ | refine Num4.drewN ?_ | refine Num4.call ?_ (by assumption) ?_)) <;> (first | omega | (simp; done) | (simp; omega)))
  have C1 : Num4 w1 (w.heap.size + 2) c := by ((repeat' (first | assumption | (refine Num4.new' ?_; first | omega | (simp; done)) | refine Num4.set ?_ ?_ | refine Num4.alloc ?_ ?_ | refine Num4.drewN ?_ | refine Num4.call ?_ (by assumption) ?_)) <;> (first | omega | (simp; done) | (simp; omega)))
  obtain ⟨b10, b11, b12, b13⟩ := B1.facts
  have z1 : w.heap.size < w1.heap.size := by omega
  have y1 : w.heap.size + 1 < w1.heap.size := by omega
  go_wp2_with fail
  refine (K2.out _).mono ?_
  rintro e w2 ⟨rfl, hb2⟩
  have hz2 := hb2.size
  try simp only [World.size_alloc] at hz2
  have A2 : Num4 w2 w.heap.size a := by ((repeat' (first | assumption | (refine Num4.new' ?_; first | omega | (simp; done)) | refine Num4.set ?_ ?_ | refine Num4.alloc ?_ ?_ | refine Num4.drewN ?_ | refine Num4.call ?_ (by assumption) ?_)) <;> (first | omega | (simp; done) | (simp; omega)))
  have B2 : Num4 w2 (w.heap.size + 1) b := by ((repeat' (first | assumption | (refine Num4.new' ?_; first | omega | (simp; done)) | refine Num4.set ?_ ?_ | refine Num4.alloc ?_ ?_ | refine Num4.drewN ?_ | refine Num4.call ?_ (by assumption) ?_)) <;> (first | omega | (simp; done) | (simp; omega)))
  have C2 : Num4 w2 (w.heap.size + 2) c := by ((repeat' (first | assumption | (refine Num4.new' ?_; first | omega | (simp; done)) | refine Num4.set ?_ ?_ | refine Num4.alloc ?_ ?_ | refine Num4.drewN ?_ | refine Num4.call ?_ (by assumption) ?_)) <;> (first | omega | (simp; done) | (simp; omega)))
  have S2 : Num4 w2 w1.heap.size s := by ((repeat' (first | assumption | (refine Num4.new' ?_; first | omega | (simp; done)) | refine Num4.set ?_ ?_ | refine Num4.alloc ?_ ?_ | refine Num4.drewN ?_ | refine Num4.call ?_ (by assumption) ?_)) <;> (first | omega | (simp; done) | (simp; omega)))
  obtain ⟨a20, a21, a22, a23⟩ := A2.facts
  obtain ⟨b20, b21, b22, b23⟩ := B2.facts
  have z2 : w.heap.size < w2.heap.size := by omega
  have y2 : w.heap.size + 1 < w2.heap.size := by omega
  go_wp2_with fail
  refine (K3.out _).mono ?_
  rintro e w3 ⟨rfl, hb3⟩
  have hz3 := hb3.size
  try simp only [World.size_alloc] at hz3
  have A3 : Num4 w3 w.heap.size a := by ((repeat' (first | assumption | (refine Num4.new' ?_; first | omega | (simp; done)) | refine Num4.set ?_ ?_ | refine Num4.alloc ?_ ?_ | refine Num4.drewN ?_ | refine Num4.call ?_ (by assumption) ?_)) <;> (first | omega | (simp; done) | (simp; omega)))
  have B3 : Num4 w3 (w.heap.size + 1) b := by ((repeat' (first | assumption | (refine Num4.new' ?_; first | omega | (simp; done)) | refine Num4.set ?_ ?_ | refine Num4.alloc ?_ ?_ | refine Num4.drewN ?_ | refine Num4.call ?_ (by assumption) ?_)) <;> (first | omega | (simp; done) | (simp; omega)))
  have C3 : Num4 w3 (w.heap.size + 2) c := by ((repeat' (first | assumption | (refine Num4.new' ?_; first | omega | (simp; done)) | refine Num4.set ?_ ?_ | refine Num4.alloc ?_ ?_ | refine Num4.drewN ?_ | refine Num4.call ?_ (by assumption) ?_)) <;> (first | omega | (simp; done) | (simp; omega)))
  have S3 : Num4 w3 w1.heap.size s := by ((repeat' (first | assumption | (refine Num4.new' ?_; first | omega | (simp; done)) | refine Num4.set ?_ ?_ | refine Num4.alloc ?_ ?_ | refine Num4.drewN ?_ | refine Num4.call ?_ (by assumption) ?_)) <;> (first | omega | (simp; done) | (simp; omega)))
  have D3 : Num4 w3 w2.heap.size a := by ((repeat' (first | assumption | (refine Num4.new' ?_; first | omega | (simp; done)) | refine Num4.set ?_ ?_ | refine Num4.alloc ?_ ?_ | refine Num4.drewN ?_ | refine Num4.call ?_ (by assumption) ?_)) <;> (first | omega | (simp; done) | (simp; omega)))
  obtain ⟨c30, c31, c32, c33⟩ := C3.facts
  obtain ⟨s30, s31, s32, s33⟩ := S3.facts
  have z3 : w.heap.size + 1 + 1 < w3.heap.size := by omega
  have y3 : w1.heap.size < w3.heap.size := by omega
  go_wp2_with fail
  refine (K4.out _).mono ?_
  rintro e w4 ⟨rfl, hb4⟩
  have hz4 := hb4.size
  try simp only [World.size_alloc] at hz4
  go_wp2_with fail
  refine (K5.out _).mono ?_
  rintro e w5 ⟨rfl, hb5⟩
  have hz5 := hb5.size
  try simp only [World.size_alloc] at hz5
  have T5 : Num4 w5 w3.heap.size s := by ((repeat' (first | assumption | (refine Num4.new' ?_; first | omega | (simp; done)) | refine Num4.set ?_ ?_ | refine Num4.alloc ?_ ?_ | refine Num4.drewN ?_ | refine Num4.call ?_ (by assumption) ?_)) <;> (first | omega | (simp; done) | (simp; omega)))
  go_wp2_with fail
  obtain ⟨X, hX⟩ : ∃ X, X = w5.alloc (.cells #[.int .u64 (limb l 0 : Nat), .int .u64 (limb l 1 : Nat), .int .u64 (limb l 2 : Nat), .int .u64 (limb l 3 : Nat)] 24) := ⟨_, rfl⟩
  rw [← hX]
  have AX : Num4 X w.heap.size a := by rw [hX]; ((repeat' (first | assumption | (refine Num4.new' ?_; first | omega | (simp; done)) | refine Num4.set ?_ ?_ | refine Num4.alloc ?_ ?_ | refine Num4.drewN ?_ | refine Num4.call ?_ (by assumption) ?_)) <;> (first | omega | (simp; done) | (simp; omega)))
  have BX : Num4 X (w.heap.size + 1) b := by rw [hX]; ((repeat' (first | assumption | (refine Num4.new' ?_; first | omega | (simp; done)) | refine Num4.set ?_ ?_ | refine Num4.alloc ?_ ?_ | refine Num4.drewN ?_ | refine Num4.call ?_ (by assumption) ?_)) <;> (first | omega | (simp; done) | (simp; omega)))
  have CX : Num4 X (w.heap.size + 1 + 1) c := by rw [hX]; ((repeat' (first | assumption | (refine Num4.new' ?_; first | omega | (simp; done)) | refine Num4.set ?_ ?_ | refine Num4.alloc ?_ ?_ | refine Num4.drewN ?_ | refine Num4.call ?_ (by assumption) ?_)) <;> (first | omega | (simp; done) | (simp; omega)))
  have SX : Num4 X w1.heap.size s := by rw [hX]; ((repeat' (first | assumption | (refine Num4.new' ?_; first | omega | (simp; done)) | refine Num4.set ?_ ?_ | refine Num4.alloc ?_ ?_ | refine Num4.drewN ?_ | refine Num4.call ?_ (by assumption) ?_)) <;> (first | omega | (simp; done) | (simp; omega)))
  have DX : Num4 X w2.heap.size a := by rw [hX]; ((repeat' (first | assumption | (refine Num4.new' ?_; first | omega | (simp; done)) | refine Num4.set ?_ ?_ | refine Num4.alloc ?_ ?_ | refine Num4.drewN ?_ | refine Num4.call ?_ (by assumption) ?_)) <;> (first | omega | (simp; done) | (simp; omega)))
  have TX : Num4 X w3.heap.size s := by rw [hX]; ((repeat' (first | assumption | (refine Num4.new' ?_; first | omega | (simp; done)) | refine Num4.set ?_ ?_ | refine Num4.alloc ?_ ?_ | refine Num4.drewN ?_ | refine Num4.call ?_ (by assumption) ?_)) <;> (first | omega | (simp; done) | (simp; omega)))
  have LX : Num4 X w5.heap.size l := by rw [hX]; ((repeat' (first | assumption | (refine Num4.new' ?_; first | omega | (simp; done)) | refine Num4.set ?_ ?_ | refine Num4.alloc ?_ ?_ | refine Num4.drewN ?_ | refine Num4.call ?_ (by assumption) ?_)) <;> (first | omega | (simp; done) | (simp; omega)))
  have WX : Below w.heap.size w X := by rw [hX]; ((repeat' (first | with_reducible exact Below.refl _ _ | with_reducible refine Below.setCell ?_ ?_ _ | with_reducible refine below_alloc0 ?_ _ | with_reducible refine below_drewN ?_ _ | with_reducible refine Below.drew ?_ | refine below_call0 ?_ (by assumption))) <;> (first | omega | (simp; done) | (simp; omega)))
  have ZX : w5.heap.size < X.heap.size := by rw [hX]; simp
  have zx : w.heap.size + 1 + 1 < X.heap.size := by omega
  clear hX
  have KS : ∀ w', Below X.heap.size X w' → (Below X.heap.size X w' ∧ (w'.cell? ⟨w.heap.size, 0, none⟩ = some (.int .u64 (limb (a) 0 : Nat)) ∧ w'.cell? ⟨w.heap.size, 1, none⟩ = some (.int .u64 (limb (a) 1 : Nat)) ∧ w'.cell? ⟨w.heap.size, 2, none⟩ = some (.int .u64 (limb (a) 2 : Nat)) ∧ w'.cell? ⟨w.heap.size, 3, none⟩ = some (.int .u64 (limb (a) 3 : Nat))) ∧ (w'.cell? ⟨w.heap.size + 1, 0, none⟩ = some (.int .u64 (limb (b) 0 : Nat)) ∧ w'.cell? ⟨w.heap.size + 1, 1, none⟩ = some (.int .u64 (limb (b) 1 : Nat)) ∧ w'.cell? ⟨w.heap.size + 1, 2, none⟩ = some (.int .u64 (limb (b) 2 : Nat)) ∧ w'.cell? ⟨w.heap.size + 1, 3, none⟩ = some (.int .u64 (limb (b) 3 : Nat))) ∧ (w'.cell? ⟨w.heap.size + 1 + 1, 0, none⟩ = some (.int .u64 (limb (c) 0 : Nat)) ∧ w'.cell? ⟨w.heap.size + 1 + 1, 1, none⟩ = some (.int .u64 (limb (c) 1 : Nat)) ∧ w'.cell? ⟨w.heap.size + 1 + 1, 2, none⟩ = some (.int .u64 (limb (c) 2 : Nat)) ∧ w'.cell? ⟨w.heap.size + 1 + 1, 3, none⟩ = some (.int .u64 (limb (c) 3 : Nat)))) := fun w' h =>
    ⟨h, (AX.call h (by omega)).facts, (BX.call h (by omega)).facts, (CX.call h (by omega)).facts⟩
  have HK : Hid _ := KS
  clear KS
  have AA := And.intro AX (And.intro BX (And.intro CX (And.intro SX (And.intro DX (And.intro TX LX)))))
  clear hb1 hb2 hb3 hb4 hb5 A1 B1 C1 b10 b11 b12 b13 A2 B2 C2 S2 a20 a21 a22 a23 b20 b21 b22 b23 A3 B3 C3 S3 D3 c30 c31 c32 c33 s30 s31 s32 s33 T5 AX BX CX SX DX TX LX
  go_cut [14, 15] (fun v14 v15 wx => ∃ bl k, v14 = .pointer (some ⟨bl, 0, none⟩) ∧ v15 = .int .u64 k ∧ Num4 wx bl l ∧ bl < wx.heap.size ∧ Below X.heap.size X wx)
  case first =>
    go_region_held3 (fun w' => Below X.heap.size X w' ∧ (w'.cell? ⟨w.heap.size, 0, none⟩ = some (.int .u64 (limb (a) 0 : Nat)) ∧ w'.cell? ⟨w.heap.size, 1, none⟩ = some (.int .u64 (limb (a) 1 : Nat)) ∧ w'.cell? ⟨w.heap.size, 2, none⟩ = some (.int .u64 (limb (a) 2 : Nat)) ∧ w'.cell? ⟨w.heap.size, 3, none⟩ = some (.int .u64 (limb (a) 3 : Nat))) ∧ (w'.cell? ⟨w.heap.size + 1, 0, none⟩ = some (.int .u64 (limb (b) 0 : Nat)) ∧ w'.cell? ⟨w.heap.size + 1, 1, none⟩ = some (.int .u64 (limb (b) 1 : Nat)) ∧ w'.cell? ⟨w.heap.size + 1, 2, none⟩ = some (.int .u64 (limb (b) 2 : Nat)) ∧ w'.cell? ⟨w.heap.size + 1, 3, none⟩ = some (.int .u64 (limb (b) 3 : Nat))) ∧ (w'.cell? ⟨w.heap.size + 1 + 1, 0, none⟩ = some (.int .u64 (limb (c) 0 : Nat)) ∧ w'.cell? ⟨w.heap.size + 1 + 1, 1, none⟩ = some (.int .u64 (limb (c) 1 : Nat)) ∧ w'.cell? ⟨w.heap.size + 1 + 1, 2, none⟩ = some (.int .u64 (limb (c) 2 : Nat)) ∧ w'.cell? ⟨w.heap.size + 1 + 1, 3, none⟩ = some (.int .u64 (limb (c) 3 : Nat))))
      ((refine HK.out _ ?_; ((repeat' (first | with_reducible exact Below.refl _ _ | exact (And.left (by assumption)) | with_reducible refine Below.setCell ?_ ?_ _ | with_reducible refine below_alloc0 ?_ _ | with_reducible refine below_drewN ?_ _ | with_reducible refine Below.drew ?_ | refine below_call0 ?_ (by assumption))) <;> (first | omega | (simp; done) | (simp; omega)))))
      (first
      | (go_at_call_of 10 (Value.int .u64 (limb a 0 : Nat)); refine (K6.out _).mono ?_; rintro e w' ⟨rfl, hq⟩; have hzx := Nat.le_trans (Below.size (And.left ‹Below X.heap.size X _ ∧ _›)) hq.size; first | (have pd := Pend.call_new hq; have pf := pd.facts) | (have pd := Pend.call_drew hq; have pf := pd.facts) | (have pd := Pend.call ‹Pend _ _› hq; have pf := pd.facts) | skip)
      | (go_at_call_of 10 (Value.int .u64 (limb b 0 : Nat)); refine (K7.out _).mono ?_; rintro e w' ⟨rfl, hq⟩; have hzx := Nat.le_trans (Below.size (And.left ‹Below X.heap.size X _ ∧ _›)) hq.size; first | (have pd := Pend.call_new hq; have pf := pd.facts) | (have pd := Pend.call_drew hq; have pf := pd.facts) | (have pd := Pend.call ‹Pend _ _› hq; have pf := pd.facts) | skip)
      | (go_at_call_of 9 (Value.int .u64 (limb (c * a) 0 : Nat)); refine (K8.out _).mono ?_; rintro e w' ⟨rfl, hq⟩; have hzx := Nat.le_trans (Below.size (And.left ‹Below X.heap.size X _ ∧ _›)) hq.size; first | (have pd := Pend.call_new hq; have pf := pd.facts) | (have pd := Pend.call_drew hq; have pf := pd.facts) | (have pd := Pend.call ‹Pend _ _› hq; have pf := pd.facts) | skip)
      | (go_at_call_of 9 (Value.int .u64 (limb (c * b) 0 : Nat)); refine (K9.out _).mono ?_; rintro e w' ⟨rfl, hq⟩; have hzx := Nat.le_trans (Below.size (And.left ‹Below X.heap.size X _ ∧ _›)) hq.size; first | (have pd := Pend.call_new hq; have pf := pd.facts) | (have pd := Pend.call_drew hq; have pf := pd.facts) | (have pd := Pend.call ‹Pend _ _› hq; have pf := pd.facts) | skip)
      | (go_at_call 7; refine (K10.out _).mono ?_; rintro e w' ⟨rfl, hq⟩; have hzx := Nat.le_trans (Below.size (And.left ‹Below X.heap.size X _ ∧ _›)) hq.size; first | (have pd := Pend.call_new hq; have pf := pd.facts) | (have pd := Pend.call_drew hq; have pf := pd.facts) | (have pd := Pend.call ‹Pend _ _› hq; have pf := pd.facts) | skip))
    all_goals (go_wp2_with fail; go_meet)
    all_goals refine ⟨_, _, rfl, rfl, ?_, ?_, And.left (by assumption)⟩
    all_goals first | with_reducible exact Num4.new' rfl | with_reducible exact Num4.drew (Num4.new' rfl) | with_reducible exact Num4.put ‹Pend _ _› | with_reducible exact Num4.drew (Num4.put ‹Pend _ _›) | (simp; done) | (simp; omega)
  case rest =>
    obtain ⟨bl, k, rfl, rfl, PW, pz, hbx⟩ := hcut
    obtain ⟨AX, BX, CX, SX, DX, TX, LX⟩ := AA
    have zz := hbx.size
    have A6 : Num4 wc w.heap.size a := AX.call hbx (by omega)
    have B6 : Num4 wc (w.heap.size + 1) b := BX.call hbx (by omega)
    have S6 : Num4 wc w1.heap.size s := SX.call hbx (by omega)
    have D6 : Num4 wc w2.heap.size a := DX.call hbx (by omega)
    have T6 : Num4 wc w3.heap.size s := TX.call hbx (by omega)
    have L6 : Num4 wc w5.heap.size l := LX.call hbx (by omega)
    have WC : Below w.heap.size w wc := below_call0 WX hbx
    clear hbx AX BX CX SX DX TX LX WX HK
    have KS : ∀ w', Below wc.heap.size wc w' → (Below wc.heap.size wc w' ∧ (w'.cell? ⟨w2.heap.size, 0, none⟩ = some (.int .u64 (limb (a) 0 : Nat)) ∧ w'.cell? ⟨w2.heap.size, 1, none⟩ = some (.int .u64 (limb (a) 1 : Nat)) ∧ w'.cell? ⟨w2.heap.size, 2, none⟩ = some (.int .u64 (limb (a) 2 : Nat)) ∧ w'.cell? ⟨w2.heap.size, 3, none⟩ = some (.int .u64 (limb (a) 3 : Nat))) ∧ (w'.cell? ⟨w.heap.size, 0, none⟩ = some (.int .u64 (limb (a) 0 : Nat)) ∧ w'.cell? ⟨w.heap.size, 1, none⟩ = some (.int .u64 (limb (a) 1 : Nat)) ∧ w'.cell? ⟨w.heap.size, 2, none⟩ = some (.int .u64 (limb (a) 2 : Nat)) ∧ w'.cell? ⟨w.heap.size, 3, none⟩ = some (.int .u64 (limb (a) 3 : Nat))) ∧ (w'.cell? ⟨w1.heap.size, 0, none⟩ = some (.int .u64 (limb (s) 0 : Nat)) ∧ w'.cell? ⟨w1.heap.size, 1, none⟩ = some (.int .u64 (limb (s) 1 : Nat)) ∧ w'.cell? ⟨w1.heap.size, 2, none⟩ = some (.int .u64 (limb (s) 2 : Nat)) ∧ w'.cell? ⟨w1.heap.size, 3, none⟩ = some (.int .u64 (limb (s) 3 : Nat))) ∧ (w'.cell? ⟨w3.heap.size, 0, none⟩ = some (.int .u64 (limb (s) 0 : Nat)) ∧ w'.cell? ⟨w3.heap.size, 1, none⟩ = some (.int .u64 (limb (s) 1 : Nat)) ∧ w'.cell? ⟨w3.heap.size, 2, none⟩ = some (.int .u64 (limb (s) 2 : Nat)) ∧ w'.cell? ⟨w3.heap.size, 3, none⟩ = some (.int .u64 (limb (s) 3 : Nat))) ∧ (w'.cell? ⟨w.heap.size + 1, 0, none⟩ = some (.int .u64 (limb (b) 0 : Nat)) ∧ w'.cell? ⟨w.heap.size + 1, 1, none⟩ = some (.int .u64 (limb (b) 1 : Nat)) ∧ w'.cell? ⟨w.heap.size + 1, 2, none⟩ = some (.int .u64 (limb (b) 2 : Nat)) ∧ w'.cell? ⟨w.heap.size + 1, 3, none⟩ = some (.int .u64 (limb (b) 3 : Nat))) ∧ (w'.cell? ⟨w5.heap.size, 0, none⟩ = some (.int .u64 (limb (l) 0 : Nat)) ∧ w'.cell? ⟨w5.heap.size, 1, none⟩ = some (.int .u64 (limb (l) 1 : Nat)) ∧ w'.cell? ⟨w5.heap.size, 2, none⟩ = some (.int .u64 (limb (l) 2 : Nat)) ∧ w'.cell? ⟨w5.heap.size, 3, none⟩ = some (.int .u64 (limb (l) 3 : Nat))) ∧ (w'.cell? ⟨bl, 0, none⟩ = some (.int .u64 (limb (l) 0 : Nat)) ∧ w'.cell? ⟨bl, 1, none⟩ = some (.int .u64 (limb (l) 1 : Nat)) ∧ w'.cell? ⟨bl, 2, none⟩ = some (.int .u64 (limb (l) 2 : Nat)) ∧ w'.cell? ⟨bl, 3, none⟩ = some (.int .u64 (limb (l) 3 : Nat)))) := fun w' h =>
      ⟨h, (D6.call h (by omega)).facts, (A6.call h (by omega)).facts, (S6.call h (by omega)).facts, (T6.call h (by omega)).facts, (B6.call h (by omega)).facts, (L6.call h (by omega)).facts, (PW.call h (by omega)).facts⟩
    have HK : Hid _ := KS
    have qa : eq4 (limb a 0 : Nat) (limb a 1 : Nat) (limb a 2 : Nat) (limb a 3 : Nat) (limb a 0 : Nat) (limb a 1 : Nat) (limb a 2 : Nat) (limb a 3 : Nat) = true := by simp [eq4]
    have qs : eq4 (limb s 0 : Nat) (limb s 1 : Nat) (limb s 2 : Nat) (limb s 3 : Nat) (limb s 0 : Nat) (limb s 1 : Nat) (limb s 2 : Nat) (limb s 3 : Nat) = true := by simp [eq4]
    have ql : eq4 (limb l 0 : Nat) (limb l 1 : Nat) (limb l 2 : Nat) (limb l 3 : Nat) (limb l 0 : Nat) (limb l 1 : Nat) (limb l 2 : Nat) (limb l 3 : Nat) = true := by simp [eq4]
    have q8 : eq8 (limb (a * b) 0 : Nat) (limb (a * b) 1 : Nat) (limb (a * b) 2 : Nat) (limb (a * b) 3 : Nat) (limb (a * b) 4 : Nat) (limb (a * b) 5 : Nat) (limb (a * b) 6 : Nat) (limb (a * b) 7 : Nat) (limb (a * b) 0 : Nat) (limb (a * b) 1 : Nat) (limb (a * b) 2 : Nat) (limb (a * b) 3 : Nat) (limb (a * b) 4 : Nat) (limb (a * b) 5 : Nat) (limb (a * b) 6 : Nat) (limb (a * b) 7 : Nat) = true := eq8_self _ _ _ _ _ _ _ _
    clear KS A6 B6 S6 D6 T6 L6 PW
    go_wp2_with fail
    go_region_held3 (fun w' => Below wc.heap.size wc w' ∧ (w'.cell? ⟨w2.heap.size, 0, none⟩ = some (.int .u64 (limb (a) 0 : Nat)) ∧ w'.cell? ⟨w2.heap.size, 1, none⟩ = some (.int .u64 (limb (a) 1 : Nat)) ∧ w'.cell? ⟨w2.heap.size, 2, none⟩ = some (.int .u64 (limb (a) 2 : Nat)) ∧ w'.cell? ⟨w2.heap.size, 3, none⟩ = some (.int .u64 (limb (a) 3 : Nat))) ∧ (w'.cell? ⟨w.heap.size, 0, none⟩ = some (.int .u64 (limb (a) 0 : Nat)) ∧ w'.cell? ⟨w.heap.size, 1, none⟩ = some (.int .u64 (limb (a) 1 : Nat)) ∧ w'.cell? ⟨w.heap.size, 2, none⟩ = some (.int .u64 (limb (a) 2 : Nat)) ∧ w'.cell? ⟨w.heap.size, 3, none⟩ = some (.int .u64 (limb (a) 3 : Nat))) ∧ (w'.cell? ⟨w1.heap.size, 0, none⟩ = some (.int .u64 (limb (s) 0 : Nat)) ∧ w'.cell? ⟨w1.heap.size, 1, none⟩ = some (.int .u64 (limb (s) 1 : Nat)) ∧ w'.cell? ⟨w1.heap.size, 2, none⟩ = some (.int .u64 (limb (s) 2 : Nat)) ∧ w'.cell? ⟨w1.heap.size, 3, none⟩ = some (.int .u64 (limb (s) 3 : Nat))) ∧ (w'.cell? ⟨w3.heap.size, 0, none⟩ = some (.int .u64 (limb (s) 0 : Nat)) ∧ w'.cell? ⟨w3.heap.size, 1, none⟩ = some (.int .u64 (limb (s) 1 : Nat)) ∧ w'.cell? ⟨w3.heap.size, 2, none⟩ = some (.int .u64 (limb (s) 2 : Nat)) ∧ w'.cell? ⟨w3.heap.size, 3, none⟩ = some (.int .u64 (limb (s) 3 : Nat))) ∧ (w'.cell? ⟨w.heap.size + 1, 0, none⟩ = some (.int .u64 (limb (b) 0 : Nat)) ∧ w'.cell? ⟨w.heap.size + 1, 1, none⟩ = some (.int .u64 (limb (b) 1 : Nat)) ∧ w'.cell? ⟨w.heap.size + 1, 2, none⟩ = some (.int .u64 (limb (b) 2 : Nat)) ∧ w'.cell? ⟨w.heap.size + 1, 3, none⟩ = some (.int .u64 (limb (b) 3 : Nat))) ∧ (w'.cell? ⟨w5.heap.size, 0, none⟩ = some (.int .u64 (limb (l) 0 : Nat)) ∧ w'.cell? ⟨w5.heap.size, 1, none⟩ = some (.int .u64 (limb (l) 1 : Nat)) ∧ w'.cell? ⟨w5.heap.size, 2, none⟩ = some (.int .u64 (limb (l) 2 : Nat)) ∧ w'.cell? ⟨w5.heap.size, 3, none⟩ = some (.int .u64 (limb (l) 3 : Nat))) ∧ (w'.cell? ⟨bl, 0, none⟩ = some (.int .u64 (limb (l) 0 : Nat)) ∧ w'.cell? ⟨bl, 1, none⟩ = some (.int .u64 (limb (l) 1 : Nat)) ∧ w'.cell? ⟨bl, 2, none⟩ = some (.int .u64 (limb (l) 2 : Nat)) ∧ w'.cell? ⟨bl, 3, none⟩ = some (.int .u64 (limb (l) 3 : Nat))))
      ((refine HK.out _ ?_; ((repeat' (first | with_reducible exact Below.refl _ _ | exact (And.left (by assumption)) | with_reducible refine Below.setCell ?_ ?_ _ | with_reducible refine below_alloc0 ?_ _ | with_reducible refine below_drewN ?_ _ | with_reducible refine Below.drew ?_ | refine below_call0 ?_ (by assumption))) <;> (first | omega | (simp; done) | (simp; omega)))))
      (first
        | (go_at_call_of 10 (#[.agg #[.int .u64 (limb (a) 0 : Nat), .int .u64 (limb (a) 1 : Nat), .int .u64 (limb (a) 2 : Nat), .int .u64 (limb (a) 3 : Nat)], .agg #[.int .u64 (limb (b) 0 : Nat), .int .u64 (limb (b) 1 : Nat), .int .u64 (limb (b) 2 : Nat), .int .u64 (limb (b) 3 : Nat)]] : Array Value); refine (K11.out _).mono ?_; rintro e w' ⟨rfl, hq⟩)
        | (go_at_call_of 10 (#[.agg #[.int .u64 (limb (b) 0 : Nat), .int .u64 (limb (b) 1 : Nat), .int .u64 (limb (b) 2 : Nat), .int .u64 (limb (b) 3 : Nat)], .agg #[.int .u64 (limb (a) 0 : Nat), .int .u64 (limb (a) 1 : Nat), .int .u64 (limb (a) 2 : Nat), .int .u64 (limb (a) 3 : Nat)]] : Array Value); refine (K12.out _).mono ?_; rintro e w' ⟨rfl, hq⟩)
        | (go_at_call 11; refine (turns_any _).mono ?_; rintro e w' ⟨rfl, hq⟩))
    go_wp2
    go_ret
    exact ⟨rfl, below_call0 WC (And.left (by assumption))⟩
end Go.Proofs.Ytpedidldhlldfab
