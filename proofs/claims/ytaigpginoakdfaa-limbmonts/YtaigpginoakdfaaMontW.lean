/- limb.NewMont: Montgomery's way for a number. -/
import Derived.Test.YtaigpginoakdfaaMontT
import Derived.Test.YtaigpginoakdfaaInv
import Derived.Test.YtaigpginoakdfaaModL
namespace Go.Proofs.Ytaigpginoakdfaa
open Go.RowKit
attribute [local go_sem] run_eq4

theorem limb_R : limb R256 0 = 0 ∧ limb R256 1 = 0 ∧ limb R256 2 = 0 ∧ limb R256 3 = 0 ∧ limb R256 4 = 1 ∧ limb R256 5 = 0 ∧ limb R256 6 = 0 ∧ limb R256 7 = 0 := by decide
theorem powsum (k a b : Nat) (h : k = a + b) : (2 : Nat) ^ k = 2 ^ a * 2 ^ b := by rw [h, Nat.pow_add]
theorem pow512 (k : Nat) (h : k = 256 + 256) : (2 : Nat) ^ k = R256 * R256 := by rw [R256_pow]; exact powsum k 256 256 h
theorem neg_cancel (o x : Nat) (h : invAt o x 64) (hx : x < M64) : ((M64 - x) % M64 * o + 1) % M64 = 0 := by
  obtain ⟨k, hk⟩ := inv_done o x h
  have e1 : ((M64 - x) % M64 * o + 1) % M64 = ((M64 - x) * o + 1) % M64 := by rw [Nat.add_mod, Nat.mod_mul_mod, ← Nat.add_mod]
  rw [e1]
  have e2 : (M64 - x) * o + x * o = M64 * o := by rw [← Nat.add_mul, Nat.sub_add_cancel (Nat.le_of_lt hx)]
  have e3 : ((o * x : Nat) : Int) = 1 + k * 18446744073709551616 := by rw [Int.natCast_mul]; exact hk
  rw [Nat.mul_comm x o] at e2
  generalize (M64 - x) * o = A at *
  generalize o * x = B at *
  unfold M64 at *
  omega
theorem neg_wrap (x : Nat) (hx : x < M64) : IntKind.u64.wrap (-(x : Int)) = (((M64 - x) % M64 : Nat) : Int) := by
  rw [IntKind.wrap_u64]
  unfold M64 at *
  omega

set_option maxHeartbeats 4000000 in
theorem newmont_ok (m : Nat) (hm : m < R256) (hodd : m % 2 = 1) (h1 : m ≠ 1) (w : World) :
    Calls Try.prog 26 #[.agg #[.int .u64 (limb (m) 0 : Nat), .int .u64 (limb (m) 1 : Nat), .int .u64 (limb (m) 2 : Nat), .int .u64 (limb (m) 3 : Nat)]] w fun e w' => ∃ g c, e = .returned (.tuple #[.pointer (some ⟨g, 0, none⟩), .int .i64 0]) ∧ MontB w' g m (R256 * R256 % m) c ∧ (c * limb m 0 + 1) % M64 = 0 ∧ Below w.heap.size w w' := by
  obtain ⟨r, hr⟩ : ∃ r, r = R256 % m := ⟨_, rfl⟩
  obtain ⟨q, hq⟩ : ∃ q, q = R256 * R256 % m := ⟨_, rfl⟩
  have m0p : 0 < m := by omega
  have rl : r < R256 := by rw [hr]; exact Nat.lt_trans (Nat.mod_lt _ m0p) hm
  have l0 : limb m 0 % 2 = 1 := by rw [limb_zero]; unfold M64; omega
  have k1 : ∀ w, Calls Try.prog 24 #[.agg #[.int .u64 0, .int .u64 0, .int .u64 0, .int .u64 0, .int .u64 1, .int .u64 0, .int .u64 0, .int .u64 0], .agg #[.int .u64 (limb (m) 0 : Nat), .int .u64 (limb (m) 1 : Nat), .int .u64 (limb (m) 2 : Nat), .int .u64 (limb (m) 3 : Nat)]] w fun e w' => e = .returned (.tuple #[.agg #[.int .u64 (limb (r) 0 : Nat), .int .u64 (limb (r) 1 : Nat), .int .u64 (limb (r) 2 : Nat), .int .u64 (limb (r) 3 : Nat)], .int .i64 0]) ∧ Below w.heap.size w w' := fun w => by
    have g := mod_any R256 m (Nat.div_eq_of_lt (by rw [pow512 512 (by decide)]; decide)) m0p hm w
    obtain ⟨e0, e1, e2, e3, e4, e5, e6, e7⟩ := limb_R
    rw [e0, e1, e2, e3, e4, e5, e6, e7, ← hr] at g
    exact g
  have k2 := mul_any r r rl rl
  have k3 : ∀ w, Calls Try.prog 24 #[.agg #[.int .u64 (limb (r * r) 0 : Nat), .int .u64 (limb (r * r) 1 : Nat), .int .u64 (limb (r * r) 2 : Nat), .int .u64 (limb (r * r) 3 : Nat), .int .u64 (limb (r * r) 4 : Nat), .int .u64 (limb (r * r) 5 : Nat), .int .u64 (limb (r * r) 6 : Nat), .int .u64 (limb (r * r) 7 : Nat)], .agg #[.int .u64 (limb (m) 0 : Nat), .int .u64 (limb (m) 1 : Nat), .int .u64 (limb (m) 2 : Nat), .int .u64 (limb (m) 3 : Nat)]] w fun e w' => e = .returned (.tuple #[.agg #[.int .u64 (limb (q) 0 : Nat), .int .u64 (limb (q) 1 : Nat), .int .u64 (limb (q) 2 : Nat), .int .u64 (limb (q) 3 : Nat)], .int .i64 0]) ∧ Below w.heap.size w w' := fun w => by
    have g := mod_any (r * r) m (Nat.div_eq_of_lt (by
      have : r * r < R256 * R256 := Nat.mul_lt_mul_of_lt_of_le rl (Nat.le_of_lt rl) (by decide)
      rw [pow512 512 (by decide)]
      exact this)) m0p hm w
    rw [show r * r % m = q from by rw [hr, hq, ← Nat.mul_mod]] at g
    exact g
  rw [← hq]
  have K1 : Hid _ := k1
  have K2 : Hid _ := k2
  have K3 : Hid _ := k3
  have KI : Hid _ := fun w => inverse_any (limb m 0) (limb_lt m 0) l0 w
  have tb : bits .and .u64 (limb m 0 : Int) 1 = 1 := by
    have h := and_one (limb m 0) (limb_lt m 0)
    rw [l0] at h
    exact h
  have t1 : eq4 (limb m 0 : Nat) (limb m 1 : Nat) (limb m 2 : Nat) (limb m 3 : Nat) 1 0 0 0 = false := by
    rw [Bool.eq_false_iff]
    intro h
    simp [eq4] at h
    obtain ⟨e0, e1, e2, e3⟩ := h
    have j := join_limb m hm
    rw [show limb m 0 = 1 from by omega, show limb m 1 = 0 from by omega, show limb m 2 = 0 from by omega, show limb m 3 = 0 from by omega] at j
    unfold join4 M64 at j
    omega
  clear k1 k2 k3 hr hq rl l0 h1 hodd m0p
  go_enter Try.func26, Try.ntmps26
  go_wp2_with fail
  refine (K1.out _).mono ?_
  rintro e w1 ⟨rfl, hb1⟩
  have hz1 := hb1.size
  try simp only [World.size_alloc] at hz1
  have A1 : Num4 w1 w.heap.size m := by ((repeat' (first | assumption | (refine Num4.new' ?_; first | omega | (simp; done)) | refine Num4.set ?_ ?_ | refine Num4.alloc ?_ ?_ | refine Num4.drewN ?_ | refine Num4.call ?_ (by assumption) ?_)) <;> (first | omega | (simp; done) | (simp; omega)))
  have W1 : Below w.heap.size w w1 := by ((repeat' (first | with_reducible exact Below.refl _ _ | with_reducible refine Below.setCell ?_ ?_ _ | with_reducible refine below_alloc0 ?_ _ | with_reducible refine below_drewN ?_ _ | with_reducible refine Below.drew ?_ | refine below_call0 ?_ (by assumption))) <;> (first | omega | (simp; done) | (simp; omega)))
  have z1 : w.heap.size < w1.heap.size := by omega
  clear hb1 hz1
  go_wp2_with fail
  obtain ⟨X, hX⟩ : ∃ X, X = w1.alloc (.cells #[.int .u64 (limb r 0 : Nat), .int .u64 (limb r 1 : Nat), .int .u64 (limb r 2 : Nat), .int .u64 (limb r 3 : Nat)] 24) := ⟨_, rfl⟩
  rw [← hX]
  have AX : Num4 X w.heap.size m := by rw [hX]; exact A1.alloc z1
  have RX : Num4 X w1.heap.size r := by rw [hX]; exact Num4.new _ _ _
  have WX : Below w.heap.size w X := by rw [hX]; exact below_alloc0 W1 _
  have ZX : w1.heap.size < X.heap.size := by rw [hX]; simp
  clear hX A1 W1
  have HK : Hid (∀ w', Below X.heap.size X w' → (Below X.heap.size X w' ∧ (w'.cell? ⟨w.heap.size, 0, none⟩ = some (.int .u64 (limb (m) 0 : Nat)) ∧ w'.cell? ⟨w.heap.size, 1, none⟩ = some (.int .u64 (limb (m) 1 : Nat)) ∧ w'.cell? ⟨w.heap.size, 2, none⟩ = some (.int .u64 (limb (m) 2 : Nat)) ∧ w'.cell? ⟨w.heap.size, 3, none⟩ = some (.int .u64 (limb (m) 3 : Nat))) ∧ (w'.cell? ⟨w1.heap.size, 0, none⟩ = some (.int .u64 (limb (r) 0 : Nat)) ∧ w'.cell? ⟨w1.heap.size, 1, none⟩ = some (.int .u64 (limb (r) 1 : Nat)) ∧ w'.cell? ⟨w1.heap.size, 2, none⟩ = some (.int .u64 (limb (r) 2 : Nat)) ∧ w'.cell? ⟨w1.heap.size, 3, none⟩ = some (.int .u64 (limb (r) 3 : Nat))))) := fun w' h =>
    ⟨h, (AX.call h (by omega)).facts, (RX.call h (by omega)).facts⟩
  have AA : Hid _ := And.intro AX WX
  clear AX RX WX
  go_cut [6, 7] (fun v6 v7 wx => ∃ bl k, v6 = .pointer (some ⟨bl, 0, none⟩) ∧ v7 = .int .i64 k ∧ Num4 wx bl q ∧ bl < wx.heap.size ∧ Below X.heap.size X wx)
  case first =>
    go_region_held3 (fun w' => Below X.heap.size X w' ∧ (w'.cell? ⟨w.heap.size, 0, none⟩ = some (.int .u64 (limb (m) 0 : Nat)) ∧ w'.cell? ⟨w.heap.size, 1, none⟩ = some (.int .u64 (limb (m) 1 : Nat)) ∧ w'.cell? ⟨w.heap.size, 2, none⟩ = some (.int .u64 (limb (m) 2 : Nat)) ∧ w'.cell? ⟨w.heap.size, 3, none⟩ = some (.int .u64 (limb (m) 3 : Nat))) ∧ (w'.cell? ⟨w1.heap.size, 0, none⟩ = some (.int .u64 (limb (r) 0 : Nat)) ∧ w'.cell? ⟨w1.heap.size, 1, none⟩ = some (.int .u64 (limb (r) 1 : Nat)) ∧ w'.cell? ⟨w1.heap.size, 2, none⟩ = some (.int .u64 (limb (r) 2 : Nat)) ∧ w'.cell? ⟨w1.heap.size, 3, none⟩ = some (.int .u64 (limb (r) 3 : Nat))))
      ((refine HK.out _ ?_; ((repeat' (first | with_reducible exact Below.refl _ _ | exact (And.left (by assumption)) | with_reducible refine Below.setCell ?_ ?_ _ | with_reducible refine below_alloc0 ?_ _ | with_reducible refine below_drewN ?_ _ | with_reducible refine Below.drew ?_ | refine below_call0 ?_ (by assumption))) <;> (first | omega | (simp; done) | (simp; omega)))))
      (first
      | (go_at_call 16; refine (K2.out _).mono ?_; rintro e w' ⟨rfl, hq⟩; have hzx := Nat.le_trans (Below.size (And.left ‹Below X.heap.size X _ ∧ _›)) hq.size; first | (have pd := Pend.call_new hq; have pf := pd.facts) | (have pd := Pend.call_drew hq; have pf := pd.facts) | (have pd := Pend.call ‹Pend _ _› hq; have pf := pd.facts) | skip)
      | (go_at_call 24; refine (K3.out _).mono ?_; rintro e w' ⟨rfl, hq⟩; have hzx := Nat.le_trans (Below.size (And.left ‹Below X.heap.size X _ ∧ _›)) hq.size; first | (have pd := Pend.call_new hq; have pf := pd.facts) | (have pd := Pend.call_drew hq; have pf := pd.facts) | (have pd := Pend.call ‹Pend _ _› hq; have pf := pd.facts) | skip))
    all_goals (go_wp2_with fail; go_meet)
    all_goals refine ⟨_, _, rfl, rfl, ?_, ?_, And.left (by assumption)⟩
    all_goals first | with_reducible exact Num4.new' rfl | with_reducible exact Num4.drew (Num4.new' rfl) | with_reducible exact Num4.put ‹Pend _ _› | with_reducible exact Num4.drew (Num4.put ‹Pend _ _›) | (simp; done) | (simp; omega)
  case rest =>
    obtain ⟨bl, k, rfl, rfl, PW, pz, hbx⟩ := hcut
    have zz := hbx.size
    have A6 : Num4 wc w.heap.size m := AA.out.1.call hbx (by omega)
    have WC : Below w.heap.size w wc := below_call0 AA.out.2 hbx
    have HK2 : Hid (∀ w', Below wc.heap.size wc w' → (Below wc.heap.size wc w' ∧ (w'.cell? ⟨w.heap.size, 0, none⟩ = some (.int .u64 (limb (m) 0 : Nat)) ∧ w'.cell? ⟨w.heap.size, 1, none⟩ = some (.int .u64 (limb (m) 1 : Nat)) ∧ w'.cell? ⟨w.heap.size, 2, none⟩ = some (.int .u64 (limb (m) 2 : Nat)) ∧ w'.cell? ⟨w.heap.size, 3, none⟩ = some (.int .u64 (limb (m) 3 : Nat))) ∧ (w'.cell? ⟨bl, 0, none⟩ = some (.int .u64 (limb (q) 0 : Nat)) ∧ w'.cell? ⟨bl, 1, none⟩ = some (.int .u64 (limb (q) 1 : Nat)) ∧ w'.cell? ⟨bl, 2, none⟩ = some (.int .u64 (limb (q) 2 : Nat)) ∧ w'.cell? ⟨bl, 3, none⟩ = some (.int .u64 (limb (q) 3 : Nat))))) := fun w' h =>
      ⟨h, (A6.call h (by omega)).facts, (PW.call h (by omega)).facts⟩
    clear hbx HK K1 K2 K3 A6 PW
    go_wp2_with fail
    go_region_held3 (fun w' => Below wc.heap.size wc w' ∧ (w'.cell? ⟨w.heap.size, 0, none⟩ = some (.int .u64 (limb (m) 0 : Nat)) ∧ w'.cell? ⟨w.heap.size, 1, none⟩ = some (.int .u64 (limb (m) 1 : Nat)) ∧ w'.cell? ⟨w.heap.size, 2, none⟩ = some (.int .u64 (limb (m) 2 : Nat)) ∧ w'.cell? ⟨w.heap.size, 3, none⟩ = some (.int .u64 (limb (m) 3 : Nat))) ∧ (w'.cell? ⟨bl, 0, none⟩ = some (.int .u64 (limb (q) 0 : Nat)) ∧ w'.cell? ⟨bl, 1, none⟩ = some (.int .u64 (limb (q) 1 : Nat)) ∧ w'.cell? ⟨bl, 2, none⟩ = some (.int .u64 (limb (q) 2 : Nat)) ∧ w'.cell? ⟨bl, 3, none⟩ = some (.int .u64 (limb (q) 3 : Nat))))
      ((refine HK2.out _ ?_; ((repeat' (first | with_reducible exact Below.refl _ _ | exact (And.left (by assumption)) | with_reducible refine Below.setCell ?_ ?_ _ | with_reducible refine below_alloc0 ?_ _ | with_reducible refine below_drewN ?_ _ | with_reducible refine Below.drew ?_ | refine below_call0 ?_ (by assumption))) <;> (first | omega | (simp; done) | (simp; omega)))))
      (first | (go_at_call 46; refine (KI.out _).mono ?_; rintro e w' ⟨x, rfl, xl, hx, rfl⟩; have ex := neg_wrap x xl; have HX : Hid _ := neg_cancel _ x hx xl; obtain ⟨cc, hcc⟩ : ∃ cc, cc = (M64 - x) % M64 := ⟨_, rfl⟩; rw [← hcc] at ex; have HC : Hid _ := hcc; clear hcc hx))
    go_wp2
    go_ret2
    refine ⟨wc.heap.size, cc, rfl, ?_, by rw [HC.out]; exact HX.out, ?_⟩
    · refine ⟨?_, ?_, ?_, by simp⟩
      · refine limbs4 _ ?_ ?_ ?_ ?_ <;> simp [go_sem]
      · intro j hj
        have e : j = 0 ∨ j = 1 ∨ j = 2 ∨ j = 3 := by omega
        rcases e with rfl | rfl | rfl | rfl <;> simp [go_sem]
      · simp [go_sem]
    · ((repeat' (first | with_reducible exact Below.refl _ _ | with_reducible refine Below.setCell ?_ ?_ _ | with_reducible refine below_alloc0 ?_ _ | with_reducible refine below_drewN ?_ _ | with_reducible refine Below.drew ?_ | refine below_call0 ?_ (by assumption))) <;> (first | omega | (simp; done) | (simp; omega)))
end Go.Proofs.Ytaigpginoakdfaa
