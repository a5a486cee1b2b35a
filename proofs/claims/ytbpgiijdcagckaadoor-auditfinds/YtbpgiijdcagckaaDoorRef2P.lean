/- The reference's Pow of a field. -/
import Derived.Test.YtbpgiijdcagckaaDoorRef2M
import Derived.Test.YtbpgiijdcagckaaDoorBitN
namespace Go.Proofs.YtbpgiijdcagckaaDoor
open Go.RowKit

def PowB (m a e n o : Nat) : Prop := o = a ^ (e / 2 ^ n) % m
theorem PowB.sq {m a e n o y : Nat} (h : PowB m a e (n + 1) o) (hy : y = o * o % m) (hb : bitN e n = 0) : PowB m a e n y := by
  unfold PowB at *
  rw [hy, h, ← Nat.mul_mod, ← Nat.pow_add, half_step e n, hb]
  congr 2
  omega
theorem PowB.sqm {m a e n o y z : Nat} (h : PowB m a e (n + 1) o) (hy : y = o * o % m) (hz : z = y * a % m) (hb : bitN e n = 1) : PowB m a e n z := by
  unfold PowB at *
  rw [hz, hy, h, ← Nat.mul_mod, ← Nat.pow_add, half_step e n, hb, Nat.mul_mod, Nat.mod_mod, ← Nat.mul_mod, ← Nat.pow_succ]
  congr 2
  omega
theorem PowB.top {m a e : Nat} (he : e < R256) (h1 : 1 < m) : PowB m a e 256 1 := by
  unfold PowB
  rw [Nat.div_eq_of_lt (show e < 2 ^ 256 from he), Nat.pow_zero, Nat.mod_eq_of_lt h1]
/-- What the loops of the reference's Pow keep. -/
def PoAt (w wx : World) (m a e o : Nat) : Prop := FieldB wx w.heap.size m ∧ Num4 wx (w.heap.size + 1) a ∧ Num4 wx (w.heap.size + 1 + 1) e ∧ Pend wx (w.heap.size + 1 + 1 + 1) ∧ Own4 wx (w.heap.size + 1 + 1 + 1 + 1) o ∧ Below w.heap.size w wx
theorem PoAt.call {w W w1 : World} {m a e o : Nat} (h : PoAt w W m a e o) (hb : Below W.heap.size W w1) : PoAt w w1 m a e o :=
  ⟨h.1.call hb, h.2.1.call hb (Nat.lt_trans (by omega) h.2.2.2.1.2.2), h.2.2.1.call hb (Nat.lt_trans (by omega) h.2.2.2.1.2.2), h.2.2.2.1.call hb, h.2.2.2.2.1.call hb, below_call0 h.2.2.2.2.2 hb⟩
theorem PoAt.put {w W : World} {m a e o : Nat} (h : PoAt w W m a e o) (k : Nat) : PoAt w ((((W.setCell ⟨w.heap.size + 1 + 1 + 1 + 1, 0, none⟩ (.int .u64 (limb k 0 : Nat))).setCell ⟨w.heap.size + 1 + 1 + 1 + 1, 1, none⟩ (.int .u64 (limb k 1 : Nat))).setCell ⟨w.heap.size + 1 + 1 + 1 + 1, 2, none⟩ (.int .u64 (limb k 2 : Nat))).setCell ⟨w.heap.size + 1 + 1 + 1 + 1, 3, none⟩ (.int .u64 (limb k 3 : Nat))) m a e k := by
  have n1 : w.heap.size + 1 + 1 + 1 + 1 ≠ w.heap.size := by omega
  have n2 : w.heap.size + 1 + 1 + 1 + 1 ≠ w.heap.size + 1 := by omega
  have n3 : w.heap.size + 1 + 1 + 1 + 1 ≠ w.heap.size + 1 + 1 := by omega
  have n4 : w.heap.size + 1 + 1 + 1 + 1 ≠ w.heap.size + 1 + 1 + 1 := by omega
  have n5 : w.heap.size ≤ w.heap.size + 1 + 1 + 1 + 1 := by omega
  exact ⟨(((h.1.setB n1).setB n1).setB n1).setB n1, (((h.2.1.set n2).set n2).set n2).set n2, (((h.2.2.1.set n3).set n3).set n3).set n3, (((h.2.2.2.1.set n4).set n4).set n4).set n4, h.2.2.2.2.1.put, (((h.2.2.2.2.2.setCell n5 _).setCell n5 _).setCell n5 _).setCell n5 _⟩
theorem limb_one2 : limb 1 0 = 1 ∧ limb 1 1 = 0 ∧ limb 1 2 = 0 ∧ limb 1 3 = 0 := by decide

set_option maxRecDepth 100000 in
set_option maxHeartbeats 4000000 in
theorem pow2_any (m a e : Nat) (hF : FM m) (hS : FS m) (ha : a < R256) (he : e < R256) (w : World) :
    Calls Tryd.prog 33 #[.agg #[.int .u64 (limb (m) 0 : Nat), .int .u64 (limb (m) 1 : Nat), .int .u64 (limb (m) 2 : Nat), .int .u64 (limb (m) 3 : Nat), .int .u64 (limb (R256 - (m)) 0 : Nat), .int .u64 (limb (R256 - (m)) 1 : Nat), .int .u64 (limb (R256 - (m)) 2 : Nat), .int .u64 (limb (R256 - (m)) 3 : Nat)], .agg #[.int .u64 (limb (a) 0 : Nat), .int .u64 (limb (a) 1 : Nat), .int .u64 (limb (a) 2 : Nat), .int .u64 (limb (a) 3 : Nat)], .agg #[.int .u64 (limb (e) 0 : Nat), .int .u64 (limb (e) 1 : Nat), .int .u64 (limb (e) 2 : Nat), .int .u64 (limb (e) 3 : Nat)]] w fun x w' => x = .returned (.agg #[.int .u64 (limb (a ^ e % m) 0 : Nat), .int .u64 (limb (a ^ e % m) 1 : Nat), .int .u64 (limb (a ^ e % m) 2 : Nat), .int .u64 (limb (a ^ e % m) 3 : Nat)]) ∧ Below w.heap.size w w' := by
  obtain ⟨r, hr⟩ : ∃ r, r = a ^ e % m := ⟨_, rfl⟩
  rw [← hr]
  obtain ⟨G, hG⟩ : ∃ G, G = R256 - m := ⟨_, rfl⟩
  have m1 := hF.pos
  have mR := hF.2.1
  have HFN : Hid (∀ W t, FieldB ((W : World).alloc (.cells #[.int .u64 (limb m 0 : Nat), .int .u64 (limb m 1 : Nat), .int .u64 (limb m 2 : Nat), .int .u64 (limb m 3 : Nat), .int .u64 (limb (R256 - m) 0 : Nat), .int .u64 (limb (R256 - m) 1 : Nat), .int .u64 (limb (R256 - m) 2 : Nat), .int .u64 (limb (R256 - m) 3 : Nat)] t)) W.heap.size m) := fun W t => ⟨by refine limbs4 _ ?_ ?_ ?_ ?_ <;> simp [go_sem], by refine limbs4 _ ?_ ?_ ?_ ?_ <;> simp [go_sem], by simp⟩
  have km : ∀ x y z : Nat, x < R256 → y < R256 → z = x * y % m → ∀ w, Calls Tryd.prog 20 #[.agg #[.int .u64 (limb (m) 0 : Nat), .int .u64 (limb (m) 1 : Nat), .int .u64 (limb (m) 2 : Nat), .int .u64 (limb (m) 3 : Nat), .int .u64 (limb (R256 - (m)) 0 : Nat), .int .u64 (limb (R256 - (m)) 1 : Nat), .int .u64 (limb (R256 - (m)) 2 : Nat), .int .u64 (limb (R256 - (m)) 3 : Nat)], .agg #[.int .u64 (limb (x) 0 : Nat), .int .u64 (limb (x) 1 : Nat), .int .u64 (limb (x) 2 : Nat), .int .u64 (limb (x) 3 : Nat)], .agg #[.int .u64 (limb (y) 0 : Nat), .int .u64 (limb (y) 1 : Nat), .int .u64 (limb (y) 2 : Nat), .int .u64 (limb (y) 3 : Nat)]] w fun e w' => e = .returned (.agg #[.int .u64 (limb (z) 0 : Nat), .int .u64 (limb (z) 1 : Nat), .int .u64 (limb (z) 2 : Nat), .int .u64 (limb (z) 3 : Nat)]) ∧ Below w.heap.size w w' := fun x y z hx hy hz w => by rw [hz]; exact mul2_any m x y hF hS hx hy w
  rw [← hG] at km HFN
  rw [← hG]
  have KM : Hid _ := km
  have HG : Hid (G = R256 - m) := hG
  have HR : Hid (r = a ^ e % m ∧ a < R256) := ⟨hr, ha⟩
  have HT : Hid (PowB m a e 256 1) := PowB.top he m1
  clear km hG hr hF hS ha he
  go_enter Tryd.func33, Tryd.ntmps33
  go_wp2_with fail
  go_loopw [8] (fun i wx => ∃ n o : Nat, (n ≤ 4 ∧ o < R256) ∧ i = .int .i64 ((n : Int) - 1) ∧ PowB m a e (64 * n) o ∧ PoAt w wx m a e o)
    (fun i _ => (intOf i + 1).toNat)
  case atStart =>
    refine ⟨4, 1, ⟨by omega, by decide⟩, rfl, HT.out, ?_, ?_, ?_, ?_, ?_, by ((repeat' (first | with_reducible exact Below.refl _ _ | with_reducible refine Below.setCell ?_ ?_ _ | with_reducible refine below_alloc0 ?_ _ | with_reducible refine below_drewN ?_ _ | with_reducible refine Below.drew ?_ | refine below_call0 ?_ (by assumption))) <;> (first | omega | (simp; done) | (simp; omega)))⟩
    · exact FieldB.alloc (FieldB.alloc (FieldB.alloc (FieldB.alloc (HFN.out w _))))
    · refine limbs4 _ ?_ ?_ ?_ ?_ <;> simp [go_sem]
    · refine limbs4 _ ?_ ?_ ?_ ?_ <;> simp [go_sem]
    · refine Pend.alloc ?_
      have h := Pend.new (((w.alloc (.cells #[.int .u64 (limb m 0 : Nat), .int .u64 (limb m 1 : Nat), .int .u64 (limb m 2 : Nat), .int .u64 (limb m 3 : Nat), .int .u64 (limb G 0 : Nat), .int .u64 (limb G 1 : Nat), .int .u64 (limb G 2 : Nat), .int .u64 (limb G 3 : Nat)] 69)).alloc (.cells #[.int .u64 (limb a 0 : Nat), .int .u64 (limb a 1 : Nat), .int .u64 (limb a 2 : Nat), .int .u64 (limb a 3 : Nat)] 27)).alloc (.cells #[.int .u64 (limb e 0 : Nat), .int .u64 (limb e 1 : Nat), .int .u64 (limb e 2 : Nat), .int .u64 (limb e 3 : Nat)] 27)) 27
      simp only [World.size_alloc] at h
      exact h
    · have h := fun (W : World) => Own4.new W 1 27
      rw [limb_one2.1, limb_one2.2.1, limb_one2.2.2.1, limb_one2.2.2.2] at h
      have h2 := h ((((w.alloc (.cells #[.int .u64 (limb m 0 : Nat), .int .u64 (limb m 1 : Nat), .int .u64 (limb m 2 : Nat), .int .u64 (limb m 3 : Nat), .int .u64 (limb G 0 : Nat), .int .u64 (limb G 1 : Nat), .int .u64 (limb G 2 : Nat), .int .u64 (limb G 3 : Nat)] 69)).alloc (.cells #[.int .u64 (limb a 0 : Nat), .int .u64 (limb a 1 : Nat), .int .u64 (limb a 2 : Nat), .int .u64 (limb a 3 : Nat)] 27)).alloc (.cells #[.int .u64 (limb e 0 : Nat), .int .u64 (limb e 1 : Nat), .int .u64 (limb e 2 : Nat), .int .u64 (limb e 3 : Nat)] 27)).alloc (.cells #[.int .u64 0, .int .u64 0, .int .u64 0, .int .u64 0] 27))
      simp only [World.size_alloc] at h2
      exact h2
  case round =>
    clear HT HFN
    obtain ⟨n, o, ⟨hn, hoR⟩, rfl, hpow, hP⟩ := hrel
    by_cases hn0 : n = 0
    · subst hn0
      have er : o = r := by rw [hpow, HR.out.1, Nat.mul_zero, Nat.pow_zero, Nat.div_one]
      subst er
      obtain ⟨⟨o0, o1, o2, o3⟩, _, _⟩ := hP.2.2.2.2.1.facts
      obtain ⟨⟨p0, p1, p2, p3⟩, ⟨f0, f1, f2, f3⟩, pz⟩ := hP.2.2.2.1.facts
      have WP := hP.2.2.2.2.2
      clear HR KM hpow hP HG
      go_wp2
      refine bodyPost_ret (v := .agg #[.int .u64 (limb (o) 0 : Nat), .int .u64 (limb (o) 1 : Nat), .int .u64 (limb (o) 2 : Nat), .int .u64 (limb (o) 3 : Nat)]) ?_ rfl ⟨rfl, ?_⟩
      · simp [results, Tryd.results33, go_sem, p0, p1, p2, p3]
      · ((repeat' (first | with_reducible exact Below.refl _ _ | with_reducible refine Below.setCell ?_ ?_ _ | with_reducible refine below_alloc0 ?_ _ | with_reducible refine below_drewN ?_ _ | with_reducible refine Below.drew ?_ | refine below_call0 ?_ (by assumption))) <;> (first | omega | (simp; done) | (simp; omega)))
    · obtain ⟨j, hj⟩ : ∃ j, n = j + 1 := ⟨n - 1, by omega⟩
      have hij : ((n : Int) - 1) = (j : Int) := by omega
      have hj4 : j < 4 := by omega
      have hj0 : (0 : Int) ≤ (j : Int) := by omega
      have hj3 : (j : Int) < 4 := by omega
      rw [hij]
      have HPOW : Hid (PowB m a e (64 * j + 64) o) := by have h := hpow; rw [hj, Nat.mul_add] at h; exact h
      clear hij hpow hj hn0 hn
      go_wp2_with fail
      go_loopw [9] (fun tt wx => ∃ d x : Nat, (d ≤ 64 ∧ x < R256) ∧ tt = .int .i64 ((d : Int) - 1) ∧ PowB m a e (64 * j + d) x ∧ PoAt w wx m a e x)
        (fun tt _ => (intOf tt + 1).toNat)
      case atStart => exact ⟨64, o, ⟨by omega, hoR⟩, rfl, HPOW.out, hP⟩
      case round =>
        clear HPOW hP
        obtain ⟨d, x, ⟨hd, hxR⟩, rfl, hpw, hX⟩ := hrel
        have HX : Hid (PoAt w wr m a e x) := hX
        by_cases hd0 : d = 0
        · subst hd0
          have HPW : Hid (PowB m a e (64 * j) x) := hpw
          clear hX hpw hd
          go_wp2_with fail
          go_roundw
          case rel => first | exact ⟨j, x, ⟨by omega, hxR⟩, by first | rfl | go_num, HPW.out, HX.out⟩ | ((repeat apply Exists.intro); exact ⟨⟨j, x, ⟨by omega, hxR⟩, by first | rfl | go_num, HPW.out, HX.out⟩, rfl⟩)
          case measure => simp [intOf]
        · obtain ⟨t, ht⟩ : ∃ t, d = t + 1 := ⟨d - 1, by omega⟩
          have hdt : ((d : Int) - 1) = (t : Int) := by omega
          have ht64 : t < 64 := by omega
          have ht0 : (0 : Int) ≤ (t : Int) := by omega
          have ht6 : (t : Int) < 64 := by omega
          rw [hdt]
          have HPW : Hid (PowB m a e (64 * j + t + 1) x) := by have h := hpw; rw [ht] at h; exact h
          obtain ⟨y, hy⟩ : ∃ y, y = x * x % m := ⟨_, rfl⟩
          have hyR : y < R256 := by rw [hy]; exact Nat.lt_trans (Nat.mod_lt _ (by omega)) mR
          obtain ⟨z, hz⟩ : ∃ z, z = y * a % m := ⟨_, rfl⟩
          have hzR : z < R256 := by rw [hz]; exact Nat.lt_trans (Nat.mod_lt _ (by omega)) mR
          have K1 : Hid _ := KM.out x x y hxR hxR hy
          have K2 : Hid _ := KM.out y a z hyR HR.out.2 hz
          have HYZ : Hid (y = x * x % m ∧ z = y * a % m) := ⟨hy, hz⟩
          have w1 : IntKind.u64.wrap (t : Int) = (t : Int) := by rw [IntKind.wrap_u64]; omega
          have w2 : IntKind.i64.wrap (t : Int) = (t : Int) := by rw [IntKind.wrap_i64]; omega
          have ec : ((limb e j : Int) / 2 ^ t) = ((limb e j / 2 ^ t : Nat) : Int) := by
            rw [Int.natCast_ediv, Int.natCast_pow]; rfl
          have eb := limb_bit e j t ht64
          have b2 := bitN_lt e (64 * j + t)
          obtain ⟨m0, q1, q2, q3⟩ := hX.1.1.facts
          obtain ⟨g0, g1, g2, g3⟩ := hX.1.gap
          rw [← HG.out] at g0 g1 g2 g3
          have mz := hX.1.2.2
          obtain ⟨⟨o0, o1, o2, o3⟩, _, oz⟩ := hX.2.2.2.2.1.facts
          rcases (show bitN e (64 * j + t) = 0 ∨ bitN e (64 * j + t) = 1 by omega) with hb | hb
          · have HN : Hid (PowB m a e (64 * j + t) y) := HPW.out.sq hy hb
            have et : (limb e j : Int) / 2 ^ t % 2 = 0 := by rw [ec]; omega
            have et2 : ((limb e j : Int) / 2 ^ t).tmod 2 = 0 := by rw [Int.tmod_eq_emod_of_nonneg (by rw [ec]; exact Int.natCast_nonneg _)]; exact et
            clear ec eb b2 hb hX hpw hd hd0 ht hdt HPW hy hz HYZ K2 hzR HR
            go_wp2_with fail
            refine (K1.out _).mono ?_
            rintro e1 v2 ⟨rfl, hq2⟩
            have X2 := HX.out.call hq2
            obtain ⟨⟨r0, r1, r2, r3⟩, ⟨u0, u1, u2, u3⟩, uz⟩ := X2.2.2.2.2.1.facts
            have ge : v2.cell? ⟨w.heap.size + 1 + 1, j, none⟩ = some (.int .u64 (limb e j : Nat)) := X2.2.2.1 j hj4
            have X3 : Hid _ := X2.put y
            clear o0 o1 o2 o3 oz m0 q1 q2 q3 g0 g1 g2 g3 mz X2 hq2 K1 HX
            go_wp2_with fail
            go_roundw
            case rel => first | exact ⟨t, y, ⟨by omega, hyR⟩, by first | rfl | go_num, HN.out, X3.out⟩ | ((repeat apply Exists.intro); exact ⟨⟨t, y, ⟨by omega, hyR⟩, by first | rfl | go_num, HN.out, X3.out⟩, rfl⟩)
            case measure => simp [intOf]
          · have HN : Hid (PowB m a e (64 * j + t) z) := HPW.out.sqm hy hz hb
            have et : (limb e j : Int) / 2 ^ t % 2 = 1 := by rw [ec]; omega
            have et2 : ((limb e j : Int) / 2 ^ t).tmod 2 = 1 := by rw [Int.tmod_eq_emod_of_nonneg (by rw [ec]; exact Int.natCast_nonneg _)]; exact et
            clear ec eb b2 hb hX hpw hd hd0 ht hdt HPW hy hz HYZ HR
            go_wp2_with fail
            refine (K1.out _).mono ?_
            rintro e1 v2 ⟨rfl, hq2⟩
            have X2 := HX.out.call hq2
            obtain ⟨⟨r0, r1, r2, r3⟩, ⟨u0, u1, u2, u3⟩, uz⟩ := X2.2.2.2.2.1.facts
            have ge : v2.cell? ⟨w.heap.size + 1 + 1, j, none⟩ = some (.int .u64 (limb e j : Nat)) := X2.2.2.1 j hj4
            have X3 : PoAt w _ m a e y := X2.put y
            obtain ⟨v3, hv3⟩ : ∃ v3, v3 = ((((v2.setCell ⟨w.heap.size + 1 + 1 + 1 + 1, 0, none⟩ (.int .u64 (limb y 0 : Nat))).setCell ⟨w.heap.size + 1 + 1 + 1 + 1, 1, none⟩ (.int .u64 (limb y 1 : Nat))).setCell ⟨w.heap.size + 1 + 1 + 1 + 1, 2, none⟩ (.int .u64 (limb y 2 : Nat))).setCell ⟨w.heap.size + 1 + 1 + 1 + 1, 3, none⟩ (.int .u64 (limb y 3 : Nat))) := ⟨_, rfl⟩
            have X4 : Hid (PoAt w _ m a e y) := X3
            obtain ⟨n0, n1, n2, n3⟩ := X2.1.1.facts
            obtain ⟨h0, h1, h2, h3⟩ := X2.1.gap
            rw [← HG.out] at h0 h1 h2 h3
            have nz := X2.1.2.2
            obtain ⟨a0, a1, a2, a3⟩ := X2.2.1.facts
            clear o0 o1 o2 o3 oz m0 q1 q2 q3 g0 g1 g2 g3 mz X2 X3 hq2 K1 HX v3 hv3
            go_wp2_with fail
            refine (K2.out _).mono ?_
            rintro e1 v4 ⟨rfl, hq4⟩
            have X5 := X4.out.call hq4
            obtain ⟨⟨c0, c1, c2, c3⟩, ⟨d0, d1, d2, d3⟩, dz⟩ := X5.2.2.2.2.1.facts
            have X6 : Hid _ := X5.put z
            clear r0 r1 r2 r3 u0 u1 u2 u3 uz ge n0 n1 n2 n3 h0 h1 h2 h3 nz a0 a1 a2 a3 X4 X5 hq4 K2
            go_wp2_with fail
            go_roundw
            case rel => first | exact ⟨t, z, ⟨by omega, hzR⟩, by first | rfl | go_num, HN.out, X6.out⟩ | ((repeat apply Exists.intro); exact ⟨⟨t, z, ⟨by omega, hzR⟩, by first | rfl | go_num, HN.out, X6.out⟩, rfl⟩)
            case measure => simp [intOf]
end Go.Proofs.YtbpgiijdcagckaaDoor
