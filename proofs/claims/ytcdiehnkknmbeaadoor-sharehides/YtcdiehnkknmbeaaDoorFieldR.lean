/- Field.Reduce: the remainder of a wide number. -/
import Derived.Test.YtcdiehnkknmbeaaDoorFieldA
namespace Go.Proofs.YtcdiehnkknmbeaaDoor
open Go.RowKit

def orN (a b c d : Nat) : Nat := a ||| b ||| c ||| d
theorem or_lt (a b : Nat) (ha : a < 18446744073709551616) (hb : b < 18446744073709551616) : a ||| b < 18446744073709551616 := Nat.or_lt_two_pow (n := 64) ha hb
theorem or_bits (a b c d : Nat) (ha : a < 18446744073709551616) (hb : b < 18446744073709551616) (hc : c < 18446744073709551616) (hd : d < 18446744073709551616) : bits .or .u64 (bits .or .u64 (bits .or .u64 (a : Int) (b : Int)) (c : Int)) (d : Int) = ((orN a b c d : Nat) : Int) := by
  rw [bits_or_u64_nat a b ha hb, bits_or_u64_nat _ c (or_lt a b ha hb) hc, bits_or_u64_nat _ d (or_lt _ c (or_lt a b ha hb) hc) hd]
  rfl
theorem orN_zero (a b c d : Nat) : orN a b c d = 0 ↔ a = 0 ∧ b = 0 ∧ c = 0 ∧ d = 0 := by
  unfold orN
  rw [Nat.or_eq_zero_iff, Nat.or_eq_zero_iff, Nat.or_eq_zero_iff]
  constructor
  · rintro ⟨⟨⟨h0, h1⟩, h2⟩, h3⟩; exact ⟨h0, h1, h2, h3⟩
  · rintro ⟨h0, h1, h2, h3⟩; exact ⟨⟨⟨h0, h1⟩, h2⟩, h3⟩
theorem orN_some (B : Nat) (hB : B < R256) (h : B ≠ 0) : orN (limb B 0) (limb B 1) (limb B 2) (limb B 3) ≠ 0 := by
  intro c
  obtain ⟨e0, e1, e2, e3⟩ := (orN_zero _ _ _ _).1 c
  apply h
  rw [← join_limb B hB, e0, e1, e2, e3]
  rfl
theorem join8_two (A B : Nat) (hA : A < R256) (hB : B < R256) : join8 (limb A 0) (limb A 1) (limb A 2) (limb A 3) (limb B 0) (limb B 1) (limb B 2) (limb B 3) = A + R256 * B := by
  have a := join_limb A hA
  have b := join_limb B hB
  unfold join8
  unfold join4 at a b
  rw [R256_eq, Nat.mul_assoc, Nat.mul_assoc, Nat.mul_assoc]
  generalize limb A 0 = a0 at *
  generalize limb A 1 = a1 at *
  generalize limb A 2 = a2 at *
  generalize limb A 3 = a3 at *
  generalize limb B 0 = b0 at *
  generalize limb B 1 = b1 at *
  generalize limb B 2 = b2 at *
  generalize limb B 3 = b3 at *
  subst a b
  unfold M64
  omega
def meas8 (a0 a1 a2 a3 b0 b1 b2 b3 : Value) : Nat := join8 (intOf a0).toNat (intOf a1).toNat (intOf a2).toNat (intOf a3).toNat (intOf b0).toNat (intOf b1).toNat (intOf b2).toNat (intOf b3).toNat
theorem meas8_eq (A B : Nat) (hA : A < R256) (hB : B < R256) : meas8 (.int .u64 (limb A 0 : Nat)) (.int .u64 (limb A 1 : Nat)) (.int .u64 (limb A 2 : Nat)) (.int .u64 (limb A 3 : Nat)) (.int .u64 (limb B 0 : Nat)) (.int .u64 (limb B 1 : Nat)) (.int .u64 (limb B 2 : Nat)) (.int .u64 (limb B 3 : Nat)) = A + R256 * B := by
  rw [← join8_two A B hA hB]
  rfl

set_option maxRecDepth 100000 in
set_option maxHeartbeats 4000000 in
theorem reduce_any (g m V : Nat) (hF : FM m) (hV : V < R256 * R256) (w : World) (hM : FieldB w g m) :
    Calls Tryd.prog 69 #[.pointer (some ⟨g, 0, none⟩), .agg #[.int .u64 (limb (V) 0 : Nat), .int .u64 (limb (V) 1 : Nat), .int .u64 (limb (V) 2 : Nat), .int .u64 (limb (V) 3 : Nat), .int .u64 (limb (V) 4 : Nat), .int .u64 (limb (V) 5 : Nat), .int .u64 (limb (V) 6 : Nat), .int .u64 (limb (V) 7 : Nat)]] w fun e w' => e = .returned (.agg #[.int .u64 (limb (V % m) 0 : Nat), .int .u64 (limb (V % m) 1 : Nat), .int .u64 (limb (V % m) 2 : Nat), .int .u64 (limb (V % m) 3 : Nat)]) ∧ Below w.heap.size w w' := by
  obtain ⟨r, hr⟩ : ∃ r, r = V % m := ⟨_, rfl⟩
  rw [← hr]
  have HR : Hid _ := hr
  have m1 := hF.pos
  have mR := hF.2.1
  have HF : Hid _ := And.intro hF hV
  clear hr hF hV
  go_enter Tryd.func69, Tryd.ntmps69
  go_wp2_with fail
  go_quiet (fail)
  go_wp2_with fail
  go_quiet (fail)
  go_wp2_with fail
  go_loopw [5, 6, 7, 8, 9, 10, 11, 12] (fun a0 a1 a2 a3 b0 b1 b2 b3 wr => ∃ A B : Nat, (A < R256 ∧ B < R256 ∧ (A + R256 * B) % m = r) ∧ (a0 = .int .u64 (limb A 0 : Nat) ∧ a1 = .int .u64 (limb A 1 : Nat) ∧ a2 = .int .u64 (limb A 2 : Nat) ∧ a3 = .int .u64 (limb A 3 : Nat)) ∧ (b0 = .int .u64 (limb B 0 : Nat) ∧ b1 = .int .u64 (limb B 1 : Nat) ∧ b2 = .int .u64 (limb B 2 : Nat) ∧ b3 = .int .u64 (limb B 3 : Nat)) ∧ FieldB wr g m ∧ Pend wr (w.heap.size + 1) ∧ Below w.heap.size w wr)
    (fun a0 a1 a2 a3 b0 b1 b2 b3 _ => meas8 a0 a1 a2 a3 b0 b1 b2 b3)
  case atStart =>
    refine ⟨V % R256, V / R256, ⟨Nat.mod_lt _ (by decide), Nat.div_lt_of_lt_mul HF.out.2, ?_⟩, ⟨?_, ?_, ?_, ?_⟩, ⟨?_, ?_, ?_, ?_⟩, ?_, ?_, ?_⟩
    · rw [Nat.mod_add_div, HR.out]
    · rw [limb_mod _ _ (by omega)]
    · rw [limb_mod _ _ (by omega)]
    · rw [limb_mod _ _ (by omega)]
    · rw [limb_mod _ _ (by omega)]
    · rw [limb_div]
    · rw [limb_div]
    · rw [limb_div]
    · rw [limb_div]
    · exact FieldB.drewN (FieldB.drewN (FieldB.alloc (FieldB.alloc hM)))
    · have h := Pend.new (w.alloc (.cells #[.int .u64 (limb V 0 : Nat), .int .u64 (limb V 1 : Nat), .int .u64 (limb V 2 : Nat), .int .u64 (limb V 3 : Nat), .int .u64 (limb V 4 : Nat), .int .u64 (limb V 5 : Nat), .int .u64 (limb V 6 : Nat), .int .u64 (limb V 7 : Nat)] 59)) 25
      simp only [World.size_alloc] at h
      exact h
    · ((repeat' (first | with_reducible exact Below.refl _ _ | with_reducible refine Below.setCell ?_ ?_ _ | with_reducible refine below_alloc0 ?_ _ | with_reducible refine below_drewN ?_ _ | with_reducible refine Below.drew ?_ | refine below_call0 ?_ (by assumption))) <;> (first | omega | (simp; done) | (simp; omega)))
  case round =>
    obtain ⟨A, B, ⟨hA, hB, hAB⟩, ⟨rfl, rfl, rfl, rfl⟩, ⟨rfl, rfl, rfl, rfl⟩, FX, PX, WX⟩ := hrel
    have hor := or_bits (limb B 0) (limb B 1) (limb B 2) (limb B 3) (limb_lt _ _) (limb_lt _ _) (limb_lt _ _) (limb_lt _ _)
    by_cases hB0 : B = 0
    · subst hB0
      rw [Nat.mul_zero, Nat.add_zero] at hAB
      have k : ∀ w, FieldB w g m → Calls Tryd.prog 58 #[.pointer (some ⟨g, 0, none⟩), .int .u64 0, .int .u64 (limb A 0 : Nat), .int .u64 (limb A 1 : Nat), .int .u64 (limb A 2 : Nat), .int .u64 (limb A 3 : Nat)] w fun e w' => e = .returned (.agg #[.int .u64 (limb (r) 0 : Nat), .int .u64 (limb (r) 1 : Nat), .int .u64 (limb (r) 2 : Nat), .int .u64 (limb (r) 3 : Nat)]) ∧ Below w.heap.size w w' := fun w h => by
        have k := lessOnce_any g 0 A m hA mR w h.1 h.2.2
        rw [lessN_eq 0 A m A (by omega) (by have := HF.out.1.1; omega) mR hA (by omega), hAB] at k
        exact k
      have K : Hid _ := k
      have e0 : orN (limb 0 0) (limb 0 1) (limb 0 2) (limb 0 3) = 0 := by rw [limb_nought, limb_nought, limb_nought, limb_nought]; rfl
      rw [e0] at hor
      clear hAB k e0 hM HF
      go_wp2_with fail
      refine (K.out _ FX).mono ?_
      rintro e w1 ⟨rfl, hb1⟩
      have P1 := PX.call hb1
      have W1 : Below w.heap.size w w1 := below_call0 WX hb1
      obtain ⟨⟨p0, p1, p2, p3⟩, ⟨f0, f1, f2, f3⟩, pz⟩ := P1.facts
      clear hb1 K
      go_wp2
      refine bodyPost_ret (v := .agg #[.int .u64 (limb (r) 0 : Nat), .int .u64 (limb (r) 1 : Nat), .int .u64 (limb (r) 2 : Nat), .int .u64 (limb (r) 3 : Nat)]) ?_ rfl ⟨rfl, ?_⟩
      · simp [results, Tryd.results69, go_sem, p0, p1, p2, p3]
      · ((repeat' (first | with_reducible exact Below.refl _ _ | with_reducible refine Below.setCell ?_ ?_ _ | with_reducible refine below_alloc0 ?_ _ | with_reducible refine below_drewN ?_ _ | with_reducible refine Below.drew ?_ | refine below_call0 ?_ (by assumption))) <;> (first | omega | (simp; done) | (simp; omega)))
    · obtain ⟨o, ho⟩ : ∃ o, o = orN (limb B 0) (limb B 1) (limb B 2) (limb B 3) := ⟨_, rfl⟩
      have hoz : o ≠ 0 := by rw [ho]; exact orN_some B hB hB0
      have hob : ((o : Int) == 0) = false := by simpa using hoz
      rw [← ho] at hor
      obtain ⟨G, hG⟩ : ∃ G, G = R256 - m := ⟨_, rfl⟩
      obtain ⟨x, hx⟩ : ∃ x, x = rowL (limb G 0) (limb B 0) (limb B 1) (limb B 2) (limb B 3) (limb A 0) (limb A 1) (limb A 2) (limb A 3) := ⟨_, rfl⟩
      obtain ⟨p, hp⟩ : ∃ p, p = rowL (limb G 1) (limb B 0) (limb B 1) (limb B 2) (limb B 3) (x 1) (x 2) (x 3) (x 4) := ⟨_, rfl⟩
      obtain ⟨q, hq⟩ : ∃ q, q = rowL (limb G 2) (limb B 0) (limb B 1) (limb B 2) (limb B 3) (p 1) (p 2) (p 3) (p 4) := ⟨_, rfl⟩
      obtain ⟨⟨⟨x1, x2, x3, x4⟩, p1, p2, p3, p4⟩, l0, l1, l2, l3, l4, l5, l6, l7⟩ := fold_limbs A B G hA hB (by omega) (by rw [hG]; exact limb_gap3 HF.out.1) x p q hx hp hq
      have L := limb_lt
      have Kx := fun (w : World) => faddRow_any (limb G 0) (limb B 0) (limb B 1) (limb B 2) (limb B 3) _ _ _ _ (L _ _) (L _ _) (L _ _) (L _ _) (L _ _) (L A 0) (L A 1) (L A 2) (L A 3) w
      have Kp := fun (w : World) => faddRow_any (limb G 1) (limb B 0) (limb B 1) (limb B 2) (limb B 3) _ _ _ _ (L _ _) (L _ _) (L _ _) (L _ _) (L _ _) x1 x2 x3 x4 w
      have Kq := fun (w : World) => faddRow_any (limb G 2) (limb B 0) (limb B 1) (limb B 2) (limb B 3) _ _ _ _ (L _ _) (L _ _) (L _ _) (L _ _) (L _ _) p1 p2 p3 p4 w
      rw [← hx] at Kx
      rw [← hp] at Kp
      rw [← hq] at Kq
      have Hx : Hid _ := Kx
      have Hp : Hid _ := Kp
      have Hq : Hid _ := Kq
      have hV2 : A + B * G < R256 * R256 := by
        have := fold_less A B m (by omega) mR (by omega)
        rw [← hG] at this
        have t : A + R256 * B < R256 * R256 := by
          have u : R256 * (B + 1) ≤ R256 * R256 := Nat.mul_le_mul_left _ (by omega)
          rw [Nat.mul_add, Nat.mul_one] at u
          omega
        omega
      have HV : Hid ((A + B * G) % m = r ∧ A + B * G < A + R256 * B) := ⟨by rw [hG, fold_mod A B m mR]; exact hAB, by rw [hG]; exact fold_less A B m (by omega) mR (by omega)⟩
      obtain ⟨c0, c1, c2, c3⟩ := FX.gap
      rw [← hG] at c0 c1 c2 c3
      have HL : Hid _ := And.intro l0 (And.intro l1 (And.intro l2 (And.intro l3 (And.intro l4 (And.intro l5 (And.intro l6 l7))))))
      have HAB : Hid _ := And.intro hA (And.intro hB (And.intro hV2 hoz))
      clear hx hp hq hG l0 l1 l2 l3 l4 l5 l6 l7 Kx Kp Kq L x1 x2 x3 x4 p1 p2 p3 p4 ho hAB hV2 hA hB hB0 hM hoz
      go_wp2_with fail
      refine (Hx.out _).mono ?_
      rintro e w' ⟨rfl, rfl⟩
      go_wp2_with fail
      refine (Hp.out _).mono ?_
      rintro e w' ⟨rfl, rfl⟩
      go_wp2_with fail
      refine (Hq.out _).mono ?_
      rintro e w' ⟨rfl, rfl⟩
      go_wp2_with fail
      go_roundw
      case rel =>
        obtain ⟨l0, l1, l2, l3, l4, l5, l6, l7⟩ := HL.out
        obtain ⟨hA, hB, hV2, _⟩ := HAB.out
        have hA2 : (A + B * G) % R256 < R256 := Nat.mod_lt _ (by decide)
        have hB2 : (A + B * G) / R256 < R256 := Nat.div_lt_of_lt_mul hV2
        refine ⟨(A + B * G) % R256, (A + B * G) / R256, ⟨hA2, hB2, ?_⟩, ⟨?_, ?_, ?_, ?_⟩, ⟨?_, ?_, ?_, ?_⟩, FX, PX, WX⟩
        · rw [Nat.mod_add_div]; exact HV.out.1
        · rw [limb_mod _ _ (by omega), l0]
        · rw [limb_mod _ _ (by omega), l1]
        · rw [limb_mod _ _ (by omega), l2]
        · rw [limb_mod _ _ (by omega), l3]
        · rw [limb_div, l4]
        · rw [limb_div, l5]
        · rw [limb_div, l6]
        · rw [limb_div, l7]; rfl
      case measure =>
        obtain ⟨l0, l1, l2, l3, l4, l5, l6, l7⟩ := HL.out
        obtain ⟨hA, hB, hV2, _⟩ := HAB.out
        have hA2 : (A + B * G) % R256 < R256 := Nat.mod_lt _ (by decide)
        have hB2 : (A + B * G) / R256 < R256 := Nat.div_lt_of_lt_mul hV2
        rw [meas8_eq A B hA hB]
        have e := meas8_eq _ _ hA2 hB2
        rw [limb_mod _ _ (by omega), limb_mod _ _ (by omega), limb_mod _ _ (by omega), limb_mod _ _ (by omega), limb_div, limb_div, limb_div, limb_div, l0, l1, l2, l3, l4, l5, l6, l7, Nat.mod_add_div] at e
        have g := HV.out.2
        exact Nat.lt_of_le_of_lt (Nat.le_of_eq e) g
end Go.Proofs.YtcdiehnkknmbeaaDoor
