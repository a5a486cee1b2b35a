/- Several texts laid together. -/
import Derived.Test.YtchphekaonnfeaaDoorScF
import Derived.Test.YtchphekaonnfeaaDoorScG
import Derived.Test.YtchphekaonnfeaaDoorScH
import Derived.Test.YtchphekaonnfeaaDoorScE
import Derived.Test.YtchphekaonnfeaaDoorMgO
namespace Go.Proofs.YtchphekaonnfeaaDoor
open Go Go.RowKit Go.Lib
theorem limb_small (x : Nat) (hx : x < M64) : limb x 0 = x ∧ limb x 1 = 0 ∧ limb x 2 = 0 ∧ limb x 3 = 0 := by
  have e : ∀ k, limb x k = x / M64 ^ k % M64 := fun k => rfl
  refine ⟨?_, ?_, ?_, ?_⟩
  · rw [e, Nat.pow_zero, Nat.div_one, Nat.mod_eq_of_lt hx]
  · rw [e, Nat.pow_one, Nat.div_eq_of_lt hx, Nat.zero_mod]
  · rw [e, Nat.div_eq_of_lt (Nat.lt_of_lt_of_le hx (by decide)), Nat.zero_mod]
  · rw [e, Nat.div_eq_of_lt (Nat.lt_of_lt_of_le hx (by decide)), Nat.zero_mod]
theorem sfmod (n : Nat) (p : Pts) : gr.mul (n % QQ) p = gr.mul n p := by
  have e : n = n / QQ * QQ + n % QQ := by
    rw [Nat.mul_comm]
    exact (Nat.div_add_mod n QQ).symm
  have h : gr.mul n p = gr.mul (n / QQ * QQ + n % QQ) p := by rw [← e]
  rw [h, gr.mul_add, gr.mul_mul, order_any, gr.mul_z, gr.zero']
theorem sG_inj {i j : Nat} (hi : i < QQ) (hj : j < QQ) : gr.mul i gG = gr.mul j gG ↔ i = j :=
  ⟨fun h => gr.inj gG QQ prime_Q.2 G_order gG_ne hi hj h, fun h => by rw [h]⟩
theorem s_lit (k : Nat) (h : k < M64) : (.agg #[.int .u64 (limb k 0 : Nat), .int .u64 (limb k 1 : Nat), .int .u64 (limb k 2 : Nat), .int .u64 (limb k 3 : Nat)] : Value) = .agg #[.int .u64 (k : Nat), .int .u64 0, .int .u64 0, .int .u64 0] := by
  obtain ⟨e0, e1, e2, e3⟩ := limb_small k h
  rw [e0, e1, e2, e3]
  rfl
theorem QQ_pos : 0 < QQ := of_decide_eq_true (by kernel_rfl)
/-- A number's negative. -/
theorem neg_mod (q c x : Nat) (hq : 0 < q) (hc : c < q) : (subM q 0 c * x + c * x) % q = 0 := by
  have h : subM q 0 c = (0 + q - c) % q := rfl
  rw [h]
  by_cases h0 : c = 0
  · subst h0
    rw [Nat.zero_add, Nat.sub_zero, Nat.mod_self, Nat.zero_mul]
    exact Nat.zero_mod q
  · have e : (0 + q - c) % q = q - c := by
      rw [Nat.zero_add]
      exact Nat.mod_eq_of_lt (Nat.sub_lt hq (Nat.pos_of_ne_zero h0))
    rw [e, ← Nat.add_mul, show q - c + c = q by omega]
    exact Nat.mul_mod_right q x
theorem mod_alone (q A B k z : Nat) (hk : k < q) (hz : z < q) (h : (A + B) % q = 0) : (z + A) % q = k ↔ z = (k + B % q) % q := by
  constructor
  · intro e
    rw [← e, Nat.add_mod_mod, Nat.mod_add_mod, Nat.add_assoc, Nat.add_mod, h, Nat.add_zero, Nat.mod_mod, Nat.mod_eq_of_lt hz]
  · intro e
    rw [e, Nat.add_mod_mod, Nat.mod_add_mod, Nat.add_assoc, Nat.add_comm B A, Nat.add_mod, h, Nat.add_zero, Nat.mod_mod, Nat.mod_eq_of_lt hk]
theorem eq_alone (x k c n z : Nat) (Y R : Pts) (hk : k < QQ) (hc : c < QQ) (hz : z < QQ) (hY : Y = gr.mul x gG) (hR : R = gr.mul k gG) (hn : n = subM QQ 0 c) : gr.tot gr.mul [(z, gG), (n, Y)] = R ↔ z = (k + c * x % QQ) % QQ := by
  have e : gr.tot gr.mul [(z, gG), (n, Y)] = gr.mul ((z + n * x) % QQ) gG := by
    show gr.add (gr.mul z gG) (gr.add (gr.mul n Y) gr.z) = _
    rw [gr.zero, hY, ← gr.mul_mul, ← gr.mul_add, sfmod]
  rw [e, hR, sG_inj (Nat.mod_lt _ QQ_pos) hk]
  exact mod_alone QQ (n * x) (c * x) k z hk hz (by rw [hn]; exact neg_mod QQ c x QQ_pos hc)
theorem mul_fin {x : Nat} (h0 : 0 < x) (hx : x < QQ) : pI (gr.mul x gG) = false := by
  rcases h : (gr.mul x gG).1 with _ | q
  · have e : gr.mul x gG = gr.mul 0 gG := Subtype.ext h
    have := (sG_inj hx QQ_pos).1 e
    omega
  · exact pI_some h
theorem fi_mul {x : Nat} (h0 : 0 < x) (hx : x < QQ) : fiE (pX (gr.mul x gG)) (pY (gr.mul x gG)) (pI (gr.mul x gG)) = 0 := by
  have e := pts_ok (gr.mul x gG)
  have f := mul_fin h0 hx
  unfold fiE onE
  rw [e, f]
  rfl
theorem p_R (a : Nat) (h : a < PP) : a < R256 := Nat.lt_trans h (of_decide_eq_true (by kernel_rfl))
theorem ver_ok (x k : Nat) (m : ByteArray) (Y R : Pts) (z : Nat) (E : Int) (h0 : 0 < x) (hx : x < QQ) (h1 : 0 < k) (hk : k < QQ) (hm : m.size ≤ 4096) (hY : Y = gr.mul x gG) (hR : R = gr.mul k gG) (hz : z < R256)
    (hE : E = if z < QQ then (if z = (k + chN R Y m * x % QQ) % QQ then 0 else 80) else 20) (w : World) (hG : GS w) :
    Calls Tryd.prog 8 #[.agg #[.int .u64 (limb (pX Y) 0 : Nat), .int .u64 (limb (pX Y) 1 : Nat), .int .u64 (limb (pX Y) 2 : Nat), .int .u64 (limb (pX Y) 3 : Nat), .int .u64 (limb (pY Y) 0 : Nat), .int .u64 (limb (pY Y) 1 : Nat), .int .u64 (limb (pY Y) 2 : Nat), .int .u64 (limb (pY Y) 3 : Nat), .bool (pI Y)], .string m, .agg #[.int .u64 (limb (pX R) 0 : Nat), .int .u64 (limb (pX R) 1 : Nat), .int .u64 (limb (pX R) 2 : Nat), .int .u64 (limb (pX R) 3 : Nat), .int .u64 (limb (pY R) 0 : Nat), .int .u64 (limb (pY R) 1 : Nat), .int .u64 (limb (pY R) 2 : Nat), .int .u64 (limb (pY R) 3 : Nat), .bool (pI R), .int .u64 (limb z 0 : Nat), .int .u64 (limb z 1 : Nat), .int .u64 (limb z 2 : Nat), .int .u64 (limb z 3 : Nat)]] w fun e w' => e = .returned (.int .i64 E) ∧ Below w.heap.size w w' := by
  refine verify_any (pX Y) (pY Y) (pX R) (pY R) z (pI Y) (pI R) m (if z = (k + chN R Y m * x % QQ) % QQ then 0 else 80) E (p_R _ (pX_lt Y)) (p_R _ (pY_lt Y)) (p_R _ (pX_lt R)) (p_R _ (pY_lt R)) hz ?_ (fun _ _ _ hs w hG => ?_) w hG
  · have e1 : fiE (pX Y) (pY Y) (pI Y) = 0 := by rw [hY]; exact fi_mul h0 hx
    have e2 : fiE (pX R) (pY R) (pI R) = 0 := by rw [hR]; exact fi_mul h1 hk
    rw [e1, e2, shE_in hm, hE]
    by_cases c : z < QQ
    · rw [if_pos c, scE_in c]
      show _ = if (_ : Int) = 0 then (0 : Int) else _
      split <;> rfl
    · rw [if_neg c]
      have e : scE z = 20 := if_neg c
      rw [e]
      rfl
  · have hzq : z < QQ := by
      by_cases c : z < QQ
      · exact c
      · have e : scE z = 20 := if_neg c
        rw [e] at hs
        exact absurd hs (by decide)
    exact kept_any Y R _ m z _ _ (decide (z = (k + chN R Y m * x % QQ) % QQ)) _ hzq rfl (by rw [eq_alone x k (chN R Y m) _ z Y R hk (chN_lt R Y m) hzq hY hR rfl]; simp) (by by_cases h : z = (k + chN R Y m * x % QQ) % QQ <;> simp [h]) hm rfl rfl w hG
end Go.Proofs.YtchphekaonnfeaaDoor

namespace Go.Proofs.YtchphekaonnfeaaDoor
open Go Go.RowKit Go.Lib
theorem at_7 : At 7 41948375291644419605210209193538855353224492619856392092318293986323063962044 48361766907851246668144012348516735800090617714386977531302791340517493990618 := have e : 7 = 1 * 2 ^ 2 + 3 % 2 ^ 2 := by kernel_rfl
  e ▸ run_ok 2 3 1 GX GY _ _ at_one (by kernel_rfl)
theorem at_9 : At 9 78173298682877769088723994436027545680738210601369041078747105985693655485630 92362876758821804597230797234617159328445543067760556585160674174871431781431 := have e : 9 = 1 * 2 ^ 3 + 1 % 2 ^ 3 := by kernel_rfl
  e ▸ run_ok 3 1 1 GX GY _ _ at_one (by kernel_rfl)
theorem pX_at {k x y : Nat} (h : At k x y) (hx : x < PP) : pX (gr.mul k gG) = x := by
  unfold pX
  rw [show (gr.mul k gG).1 = some (pt x y) from h]
  exact toF_low hx
theorem pY_at {k x y : Nat} (h : At k x y) (hy : y < PP) : pY (gr.mul k gG) = y := by
  unfold pY
  rw [show (gr.mul k gG).1 = some (pt x y) from h]
  exact toF_low hy
theorem pI_at {k x y : Nat} (h : At k x y) : pI (gr.mul k gG) = false := by
  unfold pI
  rw [show (gr.mul k gG).1 = some (pt x y) from h]
theorem enc_7 : encS (gr.mul 7 gG) = encF 2 41948375291644419605210209193538855353224492619856392092318293986323063962044 := by
  rw [encS_even (pI_at at_7) (by rw [pY_at at_7 (of_decide_eq_true (by kernel_rfl))]), pX_at at_7 (of_decide_eq_true (by kernel_rfl))]
theorem enc_9 : encS (gr.mul 9 gG) = encF 3 78173298682877769088723994436027545680738210601369041078747105985693655485630 := by
  rw [encS_odd (pI_at at_9) (by rw [pY_at at_9 (of_decide_eq_true (by kernel_rfl))]), pX_at at_9 (of_decide_eq_true (by kernel_rfl))]
def ch9 : Nat := scN (hashB tagC [encF 3 78173298682877769088723994436027545680738210601369041078747105985693655485630, encF 2 41948375291644419605210209193538855353224492619856392092318293986323063962044, ⟨#[97, 98, 99]⟩])
theorem z_abc : Nat.beq ((9 + ch9 * 7 % QQ) % QQ) 0 = false := by kernel_rfl
theorem ch_abc : chN (gr.mul 9 gG) (gr.mul 7 gG) ⟨#[97, 98, 99]⟩ = ch9 := by
  unfold chN ch9
  rw [enc_7, enc_9]
theorem zb_abc (c : Nat) (h : c = ch9) : Nat.beq ((9 + c * 7 % QQ) % QQ) 0 = false := by
  rw [h]
  exact z_abc
theorem z_ne (c : Nat) (h : c = chN (gr.mul 9 gG) (gr.mul 7 gG) ⟨#[97, 98, 99]⟩) : (9 + c * 7 % QQ) % QQ ≠ 0 := Nat.ne_of_beq_eq_false (zb_abc c (h.trans ch_abc))
end Go.Proofs.YtchphekaonnfeaaDoor
