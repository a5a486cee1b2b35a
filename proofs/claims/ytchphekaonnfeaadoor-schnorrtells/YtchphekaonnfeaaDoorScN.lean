/- Package schnorr: Challenge; two signatures with one nonce tell the secret. -/
import Derived.Test.YtchphekaonnfeaaDoorScL
namespace Go.Proofs.YtchphekaonnfeaaDoor
open Go Go.RowKit Go.Lib
theorem sub_add_mod (q a b : Nat) (ha : a < q) (hb : b < q) : (subM q a b + b) % q = a := by
  have h : subM q a b = (a + q - b) % q := rfl
  rw [h, Nat.mod_add_mod, show a + q - b + b = a + q by omega, Nat.add_mod_right, Nat.mod_eq_of_lt ha]
theorem add_mod_cancel (q u v b : Nat) (hu : u < q) (hv : v < q) (h : (u + b) % q = (v + b) % q) : u = v := by
  have hq : 0 < q := by omega
  have ht : (b + (q - b % q)) % q = 0 := by
    have e := Nat.div_add_mod b q
    have l := Nat.mod_lt b hq
    have e' : b + (q - b % q) = q * (b / q) + q := by omega
    rw [e', Nat.add_mod_right, Nat.mul_mod_right]
  have k : ∀ a, a < q → ((a + b) % q + (q - b % q)) % q = a := fun a ha => by
    rw [Nat.mod_add_mod, Nat.add_assoc, Nat.add_mod, ht, Nat.add_zero, Nat.mod_mod, Nat.mod_eq_of_lt ha]
  rw [← k u hu, h, k v hv]
theorem dz_dc (q x k c1 c2 : Nat) (hq : 0 < q) (h1 : c1 < q) (h2 : c2 < q) : subM q ((k + c1 * x % q) % q) ((k + c2 * x % q) % q) = subM q c1 c2 * x % q := by
  have l1 := Nat.mod_lt (k + c1 * x % q) hq
  have l2 := Nat.mod_lt (k + c2 * x % q) hq
  refine add_mod_cancel q _ _ ((k + c2 * x % q) % q) (Nat.mod_lt _ hq) (Nat.mod_lt _ hq) ?_
  rw [sub_add_mod q _ _ l1 l2]
  have e := sub_add_mod q c1 c2 h1 h2
  have e2 : (subM q c1 c2 * x % q + (k + c2 * x % q) % q) % q = (k + (subM q c1 c2 + c2) % q * x % q) % q := by
    rw [Nat.mod_add_mod, Nat.add_mod_mod, ← Nat.add_assoc, Nat.add_mod_mod, Nat.mod_mul_mod, Nat.add_mod_mod, Nat.add_mul, Nat.add_comm (subM q c1 c2 * x) k, Nat.add_assoc]
  rw [e2, e]
theorem inv_mod (d : Nat) (hd : d < QQ) (h0 : d ≠ 0) : d * (d ^ (QQ - 2) % QQ) % QQ = 1 := by
  have hn : ¬ QQ ∣ d := fun h => absurd (Nat.le_of_dvd (Nat.pos_of_ne_zero h0) h) (by omega)
  have f := fermat1 prime_Q d hn
  have e : QQ - 1 = (QQ - 2) + 1 := by
    have : 2 ≤ QQ := of_decide_eq_true (by kernel_rfl)
    omega
  rw [e, Nat.pow_succ] at f
  rw [Nat.mul_mod_mod, Nat.mul_comm]
  exact f
theorem tell_x (x d : Nat) (hx : x < QQ) (hd : d < QQ) (h0 : d ≠ 0) : d * x % QQ * (d ^ (QQ - 2) % QQ) % QQ = x := by
  rw [Nat.mod_mul_mod, Nat.mul_comm d x, Nat.mul_assoc, Nat.mul_mod, inv_mod d hd h0, Nat.mul_one, Nat.mod_mod, Nat.mod_eq_of_lt hx]
theorem sub_zero_eq (q a b : Nat) (ha : a < q) (hb : b < q) (h : subM q a b = 0) : a = b := by
  have e := sub_add_mod q a b ha hb
  rw [h, Nat.zero_add, Nat.mod_eq_of_lt hb] at e
  exact e.symm
set_option maxRecDepth 100000 in
set_option maxHeartbeats 4000000 in
theorem chl_ok (R Y : Pts) (m : ByteArray) (c : Nat) (hm : m.size ≤ 4096) (hc : c = chN R Y m) (w : World) (hG : GS w) :
    Calls Tryd.prog 11 #[.agg #[.int .u64 (limb (pX R) 0 : Nat), .int .u64 (limb (pX R) 1 : Nat), .int .u64 (limb (pX R) 2 : Nat), .int .u64 (limb (pX R) 3 : Nat), .int .u64 (limb (pY R) 0 : Nat), .int .u64 (limb (pY R) 1 : Nat), .int .u64 (limb (pY R) 2 : Nat), .int .u64 (limb (pY R) 3 : Nat), .bool (pI R)], .agg #[.int .u64 (limb (pX Y) 0 : Nat), .int .u64 (limb (pX Y) 1 : Nat), .int .u64 (limb (pX Y) 2 : Nat), .int .u64 (limb (pX Y) 3 : Nat), .int .u64 (limb (pY Y) 0 : Nat), .int .u64 (limb (pY Y) 1 : Nat), .int .u64 (limb (pY Y) 2 : Nat), .int .u64 (limb (pY Y) 3 : Nat), .bool (pI Y)], .string m] w fun e w' => e = .returned (.tuple #[.agg #[.int .u64 (limb c 0 : Nat), .int .u64 (limb c 1 : Nat), .int .u64 (limb c 2 : Nat), .int .u64 (limb c 3 : Nat)], .int .i64 0]) ∧ Below w.heap.size w w' := by
  have hxr := p_R _ (pX_lt R)
  have hyr := p_R _ (pY_lt R)
  have hxy := p_R _ (pX_lt Y)
  have hyy := p_R _ (pY_lt Y)
  have hE : (0 : Int) = fErr [onE (pX R) (pY R) (pI R), onE (pX Y) (pY Y) (pI Y), shE m] := by
    rw [shE_in hm]
    unfold onE
    rw [pts_ok R, pts_ok Y]
    rfl
  have KF : Hid (∀ (b : Nat) (w : World), GS w → b < w.heap.size → w.cell? ⟨b, 0, none⟩ = some (.func (.func 27) #[.agg #[.int .u64 (limb (pX R) 0 : Nat), .int .u64 (limb (pX R) 1 : Nat), .int .u64 (limb (pX R) 2 : Nat), .int .u64 (limb (pX R) 3 : Nat), .int .u64 (limb (pY R) 0 : Nat), .int .u64 (limb (pY R) 1 : Nat), .int .u64 (limb (pY R) 2 : Nat), .int .u64 (limb (pY R) 3 : Nat), .bool (pI R)]] #[]) → w.cell? ⟨b, 1, none⟩ = some (.func (.func 27) #[.agg #[.int .u64 (limb (pX Y) 0 : Nat), .int .u64 (limb (pX Y) 1 : Nat), .int .u64 (limb (pX Y) 2 : Nat), .int .u64 (limb (pX Y) 3 : Nat), .int .u64 (limb (pY Y) 0 : Nat), .int .u64 (limb (pY Y) 1 : Nat), .int .u64 (limb (pY Y) 2 : Nat), .int .u64 (limb (pY Y) 3 : Nat), .bool (pI Y)]] #[]) → w.cell? ⟨b, 2, none⟩ = some (.func (.func 19) #[.string m] #[]) →
      Calls Tryd.prog 16 #[.slice (some ⟨b, 0, none⟩) 3 3] w fun e w' => e = .returned (.int .i64 0) ∧ Below w.heap.size w w') := fun b w hG hb c0 c1 c2 => by
    refine first_any 3 b (fun j => if j < 2 then 27 else 19) (fun j => if j = 0 then #[.agg #[.int .u64 (limb (pX R) 0 : Nat), .int .u64 (limb (pX R) 1 : Nat), .int .u64 (limb (pX R) 2 : Nat), .int .u64 (limb (pX R) 3 : Nat), .int .u64 (limb (pY R) 0 : Nat), .int .u64 (limb (pY R) 1 : Nat), .int .u64 (limb (pY R) 2 : Nat), .int .u64 (limb (pY R) 3 : Nat), .bool (pI R)]] else if j = 1 then #[.agg #[.int .u64 (limb (pX Y) 0 : Nat), .int .u64 (limb (pX Y) 1 : Nat), .int .u64 (limb (pX Y) 2 : Nat), .int .u64 (limb (pX Y) 3 : Nat), .int .u64 (limb (pY Y) 0 : Nat), .int .u64 (limb (pY Y) 1 : Nat), .int .u64 (limb (pY Y) 2 : Nat), .int .u64 (limb (pY Y) 3 : Nat), .bool (pI Y)]] else #[.string m]) (fun j => if j = 0 then onE (pX R) (pY R) (pI R) else if j = 1 then onE (pX Y) (pY Y) (pI Y) else shE m) 0 GS (fun w w' h hb => h.call hb) (fun j hj _ w hG => ?_) (fun j hj => ?_) (by decide) hE w hG ⟨hb, fun j hj => ?_⟩
    · match j, hj with
      | 0, _ => exact q_on (pX R) (pY R) (pI R) _ hxr hyr rfl w hG.1.1
      | 1, _ => exact q_on (pX Y) (pY Y) (pI Y) _ hxy hyy rfl w hG.1.1
      | 2, _ =>
        refine (q_short m _ rfl w).mono ?_
        rintro e w' ⟨he, rfl⟩
        exact ⟨he, Below.refl _ _⟩
    · match j, hj with
      | 0, _ => exact enters_of Tryd.func27 (by kernel_rfl) rfl
      | 1, _ => exact enters_of Tryd.func27 (by kernel_rfl) rfl
      | 2, _ => exact enters_of Tryd.func19 (by kernel_rfl) rfl
    · match j, hj with
      | 0, _ => exact c0
      | 1, _ => exact c1
      | 2, _ => exact c2
  have KC : Hid (∀ w, GS w → Calls Tryd.prog 22 #[.agg #[.int .u64 (limb (pX R) 0 : Nat), .int .u64 (limb (pX R) 1 : Nat), .int .u64 (limb (pX R) 2 : Nat), .int .u64 (limb (pX R) 3 : Nat), .int .u64 (limb (pY R) 0 : Nat), .int .u64 (limb (pY R) 1 : Nat), .int .u64 (limb (pY R) 2 : Nat), .int .u64 (limb (pY R) 3 : Nat), .bool (pI R)], .agg #[.int .u64 (limb (pX Y) 0 : Nat), .int .u64 (limb (pX Y) 1 : Nat), .int .u64 (limb (pX Y) 2 : Nat), .int .u64 (limb (pX Y) 3 : Nat), .int .u64 (limb (pY Y) 0 : Nat), .int .u64 (limb (pY Y) 1 : Nat), .int .u64 (limb (pY Y) 2 : Nat), .int .u64 (limb (pY Y) 3 : Nat), .bool (pI Y)], .string m] w fun e w' => e = .returned (.agg #[.int .u64 (limb c 0 : Nat), .int .u64 (limb c 1 : Nat), .int .u64 (limb c 2 : Nat), .int .u64 (limb c 3 : Nat)]) ∧ Below w.heap.size w w') := fun w h => chal_ok R Y m c hm hc w h
  obtain ⟨N, hN⟩ : ∃ N, N = w.heap.size := ⟨_, rfl⟩
  obtain ⟨W0, hW0⟩ : ∃ W, W = ((w.alloc (.cells #[.int .u64 (limb (pX R) 0 : Nat), .int .u64 (limb (pX R) 1 : Nat), .int .u64 (limb (pX R) 2 : Nat), .int .u64 (limb (pX R) 3 : Nat), .int .u64 (limb (pY R) 0 : Nat), .int .u64 (limb (pY R) 1 : Nat), .int .u64 (limb (pY R) 2 : Nat), .int .u64 (limb (pY R) 3 : Nat), .bool (pI R)] 28)).alloc (.cells #[.int .u64 (limb (pX Y) 0 : Nat), .int .u64 (limb (pX Y) 1 : Nat), .int .u64 (limb (pX Y) 2 : Nat), .int .u64 (limb (pX Y) 3 : Nat), .int .u64 (limb (pY Y) 0 : Nat), .int .u64 (limb (pY Y) 1 : Nat), .int .u64 (limb (pY Y) 2 : Nat), .int .u64 (limb (pY Y) 3 : Nat), .bool (pI Y)] 28)).alloc (.cells #[.int .u64 0, .int .u64 0, .int .u64 0, .int .u64 0] 24) := ⟨_, rfl⟩
  have H0 : Hid (Below w.heap.size w W0 ∧ Bl W0 N [.int .u64 (limb (pX R) 0 : Nat), .int .u64 (limb (pX R) 1 : Nat), .int .u64 (limb (pX R) 2 : Nat), .int .u64 (limb (pX R) 3 : Nat), .int .u64 (limb (pY R) 0 : Nat), .int .u64 (limb (pY R) 1 : Nat), .int .u64 (limb (pY R) 2 : Nat), .int .u64 (limb (pY R) 3 : Nat), .bool (pI R)] 28 ∧ Bl W0 (N + 1) [.int .u64 (limb (pX Y) 0 : Nat), .int .u64 (limb (pX Y) 1 : Nat), .int .u64 (limb (pX Y) 2 : Nat), .int .u64 (limb (pX Y) 3 : Nat), .int .u64 (limb (pY Y) 0 : Nat), .int .u64 (limb (pY Y) 1 : Nat), .int .u64 (limb (pY Y) 2 : Nat), .int .u64 (limb (pY Y) 3 : Nat), .bool (pI Y)] 28 ∧ Bl W0 (N + 1 + 1) [.int .u64 0, .int .u64 0, .int .u64 0, .int .u64 0] 24 ∧ GS W0) := by
    have hb : Below w.heap.size w W0 := by
      rw [hW0]
      exact below_alloc0 (below_alloc0 (below_alloc0 (Below.refl _ _) _) _) _
    have e0 := Bl.new (w) [.int .u64 (limb (pX R) 0 : Nat), .int .u64 (limb (pX R) 1 : Nat), .int .u64 (limb (pX R) 2 : Nat), .int .u64 (limb (pX R) 3 : Nat), .int .u64 (limb (pY R) 0 : Nat), .int .u64 (limb (pY R) 1 : Nat), .int .u64 (limb (pY R) 2 : Nat), .int .u64 (limb (pY R) 3 : Nat), .bool (pI R)] 28
    have a0 : Below (w).heap.size (w) ((w).alloc (.cells [.int .u64 (limb (pX R) 0 : Nat), .int .u64 (limb (pX R) 1 : Nat), .int .u64 (limb (pX R) 2 : Nat), .int .u64 (limb (pX R) 3 : Nat), .int .u64 (limb (pY R) 0 : Nat), .int .u64 (limb (pY R) 1 : Nat), .int .u64 (limb (pY R) 2 : Nat), .int .u64 (limb (pY R) 3 : Nat), .bool (pI R)].toArray 28)) := below_alloc0 (Below.refl _ _) _
    have e1 := Bl.new ((w).alloc (.cells [.int .u64 (limb (pX R) 0 : Nat), .int .u64 (limb (pX R) 1 : Nat), .int .u64 (limb (pX R) 2 : Nat), .int .u64 (limb (pX R) 3 : Nat), .int .u64 (limb (pY R) 0 : Nat), .int .u64 (limb (pY R) 1 : Nat), .int .u64 (limb (pY R) 2 : Nat), .int .u64 (limb (pY R) 3 : Nat), .bool (pI R)].toArray 28)) [.int .u64 (limb (pX Y) 0 : Nat), .int .u64 (limb (pX Y) 1 : Nat), .int .u64 (limb (pX Y) 2 : Nat), .int .u64 (limb (pX Y) 3 : Nat), .int .u64 (limb (pY Y) 0 : Nat), .int .u64 (limb (pY Y) 1 : Nat), .int .u64 (limb (pY Y) 2 : Nat), .int .u64 (limb (pY Y) 3 : Nat), .bool (pI Y)] 28
    have a1 : Below ((w).alloc (.cells [.int .u64 (limb (pX R) 0 : Nat), .int .u64 (limb (pX R) 1 : Nat), .int .u64 (limb (pX R) 2 : Nat), .int .u64 (limb (pX R) 3 : Nat), .int .u64 (limb (pY R) 0 : Nat), .int .u64 (limb (pY R) 1 : Nat), .int .u64 (limb (pY R) 2 : Nat), .int .u64 (limb (pY R) 3 : Nat), .bool (pI R)].toArray 28)).heap.size ((w).alloc (.cells [.int .u64 (limb (pX R) 0 : Nat), .int .u64 (limb (pX R) 1 : Nat), .int .u64 (limb (pX R) 2 : Nat), .int .u64 (limb (pX R) 3 : Nat), .int .u64 (limb (pY R) 0 : Nat), .int .u64 (limb (pY R) 1 : Nat), .int .u64 (limb (pY R) 2 : Nat), .int .u64 (limb (pY R) 3 : Nat), .bool (pI R)].toArray 28)) (((w).alloc (.cells [.int .u64 (limb (pX R) 0 : Nat), .int .u64 (limb (pX R) 1 : Nat), .int .u64 (limb (pX R) 2 : Nat), .int .u64 (limb (pX R) 3 : Nat), .int .u64 (limb (pY R) 0 : Nat), .int .u64 (limb (pY R) 1 : Nat), .int .u64 (limb (pY R) 2 : Nat), .int .u64 (limb (pY R) 3 : Nat), .bool (pI R)].toArray 28)).alloc (.cells [.int .u64 (limb (pX Y) 0 : Nat), .int .u64 (limb (pX Y) 1 : Nat), .int .u64 (limb (pX Y) 2 : Nat), .int .u64 (limb (pX Y) 3 : Nat), .int .u64 (limb (pY Y) 0 : Nat), .int .u64 (limb (pY Y) 1 : Nat), .int .u64 (limb (pY Y) 2 : Nat), .int .u64 (limb (pY Y) 3 : Nat), .bool (pI Y)].toArray 28)) := below_alloc0 (Below.refl _ _) _
    rw [World.size_alloc] at e1
    have e2 := Bl.new (((w).alloc (.cells [.int .u64 (limb (pX R) 0 : Nat), .int .u64 (limb (pX R) 1 : Nat), .int .u64 (limb (pX R) 2 : Nat), .int .u64 (limb (pX R) 3 : Nat), .int .u64 (limb (pY R) 0 : Nat), .int .u64 (limb (pY R) 1 : Nat), .int .u64 (limb (pY R) 2 : Nat), .int .u64 (limb (pY R) 3 : Nat), .bool (pI R)].toArray 28)).alloc (.cells [.int .u64 (limb (pX Y) 0 : Nat), .int .u64 (limb (pX Y) 1 : Nat), .int .u64 (limb (pX Y) 2 : Nat), .int .u64 (limb (pX Y) 3 : Nat), .int .u64 (limb (pY Y) 0 : Nat), .int .u64 (limb (pY Y) 1 : Nat), .int .u64 (limb (pY Y) 2 : Nat), .int .u64 (limb (pY Y) 3 : Nat), .bool (pI Y)].toArray 28)) [.int .u64 0, .int .u64 0, .int .u64 0, .int .u64 0] 24
    have a2 : Below (((w).alloc (.cells [.int .u64 (limb (pX R) 0 : Nat), .int .u64 (limb (pX R) 1 : Nat), .int .u64 (limb (pX R) 2 : Nat), .int .u64 (limb (pX R) 3 : Nat), .int .u64 (limb (pY R) 0 : Nat), .int .u64 (limb (pY R) 1 : Nat), .int .u64 (limb (pY R) 2 : Nat), .int .u64 (limb (pY R) 3 : Nat), .bool (pI R)].toArray 28)).alloc (.cells [.int .u64 (limb (pX Y) 0 : Nat), .int .u64 (limb (pX Y) 1 : Nat), .int .u64 (limb (pX Y) 2 : Nat), .int .u64 (limb (pX Y) 3 : Nat), .int .u64 (limb (pY Y) 0 : Nat), .int .u64 (limb (pY Y) 1 : Nat), .int .u64 (limb (pY Y) 2 : Nat), .int .u64 (limb (pY Y) 3 : Nat), .bool (pI Y)].toArray 28)).heap.size (((w).alloc (.cells [.int .u64 (limb (pX R) 0 : Nat), .int .u64 (limb (pX R) 1 : Nat), .int .u64 (limb (pX R) 2 : Nat), .int .u64 (limb (pX R) 3 : Nat), .int .u64 (limb (pY R) 0 : Nat), .int .u64 (limb (pY R) 1 : Nat), .int .u64 (limb (pY R) 2 : Nat), .int .u64 (limb (pY R) 3 : Nat), .bool (pI R)].toArray 28)).alloc (.cells [.int .u64 (limb (pX Y) 0 : Nat), .int .u64 (limb (pX Y) 1 : Nat), .int .u64 (limb (pX Y) 2 : Nat), .int .u64 (limb (pX Y) 3 : Nat), .int .u64 (limb (pY Y) 0 : Nat), .int .u64 (limb (pY Y) 1 : Nat), .int .u64 (limb (pY Y) 2 : Nat), .int .u64 (limb (pY Y) 3 : Nat), .bool (pI Y)].toArray 28)) ((((w).alloc (.cells [.int .u64 (limb (pX R) 0 : Nat), .int .u64 (limb (pX R) 1 : Nat), .int .u64 (limb (pX R) 2 : Nat), .int .u64 (limb (pX R) 3 : Nat), .int .u64 (limb (pY R) 0 : Nat), .int .u64 (limb (pY R) 1 : Nat), .int .u64 (limb (pY R) 2 : Nat), .int .u64 (limb (pY R) 3 : Nat), .bool (pI R)].toArray 28)).alloc (.cells [.int .u64 (limb (pX Y) 0 : Nat), .int .u64 (limb (pX Y) 1 : Nat), .int .u64 (limb (pX Y) 2 : Nat), .int .u64 (limb (pX Y) 3 : Nat), .int .u64 (limb (pY Y) 0 : Nat), .int .u64 (limb (pY Y) 1 : Nat), .int .u64 (limb (pY Y) 2 : Nat), .int .u64 (limb (pY Y) 3 : Nat), .bool (pI Y)].toArray 28)).alloc (.cells [.int .u64 0, .int .u64 0, .int .u64 0, .int .u64 0].toArray 24)) := below_alloc0 (Below.refl _ _) _
    rw [World.size_alloc, World.size_alloc] at e2
    refine ⟨hb, ?_, ?_, ?_, hG.call hb⟩
    · rw [hW0, hN]
      exact ((e0.call a1).call a2)
    · rw [hW0, hN]
      exact (e1.call a2)
    · rw [hW0, hN]
      exact e2
  have HW : Hid (W0 = ((w.alloc (.cells #[.int .u64 (limb (pX R) 0 : Nat), .int .u64 (limb (pX R) 1 : Nat), .int .u64 (limb (pX R) 2 : Nat), .int .u64 (limb (pX R) 3 : Nat), .int .u64 (limb (pY R) 0 : Nat), .int .u64 (limb (pY R) 1 : Nat), .int .u64 (limb (pY R) 2 : Nat), .int .u64 (limb (pY R) 3 : Nat), .bool (pI R)] 28)).alloc (.cells #[.int .u64 (limb (pX Y) 0 : Nat), .int .u64 (limb (pX Y) 1 : Nat), .int .u64 (limb (pX Y) 2 : Nat), .int .u64 (limb (pX Y) 3 : Nat), .int .u64 (limb (pY Y) 0 : Nat), .int .u64 (limb (pY Y) 1 : Nat), .int .u64 (limb (pY Y) 2 : Nat), .int .u64 (limb (pY Y) 3 : Nat), .bool (pI Y)] 28)).alloc (.cells #[.int .u64 0, .int .u64 0, .int .u64 0, .int .u64 0] 24) ∧ N = w.heap.size) := ⟨hW0, hN⟩
  clear hW0 hN hG hxr hyr hxy hyy hE hm hc
  have hmf : ∀ (fn : Fn) (first cap : Array Value) (w : World), (Instr.makeFunc fn first cap).run Tryd.prog w = .ok (.func fn first cap) w := fun _ _ _ _ => rfl
  have HN : Hid (N = w.heap.size) := HW.out.2
  go_enter Tryd.func11, Tryd.ntmps11
  go_upto_region 1 with fail
  rw [← HW.out.1, ← HW.out.2]
  clear HW
  have L1 : Hid ((loadVar 28 ⟨N, 0, none⟩).run Tryd.prog W0 = .ok (.agg #[.int .u64 (limb (pX R) 0 : Nat), .int .u64 (limb (pX R) 1 : Nat), .int .u64 (limb (pX R) 2 : Nat), .int .u64 (limb (pX R) 3 : Nat), .int .u64 (limb (pY R) 0 : Nat), .int .u64 (limb (pY R) 1 : Nat), .int .u64 (limb (pY R) 2 : Nat), .int .u64 (limb (pY R) 3 : Nat), .bool (pI R)]) W0) := H0.out.2.1.load Tryd.underlying28 rfl (by kernel_rfl)
  have L2 : Hid ((loadVar 28 ⟨N + 1, 0, none⟩).run Tryd.prog W0 = .ok (.agg #[.int .u64 (limb (pX Y) 0 : Nat), .int .u64 (limb (pX Y) 1 : Nat), .int .u64 (limb (pX Y) 2 : Nat), .int .u64 (limb (pX Y) 3 : Nat), .int .u64 (limb (pY Y) 0 : Nat), .int .u64 (limb (pY Y) 1 : Nat), .int .u64 (limb (pY Y) 2 : Nat), .int .u64 (limb (pY Y) 3 : Nat), .bool (pI Y)]) W0) := H0.out.2.2.1.load Tryd.underlying28 rfl (by kernel_rfl)
  go_wp2_with (first | ((with_reducible refine load_to (b := N) (k := 0) (x := 3) ?_ ?_ ?_ L1.out ?_); rfl; rfl; rfl) | ((with_reducible refine load_to (b := N + 1) (k := 0) (x := 4) ?_ ?_ ?_ L2.out ?_); rfl; rfl; rfl))
  clear L1 L2
  have HA : Hid (∀ b, Below W0.heap.size W0 (W0.alloc b)) := fun b => below_alloc0 (Below.refl _ _) b
  refine (KF.out _ _ (H0.out.2.2.2.2.call (HA.out _)) (by simp) (by simp [go_sem]) (by simp [go_sem]) (by simp [go_sem])).mono ?_
  rintro e w2 ⟨rfl, hb2⟩
  have H2 : Hid (Below w.heap.size w w2 ∧ Bl w2 N [.int .u64 (limb (pX R) 0 : Nat), .int .u64 (limb (pX R) 1 : Nat), .int .u64 (limb (pX R) 2 : Nat), .int .u64 (limb (pX R) 3 : Nat), .int .u64 (limb (pY R) 0 : Nat), .int .u64 (limb (pY R) 1 : Nat), .int .u64 (limb (pY R) 2 : Nat), .int .u64 (limb (pY R) 3 : Nat), .bool (pI R)] 28 ∧ Bl w2 (N + 1) [.int .u64 (limb (pX Y) 0 : Nat), .int .u64 (limb (pX Y) 1 : Nat), .int .u64 (limb (pX Y) 2 : Nat), .int .u64 (limb (pX Y) 3 : Nat), .int .u64 (limb (pY Y) 0 : Nat), .int .u64 (limb (pY Y) 1 : Nat), .int .u64 (limb (pY Y) 2 : Nat), .int .u64 (limb (pY Y) 3 : Nat), .bool (pI Y)] 28 ∧ Bl w2 (N + 1 + 1) [.int .u64 0, .int .u64 0, .int .u64 0, .int .u64 0] 24 ∧ GS w2) := by
    have hb := below_call0 (HA.out _) hb2
    exact ⟨below_call0 H0.out.1 hb, H0.out.2.1.call hb, H0.out.2.2.1.call hb, H0.out.2.2.2.1.call hb, H0.out.2.2.2.2.call hb⟩
  clear hb2 H0 HA KF hmf
  go_upto_region 4 with fail
  have L1 : Hid ((loadVar 28 ⟨N, 0, none⟩).run Tryd.prog w2 = .ok (.agg #[.int .u64 (limb (pX R) 0 : Nat), .int .u64 (limb (pX R) 1 : Nat), .int .u64 (limb (pX R) 2 : Nat), .int .u64 (limb (pX R) 3 : Nat), .int .u64 (limb (pY R) 0 : Nat), .int .u64 (limb (pY R) 1 : Nat), .int .u64 (limb (pY R) 2 : Nat), .int .u64 (limb (pY R) 3 : Nat), .bool (pI R)]) w2) := H2.out.2.1.load Tryd.underlying28 rfl (by kernel_rfl)
  have L2 : Hid ((loadVar 28 ⟨N + 1, 0, none⟩).run Tryd.prog w2 = .ok (.agg #[.int .u64 (limb (pX Y) 0 : Nat), .int .u64 (limb (pX Y) 1 : Nat), .int .u64 (limb (pX Y) 2 : Nat), .int .u64 (limb (pX Y) 3 : Nat), .int .u64 (limb (pY Y) 0 : Nat), .int .u64 (limb (pY Y) 1 : Nat), .int .u64 (limb (pY Y) 2 : Nat), .int .u64 (limb (pY Y) 3 : Nat), .bool (pI Y)]) w2) := H2.out.2.2.1.load Tryd.underlying28 rfl (by kernel_rfl)
  go_wp2_with (first | ((with_reducible refine load_to (b := N) (k := 0) (x := 3) ?_ ?_ ?_ L1.out ?_); rfl; rfl; rfl) | ((with_reducible refine load_to (b := N + 1) (k := 0) (x := 4) ?_ ?_ ?_ L2.out ?_); rfl; rfl; rfl))
  refine (KC.out _ H2.out.2.2.2.2).mono ?_
  rintro e w3 ⟨rfl, hb3⟩
  have H3 : Hid (Below w.heap.size w w3 ∧ Bl w3 (N + 1 + 1) [.int .u64 0, .int .u64 0, .int .u64 0, .int .u64 0] 24) := ⟨below_call0 H2.out.1 hb3, H2.out.2.2.2.1.call hb3⟩
  clear hb3 H2 L1 L2 KC
  have HS : Hid ((storeVar 24 ⟨N + 1 + 1, 0, none⟩ (.agg #[.int .u64 (limb c 0 : Nat), .int .u64 (limb c 1 : Nat), .int .u64 (limb c 2 : Nat), .int .u64 (limb c 3 : Nat)])).run Tryd.prog w3 = .ok () (w3.setRow (N + 1 + 1) #[.int .u64 (limb c 0 : Nat), .int .u64 (limb c 1 : Nat), .int .u64 (limb c 2 : Nat), .int .u64 (limb c 3 : Nat)])) := H3.out.2.store (us := [.int .u64 (limb c 0 : Nat), .int .u64 (limb c 1 : Nat), .int .u64 (limb c 2 : Nat), .int .u64 (limb c 3 : Nat)]) (by kernel_rfl) rfl (by kernel_rfl)
  go_wp2_with ((with_reducible refine store_to (b := N + 1 + 1) (k := 0) (x := 6) (y := 24) ?_ ?_ ?_ ?_ HS.out ?_); rfl; rfl; rfl; rfl)
  have hld : (loadVar 24 ⟨N + 1 + 1, 0, none⟩).run Tryd.prog (w3.setRow (N + 1 + 1) #[.int .u64 (limb c 0 : Nat), .int .u64 (limb c 1 : Nat), .int .u64 (limb c 2 : Nat), .int .u64 (limb c 3 : Nat)]) = .ok (.agg #[.int .u64 (limb c 0 : Nat), .int .u64 (limb c 1 : Nat), .int .u64 (limb c 2 : Nat), .int .u64 (limb c 3 : Nat)]) (w3.setRow (N + 1 + 1) #[.int .u64 (limb c 0 : Nat), .int .u64 (limb c 1 : Nat), .int .u64 (limb c 2 : Nat), .int .u64 (limb c 3 : Nat)]) := (H3.out.2.put [.int .u64 (limb c 0 : Nat), .int .u64 (limb c 1 : Nat), .int .u64 (limb c 2 : Nat), .int .u64 (limb c 3 : Nat)]).load Tryd.underlying24 rfl (by kernel_rfl)
  refine bodyPost_ret (v := .tuple #[.agg #[.int .u64 (limb c 0 : Nat), .int .u64 (limb c 1 : Nat), .int .u64 (limb c 2 : Nat), .int .u64 (limb c 3 : Nat)], .int .i64 0]) ?_ rfl ⟨rfl, below_setRow (by have := HN.out; omega) _ H3.out.1⟩
  simp [results, Tryd.results11, asAddr, hld]
end Go.Proofs.YtchphekaonnfeaaDoor
