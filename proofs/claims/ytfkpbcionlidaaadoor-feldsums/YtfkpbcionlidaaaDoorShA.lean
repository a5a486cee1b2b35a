/- Share: numbers behind an address; how many coefficients, a scalar, the reckoner's sums and products, the field of the reference. -/
import Derived.Test.YtfkpbcionlidaaaDoorFdB
import Derived.Test.YtfkpbcionlidaaaDoorFieldG
import Derived.Test.YtfkpbcionlidaaaDoorRef2I
import Derived.Test.YtfkpbcionlidaaaDoorMhA
import Derived.BigQuiet
namespace Go.Proofs.YtfkpbcionlidaaaDoor
open Go Go.RowKit Go.Lib

/-- Numbers that lie behind an address. -/
def Nums (w : World) (a : Option Addr) (l : List Nat) : Prop :=
 ∀ j n, l[j]? = some n → ∃ p o, a = some ⟨p, o, none⟩ ∧ (∀ i, i < 4 → w.cell? ⟨p, o + j * 4 + i, none⟩ = some (.int .u64 (limb n i : Nat))) ∧ p < w.heap.size
theorem Nums.call {w w' : World} {a : Option Addr} {l : List Nat} (h : Nums w a l) (hb : Below w.heap.size w w') : Nums w' a l := fun j s hj => by
 obtain ⟨p, o, h1, h2, h3⟩ := h j s hj
 exact ⟨p, o, h1, fun i hi => (hb.cell (p := ⟨p, o + j * 4 + i, none⟩) h3).trans (h2 i hi), Nat.lt_of_lt_of_le h3 hb.size⟩
theorem Nums.get {w : World} {a : Option Addr} {l : List Nat} (h : Nums w a l) {k : Nat} (hk : k < l.length) : ∃ p o, a = some ⟨p, o, none⟩ ∧ (w.cell? ⟨p, o + k * 4, none⟩ = some (.int .u64 (limb (l[k]'hk) 0 : Nat)) ∧ w.cell? ⟨p, o + k * 4 + 1, none⟩ = some (.int .u64 (limb (l[k]'hk) 1 : Nat)) ∧ w.cell? ⟨p, o + k * 4 + 2, none⟩ = some (.int .u64 (limb (l[k]'hk) 2 : Nat)) ∧ w.cell? ⟨p, o + k * 4 + 3, none⟩ = some (.int .u64 (limb (l[k]'hk) 3 : Nat))) ∧ p < w.heap.size := by
 obtain ⟨p, o, h1, h2, h3⟩ := h k _ (List.getElem?_eq_getElem hk)
 exact ⟨p, o, h1, ⟨h2 0 (by omega), h2 1 (by omega), h2 2 (by omega), h2 3 (by omega)⟩, h3⟩
theorem Nums.drew {w : World} {a : Option Addr} {l : List Nat} (h : Nums w a l) : Nums w.drew a l := h
theorem Nums.alloc {w : World} {a : Option Addr} {l : List Nat} {o : Obj} (h : Nums w a l) : Nums (w.alloc o) a l := h.call ((Below.refl _ _).alloc (Nat.le_refl _) o)
theorem Nums.nil (w : World) (a : Option Addr) : Nums w a [] := fun j s hj => by simp at hj

theorem isPoly_any (a : Option Addr) (n c : Nat) (w : World) : Calls Tryd.prog 46 #[.slice a n c] w fun e w' => e = .returned (.bool (decide (1 ≤ n ∧ n ≤ 10))) ∧ w' = w := by
 by_cases h1 : 1 ≤ n
 ·by_cases h2 : n ≤ 10
  ·have d1 : decide (1 ≤ n ∧ n ≤ 10) = true := decide_eq_true ⟨h1, h2⟩
   have e1 : (n : Int) ≥ 1 := by omega
   have e2 : (n : Int) ≤ 10 := by omega
   rw [d1]
   clear d1 h1 h2
   go_enter Tryd.func46, Tryd.ntmps46
   go_wp2
   go_ret
   simp [*]
  ·have d1 : decide (1 ≤ n ∧ n ≤ 10) = false := decide_eq_false fun c => h2 c.2
   have e1 : (n : Int) ≥ 1 := by omega
   have e2 : ¬ (n : Int) ≤ 10 := by omega
   rw [d1]
   clear d1 h1 h2
   go_enter Tryd.func46, Tryd.ntmps46
   go_wp2
   go_ret
   simp [*]
 ·have d1 : decide (1 ≤ n ∧ n ≤ 10) = false := decide_eq_false fun c => h1 c.1
  have e1 : ¬ (n : Int) ≥ 1 := by omega
  rw [d1]
  clear d1 h1
  go_enter Tryd.func46, Tryd.ntmps46
  go_wp2
  go_ret
  simp [*]
theorem limb_small (x : Nat) (hx : x < M64) : limb x 0 = x ∧ limb x 1 = 0 ∧ limb x 2 = 0 ∧ limb x 3 = 0 := by
 have e : ∀ k, limb x k = x / M64 ^ k % M64 := fun k => rfl
 refine ⟨?_, ?_, ?_, ?_⟩
 ·rw [e, Nat.pow_zero, Nat.div_one, Nat.mod_eq_of_lt hx]
 ·rw [e, Nat.pow_one, Nat.div_eq_of_lt hx, Nat.zero_mod]
 ·rw [e, Nat.div_eq_of_lt (Nat.lt_of_lt_of_le hx (by decide)), Nat.zero_mod]
 ·rw [e, Nat.div_eq_of_lt (Nat.lt_of_lt_of_le hx (by decide)), Nat.zero_mod]
theorem reckoner_any (w : World) (hG : GlobQ w) :
  Calls Tryd.prog 24 #[] w fun e w' => ∃ g, e = .returned (.agg #[.pointer (some ⟨g, 0, none⟩)]) ∧ FieldB w' g QQ ∧ Below w.heap.size w w' := by
 have K1 : Hid _ := fun w hG => scalars_any w hG
 have HG : Hid (GlobQ w) := hG
 clear hG
 go_enter Tryd.func24, Tryd.ntmps24
 go_wp2_with fail
 refine (K1.out _ HG.out.alloc).mono ?_
 rintro e w1 ⟨g, rfl, hF, hb1⟩
 have c0 := hb1.cell (p := ⟨w.heap.size, 0, none⟩) (by simp)
 have f0 := hb1.frozen (p := ⟨w.heap.size, 0, none⟩) (by simp)
 have z0 : w.heap.size < w1.heap.size := by have := hb1.size; simp at this; omega
 simp [go_sem] at c0 f0
 have HF : Hid (FieldB w1 g QQ ∧ Below (w.alloc (.cells #[.pointer none] 61)).heap.size (w.alloc (.cells #[.pointer none] 61)) w1) := ⟨hF, hb1⟩
 clear hF hb1
 go_wp2_with fail
 refine bodyPost_ret (v := .agg #[.pointer (some ⟨g, 0, none⟩)]) ?_ rfl ⟨g, rfl, ?_, ?_⟩
 ·simp [results, Tryd.results24, go_sem, c0]
 ·have hne : g ≠ w.heap.size := fun c => by
   have h := HF.out.1.1 0 (by omega)
   rw [c, c0] at h
   cases h
  exact HF.out.1.set (fun c => hne c.symm)
 ·exact Below.setCell (below_call0 (below_alloc0 (Below.refl _ _) _) HF.out.2) (Nat.le_refl _) _
set_option maxHeartbeats 1000000 in
theorem rplus_any (g a b : Nat) (ha : a < QQ) (hb : b < QQ) (w : World) (hM : FieldB w g QQ) :
  Calls Tryd.prog 25 #[.agg #[.pointer (some ⟨g, 0, none⟩)], .agg #[.int .u64 (limb (a) 0 : Nat), .int .u64 (limb (a) 1 : Nat), .int .u64 (limb (a) 2 : Nat), .int .u64 (limb (a) 3 : Nat)], .agg #[.int .u64 (limb (b) 0 : Nat), .int .u64 (limb (b) 1 : Nat), .int .u64 (limb (b) 2 : Nat), .int .u64 (limb (b) 3 : Nat)]] w fun e w' => e = .returned (.agg #[.int .u64 (limb ((a + b) % QQ) 0 : Nat), .int .u64 (limb ((a + b) % QQ) 1 : Nat), .int .u64 (limb ((a + b) % QQ) 2 : Nat), .int .u64 (limb ((a + b) % QQ) 3 : Nat)]) ∧ Below w.heap.size w w' := by
 have k := fun w h => fadd_in g QQ a b FM_Q ha hb w h
 obtain ⟨r, hr⟩ : ∃ r, r = (a + b) % QQ := ⟨_, rfl⟩
 rw [← hr] at k
 rw [← hr]
 have K1 : Hid _ := k
 have HM : Hid (FieldB w g QQ) := hM
 clear hM hr k ha hb
 go_enter Tryd.func25, Tryd.ntmps25
 go_wp2_with fail
 refine (K1.out _ (by first | exact HM.out | exact HM.out.alloc | exact HM.out.alloc.alloc | exact HM.out.alloc.alloc.alloc | exact HM.out.alloc.alloc.alloc.alloc)).mono ?_
 rintro e w1 ⟨rfl, hb1⟩
 obtain ⟨⟨p0, p1, p2, p3⟩, ⟨f0, f1, f2, f3⟩, pz⟩ := (Pend.call (Pend.new _ _) hb1).facts
 simp only [World.size_alloc] at p0 p1 p2 p3 f0 f1 f2 f3 pz
 have HB : Hid (Below w.heap.size w w1) := by unfold Hid; ((repeat' (first | with_reducible exact Below.refl _ _ | with_reducible refine Below.setCell ?_ ?_ _ | with_reducible refine below_alloc0 ?_ _ | with_reducible refine below_drewN ?_ _ | with_reducible refine Below.drew ?_ | refine below_call0 ?_ (by assumption))) <;> (first | omega | (simp; done) | (simp; omega)))
 clear hb1
 go_wp2_with fail
 refine bodyPost_ret (v := .agg #[.int .u64 (limb (r) 0 : Nat), .int .u64 (limb (r) 1 : Nat), .int .u64 (limb (r) 2 : Nat), .int .u64 (limb (r) 3 : Nat)]) ?_ rfl ⟨rfl, ?_⟩
 ·simp [results, Tryd.results25, go_sem, p0, p1, p2, p3, pz]
 ·have HB := HB.out
  ((repeat' (first | with_reducible exact HB | with_reducible exact Below.refl _ _ | exact (And.left (by assumption)) | with_reducible refine Below.setCell ?_ ?_ _ | with_reducible refine below_alloc0 ?_ _ | with_reducible refine below_drewN ?_ _ | with_reducible refine Below.drew ?_ | refine below_call0 ?_ (by assumption))) <;> (first | omega | (simp; done) | (simp; omega)))
set_option maxHeartbeats 1000000 in
theorem rtimes_any (g a b : Nat) (ha : a < QQ) (hb : b < QQ) (w : World) (hM : FieldB w g QQ) :
  Calls Tryd.prog 51 #[.agg #[.pointer (some ⟨g, 0, none⟩)], .agg #[.int .u64 (limb (a) 0 : Nat), .int .u64 (limb (a) 1 : Nat), .int .u64 (limb (a) 2 : Nat), .int .u64 (limb (a) 3 : Nat)], .agg #[.int .u64 (limb (b) 0 : Nat), .int .u64 (limb (b) 1 : Nat), .int .u64 (limb (b) 2 : Nat), .int .u64 (limb (b) 3 : Nat)]] w fun e w' => e = .returned (.agg #[.int .u64 (limb (a * b % QQ) 0 : Nat), .int .u64 (limb (a * b % QQ) 1 : Nat), .int .u64 (limb (a * b % QQ) 2 : Nat), .int .u64 (limb (a * b % QQ) 3 : Nat)]) ∧ Below w.heap.size w w' := by
 have k := fun w h => fmul_in g QQ a b FM_Q ha hb w h
 obtain ⟨r, hr⟩ : ∃ r, r = a * b % QQ := ⟨_, rfl⟩
 rw [← hr] at k
 rw [← hr]
 have K1 : Hid _ := k
 have HM : Hid (FieldB w g QQ) := hM
 clear hM hr k ha hb
 go_enter Tryd.func51, Tryd.ntmps51
 go_wp2_with fail
 refine (K1.out _ (by first | exact HM.out | exact HM.out.alloc | exact HM.out.alloc.alloc | exact HM.out.alloc.alloc.alloc | exact HM.out.alloc.alloc.alloc.alloc)).mono ?_
 rintro e w1 ⟨rfl, hb1⟩
 obtain ⟨⟨p0, p1, p2, p3⟩, ⟨f0, f1, f2, f3⟩, pz⟩ := (Pend.call (Pend.new _ _) hb1).facts
 simp only [World.size_alloc] at p0 p1 p2 p3 f0 f1 f2 f3 pz
 have HB : Hid (Below w.heap.size w w1) := by unfold Hid; ((repeat' (first | with_reducible exact Below.refl _ _ | with_reducible refine Below.setCell ?_ ?_ _ | with_reducible refine below_alloc0 ?_ _ | with_reducible refine below_drewN ?_ _ | with_reducible refine Below.drew ?_ | refine below_call0 ?_ (by assumption))) <;> (first | omega | (simp; done) | (simp; omega)))
 clear hb1
 go_wp2_with fail
 refine bodyPost_ret (v := .agg #[.int .u64 (limb (r) 0 : Nat), .int .u64 (limb (r) 1 : Nat), .int .u64 (limb (r) 2 : Nat), .int .u64 (limb (r) 3 : Nat)]) ?_ rfl ⟨rfl, ?_⟩
 ·simp [results, Tryd.results51, go_sem, p0, p1, p2, p3, pz]
 ·have HB := HB.out
  ((repeat' (first | with_reducible exact HB | with_reducible exact Below.refl _ _ | exact (And.left (by assumption)) | with_reducible refine Below.setCell ?_ ?_ _ | with_reducible refine below_alloc0 ?_ _ | with_reducible refine below_drewN ?_ _ | with_reducible refine Below.drew ?_ | refine below_call0 ?_ (by assumption))) <;> (first | omega | (simp; done) | (simp; omega)))
end Go.Proofs.YtfkpbcionlidaaaDoor
