/- Package curve: a spot doubled. -/
import Derived.Test.YtgmfecncfekjfaaDoorCvJ
namespace Go.Proofs.YtgmfecncfekjfaaDoor
open Go Go.RowKit Go.Lib
attribute [local go_sem] run_eq4

/-- Only the block s and new ones may be other. -/
structure ButC (s : Nat) (w w' : World) : Prop where
 os : w'.os = w.os
 tape : w'.tape = w.tape
 output : w'.output = w.output
 size : w.heap.size ≤ w'.heap.size
 block : ∀ k, k < w.heap.size → k ≠ s → w'.heap[k]? = w.heap[k]?
theorem ButC.of {s : Nat} {w w' : World} (h : Below w.heap.size w w') : ButC s w w' := ⟨h.os, h.tape, h.output, h.size, fun k hk _ => h.block k hk⟩
theorem ButC.call {s : Nat} {w w1 w2 : World} (h : ButC s w w1) (hb : Below w1.heap.size w1 w2) : ButC s w w2 :=
 ⟨hb.os.trans h.os, hb.tape.trans h.tape, hb.output.trans h.output, Nat.le_trans h.size hb.size, fun k hk hg => (hb.block k (Nat.lt_of_lt_of_le hk h.size)).trans (h.block k hk hg)⟩
theorem ButC.trans {s : Nat} {w w1 w2 : World} (h : ButC s w w1) (hb : ButC s w1 w2) : ButC s w w2 :=
 ⟨hb.os.trans h.os, hb.tape.trans h.tape, hb.output.trans h.output, Nat.le_trans h.size hb.size, fun k hk hg => (hb.block k (Nat.lt_of_lt_of_le hk h.size) hg).trans (h.block k hk hg)⟩
theorem ButC.set {s o : Nat} {w w1 : World} {v : Value} (h : ButC s w w1) : ButC s w (w1.setCell ⟨s, o, none⟩ v) :=
 ⟨h.os, h.tape, h.output, by rw [World.size_setCell]; exact h.size, fun k hk hg => (Below.heap_setCell w1 ⟨s, o, none⟩ v k hg).trans (h.block k hk hg)⟩
theorem ButC.cell {s : Nat} {w w' : World} (h : ButC s w w') {p : Addr} (hp : p.block < w.heap.size) (hg : p.block ≠ s) : w'.cell? p = w.cell? p := World.cell?_of_block (w := w) (h.block p.block hp hg)
theorem ButC.frozen {s : Nat} {w w' : World} (h : ButC s w w') {p : Addr} (hp : p.block < w.heap.size) (hg : p.block ≠ s) : w'.frozen? p = w.frozen? p := World.frozen?_of_block (w := w) (h.block p.block hp hg)
theorem ButC.below {s C : Nat} {w w' : World} (h : ButC s w w') (hC : C ≤ w.heap.size) (hg : C ≤ s) : Below C w w' := ⟨h.os, h.tape, h.output, h.size, fun k hk => h.block k (Nat.lt_of_lt_of_le hk hC) (by omega)⟩
theorem ButC.field {s g m : Nat} {w w' : World} (h : ButC s w w') (hF : FieldB w g m) (hg : g ≠ s) : FieldB w' g m :=
 ⟨fun j hj => (h.cell (p := ⟨g, j, none⟩) hF.2.2 hg).trans (hF.1 j hj), fun j hj => (h.cell (p := ⟨g, j + 4, none⟩) hF.2.2 hg).trans (hF.2.1 j hj), Nat.lt_of_lt_of_le hF.2.2 h.size⟩
theorem ButC.num4 {s b n : Nat} {w w' : World} (h : ButC s w w') (hN : Num4 w b n) (hb : b < w.heap.size) (hg : b ≠ s) : Num4 w' b n := fun j hj => (h.cell (p := ⟨b, j, none⟩) hb hg).trans (hN j hj)
theorem Own4.put4s {W : World} {p n s : Nat} {a b c d : Nat} {u v x y : Value} (h : Own4 W p n) (hne : s ≠ p) : Own4 ((((W.setCell ⟨s, a, none⟩ u).setCell ⟨s, b, none⟩ v).setCell ⟨s, c, none⟩ x).setCell ⟨s, d, none⟩ y) p n := (((h.set (a := ⟨s, a, none⟩) hne).set (a := ⟨s, b, none⟩) hne).set (a := ⟨s, c, none⟩) hne).set (a := ⟨s, d, none⟩) hne
theorem FieldB.put4s {W : World} {g m s : Nat} {a b c d : Nat} {u v x y : Value} (h : FieldB W g m) (hne : s ≠ g) : FieldB ((((W.setCell ⟨s, a, none⟩ u).setCell ⟨s, b, none⟩ v).setCell ⟨s, c, none⟩ x).setCell ⟨s, d, none⟩ y) g m := (((h.set (a := ⟨s, a, none⟩) hne).set (a := ⟨s, b, none⟩) hne).set (a := ⟨s, c, none⟩) hne).set (a := ⟨s, d, none⟩) hne
theorem ButC.put4s {w W : World} {s : Nat} {a b c d : Nat} {u v x y : Value} (h : ButC s w W) : ButC s w ((((W.setCell ⟨s, a, none⟩ u).setCell ⟨s, b, none⟩ v).setCell ⟨s, c, none⟩ x).setCell ⟨s, d, none⟩ y) := h.set.set.set.set
/-- The variable threeHalves. -/
def GTH (w : World) : Prop := Num4 w 3 TH ∧ 3 < w.heap.size
theorem GTH.call {w w' : World} (h : GTH w) (hb : Below w.heap.size w w') : GTH w' := ⟨fun j hj => (hb.cell (p := ⟨3, j, none⟩) h.2).trans (h.1 j hj), Nat.lt_of_lt_of_le h.2 hb.size⟩
theorem GTH.but {s : Nat} {w w' : World} (h : GTH w) (hb : ButC s w w') (hs : 3 ≠ s) : GTH w' := ⟨hb.num4 h.1 h.2 hs, Nat.lt_of_lt_of_le h.2 hb.size⟩
theorem TH_lt : TH < PP := of_decide_eq_true (by kernel_rfl)
set_option maxRecDepth 100000 in
set_option maxHeartbeats 2000000 in
theorem sdouble_zero (s g x y : Nat) (w : World) (hS : SpotB w s g x y 0) :
  Calls Tryd.prog 49 #[.pointer (some ⟨s, 0, none⟩)] w fun e w' => e = .returned (.tuple #[]) ∧ w' = w := by
 obtain ⟨sz, sg, sx0, sx1, sx2, sx3, sy0, sy1, sy2, sy3, sz0, sz1, sz2, sz3, sf⟩ := hS
 rw [lit0.1] at sz0
 rw [lit0.2.1] at sz1
 rw [lit0.2.2.1] at sz2
 rw [lit0.2.2.2] at sz3
 have e0 : eq4 0 0 0 0 0 0 0 0 = true := rfl
 go_enter Tryd.func49, Tryd.ntmps49
 go_wp2_with fail
 first | (go_ret; exact ⟨rfl, rfl⟩) | (go_end0; exact ⟨rfl, rfl⟩) | exact bodyPost_end (results_none rfl _ _ _) rfl ⟨rfl, rfl⟩ | exact bodyPost_ret (results_none rfl _ _ _) rfl ⟨rfl, rfl⟩
set_option maxRecDepth 100000 in
set_option maxHeartbeats 4000000 in
theorem sdouble_fin (s g x y z sl sq mid X : Nat) (hx : x < PP) (hy : y < PP) (hz : z < PP) (h0 : z ≠ 0) (hsl : sl = mM (mM x x) TH) (hsq : sq = mM y y) (hmid : mid = mM x sq) (hX : X = sM (mM sl sl) (aM mid mid)) (w : World) (hM : FieldB w g PP) (hS : SpotB w s g x y z) (hT : GTH w) (hg : s ≠ g) :
  Calls Tryd.prog 49 #[.pointer (some ⟨s, 0, none⟩)] w fun e w' => e = .returned (.tuple #[]) ∧ SpotB w' s g X (sM (mM sl (sM mid X)) (mM sq sq)) (mM y z) ∧ ButC s w w' := by
 have lsl : sl < PP := by rw [hsl]; exact mM_lt _ _
 have lsq : sq < PP := by rw [hsq]; exact mM_lt _ _
 have lmid : mid < PP := by rw [hmid]; exact mM_lt _ _
 have lX : X < PP := by rw [hX]; exact sM_lt _ _
 obtain ⟨a, ea⟩ : ∃ u, u = mM x x := ⟨_, rfl⟩
 have la : a < PP := by rw [ea]; exact mM_lt _ _
 obtain ⟨Z, eZ⟩ : ∃ u, u = mM y z := ⟨_, rfl⟩
 have lZ : Z < PP := by rw [eZ]; exact mM_lt _ _
 obtain ⟨b, eb⟩ : ∃ u, u = mM sl sl := ⟨_, rfl⟩
 have lb : b < PP := by rw [eb]; exact mM_lt _ _
 obtain ⟨c, ec⟩ : ∃ u, u = aM mid mid := ⟨_, rfl⟩
 have lc : c < PP := by rw [ec]; exact aM_lt _ _
 obtain ⟨d, ed⟩ : ∃ u, u = sM mid X := ⟨_, rfl⟩
 have ld : d < PP := by rw [ed]; exact sM_lt _ _
 obtain ⟨E, eE⟩ : ∃ u, u = mM sl d := ⟨_, rfl⟩
 have lE : E < PP := by rw [eE]; exact mM_lt _ _
 obtain ⟨f, ef⟩ : ∃ u, u = mM sq sq := ⟨_, rfl⟩
 have lf : f < PP := by rw [ef]; exact mM_lt _ _
 obtain ⟨Y, eY⟩ : ∃ u, u = sM E f := ⟨_, rfl⟩
 have lY : Y < PP := by rw [eY]; exact sM_lt _ _
 have eTH : ∃ T, T = TH := ⟨_, rfl⟩
 obtain ⟨T, eT⟩ := eTH
 have lT : T < PP := by rw [eT]; exact TH_lt
 rw [← ea, ← eT] at hsl
 rw [← eb, ← ec] at hX
 rw [← eZ, ← ed, ← eE, ← ef, ← eY]
 have K1 : Hid (∀ w, FieldB w g PP → Calls Tryd.prog 62 #[.agg #[.pointer (some ⟨g, 0, none⟩)], .agg #[.int .u64 (limb (x) 0 : Nat), .int .u64 (limb (x) 1 : Nat), .int .u64 (limb (x) 2 : Nat), .int .u64 (limb (x) 3 : Nat)], .agg #[.int .u64 (limb (x) 0 : Nat), .int .u64 (limb (x) 1 : Nat), .int .u64 (limb (x) 2 : Nat), .int .u64 (limb (x) 3 : Nat)]] w fun e w' => e = .returned (.agg #[.int .u64 (limb (a) 0 : Nat), .int .u64 (limb (a) 1 : Nat), .int .u64 (limb (a) 2 : Nat), .int .u64 (limb (a) 3 : Nat)]) ∧ Below w.heap.size w w') := fun w h => by have k := ptimes_any g x x hx hx w h; rw [← ea] at k; exact k
 have K2 : Hid (∀ w, FieldB w g PP → Calls Tryd.prog 62 #[.agg #[.pointer (some ⟨g, 0, none⟩)], .agg #[.int .u64 (limb (a) 0 : Nat), .int .u64 (limb (a) 1 : Nat), .int .u64 (limb (a) 2 : Nat), .int .u64 (limb (a) 3 : Nat)], .agg #[.int .u64 (limb (T) 0 : Nat), .int .u64 (limb (T) 1 : Nat), .int .u64 (limb (T) 2 : Nat), .int .u64 (limb (T) 3 : Nat)]] w fun e w' => e = .returned (.agg #[.int .u64 (limb (sl) 0 : Nat), .int .u64 (limb (sl) 1 : Nat), .int .u64 (limb (sl) 2 : Nat), .int .u64 (limb (sl) 3 : Nat)]) ∧ Below w.heap.size w w') := fun w h => by have k := ptimes_any g a T la lT w h; rw [← hsl] at k; exact k
 have K3 : Hid (∀ w, FieldB w g PP → Calls Tryd.prog 62 #[.agg #[.pointer (some ⟨g, 0, none⟩)], .agg #[.int .u64 (limb (y) 0 : Nat), .int .u64 (limb (y) 1 : Nat), .int .u64 (limb (y) 2 : Nat), .int .u64 (limb (y) 3 : Nat)], .agg #[.int .u64 (limb (y) 0 : Nat), .int .u64 (limb (y) 1 : Nat), .int .u64 (limb (y) 2 : Nat), .int .u64 (limb (y) 3 : Nat)]] w fun e w' => e = .returned (.agg #[.int .u64 (limb (sq) 0 : Nat), .int .u64 (limb (sq) 1 : Nat), .int .u64 (limb (sq) 2 : Nat), .int .u64 (limb (sq) 3 : Nat)]) ∧ Below w.heap.size w w') := fun w h => by have k := ptimes_any g y y hy hy w h; rw [← hsq] at k; exact k
 have K4 : Hid (∀ w, FieldB w g PP → Calls Tryd.prog 62 #[.agg #[.pointer (some ⟨g, 0, none⟩)], .agg #[.int .u64 (limb (x) 0 : Nat), .int .u64 (limb (x) 1 : Nat), .int .u64 (limb (x) 2 : Nat), .int .u64 (limb (x) 3 : Nat)], .agg #[.int .u64 (limb (sq) 0 : Nat), .int .u64 (limb (sq) 1 : Nat), .int .u64 (limb (sq) 2 : Nat), .int .u64 (limb (sq) 3 : Nat)]] w fun e w' => e = .returned (.agg #[.int .u64 (limb (mid) 0 : Nat), .int .u64 (limb (mid) 1 : Nat), .int .u64 (limb (mid) 2 : Nat), .int .u64 (limb (mid) 3 : Nat)]) ∧ Below w.heap.size w w') := fun w h => by have k := ptimes_any g x sq hx lsq w h; rw [← hmid] at k; exact k
 have K5 : Hid (∀ w, FieldB w g PP → Calls Tryd.prog 62 #[.agg #[.pointer (some ⟨g, 0, none⟩)], .agg #[.int .u64 (limb (y) 0 : Nat), .int .u64 (limb (y) 1 : Nat), .int .u64 (limb (y) 2 : Nat), .int .u64 (limb (y) 3 : Nat)], .agg #[.int .u64 (limb (z) 0 : Nat), .int .u64 (limb (z) 1 : Nat), .int .u64 (limb (z) 2 : Nat), .int .u64 (limb (z) 3 : Nat)]] w fun e w' => e = .returned (.agg #[.int .u64 (limb (Z) 0 : Nat), .int .u64 (limb (Z) 1 : Nat), .int .u64 (limb (Z) 2 : Nat), .int .u64 (limb (Z) 3 : Nat)]) ∧ Below w.heap.size w w') := fun w h => by have k := ptimes_any g y z hy hz w h; rw [← eZ] at k; exact k
 have K6 : Hid (∀ w, FieldB w g PP → Calls Tryd.prog 62 #[.agg #[.pointer (some ⟨g, 0, none⟩)], .agg #[.int .u64 (limb (sl) 0 : Nat), .int .u64 (limb (sl) 1 : Nat), .int .u64 (limb (sl) 2 : Nat), .int .u64 (limb (sl) 3 : Nat)], .agg #[.int .u64 (limb (sl) 0 : Nat), .int .u64 (limb (sl) 1 : Nat), .int .u64 (limb (sl) 2 : Nat), .int .u64 (limb (sl) 3 : Nat)]] w fun e w' => e = .returned (.agg #[.int .u64 (limb (b) 0 : Nat), .int .u64 (limb (b) 1 : Nat), .int .u64 (limb (b) 2 : Nat), .int .u64 (limb (b) 3 : Nat)]) ∧ Below w.heap.size w w') := fun w h => by have k := ptimes_any g sl sl lsl lsl w h; rw [← eb] at k; exact k
 have K7 : Hid (∀ w, FieldB w g PP → Calls Tryd.prog 66 #[.agg #[.pointer (some ⟨g, 0, none⟩)], .agg #[.int .u64 (limb (mid) 0 : Nat), .int .u64 (limb (mid) 1 : Nat), .int .u64 (limb (mid) 2 : Nat), .int .u64 (limb (mid) 3 : Nat)], .agg #[.int .u64 (limb (mid) 0 : Nat), .int .u64 (limb (mid) 1 : Nat), .int .u64 (limb (mid) 2 : Nat), .int .u64 (limb (mid) 3 : Nat)]] w fun e w' => e = .returned (.agg #[.int .u64 (limb (c) 0 : Nat), .int .u64 (limb (c) 1 : Nat), .int .u64 (limb (c) 2 : Nat), .int .u64 (limb (c) 3 : Nat)]) ∧ Below w.heap.size w w') := fun w h => by have k := pplus_any g mid mid lmid lmid w h; rw [← ec] at k; exact k
 have K8 : Hid (∀ w, FieldB w g PP → Calls Tryd.prog 64 #[.agg #[.pointer (some ⟨g, 0, none⟩)], .agg #[.int .u64 (limb (b) 0 : Nat), .int .u64 (limb (b) 1 : Nat), .int .u64 (limb (b) 2 : Nat), .int .u64 (limb (b) 3 : Nat)], .agg #[.int .u64 (limb (c) 0 : Nat), .int .u64 (limb (c) 1 : Nat), .int .u64 (limb (c) 2 : Nat), .int .u64 (limb (c) 3 : Nat)]] w fun e w' => e = .returned (.agg #[.int .u64 (limb (X) 0 : Nat), .int .u64 (limb (X) 1 : Nat), .int .u64 (limb (X) 2 : Nat), .int .u64 (limb (X) 3 : Nat)]) ∧ Below w.heap.size w w') := fun w h => by have k := pminus_any g b c lb lc w h; rw [← hX] at k; exact k
 have K9 : Hid (∀ w, FieldB w g PP → Calls Tryd.prog 64 #[.agg #[.pointer (some ⟨g, 0, none⟩)], .agg #[.int .u64 (limb (mid) 0 : Nat), .int .u64 (limb (mid) 1 : Nat), .int .u64 (limb (mid) 2 : Nat), .int .u64 (limb (mid) 3 : Nat)], .agg #[.int .u64 (limb (X) 0 : Nat), .int .u64 (limb (X) 1 : Nat), .int .u64 (limb (X) 2 : Nat), .int .u64 (limb (X) 3 : Nat)]] w fun e w' => e = .returned (.agg #[.int .u64 (limb (d) 0 : Nat), .int .u64 (limb (d) 1 : Nat), .int .u64 (limb (d) 2 : Nat), .int .u64 (limb (d) 3 : Nat)]) ∧ Below w.heap.size w w') := fun w h => by have k := pminus_any g mid X lmid lX w h; rw [← ed] at k; exact k
 have K10 : Hid (∀ w, FieldB w g PP → Calls Tryd.prog 62 #[.agg #[.pointer (some ⟨g, 0, none⟩)], .agg #[.int .u64 (limb (sl) 0 : Nat), .int .u64 (limb (sl) 1 : Nat), .int .u64 (limb (sl) 2 : Nat), .int .u64 (limb (sl) 3 : Nat)], .agg #[.int .u64 (limb (d) 0 : Nat), .int .u64 (limb (d) 1 : Nat), .int .u64 (limb (d) 2 : Nat), .int .u64 (limb (d) 3 : Nat)]] w fun e w' => e = .returned (.agg #[.int .u64 (limb (E) 0 : Nat), .int .u64 (limb (E) 1 : Nat), .int .u64 (limb (E) 2 : Nat), .int .u64 (limb (E) 3 : Nat)]) ∧ Below w.heap.size w w') := fun w h => by have k := ptimes_any g sl d lsl ld w h; rw [← eE] at k; exact k
 have K11 : Hid (∀ w, FieldB w g PP → Calls Tryd.prog 62 #[.agg #[.pointer (some ⟨g, 0, none⟩)], .agg #[.int .u64 (limb (sq) 0 : Nat), .int .u64 (limb (sq) 1 : Nat), .int .u64 (limb (sq) 2 : Nat), .int .u64 (limb (sq) 3 : Nat)], .agg #[.int .u64 (limb (sq) 0 : Nat), .int .u64 (limb (sq) 1 : Nat), .int .u64 (limb (sq) 2 : Nat), .int .u64 (limb (sq) 3 : Nat)]] w fun e w' => e = .returned (.agg #[.int .u64 (limb (f) 0 : Nat), .int .u64 (limb (f) 1 : Nat), .int .u64 (limb (f) 2 : Nat), .int .u64 (limb (f) 3 : Nat)]) ∧ Below w.heap.size w w') := fun w h => by have k := ptimes_any g sq sq lsq lsq w h; rw [← ef] at k; exact k
 have K12 : Hid (∀ w, FieldB w g PP → Calls Tryd.prog 64 #[.agg #[.pointer (some ⟨g, 0, none⟩)], .agg #[.int .u64 (limb (E) 0 : Nat), .int .u64 (limb (E) 1 : Nat), .int .u64 (limb (E) 2 : Nat), .int .u64 (limb (E) 3 : Nat)], .agg #[.int .u64 (limb (f) 0 : Nat), .int .u64 (limb (f) 1 : Nat), .int .u64 (limb (f) 2 : Nat), .int .u64 (limb (f) 3 : Nat)]] w fun e w' => e = .returned (.agg #[.int .u64 (limb (Y) 0 : Nat), .int .u64 (limb (Y) 1 : Nat), .int .u64 (limb (Y) 2 : Nat), .int .u64 (limb (Y) 3 : Nat)]) ∧ Below w.heap.size w w') := fun w h => by have k := pminus_any g E f lE lf w h; rw [← eY] at k; exact k
 have e0 : eq4 (limb z 0 : Nat) (limb z 1 : Nat) (limb z 2 : Nat) (limb z 3 : Nat) 0 0 0 0 = false := by
  rw [eq4_zeroC z (Nat.lt_trans hz FM_P.2.1)]; exact decide_eq_false h0
 have H0 : Hid (FieldB w g PP ∧ SpotB w s g x y z ∧ (Num4 w 3 T ∧ 3 < w.heap.size) ∧ s ≠ g ∧ s < w.heap.size) := ⟨hM, hS, by rw [eT]; exact hT, hg, hS.lt⟩
 clear hS hM hT hg hx hy hz h0 hsl hsq hmid hX lsl lsq lmid lX ea la eZ lZ eb lb ec lc ed ld eE lE ef lf eY lY eT lT
 obtain ⟨sz, sg, sx0, sx1, sx2, sx3, sy0, sy1, sy2, sy3, sz0, sz1, sz2, sz3, sf⟩ := H0.out.2.1
 go_enter Tryd.func49, Tryd.ntmps49
 go_upto_region 1 with fail
 clear sz sg sx0 sx1 sx2 sx3 sy0 sy1 sy2 sy3 sz0 sz1 sz2 sz3 sf e0
 go_cut [2] (fun v2 wx => ∃ b2, v2 = .pointer (some ⟨b2, 0, none⟩) ∧ w.heap.size ≤ b2 ∧ Own4 wx b2 sl ∧ Below w.heap.size w wx)
 case first =>
  refine wp_region_N (fun w' => Below w.heap.size w w') 20 21 rfl (by kernel_rfl) ?_
  refine wpAnyN_take (i := 0) (oi := ?o0a) (v := ?v0a) ?hi0a (by kernel_rfl) (by kernel_rfl) (by kernel_rfl) (by kernel_rfl) (by decide) (by kernel_rfl) ?hQ0a ?hy0a (Below.drew (Below.refl _ _)) ?more0a
  case hi0a => rw [List.getElem?_toArray]; exact rfl
  case hQ0a => exact fun _ _ _ h => h
  case hy0a =>
   refine Or.inl ⟨by rfl, ?_⟩
   intro w' hSw
   obtain ⟨sz, sg, sx0, sx1, sx2, sx3, sy0, sy1, sy2, sy3, sz0, sz1, sz2, sz3, sf⟩ := H0.out.2.1.call hSw
   obtain ⟨t0, t1, t2, t3⟩ := Num4.facts (fun j hj => (hSw.cell (p := ⟨3, j, none⟩) H0.out.2.2.1.2).trans (H0.out.2.2.1.1 j hj) : Num4 _ 3 T)
   have tz : 3 < _ := Nat.lt_of_lt_of_le H0.out.2.2.1.2 hSw.size
   clear hSw
   go_simp
   try with_reducible rfl
  simp only [Act.put, List.setIfInBounds_toArray, List.set_cons_zero, List.set_cons_succ]
  refine wpAnyN_take (i := 1) (oi := ?o1a) (v := ?v1a) ?hi1a (by kernel_rfl) (by kernel_rfl) (by kernel_rfl) (by kernel_rfl) (by decide) (by kernel_rfl) ?hQ1a ?hy1a (Below.drew (Below.refl _ _)) ?more1a
  case hi1a => rw [List.getElem?_toArray]; exact rfl
  case hQ1a => exact fun _ _ _ h => h
  case hy1a =>
   refine Or.inl ⟨by rfl, ?_⟩
   intro w' hSw
   obtain ⟨sz, sg, sx0, sx1, sx2, sx3, sy0, sy1, sy2, sy3, sz0, sz1, sz2, sz3, sf⟩ := H0.out.2.1.call hSw
   obtain ⟨t0, t1, t2, t3⟩ := Num4.facts (fun j hj => (hSw.cell (p := ⟨3, j, none⟩) H0.out.2.2.1.2).trans (H0.out.2.2.1.1 j hj) : Num4 _ 3 T)
   have tz : 3 < _ := Nat.lt_of_lt_of_le H0.out.2.2.1.2 hSw.size
   clear hSw
   go_simp
   try with_reducible rfl
  simp only [Act.put, List.setIfInBounds_toArray, List.set_cons_zero, List.set_cons_succ]
  refine wpAnyN_take (i := 2) (oi := ?o2a) (v := ?v2a) ?hi2a (by kernel_rfl) (by kernel_rfl) (by kernel_rfl) (by kernel_rfl) (by decide) (by kernel_rfl) ?hQ2a ?hy2a (Below.drew (Below.refl _ _)) ?more2a
  case hi2a => rw [List.getElem?_toArray]; exact rfl
  case hQ2a => exact fun _ _ _ h => h
  case hy2a =>
   refine Or.inl ⟨by rfl, ?_⟩
   intro w' hSw
   obtain ⟨sz, sg, sx0, sx1, sx2, sx3, sy0, sy1, sy2, sy3, sz0, sz1, sz2, sz3, sf⟩ := H0.out.2.1.call hSw
   obtain ⟨t0, t1, t2, t3⟩ := Num4.facts (fun j hj => (hSw.cell (p := ⟨3, j, none⟩) H0.out.2.2.1.2).trans (H0.out.2.2.1.1 j hj) : Num4 _ 3 T)
   have tz : 3 < _ := Nat.lt_of_lt_of_le H0.out.2.2.1.2 hSw.size
   clear hSw
   go_simp
   try with_reducible rfl
  simp only [Act.put, List.setIfInBounds_toArray, List.set_cons_zero, List.set_cons_succ]
  refine wpAnyN_take (i := 3) (oi := ?o3a) (v := ?v3a) ?hi3a (by kernel_rfl) (by kernel_rfl) (by kernel_rfl) (by kernel_rfl) (by decide) (by kernel_rfl) ?hQ3a ?hy3a (Below.drew (Below.refl _ _)) ?more3a
  case hi3a => rw [List.getElem?_toArray]; exact rfl
  case hQ3a => exact fun _ _ _ h => h
  case hy3a =>
   refine Or.inl ⟨by rfl, ?_⟩
   intro w' hSw
   obtain ⟨sz, sg, sx0, sx1, sx2, sx3, sy0, sy1, sy2, sy3, sz0, sz1, sz2, sz3, sf⟩ := H0.out.2.1.call hSw
   obtain ⟨t0, t1, t2, t3⟩ := Num4.facts (fun j hj => (hSw.cell (p := ⟨3, j, none⟩) H0.out.2.2.1.2).trans (H0.out.2.2.1.1 j hj) : Num4 _ 3 T)
   have tz : 3 < _ := Nat.lt_of_lt_of_le H0.out.2.2.1.2 hSw.size
   clear hSw
   go_simp
   try with_reducible rfl
  simp only [Act.put, List.setIfInBounds_toArray, List.set_cons_zero, List.set_cons_succ]
  refine wpAnyN_take (i := 4) (oi := ?o4a) (v := ?v4a) ?hi4a (by kernel_rfl) (by kernel_rfl) (by kernel_rfl) (by kernel_rfl) (by decide) (by kernel_rfl) ?hQ4a ?hy4a (Below.drew (Below.refl _ _)) ?more4a
  case hi4a => rw [List.getElem?_toArray]; exact rfl
  case hQ4a => exact fun _ _ _ h => h
  case hy4a =>
   refine Or.inl ⟨by rfl, ?_⟩
   intro w' hSw
   obtain ⟨sz, sg, sx0, sx1, sx2, sx3, sy0, sy1, sy2, sy3, sz0, sz1, sz2, sz3, sf⟩ := H0.out.2.1.call hSw
   obtain ⟨t0, t1, t2, t3⟩ := Num4.facts (fun j hj => (hSw.cell (p := ⟨3, j, none⟩) H0.out.2.2.1.2).trans (H0.out.2.2.1.1 j hj) : Num4 _ 3 T)
   have tz : 3 < _ := Nat.lt_of_lt_of_le H0.out.2.2.1.2 hSw.size
   clear hSw
   go_simp
   try with_reducible rfl
  simp only [Act.put, List.setIfInBounds_toArray, List.set_cons_zero, List.set_cons_succ]
  refine wpAnyN_take (i := 5) (oi := ?o5a) (v := ?v5a) ?hi5a (by kernel_rfl) (by kernel_rfl) (by kernel_rfl) (by kernel_rfl) (by decide) (by kernel_rfl) ?hQ5a ?hy5a (Below.drew (Below.refl _ _)) ?more5a
  case hi5a => rw [List.getElem?_toArray]; exact rfl
  case hQ5a => exact fun _ _ _ h => h
  case hy5a =>
   refine Or.inl ⟨by rfl, ?_⟩
   intro w' hSw
   obtain ⟨sz, sg, sx0, sx1, sx2, sx3, sy0, sy1, sy2, sy3, sz0, sz1, sz2, sz3, sf⟩ := H0.out.2.1.call hSw
   obtain ⟨t0, t1, t2, t3⟩ := Num4.facts (fun j hj => (hSw.cell (p := ⟨3, j, none⟩) H0.out.2.2.1.2).trans (H0.out.2.2.1.1 j hj) : Num4 _ 3 T)
   have tz : 3 < _ := Nat.lt_of_lt_of_le H0.out.2.2.1.2 hSw.size
   clear hSw
   go_simp
   try with_reducible rfl
  simp only [Act.put, List.setIfInBounds_toArray, List.set_cons_zero, List.set_cons_succ]
  refine wpAnyN_take (i := 6) (oi := ?o6a) (v := ?v6a) ?hi6a (by kernel_rfl) (by kernel_rfl) (by kernel_rfl) (by kernel_rfl) (by decide) (by kernel_rfl) ?hQ6a ?hy6a (Below.drew (Below.refl _ _)) ?more6a
  case hi6a => rw [List.getElem?_toArray]; exact rfl
  case hQ6a => exact fun _ _ _ h => h
  case hy6a =>
   refine Or.inl ⟨by rfl, ?_⟩
   intro w' hSw
   obtain ⟨sz, sg, sx0, sx1, sx2, sx3, sy0, sy1, sy2, sy3, sz0, sz1, sz2, sz3, sf⟩ := H0.out.2.1.call hSw
   obtain ⟨t0, t1, t2, t3⟩ := Num4.facts (fun j hj => (hSw.cell (p := ⟨3, j, none⟩) H0.out.2.2.1.2).trans (H0.out.2.2.1.1 j hj) : Num4 _ 3 T)
   have tz : 3 < _ := Nat.lt_of_lt_of_le H0.out.2.2.1.2 hSw.size
   clear hSw
   go_simp
   try with_reducible rfl
  simp only [Act.put, List.setIfInBounds_toArray, List.set_cons_zero, List.set_cons_succ]
  refine wpAnyN_take (i := 7) (oi := ?o7a) (v := ?v7a) ?hi7a (by kernel_rfl) (by kernel_rfl) (by kernel_rfl) (by kernel_rfl) (by decide) (by kernel_rfl) ?hQ7a ?hy7a (Below.drew (Below.refl _ _)) ?more7a
  case hi7a => rw [List.getElem?_toArray]; exact rfl
  case hQ7a => exact fun _ _ _ h => h
  case hy7a =>
   refine Or.inl ⟨by rfl, ?_⟩
   intro w' hSw
   obtain ⟨sz, sg, sx0, sx1, sx2, sx3, sy0, sy1, sy2, sy3, sz0, sz1, sz2, sz3, sf⟩ := H0.out.2.1.call hSw
   obtain ⟨t0, t1, t2, t3⟩ := Num4.facts (fun j hj => (hSw.cell (p := ⟨3, j, none⟩) H0.out.2.2.1.2).trans (H0.out.2.2.1.1 j hj) : Num4 _ 3 T)
   have tz : 3 < _ := Nat.lt_of_lt_of_le H0.out.2.2.1.2 hSw.size
   clear hSw
   go_simp
   try with_reducible rfl
  simp only [Act.put, List.setIfInBounds_toArray, List.set_cons_zero, List.set_cons_succ]
  refine wpAnyN_take (i := 8) (oi := ?o8a) (v := ?v8a) ?hi8a (by kernel_rfl) (by kernel_rfl) (by kernel_rfl) (by kernel_rfl) (by decide) (by kernel_rfl) ?hQ8a ?hy8a (Below.drew (Below.refl _ _)) ?more8a
  case hi8a => rw [List.getElem?_toArray]; exact rfl
  case hQ8a => exact fun _ _ _ h => h
  case hy8a =>
   refine Or.inl ⟨by rfl, ?_⟩
   intro w' hSw
   obtain ⟨sz, sg, sx0, sx1, sx2, sx3, sy0, sy1, sy2, sy3, sz0, sz1, sz2, sz3, sf⟩ := H0.out.2.1.call hSw
   obtain ⟨t0, t1, t2, t3⟩ := Num4.facts (fun j hj => (hSw.cell (p := ⟨3, j, none⟩) H0.out.2.2.1.2).trans (H0.out.2.2.1.1 j hj) : Num4 _ 3 T)
   have tz : 3 < _ := Nat.lt_of_lt_of_le H0.out.2.2.1.2 hSw.size
   clear hSw
   go_simp
   try with_reducible rfl
  simp only [Act.put, List.setIfInBounds_toArray, List.set_cons_zero, List.set_cons_succ]
  refine wpAnyN_take (i := 9) (oi := ?o9a) (v := ?v9a) ?hi9a (by kernel_rfl) (by kernel_rfl) (by kernel_rfl) (by kernel_rfl) (by decide) (by kernel_rfl) ?hQ9a ?hy9a (Below.drew (Below.refl _ _)) ?more9a
  case hi9a => rw [List.getElem?_toArray]; exact rfl
  case hQ9a => exact fun _ _ _ h => h
  case hy9a =>
   refine Or.inl ⟨by rfl, ?_⟩
   intro w' hSw
   obtain ⟨sz, sg, sx0, sx1, sx2, sx3, sy0, sy1, sy2, sy3, sz0, sz1, sz2, sz3, sf⟩ := H0.out.2.1.call hSw
   obtain ⟨t0, t1, t2, t3⟩ := Num4.facts (fun j hj => (hSw.cell (p := ⟨3, j, none⟩) H0.out.2.2.1.2).trans (H0.out.2.2.1.1 j hj) : Num4 _ 3 T)
   have tz : 3 < _ := Nat.lt_of_lt_of_le H0.out.2.2.1.2 hSw.size
   clear hSw
   go_simp
   try with_reducible rfl
  simp only [Act.put, List.setIfInBounds_toArray, List.set_cons_zero, List.set_cons_succ]
  refine wpAnyN_take (i := 10) (oi := ?o10a) (v := ?v10a) ?hi10a (by kernel_rfl) (by kernel_rfl) (by kernel_rfl) (by kernel_rfl) (by decide) (by kernel_rfl) ?hQ10a ?hy10a (Below.drew (Below.refl _ _)) ?more10a
  case hi10a => rw [List.getElem?_toArray]; exact rfl
  case hQ10a => exact fun _ _ _ h => h
  case hy10a =>
   refine Or.inl ⟨by rfl, ?_⟩
   intro w' hSw
   obtain ⟨sz, sg, sx0, sx1, sx2, sx3, sy0, sy1, sy2, sy3, sz0, sz1, sz2, sz3, sf⟩ := H0.out.2.1.call hSw
   obtain ⟨t0, t1, t2, t3⟩ := Num4.facts (fun j hj => (hSw.cell (p := ⟨3, j, none⟩) H0.out.2.2.1.2).trans (H0.out.2.2.1.1 j hj) : Num4 _ 3 T)
   have tz : 3 < _ := Nat.lt_of_lt_of_le H0.out.2.2.1.2 hSw.size
   clear hSw
   go_simp
   try with_reducible rfl
  simp only [Act.put, List.setIfInBounds_toArray, List.set_cons_zero, List.set_cons_succ]
  refine wpAnyN_take (i := 11) (oi := ?o11a) (v := ?v11a) ?hi11a (by kernel_rfl) (by kernel_rfl) (by kernel_rfl) (by kernel_rfl) (by decide) (by kernel_rfl) ?hQ11a ?hy11a (Below.drew (Below.refl _ _)) ?more11a
  case hi11a => rw [List.getElem?_toArray]; exact rfl
  case hQ11a => exact fun _ _ _ h => h
  case hy11a =>
   refine Or.inl ⟨by rfl, ?_⟩
   intro w' hSw
   obtain ⟨sz, sg, sx0, sx1, sx2, sx3, sy0, sy1, sy2, sy3, sz0, sz1, sz2, sz3, sf⟩ := H0.out.2.1.call hSw
   obtain ⟨t0, t1, t2, t3⟩ := Num4.facts (fun j hj => (hSw.cell (p := ⟨3, j, none⟩) H0.out.2.2.1.2).trans (H0.out.2.2.1.1 j hj) : Num4 _ 3 T)
   have tz : 3 < _ := Nat.lt_of_lt_of_le H0.out.2.2.1.2 hSw.size
   clear hSw
   go_simp
   try with_reducible rfl
  simp only [Act.put, List.setIfInBounds_toArray, List.set_cons_zero, List.set_cons_succ]
  refine wpAnyN_take (i := 12) (oi := ?o12a) (v := ?v12a) ?hi12a (by kernel_rfl) (by kernel_rfl) (by kernel_rfl) (by kernel_rfl) (by decide) (by kernel_rfl) ?hQ12a ?hy12a (Below.drew (Below.refl _ _)) ?more12a
  case hi12a => rw [List.getElem?_toArray]; exact rfl
  case hQ12a => exact fun _ _ _ h => h
  case hy12a =>
   refine Or.inl ⟨by rfl, ?_⟩
   intro w' hSw
   obtain ⟨sz, sg, sx0, sx1, sx2, sx3, sy0, sy1, sy2, sy3, sz0, sz1, sz2, sz3, sf⟩ := H0.out.2.1.call hSw
   obtain ⟨t0, t1, t2, t3⟩ := Num4.facts (fun j hj => (hSw.cell (p := ⟨3, j, none⟩) H0.out.2.2.1.2).trans (H0.out.2.2.1.1 j hj) : Num4 _ 3 T)
   have tz : 3 < _ := Nat.lt_of_lt_of_le H0.out.2.2.1.2 hSw.size
   clear hSw
   go_simp
   try with_reducible rfl
  simp only [Act.put, List.setIfInBounds_toArray, List.set_cons_zero, List.set_cons_succ]
  refine wpAnyN_take (i := 13) (oi := ?o13a) (v := ?v13a) ?hi13a (by kernel_rfl) (by kernel_rfl) (by kernel_rfl) (by kernel_rfl) (by decide) (by kernel_rfl) ?hQ13a ?hy13a (Below.drew (Below.refl _ _)) ?more13a
  case hi13a => rw [List.getElem?_toArray]; exact rfl
  case hQ13a => exact fun _ _ _ h => h
  case hy13a =>
   refine Or.inl ⟨by rfl, ?_⟩
   intro w' hSw
   obtain ⟨sz, sg, sx0, sx1, sx2, sx3, sy0, sy1, sy2, sy3, sz0, sz1, sz2, sz3, sf⟩ := H0.out.2.1.call hSw
   obtain ⟨t0, t1, t2, t3⟩ := Num4.facts (fun j hj => (hSw.cell (p := ⟨3, j, none⟩) H0.out.2.2.1.2).trans (H0.out.2.2.1.1 j hj) : Num4 _ 3 T)
   have tz : 3 < _ := Nat.lt_of_lt_of_le H0.out.2.2.1.2 hSw.size
   clear hSw
   go_simp
   try with_reducible rfl
  simp only [Act.put, List.setIfInBounds_toArray, List.set_cons_zero, List.set_cons_succ]
  refine wpAnyN_take (i := 14) (oi := ?o14a) (v := ?v14a) ?hi14a (by kernel_rfl) (by kernel_rfl) (by kernel_rfl) (by kernel_rfl) (by decide) (by kernel_rfl) ?hQ14a ?hy14a (Below.drew (Below.refl _ _)) ?more14a
  case hi14a => rw [List.getElem?_toArray]; exact rfl
  case hQ14a => exact fun _ _ _ h => h
  case hy14a =>
   refine Or.inl ⟨by rfl, ?_⟩
   intro w' hSw
   obtain ⟨sz, sg, sx0, sx1, sx2, sx3, sy0, sy1, sy2, sy3, sz0, sz1, sz2, sz3, sf⟩ := H0.out.2.1.call hSw
   obtain ⟨t0, t1, t2, t3⟩ := Num4.facts (fun j hj => (hSw.cell (p := ⟨3, j, none⟩) H0.out.2.2.1.2).trans (H0.out.2.2.1.1 j hj) : Num4 _ 3 T)
   have tz : 3 < _ := Nat.lt_of_lt_of_le H0.out.2.2.1.2 hSw.size
   clear hSw
   go_simp
   try with_reducible rfl
  simp only [Act.put, List.setIfInBounds_toArray, List.set_cons_zero, List.set_cons_succ]
  refine wpAnyN_take (i := 15) (oi := ?o15a) (v := ?v15a) ?hi15a (by kernel_rfl) (by kernel_rfl) (by kernel_rfl) (by kernel_rfl) (by decide) (by kernel_rfl) ?hQ15a ?hy15a (Below.drew (Below.refl _ _)) ?more15a
  case hi15a => rw [List.getElem?_toArray]; exact rfl
  case hQ15a => exact fun _ _ _ h => h
  case hy15a =>
   refine Or.inl ⟨by rfl, ?_⟩
   intro w' hSw
   obtain ⟨sz, sg, sx0, sx1, sx2, sx3, sy0, sy1, sy2, sy3, sz0, sz1, sz2, sz3, sf⟩ := H0.out.2.1.call hSw
   obtain ⟨t0, t1, t2, t3⟩ := Num4.facts (fun j hj => (hSw.cell (p := ⟨3, j, none⟩) H0.out.2.2.1.2).trans (H0.out.2.2.1.1 j hj) : Num4 _ 3 T)
   have tz : 3 < _ := Nat.lt_of_lt_of_le H0.out.2.2.1.2 hSw.size
   clear hSw
   go_simp
   try with_reducible rfl
  simp only [Act.put, List.setIfInBounds_toArray, List.set_cons_zero, List.set_cons_succ]
  refine wpAnyN_take (i := 17) (oi := ?o17a) (v := ?v17a) ?hi17a (by kernel_rfl) (by kernel_rfl) (by kernel_rfl) (by kernel_rfl) (by decide) (by kernel_rfl) ?hQ17a ?hy17a (Below.drew (Below.refl _ _)) ?more17a
  case hi17a => rw [List.getElem?_toArray]; exact rfl
  case hQ17a => exact fun _ _ _ h => h
  case hy17a =>
   refine Or.inl ⟨by rfl, ?_⟩
   intro w' hSw
   obtain ⟨sz, sg, sx0, sx1, sx2, sx3, sy0, sy1, sy2, sy3, sz0, sz1, sz2, sz3, sf⟩ := H0.out.2.1.call hSw
   obtain ⟨t0, t1, t2, t3⟩ := Num4.facts (fun j hj => (hSw.cell (p := ⟨3, j, none⟩) H0.out.2.2.1.2).trans (H0.out.2.2.1.1 j hj) : Num4 _ 3 T)
   have tz : 3 < _ := Nat.lt_of_lt_of_le H0.out.2.2.1.2 hSw.size
   clear hSw
   go_simp
   try with_reducible rfl
  simp only [Act.put, List.setIfInBounds_toArray, List.set_cons_zero, List.set_cons_succ]
  refine wpAnyN_two (i := 16) (j := 19) (o := ?o16ax1) (p := ?o19ax1) (by kernel_rfl) ?hi16ax1 ?hi19ax1 ?hw16ax1 ?hw19ax1 ?st16ax1 ?st19ax1
  case hi16ax1 => rw [List.getElem?_toArray]; exact rfl
  case hw16ax1 => exact rfl
  case hi19ax1 => rw [List.getElem?_toArray]; exact rfl
  case hw19ax1 => exact rfl
  case st16ax1 =>
   intro K hK
   have HK16ay2 : Hid _ := hK
   clear hK
   go_simp
   refine (K1.out _ (H0.out.1.call (Below.drew (Below.refl _ _)))).mono ?_
   rintro e w16ay2 ⟨rfl, hq⟩
   have H16ay2 : Hid (Below w.heap.size w w16ay2) := below_call0 (Below.drew (Below.refl _ _)) hq
   clear hq
   go_wp2_with fail
   refine HK16ay2.out _ _ ⟨fun _ => H16ay2.out, ?_⟩
   clear HK16ay2 K
   try simp only [Act.put, List.setIfInBounds_toArray, List.set_cons_zero, List.set_cons_succ]
   refine wpAnyN_two (i := 18) (j := 19) (o := ?o18ay2x3) (p := ?o19ay2x3) (by kernel_rfl) ?hi18ay2x3 ?hi19ay2x3 ?hw18ay2x3 ?hw19ay2x3 ?st18ay2x3 ?st19ay2x3
   case hi18ay2x3 => rw [List.getElem?_toArray]; exact rfl
   case hw18ay2x3 => exact rfl
   case hi19ay2x3 => rw [List.getElem?_toArray]; exact rfl
   case hw19ay2x3 => exact rfl
   case st18ay2x3 =>
    intro K hK
    have HK18ay4 : Hid _ := hK
    clear hK
    go_simp
    refine (K2.out _ (H0.out.1.call H16ay2.out)).mono ?_
    rintro e w18ay4 ⟨rfl, hq⟩
    have H18ay4 : Hid (Below w.heap.size w w18ay4) := below_call0 H16ay2.out hq
    clear hq
    go_wp2_with fail
    refine HK18ay4.out _ _ ⟨fun _ => H18ay4.out, ?_⟩
    clear HK18ay4 K
    try simp only [Act.put, List.setIfInBounds_toArray, List.set_cons_zero, List.set_cons_succ]
    refine wpAnyN_one (i := 19) (o := ?o19ay4) (by kernel_rfl) ?hi19ay4 ?hw19ay4 ?st19ay4
    case hi19ay4 => rw [List.getElem?_toArray]; exact rfl
    case hw19ay4 => exact rfl
    intro K hK
    have HK19ay4 : Hid _ := hK
    clear hK
    go_simp
    refine HK19ay4.out _ _ ⟨fun _ => (below_alloc0 H18ay4.out _), ?_⟩
    clear HK19ay4 K
    try simp only [Act.put, List.setIfInBounds_toArray, List.set_cons_zero, List.set_cons_succ]
    refine wpAnyN_one (i := 20) (o := ?o20ay4) (by kernel_rfl) ?hi20ay4 ?hw20ay4 ?st20ay4
    case hi20ay4 => rw [List.getElem?_toArray]; exact rfl
    case hw20ay4 => exact rfl
    intro K hK
    have HK20ay4 : Hid _ := hK
    clear hK
    obtain ⟨⟨o0, o1, o2, o3⟩, ⟨f0, f1, f2, f3⟩, oz⟩ := Pend.facts (Pend.newC (W := w18ay4) (t := 24) rfl)
    try simp only [World.size_alloc] at o0 o1 o2 o3 f0 f1 f2 f3 oz
    go_simp
    refine HK20ay4.out _ _ ⟨fun h => absurd h (by decide +kernel), ?_⟩
    clear HK20ay4 K
    try simp only [Act.put, List.setIfInBounds_toArray, List.set_cons_zero, List.set_cons_succ]
    refine wpAnyN_done (by kernel_rfl) ?_ _
    obtain ⟨wSay4, hwS⟩ : ∃ y, y = w18ay4.alloc (.cells #[.int .u64 (limb sl 0 : Nat), .int .u64 (limb sl 1 : Nat), .int .u64 (limb sl 2 : Nat), .int .u64 (limb sl 3 : Nat)] 24) := ⟨_, rfl⟩
    have HSay4 : Hid (Own4 wSay4 (w18ay4.heap.size) sl ∧ Below w.heap.size w wSay4) := by rw [hwS]; exact ⟨Own4.new' rfl, below_alloc0 H18ay4.out _⟩
    rw [← hwS]
    clear hwS o0 o1 o2 o3 f0 f1 f2 f3 oz
    go_wp2_with fail
    go_meet
    exact ⟨_, rfl, (Below.size H18ay4.out), HSay4.out.1, HSay4.out.2⟩
   case st19ay2x3 =>
    intro K hK
    have HK19ay5 : Hid _ := hK
    clear hK
    go_simp
    refine HK19ay5.out _ _ ⟨fun _ => (below_alloc0 H16ay2.out _), ?_⟩
    clear HK19ay5 K
    try simp only [Act.put, List.setIfInBounds_toArray, List.set_cons_zero, List.set_cons_succ]
    refine wpAnyN_one (i := 18) (o := ?o18ay5) (by kernel_rfl) ?hi18ay5 ?hw18ay5 ?st18ay5
    case hi18ay5 => rw [List.getElem?_toArray]; exact rfl
    case hw18ay5 => exact rfl
    intro K hK
    have HK18ay5 : Hid _ := hK
    clear hK
    go_simp
    refine (K2.out _ (H0.out.1.call (below_alloc0 H16ay2.out _))).mono ?_
    rintro e w18ay5 ⟨rfl, hq⟩
    have H18ay5 : Hid (Below w.heap.size w w18ay5) := below_call0 (below_alloc0 H16ay2.out _) hq
    have P18ay5 : Hid (Pend w18ay5 (w16ay2.heap.size)) := Pend.call (Pend.newC (W := w16ay2) (t := 24) rfl) hq
    clear hq
    go_wp2_with fail
    refine HK18ay5.out _ _ ⟨fun _ => H18ay5.out, ?_⟩
    clear HK18ay5 K
    try simp only [Act.put, List.setIfInBounds_toArray, List.set_cons_zero, List.set_cons_succ]
    refine wpAnyN_one (i := 20) (o := ?o20ay5) (by kernel_rfl) ?hi20ay5 ?hw20ay5 ?st20ay5
    case hi20ay5 => rw [List.getElem?_toArray]; exact rfl
    case hw20ay5 => exact rfl
    intro K hK
    have HK20ay5 : Hid _ := hK
    clear hK
    obtain ⟨⟨o0, o1, o2, o3⟩, ⟨f0, f1, f2, f3⟩, oz⟩ := Pend.facts P18ay5.out
    try simp only [World.size_alloc] at o0 o1 o2 o3 f0 f1 f2 f3 oz
    go_simp
    refine HK20ay5.out _ _ ⟨fun h => absurd h (by decide +kernel), ?_⟩
    clear HK20ay5 K
    try simp only [Act.put, List.setIfInBounds_toArray, List.set_cons_zero, List.set_cons_succ]
    refine wpAnyN_done (by kernel_rfl) ?_ _
    obtain ⟨wSay5, hwS⟩ : ∃ y, y = ((((w18ay5.setCell ⟨w16ay2.heap.size, 0, none⟩ (.int .u64 (limb sl 0 : Nat))).setCell ⟨w16ay2.heap.size, 1, none⟩ (.int .u64 (limb sl 1 : Nat))).setCell ⟨w16ay2.heap.size, 2, none⟩ (.int .u64 (limb sl 2 : Nat))).setCell ⟨w16ay2.heap.size, 3, none⟩ (.int .u64 (limb sl 3 : Nat))) := ⟨_, rfl⟩
    have HSay5 : Hid (Own4 wSay5 (w16ay2.heap.size) sl ∧ Below w.heap.size w wSay5) := by rw [hwS]; exact ⟨Pend.own P18ay5.out, Below.setCell (Below.setCell (Below.setCell (Below.setCell H18ay5.out (Below.size H16ay2.out) _) (Below.size H16ay2.out) _) (Below.size H16ay2.out) _) (Below.size H16ay2.out) _⟩
    rw [← hwS]
    clear hwS o0 o1 o2 o3 f0 f1 f2 f3 oz
    go_wp2_with fail
    go_meet
    exact ⟨_, rfl, (Below.size H16ay2.out), HSay5.out.1, HSay5.out.2⟩
  case st19ax1 =>
   intro K hK
   have HK19ay6 : Hid _ := hK
   clear hK
   go_simp
   refine HK19ay6.out _ _ ⟨fun _ => (below_alloc0 (Below.drew (Below.refl _ _)) _), ?_⟩
   clear HK19ay6 K
   try simp only [Act.put, List.setIfInBounds_toArray, List.set_cons_zero, List.set_cons_succ]
   refine wpAnyN_one (i := 16) (o := ?o16ay6) (by kernel_rfl) ?hi16ay6 ?hw16ay6 ?st16ay6
   case hi16ay6 => rw [List.getElem?_toArray]; exact rfl
   case hw16ay6 => exact rfl
   intro K hK
   have HK16ay6 : Hid _ := hK
   clear hK
   go_simp
   refine (K1.out _ (H0.out.1.call (below_alloc0 (Below.drew (Below.refl _ _)) _))).mono ?_
   rintro e w16ay6 ⟨rfl, hq⟩
   have H16ay6 : Hid (Below w.heap.size w w16ay6) := below_call0 (below_alloc0 (Below.drew (Below.refl _ _)) _) hq
   have P16ay6 : Hid (Pend w16ay6 (w.heap.size)) := Pend.call (Pend.newC (W := w.drew) (t := 24) rfl) hq
   clear hq
   go_wp2_with fail
   refine HK16ay6.out _ _ ⟨fun _ => H16ay6.out, ?_⟩
   clear HK16ay6 K
   try simp only [Act.put, List.setIfInBounds_toArray, List.set_cons_zero, List.set_cons_succ]
   refine wpAnyN_one (i := 18) (o := ?o18ay6) (by kernel_rfl) ?hi18ay6 ?hw18ay6 ?st18ay6
   case hi18ay6 => rw [List.getElem?_toArray]; exact rfl
   case hw18ay6 => exact rfl
   intro K hK
   have HK18ay6 : Hid _ := hK
   clear hK
   go_simp
   refine (K2.out _ (H0.out.1.call H16ay6.out)).mono ?_
   rintro e w18ay6 ⟨rfl, hq⟩
   have H18ay6 : Hid (Below w.heap.size w w18ay6) := below_call0 H16ay6.out hq
   have P18ay6 : Hid (Pend w18ay6 (w.heap.size)) := Pend.call P16ay6.out hq
   clear hq
   go_wp2_with fail
   refine HK18ay6.out _ _ ⟨fun _ => H18ay6.out, ?_⟩
   clear HK18ay6 K
   try simp only [Act.put, List.setIfInBounds_toArray, List.set_cons_zero, List.set_cons_succ]
   refine wpAnyN_one (i := 20) (o := ?o20ay6) (by kernel_rfl) ?hi20ay6 ?hw20ay6 ?st20ay6
   case hi20ay6 => rw [List.getElem?_toArray]; exact rfl
   case hw20ay6 => exact rfl
   intro K hK
   have HK20ay6 : Hid _ := hK
   clear hK
   obtain ⟨⟨o0, o1, o2, o3⟩, ⟨f0, f1, f2, f3⟩, oz⟩ := Pend.facts P18ay6.out
   try simp only [World.size_alloc] at o0 o1 o2 o3 f0 f1 f2 f3 oz
   go_simp
   refine HK20ay6.out _ _ ⟨fun h => absurd h (by decide +kernel), ?_⟩
   clear HK20ay6 K
   try simp only [Act.put, List.setIfInBounds_toArray, List.set_cons_zero, List.set_cons_succ]
   refine wpAnyN_done (by kernel_rfl) ?_ _
   obtain ⟨wSay6, hwS⟩ : ∃ y, y = ((((w18ay6.setCell ⟨w.heap.size, 0, none⟩ (.int .u64 (limb sl 0 : Nat))).setCell ⟨w.heap.size, 1, none⟩ (.int .u64 (limb sl 1 : Nat))).setCell ⟨w.heap.size, 2, none⟩ (.int .u64 (limb sl 2 : Nat))).setCell ⟨w.heap.size, 3, none⟩ (.int .u64 (limb sl 3 : Nat))) := ⟨_, rfl⟩
   have HSay6 : Hid (Own4 wSay6 (w.heap.size) sl ∧ Below w.heap.size w wSay6) := by rw [hwS]; exact ⟨Pend.own P18ay6.out, Below.setCell (Below.setCell (Below.setCell (Below.setCell H18ay6.out (Nat.le_refl _) _) (Nat.le_refl _) _) (Nat.le_refl _) _) (Nat.le_refl _) _⟩
   rw [← hwS]
   clear hwS o0 o1 o2 o3 f0 f1 f2 f3 oz
   go_wp2_with fail
   go_meet
   exact ⟨_, rfl, (Nat.le_refl _), HSay6.out.1, HSay6.out.2⟩
 case rest =>
  obtain ⟨b2, rfl, hle, hO, hB⟩ := hcut
  have H1 : Hid (FieldB wc g PP ∧ SpotB wc s g x y z ∧ Own4 wc b2 sl ∧ Below w.heap.size w wc ∧ w.heap.size ≤ b2) := ⟨H0.out.1.call hB, H0.out.2.1.call hB, hO, hB, hle⟩
  have HZ : Hid (s ≠ g ∧ s < w.heap.size) := H0.out.2.2.2
  clear hO hB hle H0
  generalize wc = w1 at H1 ⊢
  go_upto_region 2 with fail
  go_cut [3] (fun v3 wx => ∃ b3, v3 = .pointer (some ⟨b3, 0, none⟩) ∧ w1.heap.size ≤ b3 ∧ Own4 wx b3 sq ∧ Below w1.heap.size w1 wx)
  case first =>
   refine wp_region_N (fun w' => Below w1.heap.size w1 w') 14 15 rfl (by kernel_rfl) ?_
   refine wpAnyN_take (i := 0) (oi := ?o0b) (v := ?v0b) ?hi0b (by kernel_rfl) (by kernel_rfl) (by kernel_rfl) (by kernel_rfl) (by decide) (by kernel_rfl) ?hQ0b ?hy0b (Below.drew (Below.refl _ _)) ?more0b
   case hi0b => rw [List.getElem?_toArray]; exact rfl
   case hQ0b => exact fun _ _ _ h => h
   case hy0b =>
    refine Or.inl ⟨by rfl, ?_⟩
    intro w' hSw
    obtain ⟨sz, sg, sx0, sx1, sx2, sx3, sy0, sy1, sy2, sy3, sz0, sz1, sz2, sz3, sf⟩ := H1.out.2.1.call hSw
    clear hSw
    go_simp
    try with_reducible rfl
   simp only [Act.put, List.setIfInBounds_toArray, List.set_cons_zero, List.set_cons_succ]
   refine wpAnyN_take (i := 1) (oi := ?o1b) (v := ?v1b) ?hi1b (by kernel_rfl) (by kernel_rfl) (by kernel_rfl) (by kernel_rfl) (by decide) (by kernel_rfl) ?hQ1b ?hy1b (Below.drew (Below.refl _ _)) ?more1b
   case hi1b => rw [List.getElem?_toArray]; exact rfl
   case hQ1b => exact fun _ _ _ h => h
   case hy1b =>
    refine Or.inl ⟨by rfl, ?_⟩
    intro w' hSw
    obtain ⟨sz, sg, sx0, sx1, sx2, sx3, sy0, sy1, sy2, sy3, sz0, sz1, sz2, sz3, sf⟩ := H1.out.2.1.call hSw
    clear hSw
    go_simp
    try with_reducible rfl
   simp only [Act.put, List.setIfInBounds_toArray, List.set_cons_zero, List.set_cons_succ]
   refine wpAnyN_take (i := 2) (oi := ?o2b) (v := ?v2b) ?hi2b (by kernel_rfl) (by kernel_rfl) (by kernel_rfl) (by kernel_rfl) (by decide) (by kernel_rfl) ?hQ2b ?hy2b (Below.drew (Below.refl _ _)) ?more2b
   case hi2b => rw [List.getElem?_toArray]; exact rfl
   case hQ2b => exact fun _ _ _ h => h
   case hy2b =>
    refine Or.inl ⟨by rfl, ?_⟩
    intro w' hSw
    obtain ⟨sz, sg, sx0, sx1, sx2, sx3, sy0, sy1, sy2, sy3, sz0, sz1, sz2, sz3, sf⟩ := H1.out.2.1.call hSw
    clear hSw
    go_simp
    try with_reducible rfl
   simp only [Act.put, List.setIfInBounds_toArray, List.set_cons_zero, List.set_cons_succ]
   refine wpAnyN_take (i := 3) (oi := ?o3b) (v := ?v3b) ?hi3b (by kernel_rfl) (by kernel_rfl) (by kernel_rfl) (by kernel_rfl) (by decide) (by kernel_rfl) ?hQ3b ?hy3b (Below.drew (Below.refl _ _)) ?more3b
   case hi3b => rw [List.getElem?_toArray]; exact rfl
   case hQ3b => exact fun _ _ _ h => h
   case hy3b =>
    refine Or.inl ⟨by rfl, ?_⟩
    intro w' hSw
    obtain ⟨sz, sg, sx0, sx1, sx2, sx3, sy0, sy1, sy2, sy3, sz0, sz1, sz2, sz3, sf⟩ := H1.out.2.1.call hSw
    clear hSw
    go_simp
    try with_reducible rfl
   simp only [Act.put, List.setIfInBounds_toArray, List.set_cons_zero, List.set_cons_succ]
   refine wpAnyN_take (i := 4) (oi := ?o4b) (v := ?v4b) ?hi4b (by kernel_rfl) (by kernel_rfl) (by kernel_rfl) (by kernel_rfl) (by decide) (by kernel_rfl) ?hQ4b ?hy4b (Below.drew (Below.refl _ _)) ?more4b
   case hi4b => rw [List.getElem?_toArray]; exact rfl
   case hQ4b => exact fun _ _ _ h => h
   case hy4b =>
    refine Or.inl ⟨by rfl, ?_⟩
    intro w' hSw
    obtain ⟨sz, sg, sx0, sx1, sx2, sx3, sy0, sy1, sy2, sy3, sz0, sz1, sz2, sz3, sf⟩ := H1.out.2.1.call hSw
    clear hSw
    go_simp
    try with_reducible rfl
   simp only [Act.put, List.setIfInBounds_toArray, List.set_cons_zero, List.set_cons_succ]
   refine wpAnyN_take (i := 5) (oi := ?o5b) (v := ?v5b) ?hi5b (by kernel_rfl) (by kernel_rfl) (by kernel_rfl) (by kernel_rfl) (by decide) (by kernel_rfl) ?hQ5b ?hy5b (Below.drew (Below.refl _ _)) ?more5b
   case hi5b => rw [List.getElem?_toArray]; exact rfl
   case hQ5b => exact fun _ _ _ h => h
   case hy5b =>
    refine Or.inl ⟨by rfl, ?_⟩
    intro w' hSw
    obtain ⟨sz, sg, sx0, sx1, sx2, sx3, sy0, sy1, sy2, sy3, sz0, sz1, sz2, sz3, sf⟩ := H1.out.2.1.call hSw
    clear hSw
    go_simp
    try with_reducible rfl
   simp only [Act.put, List.setIfInBounds_toArray, List.set_cons_zero, List.set_cons_succ]
   refine wpAnyN_take (i := 6) (oi := ?o6b) (v := ?v6b) ?hi6b (by kernel_rfl) (by kernel_rfl) (by kernel_rfl) (by kernel_rfl) (by decide) (by kernel_rfl) ?hQ6b ?hy6b (Below.drew (Below.refl _ _)) ?more6b
   case hi6b => rw [List.getElem?_toArray]; exact rfl
   case hQ6b => exact fun _ _ _ h => h
   case hy6b =>
    refine Or.inl ⟨by rfl, ?_⟩
    intro w' hSw
    obtain ⟨sz, sg, sx0, sx1, sx2, sx3, sy0, sy1, sy2, sy3, sz0, sz1, sz2, sz3, sf⟩ := H1.out.2.1.call hSw
    clear hSw
    go_simp
    try with_reducible rfl
   simp only [Act.put, List.setIfInBounds_toArray, List.set_cons_zero, List.set_cons_succ]
   refine wpAnyN_take (i := 7) (oi := ?o7b) (v := ?v7b) ?hi7b (by kernel_rfl) (by kernel_rfl) (by kernel_rfl) (by kernel_rfl) (by decide) (by kernel_rfl) ?hQ7b ?hy7b (Below.drew (Below.refl _ _)) ?more7b
   case hi7b => rw [List.getElem?_toArray]; exact rfl
   case hQ7b => exact fun _ _ _ h => h
   case hy7b =>
    refine Or.inl ⟨by rfl, ?_⟩
    intro w' hSw
    obtain ⟨sz, sg, sx0, sx1, sx2, sx3, sy0, sy1, sy2, sy3, sz0, sz1, sz2, sz3, sf⟩ := H1.out.2.1.call hSw
    clear hSw
    go_simp
    try with_reducible rfl
   simp only [Act.put, List.setIfInBounds_toArray, List.set_cons_zero, List.set_cons_succ]
   refine wpAnyN_take (i := 8) (oi := ?o8b) (v := ?v8b) ?hi8b (by kernel_rfl) (by kernel_rfl) (by kernel_rfl) (by kernel_rfl) (by decide) (by kernel_rfl) ?hQ8b ?hy8b (Below.drew (Below.refl _ _)) ?more8b
   case hi8b => rw [List.getElem?_toArray]; exact rfl
   case hQ8b => exact fun _ _ _ h => h
   case hy8b =>
    refine Or.inl ⟨by rfl, ?_⟩
    intro w' hSw
    obtain ⟨sz, sg, sx0, sx1, sx2, sx3, sy0, sy1, sy2, sy3, sz0, sz1, sz2, sz3, sf⟩ := H1.out.2.1.call hSw
    clear hSw
    go_simp
    try with_reducible rfl
   simp only [Act.put, List.setIfInBounds_toArray, List.set_cons_zero, List.set_cons_succ]
   refine wpAnyN_take (i := 9) (oi := ?o9b) (v := ?v9b) ?hi9b (by kernel_rfl) (by kernel_rfl) (by kernel_rfl) (by kernel_rfl) (by decide) (by kernel_rfl) ?hQ9b ?hy9b (Below.drew (Below.refl _ _)) ?more9b
   case hi9b => rw [List.getElem?_toArray]; exact rfl
   case hQ9b => exact fun _ _ _ h => h
   case hy9b =>
    refine Or.inl ⟨by rfl, ?_⟩
    intro w' hSw
    obtain ⟨sz, sg, sx0, sx1, sx2, sx3, sy0, sy1, sy2, sy3, sz0, sz1, sz2, sz3, sf⟩ := H1.out.2.1.call hSw
    clear hSw
    go_simp
    try with_reducible rfl
   simp only [Act.put, List.setIfInBounds_toArray, List.set_cons_zero, List.set_cons_succ]
   refine wpAnyN_take (i := 10) (oi := ?o10b) (v := ?v10b) ?hi10b (by kernel_rfl) (by kernel_rfl) (by kernel_rfl) (by kernel_rfl) (by decide) (by kernel_rfl) ?hQ10b ?hy10b (Below.drew (Below.refl _ _)) ?more10b
   case hi10b => rw [List.getElem?_toArray]; exact rfl
   case hQ10b => exact fun _ _ _ h => h
   case hy10b =>
    refine Or.inl ⟨by rfl, ?_⟩
    intro w' hSw
    obtain ⟨sz, sg, sx0, sx1, sx2, sx3, sy0, sy1, sy2, sy3, sz0, sz1, sz2, sz3, sf⟩ := H1.out.2.1.call hSw
    clear hSw
    go_simp
    try with_reducible rfl
   simp only [Act.put, List.setIfInBounds_toArray, List.set_cons_zero, List.set_cons_succ]
   refine wpAnyN_take (i := 11) (oi := ?o11b) (v := ?v11b) ?hi11b (by kernel_rfl) (by kernel_rfl) (by kernel_rfl) (by kernel_rfl) (by decide) (by kernel_rfl) ?hQ11b ?hy11b (Below.drew (Below.refl _ _)) ?more11b
   case hi11b => rw [List.getElem?_toArray]; exact rfl
   case hQ11b => exact fun _ _ _ h => h
   case hy11b =>
    refine Or.inl ⟨by rfl, ?_⟩
    intro w' hSw
    obtain ⟨sz, sg, sx0, sx1, sx2, sx3, sy0, sy1, sy2, sy3, sz0, sz1, sz2, sz3, sf⟩ := H1.out.2.1.call hSw
    clear hSw
    go_simp
    try with_reducible rfl
   simp only [Act.put, List.setIfInBounds_toArray, List.set_cons_zero, List.set_cons_succ]
   refine wpAnyN_two (i := 12) (j := 13) (o := ?o12bx1) (p := ?o13bx1) (by kernel_rfl) ?hi12bx1 ?hi13bx1 ?hw12bx1 ?hw13bx1 ?st12bx1 ?st13bx1
   case hi12bx1 => rw [List.getElem?_toArray]; exact rfl
   case hw12bx1 => exact rfl
   case hi13bx1 => rw [List.getElem?_toArray]; exact rfl
   case hw13bx1 => exact rfl
   case st12bx1 =>
    intro K hK
    have HK12by2 : Hid _ := hK
    clear hK
    go_simp
    refine (K3.out _ (H1.out.1.call (Below.drew (Below.refl _ _)))).mono ?_
    rintro e w12by2 ⟨rfl, hq⟩
    have H12by2 : Hid (Below w1.heap.size w1 w12by2) := below_call0 (Below.drew (Below.refl _ _)) hq
    clear hq
    go_wp2_with fail
    refine HK12by2.out _ _ ⟨fun _ => H12by2.out, ?_⟩
    clear HK12by2 K
    try simp only [Act.put, List.setIfInBounds_toArray, List.set_cons_zero, List.set_cons_succ]
    refine wpAnyN_one (i := 13) (o := ?o13by2) (by kernel_rfl) ?hi13by2 ?hw13by2 ?st13by2
    case hi13by2 => rw [List.getElem?_toArray]; exact rfl
    case hw13by2 => exact rfl
    intro K hK
    have HK13by2 : Hid _ := hK
    clear hK
    go_simp
    refine HK13by2.out _ _ ⟨fun _ => (below_alloc0 H12by2.out _), ?_⟩
    clear HK13by2 K
    try simp only [Act.put, List.setIfInBounds_toArray, List.set_cons_zero, List.set_cons_succ]
    refine wpAnyN_one (i := 14) (o := ?o14by2) (by kernel_rfl) ?hi14by2 ?hw14by2 ?st14by2
    case hi14by2 => rw [List.getElem?_toArray]; exact rfl
    case hw14by2 => exact rfl
    intro K hK
    have HK14by2 : Hid _ := hK
    clear hK
    obtain ⟨⟨o0, o1, o2, o3⟩, ⟨f0, f1, f2, f3⟩, oz⟩ := Pend.facts (Pend.newC (W := w12by2) (t := 24) rfl)
    try simp only [World.size_alloc] at o0 o1 o2 o3 f0 f1 f2 f3 oz
    go_simp
    refine HK14by2.out _ _ ⟨fun h => absurd h (by decide +kernel), ?_⟩
    clear HK14by2 K
    try simp only [Act.put, List.setIfInBounds_toArray, List.set_cons_zero, List.set_cons_succ]
    refine wpAnyN_done (by kernel_rfl) ?_ _
    obtain ⟨wSby2, hwS⟩ : ∃ y, y = w12by2.alloc (.cells #[.int .u64 (limb sq 0 : Nat), .int .u64 (limb sq 1 : Nat), .int .u64 (limb sq 2 : Nat), .int .u64 (limb sq 3 : Nat)] 24) := ⟨_, rfl⟩
    have HSby2 : Hid (Own4 wSby2 (w12by2.heap.size) sq ∧ Below w1.heap.size w1 wSby2) := by rw [hwS]; exact ⟨Own4.new' rfl, below_alloc0 H12by2.out _⟩
    rw [← hwS]
    clear hwS o0 o1 o2 o3 f0 f1 f2 f3 oz
    go_wp2_with fail
    go_meet
    exact ⟨_, rfl, (Below.size H12by2.out), HSby2.out.1, HSby2.out.2⟩
   case st13bx1 =>
    intro K hK
    have HK13by3 : Hid _ := hK
    clear hK
    go_simp
    refine HK13by3.out _ _ ⟨fun _ => (below_alloc0 (Below.drew (Below.refl _ _)) _), ?_⟩
    clear HK13by3 K
    try simp only [Act.put, List.setIfInBounds_toArray, List.set_cons_zero, List.set_cons_succ]
    refine wpAnyN_one (i := 12) (o := ?o12by3) (by kernel_rfl) ?hi12by3 ?hw12by3 ?st12by3
    case hi12by3 => rw [List.getElem?_toArray]; exact rfl
    case hw12by3 => exact rfl
    intro K hK
    have HK12by3 : Hid _ := hK
    clear hK
    go_simp
    refine (K3.out _ (H1.out.1.call (below_alloc0 (Below.drew (Below.refl _ _)) _))).mono ?_
    rintro e w12by3 ⟨rfl, hq⟩
    have H12by3 : Hid (Below w1.heap.size w1 w12by3) := below_call0 (below_alloc0 (Below.drew (Below.refl _ _)) _) hq
    have P12by3 : Hid (Pend w12by3 (w1.heap.size)) := Pend.call (Pend.newC (W := w1.drew) (t := 24) rfl) hq
    clear hq
    go_wp2_with fail
    refine HK12by3.out _ _ ⟨fun _ => H12by3.out, ?_⟩
    clear HK12by3 K
    try simp only [Act.put, List.setIfInBounds_toArray, List.set_cons_zero, List.set_cons_succ]
    refine wpAnyN_one (i := 14) (o := ?o14by3) (by kernel_rfl) ?hi14by3 ?hw14by3 ?st14by3
    case hi14by3 => rw [List.getElem?_toArray]; exact rfl
    case hw14by3 => exact rfl
    intro K hK
    have HK14by3 : Hid _ := hK
    clear hK
    obtain ⟨⟨o0, o1, o2, o3⟩, ⟨f0, f1, f2, f3⟩, oz⟩ := Pend.facts P12by3.out
    try simp only [World.size_alloc] at o0 o1 o2 o3 f0 f1 f2 f3 oz
    go_simp
    refine HK14by3.out _ _ ⟨fun h => absurd h (by decide +kernel), ?_⟩
    clear HK14by3 K
    try simp only [Act.put, List.setIfInBounds_toArray, List.set_cons_zero, List.set_cons_succ]
    refine wpAnyN_done (by kernel_rfl) ?_ _
    obtain ⟨wSby3, hwS⟩ : ∃ y, y = ((((w12by3.setCell ⟨w1.heap.size, 0, none⟩ (.int .u64 (limb sq 0 : Nat))).setCell ⟨w1.heap.size, 1, none⟩ (.int .u64 (limb sq 1 : Nat))).setCell ⟨w1.heap.size, 2, none⟩ (.int .u64 (limb sq 2 : Nat))).setCell ⟨w1.heap.size, 3, none⟩ (.int .u64 (limb sq 3 : Nat))) := ⟨_, rfl⟩
    have HSby3 : Hid (Own4 wSby3 (w1.heap.size) sq ∧ Below w1.heap.size w1 wSby3) := by rw [hwS]; exact ⟨Pend.own P12by3.out, Below.setCell (Below.setCell (Below.setCell (Below.setCell H12by3.out (Nat.le_refl _) _) (Nat.le_refl _) _) (Nat.le_refl _) _) (Nat.le_refl _) _⟩
    rw [← hwS]
    clear hwS o0 o1 o2 o3 f0 f1 f2 f3 oz
    go_wp2_with fail
    go_meet
    exact ⟨_, rfl, (Nat.le_refl _), HSby3.out.1, HSby3.out.2⟩
  case rest =>
   obtain ⟨b3, rfl, hle, hO, hB⟩ := hcut
   have H2 : Hid (FieldB wc g PP ∧ SpotB wc s g x y z ∧ Own4 wc b2 sl ∧ Own4 wc b3 sq ∧ Below w.heap.size w wc ∧ w.heap.size ≤ b2 ∧ w.heap.size ≤ b3) := ⟨H1.out.1.call hB, H1.out.2.1.call hB, H1.out.2.2.1.call hB, hO, below_call0 H1.out.2.2.2.1 hB, H1.out.2.2.2.2, Nat.le_trans H1.out.2.2.2.1.size hle⟩
   clear hO hB hle H1
   generalize wc = w2 at H2 ⊢
   go_upto_region 3 with fail
   go_cut [4] (fun v4 wx => ∃ b4, v4 = .pointer (some ⟨b4, 0, none⟩) ∧ w2.heap.size ≤ b4 ∧ Own4 wx b4 mid ∧ Below w2.heap.size w2 wx)
   case first =>
    refine wp_region_N (fun w' => Below w2.heap.size w2 w') 11 12 rfl (by kernel_rfl) ?_
    refine wpAnyN_take (i := 0) (oi := ?o0c) (v := ?v0c) ?hi0c (by kernel_rfl) (by kernel_rfl) (by kernel_rfl) (by kernel_rfl) (by decide) (by kernel_rfl) ?hQ0c ?hy0c (Below.drew (Below.refl _ _)) ?more0c
    case hi0c => rw [List.getElem?_toArray]; exact rfl
    case hQ0c => exact fun _ _ _ h => h
    case hy0c =>
     refine Or.inl ⟨by rfl, ?_⟩
     intro w' hSw
     obtain ⟨sz, sg, sx0, sx1, sx2, sx3, sy0, sy1, sy2, sy3, sz0, sz1, sz2, sz3, sf⟩ := H2.out.2.1.call hSw
     obtain ⟨⟨q0, q1, q2, q3⟩, -, qz⟩ := (Own4.call H2.out.2.2.2.1 hSw).facts
     clear hSw
     go_simp
     try with_reducible rfl
    simp only [Act.put, List.setIfInBounds_toArray, List.set_cons_zero, List.set_cons_succ]
    refine wpAnyN_take (i := 1) (oi := ?o1c) (v := ?v1c) ?hi1c (by kernel_rfl) (by kernel_rfl) (by kernel_rfl) (by kernel_rfl) (by decide) (by kernel_rfl) ?hQ1c ?hy1c (Below.drew (Below.refl _ _)) ?more1c
    case hi1c => rw [List.getElem?_toArray]; exact rfl
    case hQ1c => exact fun _ _ _ h => h
    case hy1c =>
     refine Or.inl ⟨by rfl, ?_⟩
     intro w' hSw
     obtain ⟨sz, sg, sx0, sx1, sx2, sx3, sy0, sy1, sy2, sy3, sz0, sz1, sz2, sz3, sf⟩ := H2.out.2.1.call hSw
     obtain ⟨⟨q0, q1, q2, q3⟩, -, qz⟩ := (Own4.call H2.out.2.2.2.1 hSw).facts
     clear hSw
     go_simp
     try with_reducible rfl
    simp only [Act.put, List.setIfInBounds_toArray, List.set_cons_zero, List.set_cons_succ]
    refine wpAnyN_take (i := 2) (oi := ?o2c) (v := ?v2c) ?hi2c (by kernel_rfl) (by kernel_rfl) (by kernel_rfl) (by kernel_rfl) (by decide) (by kernel_rfl) ?hQ2c ?hy2c (Below.drew (Below.refl _ _)) ?more2c
    case hi2c => rw [List.getElem?_toArray]; exact rfl
    case hQ2c => exact fun _ _ _ h => h
    case hy2c =>
     refine Or.inl ⟨by rfl, ?_⟩
     intro w' hSw
     obtain ⟨sz, sg, sx0, sx1, sx2, sx3, sy0, sy1, sy2, sy3, sz0, sz1, sz2, sz3, sf⟩ := H2.out.2.1.call hSw
     obtain ⟨⟨q0, q1, q2, q3⟩, -, qz⟩ := (Own4.call H2.out.2.2.2.1 hSw).facts
     clear hSw
     go_simp
     try with_reducible rfl
    simp only [Act.put, List.setIfInBounds_toArray, List.set_cons_zero, List.set_cons_succ]
    refine wpAnyN_take (i := 3) (oi := ?o3c) (v := ?v3c) ?hi3c (by kernel_rfl) (by kernel_rfl) (by kernel_rfl) (by kernel_rfl) (by decide) (by kernel_rfl) ?hQ3c ?hy3c (Below.drew (Below.refl _ _)) ?more3c
    case hi3c => rw [List.getElem?_toArray]; exact rfl
    case hQ3c => exact fun _ _ _ h => h
    case hy3c =>
     refine Or.inl ⟨by rfl, ?_⟩
     intro w' hSw
     obtain ⟨sz, sg, sx0, sx1, sx2, sx3, sy0, sy1, sy2, sy3, sz0, sz1, sz2, sz3, sf⟩ := H2.out.2.1.call hSw
     obtain ⟨⟨q0, q1, q2, q3⟩, -, qz⟩ := (Own4.call H2.out.2.2.2.1 hSw).facts
     clear hSw
     go_simp
     try with_reducible rfl
    simp only [Act.put, List.setIfInBounds_toArray, List.set_cons_zero, List.set_cons_succ]
    refine wpAnyN_take (i := 4) (oi := ?o4c) (v := ?v4c) ?hi4c (by kernel_rfl) (by kernel_rfl) (by kernel_rfl) (by kernel_rfl) (by decide) (by kernel_rfl) ?hQ4c ?hy4c (Below.drew (Below.refl _ _)) ?more4c
    case hi4c => rw [List.getElem?_toArray]; exact rfl
    case hQ4c => exact fun _ _ _ h => h
    case hy4c =>
     refine Or.inl ⟨by rfl, ?_⟩
     intro w' hSw
     obtain ⟨sz, sg, sx0, sx1, sx2, sx3, sy0, sy1, sy2, sy3, sz0, sz1, sz2, sz3, sf⟩ := H2.out.2.1.call hSw
     obtain ⟨⟨q0, q1, q2, q3⟩, -, qz⟩ := (Own4.call H2.out.2.2.2.1 hSw).facts
     clear hSw
     go_simp
     try with_reducible rfl
    simp only [Act.put, List.setIfInBounds_toArray, List.set_cons_zero, List.set_cons_succ]
    refine wpAnyN_take (i := 5) (oi := ?o5c) (v := ?v5c) ?hi5c (by kernel_rfl) (by kernel_rfl) (by kernel_rfl) (by kernel_rfl) (by decide) (by kernel_rfl) ?hQ5c ?hy5c (Below.drew (Below.refl _ _)) ?more5c
    case hi5c => rw [List.getElem?_toArray]; exact rfl
    case hQ5c => exact fun _ _ _ h => h
    case hy5c =>
     refine Or.inl ⟨by rfl, ?_⟩
     intro w' hSw
     obtain ⟨sz, sg, sx0, sx1, sx2, sx3, sy0, sy1, sy2, sy3, sz0, sz1, sz2, sz3, sf⟩ := H2.out.2.1.call hSw
     obtain ⟨⟨q0, q1, q2, q3⟩, -, qz⟩ := (Own4.call H2.out.2.2.2.1 hSw).facts
     clear hSw
     go_simp
     try with_reducible rfl
    simp only [Act.put, List.setIfInBounds_toArray, List.set_cons_zero, List.set_cons_succ]
    refine wpAnyN_take (i := 6) (oi := ?o6c) (v := ?v6c) ?hi6c (by kernel_rfl) (by kernel_rfl) (by kernel_rfl) (by kernel_rfl) (by decide) (by kernel_rfl) ?hQ6c ?hy6c (Below.drew (Below.refl _ _)) ?more6c
    case hi6c => rw [List.getElem?_toArray]; exact rfl
    case hQ6c => exact fun _ _ _ h => h
    case hy6c =>
     refine Or.inl ⟨by rfl, ?_⟩
     intro w' hSw
     obtain ⟨sz, sg, sx0, sx1, sx2, sx3, sy0, sy1, sy2, sy3, sz0, sz1, sz2, sz3, sf⟩ := H2.out.2.1.call hSw
     obtain ⟨⟨q0, q1, q2, q3⟩, -, qz⟩ := (Own4.call H2.out.2.2.2.1 hSw).facts
     clear hSw
     go_simp
     try with_reducible rfl
    simp only [Act.put, List.setIfInBounds_toArray, List.set_cons_zero, List.set_cons_succ]
    refine wpAnyN_take (i := 7) (oi := ?o7c) (v := ?v7c) ?hi7c (by kernel_rfl) (by kernel_rfl) (by kernel_rfl) (by kernel_rfl) (by decide) (by kernel_rfl) ?hQ7c ?hy7c (Below.drew (Below.refl _ _)) ?more7c
    case hi7c => rw [List.getElem?_toArray]; exact rfl
    case hQ7c => exact fun _ _ _ h => h
    case hy7c =>
     refine Or.inl ⟨by rfl, ?_⟩
     intro w' hSw
     obtain ⟨sz, sg, sx0, sx1, sx2, sx3, sy0, sy1, sy2, sy3, sz0, sz1, sz2, sz3, sf⟩ := H2.out.2.1.call hSw
     obtain ⟨⟨q0, q1, q2, q3⟩, -, qz⟩ := (Own4.call H2.out.2.2.2.1 hSw).facts
     clear hSw
     go_simp
     try with_reducible rfl
    simp only [Act.put, List.setIfInBounds_toArray, List.set_cons_zero, List.set_cons_succ]
    refine wpAnyN_take (i := 8) (oi := ?o8c) (v := ?v8c) ?hi8c (by kernel_rfl) (by kernel_rfl) (by kernel_rfl) (by kernel_rfl) (by decide) (by kernel_rfl) ?hQ8c ?hy8c (Below.drew (Below.refl _ _)) ?more8c
    case hi8c => rw [List.getElem?_toArray]; exact rfl
    case hQ8c => exact fun _ _ _ h => h
    case hy8c =>
     refine Or.inl ⟨by rfl, ?_⟩
     intro w' hSw
     obtain ⟨sz, sg, sx0, sx1, sx2, sx3, sy0, sy1, sy2, sy3, sz0, sz1, sz2, sz3, sf⟩ := H2.out.2.1.call hSw
     obtain ⟨⟨q0, q1, q2, q3⟩, -, qz⟩ := (Own4.call H2.out.2.2.2.1 hSw).facts
     clear hSw
     go_simp
     try with_reducible rfl
    simp only [Act.put, List.setIfInBounds_toArray, List.set_cons_zero, List.set_cons_succ]
    refine wpAnyN_two (i := 9) (j := 10) (o := ?o9cx1) (p := ?o10cx1) (by kernel_rfl) ?hi9cx1 ?hi10cx1 ?hw9cx1 ?hw10cx1 ?st9cx1 ?st10cx1
    case hi9cx1 => rw [List.getElem?_toArray]; exact rfl
    case hw9cx1 => exact rfl
    case hi10cx1 => rw [List.getElem?_toArray]; exact rfl
    case hw10cx1 => exact rfl
    case st9cx1 =>
     intro K hK
     have HK9cy2 : Hid _ := hK
     clear hK
     go_simp
     refine (K4.out _ (H2.out.1.call (Below.drew (Below.refl _ _)))).mono ?_
     rintro e w9cy2 ⟨rfl, hq⟩
     have H9cy2 : Hid (Below w2.heap.size w2 w9cy2) := below_call0 (Below.drew (Below.refl _ _)) hq
     clear hq
     go_wp2_with fail
     refine HK9cy2.out _ _ ⟨fun _ => H9cy2.out, ?_⟩
     clear HK9cy2 K
     try simp only [Act.put, List.setIfInBounds_toArray, List.set_cons_zero, List.set_cons_succ]
     refine wpAnyN_one (i := 10) (o := ?o10cy2) (by kernel_rfl) ?hi10cy2 ?hw10cy2 ?st10cy2
     case hi10cy2 => rw [List.getElem?_toArray]; exact rfl
     case hw10cy2 => exact rfl
     intro K hK
     have HK10cy2 : Hid _ := hK
     clear hK
     go_simp
     refine HK10cy2.out _ _ ⟨fun _ => (below_alloc0 H9cy2.out _), ?_⟩
     clear HK10cy2 K
     try simp only [Act.put, List.setIfInBounds_toArray, List.set_cons_zero, List.set_cons_succ]
     refine wpAnyN_one (i := 11) (o := ?o11cy2) (by kernel_rfl) ?hi11cy2 ?hw11cy2 ?st11cy2
     case hi11cy2 => rw [List.getElem?_toArray]; exact rfl
     case hw11cy2 => exact rfl
     intro K hK
     have HK11cy2 : Hid _ := hK
     clear hK
     obtain ⟨⟨o0, o1, o2, o3⟩, ⟨f0, f1, f2, f3⟩, oz⟩ := Pend.facts (Pend.newC (W := w9cy2) (t := 24) rfl)
     try simp only [World.size_alloc] at o0 o1 o2 o3 f0 f1 f2 f3 oz
     go_simp
     refine HK11cy2.out _ _ ⟨fun h => absurd h (by decide +kernel), ?_⟩
     clear HK11cy2 K
     try simp only [Act.put, List.setIfInBounds_toArray, List.set_cons_zero, List.set_cons_succ]
     refine wpAnyN_done (by kernel_rfl) ?_ _
     obtain ⟨wScy2, hwS⟩ : ∃ y, y = w9cy2.alloc (.cells #[.int .u64 (limb mid 0 : Nat), .int .u64 (limb mid 1 : Nat), .int .u64 (limb mid 2 : Nat), .int .u64 (limb mid 3 : Nat)] 24) := ⟨_, rfl⟩
     have HScy2 : Hid (Own4 wScy2 (w9cy2.heap.size) mid ∧ Below w2.heap.size w2 wScy2) := by rw [hwS]; exact ⟨Own4.new' rfl, below_alloc0 H9cy2.out _⟩
     rw [← hwS]
     clear hwS o0 o1 o2 o3 f0 f1 f2 f3 oz
     go_wp2_with fail
     go_meet
     exact ⟨_, rfl, (Below.size H9cy2.out), HScy2.out.1, HScy2.out.2⟩
    case st10cx1 =>
     intro K hK
     have HK10cy3 : Hid _ := hK
     clear hK
     go_simp
     refine HK10cy3.out _ _ ⟨fun _ => (below_alloc0 (Below.drew (Below.refl _ _)) _), ?_⟩
     clear HK10cy3 K
     try simp only [Act.put, List.setIfInBounds_toArray, List.set_cons_zero, List.set_cons_succ]
     refine wpAnyN_one (i := 9) (o := ?o9cy3) (by kernel_rfl) ?hi9cy3 ?hw9cy3 ?st9cy3
     case hi9cy3 => rw [List.getElem?_toArray]; exact rfl
     case hw9cy3 => exact rfl
     intro K hK
     have HK9cy3 : Hid _ := hK
     clear hK
     go_simp
     refine (K4.out _ (H2.out.1.call (below_alloc0 (Below.drew (Below.refl _ _)) _))).mono ?_
     rintro e w9cy3 ⟨rfl, hq⟩
     have H9cy3 : Hid (Below w2.heap.size w2 w9cy3) := below_call0 (below_alloc0 (Below.drew (Below.refl _ _)) _) hq
     have P9cy3 : Hid (Pend w9cy3 (w2.heap.size)) := Pend.call (Pend.newC (W := w2.drew) (t := 24) rfl) hq
     clear hq
     go_wp2_with fail
     refine HK9cy3.out _ _ ⟨fun _ => H9cy3.out, ?_⟩
     clear HK9cy3 K
     try simp only [Act.put, List.setIfInBounds_toArray, List.set_cons_zero, List.set_cons_succ]
     refine wpAnyN_one (i := 11) (o := ?o11cy3) (by kernel_rfl) ?hi11cy3 ?hw11cy3 ?st11cy3
     case hi11cy3 => rw [List.getElem?_toArray]; exact rfl
     case hw11cy3 => exact rfl
     intro K hK
     have HK11cy3 : Hid _ := hK
     clear hK
     obtain ⟨⟨o0, o1, o2, o3⟩, ⟨f0, f1, f2, f3⟩, oz⟩ := Pend.facts P9cy3.out
     try simp only [World.size_alloc] at o0 o1 o2 o3 f0 f1 f2 f3 oz
     go_simp
     refine HK11cy3.out _ _ ⟨fun h => absurd h (by decide +kernel), ?_⟩
     clear HK11cy3 K
     try simp only [Act.put, List.setIfInBounds_toArray, List.set_cons_zero, List.set_cons_succ]
     refine wpAnyN_done (by kernel_rfl) ?_ _
     obtain ⟨wScy3, hwS⟩ : ∃ y, y = ((((w9cy3.setCell ⟨w2.heap.size, 0, none⟩ (.int .u64 (limb mid 0 : Nat))).setCell ⟨w2.heap.size, 1, none⟩ (.int .u64 (limb mid 1 : Nat))).setCell ⟨w2.heap.size, 2, none⟩ (.int .u64 (limb mid 2 : Nat))).setCell ⟨w2.heap.size, 3, none⟩ (.int .u64 (limb mid 3 : Nat))) := ⟨_, rfl⟩
     have HScy3 : Hid (Own4 wScy3 (w2.heap.size) mid ∧ Below w2.heap.size w2 wScy3) := by rw [hwS]; exact ⟨Pend.own P9cy3.out, Below.setCell (Below.setCell (Below.setCell (Below.setCell H9cy3.out (Nat.le_refl _) _) (Nat.le_refl _) _) (Nat.le_refl _) _) (Nat.le_refl _) _⟩
     rw [← hwS]
     clear hwS o0 o1 o2 o3 f0 f1 f2 f3 oz
     go_wp2_with fail
     go_meet
     exact ⟨_, rfl, (Nat.le_refl _), HScy3.out.1, HScy3.out.2⟩
   case rest =>
    obtain ⟨b4, rfl, hle, hO, hB⟩ := hcut
    have H3 : Hid (FieldB wc g PP ∧ SpotB wc s g x y z ∧ Own4 wc b2 sl ∧ Own4 wc b3 sq ∧ Own4 wc b4 mid ∧ ButC s w wc) := ⟨H2.out.1.call hB, H2.out.2.1.call hB, H2.out.2.2.1.call hB, H2.out.2.2.2.1.call hB, hO, ButC.of (below_call0 H2.out.2.2.2.2.1 hB)⟩
    have HN : Hid (s ≠ g ∧ s ≠ b2 ∧ s ≠ b3 ∧ s ≠ b4) := ⟨HZ.out.1, Nat.ne_of_lt (Nat.lt_of_lt_of_le HZ.out.2 H2.out.2.2.2.2.2.1), Nat.ne_of_lt (Nat.lt_of_lt_of_le HZ.out.2 H2.out.2.2.2.2.2.2), Nat.ne_of_lt (Nat.lt_of_lt_of_le HZ.out.2 (Nat.le_trans H2.out.2.2.2.2.1.size hle))⟩
    clear hO hB hle H2 HZ
    generalize wc = w3 at H3 ⊢
    go_wp2_with fail
    refine wp_region_N (fun w' => Below w3.heap.size w3 w') 16 17 rfl (by kernel_rfl) ?_
    refine wpAnyN_takeF (i := 0) (oi := ?o0_d) (v := ?v0_d) ?hi0_d (by kernel_rfl) (by kernel_rfl) (by kernel_rfl) (by decide) ?hQ0_d ?hy0_d (Below.drew (Below.refl _ _)) ?more0_d
    case hi0_d => rw [List.getElem?_toArray]; exact rfl
    case hQ0_d => exact fun _ _ _ h => h
    case hy0_d =>
     refine Or.inl ⟨by rfl, ?_⟩
     intro w' hSw
     clear hSw
     go_simp
     try with_reducible rfl
    simp only [Act.put, List.setIfInBounds_toArray, List.set_cons_zero, List.set_cons_succ]
    refine wpAnyN_takeF (i := 1) (oi := ?o1_d) (v := ?v1_d) ?hi1_d (by kernel_rfl) (by kernel_rfl) (by kernel_rfl) (by decide) ?hQ1_d ?hy1_d (Below.drew (Below.refl _ _)) ?more1_d
    case hi1_d => rw [List.getElem?_toArray]; exact rfl
    case hQ1_d => exact fun _ _ _ h => h
    case hy1_d =>
     refine Or.inl ⟨by rfl, ?_⟩
     intro w' hSw
     clear hSw
     go_simp
     try with_reducible rfl
    simp only [Act.put, List.setIfInBounds_toArray, List.set_cons_zero, List.set_cons_succ]
    refine wpAnyN_takeF (i := 2) (oi := ?o2_d) (v := ?v2_d) ?hi2_d (by kernel_rfl) (by kernel_rfl) (by kernel_rfl) (by decide) ?hQ2_d ?hy2_d (Below.drew (Below.refl _ _)) ?more2_d
    case hi2_d => rw [List.getElem?_toArray]; exact rfl
    case hQ2_d => exact fun _ _ _ h => h
    case hy2_d =>
     refine Or.inl ⟨by rfl, ?_⟩
     intro w' hSw
     clear hSw
     go_simp
     try with_reducible rfl
    simp only [Act.put, List.setIfInBounds_toArray, List.set_cons_zero, List.set_cons_succ]
    refine wpAnyN_takeF (i := 3) (oi := ?o3_d) (v := ?v3_d) ?hi3_d (by kernel_rfl) (by kernel_rfl) (by kernel_rfl) (by decide) ?hQ3_d ?hy3_d (Below.drew (Below.refl _ _)) ?more3_d
    case hi3_d => rw [List.getElem?_toArray]; exact rfl
    case hQ3_d => exact fun _ _ _ h => h
    case hy3_d =>
     refine Or.inl ⟨by rfl, ?_⟩
     intro w' hSw
     clear hSw
     go_simp
     try with_reducible rfl
    simp only [Act.put, List.setIfInBounds_toArray, List.set_cons_zero, List.set_cons_succ]
    refine wpAnyN_take (i := 4) (oi := ?o4_d) (v := ?v4_d) ?hi4_d (by kernel_rfl) (by kernel_rfl) (by kernel_rfl) (by kernel_rfl) (by decide) (by kernel_rfl) ?hQ4_d ?hy4_d (Below.drew (Below.refl _ _)) ?more4_d
    case hi4_d => rw [List.getElem?_toArray]; exact rfl
    case hQ4_d => exact fun _ _ _ h => h
    case hy4_d =>
     refine Or.inl ⟨by rfl, ?_⟩
     intro w' hSw
     obtain ⟨sz, sg, sx0, sx1, sx2, sx3, sy0, sy1, sy2, sy3, sz0, sz1, sz2, sz3, sf⟩ := H3.out.2.1.call hSw
     clear hSw
     go_simp
     try with_reducible rfl
    simp only [Act.put, List.setIfInBounds_toArray, List.set_cons_zero, List.set_cons_succ]
    refine wpAnyN_takeF (i := 5) (oi := ?o5_d) (v := ?v5_d) ?hi5_d (by kernel_rfl) (by kernel_rfl) (by kernel_rfl) (by decide) ?hQ5_d ?hy5_d (Below.drew (Below.refl _ _)) ?more5_d
    case hi5_d => rw [List.getElem?_toArray]; exact rfl
    case hQ5_d => exact fun _ _ _ h => h
    case hy5_d =>
     refine Or.inl ⟨by rfl, ?_⟩
     intro w' hSw
     clear hSw
     go_simp
     try with_reducible rfl
    simp only [Act.put, List.setIfInBounds_toArray, List.set_cons_zero, List.set_cons_succ]
    refine wpAnyN_takeF (i := 6) (oi := ?o6_d) (v := ?v6_d) ?hi6_d (by kernel_rfl) (by kernel_rfl) (by kernel_rfl) (by decide) ?hQ6_d ?hy6_d (Below.drew (Below.refl _ _)) ?more6_d
    case hi6_d => rw [List.getElem?_toArray]; exact rfl
    case hQ6_d => exact fun _ _ _ h => h
    case hy6_d =>
     refine Or.inl ⟨by rfl, ?_⟩
     intro w' hSw
     clear hSw
     go_simp
     try with_reducible rfl
    simp only [Act.put, List.setIfInBounds_toArray, List.set_cons_zero, List.set_cons_succ]
    refine wpAnyN_takeF (i := 7) (oi := ?o7_d) (v := ?v7_d) ?hi7_d (by kernel_rfl) (by kernel_rfl) (by kernel_rfl) (by decide) ?hQ7_d ?hy7_d (Below.drew (Below.refl _ _)) ?more7_d
    case hi7_d => rw [List.getElem?_toArray]; exact rfl
    case hQ7_d => exact fun _ _ _ h => h
    case hy7_d =>
     refine Or.inl ⟨by rfl, ?_⟩
     intro w' hSw
     clear hSw
     go_simp
     try with_reducible rfl
    simp only [Act.put, List.setIfInBounds_toArray, List.set_cons_zero, List.set_cons_succ]
    refine wpAnyN_take (i := 8) (oi := ?o8_d) (v := ?v8_d) ?hi8_d (by kernel_rfl) (by kernel_rfl) (by kernel_rfl) (by kernel_rfl) (by decide) (by kernel_rfl) ?hQ8_d ?hy8_d (Below.drew (Below.refl _ _)) ?more8_d
    case hi8_d => rw [List.getElem?_toArray]; exact rfl
    case hQ8_d => exact fun _ _ _ h => h
    case hy8_d =>
     refine Or.inl ⟨by rfl, ?_⟩
     intro w' hSw
     obtain ⟨sz, sg, sx0, sx1, sx2, sx3, sy0, sy1, sy2, sy3, sz0, sz1, sz2, sz3, sf⟩ := H3.out.2.1.call hSw
     clear hSw
     go_simp
     try with_reducible rfl
    simp only [Act.put, List.setIfInBounds_toArray, List.set_cons_zero, List.set_cons_succ]
    refine wpAnyN_takeF (i := 9) (oi := ?o9_d) (v := ?v9_d) ?hi9_d (by kernel_rfl) (by kernel_rfl) (by kernel_rfl) (by decide) ?hQ9_d ?hy9_d (Below.drew (Below.refl _ _)) ?more9_d
    case hi9_d => rw [List.getElem?_toArray]; exact rfl
    case hQ9_d => exact fun _ _ _ h => h
    case hy9_d =>
     refine Or.inl ⟨by rfl, ?_⟩
     intro w' hSw
     clear hSw
     go_simp
     try with_reducible rfl
    simp only [Act.put, List.setIfInBounds_toArray, List.set_cons_zero, List.set_cons_succ]
    refine wpAnyN_takeF (i := 10) (oi := ?o10_d) (v := ?v10_d) ?hi10_d (by kernel_rfl) (by kernel_rfl) (by kernel_rfl) (by decide) ?hQ10_d ?hy10_d (Below.drew (Below.refl _ _)) ?more10_d
    case hi10_d => rw [List.getElem?_toArray]; exact rfl
    case hQ10_d => exact fun _ _ _ h => h
    case hy10_d =>
     refine Or.inl ⟨by rfl, ?_⟩
     intro w' hSw
     clear hSw
     go_simp
     try with_reducible rfl
    simp only [Act.put, List.setIfInBounds_toArray, List.set_cons_zero, List.set_cons_succ]
    refine wpAnyN_takeF (i := 11) (oi := ?o11_d) (v := ?v11_d) ?hi11_d (by kernel_rfl) (by kernel_rfl) (by kernel_rfl) (by decide) ?hQ11_d ?hy11_d (Below.drew (Below.refl _ _)) ?more11_d
    case hi11_d => rw [List.getElem?_toArray]; exact rfl
    case hQ11_d => exact fun _ _ _ h => h
    case hy11_d =>
     refine Or.inl ⟨by rfl, ?_⟩
     intro w' hSw
     clear hSw
     go_simp
     try with_reducible rfl
    simp only [Act.put, List.setIfInBounds_toArray, List.set_cons_zero, List.set_cons_succ]
    refine wpAnyN_take (i := 12) (oi := ?o12_d) (v := ?v12_d) ?hi12_d (by kernel_rfl) (by kernel_rfl) (by kernel_rfl) (by kernel_rfl) (by decide) (by kernel_rfl) ?hQ12_d ?hy12_d (Below.drew (Below.refl _ _)) ?more12_d
    case hi12_d => rw [List.getElem?_toArray]; exact rfl
    case hQ12_d => exact fun _ _ _ h => h
    case hy12_d =>
     refine Or.inl ⟨by rfl, ?_⟩
     intro w' hSw
     obtain ⟨sz, sg, sx0, sx1, sx2, sx3, sy0, sy1, sy2, sy3, sz0, sz1, sz2, sz3, sf⟩ := H3.out.2.1.call hSw
     clear hSw
     go_simp
     try with_reducible rfl
    simp only [Act.put, List.setIfInBounds_toArray, List.set_cons_zero, List.set_cons_succ]
    refine wpAnyN_one (i := 13) (o := ?o13_d) (by kernel_rfl) ?hi13_d ?hw13_d ?st13_d
    case hi13_d => rw [List.getElem?_toArray]; exact rfl
    case hw13_d => exact rfl
    intro K hK
    have HK13 : Hid _ := hK
    clear hK
    go_simp
    refine (K5.out _ (H3.out.1.call (Below.drew (Below.refl _ _)))).mono ?_
    rintro e w4 ⟨rfl, hq⟩
    have I4 : Hid (Below w3.heap.size w3 w4) := below_call0 (Below.drew (Below.refl _ _)) hq
    clear hq
    obtain ⟨sz, sg, sx0, sx1, sx2, sx3, sy0, sy1, sy2, sy3, sz0, sz1, sz2, sz3, sf⟩ := H3.out.2.1.call I4.out
    go_wp2_with fail
    refine HK13.out _ _ ⟨fun _ => I4.out, ?_⟩
    clear HK13 K
    try simp only [Act.put, List.setIfInBounds_toArray, List.set_cons_zero, List.set_cons_succ]
    refine wpAnyN_takeF (i := 14) (oi := ?o14_d) (v := ?v14_d) ?hi14_d (by kernel_rfl) (by kernel_rfl) (by kernel_rfl) (by decide) ?hQ14_d ?hy14_d I4.out ?more14_d
    case hi14_d => rw [List.getElem?_toArray]; exact rfl
    case hQ14_d => exact fun _ _ _ h => h
    case hy14_d =>
     refine Or.inl ⟨by rfl, ?_⟩
     intro w' hSw
     clear hSw
     go_simp
     try with_reducible rfl
    simp only [Act.put, List.setIfInBounds_toArray, List.set_cons_zero, List.set_cons_succ]
    refine wpAnyN_takeF (i := 15) (oi := ?o15_d) (v := ?v15_d) ?hi15_d (by kernel_rfl) (by kernel_rfl) (by kernel_rfl) (by decide) ?hQ15_d ?hy15_d I4.out ?more15_d
    case hi15_d => rw [List.getElem?_toArray]; exact rfl
    case hQ15_d => exact fun _ _ _ h => h
    case hy15_d =>
     refine Or.inl ⟨by rfl, ?_⟩
     intro w' hSw
     clear hSw
     go_simp
     try with_reducible rfl
    simp only [Act.put, List.setIfInBounds_toArray, List.set_cons_zero, List.set_cons_succ]
    refine wpAnyN_one (i := 16) (o := ?o16_d) (by kernel_rfl) ?hi16_d ?hw16_d ?st16_d
    case hi16_d => rw [List.getElem?_toArray]; exact rfl
    case hw16_d => exact rfl
    intro K hK
    have HK16 : Hid _ := hK
    clear hK
    go_simp
    refine HK16.out _ _ ⟨fun h => absurd h (by decide +kernel), ?_⟩
    clear HK16 K
    try simp only [Act.put, List.setIfInBounds_toArray, List.set_cons_zero, List.set_cons_succ]
    refine wpAnyN_done (by kernel_rfl) ?_ _
    go_wp2_with fail
    clear sz sg sx0 sx1 sx2 sx3 sy0 sy1 sy2 sy3 sz0 sz1 sz2 sz3 sf
    obtain ⟨w5, hw⟩ : ∃ u, u = ((((w4.setCell ⟨s, 9, none⟩ (.int .u64 (limb Z 0 : Nat))).setCell ⟨s, 10, none⟩ (.int .u64 (limb Z 1 : Nat))).setCell ⟨s, 11, none⟩ (.int .u64 (limb Z 2 : Nat))).setCell ⟨s, 12, none⟩ (.int .u64 (limb Z 3 : Nat))) := ⟨_, rfl⟩
    rw [← hw]
    have H5 : Hid (FieldB w5 g PP ∧ SpotB w5 s g x y Z ∧ Own4 w5 b2 sl ∧ Own4 w5 b3 sq ∧ Own4 w5 b4 mid ∧ ButC s w w5) := by
     rw [hw]
     have h := H3.out
     exact ⟨(h.1.call I4.out).put4s HN.out.1, (h.2.1.call I4.out).setz, (h.2.2.1.call I4.out).put4s HN.out.2.1, (h.2.2.2.1.call I4.out).put4s HN.out.2.2.1, (h.2.2.2.2.1.call I4.out).put4s HN.out.2.2.2, (h.2.2.2.2.2.call I4.out).put4s⟩
    clear hw H3 I4
    refine wp_region_N (fun w' => Below w5.heap.size w5 w') 22 23 rfl (by kernel_rfl) ?_
    refine wpAnyN_takeF (i := 0) (oi := ?o0_e) (v := ?v0_e) ?hi0_e (by kernel_rfl) (by kernel_rfl) (by kernel_rfl) (by decide) ?hQ0_e ?hy0_e (Below.drew (Below.refl _ _)) ?more0_e
    case hi0_e => rw [List.getElem?_toArray]; exact rfl
    case hQ0_e => exact fun _ _ _ h => h
    case hy0_e =>
     refine Or.inl ⟨by rfl, ?_⟩
     intro w' hSw
     clear hSw
     go_simp
     try with_reducible rfl
    simp only [Act.put, List.setIfInBounds_toArray, List.set_cons_zero, List.set_cons_succ]
    refine wpAnyN_takeF (i := 1) (oi := ?o1_e) (v := ?v1_e) ?hi1_e (by kernel_rfl) (by kernel_rfl) (by kernel_rfl) (by decide) ?hQ1_e ?hy1_e (Below.drew (Below.refl _ _)) ?more1_e
    case hi1_e => rw [List.getElem?_toArray]; exact rfl
    case hQ1_e => exact fun _ _ _ h => h
    case hy1_e =>
     refine Or.inl ⟨by rfl, ?_⟩
     intro w' hSw
     clear hSw
     go_simp
     try with_reducible rfl
    simp only [Act.put, List.setIfInBounds_toArray, List.set_cons_zero, List.set_cons_succ]
    refine wpAnyN_takeF (i := 2) (oi := ?o2_e) (v := ?v2_e) ?hi2_e (by kernel_rfl) (by kernel_rfl) (by kernel_rfl) (by decide) ?hQ2_e ?hy2_e (Below.drew (Below.refl _ _)) ?more2_e
    case hi2_e => rw [List.getElem?_toArray]; exact rfl
    case hQ2_e => exact fun _ _ _ h => h
    case hy2_e =>
     refine Or.inl ⟨by rfl, ?_⟩
     intro w' hSw
     clear hSw
     go_simp
     try with_reducible rfl
    simp only [Act.put, List.setIfInBounds_toArray, List.set_cons_zero, List.set_cons_succ]
    refine wpAnyN_takeF (i := 3) (oi := ?o3_e) (v := ?v3_e) ?hi3_e (by kernel_rfl) (by kernel_rfl) (by kernel_rfl) (by decide) ?hQ3_e ?hy3_e (Below.drew (Below.refl _ _)) ?more3_e
    case hi3_e => rw [List.getElem?_toArray]; exact rfl
    case hQ3_e => exact fun _ _ _ h => h
    case hy3_e =>
     refine Or.inl ⟨by rfl, ?_⟩
     intro w' hSw
     clear hSw
     go_simp
     try with_reducible rfl
    simp only [Act.put, List.setIfInBounds_toArray, List.set_cons_zero, List.set_cons_succ]
    refine wpAnyN_take (i := 4) (oi := ?o4_e) (v := ?v4_e) ?hi4_e (by kernel_rfl) (by kernel_rfl) (by kernel_rfl) (by kernel_rfl) (by decide) (by kernel_rfl) ?hQ4_e ?hy4_e (Below.drew (Below.refl _ _)) ?more4_e
    case hi4_e => rw [List.getElem?_toArray]; exact rfl
    case hQ4_e => exact fun _ _ _ h => h
    case hy4_e =>
     refine Or.inl ⟨by rfl, ?_⟩
     intro w' hSw
     obtain ⟨sz, sg, sx0, sx1, sx2, sx3, sy0, sy1, sy2, sy3, sz0, sz1, sz2, sz3, sf⟩ := H5.out.2.1.call hSw
     obtain ⟨⟨l0, l1, l2, l3⟩, -, lz⟩ := (Own4.call H5.out.2.2.1 hSw).facts
     obtain ⟨⟨m0, m1, m2, m3⟩, -, mz⟩ := (Own4.call H5.out.2.2.2.2.1 hSw).facts
     clear hSw
     go_simp
     try with_reducible rfl
    simp only [Act.put, List.setIfInBounds_toArray, List.set_cons_zero, List.set_cons_succ]
    refine wpAnyN_takeF (i := 5) (oi := ?o5_e) (v := ?v5_e) ?hi5_e (by kernel_rfl) (by kernel_rfl) (by kernel_rfl) (by decide) ?hQ5_e ?hy5_e (Below.drew (Below.refl _ _)) ?more5_e
    case hi5_e => rw [List.getElem?_toArray]; exact rfl
    case hQ5_e => exact fun _ _ _ h => h
    case hy5_e =>
     refine Or.inl ⟨by rfl, ?_⟩
     intro w' hSw
     clear hSw
     go_simp
     try with_reducible rfl
    simp only [Act.put, List.setIfInBounds_toArray, List.set_cons_zero, List.set_cons_succ]
    refine wpAnyN_takeF (i := 6) (oi := ?o6_e) (v := ?v6_e) ?hi6_e (by kernel_rfl) (by kernel_rfl) (by kernel_rfl) (by decide) ?hQ6_e ?hy6_e (Below.drew (Below.refl _ _)) ?more6_e
    case hi6_e => rw [List.getElem?_toArray]; exact rfl
    case hQ6_e => exact fun _ _ _ h => h
    case hy6_e =>
     refine Or.inl ⟨by rfl, ?_⟩
     intro w' hSw
     clear hSw
     go_simp
     try with_reducible rfl
    simp only [Act.put, List.setIfInBounds_toArray, List.set_cons_zero, List.set_cons_succ]
    refine wpAnyN_takeF (i := 7) (oi := ?o7_e) (v := ?v7_e) ?hi7_e (by kernel_rfl) (by kernel_rfl) (by kernel_rfl) (by decide) ?hQ7_e ?hy7_e (Below.drew (Below.refl _ _)) ?more7_e
    case hi7_e => rw [List.getElem?_toArray]; exact rfl
    case hQ7_e => exact fun _ _ _ h => h
    case hy7_e =>
     refine Or.inl ⟨by rfl, ?_⟩
     intro w' hSw
     clear hSw
     go_simp
     try with_reducible rfl
    simp only [Act.put, List.setIfInBounds_toArray, List.set_cons_zero, List.set_cons_succ]
    refine wpAnyN_take (i := 8) (oi := ?o8_e) (v := ?v8_e) ?hi8_e (by kernel_rfl) (by kernel_rfl) (by kernel_rfl) (by kernel_rfl) (by decide) (by kernel_rfl) ?hQ8_e ?hy8_e (Below.drew (Below.refl _ _)) ?more8_e
    case hi8_e => rw [List.getElem?_toArray]; exact rfl
    case hQ8_e => exact fun _ _ _ h => h
    case hy8_e =>
     refine Or.inl ⟨by rfl, ?_⟩
     intro w' hSw
     obtain ⟨sz, sg, sx0, sx1, sx2, sx3, sy0, sy1, sy2, sy3, sz0, sz1, sz2, sz3, sf⟩ := H5.out.2.1.call hSw
     obtain ⟨⟨l0, l1, l2, l3⟩, -, lz⟩ := (Own4.call H5.out.2.2.1 hSw).facts
     obtain ⟨⟨m0, m1, m2, m3⟩, -, mz⟩ := (Own4.call H5.out.2.2.2.2.1 hSw).facts
     clear hSw
     go_simp
     try with_reducible rfl
    simp only [Act.put, List.setIfInBounds_toArray, List.set_cons_zero, List.set_cons_succ]
    refine wpAnyN_take (i := 9) (oi := ?o9_e) (v := ?v9_e) ?hi9_e (by kernel_rfl) (by kernel_rfl) (by kernel_rfl) (by kernel_rfl) (by decide) (by kernel_rfl) ?hQ9_e ?hy9_e (Below.drew (Below.refl _ _)) ?more9_e
    case hi9_e => rw [List.getElem?_toArray]; exact rfl
    case hQ9_e => exact fun _ _ _ h => h
    case hy9_e =>
     refine Or.inl ⟨by rfl, ?_⟩
     intro w' hSw
     obtain ⟨sz, sg, sx0, sx1, sx2, sx3, sy0, sy1, sy2, sy3, sz0, sz1, sz2, sz3, sf⟩ := H5.out.2.1.call hSw
     obtain ⟨⟨l0, l1, l2, l3⟩, -, lz⟩ := (Own4.call H5.out.2.2.1 hSw).facts
     obtain ⟨⟨m0, m1, m2, m3⟩, -, mz⟩ := (Own4.call H5.out.2.2.2.2.1 hSw).facts
     clear hSw
     go_simp
     try with_reducible rfl
    simp only [Act.put, List.setIfInBounds_toArray, List.set_cons_zero, List.set_cons_succ]
    refine wpAnyN_take (i := 10) (oi := ?o10_e) (v := ?v10_e) ?hi10_e (by kernel_rfl) (by kernel_rfl) (by kernel_rfl) (by kernel_rfl) (by decide) (by kernel_rfl) ?hQ10_e ?hy10_e (Below.drew (Below.refl _ _)) ?more10_e
    case hi10_e => rw [List.getElem?_toArray]; exact rfl
    case hQ10_e => exact fun _ _ _ h => h
    case hy10_e =>
     refine Or.inl ⟨by rfl, ?_⟩
     intro w' hSw
     obtain ⟨sz, sg, sx0, sx1, sx2, sx3, sy0, sy1, sy2, sy3, sz0, sz1, sz2, sz3, sf⟩ := H5.out.2.1.call hSw
     obtain ⟨⟨l0, l1, l2, l3⟩, -, lz⟩ := (Own4.call H5.out.2.2.1 hSw).facts
     obtain ⟨⟨m0, m1, m2, m3⟩, -, mz⟩ := (Own4.call H5.out.2.2.2.2.1 hSw).facts
     clear hSw
     go_simp
     try with_reducible rfl
    simp only [Act.put, List.setIfInBounds_toArray, List.set_cons_zero, List.set_cons_succ]
    refine wpAnyN_takeF (i := 12) (oi := ?o12_e) (v := ?v12_e) ?hi12_e (by kernel_rfl) (by kernel_rfl) (by kernel_rfl) (by decide) ?hQ12_e ?hy12_e (Below.drew (Below.refl _ _)) ?more12_e
    case hi12_e => rw [List.getElem?_toArray]; exact rfl
    case hQ12_e => exact fun _ _ _ h => h
    case hy12_e =>
     refine Or.inl ⟨by rfl, ?_⟩
     intro w' hSw
     clear hSw
     go_simp
     try with_reducible rfl
    simp only [Act.put, List.setIfInBounds_toArray, List.set_cons_zero, List.set_cons_succ]
    refine wpAnyN_takeF (i := 13) (oi := ?o13_e) (v := ?v13_e) ?hi13_e (by kernel_rfl) (by kernel_rfl) (by kernel_rfl) (by decide) ?hQ13_e ?hy13_e (Below.drew (Below.refl _ _)) ?more13_e
    case hi13_e => rw [List.getElem?_toArray]; exact rfl
    case hQ13_e => exact fun _ _ _ h => h
    case hy13_e =>
     refine Or.inl ⟨by rfl, ?_⟩
     intro w' hSw
     clear hSw
     go_simp
     try with_reducible rfl
    simp only [Act.put, List.setIfInBounds_toArray, List.set_cons_zero, List.set_cons_succ]
    refine wpAnyN_takeF (i := 14) (oi := ?o14_e) (v := ?v14_e) ?hi14_e (by kernel_rfl) (by kernel_rfl) (by kernel_rfl) (by decide) ?hQ14_e ?hy14_e (Below.drew (Below.refl _ _)) ?more14_e
    case hi14_e => rw [List.getElem?_toArray]; exact rfl
    case hQ14_e => exact fun _ _ _ h => h
    case hy14_e =>
     refine Or.inl ⟨by rfl, ?_⟩
     intro w' hSw
     clear hSw
     go_simp
     try with_reducible rfl
    simp only [Act.put, List.setIfInBounds_toArray, List.set_cons_zero, List.set_cons_succ]
    refine wpAnyN_takeL (i := 15) (oi := ?o15_e) (v := ?v15_e) [18, 19, 22] ?hi15_e (by kernel_rfl) (by kernel_rfl) (by kernel_rfl) (by kernel_rfl) (by decide) (by decide) (by kernel_rfl) ?hQ15_e ?hy15_e (Below.drew (Below.refl _ _)) ?more15_e
    case hi15_e => rw [List.getElem?_toArray]; exact rfl
    case hQ15_e => exact fun _ _ _ h => h
    case hy15_e =>
     refine Or.inl ⟨by rfl, ?_⟩
     intro w' hSw
     obtain ⟨sz, sg, sx0, sx1, sx2, sx3, sy0, sy1, sy2, sy3, sz0, sz1, sz2, sz3, sf⟩ := H5.out.2.1.call hSw
     obtain ⟨⟨l0, l1, l2, l3⟩, -, lz⟩ := (Own4.call H5.out.2.2.1 hSw).facts
     obtain ⟨⟨m0, m1, m2, m3⟩, -, mz⟩ := (Own4.call H5.out.2.2.2.2.1 hSw).facts
     clear hSw
     go_simp
     try with_reducible rfl
    simp only [Act.put, List.setIfInBounds_toArray, List.set_cons_zero, List.set_cons_succ]
    refine wpAnyN_takeL (i := 16) (oi := ?o16_e) (v := ?v16_e) [18, 19, 22] ?hi16_e (by kernel_rfl) (by kernel_rfl) (by kernel_rfl) (by kernel_rfl) (by decide) (by decide) (by kernel_rfl) ?hQ16_e ?hy16_e (Below.drew (Below.refl _ _)) ?more16_e
    case hi16_e => rw [List.getElem?_toArray]; exact rfl
    case hQ16_e => exact fun _ _ _ h => h
    case hy16_e =>
     refine Or.inl ⟨by rfl, ?_⟩
     intro w' hSw
     obtain ⟨sz, sg, sx0, sx1, sx2, sx3, sy0, sy1, sy2, sy3, sz0, sz1, sz2, sz3, sf⟩ := H5.out.2.1.call hSw
     obtain ⟨⟨l0, l1, l2, l3⟩, -, lz⟩ := (Own4.call H5.out.2.2.1 hSw).facts
     obtain ⟨⟨m0, m1, m2, m3⟩, -, mz⟩ := (Own4.call H5.out.2.2.2.2.1 hSw).facts
     clear hSw
     go_simp
     try with_reducible rfl
    simp only [Act.put, List.setIfInBounds_toArray, List.set_cons_zero, List.set_cons_succ]
    refine wpAnyN_takeL (i := 17) (oi := ?o17_e) (v := ?v17_e) [18, 19, 22] ?hi17_e (by kernel_rfl) (by kernel_rfl) (by kernel_rfl) (by kernel_rfl) (by decide) (by decide) (by kernel_rfl) ?hQ17_e ?hy17_e (Below.drew (Below.refl _ _)) ?more17_e
    case hi17_e => rw [List.getElem?_toArray]; exact rfl
    case hQ17_e => exact fun _ _ _ h => h
    case hy17_e =>
     refine Or.inl ⟨by rfl, ?_⟩
     intro w' hSw
     obtain ⟨sz, sg, sx0, sx1, sx2, sx3, sy0, sy1, sy2, sy3, sz0, sz1, sz2, sz3, sf⟩ := H5.out.2.1.call hSw
     obtain ⟨⟨l0, l1, l2, l3⟩, -, lz⟩ := (Own4.call H5.out.2.2.1 hSw).facts
     obtain ⟨⟨m0, m1, m2, m3⟩, -, mz⟩ := (Own4.call H5.out.2.2.2.2.1 hSw).facts
     clear hSw
     go_simp
     try with_reducible rfl
    simp only [Act.put, List.setIfInBounds_toArray, List.set_cons_zero, List.set_cons_succ]
    refine wpAnyN_one (i := 11) (o := ?o11_e) (by kernel_rfl) ?hi11_e ?hw11_e ?st11_e
    case hi11_e => rw [List.getElem?_toArray]; exact rfl
    case hw11_e => exact rfl
    intro K hK
    have HK11 : Hid _ := hK
    clear hK
    go_simp
    refine (K6.out _ (H5.out.1.call (Below.drew (Below.refl _ _)))).mono ?_
    rintro e w6 ⟨rfl, hq⟩
    have I6 : Hid (Below w5.heap.size w5 w6) := below_call0 (Below.drew (Below.refl _ _)) hq
    clear hq
    go_wp2_with fail
    refine HK11.out _ _ ⟨fun _ => I6.out, ?_⟩
    clear HK11 K
    try simp only [Act.put, List.setIfInBounds_toArray, List.set_cons_zero, List.set_cons_succ]
    refine wpAnyN_one (i := 18) (o := ?o18_e) (by kernel_rfl) ?hi18_e ?hw18_e ?st18_e
    case hi18_e => rw [List.getElem?_toArray]; exact rfl
    case hw18_e => exact rfl
    intro K hK
    have HK18 : Hid _ := hK
    clear hK
    go_simp
    refine (K7.out _ (H5.out.1.call I6.out)).mono ?_
    rintro e w7 ⟨rfl, hq⟩
    have I7 : Hid (Below w5.heap.size w5 w7) := below_call0 I6.out hq
    clear hq
    go_wp2_with fail
    refine HK18.out _ _ ⟨fun _ => I7.out, ?_⟩
    clear HK18 K
    try simp only [Act.put, List.setIfInBounds_toArray, List.set_cons_zero, List.set_cons_succ]
    refine wpAnyN_one (i := 19) (o := ?o19_e) (by kernel_rfl) ?hi19_e ?hw19_e ?st19_e
    case hi19_e => rw [List.getElem?_toArray]; exact rfl
    case hw19_e => exact rfl
    intro K hK
    have HK19 : Hid _ := hK
    clear hK
    go_simp
    refine (K8.out _ (H5.out.1.call I7.out)).mono ?_
    rintro e w8 ⟨rfl, hq⟩
    have I8 : Hid (Below w5.heap.size w5 w8) := below_call0 I7.out hq
    clear hq
    obtain ⟨sz, sg, sx0, sx1, sx2, sx3, sy0, sy1, sy2, sy3, sz0, sz1, sz2, sz3, sf⟩ := H5.out.2.1.call I8.out
    go_wp2_with fail
    refine HK19.out _ _ ⟨fun _ => I8.out, ?_⟩
    clear HK19 K
    try simp only [Act.put, List.setIfInBounds_toArray, List.set_cons_zero, List.set_cons_succ]
    refine wpAnyN_takeF (i := 20) (oi := ?o20_e) (v := ?v20_e) ?hi20_e (by kernel_rfl) (by kernel_rfl) (by kernel_rfl) (by decide) ?hQ20_e ?hy20_e I8.out ?more20_e
    case hi20_e => rw [List.getElem?_toArray]; exact rfl
    case hQ20_e => exact fun _ _ _ h => h
    case hy20_e =>
     refine Or.inl ⟨by rfl, ?_⟩
     intro w' hSw
     clear hSw
     go_simp
     try with_reducible rfl
    simp only [Act.put, List.setIfInBounds_toArray, List.set_cons_zero, List.set_cons_succ]
    refine wpAnyN_takeF (i := 21) (oi := ?o21_e) (v := ?v21_e) ?hi21_e (by kernel_rfl) (by kernel_rfl) (by kernel_rfl) (by decide) ?hQ21_e ?hy21_e I8.out ?more21_e
    case hi21_e => rw [List.getElem?_toArray]; exact rfl
    case hQ21_e => exact fun _ _ _ h => h
    case hy21_e =>
     refine Or.inl ⟨by rfl, ?_⟩
     intro w' hSw
     clear hSw
     go_simp
     try with_reducible rfl
    simp only [Act.put, List.setIfInBounds_toArray, List.set_cons_zero, List.set_cons_succ]
    refine wpAnyN_one (i := 22) (o := ?o22_e) (by kernel_rfl) ?hi22_e ?hw22_e ?st22_e
    case hi22_e => rw [List.getElem?_toArray]; exact rfl
    case hw22_e => exact rfl
    intro K hK
    have HK22 : Hid _ := hK
    clear hK
    go_simp
    refine HK22.out _ _ ⟨fun h => absurd h (by decide +kernel), ?_⟩
    clear HK22 K
    try simp only [Act.put, List.setIfInBounds_toArray, List.set_cons_zero, List.set_cons_succ]
    refine wpAnyN_done (by kernel_rfl) ?_ _
    go_wp2_with fail
    clear sz sg sx0 sx1 sx2 sx3 sy0 sy1 sy2 sy3 sz0 sz1 sz2 sz3 sf
    obtain ⟨w9, hw⟩ : ∃ u, u = ((((w8.setCell ⟨s, 1, none⟩ (.int .u64 (limb X 0 : Nat))).setCell ⟨s, 2, none⟩ (.int .u64 (limb X 1 : Nat))).setCell ⟨s, 3, none⟩ (.int .u64 (limb X 2 : Nat))).setCell ⟨s, 4, none⟩ (.int .u64 (limb X 3 : Nat))) := ⟨_, rfl⟩
    rw [← hw]
    have H9 : Hid (FieldB w9 g PP ∧ SpotB w9 s g X y Z ∧ Own4 w9 b2 sl ∧ Own4 w9 b3 sq ∧ Own4 w9 b4 mid ∧ ButC s w w9) := by
     rw [hw]
     have h := H5.out
     exact ⟨(h.1.call I8.out).put4s HN.out.1, (h.2.1.call I8.out).setx, (h.2.2.1.call I8.out).put4s HN.out.2.1, (h.2.2.2.1.call I8.out).put4s HN.out.2.2.1, (h.2.2.2.2.1.call I8.out).put4s HN.out.2.2.2, (h.2.2.2.2.2.call I8.out).put4s⟩
    clear hw H5 I6 I7 I8
    refine wp_region_N (fun w' => Below w9.heap.size w9 w') 31 32 rfl (by kernel_rfl) ?_
    refine wpAnyN_takeF (i := 0) (oi := ?o0_f) (v := ?v0_f) ?hi0_f (by kernel_rfl) (by kernel_rfl) (by kernel_rfl) (by decide) ?hQ0_f ?hy0_f (Below.drew (Below.refl _ _)) ?more0_f
    case hi0_f => rw [List.getElem?_toArray]; exact rfl
    case hQ0_f => exact fun _ _ _ h => h
    case hy0_f =>
     refine Or.inl ⟨by rfl, ?_⟩
     intro w' hSw
     clear hSw
     go_simp
     try with_reducible rfl
    simp only [Act.put, List.setIfInBounds_toArray, List.set_cons_zero, List.set_cons_succ]
    refine wpAnyN_takeF (i := 1) (oi := ?o1_f) (v := ?v1_f) ?hi1_f (by kernel_rfl) (by kernel_rfl) (by kernel_rfl) (by decide) ?hQ1_f ?hy1_f (Below.drew (Below.refl _ _)) ?more1_f
    case hi1_f => rw [List.getElem?_toArray]; exact rfl
    case hQ1_f => exact fun _ _ _ h => h
    case hy1_f =>
     refine Or.inl ⟨by rfl, ?_⟩
     intro w' hSw
     clear hSw
     go_simp
     try with_reducible rfl
    simp only [Act.put, List.setIfInBounds_toArray, List.set_cons_zero, List.set_cons_succ]
    refine wpAnyN_takeF (i := 2) (oi := ?o2_f) (v := ?v2_f) ?hi2_f (by kernel_rfl) (by kernel_rfl) (by kernel_rfl) (by decide) ?hQ2_f ?hy2_f (Below.drew (Below.refl _ _)) ?more2_f
    case hi2_f => rw [List.getElem?_toArray]; exact rfl
    case hQ2_f => exact fun _ _ _ h => h
    case hy2_f =>
     refine Or.inl ⟨by rfl, ?_⟩
     intro w' hSw
     clear hSw
     go_simp
     try with_reducible rfl
    simp only [Act.put, List.setIfInBounds_toArray, List.set_cons_zero, List.set_cons_succ]
    refine wpAnyN_takeF (i := 3) (oi := ?o3_f) (v := ?v3_f) ?hi3_f (by kernel_rfl) (by kernel_rfl) (by kernel_rfl) (by decide) ?hQ3_f ?hy3_f (Below.drew (Below.refl _ _)) ?more3_f
    case hi3_f => rw [List.getElem?_toArray]; exact rfl
    case hQ3_f => exact fun _ _ _ h => h
    case hy3_f =>
     refine Or.inl ⟨by rfl, ?_⟩
     intro w' hSw
     clear hSw
     go_simp
     try with_reducible rfl
    simp only [Act.put, List.setIfInBounds_toArray, List.set_cons_zero, List.set_cons_succ]
    refine wpAnyN_take (i := 4) (oi := ?o4_f) (v := ?v4_f) ?hi4_f (by kernel_rfl) (by kernel_rfl) (by kernel_rfl) (by kernel_rfl) (by decide) (by kernel_rfl) ?hQ4_f ?hy4_f (Below.drew (Below.refl _ _)) ?more4_f
    case hi4_f => rw [List.getElem?_toArray]; exact rfl
    case hQ4_f => exact fun _ _ _ h => h
    case hy4_f =>
     refine Or.inl ⟨by rfl, ?_⟩
     intro w' hSw
     obtain ⟨sz, sg, sx0, sx1, sx2, sx3, sy0, sy1, sy2, sy3, sz0, sz1, sz2, sz3, sf⟩ := H9.out.2.1.call hSw
     obtain ⟨⟨l0, l1, l2, l3⟩, -, lz⟩ := (Own4.call H9.out.2.2.1 hSw).facts
     obtain ⟨⟨q0, q1, q2, q3⟩, -, qz⟩ := (Own4.call H9.out.2.2.2.1 hSw).facts
     obtain ⟨⟨m0, m1, m2, m3⟩, -, mz⟩ := (Own4.call H9.out.2.2.2.2.1 hSw).facts
     clear hSw
     go_simp
     try with_reducible rfl
    simp only [Act.put, List.setIfInBounds_toArray, List.set_cons_zero, List.set_cons_succ]
    refine wpAnyN_takeF (i := 5) (oi := ?o5_f) (v := ?v5_f) ?hi5_f (by kernel_rfl) (by kernel_rfl) (by kernel_rfl) (by decide) ?hQ5_f ?hy5_f (Below.drew (Below.refl _ _)) ?more5_f
    case hi5_f => rw [List.getElem?_toArray]; exact rfl
    case hQ5_f => exact fun _ _ _ h => h
    case hy5_f =>
     refine Or.inl ⟨by rfl, ?_⟩
     intro w' hSw
     clear hSw
     go_simp
     try with_reducible rfl
    simp only [Act.put, List.setIfInBounds_toArray, List.set_cons_zero, List.set_cons_succ]
    refine wpAnyN_takeF (i := 6) (oi := ?o6_f) (v := ?v6_f) ?hi6_f (by kernel_rfl) (by kernel_rfl) (by kernel_rfl) (by decide) ?hQ6_f ?hy6_f (Below.drew (Below.refl _ _)) ?more6_f
    case hi6_f => rw [List.getElem?_toArray]; exact rfl
    case hQ6_f => exact fun _ _ _ h => h
    case hy6_f =>
     refine Or.inl ⟨by rfl, ?_⟩
     intro w' hSw
     clear hSw
     go_simp
     try with_reducible rfl
    simp only [Act.put, List.setIfInBounds_toArray, List.set_cons_zero, List.set_cons_succ]
    refine wpAnyN_takeF (i := 7) (oi := ?o7_f) (v := ?v7_f) ?hi7_f (by kernel_rfl) (by kernel_rfl) (by kernel_rfl) (by decide) ?hQ7_f ?hy7_f (Below.drew (Below.refl _ _)) ?more7_f
    case hi7_f => rw [List.getElem?_toArray]; exact rfl
    case hQ7_f => exact fun _ _ _ h => h
    case hy7_f =>
     refine Or.inl ⟨by rfl, ?_⟩
     intro w' hSw
     clear hSw
     go_simp
     try with_reducible rfl
    simp only [Act.put, List.setIfInBounds_toArray, List.set_cons_zero, List.set_cons_succ]
    refine wpAnyN_takeL (i := 8) (oi := ?o8_f) (v := ?v8_f) [20, 28, 31] ?hi8_f (by kernel_rfl) (by kernel_rfl) (by kernel_rfl) (by kernel_rfl) (by decide) (by decide) (by kernel_rfl) ?hQ8_f ?hy8_f (Below.drew (Below.refl _ _)) ?more8_f
    case hi8_f => rw [List.getElem?_toArray]; exact rfl
    case hQ8_f => exact fun _ _ _ h => h
    case hy8_f =>
     refine Or.inl ⟨by rfl, ?_⟩
     intro w' hSw
     obtain ⟨sz, sg, sx0, sx1, sx2, sx3, sy0, sy1, sy2, sy3, sz0, sz1, sz2, sz3, sf⟩ := H9.out.2.1.call hSw
     obtain ⟨⟨l0, l1, l2, l3⟩, -, lz⟩ := (Own4.call H9.out.2.2.1 hSw).facts
     obtain ⟨⟨q0, q1, q2, q3⟩, -, qz⟩ := (Own4.call H9.out.2.2.2.1 hSw).facts
     obtain ⟨⟨m0, m1, m2, m3⟩, -, mz⟩ := (Own4.call H9.out.2.2.2.2.1 hSw).facts
     clear hSw
     go_simp
     try with_reducible rfl
    simp only [Act.put, List.setIfInBounds_toArray, List.set_cons_zero, List.set_cons_succ]
    refine wpAnyN_takeL (i := 9) (oi := ?o9_f) (v := ?v9_f) [20, 28, 31] ?hi9_f (by kernel_rfl) (by kernel_rfl) (by kernel_rfl) (by kernel_rfl) (by decide) (by decide) (by kernel_rfl) ?hQ9_f ?hy9_f (Below.drew (Below.refl _ _)) ?more9_f
    case hi9_f => rw [List.getElem?_toArray]; exact rfl
    case hQ9_f => exact fun _ _ _ h => h
    case hy9_f =>
     refine Or.inl ⟨by rfl, ?_⟩
     intro w' hSw
     obtain ⟨sz, sg, sx0, sx1, sx2, sx3, sy0, sy1, sy2, sy3, sz0, sz1, sz2, sz3, sf⟩ := H9.out.2.1.call hSw
     obtain ⟨⟨l0, l1, l2, l3⟩, -, lz⟩ := (Own4.call H9.out.2.2.1 hSw).facts
     obtain ⟨⟨q0, q1, q2, q3⟩, -, qz⟩ := (Own4.call H9.out.2.2.2.1 hSw).facts
     obtain ⟨⟨m0, m1, m2, m3⟩, -, mz⟩ := (Own4.call H9.out.2.2.2.2.1 hSw).facts
     clear hSw
     go_simp
     try with_reducible rfl
    simp only [Act.put, List.setIfInBounds_toArray, List.set_cons_zero, List.set_cons_succ]
    refine wpAnyN_takeF (i := 10) (oi := ?o10_f) (v := ?v10_f) ?hi10_f (by kernel_rfl) (by kernel_rfl) (by kernel_rfl) (by decide) ?hQ10_f ?hy10_f (Below.drew (Below.refl _ _)) ?more10_f
    case hi10_f => rw [List.getElem?_toArray]; exact rfl
    case hQ10_f => exact fun _ _ _ h => h
    case hy10_f =>
     refine Or.inl ⟨by rfl, ?_⟩
     intro w' hSw
     clear hSw
     go_simp
     try with_reducible rfl
    simp only [Act.put, List.setIfInBounds_toArray, List.set_cons_zero, List.set_cons_succ]
    refine wpAnyN_takeF (i := 11) (oi := ?o11_f) (v := ?v11_f) ?hi11_f (by kernel_rfl) (by kernel_rfl) (by kernel_rfl) (by decide) ?hQ11_f ?hy11_f (Below.drew (Below.refl _ _)) ?more11_f
    case hi11_f => rw [List.getElem?_toArray]; exact rfl
    case hQ11_f => exact fun _ _ _ h => h
    case hy11_f =>
     refine Or.inl ⟨by rfl, ?_⟩
     intro w' hSw
     clear hSw
     go_simp
     try with_reducible rfl
    simp only [Act.put, List.setIfInBounds_toArray, List.set_cons_zero, List.set_cons_succ]
    refine wpAnyN_takeF (i := 12) (oi := ?o12_f) (v := ?v12_f) ?hi12_f (by kernel_rfl) (by kernel_rfl) (by kernel_rfl) (by decide) ?hQ12_f ?hy12_f (Below.drew (Below.refl _ _)) ?more12_f
    case hi12_f => rw [List.getElem?_toArray]; exact rfl
    case hQ12_f => exact fun _ _ _ h => h
    case hy12_f =>
     refine Or.inl ⟨by rfl, ?_⟩
     intro w' hSw
     clear hSw
     go_simp
     try with_reducible rfl
    simp only [Act.put, List.setIfInBounds_toArray, List.set_cons_zero, List.set_cons_succ]
    refine wpAnyN_takeL (i := 13) (oi := ?o13_f) (v := ?v13_f) [19, 20, 28, 31] ?hi13_f (by kernel_rfl) (by kernel_rfl) (by kernel_rfl) (by kernel_rfl) (by decide) (by decide) (by kernel_rfl) ?hQ13_f ?hy13_f (Below.drew (Below.refl _ _)) ?more13_f
    case hi13_f => rw [List.getElem?_toArray]; exact rfl
    case hQ13_f => exact fun _ _ _ h => h
    case hy13_f =>
     refine Or.inl ⟨by rfl, ?_⟩
     intro w' hSw
     obtain ⟨sz, sg, sx0, sx1, sx2, sx3, sy0, sy1, sy2, sy3, sz0, sz1, sz2, sz3, sf⟩ := H9.out.2.1.call hSw
     obtain ⟨⟨l0, l1, l2, l3⟩, -, lz⟩ := (Own4.call H9.out.2.2.1 hSw).facts
     obtain ⟨⟨q0, q1, q2, q3⟩, -, qz⟩ := (Own4.call H9.out.2.2.2.1 hSw).facts
     obtain ⟨⟨m0, m1, m2, m3⟩, -, mz⟩ := (Own4.call H9.out.2.2.2.2.1 hSw).facts
     clear hSw
     go_simp
     try with_reducible rfl
    simp only [Act.put, List.setIfInBounds_toArray, List.set_cons_zero, List.set_cons_succ]
    refine wpAnyN_takeL (i := 14) (oi := ?o14_f) (v := ?v14_f) [19, 20, 28, 31] ?hi14_f (by kernel_rfl) (by kernel_rfl) (by kernel_rfl) (by kernel_rfl) (by decide) (by decide) (by kernel_rfl) ?hQ14_f ?hy14_f (Below.drew (Below.refl _ _)) ?more14_f
    case hi14_f => rw [List.getElem?_toArray]; exact rfl
    case hQ14_f => exact fun _ _ _ h => h
    case hy14_f =>
     refine Or.inl ⟨by rfl, ?_⟩
     intro w' hSw
     obtain ⟨sz, sg, sx0, sx1, sx2, sx3, sy0, sy1, sy2, sy3, sz0, sz1, sz2, sz3, sf⟩ := H9.out.2.1.call hSw
     obtain ⟨⟨l0, l1, l2, l3⟩, -, lz⟩ := (Own4.call H9.out.2.2.1 hSw).facts
     obtain ⟨⟨q0, q1, q2, q3⟩, -, qz⟩ := (Own4.call H9.out.2.2.2.1 hSw).facts
     obtain ⟨⟨m0, m1, m2, m3⟩, -, mz⟩ := (Own4.call H9.out.2.2.2.2.1 hSw).facts
     clear hSw
     go_simp
     try with_reducible rfl
    simp only [Act.put, List.setIfInBounds_toArray, List.set_cons_zero, List.set_cons_succ]
    refine wpAnyN_takeF (i := 15) (oi := ?o15_f) (v := ?v15_f) ?hi15_f (by kernel_rfl) (by kernel_rfl) (by kernel_rfl) (by decide) ?hQ15_f ?hy15_f (Below.drew (Below.refl _ _)) ?more15_f
    case hi15_f => rw [List.getElem?_toArray]; exact rfl
    case hQ15_f => exact fun _ _ _ h => h
    case hy15_f =>
     refine Or.inl ⟨by rfl, ?_⟩
     intro w' hSw
     clear hSw
     go_simp
     try with_reducible rfl
    simp only [Act.put, List.setIfInBounds_toArray, List.set_cons_zero, List.set_cons_succ]
    refine wpAnyN_takeF (i := 16) (oi := ?o16_f) (v := ?v16_f) ?hi16_f (by kernel_rfl) (by kernel_rfl) (by kernel_rfl) (by decide) ?hQ16_f ?hy16_f (Below.drew (Below.refl _ _)) ?more16_f
    case hi16_f => rw [List.getElem?_toArray]; exact rfl
    case hQ16_f => exact fun _ _ _ h => h
    case hy16_f =>
     refine Or.inl ⟨by rfl, ?_⟩
     intro w' hSw
     clear hSw
     go_simp
     try with_reducible rfl
    simp only [Act.put, List.setIfInBounds_toArray, List.set_cons_zero, List.set_cons_succ]
    refine wpAnyN_takeF (i := 17) (oi := ?o17_f) (v := ?v17_f) ?hi17_f (by kernel_rfl) (by kernel_rfl) (by kernel_rfl) (by decide) ?hQ17_f ?hy17_f (Below.drew (Below.refl _ _)) ?more17_f
    case hi17_f => rw [List.getElem?_toArray]; exact rfl
    case hQ17_f => exact fun _ _ _ h => h
    case hy17_f =>
     refine Or.inl ⟨by rfl, ?_⟩
     intro w' hSw
     clear hSw
     go_simp
     try with_reducible rfl
    simp only [Act.put, List.setIfInBounds_toArray, List.set_cons_zero, List.set_cons_succ]
    refine wpAnyN_takeL (i := 18) (oi := ?o18_f) (v := ?v18_f) [19, 20, 28, 31] ?hi18_f (by kernel_rfl) (by kernel_rfl) (by kernel_rfl) (by kernel_rfl) (by decide) (by decide) (by kernel_rfl) ?hQ18_f ?hy18_f (Below.drew (Below.refl _ _)) ?more18_f
    case hi18_f => rw [List.getElem?_toArray]; exact rfl
    case hQ18_f => exact fun _ _ _ h => h
    case hy18_f =>
     refine Or.inl ⟨by rfl, ?_⟩
     intro w' hSw
     obtain ⟨sz, sg, sx0, sx1, sx2, sx3, sy0, sy1, sy2, sy3, sz0, sz1, sz2, sz3, sf⟩ := H9.out.2.1.call hSw
     obtain ⟨⟨l0, l1, l2, l3⟩, -, lz⟩ := (Own4.call H9.out.2.2.1 hSw).facts
     obtain ⟨⟨q0, q1, q2, q3⟩, -, qz⟩ := (Own4.call H9.out.2.2.2.1 hSw).facts
     obtain ⟨⟨m0, m1, m2, m3⟩, -, mz⟩ := (Own4.call H9.out.2.2.2.2.1 hSw).facts
     clear hSw
     go_simp
     try with_reducible rfl
    simp only [Act.put, List.setIfInBounds_toArray, List.set_cons_zero, List.set_cons_succ]
    refine wpAnyN_takeF (i := 21) (oi := ?o21_f) (v := ?v21_f) ?hi21_f (by kernel_rfl) (by kernel_rfl) (by kernel_rfl) (by decide) ?hQ21_f ?hy21_f (Below.drew (Below.refl _ _)) ?more21_f
    case hi21_f => rw [List.getElem?_toArray]; exact rfl
    case hQ21_f => exact fun _ _ _ h => h
    case hy21_f =>
     refine Or.inl ⟨by rfl, ?_⟩
     intro w' hSw
     clear hSw
     go_simp
     try with_reducible rfl
    simp only [Act.put, List.setIfInBounds_toArray, List.set_cons_zero, List.set_cons_succ]
    refine wpAnyN_takeF (i := 22) (oi := ?o22_f) (v := ?v22_f) ?hi22_f (by kernel_rfl) (by kernel_rfl) (by kernel_rfl) (by decide) ?hQ22_f ?hy22_f (Below.drew (Below.refl _ _)) ?more22_f
    case hi22_f => rw [List.getElem?_toArray]; exact rfl
    case hQ22_f => exact fun _ _ _ h => h
    case hy22_f =>
     refine Or.inl ⟨by rfl, ?_⟩
     intro w' hSw
     clear hSw
     go_simp
     try with_reducible rfl
    simp only [Act.put, List.setIfInBounds_toArray, List.set_cons_zero, List.set_cons_succ]
    refine wpAnyN_takeF (i := 23) (oi := ?o23_f) (v := ?v23_f) ?hi23_f (by kernel_rfl) (by kernel_rfl) (by kernel_rfl) (by decide) ?hQ23_f ?hy23_f (Below.drew (Below.refl _ _)) ?more23_f
    case hi23_f => rw [List.getElem?_toArray]; exact rfl
    case hQ23_f => exact fun _ _ _ h => h
    case hy23_f =>
     refine Or.inl ⟨by rfl, ?_⟩
     intro w' hSw
     clear hSw
     go_simp
     try with_reducible rfl
    simp only [Act.put, List.setIfInBounds_toArray, List.set_cons_zero, List.set_cons_succ]
    refine wpAnyN_takeL (i := 24) (oi := ?o24_f) (v := ?v24_f) [27, 28, 31] ?hi24_f (by kernel_rfl) (by kernel_rfl) (by kernel_rfl) (by kernel_rfl) (by decide) (by decide) (by kernel_rfl) ?hQ24_f ?hy24_f (Below.drew (Below.refl _ _)) ?more24_f
    case hi24_f => rw [List.getElem?_toArray]; exact rfl
    case hQ24_f => exact fun _ _ _ h => h
    case hy24_f =>
     refine Or.inl ⟨by rfl, ?_⟩
     intro w' hSw
     obtain ⟨sz, sg, sx0, sx1, sx2, sx3, sy0, sy1, sy2, sy3, sz0, sz1, sz2, sz3, sf⟩ := H9.out.2.1.call hSw
     obtain ⟨⟨l0, l1, l2, l3⟩, -, lz⟩ := (Own4.call H9.out.2.2.1 hSw).facts
     obtain ⟨⟨q0, q1, q2, q3⟩, -, qz⟩ := (Own4.call H9.out.2.2.2.1 hSw).facts
     obtain ⟨⟨m0, m1, m2, m3⟩, -, mz⟩ := (Own4.call H9.out.2.2.2.2.1 hSw).facts
     clear hSw
     go_simp
     try with_reducible rfl
    simp only [Act.put, List.setIfInBounds_toArray, List.set_cons_zero, List.set_cons_succ]
    refine wpAnyN_takeL (i := 25) (oi := ?o25_f) (v := ?v25_f) [27, 28, 31] ?hi25_f (by kernel_rfl) (by kernel_rfl) (by kernel_rfl) (by kernel_rfl) (by decide) (by decide) (by kernel_rfl) ?hQ25_f ?hy25_f (Below.drew (Below.refl _ _)) ?more25_f
    case hi25_f => rw [List.getElem?_toArray]; exact rfl
    case hQ25_f => exact fun _ _ _ h => h
    case hy25_f =>
     refine Or.inl ⟨by rfl, ?_⟩
     intro w' hSw
     obtain ⟨sz, sg, sx0, sx1, sx2, sx3, sy0, sy1, sy2, sy3, sz0, sz1, sz2, sz3, sf⟩ := H9.out.2.1.call hSw
     obtain ⟨⟨l0, l1, l2, l3⟩, -, lz⟩ := (Own4.call H9.out.2.2.1 hSw).facts
     obtain ⟨⟨q0, q1, q2, q3⟩, -, qz⟩ := (Own4.call H9.out.2.2.2.1 hSw).facts
     obtain ⟨⟨m0, m1, m2, m3⟩, -, mz⟩ := (Own4.call H9.out.2.2.2.2.1 hSw).facts
     clear hSw
     go_simp
     try with_reducible rfl
    simp only [Act.put, List.setIfInBounds_toArray, List.set_cons_zero, List.set_cons_succ]
    refine wpAnyN_takeL (i := 26) (oi := ?o26_f) (v := ?v26_f) [27, 28, 31] ?hi26_f (by kernel_rfl) (by kernel_rfl) (by kernel_rfl) (by kernel_rfl) (by decide) (by decide) (by kernel_rfl) ?hQ26_f ?hy26_f (Below.drew (Below.refl _ _)) ?more26_f
    case hi26_f => rw [List.getElem?_toArray]; exact rfl
    case hQ26_f => exact fun _ _ _ h => h
    case hy26_f =>
     refine Or.inl ⟨by rfl, ?_⟩
     intro w' hSw
     obtain ⟨sz, sg, sx0, sx1, sx2, sx3, sy0, sy1, sy2, sy3, sz0, sz1, sz2, sz3, sf⟩ := H9.out.2.1.call hSw
     obtain ⟨⟨l0, l1, l2, l3⟩, -, lz⟩ := (Own4.call H9.out.2.2.1 hSw).facts
     obtain ⟨⟨q0, q1, q2, q3⟩, -, qz⟩ := (Own4.call H9.out.2.2.2.1 hSw).facts
     obtain ⟨⟨m0, m1, m2, m3⟩, -, mz⟩ := (Own4.call H9.out.2.2.2.2.1 hSw).facts
     clear hSw
     go_simp
     try with_reducible rfl
    simp only [Act.put, List.setIfInBounds_toArray, List.set_cons_zero, List.set_cons_succ]
    refine wpAnyN_one (i := 19) (o := ?o19_f) (by kernel_rfl) ?hi19_f ?hw19_f ?st19_f
    case hi19_f => rw [List.getElem?_toArray]; exact rfl
    case hw19_f => exact rfl
    intro K hK
    have HK19 : Hid _ := hK
    clear hK
    go_simp
    refine (K9.out _ (H9.out.1.call (Below.drew (Below.refl _ _)))).mono ?_
    rintro e w10 ⟨rfl, hq⟩
    have I10 : Hid (Below w9.heap.size w9 w10) := below_call0 (Below.drew (Below.refl _ _)) hq
    clear hq
    go_wp2_with fail
    refine HK19.out _ _ ⟨fun _ => I10.out, ?_⟩
    clear HK19 K
    try simp only [Act.put, List.setIfInBounds_toArray, List.set_cons_zero, List.set_cons_succ]
    refine wpAnyN_one (i := 20) (o := ?o20_f) (by kernel_rfl) ?hi20_f ?hw20_f ?st20_f
    case hi20_f => rw [List.getElem?_toArray]; exact rfl
    case hw20_f => exact rfl
    intro K hK
    have HK20 : Hid _ := hK
    clear hK
    go_simp
    refine (K10.out _ (H9.out.1.call I10.out)).mono ?_
    rintro e w11 ⟨rfl, hq⟩
    have I11 : Hid (Below w9.heap.size w9 w11) := below_call0 I10.out hq
    clear hq
    go_wp2_with fail
    refine HK20.out _ _ ⟨fun _ => I11.out, ?_⟩
    clear HK20 K
    try simp only [Act.put, List.setIfInBounds_toArray, List.set_cons_zero, List.set_cons_succ]
    refine wpAnyN_one (i := 27) (o := ?o27_f) (by kernel_rfl) ?hi27_f ?hw27_f ?st27_f
    case hi27_f => rw [List.getElem?_toArray]; exact rfl
    case hw27_f => exact rfl
    intro K hK
    have HK27 : Hid _ := hK
    clear hK
    go_simp
    refine (K11.out _ (H9.out.1.call I11.out)).mono ?_
    rintro e w12 ⟨rfl, hq⟩
    have I12 : Hid (Below w9.heap.size w9 w12) := below_call0 I11.out hq
    clear hq
    go_wp2_with fail
    refine HK27.out _ _ ⟨fun _ => I12.out, ?_⟩
    clear HK27 K
    try simp only [Act.put, List.setIfInBounds_toArray, List.set_cons_zero, List.set_cons_succ]
    refine wpAnyN_one (i := 28) (o := ?o28_f) (by kernel_rfl) ?hi28_f ?hw28_f ?st28_f
    case hi28_f => rw [List.getElem?_toArray]; exact rfl
    case hw28_f => exact rfl
    intro K hK
    have HK28 : Hid _ := hK
    clear hK
    go_simp
    refine (K12.out _ (H9.out.1.call I12.out)).mono ?_
    rintro e w13 ⟨rfl, hq⟩
    have I13 : Hid (Below w9.heap.size w9 w13) := below_call0 I12.out hq
    clear hq
    obtain ⟨sz, sg, sx0, sx1, sx2, sx3, sy0, sy1, sy2, sy3, sz0, sz1, sz2, sz3, sf⟩ := H9.out.2.1.call I13.out
    go_wp2_with fail
    refine HK28.out _ _ ⟨fun _ => I13.out, ?_⟩
    clear HK28 K
    try simp only [Act.put, List.setIfInBounds_toArray, List.set_cons_zero, List.set_cons_succ]
    refine wpAnyN_takeF (i := 29) (oi := ?o29_f) (v := ?v29_f) ?hi29_f (by kernel_rfl) (by kernel_rfl) (by kernel_rfl) (by decide) ?hQ29_f ?hy29_f I13.out ?more29_f
    case hi29_f => rw [List.getElem?_toArray]; exact rfl
    case hQ29_f => exact fun _ _ _ h => h
    case hy29_f =>
     refine Or.inl ⟨by rfl, ?_⟩
     intro w' hSw
     clear hSw
     go_simp
     try with_reducible rfl
    simp only [Act.put, List.setIfInBounds_toArray, List.set_cons_zero, List.set_cons_succ]
    refine wpAnyN_takeF (i := 30) (oi := ?o30_f) (v := ?v30_f) ?hi30_f (by kernel_rfl) (by kernel_rfl) (by kernel_rfl) (by decide) ?hQ30_f ?hy30_f I13.out ?more30_f
    case hi30_f => rw [List.getElem?_toArray]; exact rfl
    case hQ30_f => exact fun _ _ _ h => h
    case hy30_f =>
     refine Or.inl ⟨by rfl, ?_⟩
     intro w' hSw
     clear hSw
     go_simp
     try with_reducible rfl
    simp only [Act.put, List.setIfInBounds_toArray, List.set_cons_zero, List.set_cons_succ]
    refine wpAnyN_one (i := 31) (o := ?o31_f) (by kernel_rfl) ?hi31_f ?hw31_f ?st31_f
    case hi31_f => rw [List.getElem?_toArray]; exact rfl
    case hw31_f => exact rfl
    intro K hK
    have HK31 : Hid _ := hK
    clear hK
    go_simp
    refine HK31.out _ _ ⟨fun h => absurd h (by decide +kernel), ?_⟩
    clear HK31 K
    try simp only [Act.put, List.setIfInBounds_toArray, List.set_cons_zero, List.set_cons_succ]
    refine wpAnyN_done (by kernel_rfl) ?_ _
    go_wp2_with fail
    clear sz sg sx0 sx1 sx2 sx3 sy0 sy1 sy2 sy3 sz0 sz1 sz2 sz3 sf
    obtain ⟨w14, hw⟩ : ∃ u, u = ((((w13.setCell ⟨s, 5, none⟩ (.int .u64 (limb Y 0 : Nat))).setCell ⟨s, 6, none⟩ (.int .u64 (limb Y 1 : Nat))).setCell ⟨s, 7, none⟩ (.int .u64 (limb Y 2 : Nat))).setCell ⟨s, 8, none⟩ (.int .u64 (limb Y 3 : Nat))) := ⟨_, rfl⟩
    rw [← hw]
    have H14 : Hid (FieldB w14 g PP ∧ SpotB w14 s g X Y Z ∧ Own4 w14 b2 sl ∧ Own4 w14 b3 sq ∧ Own4 w14 b4 mid ∧ ButC s w w14) := by
     rw [hw]
     have h := H9.out
     exact ⟨(h.1.call I13.out).put4s HN.out.1, (h.2.1.call I13.out).sety, (h.2.2.1.call I13.out).put4s HN.out.2.1, (h.2.2.2.1.call I13.out).put4s HN.out.2.2.1, (h.2.2.2.2.1.call I13.out).put4s HN.out.2.2.2, (h.2.2.2.2.2.call I13.out).put4s⟩
    clear hw H9 I10 I11 I12 I13
    refine bodyPost_end (results_none rfl _ _ _) rfl ⟨rfl, H14.out.2.1, H14.out.2.2.2.2.2⟩
end Go.Proofs.YtgmfecncfekjfaaDoor
