/- The reference's curve: a number times a point, bit by bit. -/
import Derived.Test.YtkdejflgmgljiaaDoorRf3E
import Derived.Test.YtkdejflgmgljiaaDoorBitN
namespace Go.Proofs.YtkdejflgmgljiaaDoor
open Go Go.RowKit Go.Lib

def TwC (s t : Nat × Nat × Nat) : Prop := ∀ w, Calls Tryd.prog 49 #[.agg #[.int .u64 (limb (s.1) 0 : Nat), .int .u64 (limb (s.1) 1 : Nat), .int .u64 (limb (s.1) 2 : Nat), .int .u64 (limb (s.1) 3 : Nat), .int .u64 (limb (s.2.1) 0 : Nat), .int .u64 (limb (s.2.1) 1 : Nat), .int .u64 (limb (s.2.1) 2 : Nat), .int .u64 (limb (s.2.1) 3 : Nat), .int .u64 (limb (s.2.2) 0 : Nat), .int .u64 (limb (s.2.2) 1 : Nat), .int .u64 (limb (s.2.2) 2 : Nat), .int .u64 (limb (s.2.2) 3 : Nat)]] w fun e w' => e = .returned (.agg #[.int .u64 (limb (t.1) 0 : Nat), .int .u64 (limb (t.1) 1 : Nat), .int .u64 (limb (t.1) 2 : Nat), .int .u64 (limb (t.1) 3 : Nat), .int .u64 (limb (t.2.1) 0 : Nat), .int .u64 (limb (t.2.1) 1 : Nat), .int .u64 (limb (t.2.1) 2 : Nat), .int .u64 (limb (t.2.1) 3 : Nat), .int .u64 (limb (t.2.2) 0 : Nat), .int .u64 (limb (t.2.2) 1 : Nat), .int .u64 (limb (t.2.2) 2 : Nat), .int .u64 (limb (t.2.2) 3 : Nat)]) ∧ Below w.heap.size w w'
def PlC (s a t : Nat × Nat × Nat) : Prop := ∀ w, Calls Tryd.prog 25 #[.agg #[.int .u64 (limb (s.1) 0 : Nat), .int .u64 (limb (s.1) 1 : Nat), .int .u64 (limb (s.1) 2 : Nat), .int .u64 (limb (s.1) 3 : Nat), .int .u64 (limb (s.2.1) 0 : Nat), .int .u64 (limb (s.2.1) 1 : Nat), .int .u64 (limb (s.2.1) 2 : Nat), .int .u64 (limb (s.2.1) 3 : Nat), .int .u64 (limb (s.2.2) 0 : Nat), .int .u64 (limb (s.2.2) 1 : Nat), .int .u64 (limb (s.2.2) 2 : Nat), .int .u64 (limb (s.2.2) 3 : Nat)], .agg #[.int .u64 (limb (a.1) 0 : Nat), .int .u64 (limb (a.1) 1 : Nat), .int .u64 (limb (a.1) 2 : Nat), .int .u64 (limb (a.1) 3 : Nat), .int .u64 (limb (a.2.1) 0 : Nat), .int .u64 (limb (a.2.1) 1 : Nat), .int .u64 (limb (a.2.1) 2 : Nat), .int .u64 (limb (a.2.1) 3 : Nat), .int .u64 (limb (a.2.2) 0 : Nat), .int .u64 (limb (a.2.2) 1 : Nat), .int .u64 (limb (a.2.2) 2 : Nat), .int .u64 (limb (a.2.2) 3 : Nat)]] w fun e w' => e = .returned (.agg #[.int .u64 (limb (t.1) 0 : Nat), .int .u64 (limb (t.1) 1 : Nat), .int .u64 (limb (t.1) 2 : Nat), .int .u64 (limb (t.1) 3 : Nat), .int .u64 (limb (t.2.1) 0 : Nat), .int .u64 (limb (t.2.1) 1 : Nat), .int .u64 (limb (t.2.1) 2 : Nat), .int .u64 (limb (t.2.1) 3 : Nat), .int .u64 (limb (t.2.2) 0 : Nat), .int .u64 (limb (t.2.2) 1 : Nat), .int .u64 (limb (t.2.2) 2 : Nat), .int .u64 (limb (t.2.2) 3 : Nat)]) ∧ Below w.heap.size w w'
def OvT (s : Nat × Nat × Nat) (a : Pts) : Prop := OvrN s.1 s.2.1 s.2.2 a.1
def StC (k q : Nat) (s a t : Nat × Nat × Nat) : Prop := ∃ u, TwC s u ∧ (bitN k q = 1 → PlC u a t) ∧ (bitN k q = 0 → t = u)
theorem step_ex (k q : Nat) (s p : Nat × Nat × Nat) (a : Pts) (hp : OvT p a) (hs : OvT s (gr.mul (k / 2 ^ (q + 1)) a)) : ∃ t, OvT t (gr.mul (k / 2 ^ q) a) ∧ StC k q s p t := by
  obtain ⟨X, Y, Z, hO, hT⟩ := twice3_A s.1 s.2.1 s.2.2 _ hs
  have e := gr.times q k a
  have b2 := bitN_lt k q
  rcases (show bitN k q = 0 ∨ bitN k q = 1 by omega) with hb | hb
  · refine ⟨(X, Y, Z), ?_, (X, Y, Z), hT, fun c => (by omega), fun _ => rfl⟩
    rw [e, if_neg (show ¬ k / 2 ^ q % 2 = 1 from fun c => by unfold bitN at hb; omega), gr.zero]
    exact hO
  · obtain ⟨X2, Y2, Z2, hO2, hP⟩ := plus3_A X Y Z p.1 p.2.1 p.2.2 _ a hO hp
    refine ⟨(X2, Y2, Z2), ?_, (X, Y, Z), hT, fun _ => hP, fun c => (by omega)⟩
    rw [e, if_pos (show k / 2 ^ q % 2 = 1 from hb)]
    exact hO2
theorem seq_ex (k : Nat) (p : Nat × Nat × Nat) (a : Pts) (hk : k < R256) (hp : OvT p a) : ∀ m, m ≤ 256 → ∃ F : Nat → Nat × Nat × Nat, F 256 = (0, 1, 0) ∧ OvT (F (256 - m)) (gr.mul (k / 2 ^ (256 - m)) a) ∧ ∀ q, 256 - m ≤ q → q < 256 → StC k q (F (q + 1)) p (F q)
  | 0, _ => ⟨fun _ => (0, 1, 0), rfl, by rw [show 256 - 0 = 256 from rfl, Nat.div_eq_of_lt (show k < 2 ^ 256 from hk)]; exact ovrN_none, fun q h1 h2 => absurd h2 (by omega)⟩
  | m + 1, hm => by
    obtain ⟨F, h0, h1, h2⟩ := seq_ex k p a hk hp m (by omega)
    obtain ⟨q, hq⟩ : ∃ q, q = 256 - (m + 1) := ⟨_, rfl⟩
    have e : 256 - m = q + 1 := by omega
    rw [e] at h1
    obtain ⟨t, ht, hs⟩ := step_ex k q (F (q + 1)) p a hp h1
    refine ⟨fun j => if j = q then t else F j, ?_, ?_, fun j hj hj2 => ?_⟩
    · show (if 256 = q then t else F 256) = _
      rw [if_neg (by omega)]; exact h0
    · rw [← hq]
      show OvT (if q = q then t else F q) _
      rw [if_pos rfl]; exact ht
    · show StC k j (if j + 1 = q then t else F (j + 1)) p (if j = q then t else F j)
      rw [if_neg (by omega)]
      by_cases c : j = q
      · rw [if_pos c, c]; exact hs
      · rw [if_neg c]; exact h2 j (by omega) hj2
theorem numL_get (k : Nat) {j : Nat} (hj : j < 4) : (numL k)[j]? = some (.int .u64 (limb k j : Nat)) := by
  have : j = 0 ∨ j = 1 ∨ j = 2 ∨ j = 3 := by omega
  rcases this with rfl | rfl | rfl | rfl <;> rfl
/-- What the loops of Times keep. -/
def OtAt (w wx : World) (k : Nat) (p s : Nat × Nat × Nat) : Prop := OwnC wx (w.heap.size) (numL k) ∧ OwnC wx (w.heap.size + 1) (ovL p.1 p.2.1 p.2.2) ∧ OwnC wx (w.heap.size + 1 + 1) z12L ∧ OwnC wx (w.heap.size + 1 + 1 + 1) (ovL s.1 s.2.1 s.2.2) ∧ Below w.heap.size w wx
theorem OtAt.call {w W w1 : World} {k : Nat} {p s : Nat × Nat × Nat} (h : OtAt w W k p s) (hb : Below W.heap.size W w1) : OtAt w w1 k p s :=
  ⟨h.1.call hb, h.2.1.call hb, h.2.2.1.call hb, h.2.2.2.1.call hb, below_call0 h.2.2.2.2 hb⟩
theorem OtAt.put {w W : World} {k : Nat} {p s : Nat × Nat × Nat} (h : OtAt w W k p s) (X Y Z : Nat) : OtAt w (((((((((((((W.setCell ⟨w.heap.size + 1 + 1 + 1, 0, none⟩ (.int .u64 (limb X 0 : Nat))).setCell ⟨w.heap.size + 1 + 1 + 1, 1, none⟩ (.int .u64 (limb X 1 : Nat))).setCell ⟨w.heap.size + 1 + 1 + 1, 2, none⟩ (.int .u64 (limb X 2 : Nat))).setCell ⟨w.heap.size + 1 + 1 + 1, 3, none⟩ (.int .u64 (limb X 3 : Nat))).setCell ⟨w.heap.size + 1 + 1 + 1, 4, none⟩ (.int .u64 (limb Y 0 : Nat))).setCell ⟨w.heap.size + 1 + 1 + 1, 5, none⟩ (.int .u64 (limb Y 1 : Nat))).setCell ⟨w.heap.size + 1 + 1 + 1, 6, none⟩ (.int .u64 (limb Y 2 : Nat))).setCell ⟨w.heap.size + 1 + 1 + 1, 7, none⟩ (.int .u64 (limb Y 3 : Nat))).setCell ⟨w.heap.size + 1 + 1 + 1, 8, none⟩ (.int .u64 (limb Z 0 : Nat))).setCell ⟨w.heap.size + 1 + 1 + 1, 9, none⟩ (.int .u64 (limb Z 1 : Nat))).setCell ⟨w.heap.size + 1 + 1 + 1, 10, none⟩ (.int .u64 (limb Z 2 : Nat))).setCell ⟨w.heap.size + 1 + 1 + 1, 11, none⟩ (.int .u64 (limb Z 3 : Nat)))) k p (X, Y, Z) := by
  have n0 : w.heap.size ≠ w.heap.size + 1 + 1 + 1 := by omega
  have n1 : w.heap.size + 1 ≠ w.heap.size + 1 + 1 + 1 := by omega
  have n2 : w.heap.size + 1 + 1 ≠ w.heap.size + 1 + 1 + 1 := by omega
  have n5 : w.heap.size ≤ w.heap.size + 1 + 1 + 1 := by omega
  exact ⟨OwnC.puts (ovL X Y Z) 0 h.1 n0, OwnC.puts (ovL X Y Z) 0 h.2.1 n1, OwnC.puts (ovL X Y Z) 0 h.2.2.1 n2, OwnC.put (ovL X Y Z) h.2.2.2.1 rfl, below_putL n5 (ovL X Y Z) 0 _ h.2.2.2.2⟩
theorem inf12 : ([.int .u64 0, .int .u64 0, .int .u64 0, .int .u64 0, .int .u64 1, .int .u64 0, .int .u64 0, .int .u64 0, .int .u64 0, .int .u64 0, .int .u64 0, .int .u64 0] : List Value) = ovL 0 1 0 := by
  unfold ovL
  rw [lit0.1, lit0.2.1, lit0.2.2.1, lit0.2.2.2, lit1.1, lit1.2.1, lit1.2.2.1, lit1.2.2.2]
set_option maxRecDepth 100000 in
set_option maxHeartbeats 8000000 in
theorem times3_num (k x y z : Nat) (F : Nat → Nat × Nat × Nat) (X0 Y0 Z0 : Nat) (h256 : F 256 = (0, 1, 0)) (hF0 : F 0 = (X0, Y0, Z0)) (hst : ∀ q, q < 256 → StC k q (F (q + 1)) (x, y, z) (F q)) (w : World) :
    Calls Tryd.prog 34 #[.agg #[.int .u64 (limb (k) 0 : Nat), .int .u64 (limb (k) 1 : Nat), .int .u64 (limb (k) 2 : Nat), .int .u64 (limb (k) 3 : Nat)], .agg #[.int .u64 (limb (x) 0 : Nat), .int .u64 (limb (x) 1 : Nat), .int .u64 (limb (x) 2 : Nat), .int .u64 (limb (x) 3 : Nat), .int .u64 (limb (y) 0 : Nat), .int .u64 (limb (y) 1 : Nat), .int .u64 (limb (y) 2 : Nat), .int .u64 (limb (y) 3 : Nat), .int .u64 (limb (z) 0 : Nat), .int .u64 (limb (z) 1 : Nat), .int .u64 (limb (z) 2 : Nat), .int .u64 (limb (z) 3 : Nat)]] w fun e w' => e = .returned (.agg #[.int .u64 (limb (X0) 0 : Nat), .int .u64 (limb (X0) 1 : Nat), .int .u64 (limb (X0) 2 : Nat), .int .u64 (limb (X0) 3 : Nat), .int .u64 (limb (Y0) 0 : Nat), .int .u64 (limb (Y0) 1 : Nat), .int .u64 (limb (Y0) 2 : Nat), .int .u64 (limb (Y0) 3 : Nat), .int .u64 (limb (Z0) 0 : Nat), .int .u64 (limb (Z0) 1 : Nat), .int .u64 (limb (Z0) 2 : Nat), .int .u64 (limb (Z0) 3 : Nat)]) ∧ Below w.heap.size w w' := by
  have HS : Hid _ := hst
  have H0 : Hid (F 0 = (X0, Y0, Z0)) := hF0
  have HI : Hid (OtAt w ((((w.alloc (.cells #[.int .u64 (limb k 0 : Nat), .int .u64 (limb k 1 : Nat), .int .u64 (limb k 2 : Nat), .int .u64 (limb k 3 : Nat)] 34)).alloc (.cells #[.int .u64 (limb x 0 : Nat), .int .u64 (limb x 1 : Nat), .int .u64 (limb x 2 : Nat), .int .u64 (limb x 3 : Nat), .int .u64 (limb y 0 : Nat), .int .u64 (limb y 1 : Nat), .int .u64 (limb y 2 : Nat), .int .u64 (limb y 3 : Nat), .int .u64 (limb z 0 : Nat), .int .u64 (limb z 1 : Nat), .int .u64 (limb z 2 : Nat), .int .u64 (limb z 3 : Nat)] 56)).alloc (.cells #[.int .u64 0, .int .u64 0, .int .u64 0, .int .u64 0, .int .u64 0, .int .u64 0, .int .u64 0, .int .u64 0, .int .u64 0, .int .u64 0, .int .u64 0, .int .u64 0] 56)).alloc (.cells #[.int .u64 0, .int .u64 0, .int .u64 0, .int .u64 0, .int .u64 1, .int .u64 0, .int .u64 0, .int .u64 0, .int .u64 0, .int .u64 0, .int .u64 0, .int .u64 0] 56)) k (x, y, z) (F 256)) := by
    show OtAt w ((((w.alloc (.cells #[.int .u64 (limb k 0 : Nat), .int .u64 (limb k 1 : Nat), .int .u64 (limb k 2 : Nat), .int .u64 (limb k 3 : Nat)] 34)).alloc (.cells #[.int .u64 (limb x 0 : Nat), .int .u64 (limb x 1 : Nat), .int .u64 (limb x 2 : Nat), .int .u64 (limb x 3 : Nat), .int .u64 (limb y 0 : Nat), .int .u64 (limb y 1 : Nat), .int .u64 (limb y 2 : Nat), .int .u64 (limb y 3 : Nat), .int .u64 (limb z 0 : Nat), .int .u64 (limb z 1 : Nat), .int .u64 (limb z 2 : Nat), .int .u64 (limb z 3 : Nat)] 56)).alloc (.cells #[.int .u64 0, .int .u64 0, .int .u64 0, .int .u64 0, .int .u64 0, .int .u64 0, .int .u64 0, .int .u64 0, .int .u64 0, .int .u64 0, .int .u64 0, .int .u64 0] 56)).alloc (.cells #[.int .u64 0, .int .u64 0, .int .u64 0, .int .u64 0, .int .u64 1, .int .u64 0, .int .u64 0, .int .u64 0, .int .u64 0, .int .u64 0, .int .u64 0, .int .u64 0] 56)) k (x, y, z) (F 256)
    rw [h256]
    have h4 := OwnC.new (((w.alloc (.cells #[.int .u64 (limb k 0 : Nat), .int .u64 (limb k 1 : Nat), .int .u64 (limb k 2 : Nat), .int .u64 (limb k 3 : Nat)] 34)).alloc (.cells #[.int .u64 (limb x 0 : Nat), .int .u64 (limb x 1 : Nat), .int .u64 (limb x 2 : Nat), .int .u64 (limb x 3 : Nat), .int .u64 (limb y 0 : Nat), .int .u64 (limb y 1 : Nat), .int .u64 (limb y 2 : Nat), .int .u64 (limb y 3 : Nat), .int .u64 (limb z 0 : Nat), .int .u64 (limb z 1 : Nat), .int .u64 (limb z 2 : Nat), .int .u64 (limb z 3 : Nat)] 56)).alloc (.cells #[.int .u64 0, .int .u64 0, .int .u64 0, .int .u64 0, .int .u64 0, .int .u64 0, .int .u64 0, .int .u64 0, .int .u64 0, .int .u64 0, .int .u64 0, .int .u64 0] 56)) [.int .u64 0, .int .u64 0, .int .u64 0, .int .u64 0, .int .u64 1, .int .u64 0, .int .u64 0, .int .u64 0, .int .u64 0, .int .u64 0, .int .u64 0, .int .u64 0] 56
    rw [inf12] at h4
    simp only [World.size_alloc] at h4
    refine ⟨(OwnC.new w (numL k) 34).alloc.alloc.alloc, ?_, ?_, ?_, below_alloc0 (below_alloc0 (below_alloc0 (below_alloc0 (Below.refl _ _) _) _) _) _⟩
    · exact (OwnC.new' (vs := ovL x y z) (by simp only [World.size_alloc])).alloc.alloc
    · exact (OwnC.new' (vs := z12L) (by simp only [World.size_alloc])).alloc
    · rw [← inf12] at h4 ⊢
      exact h4
  clear hst hF0 h256
  go_enter Tryd.func34, Tryd.ntmps34
  go_wp2_with fail
  go_loopw [6] (fun i wx => ∃ n : Nat, n ≤ 4 ∧ i = .int .i64 ((n : Int) - 1) ∧ OtAt w wx k (x, y, z) (F (64 * n))) (fun i _ => (intOf i + 1).toNat)
  case atStart => exact ⟨4, by omega, rfl, HI.out⟩
  case round =>
    clear HI
    obtain ⟨n, hn, rfl, hP⟩ := hrel
    by_cases hn0 : n = 0
    · subst hn0
      rw [Nat.mul_zero, H0.out] at hP
      obtain ⟨oz, o0, o1, o2, o3, o4, o5, o6, o7, o8, o9, o10, o11, of⟩ := hP.2.2.2.1.ov
      obtain ⟨pz, p0, p1, p2, p3, p4, p5, p6, p7, p8, p9, p10, p11, pf⟩ := hP.2.2.1.z12
      have HR : Hid _ := hP
      clear HS H0 hP
      go_wp2_with fail
      have HZ : Hid _ := (OwnC.put (ovL X0 Y0 Z0) HR.out.2.2.1 rfl)
      have HB : Hid _ := (below_putL (show w.heap.size ≤ w.heap.size + 1 + 1 by omega) (ovL X0 Y0 Z0) 0 _ HR.out.2.2.2.2)
      clear oz o0 o1 o2 o3 o4 o5 o6 o7 o8 o9 o10 o11 of pz p0 p1 p2 p3 p4 p5 p6 p7 p8 p9 p10 p11 pf HR
      obtain ⟨wz, hwz⟩ : ∃ wq, wq = ((((((((((((wr.setCell ⟨w.heap.size + 1 + 1, 0, none⟩ (.int .u64 (limb X0 0 : Nat))).setCell ⟨w.heap.size + 1 + 1, 1, none⟩ (.int .u64 (limb X0 1 : Nat))).setCell ⟨w.heap.size + 1 + 1, 2, none⟩ (.int .u64 (limb X0 2 : Nat))).setCell ⟨w.heap.size + 1 + 1, 3, none⟩ (.int .u64 (limb X0 3 : Nat))).setCell ⟨w.heap.size + 1 + 1, 4, none⟩ (.int .u64 (limb Y0 0 : Nat))).setCell ⟨w.heap.size + 1 + 1, 5, none⟩ (.int .u64 (limb Y0 1 : Nat))).setCell ⟨w.heap.size + 1 + 1, 6, none⟩ (.int .u64 (limb Y0 2 : Nat))).setCell ⟨w.heap.size + 1 + 1, 7, none⟩ (.int .u64 (limb Y0 3 : Nat))).setCell ⟨w.heap.size + 1 + 1, 8, none⟩ (.int .u64 (limb Z0 0 : Nat))).setCell ⟨w.heap.size + 1 + 1, 9, none⟩ (.int .u64 (limb Z0 1 : Nat))).setCell ⟨w.heap.size + 1 + 1, 10, none⟩ (.int .u64 (limb Z0 2 : Nat))).setCell ⟨w.heap.size + 1 + 1, 11, none⟩ (.int .u64 (limb Z0 3 : Nat))) := ⟨_, rfl⟩
      rw [← hwz]
      have HO : OwnC wz (w.heap.size + 1 + 1) (ovL X0 Y0 Z0) := by rw [hwz]; exact HZ.out
      have HB2 : Below w.heap.size w wz := by rw [hwz]; exact HB.out
      clear hwz HZ HB
      obtain ⟨rz, r0, r1, r2, r3, r4, r5, r6, r7, r8, r9, r10, r11, rf⟩ := HO.ov
      refine bodyPost_ret (v := .agg #[.int .u64 (limb (X0) 0 : Nat), .int .u64 (limb (X0) 1 : Nat), .int .u64 (limb (X0) 2 : Nat), .int .u64 (limb (X0) 3 : Nat), .int .u64 (limb (Y0) 0 : Nat), .int .u64 (limb (Y0) 1 : Nat), .int .u64 (limb (Y0) 2 : Nat), .int .u64 (limb (Y0) 3 : Nat), .int .u64 (limb (Z0) 0 : Nat), .int .u64 (limb (Z0) 1 : Nat), .int .u64 (limb (Z0) 2 : Nat), .int .u64 (limb (Z0) 3 : Nat)]) ?_ rfl ⟨rfl, HB2⟩
      simp [results, Tryd.results34, go_sem, r0, r1, r2, r3, r4, r5, r6, r7, r8, r9, r10, r11]
    · obtain ⟨j, hj⟩ : ∃ j, n = j + 1 := ⟨n - 1, by omega⟩
      have hij : ((n : Int) - 1) = (j : Int) := by omega
      have hj4 : j < 4 := by omega
      have hj0 : (0 : Int) ≤ (j : Int) := by omega
      have hj3 : (j : Int) < 4 := by omega
      rw [hij]
      have HP : Hid (OtAt w wr k (x, y, z) (F (64 * j + 64))) := by have h := hP; rw [hj, Nat.mul_add] at h; exact h
      clear hij hj hn0 hn hP
      go_wp2_with fail
      go_loopw [7] (fun tt wx => ∃ d : Nat, d ≤ 64 ∧ tt = .int .i64 ((d : Int) - 1) ∧ OtAt w wx k (x, y, z) (F (64 * j + d))) (fun tt _ => (intOf tt + 1).toNat)
      case atStart => exact ⟨64, by omega, rfl, HP.out⟩
      case round =>
        clear HP
        obtain ⟨d, hd, rfl, hX⟩ := hrel
        by_cases hd0 : d = 0
        · subst hd0
          have HX : Hid (OtAt w wr k (x, y, z) (F (64 * j))) := hX
          clear hX hd
          go_wp2_with fail
          go_roundw
          case rel => first | exact ⟨j, by omega, by first | rfl | go_num, HX.out⟩ | ((repeat apply Exists.intro); exact ⟨⟨j, by omega, by first | rfl | go_num, HX.out⟩, rfl⟩)
          case measure => simp [intOf]
        · obtain ⟨t, ht⟩ : ∃ t, d = t + 1 := ⟨d - 1, by omega⟩
          have hdt : ((d : Int) - 1) = (t : Int) := by omega
          have ht64 : t < 64 := by omega
          have ht0 : (0 : Int) ≤ (t : Int) := by omega
          have ht6 : (t : Int) < 64 := by omega
          rw [hdt]
          obtain ⟨u, hT, hP1, hP0⟩ := HS.out (64 * j + t) (by omega)
          obtain ⟨X, Y, Z, es⟩ : ∃ X Y Z, F (64 * j + t + 1) = (X, Y, Z) := ⟨_, _, _, rfl⟩
          obtain ⟨U, V, T, eu⟩ : ∃ U V T, u = (U, V, T) := ⟨_, _, _, rfl⟩
          obtain ⟨P, Q, R, er⟩ : ∃ P Q R, F (64 * j + t) = (P, Q, R) := ⟨_, _, _, rfl⟩
          rw [ht, ← Nat.add_assoc, es] at hX
          rw [es, eu] at hT
          rw [eu, er] at hP1 hP0
          have HX : Hid (OtAt w wr k (x, y, z) (X, Y, Z)) := hX
          have K1 : Hid (∀ w, Calls Tryd.prog 49 #[.agg #[.int .u64 (limb (X) 0 : Nat), .int .u64 (limb (X) 1 : Nat), .int .u64 (limb (X) 2 : Nat), .int .u64 (limb (X) 3 : Nat), .int .u64 (limb (Y) 0 : Nat), .int .u64 (limb (Y) 1 : Nat), .int .u64 (limb (Y) 2 : Nat), .int .u64 (limb (Y) 3 : Nat), .int .u64 (limb (Z) 0 : Nat), .int .u64 (limb (Z) 1 : Nat), .int .u64 (limb (Z) 2 : Nat), .int .u64 (limb (Z) 3 : Nat)]] w fun e w' => e = .returned (.agg #[.int .u64 (limb (U) 0 : Nat), .int .u64 (limb (U) 1 : Nat), .int .u64 (limb (U) 2 : Nat), .int .u64 (limb (U) 3 : Nat), .int .u64 (limb (V) 0 : Nat), .int .u64 (limb (V) 1 : Nat), .int .u64 (limb (V) 2 : Nat), .int .u64 (limb (V) 3 : Nat), .int .u64 (limb (T) 0 : Nat), .int .u64 (limb (T) 1 : Nat), .int .u64 (limb (T) 2 : Nat), .int .u64 (limb (T) 3 : Nat)]) ∧ Below w.heap.size w w') := hT
          have HE : Hid (F (64 * j + t) = (P, Q, R)) := er
          have w1 : IntKind.u64.wrap (t : Int) = (t : Int) := by rw [IntKind.wrap_u64]; omega
          have w2 : IntKind.i64.wrap (t : Int) = (t : Int) := by rw [IntKind.wrap_i64]; omega
          have ec : ((limb k j : Int) / 2 ^ t) = ((limb k j / 2 ^ t : Nat) : Int) := by
            rw [Int.natCast_ediv, Int.natCast_pow]; rfl
          have eb := limb_bit k j t ht64
          have b2 := bitN_lt k (64 * j + t)
          obtain ⟨oz, o0, o1, o2, o3, o4, o5, o6, o7, o8, o9, o10, o11, of⟩ := hX.2.2.2.1.ov
          rcases (show bitN k (64 * j + t) = 0 ∨ bitN k (64 * j + t) = 1 by omega) with hb | hb
          · have H4 := hP0 hb
            injection H4 with e1 e23
            injection e23 with e2 e3
            subst e1 e2 e3
            have et : (limb k j : Int) / 2 ^ t % 2 = 0 := by rw [ec]; omega
            have et2 : ((limb k j : Int) / 2 ^ t).tmod 2 = 0 := by rw [Int.tmod_eq_emod_of_nonneg (by rw [ec]; exact Int.natCast_nonneg _)]; exact et
            clear ec eb b2 hb hX hd hd0 ht hdt HS H0 hP1 hP0 hT es er eu
            go_wp2_with fail
            refine (K1.out _).mono ?_
            rintro e1 v2 ⟨rfl, hq2⟩
            have X2 := HX.out.call hq2
            clear oz o0 o1 o2 o3 o4 o5 o6 o7 o8 o9 o10 o11 of HX hq2 K1
            obtain ⟨rz, r0, r1, r2, r3, r4, r5, r6, r7, r8, r9, r10, r11, rf⟩ := X2.2.2.2.1.ov
            have ge : v2.cell? ⟨w.heap.size, j, none⟩ = some (.int .u64 (limb k j : Nat)) := X2.1.2.2 j _ (numL_get k hj4)
            have X3 : Hid _ := X2.put P Q R
            clear X2
            go_wp2_with fail
            go_roundw
            case rel => first | exact ⟨t, by omega, by first | rfl | go_num, by rw [HE.out]; exact X3.out⟩ | ((repeat apply Exists.intro); exact ⟨⟨t, by omega, by first | rfl | go_num, by rw [HE.out]; exact X3.out⟩, rfl⟩)
            case measure => simp [intOf]
          · have K2 : Hid (∀ w, Calls Tryd.prog 25 #[.agg #[.int .u64 (limb (U) 0 : Nat), .int .u64 (limb (U) 1 : Nat), .int .u64 (limb (U) 2 : Nat), .int .u64 (limb (U) 3 : Nat), .int .u64 (limb (V) 0 : Nat), .int .u64 (limb (V) 1 : Nat), .int .u64 (limb (V) 2 : Nat), .int .u64 (limb (V) 3 : Nat), .int .u64 (limb (T) 0 : Nat), .int .u64 (limb (T) 1 : Nat), .int .u64 (limb (T) 2 : Nat), .int .u64 (limb (T) 3 : Nat)], .agg #[.int .u64 (limb (x) 0 : Nat), .int .u64 (limb (x) 1 : Nat), .int .u64 (limb (x) 2 : Nat), .int .u64 (limb (x) 3 : Nat), .int .u64 (limb (y) 0 : Nat), .int .u64 (limb (y) 1 : Nat), .int .u64 (limb (y) 2 : Nat), .int .u64 (limb (y) 3 : Nat), .int .u64 (limb (z) 0 : Nat), .int .u64 (limb (z) 1 : Nat), .int .u64 (limb (z) 2 : Nat), .int .u64 (limb (z) 3 : Nat)]] w fun e w' => e = .returned (.agg #[.int .u64 (limb (P) 0 : Nat), .int .u64 (limb (P) 1 : Nat), .int .u64 (limb (P) 2 : Nat), .int .u64 (limb (P) 3 : Nat), .int .u64 (limb (Q) 0 : Nat), .int .u64 (limb (Q) 1 : Nat), .int .u64 (limb (Q) 2 : Nat), .int .u64 (limb (Q) 3 : Nat), .int .u64 (limb (R) 0 : Nat), .int .u64 (limb (R) 1 : Nat), .int .u64 (limb (R) 2 : Nat), .int .u64 (limb (R) 3 : Nat)]) ∧ Below w.heap.size w w') := hP1 hb
            have et : (limb k j : Int) / 2 ^ t % 2 = 1 := by rw [ec]; omega
            have et2 : ((limb k j : Int) / 2 ^ t).tmod 2 = 1 := by rw [Int.tmod_eq_emod_of_nonneg (by rw [ec]; exact Int.natCast_nonneg _)]; exact et
            clear ec eb b2 hb hX hd hd0 ht hdt HS H0 hP1 hP0 hT es er eu
            go_wp2_with fail
            refine (K1.out _).mono ?_
            rintro e1 v2 ⟨rfl, hq2⟩
            have X2 := HX.out.call hq2
            clear oz o0 o1 o2 o3 o4 o5 o6 o7 o8 o9 o10 o11 of HX hq2 K1
            obtain ⟨rz, r0, r1, r2, r3, r4, r5, r6, r7, r8, r9, r10, r11, rf⟩ := X2.2.2.2.1.ov
            have ge : v2.cell? ⟨w.heap.size, j, none⟩ = some (.int .u64 (limb k j : Nat)) := X2.1.2.2 j _ (numL_get k hj4)
            obtain ⟨az, a0, a1, a2, a3, a4, a5, a6, a7, a8, a9, a10, a11, af⟩ := X2.2.1.ov
            have X3 : Hid (OtAt w ((((((((((((v2.setCell ⟨w.heap.size + 1 + 1 + 1, 0, none⟩ (.int .u64 (limb U 0 : Nat))).setCell ⟨w.heap.size + 1 + 1 + 1, 1, none⟩ (.int .u64 (limb U 1 : Nat))).setCell ⟨w.heap.size + 1 + 1 + 1, 2, none⟩ (.int .u64 (limb U 2 : Nat))).setCell ⟨w.heap.size + 1 + 1 + 1, 3, none⟩ (.int .u64 (limb U 3 : Nat))).setCell ⟨w.heap.size + 1 + 1 + 1, 4, none⟩ (.int .u64 (limb V 0 : Nat))).setCell ⟨w.heap.size + 1 + 1 + 1, 5, none⟩ (.int .u64 (limb V 1 : Nat))).setCell ⟨w.heap.size + 1 + 1 + 1, 6, none⟩ (.int .u64 (limb V 2 : Nat))).setCell ⟨w.heap.size + 1 + 1 + 1, 7, none⟩ (.int .u64 (limb V 3 : Nat))).setCell ⟨w.heap.size + 1 + 1 + 1, 8, none⟩ (.int .u64 (limb T 0 : Nat))).setCell ⟨w.heap.size + 1 + 1 + 1, 9, none⟩ (.int .u64 (limb T 1 : Nat))).setCell ⟨w.heap.size + 1 + 1 + 1, 10, none⟩ (.int .u64 (limb T 2 : Nat))).setCell ⟨w.heap.size + 1 + 1 + 1, 11, none⟩ (.int .u64 (limb T 3 : Nat))) k (x, y, z) (U, V, T)) := X2.put U V T
            clear X2
            go_wp2_with fail
            refine (K2.out _).mono ?_
            rintro e1 v4 ⟨rfl, hq4⟩
            have X5 := X3.out.call hq4
            clear rz r0 r1 r2 r3 r4 r5 r6 r7 r8 r9 r10 r11 rf az a0 a1 a2 a3 a4 a5 a6 a7 a8 a9 a10 a11 af ge X3 hq4 K2
            obtain ⟨cz, c0, c1, c2, c3, c4, c5, c6, c7, c8, c9, c10, c11, cf⟩ := X5.2.2.2.1.ov
            have X6 : Hid _ := X5.put P Q R
            clear X5
            go_wp2_with fail
            go_roundw
            case rel => first | exact ⟨t, by omega, by first | rfl | go_num, by rw [HE.out]; exact X6.out⟩ | ((repeat apply Exists.intro); exact ⟨⟨t, by omega, by first | rfl | go_num, by rw [HE.out]; exact X6.out⟩, rfl⟩)
            case measure => simp [intOf]
theorem times3_A (k x y z : Nat) (a : Pts) (hk : k < R256) (h : OvrN x y z a.1) : ∃ X Y Z, OvrN X Y Z (gr.mul k a).1 ∧ ∀ w, Calls Tryd.prog 34 #[.agg #[.int .u64 (limb (k) 0 : Nat), .int .u64 (limb (k) 1 : Nat), .int .u64 (limb (k) 2 : Nat), .int .u64 (limb (k) 3 : Nat)], .agg #[.int .u64 (limb (x) 0 : Nat), .int .u64 (limb (x) 1 : Nat), .int .u64 (limb (x) 2 : Nat), .int .u64 (limb (x) 3 : Nat), .int .u64 (limb (y) 0 : Nat), .int .u64 (limb (y) 1 : Nat), .int .u64 (limb (y) 2 : Nat), .int .u64 (limb (y) 3 : Nat), .int .u64 (limb (z) 0 : Nat), .int .u64 (limb (z) 1 : Nat), .int .u64 (limb (z) 2 : Nat), .int .u64 (limb (z) 3 : Nat)]] w fun e w' => e = .returned (.agg #[.int .u64 (limb (X) 0 : Nat), .int .u64 (limb (X) 1 : Nat), .int .u64 (limb (X) 2 : Nat), .int .u64 (limb (X) 3 : Nat), .int .u64 (limb (Y) 0 : Nat), .int .u64 (limb (Y) 1 : Nat), .int .u64 (limb (Y) 2 : Nat), .int .u64 (limb (Y) 3 : Nat), .int .u64 (limb (Z) 0 : Nat), .int .u64 (limb (Z) 1 : Nat), .int .u64 (limb (Z) 2 : Nat), .int .u64 (limb (Z) 3 : Nat)]) ∧ Below w.heap.size w w' := by
  obtain ⟨F, h1, h2, h3⟩ := seq_ex k (x, y, z) a hk h 256 (Nat.le_refl _)
  rw [Nat.sub_self, Nat.pow_zero, Nat.div_one] at h2
  exact ⟨_, _, _, h2, fun w => times3_num k x y z F _ _ _ h1 rfl (fun q hq => h3 q (by omega) hq) w⟩
end Go.Proofs.YtkdejflgmgljiaaDoor
