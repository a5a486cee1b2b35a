/- Package domain: draw. -/
import Derived.Test.YtienklnigigepaaGreatDoorDmJ
namespace Go.Proofs.YtienklnigigepaaGreatDoor
open Go Go.RowKit Go.Lib
attribute [local go_sem] run_eq4

/-- The scalar of a seed. -/
def drN (h : ByteArray) : Nat := if scN h = 0 then 1 else scN h
def drH (s t : ByteArray) (n : Nat) : ByteArray := hashB t [s, ofL (numL n 8)]
theorem drH_size (s t : ByteArray) (n : Nat) : (drH s t n).size = 1 + t.size + 8 + s.size + 8 := by
  unfold drH
  rw [hashB_size]
  simp only [List.length_cons, List.length_nil, bytesN]
  rw [ofL_size, numL_length]
  omega
theorem two_strs (w : World) (s x : ByteArray) (T : TypeId) : Strs (w.alloc (.cells #[.string s, .string x] T)) (some ⟨w.heap.size, 0, none⟩) [s, x] := fun j y hj => by
  match j, hj with
  | 0, hj => simp at hj; subst hj; exact ⟨_, _, rfl, by simp [go_sem], by simp⟩
  | 1, hj => simp at hj; subst hj; exact ⟨_, _, rfl, by simp [go_sem], by simp⟩
  | j + 2, hj => simp at hj
theorem scN_lt (h : ByteArray) : scN h < QQ := Nat.mod_lt _ (by decide)
theorem QQ_lt : QQ < R256 := FM_Q.2.1
set_option maxRecDepth 100000 in
set_option maxHeartbeats 4000000 in
theorem draw_any (s t : ByteArray) (n : Nat) (hn : n < 9223372036854775808) (hs : s.size < 140737488351233) (ht : t.size < 140737488351233) (w : World) (hG : GlobD w) (hz : 5 < w.heap.size) (hQ : GlobQ w) :
    Calls Tryz.prog 105 #[.func (.func 106) #[] #[], .string s, .string t, .int .i64 (n : Nat)] w fun e w' => e = .returned (.agg #[.int .u64 (limb (drN (drH s t n)) 0 : Nat), .int .u64 (limb (drN (drH s t n)) 1 : Nat), .int .u64 (limb (drN (drH s t n)) 2 : Nat), .int .u64 (limb (drN (drH s t n)) 3 : Nat)]) ∧ Below w.heap.size w w' := by
  have K1 : Hid _ := fun (w : World) => highFirst_any n 8 hn (by decide) (by decide) w
  have K2 : Hid _ := fun (W : World) (hG : GlobD W) (hz : 5 < W.heap.size) (hQ : GlobQ W) => scalar_any t (some ⟨W.heap.size, 0, none⟩) [s, ofL (numL n 8)] 2 (by have := drH_size s t n; unfold drH at this; omega) (W.alloc (.cells #[.string s, .string (ofL (numL n 8))] 9)) (two_strs W s _ _) (hG.call (below_alloc0' (Below.refl _ _) _)) (Nat.lt_of_lt_of_le hz (below_alloc0' (Below.refl W.heap.size W) _).size) (hQ.call (below_alloc0' (Below.refl _ _) _))
  obtain ⟨X, hX⟩ : ∃ X, X = ofL (numL n 8) := ⟨_, rfl⟩
  obtain ⟨R, hR⟩ : ∃ R, R = scN (hashB t [s, ofL (numL n 8)]) := ⟨_, rfl⟩
  have hRlt : R < R256 := by rw [hR]; exact Nat.lt_trans (scN_lt _) QQ_lt
  have hD : drN (drH s t n) = if R = 0 then 1 else R := by rw [hR]; rfl
  obtain ⟨V, hV⟩ : ∃ V, V = if R = 0 then 1 else R := ⟨_, rfl⟩
  rw [hD, ← hV]
  have HV : Hid (V = if R = 0 then 1 else R) := hV
  clear hV
  rw [← hR] at K2
  rw [← hX] at K1 K2
  have H0 : Hid (Pend (w.alloc (.cells #[.int .u64 0, .int .u64 0, .int .u64 0, .int .u64 0] 26)) w.heap.size ∧ Below w.heap.size w (w.alloc (.cells #[.int .u64 0, .int .u64 0, .int .u64 0, .int .u64 0] 26))) := ⟨Pend.new w _, below_alloc0' (Below.refl _ _) _⟩
  have HG : Hid (GlobD w ∧ 5 < w.heap.size ∧ GlobQ w) := ⟨hG, hz, hQ⟩
  have ez := eq4_zero R hRlt
  clear hn hs ht hG hz hQ hX hR hD hRlt
  go_enter Tryz.func105, Tryz.ntmps105
  go_wp2_with fail
  refine (K1.out _).mono ?_
  rintro e w1 ⟨rfl, hb1⟩
  have H1 : Hid (Pend w1 w.heap.size ∧ Below w.heap.size w w1) := ⟨H0.out.1.call hb1, below_call0' H0.out.2 hb1⟩
  clear hb1 H0
  go_wp2_with fail
  refine (K2.out _ (HG.out.1.call H1.out.2) (Nat.lt_of_lt_of_le HG.out.2.1 H1.out.2.size) (HG.out.2.2.call H1.out.2)).mono ?_
  rintro e w2 ⟨rfl, hb2⟩
  have H2 : Hid (Pend w2 w.heap.size ∧ Below w.heap.size w w2) := ⟨(H1.out.1.alloc).call hb2, below_call0' (below_alloc0' H1.out.2 _) hb2⟩
  clear hb2 H1 K1 K2
  obtain ⟨⟨p0, p1, p2, p3⟩, ⟨f0, f1, f2, f3⟩, pz⟩ := H2.out.1.facts
  have W2 : Below w.heap.size w w2 := H2.out.2
  by_cases hr : R = 0
  · rw [decide_eq_true hr] at ez
    have H1 : Hid (V = 1) := by rw [HV.out, if_pos hr]; exact rfl
    go_wp2_with fail
    refine bodyPost_ret (v := .agg #[.int .u64 1, .int .u64 0, .int .u64 0, .int .u64 0]) ?_ rfl ⟨by rw [H1.out]; rfl, ?_⟩
    · simp [results, Tryz.results105, go_sem, p0, p1, p2, p3, pz]
    · ((repeat' (first | with_reducible exact Below.refl _ _ | with_reducible refine Below.setCell ?_ ?_ _ | with_reducible refine below_alloc0 ?_ _ | with_reducible refine below_drewN ?_ _ | with_reducible refine Below.drew ?_ | refine below_call0 ?_ (by assumption))) <;> (first | omega | (simp; done) | (simp; omega)))
  · rw [decide_eq_false hr] at ez
    have H1 : Hid (V = R) := by rw [HV.out, if_neg hr]; exact rfl
    go_wp2_with fail
    refine bodyPost_ret (v := .agg #[.int .u64 (limb (R) 0 : Nat), .int .u64 (limb (R) 1 : Nat), .int .u64 (limb (R) 2 : Nat), .int .u64 (limb (R) 3 : Nat)]) ?_ rfl ⟨by rw [H1.out], ?_⟩
    · simp [results, Tryz.results105, go_sem, p0, p1, p2, p3, pz]
    · ((repeat' (first | with_reducible exact Below.refl _ _ | with_reducible refine Below.setCell ?_ ?_ _ | with_reducible refine below_alloc0 ?_ _ | with_reducible refine below_drewN ?_ _ | with_reducible refine Below.drew ?_ | refine below_call0 ?_ (by assumption))) <;> (first | omega | (simp; done) | (simp; omega)))
end Go.Proofs.YtienklnigigepaaGreatDoor
