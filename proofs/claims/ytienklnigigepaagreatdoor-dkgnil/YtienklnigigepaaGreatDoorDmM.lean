/- Package domain: Draw; the reference's Draw. -/
import Derived.Test.YtienklnigigepaaGreatDoorDmK
namespace Go.Proofs.YtienklnigigepaaGreatDoor
open Go Go.RowKit Go.Lib

set_option maxRecDepth 100000 in
set_option maxHeartbeats 4000000 in
theorem ddraw_in (s t : ByteArray) (n : Nat) (hn : n ≤ 1099511627776) (hs : s.size < 140737488351233) (ht : tagB t = true) (w : World) (hG : GlobD w) (hz : 5 < w.heap.size) (hQ : GlobQ w) :
    Calls Tryz.prog 65 #[.string s, .string t, .int .i64 (n : Nat)] w fun e w' => e = .returned (.tuple #[.agg #[.int .u64 (limb (drN (drH s t n)) 0 : Nat), .int .u64 (limb (drN (drH s t n)) 1 : Nat), .int .u64 (limb (drN (drH s t n)) 2 : Nat), .int .u64 (limb (drN (drH s t n)) 3 : Nat)], .int .i64 0]) ∧ Below w.heap.size w w' := by
  have ht40 : t.size < 140737488351233 := by have : 1 ≤ t.size ∧ t.size ≤ 40 := of_decide_eq_true ht; omega
  have KT : Hid _ := fun (w : World) => isTag_any t w
  rw [ht] at KT
  have KD : Hid _ := fun (w : World) (hG : GlobD w) (hz : 5 < w.heap.size) (hQ : GlobQ w) => draw_any s t n (by omega) hs ht40 w hG hz hQ
  obtain ⟨R, hR⟩ : ∃ R, R = drN (drH s t n) := ⟨_, rfl⟩
  rw [← hR] at KD ⊢
  have n1 : ¬ ((n : Int) < 0) := by omega
  have n2 : ¬ ((1099511627776 : Int) < (n : Int)) := by omega
  have H0 : Hid (Pend (w.alloc (.cells #[.int .u64 0, .int .u64 0, .int .u64 0, .int .u64 0] 26)) w.heap.size ∧ Below w.heap.size w (w.alloc (.cells #[.int .u64 0, .int .u64 0, .int .u64 0, .int .u64 0] 26))) := ⟨Pend.new w _, below_alloc0' (Below.refl _ _) _⟩
  have HG : Hid (GlobD w ∧ 5 < w.heap.size ∧ GlobQ w) := ⟨hG, hz, hQ⟩
  clear hn hs ht hG hz hQ hR ht40
  go_enter Tryz.func65, Tryz.ntmps65
  go_wp2_with fail
  refine (KT.out _).mono ?_
  rintro e w0 ⟨rfl, ew0⟩
  have H1 : Hid (Pend w0 w.heap.size ∧ Below w.heap.size w w0) := by rw [ew0]; exact H0.out
  clear ew0 H0
  go_wp2_with fail
  refine (KD.out _ (HG.out.1.call H1.out.2) (Nat.lt_of_lt_of_le HG.out.2.1 H1.out.2.size) (HG.out.2.2.call H1.out.2)).mono ?_
  rintro e w1 ⟨rfl, hb1⟩
  have H2 : Hid (Pend w1 w.heap.size ∧ Below w.heap.size w w1) := ⟨H1.out.1.call hb1, below_call0' H1.out.2 hb1⟩
  clear hb1 H1
  obtain ⟨⟨p0, p1, p2, p3⟩, ⟨f0, f1, f2, f3⟩, pz⟩ := H2.out.1.facts
  have W2 : Below w.heap.size w w1 := H2.out.2
  go_wp2_with fail
  refine bodyPost_ret (v := .tuple #[.agg #[.int .u64 (limb (R) 0 : Nat), .int .u64 (limb (R) 1 : Nat), .int .u64 (limb (R) 2 : Nat), .int .u64 (limb (R) 3 : Nat)], .int .i64 0]) ?_ rfl ⟨rfl, ?_⟩
  · simp [results, Tryz.results65, go_sem, p0, p1, p2, p3]
  · ((repeat' (first | with_reducible exact Below.refl _ _ | with_reducible refine Below.setCell ?_ ?_ _ | with_reducible refine below_alloc0 ?_ _ | with_reducible refine below_drewN ?_ _ | with_reducible refine Below.drew ?_ | refine below_call0 ?_ (by assumption))) <;> (first | omega | (simp; done) | (simp; omega)))
/-- Which arguments Draw refuses. -/
def drawB (t : ByteArray) (n : Int) : Bool := tagB t && decide (0 ≤ n ∧ n ≤ 1099511627776)
set_option maxRecDepth 100000 in
set_option maxHeartbeats 4000000 in
theorem ddraw_no (s t : ByteArray) (n : Int) (hd : drawB t n = false) (w : World) :
    Calls Tryz.prog 65 #[.string s, .string t, .int .i64 n] w fun e w' => e = .returned (.tuple #[.agg #[.int .u64 0, .int .u64 0, .int .u64 0, .int .u64 0], .int .i64 1]) ∧ Below w.heap.size w w' := by
  have KT : Hid _ := fun (w : World) => isTag_any t w
  have H0 : Hid (Pend (w.alloc (.cells #[.int .u64 0, .int .u64 0, .int .u64 0, .int .u64 0] 26)) w.heap.size ∧ Below w.heap.size w (w.alloc (.cells #[.int .u64 0, .int .u64 0, .int .u64 0, .int .u64 0] 26))) := ⟨Pend.new w _, below_alloc0' (Below.refl _ _) _⟩
  unfold drawB at hd
  rcases Bool.eq_false_or_eq_true (tagB t) with ht | ht
  · rw [ht] at KT hd
    have hd' : ¬ (0 ≤ n ∧ n ≤ 1099511627776) := of_decide_eq_false (by simpa using hd)
    clear hd ht
    by_cases n1 : n < 0
    · clear hd'
      go_enter Tryz.func65, Tryz.ntmps65
      go_wp2_with fail
      refine (KT.out _).mono ?_
      rintro e w0 ⟨rfl, ew0⟩
      have H1 : Hid (Pend w0 w.heap.size ∧ Below w.heap.size w w0) := by rw [ew0]; exact H0.out
      clear ew0 H0
      obtain ⟨⟨p0, p1, p2, p3⟩, ⟨f0, f1, f2, f3⟩, pz⟩ := H1.out.1.facts
      have W2 : Below w.heap.size w w0 := H1.out.2
      go_wp2_with fail
      refine bodyPost_ret (v := .tuple #[.agg #[.int .u64 0, .int .u64 0, .int .u64 0, .int .u64 0], .int .i64 1]) ?_ rfl ⟨rfl, ?_⟩
      · simp [results, Tryz.results65, go_sem, p0, p1, p2, p3]
      · ((repeat' (first | with_reducible exact Below.refl _ _ | with_reducible refine Below.setCell ?_ ?_ _ | with_reducible refine below_alloc0 ?_ _ | with_reducible refine below_drewN ?_ _ | with_reducible refine Below.drew ?_ | refine below_call0 ?_ (by assumption))) <;> (first | omega | (simp; done) | (simp; omega)))
    · have n2 : (1099511627776 : Int) < n := by omega
      clear hd'
      go_enter Tryz.func65, Tryz.ntmps65
      go_wp2_with fail
      refine (KT.out _).mono ?_
      rintro e w0 ⟨rfl, ew0⟩
      have H1 : Hid (Pend w0 w.heap.size ∧ Below w.heap.size w w0) := by rw [ew0]; exact H0.out
      clear ew0 H0
      obtain ⟨⟨p0, p1, p2, p3⟩, ⟨f0, f1, f2, f3⟩, pz⟩ := H1.out.1.facts
      have W2 : Below w.heap.size w w0 := H1.out.2
      go_wp2_with fail
      refine bodyPost_ret (v := .tuple #[.agg #[.int .u64 0, .int .u64 0, .int .u64 0, .int .u64 0], .int .i64 1]) ?_ rfl ⟨rfl, ?_⟩
      · simp [results, Tryz.results65, go_sem, p0, p1, p2, p3]
      · ((repeat' (first | with_reducible exact Below.refl _ _ | with_reducible refine Below.setCell ?_ ?_ _ | with_reducible refine below_alloc0 ?_ _ | with_reducible refine below_drewN ?_ _ | with_reducible refine Below.drew ?_ | refine below_call0 ?_ (by assumption))) <;> (first | omega | (simp; done) | (simp; omega)))
  · rw [ht] at KT
    clear hd ht
    go_enter Tryz.func65, Tryz.ntmps65
    go_wp2_with fail
    refine (KT.out _).mono ?_
    rintro e w0 ⟨rfl, ew0⟩
    have H1 : Hid (Pend w0 w.heap.size ∧ Below w.heap.size w w0) := by rw [ew0]; exact H0.out
    clear ew0 H0
    obtain ⟨⟨p0, p1, p2, p3⟩, ⟨f0, f1, f2, f3⟩, pz⟩ := H1.out.1.facts
    have W2 : Below w.heap.size w w0 := H1.out.2
    go_wp2_with fail
    refine bodyPost_ret (v := .tuple #[.agg #[.int .u64 0, .int .u64 0, .int .u64 0, .int .u64 0], .int .i64 1]) ?_ rfl ⟨rfl, ?_⟩
    · simp [results, Tryz.results65, go_sem, p0, p1, p2, p3]
    · ((repeat' (first | with_reducible exact Below.refl _ _ | with_reducible refine Below.setCell ?_ ?_ _ | with_reducible refine below_alloc0 ?_ _ | with_reducible refine below_drewN ?_ _ | with_reducible refine Below.drew ?_ | refine below_call0 ?_ (by assumption))) <;> (first | omega | (simp; done) | (simp; omega)))
end Go.Proofs.YtienklnigigepaaGreatDoor
