/- Package beat: timeouts, who is late, and the lists of nodes. -/
import Derived.Test.YtpgpbfcomobfkaaBtA
namespace Go.Proofs.Ytpgpbfcomobfkaa
open Go Go.RowKit Go.Lib

theorem timeout_self (g : Nat) (x : Wt) (w : World) (hW : WatchAt w g x) : Calls Try.prog 17 #[.pointer (some ⟨g, 0, none⟩), .int .i64 (x.self : Nat)] w fun e w' => e = .returned (.tuple #[.int .i64 0, .int .i64 0]) ∧ w' = w := by
  have HW : Hid (WatchAt w g x) := hW
  have c1 := hW.c1
  have hd : decide (1 ≤ ((x.self : Nat) : Int) ∧ ((x.self : Nat) : Int) ≤ (x.n : Nat)) = true := decide_eq_true (by have := hW.ok.s1; have := hW.ok.sn; omega)
  have HD : Hid _ := hd
  clear hW hd
  go_enter Try.func17, Try.ntmps17
  go_wp2_with fail
  refine (has_any g x _ _ HW.out).mono ?_
  rintro e w1 ⟨rfl, rfl⟩
  rw [HD.out]
  go_wp2_with fail
  go_ret2
  exact ⟨rfl, rfl⟩
theorem timeout_ok (g : Nat) (x : Wt) (k : Nat) (h1 : 1 ≤ k) (h2 : k ≤ x.n) (hs : k ≠ x.self) (w : World) (hW : WatchAt w g x) : Calls Try.prog 17 #[.pointer (some ⟨g, 0, none⟩), .int .i64 (k : Nat)] w fun e w' => e = .returned (.tuple #[.int .i64 (x.t k : Nat), .int .i64 0]) ∧ w' = w := by
  have HW : Hid (WatchAt w g x) := hW
  have c1 := hW.c1
  have c := hW.ct k (Nat.le_trans h2 hW.ok.n10)
  have hd : decide (1 ≤ ((k : Nat) : Int) ∧ ((k : Nat) : Int) ≤ (x.n : Nat)) = true := decide_eq_true (by omega)
  have HD : Hid _ := hd
  have k1 : (k : Int) < 11 := by have := hW.ok.n10; omega
  have k0 : (0 : Int) ≤ (k : Int) := by omega
  have ks : ¬ ((k : Int) = (x.self : Nat)) := by omega
  clear hW hd h1 h2 hs
  go_enter Try.func17, Try.ntmps17
  go_wp2_with fail
  refine (has_any g x _ _ HW.out).mono ?_
  rintro e w1 ⟨rfl, rfl⟩
  rw [HD.out]
  go_wp2_with fail
  go_ret2
  exact ⟨rfl, rfl⟩
theorem timeout_no (g : Nat) (x : Wt) (k : Int) (h1 : ¬ (1 ≤ k ∧ k ≤ (x.n : Nat))) (w : World) (hW : WatchAt w g x) : Calls Try.prog 17 #[.pointer (some ⟨g, 0, none⟩), .int .i64 k] w fun e w' => e = .returned (.tuple #[.int .i64 0, .int .i64 1]) ∧ w' = w := by
  have HW : Hid (WatchAt w g x) := hW
  have hd : decide (1 ≤ k ∧ k ≤ (x.n : Nat)) = false := decide_eq_false h1
  have HD : Hid _ := hd
  clear hW hd h1
  go_enter Try.func17, Try.ntmps17
  go_wp2_with fail
  refine (has_any g x _ _ HW.out).mono ?_
  rintro e w1 ⟨rfl, rfl⟩
  rw [HD.out]
  go_wp2_with fail
  go_ret2
  exact ⟨rfl, rfl⟩
theorem late_world {w w1 : World} {g H T S0 M : Nat} {S1 : Bool} (hw1 : w1 = w.alloc (Obj.cells #[.int .i64 (H : Nat), .int .i64 (T : Nat), .bool S1] 63)) (hg : g < w.heap.size)
    (c1 : w.cell? ⟨g, 1, none⟩ = some (.int .i64 (S0 : Nat))) (c2 : w.cell? ⟨g, 2, none⟩ = some (.int .i64 (M : Nat))) :
    w1.cell? ⟨w.heap.size, 0, none⟩ = some (.int .i64 (H : Nat)) ∧ w1.cell? ⟨w.heap.size, 1, none⟩ = some (.int .i64 (T : Nat)) ∧ w1.cell? ⟨w.heap.size, 2, none⟩ = some (.bool S1) ∧
    w1.cell? ⟨g, 1, none⟩ = some (.int .i64 (S0 : Nat)) ∧ w1.cell? ⟨g, 2, none⟩ = some (.int .i64 (M : Nat)) ∧ True ∧ Below w.heap.size w w1 := by
  have hb : Below w.heap.size w w1 := by rw [hw1]; exact below_alloc0 (Below.refl _ _) _
  refine ⟨?_, ?_, ?_, (hb.cell (p := ⟨g, 1, none⟩) hg).trans c1, (hb.cell (p := ⟨g, 2, none⟩) hg).trans c2, trivial, hb⟩ <;> (rw [hw1]; simp [go_sem])
set_option maxHeartbeats 400000 in
theorem isLate_any (g : Nat) (x : Wt) (k : Nat) (hk : k ≤ 10) (w : World) (hW : WatchAt w g x) : Calls Try.prog 30 #[.pointer (some ⟨g, 0, none⟩), .int .i64 (k : Nat)] w fun e w' => e = .returned (.bool (lateB x k)) ∧ Below w.heap.size w w' := by
  have c1 := hW.c1
  have c2 := hW.c2
  have ch := hW.ch k hk
  have ct := hW.ct k hk
  have cs := hW.cs k hk
  have k1 : (k : Int) < 11 := by omega
  have k0 : (0 : Int) ≤ (k : Int) := by omega
  have b1 := hW.ok.now
  have b2 := hW.ok.h k
  have b3 := hW.ok.t k
  have gl := hW.lt
  obtain ⟨L, hL⟩ : ∃ L, L = lateB x k := ⟨_, rfl⟩
  rw [← hL]
  have HL : Hid _ := hL
  clear hW hk hL
  obtain ⟨S0, hS0⟩ : ∃ S0, S0 = x.self := ⟨_, rfl⟩
  obtain ⟨H, hH⟩ : ∃ H, H = x.h k := ⟨_, rfl⟩
  obtain ⟨T, hT⟩ : ∃ T, T = x.t k := ⟨_, rfl⟩
  obtain ⟨M, hM⟩ : ∃ M, M = x.now := ⟨_, rfl⟩
  obtain ⟨S1, hS⟩ : ∃ S1, S1 = x.s k := ⟨_, rfl⟩
  rw [← hH] at ch b2
  rw [← hT] at ct b3
  rw [← hM] at c2 b1
  rw [← hS0] at c1
  rw [← hS] at cs
  by_cases hs : k = S0
  · have HE : Hid (L = false) := by rw [HL.out]; show lateB x k = false; unfold lateB; rw [decide_eq_false (fun c => c (hs.trans hS0))]; rfl
    clear hS0 hH hT hM hS HL b1 b2 b3
    subst hs
    have g1 : ((k : Int) == (k : Int)) = true := beq_self_eq_true _
    have g2 : ((k : Int) != (k : Int)) = false := by simp
    have g3 : decide ((k : Int) = (k : Int)) = true := decide_eq_true rfl
    go_enter Try.func30, Try.ntmps30
    go_wp2_with fail
    obtain ⟨w1, hw1⟩ : ∃ w1, w1 = w.alloc (Obj.cells #[.int .i64 (H : Nat), .int .i64 (T : Nat), .bool S1] 63) := ⟨_, rfl⟩
    rw [← hw1]
    obtain ⟨n0, n1, n2, b0, b1', b2', hB⟩ := late_world hw1 gl c1 c2
    have HB : Hid _ := hB
    clear hw1 hB c1 c2 ch ct cs
    clear gl
    obtain ⟨B, hBB⟩ : ∃ B, B = w.heap.size := ⟨_, rfl⟩
    have HBB : Hid _ := hBB
    rw [← hBB] at n0 n1 n2 ⊢
    clear hBB
    go_quiet (fail)
    go_wp2_with fail
    go_ret
    rw [HE.out]
    exact ⟨rfl, by first | exact HB.out | exact HB.out.drew | exact below_drewN HB.out _⟩
  · have ks : ¬ ((k : Int) = (S0 : Nat)) := by omega
    have g1 : ((k : Int) == ((S0 : Nat) : Int)) = false := by simpa using ks
    have g2 : ((k : Int) != ((S0 : Nat) : Int)) = true := by simpa using ks
    have g3 : decide ((k : Int) = ((S0 : Nat) : Int)) = false := decide_eq_false ks
    cases S1 with
    | true =>
      have HE : Hid (L = false) := by rw [HL.out]; show lateB x k = false; unfold lateB; rw [← hS]; simp
      clear hs hS0 hH hT hM hS HL b1 b2 b3
      go_enter Try.func30, Try.ntmps30
      go_wp2_with fail
      obtain ⟨w1, hw1⟩ : ∃ w1, w1 = w.alloc (Obj.cells #[.int .i64 (H : Nat), .int .i64 (T : Nat), .bool true] 63) := ⟨_, rfl⟩
      rw [← hw1]
      obtain ⟨n0, n1, n2, b0, b1', b2', hB⟩ := late_world hw1 gl c1 c2
      have HB : Hid _ := hB
      clear hw1 hB c1 c2 ch ct cs
      clear gl
      obtain ⟨B, hBB⟩ : ∃ B, B = w.heap.size := ⟨_, rfl⟩
      have HBB : Hid _ := hBB
      rw [← hBB] at n0 n1 n2 ⊢
      clear hBB
      go_quiet (fail)
      go_wp2_with fail
      go_ret
      rw [HE.out]
      exact ⟨rfl, by first | exact HB.out | exact HB.out.drew | exact below_drewN HB.out _⟩
    | false =>
      by_cases hl : H + T < M
      · have HE : Hid (L = true) := by rw [HL.out]; show lateB x k = true; unfold lateB; rw [← hS, decide_eq_true (show k ≠ x.self from fun c => hs (c.trans hS0.symm)), ← hH, ← hT, ← hM, decide_eq_true hl]; rfl
        have d1 : (T : Int) < (M : Int) - (H : Int) := by omega
        have d3 : decide ((T : Int) < (M : Int) - (H : Int)) = true := by simpa using d1
        have d2 : IntKind.i64.wrap ((M : Int) - (H : Int)) = (M : Int) - (H : Int) := IntWalk.i64_in _ (by omega)
        clear hs hS0 hH hT hM hS HL b1 b2 b3 hl
        go_enter Try.func30, Try.ntmps30
        go_wp2_with fail
        obtain ⟨w1, hw1⟩ : ∃ w1, w1 = w.alloc (Obj.cells #[.int .i64 (H : Nat), .int .i64 (T : Nat), .bool false] 63) := ⟨_, rfl⟩
        rw [← hw1]
        obtain ⟨n0, n1, n2, b0, b1', b2', hB⟩ := late_world hw1 gl c1 c2
        have HB : Hid _ := hB
        clear hw1 hB c1 c2 ch ct cs
        clear gl
        obtain ⟨B, hBB⟩ : ∃ B, B = w.heap.size := ⟨_, rfl⟩
        have HBB : Hid _ := hBB
        rw [← hBB] at n0 n1 n2 ⊢
        clear hBB
        go_quiet (fail)
        go_wp2_with fail
        go_ret
        rw [HE.out]
        exact ⟨rfl, by first | exact HB.out | exact HB.out.drew | exact below_drewN HB.out _⟩
      · have HE : Hid (L = false) := by rw [HL.out]; show lateB x k = false; unfold lateB; rw [← hH, ← hT, ← hM, decide_eq_false hl]; simp
        have d1 : ¬ ((T : Int) < (M : Int) - (H : Int)) := by omega
        have d3 : decide ((T : Int) < (M : Int) - (H : Int)) = false := by simpa using d1
        have d2 : IntKind.i64.wrap ((M : Int) - (H : Int)) = (M : Int) - (H : Int) := IntWalk.i64_in _ (by omega)
        clear hs hS0 hH hT hM hS HL b1 b2 b3 hl
        go_enter Try.func30, Try.ntmps30
        go_wp2_with fail
        obtain ⟨w1, hw1⟩ : ∃ w1, w1 = w.alloc (Obj.cells #[.int .i64 (H : Nat), .int .i64 (T : Nat), .bool false] 63) := ⟨_, rfl⟩
        rw [← hw1]
        obtain ⟨n0, n1, n2, b0, b1', b2', hB⟩ := late_world hw1 gl c1 c2
        have HB : Hid _ := hB
        clear hw1 hB c1 c2 ch ct cs
        clear gl
        obtain ⟨B, hBB⟩ : ∃ B, B = w.heap.size := ⟨_, rfl⟩
        have HBB : Hid _ := hBB
        rw [← hBB] at n0 n1 n2 ⊢
        clear hBB
        go_quiet (fail)
        go_wp2_with fail
        go_ret
        rw [HE.out]
        exact ⟨rfl, by first | exact HB.out | exact HB.out.drew | exact below_drewN HB.out _⟩
end Go.Proofs.Ytpgpbfcomobfkaa
