/- The reference of layer 12: which bytes are a frame, or an ack. -/
import Derived.Test.YtadcjdffjhiniaaLkH
import Derived.Test.YtadcjdffjhiniaaPcZ
namespace Go.Proofs.Ytadcjdffjhiniaa
open Go Go.RowKit Go.Lib

/-- The number up to MaxBig that an item is; -1: none. -/
def numV (s : ByteArray) : Int := match n8v s with
  | some v => if v ≤ 1099511627776 then (v : Int) else -1
  | none => -1
theorem numV_le (s : ByteArray) : -1 ≤ numV s ∧ numV s ≤ 1099511627776 := by
  unfold numV
  split
  · split <;> omega
  · omega
set_option maxHeartbeats 1000000 in
theorem rnumber_any (s : ByteArray) (hs : s.size < 140737488351233) (w : World) : Calls Try.prog 35 #[.string s] w fun e w' => e = .returned (.int .i64 (numV s)) ∧ Below w.heap.size w w' := by
  have K : Hid _ := fun w' : World => rtoInts_any s hs w'
  unfold tiPost at K
  match h : n8v s with
  | some v =>
    obtain ⟨h1, h2, h3⟩ := n8v_some h
    rw [h2, h3] at K
    by_cases hv : v ≤ 1099511627776
    · have e1 : numV s = (v : Nat) := by unfold numV; rw [h]; exact if_pos hv
      have hv' : ¬ ((1099511627776 : Int) < (v : Int)) := by omega
      rw [e1]
      clear h h1 h2 h3 e1 hv hs
      go_enter Try.func35, Try.ntmps35
      go_wp2_with fail
      refine (K.out _).mono ?_
      rintro e w1 ⟨a, cap, rfl, hI, hb1⟩
      obtain ⟨p, o, rfl, hc, hp⟩ := hI 0 (v : Nat) rfl
      rw [Nat.add_zero] at hc
      have H1 : Hid _ := hb1
      clear hb1 K hI
      go_wp2_with fail
      go_ret
      exact ⟨rfl, H1.out⟩
    · have e1 : numV s = -1 := by unfold numV; rw [h]; exact if_neg hv
      have hv' : ((1099511627776 : Int) < (v : Int)) := by omega
      rw [e1]
      clear h h1 h2 h3 e1 hv hs
      go_enter Try.func35, Try.ntmps35
      go_wp2_with fail
      refine (K.out _).mono ?_
      rintro e w1 ⟨a, cap, rfl, hI, hb1⟩
      obtain ⟨p, o, rfl, hc, hp⟩ := hI 0 (v : Nat) rfl
      rw [Nat.add_zero] at hc
      have H1 : Hid _ := hb1
      clear hb1 K hI
      go_wp2_with fail
      go_ret
      exact ⟨rfl, H1.out⟩
  | none =>
    have e1 : numV s = -1 := by unfold numV; rw [h]
    rw [e1]
    rcases tiE_or s.data.toList with h2 | ⟨h2, h3⟩
    · have hl : (tiL s.data.toList).length ≠ 1 := by
        have := ti_len h2
        rw [ba_len] at this
        rcases n8v_none h with q | q
        · omega
        · rw [h2] at q; exact absurd q.1 (by decide)
      obtain ⟨m, hm⟩ : ∃ m, m = (tiL s.data.toList).length := ⟨_, rfl⟩
      rw [h2, ← hm] at K
      rw [← hm] at hl
      have hl' : ¬ ((m : Int) = 1) := by omega
      clear h h2 e1 hs hm hl
      go_enter Try.func35, Try.ntmps35
      go_wp2_with fail
      refine (K.out _).mono ?_
      rintro e w1 ⟨a, cap, rfl, -, hb1⟩
      have H1 : Hid _ := hb1
      clear hb1 K
      go_wp2_with fail
      go_ret
      exact ⟨rfl, H1.out⟩
    · rw [h2, h3] at K
      clear h h2 h3 e1 hs
      go_enter Try.func35, Try.ntmps35
      go_wp2_with fail
      refine (K.out _).mono ?_
      rintro e w1 ⟨a, cap, rfl, -, hb1⟩
      have H1 : Hid _ := hb1
      clear hb1 K
      go_wp2_with fail
      go_ret
      exact ⟨rfl, H1.out⟩
theorem put3 {w w1 : World} {B G : Nat} {a0 a1 a2 v0 v1 v2 : Value} (hb : Below B w w1) (hG : B ≤ G) (q0 : w1.cell? ⟨G, 0, none⟩ = some a0) (q1 : w1.cell? ⟨G, 1, none⟩ = some a1) (q2 : w1.cell? ⟨G, 2, none⟩ = some a2) (hlt : G < w1.heap.size) (ob : Obj) (hB : B ≤ w1.heap.size := by omega) :
    ∃ W, W = ((((w1.setCell ⟨G, 0, none⟩ v0).setCell ⟨G, 1, none⟩ v1).setCell ⟨G, 2, none⟩ v2).alloc ob) ∧ W.cell? ⟨G, 0, none⟩ = some v0 ∧ W.cell? ⟨G, 1, none⟩ = some v1 ∧ W.cell? ⟨G, 2, none⟩ = some v2 ∧ Below B w W := by
  have hs : ((((w1.setCell ⟨G, 0, none⟩ v0).setCell ⟨G, 1, none⟩ v1).setCell ⟨G, 2, none⟩ v2)).heap.size = w1.heap.size := by rw [World.size_setCell, World.size_setCell, World.size_setCell]
  have c := (Below.refl w1.heap.size ((((w1.setCell ⟨G, 0, none⟩ v0).setCell ⟨G, 1, none⟩ v1).setCell ⟨G, 2, none⟩ v2))).alloc (by rw [hs]; exact Nat.le_refl _) ob
  refine ⟨_, rfl, ?_, ?_, ?_, ?_⟩
  · rw [c.cell (p := ⟨G, 0, none⟩) hlt, World.cell?_setCell_other _ _ _ _ (by intro c; injection c with _ c2 _; omega), World.cell?_setCell_other _ _ _ _ (by intro c; injection c with _ c2 _; omega)]
    exact World.cell?_setCell_same _ _ _ q0
  · rw [c.cell (p := ⟨G, 1, none⟩) hlt, World.cell?_setCell_other _ _ _ _ (by intro c; injection c with _ c2 _; omega)]
    exact World.cell?_setCell_same _ _ _ (by rw [World.cell?_setCell_other _ _ _ _ (by intro c; injection c with _ c2 _; omega)]; exact q1)
  · rw [c.cell (p := ⟨G, 2, none⟩) hlt]
    exact World.cell?_setCell_same _ _ _ (by rw [World.cell?_setCell_other _ _ _ _ (by intro c; injection c with _ c2 _; omega), World.cell?_setCell_other _ _ _ _ (by intro c; injection c with _ c2 _; omega)]; exact q2)
  · refine (((hb.setCell hG v0).setCell hG v1).setCell hG v2).alloc ?_ ob
    rw [hs]; exact hB
/-- What bytes say, or nothing. -/
def opPost (w : World) (r : Option (Nat × Nat × ByteArray)) (e : Ending) (w' : World) : Prop :=
  (match r with
  | some (l, n, t) => e = .returned (.tuple #[.agg #[.int .i64 (l : Nat), .int .i64 (n : Nat), .string t], .bool true])
  | none => e = .returned (.tuple #[.agg #[.int .i64 0, .int .i64 0, .string ⟨#[]⟩], .bool false])) ∧ Below w.heap.size w w'
set_option maxHeartbeats 2000000 in
theorem ropen_pre {k : Nat} {s : ByteArray} (hk : k = 1 ∨ k = 2) (hs : s.size < 140737488351233) (h : upE s.data.toList ≠ 0 ∨ (upE s.data.toList = 0 ∧ upK s.data.toList ≠ (k : Nat)) ∨ (upE s.data.toList = 0 ∧ upK s.data.toList = (k : Nat) ∧ (upL s.data.toList).length ≠ 2 + (2 - k))) (w : World) :
    Calls Try.prog 24 #[.string s, .int .i64 (k : Nat)] w fun e w' => opPost w none e w' := by
  have KU : Hid _ := fun w' : World => runpack_any s hs w'
  unfold rupPost at KU
  rcases h with h1 | ⟨h1, h2⟩ | ⟨h1, h2, h3⟩
  · obtain ⟨E, hE⟩ : ∃ E, E = upE s.data.toList := ⟨_, rfl⟩
    rw [← hE] at KU h1
    rw [(upE_not (t := s.data.toList) (by rw [← hE]; exact h1)).1, (upE_not (t := s.data.toList) (by rw [← hE]; exact h1)).2] at KU
    clear hE
    go_enter Try.func24, Try.ntmps24
    go_wp2_with fail
    refine (KU.out _).mono ?_
    rintro e w1 ⟨p, cap, rfl, -, hb1⟩
    have H1 : Hid _ := below_call0 (below_alloc0 (Below.refl _ _) _) hb1
    obtain ⟨q0, q1, q2, z0, z1, z2⟩ : w1.cell? ⟨w.heap.size, 0, none⟩ = some (.int .i64 0) ∧ w1.cell? ⟨w.heap.size, 1, none⟩ = some (.int .i64 0) ∧ w1.cell? ⟨w.heap.size, 2, none⟩ = some (.string ⟨#[]⟩) ∧ w1.frozen? ⟨w.heap.size, 0, none⟩ = false ∧ w1.frozen? ⟨w.heap.size, 1, none⟩ = false ∧ w1.frozen? ⟨w.heap.size, 2, none⟩ = false := by
      have c := bcell hb1
      refine ⟨?_, ?_, ?_, ?_, ?_, ?_⟩
      all_goals first | (rw [c.1 _ _ (by simp)]; simp [go_sem]; done) | (rw [c.2 _ _ (by simp)]; simp [go_sem]; done)
    have hlt : w.heap.size < w1.heap.size := Nat.lt_of_lt_of_le (by simp) hb1.size
    have HZ : Hid (Below w.heap.size w w1 ∧ w.heap.size < w1.heap.size) := ⟨H1.out, hlt⟩
    clear hb1 KU H1
    go_wp2_with fail
    obtain ⟨W, hW, f0, f1, f2, hBW⟩ := put3 (v0 := .int .i64 0) (v1 := .int .i64 0) (v2 := .string ⟨#[]⟩) HZ.out.1 (Nat.le_refl _) q0 q1 q2 HZ.out.2 (.cells #[.int .i64 0, .slice p 0 cap] 83)
    rw [← hW]
    refine bodyPost_ret (v := .tuple #[.agg #[.int .i64 0, .int .i64 0, .string ⟨#[]⟩], .bool false]) ?_ rfl ⟨rfl, hBW⟩
    simp [results, Try.results24, go_sem, f0, f1, f2]
  · obtain ⟨K, hK⟩ : ∃ K, K = upK s.data.toList := ⟨_, rfl⟩
    rw [← hK] at KU h2
    rw [h1] at KU
    clear hK h1
    go_enter Try.func24, Try.ntmps24
    go_wp2_with fail
    refine (KU.out _).mono ?_
    rintro e w1 ⟨p, cap, rfl, -, hb1⟩
    have H1 : Hid _ := below_call0 (below_alloc0 (Below.refl _ _) _) hb1
    obtain ⟨q0, q1, q2, z0, z1, z2⟩ : w1.cell? ⟨w.heap.size, 0, none⟩ = some (.int .i64 0) ∧ w1.cell? ⟨w.heap.size, 1, none⟩ = some (.int .i64 0) ∧ w1.cell? ⟨w.heap.size, 2, none⟩ = some (.string ⟨#[]⟩) ∧ w1.frozen? ⟨w.heap.size, 0, none⟩ = false ∧ w1.frozen? ⟨w.heap.size, 1, none⟩ = false ∧ w1.frozen? ⟨w.heap.size, 2, none⟩ = false := by
      have c := bcell hb1
      refine ⟨?_, ?_, ?_, ?_, ?_, ?_⟩
      all_goals first | (rw [c.1 _ _ (by simp)]; simp [go_sem]; done) | (rw [c.2 _ _ (by simp)]; simp [go_sem]; done)
    have hlt : w.heap.size < w1.heap.size := Nat.lt_of_lt_of_le (by simp) hb1.size
    have HZ : Hid (Below w.heap.size w w1 ∧ w.heap.size < w1.heap.size) := ⟨H1.out, hlt⟩
    clear hb1 KU H1
    go_wp2_with fail
    obtain ⟨W, hW, f0, f1, f2, hBW⟩ := put3 (v0 := .int .i64 0) (v1 := .int .i64 0) (v2 := .string ⟨#[]⟩) HZ.out.1 (Nat.le_refl _) q0 q1 q2 HZ.out.2 (.cells #[.int .i64 K, .slice p (upL s.data.toList).length cap] 83)
    rw [← hW]
    refine bodyPost_ret (v := .tuple #[.agg #[.int .i64 0, .int .i64 0, .string ⟨#[]⟩], .bool false]) ?_ rfl ⟨rfl, hBW⟩
    simp [results, Try.results24, go_sem, f0, f1, f2]
  · obtain ⟨n, hn⟩ : ∃ n, n = (upL s.data.toList).length := ⟨_, rfl⟩
    rw [← hn] at KU h3
    rw [h1, h2] at KU
    have h3' : ¬ ((n : Int) = 4 - (k : Int)) := by omega
    have kb : (k : Int) ≤ 2 := by omega
    clear hn h1 h2 h3
    go_enter Try.func24, Try.ntmps24
    go_wp2_with fail
    refine (KU.out _).mono ?_
    rintro e w1 ⟨p, cap, rfl, -, hb1⟩
    have H1 : Hid _ := below_call0 (below_alloc0 (Below.refl _ _) _) hb1
    obtain ⟨q0, q1, q2, z0, z1, z2⟩ : w1.cell? ⟨w.heap.size, 0, none⟩ = some (.int .i64 0) ∧ w1.cell? ⟨w.heap.size, 1, none⟩ = some (.int .i64 0) ∧ w1.cell? ⟨w.heap.size, 2, none⟩ = some (.string ⟨#[]⟩) ∧ w1.frozen? ⟨w.heap.size, 0, none⟩ = false ∧ w1.frozen? ⟨w.heap.size, 1, none⟩ = false ∧ w1.frozen? ⟨w.heap.size, 2, none⟩ = false := by
      have c := bcell hb1
      refine ⟨?_, ?_, ?_, ?_, ?_, ?_⟩
      all_goals first | (rw [c.1 _ _ (by simp)]; simp [go_sem]; done) | (rw [c.2 _ _ (by simp)]; simp [go_sem]; done)
    have hlt : w.heap.size < w1.heap.size := Nat.lt_of_lt_of_le (by simp) hb1.size
    have HZ : Hid (Below w.heap.size w w1 ∧ w.heap.size < w1.heap.size) := ⟨H1.out, hlt⟩
    clear hb1 KU H1
    go_wp2_with fail
    obtain ⟨W, hW, f0, f1, f2, hBW⟩ := put3 (v0 := .int .i64 0) (v1 := .int .i64 0) (v2 := .string ⟨#[]⟩) HZ.out.1 (Nat.le_refl _) q0 q1 q2 HZ.out.2 (.cells #[.int .i64 (k : Nat), .slice p n cap] 83)
    rw [← hW]
    refine bodyPost_ret (v := .tuple #[.agg #[.int .i64 0, .int .i64 0, .string ⟨#[]⟩], .bool false]) ?_ rfl ⟨rfl, hBW⟩
    simp [results, Try.results24, go_sem, f0, f1, f2]
end Go.Proofs.Ytadcjdffjhiniaa
