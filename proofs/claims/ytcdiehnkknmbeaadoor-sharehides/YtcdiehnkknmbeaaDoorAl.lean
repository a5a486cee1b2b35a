/- The walk along limbs: limb.along with digit.plus and digit.minus, and limb.Add, limb.Sub out of it. -/
import Derived.Test.YtcdiehnkknmbeaaDoorExt
namespace Go.Proofs.YtcdiehnkknmbeaaDoor
open Go.RowKit

theorem below_drewN {B : Nat} {a w : World} (h : Below B a w) (n : Nat) : Below B a (w.drewN n) := ⟨h.os, h.tape, h.output, h.size, h.block⟩

theorem cell_step {S C : Nat → Nat → Nat → Nat} {A B : Nat → Nat} {wr : World} {b k : Nat} (h : ∀ j, j < 4 → wr.cell? ⟨b, j, none⟩ = some (.int .u64 (part S C A B k j))) (j : Nat) (hj : j < 4) (n : Nat) :
    ((wr.drewN n).setCell ⟨b, k, none⟩ (.int .u64 (S (A k) (B k) (chain C A B k)))).cell? ⟨b, j, none⟩ = some (.int .u64 (part S C A B (k + 1) j)) := by
  by_cases e : j = k
  · subst e
    have hh : (wr.drewN n).cell? ⟨b, j, none⟩ = some (.int .u64 (part S C A B j j)) := h j hj
    rw [World.cell?_setCell_same _ _ _ hh]
    simp [part, digs]
  · rw [World.cell?_setCell_other _ _ _ _ (by intro c; injection c with _ c2 _; exact e c2.symm)]
    show wr.cell? _ = _
    rw [h j hj]
    unfold part
    by_cases e2 : j < k
    · rw [if_pos e2, if_pos (by omega)]
    · rw [if_neg e2, if_neg (by omega)]
theorem part_done (S C : Nat → Nat → Nat → Nat) (A B : Nat → Nat) (j : Nat) (h : j < 4) : part S C A B 4 j = digs S C A B j := if_pos h

set_option maxHeartbeats 1000000 in
theorem along_plus (pa pb : Nat) (A B : Nat → Nat) (w : World)
    (ha : ∀ j, j < 4 → w.cell? ⟨pa, j, none⟩ = some (.int .u64 (A j))) (hb : ∀ j, j < 4 → w.cell? ⟨pb, j, none⟩ = some (.int .u64 (B j)))
    (hpa : pa < w.heap.size) (hpb : pb < w.heap.size) (hc : ∀ k, chain addC A B k ≤ 1) :
    Calls Tryd.prog 66 #[.func (.func 68) #[] #[], .pointer (some ⟨pa, 0, none⟩), .pointer (some ⟨pb, 0, none⟩)] w fun e w' =>
      e = .returned (.tuple #[.agg #[.int .u64 (digs addS addC A B 0), .int .u64 (digs addS addC A B 1), .int .u64 (digs addS addC A B 2), .int .u64 (digs addS addC A B 3)],
        .int .u64 (chain addC A B 4)]) ∧ Below w.heap.size w w' := by
  go_enter Tryd.func66, Tryd.ntmps66
  go_wp2
  go_loopw [7, 10] (fun c i wr => ∃ k : Nat, k ≤ 4 ∧ i = .int .i64 k ∧ c = .int .u64 (chain addC A B k) ∧
      (∀ j, j < 4 → wr.cell? ⟨w.heap.size, j, none⟩ = some (.int .u64 (part addS addC A B k j))) ∧ (∀ j, j < 4 → wr.frozen? ⟨w.heap.size, j, none⟩ = false) ∧ Below w.heap.size w wr ∧ w.heap.size < wr.heap.size)
    (fun _ i _ => 4 - (intOf i).toNat)
  case atStart =>
    refine ⟨0, by omega, rfl, rfl, ?_, ?_, (Below.refl _ _).alloc (Nat.le_refl _) _, by simp⟩
    · intro j hj
      match j, hj with
      | 0, _ => simp [part]
      | 1, _ => simp [part]
      | 2, _ => simp [part]
      | 3, _ => simp [part]
    · intro j hj
      simp
  case round =>
    obtain ⟨k, hk, rfl, rfl, hcell, hfr, hbel, hsz⟩ := hrel
    by_cases hlt : k < 4
    · have ga : wr.cell? ⟨pa, k, none⟩ = some (.int .u64 (A k)) := (hbel.cell (p := ⟨pa, k, none⟩) hpa).trans (ha k hlt)
      have gb : wr.cell? ⟨pb, k, none⟩ = some (.int .u64 (B k)) := (hbel.cell (p := ⟨pb, k, none⟩) hpb).trans (hb k hlt)
      have gf := hfr k hlt
      have go := hcell k hlt
      have gc := hc k
      clear ha hb hc
      have HC : Hid (∀ j, j < 4 → wr.cell? ⟨w.heap.size, j, none⟩ = some (.int .u64 (part addS addC A B k j))) := hcell
      have HF : Hid (∀ j, j < 4 → wr.frozen? ⟨w.heap.size, j, none⟩ = false) := hfr
      clear hcell hfr
      go_wp2
      go_quiet ((go_at_call 68; exact Calls.quiet_of_same (plus_any _ _ _ gc _)))
      go_wp2
      go_roundw
      case rel =>
        refine ⟨k + 1, by omega, by go_num, rfl, ?_, ?_, ?_, ?_⟩
        · intro j hj
          exact cell_step HC.out j hj nq
        · intro j hj
          rw [World.frozen?_setCell]
          exact HF.out j hj
        · exact (below_drewN hbel nq).setCell (Nat.le_refl _) _
        · rw [World.size_setCell]; exact hsz
      case measure => simp [intOf]; omega
    · have g0 := hcell 0 (by omega)
      have g1 := hcell 1 (by omega)
      have g2 := hcell 2 (by omega)
      have g3 := hcell 3 (by omega)
      have f0 := hfr 0 (by omega)
      have f1 := hfr 1 (by omega)
      have f2 := hfr 2 (by omega)
      have f3 := hfr 3 (by omega)
      clear ha hb hc hcell hfr
      go_wp2
      have hk4 : k = 4 := by omega
      subst hk4
      refine bodyPost_ret (v := .tuple #[.agg #[.int .u64 (digs addS addC A B 0), .int .u64 (digs addS addC A B 1), .int .u64 (digs addS addC A B 2), .int .u64 (digs addS addC A B 3)], .int .u64 (chain addC A B 4)]) ?_ rfl ⟨rfl, ?_⟩
      · simp [results, Tryd.results66, go_sem, g0, g1, g2, g3]
        rw [part_done _ _ _ _ 0 (by omega), part_done _ _ _ _ 1 (by omega), part_done _ _ _ _ 2 (by omega), part_done _ _ _ _ 3 (by omega)]
        exact ⟨rfl, rfl, rfl, rfl⟩
      · exact (((hbel.setCell (Nat.le_refl _) _).setCell (Nat.le_refl _) _).setCell (Nat.le_refl _) _).setCell (Nat.le_refl _) _

set_option maxHeartbeats 1000000 in
theorem along_minus (pa pb : Nat) (A B : Nat → Nat) (w : World)
    (ha : ∀ j, j < 4 → w.cell? ⟨pa, j, none⟩ = some (.int .u64 (A j))) (hb : ∀ j, j < 4 → w.cell? ⟨pb, j, none⟩ = some (.int .u64 (B j)))
    (hpa : pa < w.heap.size) (hpb : pb < w.heap.size) (hc : ∀ k, chain subB A B k ≤ 1) :
    Calls Tryd.prog 66 #[.func (.func 67) #[] #[], .pointer (some ⟨pa, 0, none⟩), .pointer (some ⟨pb, 0, none⟩)] w fun e w' =>
      e = .returned (.tuple #[.agg #[.int .u64 (digs subS subB A B 0), .int .u64 (digs subS subB A B 1), .int .u64 (digs subS subB A B 2), .int .u64 (digs subS subB A B 3)],
        .int .u64 (chain subB A B 4)]) ∧ Below w.heap.size w w' := by
  go_enter Tryd.func66, Tryd.ntmps66
  go_wp2
  go_loopw [7, 10] (fun c i wr => ∃ k : Nat, k ≤ 4 ∧ i = .int .i64 k ∧ c = .int .u64 (chain subB A B k) ∧
      (∀ j, j < 4 → wr.cell? ⟨w.heap.size, j, none⟩ = some (.int .u64 (part subS subB A B k j))) ∧ (∀ j, j < 4 → wr.frozen? ⟨w.heap.size, j, none⟩ = false) ∧ Below w.heap.size w wr ∧ w.heap.size < wr.heap.size)
    (fun _ i _ => 4 - (intOf i).toNat)
  case atStart =>
    refine ⟨0, by omega, rfl, rfl, ?_, ?_, (Below.refl _ _).alloc (Nat.le_refl _) _, by simp⟩
    · intro j hj
      match j, hj with
      | 0, _ => simp [part]
      | 1, _ => simp [part]
      | 2, _ => simp [part]
      | 3, _ => simp [part]
    · intro j hj
      simp
  case round =>
    obtain ⟨k, hk, rfl, rfl, hcell, hfr, hbel, hsz⟩ := hrel
    by_cases hlt : k < 4
    · have ga : wr.cell? ⟨pa, k, none⟩ = some (.int .u64 (A k)) := (hbel.cell (p := ⟨pa, k, none⟩) hpa).trans (ha k hlt)
      have gb : wr.cell? ⟨pb, k, none⟩ = some (.int .u64 (B k)) := (hbel.cell (p := ⟨pb, k, none⟩) hpb).trans (hb k hlt)
      have gf := hfr k hlt
      have go := hcell k hlt
      have gc := hc k
      clear ha hb hc
      have HC : Hid (∀ j, j < 4 → wr.cell? ⟨w.heap.size, j, none⟩ = some (.int .u64 (part subS subB A B k j))) := hcell
      have HF : Hid (∀ j, j < 4 → wr.frozen? ⟨w.heap.size, j, none⟩ = false) := hfr
      clear hcell hfr
      go_wp2
      go_quiet ((go_at_call 67; exact Calls.quiet_of_same (minus_any _ _ _ gc _)))
      go_wp2
      go_roundw
      case rel =>
        refine ⟨k + 1, by omega, by go_num, rfl, ?_, ?_, ?_, ?_⟩
        · intro j hj
          exact cell_step HC.out j hj nq
        · intro j hj
          rw [World.frozen?_setCell]
          exact HF.out j hj
        · exact (below_drewN hbel nq).setCell (Nat.le_refl _) _
        · rw [World.size_setCell]; exact hsz
      case measure => simp [intOf]; omega
    · have g0 := hcell 0 (by omega)
      have g1 := hcell 1 (by omega)
      have g2 := hcell 2 (by omega)
      have g3 := hcell 3 (by omega)
      have f0 := hfr 0 (by omega)
      have f1 := hfr 1 (by omega)
      have f2 := hfr 2 (by omega)
      have f3 := hfr 3 (by omega)
      clear ha hb hc hcell hfr
      go_wp2
      have hk4 : k = 4 := by omega
      subst hk4
      refine bodyPost_ret (v := .tuple #[.agg #[.int .u64 (digs subS subB A B 0), .int .u64 (digs subS subB A B 1), .int .u64 (digs subS subB A B 2), .int .u64 (digs subS subB A B 3)], .int .u64 (chain subB A B 4)]) ?_ rfl ⟨rfl, ?_⟩
      · simp [results, Tryd.results66, go_sem, g0, g1, g2, g3]
        rw [part_done _ _ _ _ 0 (by omega), part_done _ _ _ _ 1 (by omega), part_done _ _ _ _ 2 (by omega), part_done _ _ _ _ 3 (by omega)]
        exact ⟨rfl, rfl, rfl, rfl⟩
      · exact (((hbel.setCell (Nat.le_refl _) _).setCell (Nat.le_refl _) _).setCell (Nat.le_refl _) _).setCell (Nat.le_refl _) _

end Go.Proofs.YtcdiehnkknmbeaaDoor
