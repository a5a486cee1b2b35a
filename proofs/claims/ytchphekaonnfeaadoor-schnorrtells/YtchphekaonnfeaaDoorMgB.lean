/- Several texts laid together. -/
import Derived.Test.YtchphekaonnfeaaDoorFdB
import Derived.Test.YtchphekaonnfeaaDoorFdA
import Derived.Test.YtchphekaonnfeaaDoorLbA
import Derived.Deep.DeepCutAuto
import Derived.Test.YtchphekaonnfeaaDoorMgA
namespace Go.Proofs.YtchphekaonnfeaaDoor
open Go.RowKit
attribute [local go_sem] run_eq4

end Go.Proofs.YtchphekaonnfeaaDoor

namespace Go.Proofs.YtchphekaonnfeaaDoor
open Go.RowKit
attribute [local go_sem] run_eq4

theorem fneg_in (g m a : Nat) (hF : FM m) (ha : a < m) (w : World) (hM : FieldB w g m) :
    Calls Tryd.prog 39 #[.pointer (some ⟨g, 0, none⟩), .agg #[.int .u64 (limb (a) 0 : Nat), .int .u64 (limb (a) 1 : Nat), .int .u64 (limb (a) 2 : Nat), .int .u64 (limb (a) 3 : Nat)]] w fun e w' => e = .returned (.tuple #[.agg #[.int .u64 (limb (subM m 0 a) 0 : Nat), .int .u64 (limb (subM m 0 a) 1 : Nat), .int .u64 (limb (subM m 0 a) 2 : Nat), .int .u64 (limb (subM m 0 a) 3 : Nat)], .int .i64 0]) ∧ Below w.heap.size w w' := by
  refine fneg_go _ a _ _ _ _ 0 (fun w => FieldB w g m) (FB_alloc g m) (fun w h => ?_) w hM
  have m1 := hF.pos
  have k := join_minus g m 0 a _ hF.2.1 (by omega) ha (fun w h => minus_fld g m 0 a hF (by omega) ha w h) w h
  rw [limb_nought, limb_nought, limb_nought, limb_nought] at k
  exact k
end Go.Proofs.YtchphekaonnfeaaDoor

namespace Go.Proofs.YtchphekaonnfeaaDoor
open Go.RowKit

theorem ret_bool {a b : Bool} (h : a = b) : Ending.returned (.bool a) = .returned (.bool b) := by rw [h]

set_option maxHeartbeats 1000000 in
theorem less_ref (a b : Nat) (ha : a < R256) (hb : b < R256) (w : World) :
    Calls Tryd.prog 26 #[.agg #[.int .u64 (limb (a) 0 : Nat), .int .u64 (limb (a) 1 : Nat), .int .u64 (limb (a) 2 : Nat), .int .u64 (limb (a) 3 : Nat)], .agg #[.int .u64 (limb (b) 0 : Nat), .int .u64 (limb (b) 1 : Nat), .int .u64 (limb (b) 2 : Nat), .int .u64 (limb (b) 3 : Nat)]] w fun e w' => e = .returned (.bool (decide (a < b))) ∧ Below w.heap.size w w' := by
  go_enter Tryd.func26, Tryd.ntmps26
  go_wp2
  go_loopw [5] (fun i wr => ∃ k : Nat, k ≤ 4 ∧ i = .int .i64 ((k : Int) - 1) ∧ (∀ j, k ≤ j → j < 4 → limb a j = limb b j) ∧ Num4 wr w.heap.size a ∧ Num4 wr (w.heap.size + 1) b ∧ Below w.heap.size w wr)
    (fun i _ => (intOf i + 1).toNat)
  case atStart => exact ⟨4, by omega, rfl, fun j h1 h2 => by omega, by ((repeat' (first | assumption | (refine Num4.new' ?_; first | omega | (simp; done)) | refine Num4.set ?_ ?_ | refine Num4.alloc ?_ ?_ | refine Num4.drewN ?_ | refine Num4.call ?_ (by assumption) ?_)) <;> (first | omega | (simp; done) | (simp; omega))), by ((repeat' (first | assumption | (refine Num4.new' ?_; first | omega | (simp; done)) | refine Num4.set ?_ ?_ | refine Num4.alloc ?_ ?_ | refine Num4.drewN ?_ | refine Num4.call ?_ (by assumption) ?_)) <;> (first | omega | (simp; done) | (simp; omega))), by ((repeat' (first | with_reducible exact Below.refl _ _ | with_reducible refine Below.setCell ?_ ?_ _ | with_reducible refine below_alloc0 ?_ _ | with_reducible refine below_drewN ?_ _ | with_reducible refine Below.drew ?_ | refine below_call0 ?_ (by assumption))) <;> (first | omega | (simp; done) | (simp; omega)))⟩
  case round =>
    obtain ⟨k, hk, rfl, heq, hca, hcb, hbel⟩ := hrel
    by_cases hk0 : k = 0
    · subst hk0
      have HR : Hid (decide (a < b) = false) := by rw [cmp_eq a b ha hb heq]; simp [Hid]
      clear heq hca hcb
      go_wp2
      go_ret
      exact ⟨ret_bool HR.out.symm, by ((repeat' (first | with_reducible exact Below.refl _ _ | with_reducible refine Below.setCell ?_ ?_ _ | with_reducible refine below_alloc0 ?_ _ | with_reducible refine below_drewN ?_ _ | with_reducible refine Below.drew ?_ | refine below_call0 ?_ (by assumption))) <;> (first | omega | (simp; done) | (simp; omega)))⟩
    · obtain ⟨m, rfl⟩ : ∃ m, k = m + 1 := ⟨k - 1, by omega⟩
      have e : ((m + 1 : Nat) : Int) - 1 = (m : Int) := by omega
      rw [e]
      clear e
      have hm : m < 4 := by omega
      have ga := hca m hm
      have gb := hcb m hm
      have HC : Hid _ := And.intro hca hcb
      have HE : Hid (∀ j, m + 1 ≤ j → j < 4 → limb a j = limb b j) := heq
      clear hca hcb heq
      by_cases h1 : limb a m < limb b m
      · have HR : Hid (decide (a < b) = true) := by rw [decide_eq_true_iff]; exact cmp_lt a b m ha hb hm HE.out h1
        have e1 : ((limb a m : Int) == (limb b m : Int)) = false := by simp; omega
        have d1 : decide ((limb a m : Int) < (limb b m : Int)) = true := by simpa using h1
        go_wp2
        go_quiet (fail)
        go_wp2
        go_quiet (fail)
        go_wp2
        go_ret
        exact ⟨ret_bool HR.out.symm, by ((repeat' (first | with_reducible exact Below.refl _ _ | with_reducible refine Below.setCell ?_ ?_ _ | with_reducible refine below_alloc0 ?_ _ | with_reducible refine below_drewN ?_ _ | with_reducible refine Below.drew ?_ | refine below_call0 ?_ (by assumption))) <;> (first | omega | (simp; done) | (simp; omega)))⟩
      · by_cases h2 : limb b m < limb a m
        · have HR : Hid (decide (a < b) = false) := by
            have l := cmp_lt b a m hb ha hm (fun j x y => (HE.out j x y).symm) h2
            simp only [Hid, decide_eq_false_iff_not]
            omega
          have e1 : ((limb a m : Int) == (limb b m : Int)) = false := by simp; omega
          have d1 : decide ((limb a m : Int) < (limb b m : Int)) = false := by simpa using h1
          go_wp2
          go_quiet (fail)
          go_wp2
          go_quiet (fail)
          go_wp2
          go_ret
          exact ⟨ret_bool HR.out.symm, by ((repeat' (first | with_reducible exact Below.refl _ _ | with_reducible refine Below.setCell ?_ ?_ _ | with_reducible refine below_alloc0 ?_ _ | with_reducible refine below_drewN ?_ _ | with_reducible refine Below.drew ?_ | refine below_call0 ?_ (by assumption))) <;> (first | omega | (simp; done) | (simp; omega)))⟩
        · have em : limb a m = limb b m := by omega
          have e1 : ((limb a m : Int) == (limb b m : Int)) = true := by simp [em]
          have EM : Hid (limb a m = limb b m) := em
          clear em
          go_wp2
          go_quiet (fail)
          go_wp2
          go_roundw
          case rel =>
            refine ⟨m, by omega, rfl, ?_, HC.out.1, HC.out.2, by ((repeat' (first | with_reducible exact Below.refl _ _ | with_reducible refine Below.setCell ?_ ?_ _ | with_reducible refine below_alloc0 ?_ _ | with_reducible refine below_drewN ?_ _ | with_reducible refine Below.drew ?_ | refine below_call0 ?_ (by assumption))) <;> (first | omega | (simp; done) | (simp; omega)))⟩
            intro j hj hj4
            by_cases hjm : j = m
            · subst hjm; exact EM.out
            · exact HE.out j (by omega) hj4
          case measure => simp [intOf]

end Go.Proofs.YtchphekaonnfeaaDoor

namespace Go.Proofs.YtchphekaonnfeaaDoor
open Go.RowKit

/-- Eight limbs in a block that may be written. -/
def Row8 (w : World) (p : Nat) (f : Nat → Nat) : Prop := (∀ j, j < 8 → w.cell? ⟨p, j, none⟩ = some (.int .u64 (f j : Nat))) ∧ (∀ j, j < 8 → w.frozen? ⟨p, j, none⟩ = false) ∧ p < w.heap.size
theorem Row8.drewN {W : World} {p k : Nat} {f : Nat → Nat} (h : Row8 W p f) : Row8 (W.drewN k) p f := h
theorem Row8.facts {w : World} {p : Nat} {f : Nat → Nat} (h : Row8 w p f) : (w.cell? ⟨p, 0, none⟩ = some (.int .u64 (f 0 : Nat)) ∧ w.cell? ⟨p, 1, none⟩ = some (.int .u64 (f 1 : Nat)) ∧ w.cell? ⟨p, 2, none⟩ = some (.int .u64 (f 2 : Nat)) ∧ w.cell? ⟨p, 3, none⟩ = some (.int .u64 (f 3 : Nat)) ∧ w.cell? ⟨p, 4, none⟩ = some (.int .u64 (f 4 : Nat)) ∧ w.cell? ⟨p, 5, none⟩ = some (.int .u64 (f 5 : Nat)) ∧ w.cell? ⟨p, 6, none⟩ = some (.int .u64 (f 6 : Nat)) ∧ w.cell? ⟨p, 7, none⟩ = some (.int .u64 (f 7 : Nat))) ∧ (w.frozen? ⟨p, 0, none⟩ = false ∧ w.frozen? ⟨p, 1, none⟩ = false ∧ w.frozen? ⟨p, 2, none⟩ = false ∧ w.frozen? ⟨p, 3, none⟩ = false ∧ w.frozen? ⟨p, 4, none⟩ = false ∧ w.frozen? ⟨p, 5, none⟩ = false ∧ w.frozen? ⟨p, 6, none⟩ = false ∧ w.frozen? ⟨p, 7, none⟩ = false) ∧ p < w.heap.size :=
  ⟨⟨h.1 0 (by omega), h.1 1 (by omega), h.1 2 (by omega), h.1 3 (by omega), h.1 4 (by omega), h.1 5 (by omega), h.1 6 (by omega), h.1 7 (by omega)⟩, ⟨h.2.1 0 (by omega), h.2.1 1 (by omega), h.2.1 2 (by omega), h.2.1 3 (by omega), h.2.1 4 (by omega), h.2.1 5 (by omega), h.2.1 6 (by omega), h.2.1 7 (by omega)⟩, h.2.2⟩
theorem Row8.put {W : World} {p n v : Nat} {f g : Nat → Nat} (h : Row8 W p f) (hn : n < 8) (hg : ∀ j, j < 8 → j ≠ n → g j = f j) (hv : g n = v) : Row8 (W.setCell ⟨p, n, none⟩ (.int .u64 (v : Nat))) p g := by
  refine ⟨fun j hj => ?_, fun j hj => by rw [World.frozen?_setCell]; exact h.2.1 j hj, by rw [World.size_setCell]; exact h.2.2⟩
  by_cases e : j = n
  · subst e
    rw [World.cell?_setCell_same _ _ _ (h.1 j hj), hv]
  · rw [World.cell?_setCell_other _ _ _ _ (by intro c; injection c with _ c2 _; exact e c2.symm), h.1 j hj, hg j hj e]
theorem Row8.set {W : World} {p : Nat} {f : Nat → Nat} {a : Addr} {v : Value} (h : Row8 W p f) (hne : a.block ≠ p) : Row8 (W.setCell a v) p f :=
  ⟨fun j hj => by rw [World.cell?_setCell_other _ _ _ _ (by intro c; apply hne; rw [c])]; exact h.1 j hj, fun j hj => by rw [World.frozen?_setCell]; exact h.2.1 j hj, by rw [World.size_setCell]; exact h.2.2⟩
theorem Row8.congr {W : World} {p : Nat} {f g : Nat → Nat} (h : Row8 W p f) (hg : ∀ j, j < 8 → f j = g j) : Row8 W p g := ⟨fun j hj => by rw [h.1 j hj, hg j hj], h.2⟩
theorem eightR (P : Nat → Prop) (h0 : P 0) (h1 : P 1) (h2 : P 2) (h3 : P 3) (h4 : P 4) (h5 : P 5) (h6 : P 6) (h7 : P 7) : ∀ j, j < 8 → P j := by
  intro j hj
  match j, hj with
  | 0, _ => exact h0
  | 1, _ => exact h1
  | 2, _ => exact h2
  | 3, _ => exact h3
  | 4, _ => exact h4
  | 5, _ => exact h5
  | 6, _ => exact h6
  | 7, _ => exact h7
theorem Row8.new (W : World) (t : TypeId) : Row8 (W.alloc (.cells #[.int .u64 0, .int .u64 0, .int .u64 0, .int .u64 0, .int .u64 0, .int .u64 0, .int .u64 0, .int .u64 0] t)) W.heap.size (fun _ => 0) :=
  ⟨eightR _ (by simp) (by simp) (by simp) (by simp) (by simp) (by simp) (by simp) (by simp), fun j _ => by simp, by simp⟩
theorem Row8.alloc {W : World} {p : Nat} {f : Nat → Nat} {o : Obj} (h : Row8 W p f) : Row8 (W.alloc o) p f :=
  ⟨fun j hj => (World.cell?_alloc_lt W o ⟨p, j, none⟩ h.2.2).trans (h.1 j hj), fun j hj => ((Below.refl W.heap.size W).alloc (Nat.le_refl _) o).frozen (p := ⟨p, j, none⟩) h.2.2 |>.trans (h.2.1 j hj), Nat.lt_of_lt_of_le h.2.2 (by simp)⟩

/-- What both loops keep. -/
def TmAt (w wx : World) (a b : Nat) (f : Nat → Nat) : Prop := Num4 wx w.heap.size a ∧ Num4 wx (w.heap.size + 1) b ∧ Row8 wx (w.heap.size + 1 + 1) (fun _ => 0) ∧ Row8 wx (w.heap.size + 1 + 1 + 1) f ∧ Below w.heap.size w wx
theorem TmAt.put {w W : World} {a b n v : Nat} {f g : Nat → Nat} (h : TmAt w W a b f) (hn : n < 8) (hg : ∀ j, j < 8 → j ≠ n → g j = f j) (hv : g n = v) : TmAt w (W.setCell ⟨w.heap.size + 1 + 1 + 1, n, none⟩ (.int .u64 (v : Nat))) a b g :=
  ⟨h.1.set (show w.heap.size + 1 + 1 + 1 ≠ w.heap.size by omega), h.2.1.set (show w.heap.size + 1 + 1 + 1 ≠ w.heap.size + 1 by omega), h.2.2.1.set (show w.heap.size + 1 + 1 + 1 ≠ w.heap.size + 1 + 1 by omega), h.2.2.2.1.put hn hg hv, h.2.2.2.2.setCell (show w.heap.size ≤ w.heap.size + 1 + 1 + 1 by omega) _⟩
theorem TmAt.drewN {w W : World} {a b k : Nat} {f : Nat → Nat} (h : TmAt w W a b f) : TmAt w (W.drewN k) a b f := ⟨h.1, h.2.1, h.2.2.1, h.2.2.2.1, below_drewN h.2.2.2.2 _⟩
theorem TmAt.congr {w W : World} {a b : Nat} {f g : Nat → Nat} (h : TmAt w W a b f) (hg : ∀ j, j < 8 → f j = g j) : TmAt w W a b g := ⟨h.1, h.2.1, h.2.2.1, h.2.2.2.1.congr hg, h.2.2.2.2⟩

end Go.Proofs.YtchphekaonnfeaaDoor

namespace Go.Proofs.YtchphekaonnfeaaDoor
open Go.RowKit

/-- What the loops of the reference's Reduce keep. -/
def RdAt (w wx : World) (m lo hi : Nat) : Prop := FieldB wx w.heap.size m ∧ Pend wx (w.heap.size + 1 + 1) ∧ Own4 wx (w.heap.size + 1 + 1 + 1) lo ∧ Own4 wx (w.heap.size + 1 + 1 + 1 + 1) hi ∧ Below w.heap.size w wx
theorem RdAt.call {w W w1 : World} {m lo hi : Nat} (h : RdAt w W m lo hi) (hb : Below W.heap.size W w1) : RdAt w w1 m lo hi :=
  ⟨h.1.call hb, h.2.1.call hb, h.2.2.1.call hb, h.2.2.2.1.call hb, below_call0 h.2.2.2.2 hb⟩
theorem RdAt.alloc {w W : World} {m lo hi : Nat} {o : Obj} (h : RdAt w W m lo hi) : RdAt w (W.alloc o) m lo hi := h.call ((Below.refl _ _).alloc (Nat.le_refl _) o)
end Go.Proofs.YtchphekaonnfeaaDoor

namespace Go.Proofs.YtchphekaonnfeaaDoor
open Go.RowKit

theorem limb_QQ : limb QQ 0 = 13822214165235122497 ∧ limb QQ 1 = 13451932020343611451 ∧ limb QQ 2 = 18446744073709551614 ∧ limb QQ 3 = 18446744073709551615 ∧ limb (R256 - QQ) 0 = 4624529908474429119 ∧ limb (R256 - QQ) 1 = 4994812053365940164 ∧ limb (R256 - QQ) 2 = 1 ∧ limb (R256 - QQ) 3 = 0 := by decide
theorem Row8.call {W w1 : World} {p : Nat} {f : Nat → Nat} (h : Row8 W p f) (hb : Below W.heap.size W w1) : Row8 w1 p f :=
  ⟨fun j hj => (hb.cell (p := ⟨p, j, none⟩) h.2.2).trans (h.1 j hj), fun j hj => (hb.frozen (p := ⟨p, j, none⟩) h.2.2).trans (h.2.1 j hj), Nat.lt_of_lt_of_le h.2.2 hb.size⟩
theorem scalars2_any (w : World) : Calls Tryd.prog 9 #[] w fun e w' => e = .returned (.agg #[.int .u64 (limb QQ 0 : Nat), .int .u64 (limb QQ 1 : Nat), .int .u64 (limb QQ 2 : Nat), .int .u64 (limb QQ 3 : Nat), .int .u64 (limb (R256 - QQ) 0 : Nat), .int .u64 (limb (R256 - QQ) 1 : Nat), .int .u64 (limb (R256 - QQ) 2 : Nat), .int .u64 (limb (R256 - QQ) 3 : Nat)]) ∧ Below w.heap.size w w' := by
  obtain ⟨l0, l1, l2, l3, g0, g1, g2, g3⟩ := limb_QQ
  rw [l0, l1, l2, l3, g0, g1, g2, g3]
  clear l0 l1 l2 l3 g0 g1 g2 g3
  go_enter Tryd.func9, Tryd.ntmps9
  go_wp2
  refine bodyPost_ret (v := .agg #[.int .u64 (13822214165235122497 : Nat), .int .u64 (13451932020343611451 : Nat), .int .u64 (18446744073709551614 : Nat), .int .u64 (18446744073709551615 : Nat), .int .u64 (4624529908474429119 : Nat), .int .u64 (4994812053365940164 : Nat), .int .u64 (1 : Nat), .int .u64 (0 : Nat)]) ?_ rfl ⟨rfl, ?_⟩
  · simp [results, Tryd.results9, go_sem]
  · ((repeat' (first | with_reducible exact Below.refl _ _ | with_reducible refine Below.setCell ?_ ?_ _ | with_reducible refine below_alloc0 ?_ _ | with_reducible refine below_drewN ?_ _ | with_reducible refine Below.drew ?_ | refine below_call0 ?_ (by assumption))) <;> (first | omega | (simp; done) | (simp; omega)))

theorem FieldB.new (W : World) (m : Nat) (t : TypeId) : FieldB (W.alloc (.cells #[.int .u64 (limb m 0 : Nat), .int .u64 (limb m 1 : Nat), .int .u64 (limb m 2 : Nat), .int .u64 (limb m 3 : Nat), .int .u64 (limb (R256 - m) 0 : Nat), .int .u64 (limb (R256 - m) 1 : Nat), .int .u64 (limb (R256 - m) 2 : Nat), .int .u64 (limb (R256 - m) 3 : Nat)] t)) W.heap.size m :=
  ⟨by refine limbs4 _ ?_ ?_ ?_ ?_ <;> simp [go_sem], by refine limbs4 _ ?_ ?_ ?_ ?_ <;> simp [go_sem], by simp⟩
end Go.Proofs.YtchphekaonnfeaaDoor

namespace Go.Proofs.YtchphekaonnfeaaDoor
open Go.RowKit
attribute [local go_sem] run_eq4

end Go.Proofs.YtchphekaonnfeaaDoor
