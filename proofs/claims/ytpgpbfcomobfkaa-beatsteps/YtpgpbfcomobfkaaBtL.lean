/- What BeatFew and BeatHeard keep, over plain numbers; the steps in memory. -/
import Derived.Test.YtpgpbfcomobfkaaBtK
namespace Go.Proofs.Ytpgpbfcomobfkaa
open Go Go.RowKit Go.Lib

def FewC (t : Nat) (s : Bool) (k : Nat) : Prop :=
  (t = 4 ∧ s = false ∧ k = 0) ∨ (t = 4 ∧ s = true ∧ k = 1) ∨ (t = 8 ∧ s = false ∧ k = 1) ∨ (t = 8 ∧ s = true ∧ k = 2) ∨ (t = 16 ∧ s = false ∧ k = 2) ∨ (t = 16 ∧ s = true ∧ k = 3) ∨ (t = 32 ∧ s = false ∧ k = 3) ∨ (t = 32 ∧ s = true ∧ k = 4) ∨ (t = 64 ∧ s = false ∧ k = 4)
structure FewI (x : Wt) (now last told : Nat) : Prop where
  n : x.n = 4
  self : x.self = 1
  nw : x.now ≤ now
  h : x.h 2 = last
  le : now ≤ last + 64
  c : FewC (x.t 2) (x.s 2) told
theorem FewI.start : FewI (newW 4 1 0) 0 0 0 := ⟨rfl, rfl, Nat.le_refl _, rfl, by omega, .inl ⟨rfl, rfl, rfl⟩⟩
theorem FewI.le5 {x : Wt} {now last told : Nat} (h : FewI x now last told) : told ≤ 4 := by
  have := h.c
  unfold FewC at this
  omega
theorem FewI.on {x : Wt} {now last told m : Nat} (h : FewI x now last told) (h1 : now ≤ m) (h2 : m ≤ last + 64) : FewI x m last told := ⟨h.n, h.self, Nat.le_trans h.nw h1, h.h, h2, h.c⟩
theorem FewI.two {x : Wt} {now last told m : Nat} (h : FewI x now last told) : FewI (heardW x 2 m) m m told := by
  refine ⟨h.n, h.self, Nat.le_refl _, by unfold heardW; simp, by omega, ?_⟩
  have e1 : (heardW x 2 m).t 2 = dbl (x.s 2) (x.t 2) := by unfold heardW; simp
  have e2 : (heardW x 2 m).s 2 = false := by unfold heardW; simp
  rw [e1, e2]
  have hc := h.c
  unfold FewC at hc ⊢
  unfold dbl
  rcases hc with ⟨a, b, c⟩ | ⟨a, b, c⟩ | ⟨a, b, c⟩ | ⟨a, b, c⟩ | ⟨a, b, c⟩ | ⟨a, b, c⟩ | ⟨a, b, c⟩ | ⟨a, b, c⟩ | ⟨a, b, c⟩ <;> rw [a, b] <;> simp <;> omega
theorem FewI.other {x : Wt} {now last told m k : Nat} (h : FewI x now last told) (hk : k ≠ 2) (h2 : m ≤ last + 64) : FewI (heardW x k m) m last told := by
  have e0 : ¬ (2 = k) := fun c => hk c.symm
  refine ⟨h.n, h.self, Nat.le_refl _, ?_, h2, ?_⟩
  · have : (heardW x k m).h 2 = x.h 2 := by unfold heardW; simp [e0]
    rw [this]; exact h.h
  · have e1 : (heardW x k m).t 2 = x.t 2 := by unfold heardW; simp [e0]
    have e2 : (heardW x k m).s 2 = x.s 2 := by unfold heardW; simp [e0]
    rw [e1, e2]; exact h.c
theorem FewI.check {x : Wt} {now last told m : Nat} (h : FewI x now last told) (h2 : m ≤ last + 64) : FewI (checkW x m) m last (told + if lateB (atW x m) 2 then 1 else 0) := by
  refine ⟨h.n, h.self, Nat.le_refl _, h.h, h2, ?_⟩
  have e1 : (checkW x m).t 2 = x.t 2 := rfl
  have e2 : (checkW x m).s 2 = (x.s 2 || (decide (1 ≤ 2) && (decide (2 ≤ x.n) && lateB (atW x m) 2))) := rfl
  have e3 : lateB (atW x m) 2 = (decide (2 ≠ x.self) && (!x.s 2 && decide (x.h 2 + x.t 2 < m))) := rfl
  rw [e1, e2, e3, h.n, h.self, h.h]
  have hc := h.c
  unfold FewC at hc ⊢
  rcases hc with ⟨a, b, c⟩ | ⟨a, b, c⟩ | ⟨a, b, c⟩ | ⟨a, b, c⟩ | ⟨a, b, c⟩ | ⟨a, b, c⟩ | ⟨a, b, c⟩ | ⟨a, b, c⟩ | ⟨a, b, c⟩ <;> rw [a, b] <;>
    (by_cases q : last + x.t 2 < m <;> rw [a] at q <;> simp [q] <;> omega)
theorem count_two {y : Wt} (h : y.n = 4) : (lateL y).count 2 = if lateB y 2 then 1 else 0 := by
  unfold lateL
  rw [h]
  simp only [lsN]
  cases lateB y 1 <;> cases lateB y 2 <;> cases lateB y 3 <;> cases lateB y 4 <;> rfl

/-- Steps behind an address: three numbers each. -/
def StepsIn (w : World) (a : Option Addr) (len : Nat) : Prop :=
  ∀ j, j < len → ∃ (p o : Nat) (X N M : Int), a = some ⟨p, o, none⟩ ∧ w.cell? ⟨p, o + j * 3, none⟩ = some (.int .i64 X) ∧ w.cell? ⟨p, o + j * 3 + 1, none⟩ = some (.int .i64 N) ∧ w.cell? ⟨p, o + j * 3 + 2, none⟩ = some (.int .i64 M) ∧ p < w.heap.size
theorem step_world {w w1 : World} {X N M : Int} (hw1 : w1 = w.alloc (Obj.cells #[.int .i64 X, .int .i64 N, .int .i64 M] 32)) :
    w1.cell? ⟨w.heap.size, 0, none⟩ = some (.int .i64 X) ∧ w1.cell? ⟨w.heap.size, 1, none⟩ = some (.int .i64 N) ∧ w1.cell? ⟨w.heap.size, 2, none⟩ = some (.int .i64 M) ∧ w.heap.size < w1.heap.size ∧ Below w.heap.size w w1 := by
  have hb : Below w.heap.size w w1 := by rw [hw1]; exact below_alloc0 (Below.refl _ _) _
  refine ⟨?_, ?_, ?_, ?_, hb⟩ <;> (rw [hw1]; simp [go_sem])
end Go.Proofs.Ytpgpbfcomobfkaa
