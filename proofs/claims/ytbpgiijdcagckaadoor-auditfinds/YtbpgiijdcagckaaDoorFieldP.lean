/- field.power: a number to a power, by a table of sixteen. -/
import Derived.Test.YtbpgiijdcagckaaDoorFdA
import Derived.Test.YtbpgiijdcagckaaDoorHeldN
import Derived.Deep.RegionWith
import Derived.Deep.WholeRow
namespace Go.Proofs.YtbpgiijdcagckaaDoor
open Go.RowKit

/-- Sixteen numbers in one block. -/
def Tab (w : World) (p : Nat) (f : Nat → Nat) : Prop := (∀ j, j < 16 → ∀ c, c < 4 → w.cell? ⟨p, j * 4 + c, none⟩ = some (.int .u64 (limb (f j) c : Nat))) ∧ (∀ o, w.frozen? ⟨p, o, none⟩ = false) ∧ p < w.heap.size
def TabOk (m a k : Nat) (T : Nat → Nat) : Prop := ∀ j, j < k → T j = a ^ j % m
def smallC : Array Value := (Array.replicate 64 (.int .u64 0)).setIfInBounds 0 (.int .u64 1)
theorem store_small {ops : Array Oper} {rest : List Oper} {o : Oper} {a : Act} {w : World} {c : Array Value} {Q : Exit → Act → World → Prop} (hgd : o.guard = none) (ho : o.op = .store 106 (.tmp 7) (.tmp 12))
    (hx' : ∃ p, a.eval (.tmp 7) = .pointer (some ⟨p, 0, none⟩) ∧ p = w.heap.size) (hy' : ∃ c', a.eval (.tmp 12) = .agg c' ∧ c' = smallC) (hc : c.size = 64)
    (h : wpList Tryd.prog ops Q rest (a.put o.dst undef) (w.alloc (.cells smallC 106))) : wpList Tryd.prog ops Q (o :: rest) a (w.alloc (.cells c 106)) :=
  wpList_plain hgd fun _ hK => by
    obtain ⟨p, hx, rfl⟩ := hx'
    obtain ⟨c', hy, rfl⟩ := hy'
    unfold Oper.wp execOp
    simp only [ho, hx, hy, Instr.storeAt, Instr.sureAddr, Sem.run_bind, Sem.run_pure, Result.andThen_ok, run_storeVar_new (P := Tryd.prog) w 106 c smallC (by kernel_rfl) (by rw [hc]; rfl) (by kernel_rfl)]
    exact hK _ _ h
theorem tab_start (w : World) : Tab (w.alloc (.cells smallC 106)) w.heap.size (fun j => if j = 0 then 1 else 0) := by
  refine ⟨fun j hj c hc => ?_, fun o => by simp, by simp⟩
  rw [World.cell?_alloc_new]
  unfold smallC
  rw [Array.getElem?_setIfInBounds, Array.size_replicate, Array.getElem?_replicate]
  by_cases h0 : j = 0
  · subst h0
    by_cases c0 : c = 0
    · subst c0
      rw [if_pos rfl, if_pos (by decide)]
      show _ = some (Value.int .u64 ((limb 1 0 : Nat) : Int))
      rw [limb_one.1]
      rfl
    · have l : limb 1 c = 0 := by
        have : c = 1 ∨ c = 2 ∨ c = 3 := by omega
        rcases this with rfl | rfl | rfl
        · exact limb_one.2.1
        · exact limb_one.2.2.1
        · exact limb_one.2.2.2
      rw [if_neg (by omega), if_pos (by omega)]
      show _ = some (Value.int .u64 ((limb 1 c : Nat) : Int))
      rw [l]
      rfl
  · rw [if_neg (by omega), if_pos (by omega)]
    show _ = some (Value.int .u64 ((limb (if j = 0 then 1 else 0) c : Nat) : Int))
    rw [if_neg h0, limb_nought]
    rfl

theorem keepP {a t s p i : Nat} {W w1 : World} (h : (s < W.heap.size ∧ p < W.heap.size) ∧ (W.cell? ⟨s, 0, none⟩ = some (.int .u64 (limb (a) 0 : Nat)) ∧ W.cell? ⟨s, 1, none⟩ = some (.int .u64 (limb (a) 1 : Nat)) ∧ W.cell? ⟨s, 2, none⟩ = some (.int .u64 (limb (a) 2 : Nat)) ∧ W.cell? ⟨s, 3, none⟩ = some (.int .u64 (limb (a) 3 : Nat))) ∧ (W.cell? ⟨p, i * 4, none⟩ = some (.int .u64 (limb (t) 0 : Nat)) ∧ W.cell? ⟨p, i * 4 + 1, none⟩ = some (.int .u64 (limb (t) 1 : Nat)) ∧ W.cell? ⟨p, i * 4 + 2, none⟩ = some (.int .u64 (limb (t) 2 : Nat)) ∧ W.cell? ⟨p, i * 4 + 3, none⟩ = some (.int .u64 (limb (t) 3 : Nat)))) (hb : Below W.heap.size W w1) : (s < w1.heap.size ∧ p < w1.heap.size) ∧ (w1.cell? ⟨s, 0, none⟩ = some (.int .u64 (limb (a) 0 : Nat)) ∧ w1.cell? ⟨s, 1, none⟩ = some (.int .u64 (limb (a) 1 : Nat)) ∧ w1.cell? ⟨s, 2, none⟩ = some (.int .u64 (limb (a) 2 : Nat)) ∧ w1.cell? ⟨s, 3, none⟩ = some (.int .u64 (limb (a) 3 : Nat))) ∧ (w1.cell? ⟨p, i * 4, none⟩ = some (.int .u64 (limb (t) 0 : Nat)) ∧ w1.cell? ⟨p, i * 4 + 1, none⟩ = some (.int .u64 (limb (t) 1 : Nat)) ∧ w1.cell? ⟨p, i * 4 + 2, none⟩ = some (.int .u64 (limb (t) 2 : Nat)) ∧ w1.cell? ⟨p, i * 4 + 3, none⟩ = some (.int .u64 (limb (t) 3 : Nat))) := by
  obtain ⟨⟨hs, hp⟩, ⟨a0, a1, a2, a3⟩, c0, c1, c2, c3⟩ := h
  have k1 := fun o => hb.cell (p := ⟨s, o, none⟩) hs
  have k2 := fun o => hb.cell (p := ⟨p, o, none⟩) hp
  have z := hb.size
  exact ⟨⟨by omega, by omega⟩, ⟨(k1 _).trans a0, (k1 _).trans a1, (k1 _).trans a2, (k1 _).trans a3⟩, (k2 _).trans c0, (k2 _).trans c1, (k2 _).trans c2, (k2 _).trans c3⟩
theorem setP {a t s p i : Nat} {W : World} (k c : Nat) (v : Value) (hk : k ≠ i) (hc : c < 4) (hsp : s ≠ p) (h : (s < W.heap.size ∧ p < W.heap.size) ∧ (W.cell? ⟨s, 0, none⟩ = some (.int .u64 (limb (a) 0 : Nat)) ∧ W.cell? ⟨s, 1, none⟩ = some (.int .u64 (limb (a) 1 : Nat)) ∧ W.cell? ⟨s, 2, none⟩ = some (.int .u64 (limb (a) 2 : Nat)) ∧ W.cell? ⟨s, 3, none⟩ = some (.int .u64 (limb (a) 3 : Nat))) ∧ (W.cell? ⟨p, i * 4, none⟩ = some (.int .u64 (limb (t) 0 : Nat)) ∧ W.cell? ⟨p, i * 4 + 1, none⟩ = some (.int .u64 (limb (t) 1 : Nat)) ∧ W.cell? ⟨p, i * 4 + 2, none⟩ = some (.int .u64 (limb (t) 2 : Nat)) ∧ W.cell? ⟨p, i * 4 + 3, none⟩ = some (.int .u64 (limb (t) 3 : Nat)))) : (s < (W.setCell ⟨p, k * 4 + c, none⟩ v).heap.size ∧ p < (W.setCell ⟨p, k * 4 + c, none⟩ v).heap.size) ∧ ((W.setCell ⟨p, k * 4 + c, none⟩ v).cell? ⟨s, 0, none⟩ = some (.int .u64 (limb (a) 0 : Nat)) ∧ (W.setCell ⟨p, k * 4 + c, none⟩ v).cell? ⟨s, 1, none⟩ = some (.int .u64 (limb (a) 1 : Nat)) ∧ (W.setCell ⟨p, k * 4 + c, none⟩ v).cell? ⟨s, 2, none⟩ = some (.int .u64 (limb (a) 2 : Nat)) ∧ (W.setCell ⟨p, k * 4 + c, none⟩ v).cell? ⟨s, 3, none⟩ = some (.int .u64 (limb (a) 3 : Nat))) ∧ ((W.setCell ⟨p, k * 4 + c, none⟩ v).cell? ⟨p, i * 4, none⟩ = some (.int .u64 (limb (t) 0 : Nat)) ∧ (W.setCell ⟨p, k * 4 + c, none⟩ v).cell? ⟨p, i * 4 + 1, none⟩ = some (.int .u64 (limb (t) 1 : Nat)) ∧ (W.setCell ⟨p, k * 4 + c, none⟩ v).cell? ⟨p, i * 4 + 2, none⟩ = some (.int .u64 (limb (t) 2 : Nat)) ∧ (W.setCell ⟨p, k * 4 + c, none⟩ v).cell? ⟨p, i * 4 + 3, none⟩ = some (.int .u64 (limb (t) 3 : Nat))) := by
  obtain ⟨⟨hs, hp⟩, ⟨a0, a1, a2, a3⟩, c0, c1, c2, c3⟩ := h
  have o1 : ∀ o, (W.setCell ⟨p, k * 4 + c, none⟩ v).cell? ⟨s, o, none⟩ = W.cell? ⟨s, o, none⟩ := fun o => World.cell?_setCell_other _ _ _ _ (by intro e; injection e with e1 _ _; exact hsp e1.symm)
  have o2 : ∀ o, o ≠ k * 4 + c → (W.setCell ⟨p, k * 4 + c, none⟩ v).cell? ⟨p, o, none⟩ = W.cell? ⟨p, o, none⟩ := fun o ho => World.cell?_setCell_other _ _ _ _ (by intro e; injection e with _ e2 _; exact ho e2.symm)
  refine ⟨⟨by rw [World.size_setCell]; exact hs, by rw [World.size_setCell]; exact hp⟩, ⟨(o1 _).trans a0, (o1 _).trans a1, (o1 _).trans a2, (o1 _).trans a3⟩, (o2 _ ?_).trans c0, (o2 _ ?_).trans c1, (o2 _ ?_).trans c2, (o2 _ ?_).trans c3⟩ <;> omega
theorem putP {a t s p i : Nat} {W : World} (k : Nat) (v0 v1 v2 v3 : Value) (hk : k ≠ i) (hsp : s ≠ p) (h : (s < W.heap.size ∧ p < W.heap.size) ∧ (W.cell? ⟨s, 0, none⟩ = some (.int .u64 (limb (a) 0 : Nat)) ∧ W.cell? ⟨s, 1, none⟩ = some (.int .u64 (limb (a) 1 : Nat)) ∧ W.cell? ⟨s, 2, none⟩ = some (.int .u64 (limb (a) 2 : Nat)) ∧ W.cell? ⟨s, 3, none⟩ = some (.int .u64 (limb (a) 3 : Nat))) ∧ (W.cell? ⟨p, i * 4, none⟩ = some (.int .u64 (limb (t) 0 : Nat)) ∧ W.cell? ⟨p, i * 4 + 1, none⟩ = some (.int .u64 (limb (t) 1 : Nat)) ∧ W.cell? ⟨p, i * 4 + 2, none⟩ = some (.int .u64 (limb (t) 2 : Nat)) ∧ W.cell? ⟨p, i * 4 + 3, none⟩ = some (.int .u64 (limb (t) 3 : Nat)))) : (s < ((((W.setCell ⟨p, k * 4, none⟩ v0).setCell ⟨p, k * 4 + 1, none⟩ v1).setCell ⟨p, k * 4 + 2, none⟩ v2).setCell ⟨p, k * 4 + 3, none⟩ v3).heap.size ∧ p < ((((W.setCell ⟨p, k * 4, none⟩ v0).setCell ⟨p, k * 4 + 1, none⟩ v1).setCell ⟨p, k * 4 + 2, none⟩ v2).setCell ⟨p, k * 4 + 3, none⟩ v3).heap.size) ∧ (((((W.setCell ⟨p, k * 4, none⟩ v0).setCell ⟨p, k * 4 + 1, none⟩ v1).setCell ⟨p, k * 4 + 2, none⟩ v2).setCell ⟨p, k * 4 + 3, none⟩ v3).cell? ⟨s, 0, none⟩ = some (.int .u64 (limb (a) 0 : Nat)) ∧ ((((W.setCell ⟨p, k * 4, none⟩ v0).setCell ⟨p, k * 4 + 1, none⟩ v1).setCell ⟨p, k * 4 + 2, none⟩ v2).setCell ⟨p, k * 4 + 3, none⟩ v3).cell? ⟨s, 1, none⟩ = some (.int .u64 (limb (a) 1 : Nat)) ∧ ((((W.setCell ⟨p, k * 4, none⟩ v0).setCell ⟨p, k * 4 + 1, none⟩ v1).setCell ⟨p, k * 4 + 2, none⟩ v2).setCell ⟨p, k * 4 + 3, none⟩ v3).cell? ⟨s, 2, none⟩ = some (.int .u64 (limb (a) 2 : Nat)) ∧ ((((W.setCell ⟨p, k * 4, none⟩ v0).setCell ⟨p, k * 4 + 1, none⟩ v1).setCell ⟨p, k * 4 + 2, none⟩ v2).setCell ⟨p, k * 4 + 3, none⟩ v3).cell? ⟨s, 3, none⟩ = some (.int .u64 (limb (a) 3 : Nat))) ∧ (((((W.setCell ⟨p, k * 4, none⟩ v0).setCell ⟨p, k * 4 + 1, none⟩ v1).setCell ⟨p, k * 4 + 2, none⟩ v2).setCell ⟨p, k * 4 + 3, none⟩ v3).cell? ⟨p, i * 4, none⟩ = some (.int .u64 (limb (t) 0 : Nat)) ∧ ((((W.setCell ⟨p, k * 4, none⟩ v0).setCell ⟨p, k * 4 + 1, none⟩ v1).setCell ⟨p, k * 4 + 2, none⟩ v2).setCell ⟨p, k * 4 + 3, none⟩ v3).cell? ⟨p, i * 4 + 1, none⟩ = some (.int .u64 (limb (t) 1 : Nat)) ∧ ((((W.setCell ⟨p, k * 4, none⟩ v0).setCell ⟨p, k * 4 + 1, none⟩ v1).setCell ⟨p, k * 4 + 2, none⟩ v2).setCell ⟨p, k * 4 + 3, none⟩ v3).cell? ⟨p, i * 4 + 2, none⟩ = some (.int .u64 (limb (t) 2 : Nat)) ∧ ((((W.setCell ⟨p, k * 4, none⟩ v0).setCell ⟨p, k * 4 + 1, none⟩ v1).setCell ⟨p, k * 4 + 2, none⟩ v2).setCell ⟨p, k * 4 + 3, none⟩ v3).cell? ⟨p, i * 4 + 3, none⟩ = some (.int .u64 (limb (t) 3 : Nat))) :=
  setP k 3 v3 hk (by omega) hsp (setP k 2 v2 hk (by omega) hsp (setP k 1 v1 hk (by omega) hsp (setP k 0 v0 hk (by omega) hsp h)))
theorem FieldB.set {W : World} {g m : Nat} {a : Addr} {v : Value} (h : FieldB W g m) (hne : a.block ≠ g) : FieldB (W.setCell a v) g m :=
  ⟨h.1.set hne, fun j hj => by rw [World.cell?_setCell_other _ _ _ _ (by intro c; apply hne; rw [c])]; exact h.2.1 j hj, by rw [World.size_setCell]; exact h.2.2⟩
theorem Tab.call {W w1 : World} {p : Nat} {f : Nat → Nat} (h : Tab W p f) (hb : Below W.heap.size W w1) : Tab w1 p f :=
  ⟨fun j hj c hc => (hb.cell (p := ⟨p, j * 4 + c, none⟩) h.2.2).trans (h.1 j hj c hc), fun o => (hb.frozen (p := ⟨p, o, none⟩) h.2.2).trans (h.2.1 o), Nat.lt_of_lt_of_le h.2.2 hb.size⟩
theorem Tab.drew {W : World} {p : Nat} {f : Nat → Nat} (h : Tab W p f) : Tab W.drew p f := h
theorem Tab.alloc {W : World} {p : Nat} {f : Nat → Nat} {o : Obj} (h : Tab W p f) : Tab (W.alloc o) p f := h.call ((Below.refl _ _).alloc (Nat.le_refl _) o)
theorem Tab.at {w : World} {p : Nat} {f : Nat → Nat} (h : Tab w p f) (k : Nat) (hk : k < 16) : (w.cell? ⟨p, k * 4, none⟩ = some (.int .u64 (limb (f k) 0 : Nat)) ∧ w.cell? ⟨p, k * 4 + 1, none⟩ = some (.int .u64 (limb (f k) 1 : Nat)) ∧ w.cell? ⟨p, k * 4 + 2, none⟩ = some (.int .u64 (limb (f k) 2 : Nat)) ∧ w.cell? ⟨p, k * 4 + 3, none⟩ = some (.int .u64 (limb (f k) 3 : Nat))) ∧ (w.frozen? ⟨p, k * 4, none⟩ = false ∧ w.frozen? ⟨p, k * 4 + 1, none⟩ = false ∧ w.frozen? ⟨p, k * 4 + 2, none⟩ = false ∧ w.frozen? ⟨p, k * 4 + 3, none⟩ = false) :=
  ⟨⟨h.1 k hk 0 (by omega), h.1 k hk 1 (by omega), h.1 k hk 2 (by omega), h.1 k hk 3 (by omega)⟩, h.2.1 _, h.2.1 _, h.2.1 _, h.2.1 _⟩
theorem Tab.put1 {W : World} {p : Nat} {f : Nat → Nat} (h : Tab W p f) (k c n : Nat) (hk : k < 16) (hc : c < 4) (j d : Nat) (hj : j < 16) (hd : d < 4) : (W.setCell ⟨p, k * 4 + c, none⟩ (.int .u64 (limb n c : Nat))).cell? ⟨p, j * 4 + d, none⟩ = if j = k ∧ d = c then some (.int .u64 (limb n c : Nat)) else W.cell? ⟨p, j * 4 + d, none⟩ := by
  by_cases e : j = k ∧ d = c
  · obtain ⟨rfl, rfl⟩ := e
    rw [if_pos ⟨rfl, rfl⟩, World.cell?_setCell_same _ _ _ (h.1 j hj d hd)]
  · rw [if_neg e, World.cell?_setCell_other _ _ _ _ (by intro q; injection q with _ q2 _; omega)]
theorem Tab.put {W : World} {p : Nat} {f : Nat → Nat} (h : Tab W p f) (k n : Nat) (hk : k < 16) : Tab ((((W.setCell ⟨p, k * 4, none⟩ (.int .u64 (limb n 0 : Nat))).setCell ⟨p, k * 4 + 1, none⟩ (.int .u64 (limb n 1 : Nat))).setCell ⟨p, k * 4 + 2, none⟩ (.int .u64 (limb n 2 : Nat))).setCell ⟨p, k * 4 + 3, none⟩ (.int .u64 (limb n 3 : Nat))) p (fun j => if j = k then n else f j) := by
  have fr : ∀ (W : World) (a : Addr) (v : Value) (o : Nat), (W.setCell a v).frozen? ⟨p, o, none⟩ = W.frozen? ⟨p, o, none⟩ := fun _ _ _ _ => World.frozen?_setCell _ _ _ _
  have other : ∀ (W : World) (x y : Nat) (v : Value), x ≠ y → (W.setCell ⟨p, x, none⟩ v).cell? ⟨p, y, none⟩ = W.cell? ⟨p, y, none⟩ := fun W x y v h => World.cell?_setCell_other _ _ _ _ (by intro q; injection q with _ q2 _; exact h q2)
  have same : ∀ (W : World) (x : Nat) (v u : Value), W.cell? ⟨p, x, none⟩ = some u → (W.setCell ⟨p, x, none⟩ v).cell? ⟨p, x, none⟩ = some v := fun W x v u h => World.cell?_setCell_same _ _ _ h
  refine ⟨fun j hj c hc => ?_, fun o => by rw [fr, fr, fr, fr]; exact h.2.1 o, by rw [World.size_setCell, World.size_setCell, World.size_setCell, World.size_setCell]; exact h.2.2⟩
  by_cases e : j = k
  · subst e
    show _ = some (Value.int .u64 ((limb (if j = j then n else f j) c : Nat) : Int))
    rw [if_pos rfl]
    have : c = 0 ∨ c = 1 ∨ c = 2 ∨ c = 3 := by omega
    rcases this with rfl | rfl | rfl | rfl
    · rw [other _ _ _ _ (by omega), other _ _ _ _ (by omega), other _ _ _ _ (by omega)]
      exact same _ _ _ _ (h.1 j hj 0 (by omega))
    · rw [other _ _ _ _ (by omega), other _ _ _ _ (by omega)]
      exact same _ _ _ _ ((other _ _ _ _ (by omega)).trans (h.1 j hj 1 (by omega)))
    · rw [other _ _ _ _ (by omega)]
      exact same _ _ _ _ ((other _ _ _ _ (by omega)).trans ((other _ _ _ _ (by omega)).trans (h.1 j hj 2 (by omega))))
    · exact same _ _ _ _ ((other _ _ _ _ (by omega)).trans ((other _ _ _ _ (by omega)).trans ((other _ _ _ _ (by omega)).trans (h.1 j hj 3 (by omega)))))
  · show _ = some (Value.int .u64 ((limb (if j = k then n else f j) c : Nat) : Int))
    rw [if_neg e, other _ _ _ _ (by omega), other _ _ _ _ (by omega), other _ _ _ _ (by omega), other _ _ _ _ (by omega)]
    exact h.1 j hj c hc

/-- What the second loop of field.power keeps. -/
def PwAt (w wx : World) (g m e : Nat) (T : Nat → Nat) (q o : Nat) : Prop := Num4 wx (w.heap.size + 1) e ∧ Pend wx (w.heap.size + 1 + 1) ∧ Tab wx (w.heap.size + 1 + 1 + 1) T ∧ FieldB wx g m ∧ Own4 wx q o ∧ Below w.heap.size w wx
theorem PwAt.call {w W w1 : World} {g m e q o : Nat} {T : Nat → Nat} (h : PwAt w W g m e T q o) (hb : Below W.heap.size W w1) : PwAt w w1 g m e T q o :=
  ⟨h.1.call hb (Nat.lt_trans (by omega) h.2.1.2.2), h.2.1.call hb, h.2.2.1.call hb, h.2.2.2.1.call hb, h.2.2.2.2.1.call hb, below_call0 h.2.2.2.2.2 hb⟩
theorem PwAt.drew {w W : World} {g m e q o : Nat} {T : Nat → Nat} (h : PwAt w W g m e T q o) : PwAt w W.drew g m e T q o := ⟨h.1, h.2.1, h.2.2.1, h.2.2.2.1, h.2.2.2.2.1, Below.drew h.2.2.2.2.2⟩
theorem Tab.set {W : World} {p : Nat} {f : Nat → Nat} {a : Addr} {v : Value} (h : Tab W p f) (hne : a.block ≠ p) : Tab (W.setCell a v) p f :=
  ⟨fun j hj c hc => by rw [World.cell?_setCell_other _ _ _ _ (by intro x; apply hne; rw [x])]; exact h.1 j hj c hc, fun o => by rw [World.frozen?_setCell]; exact h.2.1 o, by rw [World.size_setCell]; exact h.2.2⟩
theorem PwAt.put {w W : World} {g m e q o : Nat} {T : Nat → Nat} (h : PwAt w W g m e T q o) (k : Nat) (hq : w.heap.size + 1 + 1 + 1 < q) (hg : g < w.heap.size) : PwAt w ((((W.setCell ⟨q, 0, none⟩ (.int .u64 (limb k 0 : Nat))).setCell ⟨q, 1, none⟩ (.int .u64 (limb k 1 : Nat))).setCell ⟨q, 2, none⟩ (.int .u64 (limb k 2 : Nat))).setCell ⟨q, 3, none⟩ (.int .u64 (limb k 3 : Nat))) g m e T q k := by
  have n1 : q ≠ w.heap.size + 1 := by omega
  have n2 : q ≠ w.heap.size + 1 + 1 := by omega
  have n3 : q ≠ w.heap.size + 1 + 1 + 1 := by omega
  have n4 : q ≠ g := by omega
  have n5 : w.heap.size ≤ q := by omega
  exact ⟨(((h.1.set n1).set n1).set n1).set n1, (((h.2.1.set n2).set n2).set n2).set n2, (((h.2.2.1.set n3).set n3).set n3).set n3, (((h.2.2.2.1.set n4).set n4).set n4).set n4, h.2.2.2.2.1.put, (((h.2.2.2.2.2.setCell n5 _).setCell n5 _).setCell n5 _).setCell n5 _⟩
def PowIs (m a e n o : Nat) : Prop := o = a ^ (e / 16 ^ n) % m
def SqIs (m o c x : Nat) : Prop := x = o ^ (2 ^ c) % m
theorem SqIs.step {m o c x y : Nat} (h : SqIs m o c x) (hy : y = x * x % m) : SqIs m o (c + 1) y := by
  unfold SqIs at *
  rw [hy, h, sq_step, Nat.pow_succ]
theorem PowIs.step {m a e j o x y nb : Nat} (h : PowIs m a e (j + 1) o) (hs : SqIs m o 4 x) (hn : nb = e / 16 ^ j % 16) (hy : y = x * (a ^ nb % m) % m) : PowIs m a e j y := by
  unfold PowIs SqIs at *
  have e1 : o ^ 2 ^ 4 % m = a ^ (e / 16 ^ (j + 1) * 16) % m := by rw [h, ← Nat.pow_mod, ← Nat.pow_mul]
  rw [hy, hs, e1, mul_step, top_step e j, hn, Nat.mul_comm 16]
theorem and_15 (s : Nat) (h : s < 18446744073709551616) : bits .and .u64 (s : Int) 15 = ((s % 16 : Nat) : Int) := by
  have h := bits_and_u64_nat s 15 h (by omega)
  have e : s &&& 15 = s % 16 := Nat.and_two_pow_sub_one_eq_mod s 4
  rw [e] at h
  exact h
theorem nib_eq (e j u v s : Nat) (hu : u = j / 16) (hv : v = j % 16) (hs : s = v * 4) : bits .and .u64 ((limb e u : Int) / 2 ^ s) 15 = ((e / 16 ^ j % 16 : Nat) : Int) := by
  have x : ((limb e u : Int) / 2 ^ s) = ((limb e u / 2 ^ s : Nat) : Int) := by
    rw [Int.natCast_ediv, Int.natCast_pow]; rfl
  rw [x, and_15 _ (Nat.lt_of_le_of_lt (Nat.div_le_self _ _) (limb_lt e u)), hs, hv, hu, nib]

set_option maxRecDepth 100000 in
set_option maxHeartbeats 4000000 in
theorem power_any (g m a e : Nat) (hF : FM m) (ha : a < m) (he : e < R256) (w : World) (hM : FieldB w g m) :
    Calls Tryd.prog 46 #[.func (.func 43) #[.pointer (some ⟨g, 0, none⟩)] #[], .agg #[.int .u64 (limb (a) 0 : Nat), .int .u64 (limb (a) 1 : Nat), .int .u64 (limb (a) 2 : Nat), .int .u64 (limb (a) 3 : Nat)], .agg #[.int .u64 (limb (e) 0 : Nat), .int .u64 (limb (e) 1 : Nat), .int .u64 (limb (e) 2 : Nat), .int .u64 (limb (e) 3 : Nat)]] w fun x w' => x = .returned (.agg #[.int .u64 (limb (a ^ e % m) 0 : Nat), .int .u64 (limb (a ^ e % m) 1 : Nat), .int .u64 (limb (a ^ e % m) 2 : Nat), .int .u64 (limb (a ^ e % m) 3 : Nat)]) ∧ Below w.heap.size w w' := by
  obtain ⟨r, hr⟩ : ∃ r, r = a ^ e % m := ⟨_, rfl⟩
  rw [← hr]
  have HF : Hid _ := And.intro hF (And.intro ha (And.intro he hr))
  have HM : Hid _ := hM
  clear hF ha he hM hr
  go_enter Tryd.func46, Tryd.ntmps46
  go_wp2_with ((with_reducible refine store_small ?_ ?_ ?_ ?_ ?_ ?_); rfl; rfl; exact ⟨_, rfl, by simp⟩; exact ⟨_, rfl, by kernel_rfl⟩; rfl)
  go_loopw [8] (fun i wr => ∃ (k : Nat) (T : Nat → Nat), (1 ≤ k ∧ k ≤ 16) ∧ i = .int .i64 k ∧ Num4 wr w.heap.size a ∧ Num4 wr (w.heap.size + 1) e ∧ Pend wr (w.heap.size + 1 + 1) ∧ Tab wr (w.heap.size + 1 + 1 + 1) T ∧ TabOk m a k T ∧ FieldB wr g m ∧ Below w.heap.size w wr)
    (fun i _ => 16 - (intOf i).toNat)
  case atStart =>
    refine ⟨1, fun j => if j = 0 then 1 else 0, ⟨by omega, by omega⟩, rfl, by ((repeat' (first | assumption | (refine Num4.new' ?_; first | omega | (simp; done)) | refine Num4.set ?_ ?_ | refine Num4.alloc ?_ ?_ | refine Num4.drewN ?_ | refine Num4.call ?_ (by assumption) ?_)) <;> (first | omega | (simp; done) | (simp; omega))), by ((repeat' (first | assumption | (refine Num4.new' ?_; first | omega | (simp; done)) | refine Num4.set ?_ ?_ | refine Num4.alloc ?_ ?_ | refine Num4.drewN ?_ | refine Num4.call ?_ (by assumption) ?_)) <;> (first | omega | (simp; done) | (simp; omega))), ?_, ?_, ?_, ?_, by ((repeat' (first | with_reducible exact Below.refl _ _ | with_reducible refine Below.setCell ?_ ?_ _ | with_reducible refine below_alloc0 ?_ _ | with_reducible refine below_drewN ?_ _ | with_reducible refine Below.drew ?_ | refine below_call0 ?_ (by assumption))) <;> (first | omega | (simp; done) | (simp; omega)))⟩
    · have h := Pend.new ((w.alloc (.cells #[.int .u64 (limb a 0 : Nat), .int .u64 (limb a 1 : Nat), .int .u64 (limb a 2 : Nat), .int .u64 (limb a 3 : Nat)] 27)).alloc (.cells #[.int .u64 (limb e 0 : Nat), .int .u64 (limb e 1 : Nat), .int .u64 (limb e 2 : Nat), .int .u64 (limb e 3 : Nat)] 27)) 27
      simp only [World.size_alloc] at h
      exact h.alloc
    · have h := tab_start (((w.alloc (.cells #[.int .u64 (limb a 0 : Nat), .int .u64 (limb a 1 : Nat), .int .u64 (limb a 2 : Nat), .int .u64 (limb a 3 : Nat)] 27)).alloc (.cells #[.int .u64 (limb e 0 : Nat), .int .u64 (limb e 1 : Nat), .int .u64 (limb e 2 : Nat), .int .u64 (limb e 3 : Nat)] 27)).alloc (.cells #[.int .u64 0, .int .u64 0, .int .u64 0, .int .u64 0] 27))
      simp only [World.size_alloc] at h
      exact h
    · intro j hj
      obtain rfl : j = 0 := by omega
      rw [Nat.pow_zero, Nat.mod_eq_of_lt HF.out.1.pos]
      rfl
    · exact FieldB.alloc (FieldB.alloc (FieldB.alloc (FieldB.alloc HM.out)))
  case round =>
    obtain ⟨k, T, ⟨hk1, hk⟩, rfl, A1, E1, P1, T1, TO, M1, W1⟩ := hrel
    by_cases hlt : k < 16
    · obtain ⟨i, hi⟩ : ∃ i, k = i + 1 := ⟨k - 1, by omega⟩
      have hw : IntKind.i64.wrap ((k : Int) - 1) = (i : Int) := by rw [IntKind.wrap_i64]; omega
      have hlt' : (k : Int) < 16 := by omega
      have hk0 : (0 : Int) ≤ (k : Int) := by omega
      have hi1 : (i : Int) < 16 := by omega
      have hi0 : (0 : Int) ≤ (i : Int) := by omega
      have hi3 : i < 16 := by omega
      have HI : Hid _ := hi
      have c0 := T1.1 i (by omega) 0 (by omega)
      have c1 := T1.1 i (by omega) 1 (by omega)
      have c2 := T1.1 i (by omega) 2 (by omega)
      have c3 := T1.1 i (by omega) 3 (by omega)
      obtain ⟨a0, a1, a2, a3⟩ := A1.facts
      have hik : i < k := by omega
      clear hi
      go_wp2_with fail
      obtain ⟨x, hx⟩ : ∃ x, x = T i * a % m := ⟨_, rfl⟩
      have ki : ∀ w, FieldB w g m → Calls Tryd.prog 43 #[.pointer (some ⟨g, 0, none⟩), .agg #[.int .u64 (limb (T i) 0 : Nat), .int .u64 (limb (T i) 1 : Nat), .int .u64 (limb (T i) 2 : Nat), .int .u64 (limb (T i) 3 : Nat)], .agg #[.int .u64 (limb (a) 0 : Nat), .int .u64 (limb (a) 1 : Nat), .int .u64 (limb (a) 2 : Nat), .int .u64 (limb (a) 3 : Nat)]] w fun e w' => e = .returned (.agg #[.int .u64 (limb (x) 0 : Nat), .int .u64 (limb (x) 1 : Nat), .int .u64 (limb (x) 2 : Nat), .int .u64 (limb (x) 3 : Nat)]) ∧ Below w.heap.size w w' := fun w h => by
        rw [hx]
        exact times_fld g m (T i) a HF.out.1 (by rw [TO i hik]; exact Nat.lt_trans (Nat.mod_lt _ (by have := HF.out.1.pos; omega)) HF.out.1.2.1) (Nat.lt_trans HF.out.2.1 HF.out.1.2.1) w h
      have KI : Hid _ := ki
      have HX : Hid (x = T i * a % m) := hx
      have hg := HM.out.2.2
      have HT : Hid _ := And.intro TO (And.intro T1 (And.intro M1 (And.intro A1 (And.intro E1 (And.intro P1 W1)))))
      have hsz : w.heap.size < wr.heap.size ∧ w.heap.size + 1 + 1 + 1 < wr.heap.size := ⟨Nat.lt_trans (by omega) T1.2.2, T1.2.2⟩
      have hki : k ≠ i := by have := HI.out; omega
      have hsp : w.heap.size ≠ w.heap.size + 1 + 1 + 1 := by omega
      have HS : Hid ((w.heap.size < wr.heap.size ∧ w.heap.size + 1 + 1 + 1 < wr.heap.size) ∧ (wr.cell? ⟨w.heap.size, 0, none⟩ = some (.int .u64 (limb (a) 0 : Nat)) ∧ wr.cell? ⟨w.heap.size, 1, none⟩ = some (.int .u64 (limb (a) 1 : Nat)) ∧ wr.cell? ⟨w.heap.size, 2, none⟩ = some (.int .u64 (limb (a) 2 : Nat)) ∧ wr.cell? ⟨w.heap.size, 3, none⟩ = some (.int .u64 (limb (a) 3 : Nat))) ∧ (wr.cell? ⟨w.heap.size + 1 + 1 + 1, i * 4, none⟩ = some (.int .u64 (limb (T i) 0 : Nat)) ∧ wr.cell? ⟨w.heap.size + 1 + 1 + 1, i * 4 + 1, none⟩ = some (.int .u64 (limb (T i) 1 : Nat)) ∧ wr.cell? ⟨w.heap.size + 1 + 1 + 1, i * 4 + 2, none⟩ = some (.int .u64 (limb (T i) 2 : Nat)) ∧ wr.cell? ⟨w.heap.size + 1 + 1 + 1, i * 4 + 3, none⟩ = some (.int .u64 (limb (T i) 3 : Nat)))) := ⟨hsz, ⟨a0, a1, a2, a3⟩, c0, c1, c2, c3⟩
      clear ki hx TO T1 M1 A1 E1 P1 W1 HM hsz c0 c1 c2 c3 a0 a1 a2 a3
      go_region_held3 (fun w' => (w.heap.size < w'.heap.size ∧ w.heap.size + 1 + 1 + 1 < w'.heap.size) ∧ (w'.cell? ⟨w.heap.size, 0, none⟩ = some (.int .u64 (limb (a) 0 : Nat)) ∧ w'.cell? ⟨w.heap.size, 1, none⟩ = some (.int .u64 (limb (a) 1 : Nat)) ∧ w'.cell? ⟨w.heap.size, 2, none⟩ = some (.int .u64 (limb (a) 2 : Nat)) ∧ w'.cell? ⟨w.heap.size, 3, none⟩ = some (.int .u64 (limb (a) 3 : Nat))) ∧ (w'.cell? ⟨w.heap.size + 1 + 1 + 1, i * 4, none⟩ = some (.int .u64 (limb (T i) 0 : Nat)) ∧ w'.cell? ⟨w.heap.size + 1 + 1 + 1, i * 4 + 1, none⟩ = some (.int .u64 (limb (T i) 1 : Nat)) ∧ w'.cell? ⟨w.heap.size + 1 + 1 + 1, i * 4 + 2, none⟩ = some (.int .u64 (limb (T i) 2 : Nat)) ∧ w'.cell? ⟨w.heap.size + 1 + 1 + 1, i * 4 + 3, none⟩ = some (.int .u64 (limb (T i) 3 : Nat))))
        ((first | exact HS.out | (with_reducible assumption) | exact keepP (by assumption) (by assumption) | exact putP k _ _ _ _ hki hsp (by assumption)))
        (first | (go_at_call 43; refine (KI.out _ (by first | exact HT.out.2.2.1 | exact FieldB.drew HT.out.2.2.1)).mono ?_; rintro e1 w2 ⟨rfl, hq2⟩; have T2 := Tab.call (W := wr.drew) HT.out.2.1 hq2; obtain ⟨⟨t0, t1, t2, t3⟩, u0, u1, u2, u3⟩ := T2.at k hlt; have R2 : Hid _ := And.intro T2 hq2))
      all_goals
        go_wp2_with fail
        go_roundw
        case rel =>
          have q2 := R2.out.2
          have z1 := HT.out.2.2.2.2.2.1.2.2
          have N1 := Num4.call (W := wr.drew) HT.out.2.2.2.1 q2 (Nat.lt_trans (by omega) z1)
          have N2 := Num4.call (W := wr.drew) HT.out.2.2.2.2.1 q2 (Nat.lt_trans (by omega) z1)
          have N3 := Pend.call (W := wr.drew) HT.out.2.2.2.2.2.1 q2
          have N4 := FieldB.call (W := wr.drew) HT.out.2.2.1 q2
          have N5 := below_call0 (Below.drew HT.out.2.2.2.2.2.2) q2
          have ne1 : w.heap.size + 1 + 1 + 1 ≠ w.heap.size := by omega
          have ne2 : w.heap.size + 1 + 1 + 1 ≠ w.heap.size + 1 := by omega
          have ne3 : w.heap.size + 1 + 1 + 1 ≠ w.heap.size + 1 + 1 := by omega
          have ne4 : w.heap.size + 1 + 1 + 1 ≠ g := by omega
          have le5 : w.heap.size ≤ w.heap.size + 1 + 1 + 1 := by omega
          refine ⟨k + 1, fun j => if j = k then x else T j, ⟨by omega, by omega⟩, by go_num, ?_, ?_, ?_, Tab.put R2.out.1 k x hlt, ?_, ?_, ?_⟩
          · exact (((N1.set ne1).set ne1).set ne1).set ne1
          · exact (((N2.set ne2).set ne2).set ne2).set ne2
          · exact (((N3.set ne3).set ne3).set ne3).set ne3
          · intro j hj
            show (if j = k then x else T j) = _
            by_cases ej : j = k
            · rw [if_pos ej, HX.out, ej, HI.out, HT.out.1 i hik, Nat.mod_mul_mod, ← Nat.pow_succ]
            · rw [if_neg ej]
              exact HT.out.1 j (by omega)
          · exact (((N4.set ne4).set ne4).set ne4).set ne4
          · exact (((N5.setCell le5 _).setCell le5 _).setCell le5 _).setCell le5 _
        case measure => simp [intOf]; omega
    · obtain rfl : k = 16 := by omega
      have m1 := HF.out.1.pos
      have mR := HF.out.1.2.1
      have HT0 : Hid (PowIs m a e 64 (T 0)) := by
        show T 0 = _
        rw [TO 0 (by omega), top_none e HF.out.2.2.1]
      have c0 : wr.cell? ⟨w.heap.size + 1 + 1 + 1, 0, none⟩ = some (.int .u64 (limb (T 0) 0 : Nat)) := T1.1 0 (by omega) 0 (by omega)
      have c1 : wr.cell? ⟨w.heap.size + 1 + 1 + 1, 1, none⟩ = some (.int .u64 (limb (T 0) 1 : Nat)) := T1.1 0 (by omega) 1 (by omega)
      have c2 : wr.cell? ⟨w.heap.size + 1 + 1 + 1, 2, none⟩ = some (.int .u64 (limb (T 0) 2 : Nat)) := T1.1 0 (by omega) 2 (by omega)
      have c3 : wr.cell? ⟨w.heap.size + 1 + 1 + 1, 3, none⟩ = some (.int .u64 (limb (T 0) 3 : Nat)) := T1.1 0 (by omega) 3 (by omega)
      have hg := HM.out.2.2
      have zq := T1.2.2
      have PW0 : Hid (PwAt w (wr.alloc (.cells #[.int .u64 (limb (T 0) 0 : Nat), .int .u64 (limb (T 0) 1 : Nat), .int .u64 (limb (T 0) 2 : Nat), .int .u64 (limb (T 0) 3 : Nat)] 27)) g m e T wr.heap.size (T 0)) := ⟨E1.alloc (Nat.lt_trans (by omega) zq), P1.alloc, T1.alloc, M1.alloc, Own4.new _ _ _, below_alloc0 W1 _⟩
      have KT : Hid (∀ x y r : Nat, x < R256 → y < R256 → r = x * y % m → ∀ w, FieldB w g m → Calls Tryd.prog 43 #[.pointer (some ⟨g, 0, none⟩), .agg #[.int .u64 (limb (x) 0 : Nat), .int .u64 (limb (x) 1 : Nat), .int .u64 (limb (x) 2 : Nat), .int .u64 (limb (x) 3 : Nat)], .agg #[.int .u64 (limb (y) 0 : Nat), .int .u64 (limb (y) 1 : Nat), .int .u64 (limb (y) 2 : Nat), .int .u64 (limb (y) 3 : Nat)]] w fun e w' => e = .returned (.agg #[.int .u64 (limb (r) 0 : Nat), .int .u64 (limb (r) 1 : Nat), .int .u64 (limb (r) 2 : Nat), .int .u64 (limb (r) 3 : Nat)]) ∧ Below w.heap.size w w') := fun x y r hx hy hr w h => by
        rw [hr]
        exact times_fld g m x y HF.out.1 hx hy w h
      have HTO : Hid _ := TO
      clear A1 E1 P1 T1 TO M1 W1 HM hlt hk1 hk
      obtain ⟨q, hq⟩ : ∃ q, q = wr.heap.size := ⟨_, rfl⟩
      rw [← hq] at PW0 zq
      have HQ : Hid _ := hq
      go_wp2_with fail
      rw [← HQ.out]
      go_loopw [10] (fun i wx => ∃ n o : Nat, (n ≤ 64 ∧ o < R256) ∧ i = .int .i64 ((n : Int) - 1) ∧ PowIs m a e n o ∧ PwAt w wx g m e T q o)
        (fun i _ => (intOf i + 1).toNat)
      case atStart =>
        exact ⟨64, T 0, ⟨by omega, by rw [HT0.out]; exact Nat.lt_trans (Nat.mod_lt _ (by omega)) mR⟩, rfl, HT0.out, PW0.out⟩
      case round =>
        clear PW0 c0 c1 c2 c3 HQ hq
        obtain ⟨n, o, ⟨hn, hoR⟩, rfl, hpow, hP⟩ := hrel
        by_cases hn0 : n = 0
        · subst hn0
          have er : o = r := by rw [hpow, HF.out.2.2.2, Nat.pow_zero, Nat.div_one]
          subst er
          obtain ⟨⟨o0, o1, o2, o3⟩, _, _⟩ := hP.2.2.2.2.1.facts
          obtain ⟨⟨p0, p1, p2, p3⟩, ⟨f0, f1, f2, f3⟩, pz⟩ := hP.2.1.facts
          have WP := hP.2.2.2.2.2
          clear HF HT0 KT hpow hP HTO
          go_wp2
          refine bodyPost_ret (v := .agg #[.int .u64 (limb (o) 0 : Nat), .int .u64 (limb (o) 1 : Nat), .int .u64 (limb (o) 2 : Nat), .int .u64 (limb (o) 3 : Nat)]) ?_ rfl ⟨rfl, ?_⟩
          · simp [results, Tryd.results46, go_sem, p0, p1, p2, p3]
          · ((repeat' (first | with_reducible exact Below.refl _ _ | with_reducible refine Below.setCell ?_ ?_ _ | with_reducible refine below_alloc0 ?_ _ | with_reducible refine below_drewN ?_ _ | with_reducible refine Below.drew ?_ | refine below_call0 ?_ (by assumption))) <;> (first | omega | (simp; done) | (simp; omega)))
        · obtain ⟨j, hj⟩ : ∃ j, n = j + 1 := ⟨n - 1, by omega⟩
          have hij : ((n : Int) - 1) = (j : Int) := by omega
          have hj64 : j < 64 := by omega
          have hj0 : (0 : Int) ≤ (j : Int) := by omega
          rw [hij]
          have HPOW : Hid (PowIs m a e (j + 1) o) := by rw [← hj]; exact hpow
          clear hij hpow hj hn0 hn
          go_wp2_with fail
          go_loopw [32] (fun tt wx => ∃ c x : Nat, (c ≤ 4 ∧ x < R256) ∧ tt = .int .i64 c ∧ SqIs m o c x ∧ PwAt w wx g m e T q x)
            (fun tt _ => 4 - (intOf tt).toNat)
          case atStart =>
            exact ⟨0, o, ⟨by omega, hoR⟩, rfl, by show o = _; rw [Nat.pow_zero, Nat.pow_one]; have h := HPOW.out; unfold PowIs at h; rw [h, Nat.mod_mod], hP⟩
          case round =>
            obtain ⟨c, x, ⟨hc, hxR⟩, rfl, hsq, hX⟩ := hrel
            obtain ⟨⟨o0, o1, o2, o3⟩, ⟨s0, s1, s2, s3⟩, oz⟩ := hX.2.2.2.2.1.facts
            have HXX : Hid (PwAt w wr g m e T q x) := hX
            have HSQ : Hid (SqIs m o c x) := hsq
            by_cases hc4 : c < 4
            · obtain ⟨y, hy⟩ : ∃ y, y = x * x % m := ⟨_, rfl⟩
              have HY : Hid _ := hy
              have K1 : Hid _ := KT.out x x y hxR hxR hy
              clear hX hsq hy hP KT
              go_wp2_with fail
              refine (K1.out _ HXX.out.2.2.2.1).mono ?_
              rintro e1 w2 ⟨rfl, hq2⟩
              have X2 := HXX.out.call hq2
              obtain ⟨⟨r0, r1, r2, r3⟩, ⟨u0, u1, u2, u3⟩, uz⟩ := X2.2.2.2.2.1.facts
              have X3 : Hid _ := X2.put y zq hg
              clear o0 o1 o2 o3 s0 s1 s2 s3 oz X2 hq2
              go_wp2_with fail
              go_roundw
              case rel => first | exact ⟨c + 1, y, ⟨by omega, by rw [HY.out]; exact Nat.lt_trans (Nat.mod_lt _ (by omega)) mR⟩, by go_num, HSQ.out.step HY.out, X3.out⟩ | ((repeat apply Exists.intro); exact ⟨⟨c + 1, y, ⟨by omega, by rw [HY.out]; exact Nat.lt_trans (Nat.mod_lt _ (by omega)) mR⟩, by go_num, HSQ.out.step HY.out, X3.out⟩, rfl⟩)
              case measure => simp [intOf]; omega
            · obtain rfl : c = 4 := by omega
              obtain ⟨u, hu⟩ : ∃ u, u = j / 16 := ⟨_, rfl⟩
              obtain ⟨v, hv⟩ : ∃ v, v = j % 16 := ⟨_, rfl⟩
              obtain ⟨s, hs⟩ : ∃ s, s = v * 4 := ⟨_, rfl⟩
              obtain ⟨nb, hnb⟩ : ∃ nb, nb = e / 16 ^ j % 16 := ⟨_, rfl⟩
              have e1 : (j : Int).tdiv 16 = (u : Nat) := by rw [Int.tdiv_eq_ediv_of_nonneg (by omega)]; omega
              have e2 : (j : Int) / 16 = (u : Nat) := by omega
              have e3 : (j : Int).tmod 16 = (v : Nat) := by rw [Int.tmod_eq_emod_of_nonneg (by omega)]; omega
              have e4 : (j : Int) % 16 = (v : Nat) := by omega
              have e5 : IntKind.i64.wrap ((v : Int) * 4) = (s : Nat) := by rw [IntKind.wrap_i64]; omega
              have e6 : (v : Int) * 4 = (s : Nat) := by omega
              have e7 : IntKind.i64.wrap (u : Int) = (u : Int) := by rw [IntKind.wrap_i64]; omega
              have e8 : IntKind.i64.wrap (v : Int) = (v : Int) := by rw [IntKind.wrap_i64]; omega
              have e9 : IntKind.i64.wrap (s : Int) = (s : Int) := by rw [IntKind.wrap_i64]; omega
              have b1 : (0 : Int) ≤ (u : Int) := by omega
              have b2 : (u : Int) < 4 := by omega
              have b3 : (0 : Int) ≤ (s : Int) := by omega
              have b4 : (s : Int) < 64 := by omega
              have nb16 : nb < 16 := by rw [hnb]; exact Nat.mod_lt _ (by decide)
              have b5 : (0 : Int) ≤ (nb : Int) := by omega
              have b6 : (nb : Int) < 16 := by omega
              have eb : bits .and .u64 ((limb e u : Int) / 2 ^ s) 15 = ((nb : Nat) : Int) := by rw [nib_eq e j u v s hu hv hs, ← hnb]
              have hu4 : u < 4 := by omega
              have ge : wr.cell? ⟨w.heap.size + 1, u, none⟩ = some (.int .u64 (limb e u : Nat)) := hX.1 u (by omega)
              obtain ⟨⟨t0, t1, t2, t3⟩, _⟩ := hX.2.2.1.at nb nb16
              have hTR : T nb = a ^ nb % m := HTO.out nb nb16
              obtain ⟨y, hy⟩ : ∃ y, y = x * T nb % m := ⟨_, rfl⟩
              have HY : Hid (PowIs m a e j y) := HPOW.out.step hsq hnb (by rw [hy, hTR])
              have hyR : y < R256 := by rw [hy]; exact Nat.lt_trans (Nat.mod_lt _ (by omega)) mR
              have K1 : Hid _ := KT.out x (T nb) y hxR (by rw [hTR]; exact Nat.lt_trans (Nat.mod_lt _ (by omega)) mR) hy
              clear hu hv hs hnb hX hsq hTR hy hP KT HTO HPOW HSQ
              go_wp2_with fail
              refine wp_region_N (fun w' => PwAt w w' g m e T q x) 14 15 rfl (by kernel_rfl) ?_
              refine wpAnyN_take (i := 0) (oi := ?o0) (v := ?v0) ?hi0 (by kernel_rfl) (by kernel_rfl) (by kernel_rfl) (by kernel_rfl) (by decide) (by kernel_rfl) ?hQ0 ?hy0 (PwAt.drew HXX.out) ?more0
              case hi0 => rw [List.getElem?_toArray]; exact rfl
              case hQ0 => exact fun _ _ _ h => h
              case hy0 =>
                refine Or.inl ⟨by rfl, ?_⟩
                intro w' hSw
                have hSw' : PwAt w w' g m e T q x := hSw
                obtain ⟨⟨o0, o1, o2, o3⟩, _, _⟩ := hSw'.2.2.2.2.1.facts
                have ge : w'.cell? ⟨w.heap.size + 1, u, none⟩ = some (.int .u64 (limb e u : Nat)) := hSw'.1 u hu4
                obtain ⟨⟨t0, t1, t2, t3⟩, _⟩ := hSw'.2.2.1.at nb nb16
                clear hSw hSw'
                go_simp
                try with_reducible rfl
              simp only [Act.put, List.setIfInBounds_toArray, List.set_cons_zero, List.set_cons_succ]
              refine wpAnyN_take (i := 1) (oi := ?o1) (v := ?v1) ?hi1 (by kernel_rfl) (by kernel_rfl) (by kernel_rfl) (by kernel_rfl) (by decide) (by kernel_rfl) ?hQ1 ?hy1 (PwAt.drew HXX.out) ?more1
              case hi1 => rw [List.getElem?_toArray]; exact rfl
              case hQ1 => exact fun _ _ _ h => h
              case hy1 =>
                refine Or.inl ⟨by rfl, ?_⟩
                intro w' hSw
                have hSw' : PwAt w w' g m e T q x := hSw
                obtain ⟨⟨o0, o1, o2, o3⟩, _, _⟩ := hSw'.2.2.2.2.1.facts
                have ge : w'.cell? ⟨w.heap.size + 1, u, none⟩ = some (.int .u64 (limb e u : Nat)) := hSw'.1 u hu4
                obtain ⟨⟨t0, t1, t2, t3⟩, _⟩ := hSw'.2.2.1.at nb nb16
                clear hSw hSw'
                go_simp
                try with_reducible rfl
              simp only [Act.put, List.setIfInBounds_toArray, List.set_cons_zero, List.set_cons_succ]
              refine wpAnyN_take (i := 2) (oi := ?o2) (v := ?v2) ?hi2 (by kernel_rfl) (by kernel_rfl) (by kernel_rfl) (by kernel_rfl) (by decide) (by kernel_rfl) ?hQ2 ?hy2 (PwAt.drew HXX.out) ?more2
              case hi2 => rw [List.getElem?_toArray]; exact rfl
              case hQ2 => exact fun _ _ _ h => h
              case hy2 =>
                refine Or.inl ⟨by rfl, ?_⟩
                intro w' hSw
                have hSw' : PwAt w w' g m e T q x := hSw
                obtain ⟨⟨o0, o1, o2, o3⟩, _, _⟩ := hSw'.2.2.2.2.1.facts
                have ge : w'.cell? ⟨w.heap.size + 1, u, none⟩ = some (.int .u64 (limb e u : Nat)) := hSw'.1 u hu4
                obtain ⟨⟨t0, t1, t2, t3⟩, _⟩ := hSw'.2.2.1.at nb nb16
                clear hSw hSw'
                go_simp
                try with_reducible rfl
              simp only [Act.put, List.setIfInBounds_toArray, List.set_cons_zero, List.set_cons_succ]
              refine wpAnyN_take (i := 3) (oi := ?o3) (v := ?v3) ?hi3 (by kernel_rfl) (by kernel_rfl) (by kernel_rfl) (by kernel_rfl) (by decide) (by kernel_rfl) ?hQ3 ?hy3 (PwAt.drew HXX.out) ?more3
              case hi3 => rw [List.getElem?_toArray]; exact rfl
              case hQ3 => exact fun _ _ _ h => h
              case hy3 =>
                refine Or.inl ⟨by rfl, ?_⟩
                intro w' hSw
                have hSw' : PwAt w w' g m e T q x := hSw
                obtain ⟨⟨o0, o1, o2, o3⟩, _, _⟩ := hSw'.2.2.2.2.1.facts
                have ge : w'.cell? ⟨w.heap.size + 1, u, none⟩ = some (.int .u64 (limb e u : Nat)) := hSw'.1 u hu4
                obtain ⟨⟨t0, t1, t2, t3⟩, _⟩ := hSw'.2.2.1.at nb nb16
                clear hSw hSw'
                go_simp
                try with_reducible rfl
              simp only [Act.put, List.setIfInBounds_toArray, List.set_cons_zero, List.set_cons_succ]
              refine wpAnyN_take (i := 4) (oi := ?o4) (v := ?v4) ?hi4 (by kernel_rfl) (by kernel_rfl) (by kernel_rfl) (by kernel_rfl) (by decide) (by kernel_rfl) ?hQ4 ?hy4 (PwAt.drew HXX.out) ?more4
              case hi4 => rw [List.getElem?_toArray]; exact rfl
              case hQ4 => exact fun _ _ _ h => h
              case hy4 =>
                refine Or.inl ⟨by rfl, ?_⟩
                intro w' hSw
                have hSw' : PwAt w w' g m e T q x := hSw
                obtain ⟨⟨o0, o1, o2, o3⟩, _, _⟩ := hSw'.2.2.2.2.1.facts
                have ge : w'.cell? ⟨w.heap.size + 1, u, none⟩ = some (.int .u64 (limb e u : Nat)) := hSw'.1 u hu4
                obtain ⟨⟨t0, t1, t2, t3⟩, _⟩ := hSw'.2.2.1.at nb nb16
                clear hSw hSw'
                go_simp
                try with_reducible rfl
              simp only [Act.put, List.setIfInBounds_toArray, List.set_cons_zero, List.set_cons_succ]
              refine wpAnyN_take (i := 5) (oi := ?o5) (v := ?v5) ?hi5 (by kernel_rfl) (by kernel_rfl) (by kernel_rfl) (by kernel_rfl) (by decide) (by kernel_rfl) ?hQ5 ?hy5 (PwAt.drew HXX.out) ?more5
              case hi5 => rw [List.getElem?_toArray]; exact rfl
              case hQ5 => exact fun _ _ _ h => h
              case hy5 =>
                refine Or.inl ⟨by rfl, ?_⟩
                intro w' hSw
                have hSw' : PwAt w w' g m e T q x := hSw
                obtain ⟨⟨o0, o1, o2, o3⟩, _, _⟩ := hSw'.2.2.2.2.1.facts
                have ge : w'.cell? ⟨w.heap.size + 1, u, none⟩ = some (.int .u64 (limb e u : Nat)) := hSw'.1 u hu4
                obtain ⟨⟨t0, t1, t2, t3⟩, _⟩ := hSw'.2.2.1.at nb nb16
                clear hSw hSw'
                go_simp
                try with_reducible rfl
              simp only [Act.put, List.setIfInBounds_toArray, List.set_cons_zero, List.set_cons_succ]
              refine wpAnyN_take (i := 6) (oi := ?o6) (v := ?v6) ?hi6 (by kernel_rfl) (by kernel_rfl) (by kernel_rfl) (by kernel_rfl) (by decide) (by kernel_rfl) ?hQ6 ?hy6 (PwAt.drew HXX.out) ?more6
              case hi6 => rw [List.getElem?_toArray]; exact rfl
              case hQ6 => exact fun _ _ _ h => h
              case hy6 =>
                refine Or.inl ⟨by rfl, ?_⟩
                intro w' hSw
                have hSw' : PwAt w w' g m e T q x := hSw
                obtain ⟨⟨o0, o1, o2, o3⟩, _, _⟩ := hSw'.2.2.2.2.1.facts
                have ge : w'.cell? ⟨w.heap.size + 1, u, none⟩ = some (.int .u64 (limb e u : Nat)) := hSw'.1 u hu4
                obtain ⟨⟨t0, t1, t2, t3⟩, _⟩ := hSw'.2.2.1.at nb nb16
                clear hSw hSw'
                go_simp
                try with_reducible rfl
              simp only [Act.put, List.setIfInBounds_toArray, List.set_cons_zero, List.set_cons_succ]
              refine wpAnyN_take (i := 7) (oi := ?o7) (v := ?v7) ?hi7 (by kernel_rfl) (by kernel_rfl) (by kernel_rfl) (by kernel_rfl) (by decide) (by kernel_rfl) ?hQ7 ?hy7 (PwAt.drew HXX.out) ?more7
              case hi7 => rw [List.getElem?_toArray]; exact rfl
              case hQ7 => exact fun _ _ _ h => h
              case hy7 =>
                refine Or.inl ⟨by rfl, ?_⟩
                intro w' hSw
                have hSw' : PwAt w w' g m e T q x := hSw
                obtain ⟨⟨o0, o1, o2, o3⟩, _, _⟩ := hSw'.2.2.2.2.1.facts
                have ge : w'.cell? ⟨w.heap.size + 1, u, none⟩ = some (.int .u64 (limb e u : Nat)) := hSw'.1 u hu4
                obtain ⟨⟨t0, t1, t2, t3⟩, _⟩ := hSw'.2.2.1.at nb nb16
                clear hSw hSw'
                go_simp
                try with_reducible rfl
              simp only [Act.put, List.setIfInBounds_toArray, List.set_cons_zero, List.set_cons_succ]
              refine wpAnyN_take (i := 8) (oi := ?o8) (v := ?v8) ?hi8 (by kernel_rfl) (by kernel_rfl) (by kernel_rfl) (by kernel_rfl) (by decide) (by kernel_rfl) ?hQ8 ?hy8 (PwAt.drew HXX.out) ?more8
              case hi8 => rw [List.getElem?_toArray]; exact rfl
              case hQ8 => exact fun _ _ _ h => h
              case hy8 =>
                refine Or.inl ⟨by rfl, ?_⟩
                intro w' hSw
                have hSw' : PwAt w w' g m e T q x := hSw
                obtain ⟨⟨o0, o1, o2, o3⟩, _, _⟩ := hSw'.2.2.2.2.1.facts
                have ge : w'.cell? ⟨w.heap.size + 1, u, none⟩ = some (.int .u64 (limb e u : Nat)) := hSw'.1 u hu4
                obtain ⟨⟨t0, t1, t2, t3⟩, _⟩ := hSw'.2.2.1.at nb nb16
                clear hSw hSw'
                go_simp
                try with_reducible rfl
              simp only [Act.put, List.setIfInBounds_toArray, List.set_cons_zero, List.set_cons_succ]
              refine wpAnyN_take (i := 9) (oi := ?o9) (v := ?v9) ?hi9 (by kernel_rfl) (by kernel_rfl) (by kernel_rfl) (by kernel_rfl) (by decide) (by kernel_rfl) ?hQ9 ?hy9 (PwAt.drew HXX.out) ?more9
              case hi9 => rw [List.getElem?_toArray]; exact rfl
              case hQ9 => exact fun _ _ _ h => h
              case hy9 =>
                refine Or.inl ⟨by rfl, ?_⟩
                intro w' hSw
                have hSw' : PwAt w w' g m e T q x := hSw
                obtain ⟨⟨o0, o1, o2, o3⟩, _, _⟩ := hSw'.2.2.2.2.1.facts
                have ge : w'.cell? ⟨w.heap.size + 1, u, none⟩ = some (.int .u64 (limb e u : Nat)) := hSw'.1 u hu4
                obtain ⟨⟨t0, t1, t2, t3⟩, _⟩ := hSw'.2.2.1.at nb nb16
                clear hSw hSw'
                go_simp
                try with_reducible rfl
              simp only [Act.put, List.setIfInBounds_toArray, List.set_cons_zero, List.set_cons_succ]
              refine wpAnyN_take (i := 10) (oi := ?o10) (v := ?v10) ?hi10 (by kernel_rfl) (by kernel_rfl) (by kernel_rfl) (by kernel_rfl) (by decide) (by kernel_rfl) ?hQ10 ?hy10 (PwAt.drew HXX.out) ?more10
              case hi10 => rw [List.getElem?_toArray]; exact rfl
              case hQ10 => exact fun _ _ _ h => h
              case hy10 =>
                refine Or.inl ⟨by rfl, ?_⟩
                intro w' hSw
                have hSw' : PwAt w w' g m e T q x := hSw
                obtain ⟨⟨o0, o1, o2, o3⟩, _, _⟩ := hSw'.2.2.2.2.1.facts
                have ge : w'.cell? ⟨w.heap.size + 1, u, none⟩ = some (.int .u64 (limb e u : Nat)) := hSw'.1 u hu4
                obtain ⟨⟨t0, t1, t2, t3⟩, _⟩ := hSw'.2.2.1.at nb nb16
                clear hSw hSw'
                go_simp
                try with_reducible rfl
              simp only [Act.put, List.setIfInBounds_toArray, List.set_cons_zero, List.set_cons_succ]
              refine wpAnyN_take (i := 11) (oi := ?o11) (v := ?v11) ?hi11 (by kernel_rfl) (by kernel_rfl) (by kernel_rfl) (by kernel_rfl) (by decide) (by kernel_rfl) ?hQ11 ?hy11 (PwAt.drew HXX.out) ?more11
              case hi11 => rw [List.getElem?_toArray]; exact rfl
              case hQ11 => exact fun _ _ _ h => h
              case hy11 =>
                refine Or.inl ⟨by rfl, ?_⟩
                intro w' hSw
                have hSw' : PwAt w w' g m e T q x := hSw
                obtain ⟨⟨o0, o1, o2, o3⟩, _, _⟩ := hSw'.2.2.2.2.1.facts
                have ge : w'.cell? ⟨w.heap.size + 1, u, none⟩ = some (.int .u64 (limb e u : Nat)) := hSw'.1 u hu4
                obtain ⟨⟨t0, t1, t2, t3⟩, _⟩ := hSw'.2.2.1.at nb nb16
                clear hSw hSw'
                go_simp
                try with_reducible rfl
              simp only [Act.put, List.setIfInBounds_toArray, List.set_cons_zero, List.set_cons_succ]
              refine wpAnyN_take (i := 12) (oi := ?o12) (v := ?v12) ?hi12 (by kernel_rfl) (by kernel_rfl) (by kernel_rfl) (by kernel_rfl) (by decide) (by kernel_rfl) ?hQ12 ?hy12 (PwAt.drew HXX.out) ?more12
              case hi12 => rw [List.getElem?_toArray]; exact rfl
              case hQ12 => exact fun _ _ _ h => h
              case hy12 =>
                refine Or.inl ⟨by rfl, ?_⟩
                intro w' hSw
                have hSw' : PwAt w w' g m e T q x := hSw
                obtain ⟨⟨o0, o1, o2, o3⟩, _, _⟩ := hSw'.2.2.2.2.1.facts
                have ge : w'.cell? ⟨w.heap.size + 1, u, none⟩ = some (.int .u64 (limb e u : Nat)) := hSw'.1 u hu4
                obtain ⟨⟨t0, t1, t2, t3⟩, _⟩ := hSw'.2.2.1.at nb nb16
                clear hSw hSw'
                go_simp
                try with_reducible rfl
              simp only [Act.put, List.setIfInBounds_toArray, List.set_cons_zero, List.set_cons_succ]
              refine wpAnyN_one (i := 13) (o := ?o13) (by kernel_rfl) ?hi13 ?hw13 ?st13
              case hi13 => rw [List.getElem?_toArray]; exact rfl
              case hw13 => exact rfl
              intro K hK
              have HK13 : Hid _ := hK
              clear hK
              go_simp
              refine (K1.out _ (by exact HXX.out.2.2.2.1)).mono ?_
              rintro ee w2 ⟨rfl, hq2⟩
              have X2 : PwAt w w2 g m e T q x := PwAt.call (W := wr.drew) (PwAt.drew HXX.out) hq2
              obtain ⟨⟨r0, r1, r2, r3⟩, ⟨u0, u1, u2, u3⟩, uz⟩ := X2.2.2.2.2.1.facts
              have X3 : Hid (PwAt w _ g m e T q y) := X2.put y zq hg
              have HX2 : Hid _ := X2
              clear X2 hq2
              go_wp2_with fail
              refine HK13.out _ _ ⟨fun _ => HX2.out, ?_⟩
              clear HK13 K
              try simp only [Act.put, List.setIfInBounds_toArray, List.set_cons_zero, List.set_cons_succ]
              refine wpAnyN_one (i := 14) (o := ?o14) (by kernel_rfl) ?hi14 ?hw14 ?st14
              case hi14 => rw [List.getElem?_toArray]; exact rfl
              case hw14 => exact rfl
              intro K hK
              have HK14 : Hid _ := hK
              clear hK
              go_simp
              refine HK14.out _ _ ⟨fun h => absurd h (by decide +kernel), ?_⟩
              clear HK14 K
              try simp only [Act.put, List.setIfInBounds_toArray, List.set_cons_zero, List.set_cons_succ]
              refine wpAnyN_done (by kernel_rfl) ?_ _
              go_wp2_with fail
              go_roundw
              case rel => first | exact ⟨j, y, ⟨by omega, hyR⟩, by first | rfl | go_num, HY.out, X3.out⟩ | ((repeat apply Exists.intro); exact ⟨⟨j, y, ⟨by omega, hyR⟩, by first | rfl | go_num, HY.out, X3.out⟩, rfl⟩)
              case measure => simp [intOf]
end Go.Proofs.YtbpgiijdcagckaaDoor
