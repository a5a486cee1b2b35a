/- A struct of three numbers: how it lies in a block, how it is read when handed in, and reads again. -/
import Derived.Test.YtglifkfkcepllaaDoorWalk
import Derived.Test.YtglifkfkcepllaaDoorFrame
namespace Go.Proofs.YtglifkfkcepllaaDoor
open Go.ChangeShapes Go.WideShapes Go.ChangeAt Go.RowKit

def T3 (w : World) (b x y z : Nat) : Prop := (∀ j, j < 4 → w.cell? ⟨b, j, none⟩ = some (.int .u64 (limb x j : Nat))) ∧ (∀ j, j < 4 → w.cell? ⟨b, j + 4, none⟩ = some (.int .u64 (limb y j : Nat))) ∧ (∀ j, j < 4 → w.cell? ⟨b, j + 8, none⟩ = some (.int .u64 (limb z j : Nat))) ∧ b < w.heap.size
theorem T3.call {W w1 : World} {b x y z : Nat} (h : T3 W b x y z) (hb : Below W.heap.size W w1) : T3 w1 b x y z :=
  ⟨fun j hj => (hb.cell (p := ⟨b, j, none⟩) h.2.2.2).trans (h.1 j hj), fun j hj => (hb.cell (p := ⟨b, j + 4, none⟩) h.2.2.2).trans (h.2.1 j hj), fun j hj => (hb.cell (p := ⟨b, j + 8, none⟩) h.2.2.2).trans (h.2.2.1 j hj), Nat.lt_of_lt_of_le h.2.2.2 hb.size⟩
theorem T3.alloc {W : World} {b x y z : Nat} {o : Obj} (h : T3 W b x y z) : T3 (W.alloc o) b x y z := h.call ((Below.refl _ _).alloc (Nat.le_refl _) o)
theorem T3.new (W : World) (x y z : Nat) (t : TypeId) : T3 (W.alloc (.cells #[.int .u64 (limb x 0 : Nat), .int .u64 (limb x 1 : Nat), .int .u64 (limb x 2 : Nat), .int .u64 (limb x 3 : Nat), .int .u64 (limb y 0 : Nat), .int .u64 (limb y 1 : Nat), .int .u64 (limb y 2 : Nat), .int .u64 (limb y 3 : Nat), .int .u64 (limb z 0 : Nat), .int .u64 (limb z 1 : Nat), .int .u64 (limb z 2 : Nat), .int .u64 (limb z 3 : Nat)] t)) W.heap.size x y z :=
  ⟨by refine limbs4 _ ?_ ?_ ?_ ?_ <;> simp [go_sem], by refine limbs4 _ ?_ ?_ ?_ ?_ <;> simp [go_sem], by refine limbs4 _ ?_ ?_ ?_ ?_ <;> simp [go_sem], by simp⟩
theorem T3.facts {w : World} {b x y z : Nat} (h : T3 w b x y z) : (w.cell? ⟨b, 0, none⟩ = some (.int .u64 (limb (x) 0 : Nat)) ∧ w.cell? ⟨b, 1, none⟩ = some (.int .u64 (limb (x) 1 : Nat)) ∧ w.cell? ⟨b, 2, none⟩ = some (.int .u64 (limb (x) 2 : Nat)) ∧ w.cell? ⟨b, 3, none⟩ = some (.int .u64 (limb (x) 3 : Nat))) ∧ (w.cell? ⟨b, 4, none⟩ = some (.int .u64 (limb y 0 : Nat)) ∧ w.cell? ⟨b, 5, none⟩ = some (.int .u64 (limb y 1 : Nat)) ∧ w.cell? ⟨b, 6, none⟩ = some (.int .u64 (limb y 2 : Nat)) ∧ w.cell? ⟨b, 7, none⟩ = some (.int .u64 (limb y 3 : Nat))) ∧ (w.cell? ⟨b, 8, none⟩ = some (.int .u64 (limb z 0 : Nat)) ∧ w.cell? ⟨b, 9, none⟩ = some (.int .u64 (limb z 1 : Nat)) ∧ w.cell? ⟨b, 10, none⟩ = some (.int .u64 (limb z 2 : Nat)) ∧ w.cell? ⟨b, 11, none⟩ = some (.int .u64 (limb z 3 : Nat))) ∧ b < w.heap.size :=
  ⟨⟨h.1 0 (by omega), h.1 1 (by omega), h.1 2 (by omega), h.1 3 (by omega)⟩, ⟨h.2.1 0 (by omega), h.2.1 1 (by omega), h.2.1 2 (by omega), h.2.1 3 (by omega)⟩, ⟨h.2.2.1 0 (by omega), h.2.2.1 1 (by omega), h.2.2.1 2 (by omega), h.2.2.1 3 (by omega)⟩, h.2.2.2⟩

theorem cellsThree : Tryd.prog.cellsOf 56 = 12 := by kernel_rfl
theorem trod_num {H : Type} {enc : TypeId × Value → H} {W : World} {base fuel : Nat} {spare : Nat → Bool} {held : Bool} {c0 c1 c2 c3 : Value} {x : DataW H × List MemPlace}
    (hf : DataW.trod enc Tryd.prog W base spare held fuel 24 [c0, c1, c2, c3] = some x) :
    ∃ n : Nat, n < R256 ∧ c0 = .int .u64 (limb n 0 : Nat) ∧ c1 = .int .u64 (limb n 1 : Nat) ∧ c2 = .int .u64 (limb n 2 : Nat) ∧ c3 = .int .u64 (limb n 3 : Nat) ∧ x = (.agg [.lit (.int .u64 (limb n 0 : Nat)), .lit (.int .u64 (limb n 1 : Nat)), .lit (.int .u64 (limb n 2 : Nat)), .lit (.int .u64 (limb n 3 : Nat))], []) := by
  obtain ⟨xs, m, _, hx, _, hl, hall⟩ := DataW.trod_array Tryd.underlying24 hf
  have i0 := hall 0 (by omega)
  have i1 := hall 1 (by omega)
  have i2 := hall 2 (by omega)
  have i3 := hall 3 (by omega)
  match xs, hl with
  | [y0, y1, y2, y3], _ =>
    simp [cellsLimb] at i0 i1 i2 i3
    obtain ⟨x0, e0, rfl, w0⟩ := DataW.trod_int Tryd.underlying22 i0
    obtain ⟨x1, e1, rfl, w1⟩ := DataW.trod_int Tryd.underlying22 i1
    obtain ⟨x2, e2, rfl, w2⟩ := DataW.trod_int Tryd.underlying22 i2
    obtain ⟨x3, e3, rfl, w3⟩ := DataW.trod_int Tryd.underlying22 i3
    simp at e0 e1 e2 e3
    subst e0 e1 e2 e3
    obtain ⟨n0, rfl, h0⟩ := word_of_wf w0
    obtain ⟨n1, rfl, h1⟩ := word_of_wf w1
    obtain ⟨n2, rfl, h2⟩ := word_of_wf w2
    obtain ⟨n3, rfl, h3⟩ := word_of_wf w3
    refine ⟨join4 n0 n1 n2 n3, join4_lt _ _ _ _ h0 h1 h2 h3, ?_⟩
    rw [limb_join0 _ _ _ _ h0, limb_join1 _ _ _ _ h0 h1, limb_join2 _ _ _ _ h0 h1 h2, limb_join3 _ _ _ _ h0 h1 h2 h3]
    exact ⟨rfl, rfl, rfl, rfl, hx⟩
theorem open_three {H : Type} {enc : TypeId × Value → H} {W : World} {base b0 : Nat} {spare : Nat → Bool} {held : Bool} {r : Reach} {v : Value} {d : DataW H} {p : List MemPlace}
    (hv : Value.okWide Tryd.prog W r b0 56 v) (h : DataW.Trod enc Tryd.prog W base spare held 56 v d p) :
    ∃ x y z : Nat, (x < R256 ∧ y < R256 ∧ z < R256) ∧ v = .agg #[.int .u64 (limb x 0 : Nat), .int .u64 (limb x 1 : Nat), .int .u64 (limb x 2 : Nat), .int .u64 (limb x 3 : Nat), .int .u64 (limb y 0 : Nat), .int .u64 (limb y 1 : Nat), .int .u64 (limb y 2 : Nat), .int .u64 (limb y 3 : Nat), .int .u64 (limb z 0 : Nat), .int .u64 (limb z 1 : Nat), .int .u64 (limb z 2 : Nat), .int .u64 (limb z 3 : Nat)] ∧
      d = .agg [.agg [.lit (.int .u64 (limb x 0 : Nat)), .lit (.int .u64 (limb x 1 : Nat)), .lit (.int .u64 (limb x 2 : Nat)), .lit (.int .u64 (limb x 3 : Nat))], .agg [.lit (.int .u64 (limb y 0 : Nat)), .lit (.int .u64 (limb y 1 : Nat)), .lit (.int .u64 (limb y 2 : Nat)), .lit (.int .u64 (limb y 3 : Nat))], .agg [.lit (.int .u64 (limb z 0 : Nat)), .lit (.int .u64 (limb z 1 : Nat)), .lit (.int .u64 (limb z 2 : Nat)), .lit (.int .u64 (limb z 3 : Nat))]] ∧ p = [] := by
  simp only [Value.okWide, Tryd.underlying56] at hv
  obtain ⟨cs, rfl, hsz, _⟩ := hv
  rw [cellsThree] at hsz
  obtain ⟨fuel, hf⟩ := h
  obtain ⟨xs, m, _, hx, _, hl, hall⟩ := DataW.trod_struct Tryd.underlying56 hf
  have i0 := hall 0 _ rfl
  have i1 := hall 1 _ rfl
  have i2 := hall 2 _ rfl
  obtain ⟨l⟩ := cs
  match l, hsz, xs, hl with
  | [c0, c1, c2, c3, d0, d1, d2, d3, e0, e1, e2, e3], _, [y0, y1, y2], _ =>
    simp [Value.cells, cellsNum] at i0 i1 i2
    obtain ⟨x, hx1, rfl, rfl, rfl, rfl, rfl⟩ := trod_num i0
    obtain ⟨y, hy1, rfl, rfl, rfl, rfl, rfl⟩ := trod_num i1
    obtain ⟨z, hz1, rfl, rfl, rfl, rfl, rfl⟩ := trod_num i2
    simp at hx
    exact ⟨x, y, z, ⟨hx1, hy1, hz1⟩, rfl, hx.1, hx.2⟩
theorem shut_three {H : Type} {enc : TypeId × Value → H} {W : World} {base : Nat} {spare : Nat → Bool} {held : Bool} (x y z : Nat) :
    DataW.Trod enc Tryd.prog W base spare held 56 (.agg #[.int .u64 (limb x 0 : Nat), .int .u64 (limb x 1 : Nat), .int .u64 (limb x 2 : Nat), .int .u64 (limb x 3 : Nat), .int .u64 (limb y 0 : Nat), .int .u64 (limb y 1 : Nat), .int .u64 (limb y 2 : Nat), .int .u64 (limb y 3 : Nat), .int .u64 (limb z 0 : Nat), .int .u64 (limb z 1 : Nat), .int .u64 (limb z 2 : Nat), .int .u64 (limb z 3 : Nat)])
      (.agg [.agg [.lit (.int .u64 (limb x 0 : Nat)), .lit (.int .u64 (limb x 1 : Nat)), .lit (.int .u64 (limb x 2 : Nat)), .lit (.int .u64 (limb x 3 : Nat))], .agg [.lit (.int .u64 (limb y 0 : Nat)), .lit (.int .u64 (limb y 1 : Nat)), .lit (.int .u64 (limb y 2 : Nat)), .lit (.int .u64 (limb y 3 : Nat))], .agg [.lit (.int .u64 (limb z 0 : Nat)), .lit (.int .u64 (limb z 1 : Nat)), .lit (.int .u64 (limb z 2 : Nat)), .lit (.int .u64 (limb z 3 : Nat))]]) [] := by
  refine ⟨3, ?_⟩
  have hw := fun n j => wf_of_word (limb_lt n j)
  simp [DataW.trod, Tryd.underlying56, Tryd.underlying24, Tryd.underlying22, Value.cells, cellsThree, cellsNum, cellsLimb, List.range, List.range.loop, hw]
end Go.Proofs.YtglifkfkcepllaaDoor
