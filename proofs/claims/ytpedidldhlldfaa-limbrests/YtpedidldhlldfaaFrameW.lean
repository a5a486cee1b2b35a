/- How a wide number that is handed in is read, and reads again. -/
import Derived.Test.YtpedidldhlldfaaFrame
namespace Go.Proofs.Ytpedidldhlldfaa
open Go.ChangeShapes Go.WideShapes Go.ChangeAt Go.RowKit

theorem step_lt (x n K : Nat) (hx : x < M64) (hn : n < K) : x + M64 * n < M64 * K := by
  have : M64 * (n + 1) ≤ M64 * K := Nat.mul_le_mul_left _ hn
  rw [Nat.mul_add, Nat.mul_one] at this
  omega
theorem pow_wide : ∀ k n : Nat, k = 64 * n → (2 : Nat) ^ k = M64 ^ n := fun k n h => by rw [h, Nat.pow_mul]; rfl
theorem join8_lt (x0 x1 x2 x3 x4 x5 x6 x7 : Nat) (h0 : x0 < M64) (h1 : x1 < M64) (h2 : x2 < M64) (h3 : x3 < M64) (h4 : x4 < M64) (h5 : x5 < M64) (h6 : x6 < M64) (h7 : x7 < M64) : join8 x0 x1 x2 x3 x4 x5 x6 x7 / 2 ^ 512 = 0 := by
  refine Nat.div_eq_of_lt ?_
  rw [pow_wide 512 8 (by decide)]
  unfold join8
  have e : M64 ^ 8 = M64 * (M64 * (M64 * (M64 * (M64 * (M64 * (M64 * M64)))))) := by simp only [Nat.pow_succ, Nat.pow_zero, Nat.one_mul, Nat.mul_assoc]
  rw [e]
  exact step_lt _ _ _ h0 (step_lt _ _ _ h1 (step_lt _ _ _ h2 (step_lt _ _ _ h3 (step_lt _ _ _ h4 (step_lt _ _ _ h5 (step_lt _ _ _ h6 h7))))))
theorem cellsWide : Try.prog.cellsOf 34 = 8 := by kernel_rfl

theorem open_wide {H : Type} {enc : TypeId × Value → H} {W : World} {base b0 : Nat} {spare : Nat → Bool} {held : Bool} {r : Reach} {v : Value} {d : DataW H} {p : List MemPlace}
    (hv : Value.okWide Try.prog W r b0 34 v) (h : DataW.Trod enc Try.prog W base spare held 34 v d p) :
    ∃ n : Nat, n / 2 ^ 512 = 0 ∧ v = .agg #[.int .u64 (limb (n) 0 : Nat), .int .u64 (limb (n) 1 : Nat), .int .u64 (limb (n) 2 : Nat), .int .u64 (limb (n) 3 : Nat), .int .u64 (limb (n) 4 : Nat), .int .u64 (limb (n) 5 : Nat), .int .u64 (limb (n) 6 : Nat), .int .u64 (limb (n) 7 : Nat)] ∧ d = .agg [.lit (.int .u64 (limb n 0 : Nat)), .lit (.int .u64 (limb n 1 : Nat)), .lit (.int .u64 (limb n 2 : Nat)), .lit (.int .u64 (limb n 3 : Nat)), .lit (.int .u64 (limb n 4 : Nat)), .lit (.int .u64 (limb n 5 : Nat)), .lit (.int .u64 (limb n 6 : Nat)), .lit (.int .u64 (limb n 7 : Nat))] ∧ p = [] := by
  simp only [Value.okWide, Try.underlying34] at hv
  obtain ⟨cs, rfl, hsz, _⟩ := hv
  rw [cellsWide] at hsz
  obtain ⟨fuel, hf⟩ := h
  obtain ⟨xs, m, _, hx, _, hl, hall⟩ := DataW.trod_array Try.underlying34 hf
  have i0 := hall 0 (by omega)
  have i1 := hall 1 (by omega)
  have i2 := hall 2 (by omega)
  have i3 := hall 3 (by omega)
  have i4 := hall 4 (by omega)
  have i5 := hall 5 (by omega)
  have i6 := hall 6 (by omega)
  have i7 := hall 7 (by omega)
  obtain ⟨l⟩ := cs
  match l, hsz, xs, hl with
  | [c0, c1, c2, c3, c4, c5, c6, c7], _, [y0, y1, y2, y3, y4, y5, y6, y7], _ =>
    simp [Value.cells, cellsLimb] at i0 i1 i2 i3 i4 i5 i6 i7
    obtain ⟨x0, e0, rfl, w0⟩ := DataW.trod_int Try.underlying22 i0
    obtain ⟨x1, e1, rfl, w1⟩ := DataW.trod_int Try.underlying22 i1
    obtain ⟨x2, e2, rfl, w2⟩ := DataW.trod_int Try.underlying22 i2
    obtain ⟨x3, e3, rfl, w3⟩ := DataW.trod_int Try.underlying22 i3
    obtain ⟨x4, e4, rfl, w4⟩ := DataW.trod_int Try.underlying22 i4
    obtain ⟨x5, e5, rfl, w5⟩ := DataW.trod_int Try.underlying22 i5
    obtain ⟨x6, e6, rfl, w6⟩ := DataW.trod_int Try.underlying22 i6
    obtain ⟨x7, e7, rfl, w7⟩ := DataW.trod_int Try.underlying22 i7
    simp at e0 e1 e2 e3 e4 e5 e6 e7
    subst e0 e1 e2 e3 e4 e5 e6 e7
    obtain ⟨n0, rfl, h0⟩ := word_of_wf w0
    obtain ⟨n1, rfl, h1⟩ := word_of_wf w1
    obtain ⟨n2, rfl, h2⟩ := word_of_wf w2
    obtain ⟨n3, rfl, h3⟩ := word_of_wf w3
    obtain ⟨n4, rfl, h4⟩ := word_of_wf w4
    obtain ⟨n5, rfl, h5⟩ := word_of_wf w5
    obtain ⟨n6, rfl, h6⟩ := word_of_wf w6
    obtain ⟨n7, rfl, h7⟩ := word_of_wf w7
    obtain ⟨j0, j1, j2, j3, j4, j5, j6, j7⟩ := limb_join8 n0 n1 n2 n3 n4 n5 n6 n7 h0 h1 h2 h3 h4 h5 h6 h7
    refine ⟨join8 n0 n1 n2 n3 n4 n5 n6 n7, join8_lt _ _ _ _ _ _ _ _ h0 h1 h2 h3 h4 h5 h6 h7, ?_, ?_, ?_⟩
    · rw [j0, j1, j2, j3, j4, j5, j6, j7]
    · rw [j0, j1, j2, j3, j4, j5, j6, j7]
      simp at hx
      exact hx.1
    · simp at hx
      exact hx.2
theorem shut_wide {H : Type} {enc : TypeId × Value → H} {W : World} {base : Nat} {spare : Nat → Bool} {held : Bool} (n : Nat) :
    DataW.Trod enc Try.prog W base spare held 34 (.agg #[.int .u64 (limb (n) 0 : Nat), .int .u64 (limb (n) 1 : Nat), .int .u64 (limb (n) 2 : Nat), .int .u64 (limb (n) 3 : Nat), .int .u64 (limb (n) 4 : Nat), .int .u64 (limb (n) 5 : Nat), .int .u64 (limb (n) 6 : Nat), .int .u64 (limb (n) 7 : Nat)]) (.agg [.lit (.int .u64 (limb n 0 : Nat)), .lit (.int .u64 (limb n 1 : Nat)), .lit (.int .u64 (limb n 2 : Nat)), .lit (.int .u64 (limb n 3 : Nat)), .lit (.int .u64 (limb n 4 : Nat)), .lit (.int .u64 (limb n 5 : Nat)), .lit (.int .u64 (limb n 6 : Nat)), .lit (.int .u64 (limb n 7 : Nat))]) [] := by
  refine ⟨2, ?_⟩
  have w0 := wf_of_word (limb_lt n 0)
  have w1 := wf_of_word (limb_lt n 1)
  have w2 := wf_of_word (limb_lt n 2)
  have w3 := wf_of_word (limb_lt n 3)
  have w4 := wf_of_word (limb_lt n 4)
  have w5 := wf_of_word (limb_lt n 5)
  have w6 := wf_of_word (limb_lt n 6)
  have w7 := wf_of_word (limb_lt n 7)
  simp [DataW.trod, Try.underlying34, Try.underlying22, Value.cells, cellsWide, cellsLimb, List.range, List.range.loop, w0, w1, w2, w3, w4, w5, w6, w7]
end Go.Proofs.Ytpedidldhlldfaa
