/- How a number of four limbs that is handed in is read, and reads again. -/
import Derived.Test.YtbpgiijdcagckaaDoorLbA
import Derived.Test.YtbpgiijdcagckaaDoorRows
import Derived.ProofKit
import Derived.OpenShut
import Derived.Below
namespace Go.Proofs.YtbpgiijdcagckaaDoor
open Go.ChangeShapes Go.WideShapes Go.ChangeAt Go.RowKit

theorem Tryd.own : ownKnob Tryd.prog.godebug = none := by kernel_rfl
theorem cellsNum : Tryd.prog.cellsOf 27 = 4 := by kernel_rfl
theorem cellsLimb : Tryd.prog.cellsOf 25 = 1 := by kernel_rfl
theorem word_of_wf {x : Int} (h : (Lit.int .u64 x).wf = true) : ∃ n : Nat, x = (n : Int) ∧ n < M64 := by
  simp [Lit.wf, IntKind.min, IntKind.max, IntKind.signed, IntKind.bits] at h
  exact ⟨x.toNat, by omega, by unfold M64; omega⟩
theorem wf_of_word {n : Nat} (h : n < M64) : (Lit.int .u64 (n : Int)).wf = true := by
  unfold M64 at h
  simp [Lit.wf, IntKind.min, IntKind.max, IntKind.signed, IntKind.bits]
  omega

set_option maxRecDepth 100000 in
theorem open_num {H : Type} {enc : TypeId × Value → H} {W : World} {base b0 : Nat} {spare : Nat → Bool} {held : Bool} {r : Reach} {v : Value} {d : DataW H} {p : List MemPlace}
    (hv : Value.okWide Tryd.prog W r b0 27 v) (h : DataW.Trod enc Tryd.prog W base spare held 27 v d p) :
    ∃ n : Nat, n < R256 ∧ v = .agg #[.int .u64 (limb (n) 0 : Nat), .int .u64 (limb (n) 1 : Nat), .int .u64 (limb (n) 2 : Nat), .int .u64 (limb (n) 3 : Nat)] ∧ d = .agg [.lit (.int .u64 (limb n 0 : Nat)), .lit (.int .u64 (limb n 1 : Nat)), .lit (.int .u64 (limb n 2 : Nat)), .lit (.int .u64 (limb n 3 : Nat))] ∧ p = [] := by
  simp only [Value.okWide, Tryd.underlying27] at hv
  obtain ⟨cs, rfl, hsz, _⟩ := hv
  rw [cellsNum] at hsz
  obtain ⟨fuel, hf⟩ := h
  obtain ⟨xs, m, _, hx, _, hl, hall⟩ := DataW.trod_array Tryd.underlying27 hf
  have i0 := hall 0 (by omega)
  have i1 := hall 1 (by omega)
  have i2 := hall 2 (by omega)
  have i3 := hall 3 (by omega)
  obtain ⟨l⟩ := cs
  match l, hsz, xs, hl with
  | [c0, c1, c2, c3], _, [y0, y1, y2, y3], _ =>
    simp [Value.cells, cellsLimb] at i0 i1 i2 i3
    obtain ⟨x0, e0, rfl, w0⟩ := DataW.trod_int Tryd.underlying25 i0
    obtain ⟨x1, e1, rfl, w1⟩ := DataW.trod_int Tryd.underlying25 i1
    obtain ⟨x2, e2, rfl, w2⟩ := DataW.trod_int Tryd.underlying25 i2
    obtain ⟨x3, e3, rfl, w3⟩ := DataW.trod_int Tryd.underlying25 i3
    simp at e0 e1 e2 e3
    subst e0 e1 e2 e3
    obtain ⟨n0, rfl, h0⟩ := word_of_wf w0
    obtain ⟨n1, rfl, h1⟩ := word_of_wf w1
    obtain ⟨n2, rfl, h2⟩ := word_of_wf w2
    obtain ⟨n3, rfl, h3⟩ := word_of_wf w3
    refine ⟨join4 n0 n1 n2 n3, join4_lt _ _ _ _ h0 h1 h2 h3, ?_, ?_, ?_⟩
    · rw [limb_join0 _ _ _ _ h0, limb_join1 _ _ _ _ h0 h1, limb_join2 _ _ _ _ h0 h1 h2, limb_join3 _ _ _ _ h0 h1 h2 h3]
    · rw [limb_join0 _ _ _ _ h0, limb_join1 _ _ _ _ h0 h1, limb_join2 _ _ _ _ h0 h1 h2, limb_join3 _ _ _ _ h0 h1 h2 h3]
      simp at hx
      exact hx.1
    · simp at hx
      exact hx.2
theorem shut_num {H : Type} {enc : TypeId × Value → H} {W : World} {base : Nat} {spare : Nat → Bool} {held : Bool} (n : Nat) :
    DataW.Trod enc Tryd.prog W base spare held 27 (.agg #[.int .u64 (limb (n) 0 : Nat), .int .u64 (limb (n) 1 : Nat), .int .u64 (limb (n) 2 : Nat), .int .u64 (limb (n) 3 : Nat)]) (.agg [.lit (.int .u64 (limb n 0 : Nat)), .lit (.int .u64 (limb n 1 : Nat)), .lit (.int .u64 (limb n 2 : Nat)), .lit (.int .u64 (limb n 3 : Nat))]) [] := by
  refine ⟨2, ?_⟩
  have w0 := wf_of_word (limb_lt n 0)
  have w1 := wf_of_word (limb_lt n 1)
  have w2 := wf_of_word (limb_lt n 2)
  have w3 := wf_of_word (limb_lt n 3)
  simp [DataW.trod, Tryd.underlying27, Tryd.underlying25, Value.cells, cellsNum, cellsLimb, List.range, List.range.loop, w0, w1, w2, w3]
end Go.Proofs.YtbpgiijdcagckaaDoor
