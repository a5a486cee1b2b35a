/- Slices of steps of three numbers among the arguments. -/
import Derived.Test.YtpgpbfcomobfkaaBtL
import Derived.Test.YtpgpbfcomobfkaaFrameK
import Derived.Test.YtpgpbfcomobfkaaSliceK
import Derived.Lib.SmallJoins
import Derived.Deep.Strs
namespace Go.Proofs.Ytpgpbfcomobfkaa
open Go Go.ChangeShapes Go.WideShapes Go.ChangeAt Go.RowKit

theorem add_plainT (b o j : Nat) : (⟨b, o, none⟩ : Addr).add j = ⟨b, o + j, none⟩ := by unfold Addr.add; split <;> simp_all
theorem open_steps3 {H : Type} {enc : TypeId × Value → H} {W : World} {base : Nat} {v : Value} {d : DataW H} {p : List MemPlace}
    (hv : Value.okWide Try.prog W .any base 22 v) (h : DataW.Trod enc Try.prog W 0 (fun _ => true) true 22 v d p) :
    ∃ (a : Option Addr) (len cap : Nat), v = .slice a len cap ∧ StepsIn W a len := by
  obtain ⟨a0, len, cap, rfl⟩ := okWide_slice Try.underlying22 hv
  obtain ⟨fuel, hf⟩ := h
  rcases DataW.trod_slice Try.underlying22 hf with ⟨hcs, hx⟩ | ⟨a, len', cap', elems, rest, n, _, hcs, hx, hb, hl, hm, hlen, hel, _⟩
  · simp [Value.cells] at hcs
    obtain ⟨rfl, rfl, rfl⟩ := hcs
    exact ⟨none, 0, 0, rfl, fun j hj => absurd hj (by omega)⟩
  · simp [Value.cells] at hcs
    obtain ⟨rfl, rfl, rfl⟩ := hcs
    have cz : Try.prog.cellsOf 32 = 3 := by kernel_rfl
    have ci : Try.prog.cellsOf 3 = 1 := by kernel_rfl
    have key : ∀ j, j < len → ∃ (X N M : Int), W.cell? (a.add (j * 3) |>.add 0) = some (.int .i64 X) ∧ W.cell? (a.add (j * 3) |>.add 1) = some (.int .i64 N) ∧ W.cell? (a.add (j * 3) |>.add 2) = some (.int .i64 M) := by
      intro j hj
      have hj' : j < elems.length := by omega
      have h1 := hel j hj
      rw [cz, List.getElem?_eq_getElem hj', Option.bind_eq_some_iff] at h1
      obtain ⟨l, hl1, hl2⟩ := h1
      obtain ⟨g1, g2⟩ := cells?_get hl1
      obtain ⟨y0, y1, y2, m, hy, _, t0, t1, t2⟩ := Go.Deep.trod_struct3 Try.underlying32 hl2
      match l, g1 with
      | [c0, c1, c2], _ =>
        simp [ci] at t0 t1 t2
        obtain ⟨x0, e0, rfl, _⟩ := DataW.trod_int Try.underlying3 t0
        obtain ⟨x1, e1, rfl, _⟩ := DataW.trod_int Try.underlying3 t1
        obtain ⟨x2, e2, rfl, _⟩ := DataW.trod_int Try.underlying3 t2
        obtain rfl : c0 = .int .i64 x0 := by simpa using e0
        obtain rfl : c1 = .int .i64 x1 := by simpa using e1
        obtain rfl : c2 = .int .i64 x2 := by simpa using e2
        exact ⟨x0, x1, x2, g2 0 (by omega), g2 1 (by omega), g2 2 (by omega)⟩
    refine ⟨some a, len, cap, rfl, fun j hj => ?_⟩
    obtain ⟨b, off, spot⟩ := a
    have hspot : spot = none := by
      obtain ⟨_, _, _, h, _⟩ := key 0 (by omega)
      simpa [Addr.add] using World.cell?_spot h
    subst hspot
    obtain ⟨X, N, M, q0, q1, q2⟩ := key j hj
    rw [add_plainT, add_plainT] at q0 q1 q2
    exact ⟨b, off, X, N, M, rfl, q0, q1, q2, cell_in q0⟩
end Go.Proofs.Ytpgpbfcomobfkaa
