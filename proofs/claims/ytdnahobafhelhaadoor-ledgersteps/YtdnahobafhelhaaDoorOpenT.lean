/- Slices of a ledger's steps among the arguments. -/
import Derived.Test.YtdnahobafhelhaaDoorGlobS
import Derived.Test.YtdnahobafhelhaaDoorSliceK
import Derived.Lib.SmallJoins
namespace Go.Proofs.YtdnahobafhelhaaDoor
open Go Go.ChangeShapes Go.WideShapes Go.ChangeAt Go.RowKit
theorem add_plainT (b o j : Nat) : (⟨b, o, none⟩ : Addr).add j = ⟨b, o + j, none⟩ := by unfold Addr.add; split <;> simp_all
theorem wf_bounds {n : Int} (h : (Lit.int .i64 n).wf = true) : -9223372036854775808 ≤ n ∧ n ≤ 9223372036854775807 := by
  simp [Lit.wf, IntKind.min, IntKind.max, IntKind.signed, IntKind.bits] at h
  omega
/-- A ledger's steps in memory. -/
def StepsT (w : World) (a : Option Addr) (len : Nat) : Prop := ∀ j, j < len → ∃ (b o : Nat) (X N M : Int) (s : ByteArray), a = some ⟨b, o, none⟩ ∧ w.cell? ⟨b, o + j * 4, none⟩ = some (.int .i64 X) ∧ w.cell? ⟨b, o + j * 4 + 1, none⟩ = some (.int .i64 N) ∧ w.cell? ⟨b, o + j * 4 + 2, none⟩ = some (.int .i64 M) ∧ w.cell? ⟨b, o + j * 4 + 3, none⟩ = some (.string s) ∧ s.size < 140737488351233 ∧ b < w.heap.size ∧ (-9223372036854775808 ≤ N ∧ N ≤ 9223372036854775807) ∧ (-9223372036854775808 ≤ M ∧ M ≤ 9223372036854775807)
theorem open_stepsT {H : Type} {enc : TypeId × Value → H} {W : World} {base : Nat} {v : Value} {d : DataW H} {p : List MemPlace} {ts : List TypeId} {ds : List (DataW H)} {j : Nat}
    (hv : Value.okWide Tryd.prog W .any base 42 v) (h : DataW.Trod enc Tryd.prog W 0 (fun _ => true) true 42 v d p)
    (hsz : (DataW.weightsEach Tryd.prog ts ds).all (· ≤ reachBytes) = true) (ht : ts[j]? = some 42) (hd : ds[j]? = some d) :
    ∃ (a : Option Addr) (len cap : Nat), v = .slice a len cap ∧ StepsT W a len := by
  obtain ⟨a0, len, cap, rfl⟩ := okWide_slice Tryd.underlying42 hv
  obtain ⟨fuel, hf⟩ := h
  rcases DataW.trod_slice Tryd.underlying42 hf with ⟨hcs, hx⟩ | ⟨a, len', cap', elems, rest, n, _, hcs, hx, hb, hl, hm, hlen, hel, _⟩
  · simp [Value.cells] at hcs
    obtain ⟨rfl, rfl, rfl⟩ := hcs
    exact ⟨none, 0, 0, rfl, fun j hj => absurd hj (by omega)⟩
  · simp [Value.cells] at hcs
    obtain ⟨rfl, rfl, rfl⟩ := hcs
    simp only [Prod.mk.injEq] at hx
    obtain ⟨rfl, rfl⟩ := hx
    have cz : Tryd.prog.cellsOf 44 = 4 := by kernel_rfl
    have ci : Tryd.prog.cellsOf 3 = 1 := by kernel_rfl
    have cs : Tryd.prog.cellsOf 9 = 1 := by kernel_rfl
    have key : ∀ j, j < len → ∃ (X N M : Int) (s : ByteArray), W.cell? (a.add (j * 4) |>.add 0) = some (.int .i64 X) ∧ W.cell? (a.add (j * 4) |>.add 1) = some (.int .i64 N) ∧ W.cell? (a.add (j * 4) |>.add 2) = some (.int .i64 M) ∧ W.cell? (a.add (j * 4) |>.add 3) = some (.string s) ∧ s.size < 140737488351233 ∧ (-9223372036854775808 ≤ N ∧ N ≤ 9223372036854775807) ∧ (-9223372036854775808 ≤ M ∧ M ≤ 9223372036854775807) := by
      intro j hj
      have hj' : j < elems.length := by omega
      have h1 := hel j hj
      rw [cz, List.getElem?_eq_getElem hj', Option.bind_eq_some_iff] at h1
      obtain ⟨l, hl1, hl2⟩ := h1
      obtain ⟨g1, g2⟩ := cells?_get hl1
      obtain ⟨y0, y1, y2, y3, m, hy, _, t0, t1, t2, t3⟩ := Go.Joins.trod_struct4 Tryd.underlying44 hl2
      match l, g1 with
      | [c0, c1, c2, c3], _ =>
        simp [ci, cs] at t0 t1 t2 t3
        obtain ⟨x0, e0, rfl, _⟩ := DataW.trod_int Tryd.underlying3 t0
        obtain ⟨x1, e1, rfl, k1⟩ := DataW.trod_int Tryd.underlying3 t1
        obtain ⟨x2, e2, rfl, k2⟩ := DataW.trod_int Tryd.underlying3 t2
        obtain ⟨x3, e3, rfl, _⟩ := DataW.trod_string Tryd.underlying9 t3
        obtain rfl : c0 = .int .i64 x0 := by simpa using e0
        obtain rfl : c1 = .int .i64 x1 := by simpa using e1
        obtain rfl : c2 = .int .i64 x2 := by simpa using e2
        obtain rfl : c3 = .string x3 := by simpa using e3
        refine ⟨x0, x1, x2, x3, g2 0 (by omega), g2 1 (by omega), g2 2 (by omega), g2 3 (by omega), ?_, wf_bounds k1, wf_bounds k2⟩
        have hmem : (elems[j]'hj').1 ∈ elems.map (·.1) := List.mem_map.2 ⟨_, List.getElem_mem hj', rfl⟩
        have h := sized_in hsz (t := 42) (e := 44) (k := x3.data.toList.length) ht hd Tryd.underlying42 hmem (by
          rw [hy]
          simp [DataW.weights, Tryd.underlying44, DataW.weightsEach])
        have e : x3.data.toList.length = x3.size := (Lib.size_eq x3).symm
        rw [e] at h
        exact Nat.lt_succ_of_le h
    refine ⟨some a, len, cap, rfl, fun j hj => ?_⟩
    obtain ⟨b, off, spot⟩ := a
    have hspot : spot = none := by
      obtain ⟨_, _, _, _, h, _⟩ := key 0 (by omega)
      simpa [Addr.add] using World.cell?_spot h
    subst hspot
    obtain ⟨X, N, M, s, q0, q1, q2, q3, q4, q5, q6⟩ := key j hj
    rw [add_plainT, add_plainT] at q0 q1 q2 q3
    exact ⟨b, off, X, N, M, s, rfl, q0, q1, q2, q3, q4, cell_in q0, q5, q6⟩
end Go.Proofs.YtdnahobafhelhaaDoor
