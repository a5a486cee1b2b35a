/- Slices of steps of a queue among the arguments. -/
import Derived.Test.YtolhkpgpcbebiaaQuF
import Derived.Test.YtolhkpgpcbebiaaFrameK
import Derived.Test.YtolhkpgpcbebiaaSliceK
import Derived.Lib.SmallJoins
import Derived.LaidMore
import Derived.Stop.Joined
namespace Go.Proofs.Ytolhkpgpcbebiaa
open Go Go.ChangeShapes Go.WideShapes Go.ChangeAt Go.RowKit
theorem add_plainQ (b o j : Nat) : (⟨b, o, none⟩ : Addr).add j = ⟨b, o + j, none⟩ := by unfold Addr.add; split <;> simp_all
theorem wf_boundsQ {n : Int} (h : (Lit.int .i64 n).wf = true) : -9223372036854775808 ≤ n ∧ n ≤ 9223372036854775807 := by
  simp [Lit.wf, IntKind.min, IntKind.max, IntKind.signed, IntKind.bits] at h
  omega
theorem sized_agg {H : Type} {P : Program} {ts : List TypeId} {ds : List (DataW H)} (h : (DataW.weightsEach P ts ds).all (· ≤ reachBytes) = true) {j : Nat} {t : TypeId} {fs : Array Field} {parts : List (DataW H)}
    (ht : ts[j]? = some t) (hd : ds[j]? = some (.agg parts)) (hu : P.underlying t = some (.struct fs)) : (DataW.weightsEach P (fs.toList.map (·.type)) parts).all (· ≤ reachBytes) = true := by
  refine List.all_eq_true.2 fun n hn => ?_
  refine List.all_eq_true.1 h n (DataW.weights_mem_each ht hd n ?_)
  simp only [DataW.weights, hu]
  exact hn
/-- A step: what, a request, a signature. -/
structure Stq where
  X : Int
  id : Int
  m : ByteArray
  S : Sg
def stE (x : Stq) : List Value := [.int .i64 x.X, .int .i64 x.id, .string x.m, .int .u64 x.S.x0, .int .u64 x.S.x1, .int .u64 x.S.x2, .int .u64 x.S.x3, .int .u64 x.S.x4, .int .u64 x.S.x5, .int .u64 x.S.x6, .int .u64 x.S.x7, .bool x.S.i, .int .u64 x.S.x8, .int .u64 x.S.x9, .int .u64 x.S.x10, .int .u64 x.S.x11]
/-- Steps in memory. -/
def StepsQ (w : World) (a : Option Addr) (len : Nat) : Prop := ∀ j, j < len → ∃ (b o : Nat) (x : Stq), a = some ⟨b, o, none⟩ ∧ (∀ c u, (stE x)[c]? = some u → w.cell? ⟨b, o + j * 16 + c, none⟩ = some u) ∧ b < w.heap.size ∧ x.m.size < 140737488351233 ∧ (-9223372036854775808 ≤ x.id ∧ x.id ≤ 9223372036854775807)
theorem cellsNumQ : Try.prog.cellsOf 34 = 4 := by kernel_rfl
theorem cellsLimbQ : Try.prog.cellsOf 32 = 1 := by kernel_rfl
theorem cellsPtQ : Try.prog.cellsOf 36 = 9 := by kernel_rfl
theorem cellsSgQ : Try.prog.cellsOf 38 = 13 := by kernel_rfl
theorem cellsRqQ : Try.prog.cellsOf 31 = 2 := by kernel_rfl
theorem cellsBoolQ : Try.prog.cellsOf 4 = 1 := by kernel_rfl
theorem cellsIntQ : Try.prog.cellsOf 3 = 1 := by kernel_rfl
theorem cellsStrQ : Try.prog.cellsOf 9 = 1 := by kernel_rfl
theorem trod_numQ {H : Type} {enc : TypeId × Value → H} {W : World} {base fuel : Nat} {spare : Nat → Bool} {held : Bool} {c0 c1 c2 c3 : Value} {x : DataW H × List MemPlace}
    (hf : DataW.trod enc Try.prog W base spare held fuel 34 [c0, c1, c2, c3] = some x) :
    ∃ x0 x1 x2 x3 : Int, c0 = .int .u64 x0 ∧ c1 = .int .u64 x1 ∧ c2 = .int .u64 x2 ∧ c3 = .int .u64 x3 := by
  obtain ⟨xs, m, _, hx, _, hl, hall⟩ := DataW.trod_array Try.underlying34 hf
  have i0 := hall 0 (by omega)
  have i1 := hall 1 (by omega)
  have i2 := hall 2 (by omega)
  have i3 := hall 3 (by omega)
  match xs, hl with
  | [y0, y1, y2, y3], _ =>
    simp [cellsLimbQ] at i0 i1 i2 i3
    obtain ⟨x0, e0, rfl, w0⟩ := DataW.trod_int Try.underlying32 i0
    obtain ⟨x1, e1, rfl, w1⟩ := DataW.trod_int Try.underlying32 i1
    obtain ⟨x2, e2, rfl, w2⟩ := DataW.trod_int Try.underlying32 i2
    obtain ⟨x3, e3, rfl, w3⟩ := DataW.trod_int Try.underlying32 i3
    simp at e0 e1 e2 e3
    exact ⟨x0, x1, x2, x3, e0, e1, e2, e3⟩
theorem trod_sgQ {H : Type} {enc : TypeId × Value → H} {W : World} {base fuel : Nat} {spare : Nat → Bool} {held : Bool} {c0 c1 c2 c3 c4 c5 c6 c7 c8 c9 c10 c11 c12 : Value} {x : DataW H × List MemPlace}
    (hf : DataW.trod enc Try.prog W base spare held fuel 38 [c0, c1, c2, c3, c4, c5, c6, c7, c8, c9, c10, c11, c12] = some x) :
    ∃ S : Sg, [c0, c1, c2, c3, c4, c5, c6, c7, c8, c9, c10, c11, c12] = [.int .u64 S.x0, .int .u64 S.x1, .int .u64 S.x2, .int .u64 S.x3, .int .u64 S.x4, .int .u64 S.x5, .int .u64 S.x6, .int .u64 S.x7, .bool S.i, .int .u64 S.x8, .int .u64 S.x9, .int .u64 S.x10, .int .u64 S.x11] := by
  obtain ⟨xs, m, _, hx, _, hl, hall⟩ := DataW.trod_struct Try.underlying38 hf
  have i0 := hall 0 _ rfl
  have i1 := hall 1 _ rfl
  match xs, hl with
  | [y0, y1], _ =>
    simp [cellsPtQ, cellsNumQ] at i0 i1
    obtain ⟨z0, z1, z2, z3, rfl, rfl, rfl, rfl⟩ := trod_numQ i1
    obtain ⟨xs', m', _, hx', _, hl', hall'⟩ := DataW.trod_struct Try.underlying36 i0
    have j0 := hall' 0 _ rfl
    have j1 := hall' 1 _ rfl
    have j2 := hall' 2 _ rfl
    match xs', hl' with
    | [q0, q1, q2], _ =>
      simp [cellsNumQ, cellsBoolQ] at j0 j1 j2
      obtain ⟨a0, a1, a2, a3, rfl, rfl, rfl, rfl⟩ := trod_numQ j0
      obtain ⟨b0, b1, b2, b3, rfl, rfl, rfl, rfl⟩ := trod_numQ j1
      obtain ⟨b, e, rfl⟩ := DataW.trod_bool Try.underlying4 j2
      simp at e
      subst e
      exact ⟨⟨a0, a1, a2, a3, b0, b1, b2, b3, b, z0, z1, z2, z3⟩, rfl⟩
set_option maxHeartbeats 1000000 in
theorem open_stepsQ {H : Type} {enc : TypeId × Value → H} {W : World} {base : Nat} {v : Value} {d : DataW H} {p : List MemPlace} {ts : List TypeId} {ds : List (DataW H)} {j : Nat}
    (hv : Value.okWide Try.prog W .any base 22 v) (h : DataW.Trod enc Try.prog W 0 (fun _ => true) true 22 v d p)
    (hsz : (DataW.weightsEach Try.prog ts ds).all (· ≤ reachBytes) = true) (ht : ts[j]? = some 22) (hd : ds[j]? = some d) :
    ∃ (a : Option Addr) (len cap : Nat), v = .slice a len cap ∧ StepsQ W a len := by
  obtain ⟨a0, len, cap, rfl⟩ := okWide_slice Try.underlying22 hv
  obtain ⟨fuel, hf⟩ := h
  rcases DataW.trod_slice Try.underlying22 hf with ⟨hcs, hx⟩ | ⟨a, len', cap', elems, rest, n, _, hcs, hx, hb, hl, hm, hlen, hel, _⟩
  · simp [Value.cells] at hcs
    obtain ⟨rfl, rfl, rfl⟩ := hcs
    exact ⟨none, 0, 0, rfl, fun j hj => absurd hj (by omega)⟩
  · simp [Value.cells] at hcs
    obtain ⟨rfl, rfl, rfl⟩ := hcs
    simp only [Prod.mk.injEq] at hx
    obtain ⟨rfl, rfl⟩ := hx
    have cz : Try.prog.cellsOf 40 = 16 := by kernel_rfl
    have key : ∀ j, j < len → ∃ x : Stq, (∀ c u, (stE x)[c]? = some u → W.cell? (a.add (j * 16) |>.add c) = some u) ∧ x.m.size < 140737488351233 ∧ (-9223372036854775808 ≤ x.id ∧ x.id ≤ 9223372036854775807) := by
      intro j hj
      have hj' : j < elems.length := by omega
      have h1 := hel j hj
      rw [cz, List.getElem?_eq_getElem hj', Option.bind_eq_some_iff] at h1
      obtain ⟨l, hl1, hl2⟩ := h1
      obtain ⟨g1, g2⟩ := cells?_get hl1
      obtain ⟨xs, m, _, hy, _, hxl, hall⟩ := DataW.trod_struct Try.underlying40 hl2
      have i0 := hall 0 _ rfl
      have i1 := hall 1 _ rfl
      have i2 := hall 2 _ rfl
      match l, g1, xs, hxl with
      | [c0, c1, c2, c3, c4, c5, c6, c7, c8, c9, c10, c11, c12, c13, c14, c15], _, [y0, y1, y2], _ =>
        simp [cellsIntQ, cellsRqQ, cellsSgQ] at i0 i1 i2
        obtain ⟨x0, e0, rfl, _⟩ := DataW.trod_int Try.underlying3 i0
        obtain rfl : c0 = .int .i64 x0 := by simpa using e0
        obtain ⟨q0, q1, n', hq, _, t0, t1⟩ := Go.ChangeShapes.trod_struct2 Try.underlying31 i1
        simp [cellsIntQ, cellsStrQ] at t0 t1
        obtain ⟨x1, e1, rfl, k1⟩ := DataW.trod_int Try.underlying3 t0
        obtain ⟨x2, e2, rfl, _⟩ := DataW.trod_string Try.underlying9 t1
        obtain rfl : c1 = .int .i64 x1 := by simpa using e1
        obtain rfl : c2 = .string x2 := by simpa using e2
        obtain ⟨S, hS⟩ := trod_sgQ i2
        refine ⟨⟨x0, x1, x2, S⟩, fun c u hu => ?_, ?_, wf_boundsQ k1⟩
        · have hc : c < 16 := (List.getElem?_eq_some_iff.1 hu).1
          rw [g2 c hc, ← hu]
          show ([.int .i64 x0, .int .i64 x1, .string x2] ++ [c3, c4, c5, c6, c7, c8, c9, c10, c11, c12, c13, c14, c15])[c]? = ([.int .i64 x0, .int .i64 x1, .string x2] ++ [.int .u64 S.x0, .int .u64 S.x1, .int .u64 S.x2, .int .u64 S.x3, .int .u64 S.x4, .int .u64 S.x5, .int .u64 S.x6, .int .u64 S.x7, .bool S.i, .int .u64 S.x8, .int .u64 S.x9, .int .u64 S.x10, .int .u64 S.x11])[c]?
          rw [hS]
        · have hmem : (elems[j]'hj').1 ∈ elems.map (·.1) := List.mem_map.2 ⟨_, List.getElem_mem hj', rfl⟩
          have h := sized_in hsz (t := 22) (e := 40) (k := x2.data.toList.length) ht hd Try.underlying22 hmem (by
            rw [hy, hq]
            simp [DataW.weights, Try.underlying40, Try.underlying31, DataW.weightsEach])
          have e : x2.data.toList.length = x2.size := (Lib.size_eq x2).symm
          rw [e] at h
          exact Nat.lt_succ_of_le h
    refine ⟨some a, len, cap, rfl, fun j hj => ?_⟩
    obtain ⟨b, off, spot⟩ := a
    have hspot : spot = none := by
      obtain ⟨x, h, _⟩ := key 0 (by omega)
      simpa [Addr.add] using World.cell?_spot (h 0 _ rfl)
    subst hspot
    obtain ⟨x, q0, q1, q2⟩ := key j hj
    have q0' : ∀ c u, (stE x)[c]? = some u → W.cell? ⟨b, off + j * 16 + c, none⟩ = some u := fun c u hu => by
      have := q0 c u hu
      rwa [add_plainQ, add_plainQ] at this
    exact ⟨b, off, x, rfl, q0', cell_in (q0' 0 _ rfl), q1, q2⟩
end Go.Proofs.Ytolhkpgpcbebiaa
