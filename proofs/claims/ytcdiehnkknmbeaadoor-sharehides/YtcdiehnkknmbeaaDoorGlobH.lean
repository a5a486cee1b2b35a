/- What a row's condition on the package's variables gives: the scalars' prime; and slices of numbers and of ints among the arguments. -/
import Derived.Test.YtcdiehnkknmbeaaDoorMhC
import Derived.Test.YtcdiehnkknmbeaaDoorFrame
import Derived.Test.YtcdiehnkknmbeaaDoorSliceK
import Derived.LaidMore
import Derived.Stop.Joined
namespace Go.Proofs.YtcdiehnkknmbeaaDoor
open Go Go.ChangeShapes Go.WideShapes Go.ChangeAt Go.RowKit

set_option maxRecDepth 100000 in
theorem laid_num {H : Type} {enc : TypeId × Value → H} {W : World} {n : String} {g base fuel : Nat} {spare : Nat → Bool} {held : Bool} {cs : Array Value} {a0 a1 a2 a3 : Int} {q : List MemPlace}
    (hg : Tryd.prog.globalNamed n = some g) (hv : W.var? Tryd.prog n = some cs)
    (hd : DataW.trod enc Tryd.prog W base spare held fuel 25 cs.toList = some (.agg [.lit (.int .u64 a0), .lit (.int .u64 a1), .lit (.int .u64 a2), .lit (.int .u64 a3)], q)) :
    W.cell? ⟨g, 0, none⟩ = some (.int .u64 a0) ∧ W.cell? ⟨g, 1, none⟩ = some (.int .u64 a1) ∧ W.cell? ⟨g, 2, none⟩ = some (.int .u64 a2) ∧ W.cell? ⟨g, 3, none⟩ = some (.int .u64 a3) := by
  have c := World.var?_cell hg hv
  obtain ⟨xs, m, _, hx, hlen, hl, hall⟩ := DataW.trod_array Tryd.underlying25 hd
  have i0 := hall 0 (by omega)
  have i1 := hall 1 (by omega)
  have i2 := hall 2 (by omega)
  have i3 := hall 3 (by omega)
  rw [cellsNum] at hlen
  obtain ⟨l⟩ := cs
  match l, hlen, xs, hl with
  | [c0, c1, c2, c3], _, [y0, y1, y2, y3], _ =>
    simp [cellsLimb] at i0 i1 i2 i3
    obtain ⟨x0, e0, rfl, w0⟩ := DataW.trod_int Tryd.underlying23 i0
    obtain ⟨x1, e1, rfl, w1⟩ := DataW.trod_int Tryd.underlying23 i1
    obtain ⟨x2, e2, rfl, w2⟩ := DataW.trod_int Tryd.underlying23 i2
    obtain ⟨x3, e3, rfl, w3⟩ := DataW.trod_int Tryd.underlying23 i3
    simp at hx e0 e1 e2 e3
    obtain ⟨⟨rfl, rfl, rfl, rfl⟩, _⟩ := hx
    subst e0 e1 e2 e3
    exact ⟨c 0, c 1, c 2, c 3⟩
theorem num4_of {W : World} {g n : Nat} {a0 a1 a2 a3 : Int} (h : W.cell? ⟨g, 0, none⟩ = some (.int .u64 a0) ∧ W.cell? ⟨g, 1, none⟩ = some (.int .u64 a1) ∧ W.cell? ⟨g, 2, none⟩ = some (.int .u64 a2) ∧ W.cell? ⟨g, 3, none⟩ = some (.int .u64 a3))
    (e0 : a0 = (limb n 0 : Nat)) (e1 : a1 = (limb n 1 : Nat)) (e2 : a2 = (limb n 2 : Nat)) (e3 : a3 = (limb n 3 : Nat)) : Num4 W g n := by
  subst e0 e1 e2 e3
  exact limbs4 _ h.1 h.2.1 h.2.2.1 h.2.2.2
theorem size_of_cell {W : World} {g : Nat} {v : Value} (h : W.cell? ⟨g, 0, none⟩ = some v) : g < W.heap.size := by
  rcases Nat.lt_or_ge g W.heap.size with l | l
  · exact l
  · have : W.cell? ⟨g, 0, none⟩ = none := by simp [World.cell?, Array.getElem?_eq_none l]
    rw [this] at h
    cases h
theorem glob_ofH {W : World} (h : laidMetH Tryd.prog Rows.shareValuesRow.laid W) : GlobQ W := by
  rw [MakeChecks.laidMetH_plain _ _ _ (by kernel_rfl)] at h
  obtain ⟨ps, ⟨g0, t0, cs0, f0, p0, q0, hg0, ht0, hv0, hd0, _, _⟩, _, _⟩ := h
  have e0 : some g0 = some 0 := hg0.symm.trans (by kernel_rfl)
  cases e0
  have u0 : some t0 = some 25 := ht0.symm.trans (by kernel_rfl)
  cases u0
  have c0 := laid_num hg0 hv0 hd0
  exact ⟨num4_of c0 (by kernel_rfl) (by kernel_rfl) (by kernel_rfl) (by kernel_rfl), size_of_cell c0.1⟩
theorem add_plainN (b o j : Nat) : (⟨b, o, none⟩ : Addr).add j = ⟨b, o + j, none⟩ := by unfold Addr.add; split <;> simp_all
theorem list_of {P : Nat → Nat → Prop} : ∀ len : Nat, (∀ i, i < len → ∃ n, P i n) → ∃ l : List Nat, l.length = len ∧ ∀ i n, l[i]? = some n → P i n
  | 0, _ => ⟨[], rfl, fun i n h => by simp at h⟩
  | len + 1, h => by
    obtain ⟨l, hl, hp⟩ := list_of len (fun i hi => h i (by omega))
    obtain ⟨x, hx⟩ := h len (by omega)
    refine ⟨l ++ [x], by simp [hl], fun i n hi => ?_⟩
    rcases Nat.lt_or_ge i l.length with c | c
    · rw [List.getElem?_append_left c] at hi; exact hp i n hi
    · rw [List.getElem?_append_right c] at hi
      have e : i - l.length = 0 := by
        have := (List.getElem?_eq_some_iff.1 hi).1
        simp at this
        omega
      rw [e] at hi
      simp at hi
      subst hi
      obtain rfl : i = len := by omega
      exact hx
set_option maxRecDepth 100000 in
theorem open_numl {H : Type} {enc : TypeId × Value → H} {W : World} {base : Nat} {v : Value} {d : DataW H} {p : List MemPlace} {ts : List TypeId} {ds : List (DataW H)} {j : Nat}
    (hv : Value.okWide Tryd.prog W .any base 22 v) (h : DataW.Trod enc Tryd.prog W 0 (fun _ => true) true 22 v d p)
    (hsz : (DataW.weightsEach Tryd.prog ts ds).all (· ≤ reachBytes) = true) (ht : ts[j]? = some 22) (hd : ds[j]? = some d) :
    ∃ (a : Option Addr) (cap : Nat) (l : List Nat), v = .slice a l.length cap ∧ Nums W a l ∧ (∀ n ∈ l, n < R256) ∧ l.length ≤ 4398046511104 := by
  obtain ⟨a0, len, cap, rfl⟩ := okWide_slice Tryd.underlying22 hv
  obtain ⟨fuel, hf⟩ := h
  have hb : Tryd.prog.bytesOf 25 = 32 := by kernel_rfl
  rcases DataW.trod_slice Tryd.underlying22 hf with ⟨hcs, hx⟩ | ⟨a, len', cap', elems, rest, m0, _, hcs, hx, hbs, hl, hm, hlen, hel, _⟩
  · simp [Value.cells] at hcs
    obtain ⟨rfl, rfl, rfl⟩ := hcs
    exact ⟨none, 0, [], rfl, fun j s hj => by simp at hj, fun s hs => by simp at hs, by decide⟩
  · simp [Value.cells] at hcs
    obtain ⟨rfl, rfl, rfl⟩ := hcs
    simp only [Prod.mk.injEq] at hx
    obtain ⟨rfl, rfl⟩ := hx
    have key : ∀ i, i < len → ∃ n : Nat, n < R256 ∧ ∀ k, k < 4 → W.cell? ((a.add (i * 4)).add k) = some (.int .u64 (limb n k : Nat)) := by
      intro i hi
      have hi' : i < elems.length := by omega
      have h1 := hel i hi
      rw [cellsNum, List.getElem?_eq_getElem hi', Option.bind_eq_some_iff] at h1
      obtain ⟨l, hl1, hl2⟩ := h1
      obtain ⟨g1, g2⟩ := cells?_get hl1
      obtain ⟨xs, m, _, hx, _, hxl, hall⟩ := DataW.trod_array Tryd.underlying25 hl2
      have i0 := hall 0 (by omega)
      have i1 := hall 1 (by omega)
      have i2 := hall 2 (by omega)
      have i3 := hall 3 (by omega)
      match l, g1, xs, hxl with
      | [c0, c1, c2, c3], _, [y0, y1, y2, y3], _ =>
        simp [cellsLimb] at i0 i1 i2 i3
        obtain ⟨x0, e0, rfl, w0⟩ := DataW.trod_int Tryd.underlying23 i0
        obtain ⟨x1, e1, rfl, w1⟩ := DataW.trod_int Tryd.underlying23 i1
        obtain ⟨x2, e2, rfl, w2⟩ := DataW.trod_int Tryd.underlying23 i2
        obtain ⟨x3, e3, rfl, w3⟩ := DataW.trod_int Tryd.underlying23 i3
        simp at e0 e1 e2 e3
        subst e0 e1 e2 e3
        obtain ⟨n0, rfl, h0⟩ := word_of_wf w0
        obtain ⟨n1, rfl, h1⟩ := word_of_wf w1
        obtain ⟨n2, rfl, h2⟩ := word_of_wf w2
        obtain ⟨n3, rfl, h3⟩ := word_of_wf w3
        refine ⟨join4 n0 n1 n2 n3, join4_lt _ _ _ _ h0 h1 h2 h3, fun k hk => ?_⟩
        have hg := g2 k hk
        have hk4 : k = 0 ∨ k = 1 ∨ k = 2 ∨ k = 3 := by omega
        rcases hk4 with rfl | rfl | rfl | rfl
        · rw [hg, limb_join0 _ _ _ _ h0]; rfl
        · rw [hg, limb_join1 _ _ _ _ h0 h1]; rfl
        · rw [hg, limb_join2 _ _ _ _ h0 h1 h2]; rfl
        · rw [hg, limb_join3 _ _ _ _ h0 h1 h2 h3]; rfl
    obtain ⟨l, hll, hp⟩ := list_of len key
    refine ⟨some a, cap, l, by rw [hll], fun i n hi => ?_, fun n hn => ?_, ?_⟩
    · have hil : i < len := by
        have := (List.getElem?_eq_some_iff.1 hi).1
        omega
      have hc := (hp i n hi).2
      obtain ⟨b, off, spot⟩ := a
      have hspot : spot = none := by
        have h0 := (hp 0 (l[0]'(by omega)) (List.getElem?_eq_getElem (by omega))).2 0 (by omega)
        have := World.cell?_spot h0
        simpa [Addr.add] using this
      subst hspot
      refine ⟨b, off, rfl, fun k hk => ?_, ?_⟩
      · have h := hc k hk
        rw [add_plainN, add_plainN] at h
        exact h
      · have h := hc 0 (by omega)
        rw [add_plainN, add_plainN] at h
        exact cell_in h
    · obtain ⟨i, hi, e⟩ := List.getElem_of_mem hn
      exact (hp i n (by rw [← e]; exact List.getElem?_eq_getElem hi)).1
    · have h := sized_slice hsz (j := j) (t := 22) (e := 25) ht hd Tryd.underlying22
      rw [hb] at h
      have h' : ((elems.map (·.1)).length + (rest.map (·.1)).length) * 32 ≤ 140737488351232 := h
      rw [List.length_map] at h'
      omega
set_option maxRecDepth 100000 in
theorem open_intl {H : Type} {enc : TypeId × Value → H} {W : World} {base : Nat} {v : Value} {d : DataW H} {p : List MemPlace} {ts : List TypeId} {ds : List (DataW H)} {j : Nat}
    (hv : Value.okWide Tryd.prog W .any base 35 v) (h : DataW.Trod enc Tryd.prog W 0 (fun _ => true) true 35 v d p)
    (hsz : (DataW.weightsEach Tryd.prog ts ds).all (· ≤ reachBytes) = true) (ht : ts[j]? = some 35) (hd : ds[j]? = some d) :
    ∃ (a : Option Addr) (cap : Nat) (l : List Int), v = .slice a l.length cap ∧ IntsAt W a l ∧ (∀ n ∈ l, n < 9223372036854775808) ∧ l.length ≤ 17592186044416 := by
  obtain ⟨a0, len, cap, rfl⟩ := okWide_slice Tryd.underlying35 hv
  obtain ⟨fuel, hf⟩ := h
  have hb : Tryd.prog.bytesOf 3 = 8 := by kernel_rfl
  rcases open_ints Tryd.underlying35 Tryd.underlying3 (by kernel_rfl) hf with ⟨hcs, hx⟩ | ⟨a, len', cap', zs, hcs, _, hl, hm, hzz, hx, hcell, hws⟩
  · simp [Value.cells] at hcs
    obtain ⟨rfl, rfl, rfl⟩ := hcs
    exact ⟨none, 0, [], rfl, fun j s hj => by simp at hj, fun s hs => by simp at hs, by decide⟩
  · simp [Value.cells] at hcs
    obtain ⟨rfl, rfl, rfl⟩ := hcs
    simp only [Prod.mk.injEq] at hx
    obtain ⟨rfl, rfl⟩ := hx
    simp only [if_true] at hzz
    have hlen : (zs.take len).length = len := by rw [List.length_take]; omega
    refine ⟨some a, cap, zs.take len, by rw [hlen], fun i s hi => ?_, fun s hs => ?_, ?_⟩
    · have hil : i < len := by
        have := (List.getElem?_eq_some_iff.1 hi).1
        omega
      rw [List.getElem?_take_of_lt hil] at hi
      have hc := hcell i (by omega)
      rw [List.getD_eq_getElem?_getD, hi] at hc
      obtain ⟨b, off, spot⟩ := a
      have hspot : spot = none := by simpa [Addr.add] using World.cell?_spot (hcell 0 (by omega))
      subst hspot
      rw [add_plainN] at hc
      exact ⟨b, off, rfl, hc, cell_in hc⟩
    · have := hws s (List.mem_of_mem_take hs)
      simp [Lit.wf, IntKind.min, IntKind.max, IntKind.signed, IntKind.bits] at this
      omega
    · have h := sized_slice hsz (j := j) (t := 35) (e := 3) ht hd Tryd.underlying35
      rw [hb] at h
      have e : (lits (H := H) .i64 (zs.take len)).length = len := by rw [lits, List.length_map]; exact hlen
      have h' : ((lits (H := H) .i64 (zs.take len)).length + (lits (H := H) .i64 (zs.drop len)).length) * 8 ≤ 140737488351232 := h
      rw [hlen]
      omega
end Go.Proofs.YtcdiehnkknmbeaaDoor
