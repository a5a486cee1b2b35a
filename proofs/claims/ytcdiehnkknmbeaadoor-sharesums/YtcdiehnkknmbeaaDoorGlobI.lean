/- Lists of lists of numbers among the arguments. -/
import Derived.Test.YtcdiehnkknmbeaaDoorGlobH
import Derived.Test.YtcdiehnkknmbeaaDoorShSa
namespace Go.Proofs.YtcdiehnkknmbeaaDoor
open Go Go.ChangeShapes Go.WideShapes Go.ChangeAt Go.RowKit

set_option maxRecDepth 100000 in
theorem open_num_core {H : Type} {enc : TypeId × Value → H} {W : World} {fuel : Nat} {cs : List Value} {x : DataW H × List MemPlace}
    (hf : DataW.trod enc Tryd.prog W 0 (fun _ => true) true fuel 22 cs = some x) :
    ∃ (a : Option Addr) (len cap : Nat) (l : List Nat), cs = [.slice a len cap] ∧ len = l.length ∧ Nums W a l ∧ (∀ n ∈ l, n < R256) := by
  rcases DataW.trod_slice Tryd.underlying22 hf with ⟨hcs, hx⟩ | ⟨a, len', cap', elems, rest, m0, _, hcs, hx, hbs, hl, hm, hlen, hel, _⟩
  · exact ⟨none, 0, 0, [], hcs, rfl, fun j s hj => by simp at hj, fun s hs => by simp at hs⟩
  · clear hx
    obtain ⟨len, rfl⟩ : ∃ y, y = len' := ⟨_, rfl⟩
    have key : ∀ i, i < len → ∃ n : Nat, n < R256 ∧ ∀ k, k < 4 → W.cell? ((a.add (i * 4)).add k) = some (.int .u64 (limb n k : Nat)) := by
      intro i hi
      have hi' : i < elems.length := by omega
      have h1 := hel i hi
      rw [cellsNum, List.getElem?_eq_getElem hi', Option.bind_eq_some_iff] at h1
      obtain ⟨l, hl1, hl2⟩ := h1
      obtain ⟨g1, g2⟩ := cells?_get hl1
      obtain ⟨xs, m, _, hx, _, hxl, hall⟩ := DataW.trod_array Tryd.underlying25 hl2
      have i0 := hall 0 (by omega)
      have i1 := hall 1 (by omega)
      have i2 := hall 2 (by omega)
      have i3 := hall 3 (by omega)
      match l, g1, xs, hxl with
      | [c0, c1, c2, c3], _, [y0, y1, y2, y3], _ =>
        simp [cellsLimb] at i0 i1 i2 i3
        obtain ⟨x0, e0, rfl, w0⟩ := DataW.trod_int Tryd.underlying23 i0
        obtain ⟨x1, e1, rfl, w1⟩ := DataW.trod_int Tryd.underlying23 i1
        obtain ⟨x2, e2, rfl, w2⟩ := DataW.trod_int Tryd.underlying23 i2
        obtain ⟨x3, e3, rfl, w3⟩ := DataW.trod_int Tryd.underlying23 i3
        simp at e0 e1 e2 e3
        subst e0 e1 e2 e3
        obtain ⟨n0, rfl, h0⟩ := word_of_wf w0
        obtain ⟨n1, rfl, h1⟩ := word_of_wf w1
        obtain ⟨n2, rfl, h2⟩ := word_of_wf w2
        obtain ⟨n3, rfl, h3⟩ := word_of_wf w3
        refine ⟨join4 n0 n1 n2 n3, join4_lt _ _ _ _ h0 h1 h2 h3, fun k hk => ?_⟩
        have hg := g2 k hk
        have hk4 : k = 0 ∨ k = 1 ∨ k = 2 ∨ k = 3 := by omega
        rcases hk4 with rfl | rfl | rfl | rfl
        · rw [hg, limb_join0 _ _ _ _ h0]; rfl
        · rw [hg, limb_join1 _ _ _ _ h0 h1]; rfl
        · rw [hg, limb_join2 _ _ _ _ h0 h1 h2]; rfl
        · rw [hg, limb_join3 _ _ _ _ h0 h1 h2 h3]; rfl
    obtain ⟨l, hll, hp⟩ := list_of len key
    refine ⟨some a, len, cap', l, hcs, hll.symm, fun i n hi => ?_, fun n hn => ?_⟩
    · have hil : i < len := by
        have := (List.getElem?_eq_some_iff.1 hi).1
        omega
      have hc := (hp i n hi).2
      obtain ⟨b, off, spot⟩ := a
      have hspot : spot = none := by
        have h0 := (hp 0 (l[0]'(by omega)) (List.getElem?_eq_getElem (by omega))).2 0 (by omega)
        have := World.cell?_spot h0
        simpa [Addr.add] using this
      subst hspot
      refine ⟨b, off, rfl, fun k hk => ?_, ?_⟩
      · have h := hc k hk
        rw [add_plainN, add_plainN] at h
        exact h
      · have h := hc 0 (by omega)
        rw [add_plainN, add_plainN] at h
        exact cell_in h
    · obtain ⟨i, hi, e⟩ := List.getElem_of_mem hn
      exact (hp i n (by rw [← e]; exact List.getElem?_eq_getElem hi)).1
theorem list_of2 {P : Nat → List Nat → Prop} : ∀ len : Nat, (∀ i, i < len → ∃ n, P i n) → ∃ l : List (List Nat), l.length = len ∧ ∀ i n, l[i]? = some n → P i n
  | 0, _ => ⟨[], rfl, fun i n h => by simp at h⟩
  | len + 1, h => by
    obtain ⟨l, hl, hp⟩ := list_of2 len (fun i hi => h i (by omega))
    obtain ⟨x, hx⟩ := h len (by omega)
    refine ⟨l ++ [x], by simp [hl], fun i n hi => ?_⟩
    rcases Nat.lt_or_ge i l.length with c | c
    · rw [List.getElem?_append_left c] at hi; exact hp i n hi
    · rw [List.getElem?_append_right c] at hi
      have e : i - l.length = 0 := by
        have := (List.getElem?_eq_some_iff.1 hi).1
        simp at this
        omega
      rw [e] at hi
      simp at hi
      subst hi
      obtain rfl : i = len := by omega
      exact hx
set_option maxRecDepth 100000 in
theorem open_numll {H : Type} {enc : TypeId × Value → H} {W : World} {base : Nat} {v : Value} {d : DataW H} {p : List MemPlace}
    (hv : Value.okWide Tryd.prog W .any base 46 v) (h : DataW.Trod enc Tryd.prog W 0 (fun _ => true) true 46 v d p) :
    ∃ (a : Option Addr) (cap : Nat) (L : List (List Nat)), v = .slice a L.length cap ∧ Rows2 W a L ∧ (∀ row ∈ L, ∀ n ∈ row, n < R256) := by
  obtain ⟨a0, len, cap, rfl⟩ := okWide_slice Tryd.underlying46 hv
  obtain ⟨fuel, hf⟩ := h
  have c1 : Tryd.prog.cellsOf 22 = 1 := by kernel_rfl
  rcases DataW.trod_slice Tryd.underlying46 hf with ⟨hcs, hx⟩ | ⟨a, len', cap', elems, rest, m0, _, hcs, hx, hbs, hl, hm, hlen, hel, _⟩
  · simp [Value.cells] at hcs
    obtain ⟨rfl, rfl, rfl⟩ := hcs
    exact ⟨none, 0, [], rfl, fun j s hj => by simp at hj, fun s hs => by simp at hs⟩
  · simp [Value.cells] at hcs
    obtain ⟨rfl, rfl, rfl⟩ := hcs
    have key : ∀ i, i < len → ∃ row : List Nat, (∃ ra rc, W.cell? (a.add (i * 1)) = some (.slice ra row.length rc) ∧ Nums W ra row) ∧ ∀ n ∈ row, n < R256 := by
      intro i hi
      have hi' : i < elems.length := by omega
      have h1 := hel i hi
      rw [c1, List.getElem?_eq_getElem hi', Option.bind_eq_some_iff] at h1
      obtain ⟨l, hl1, hl2⟩ := h1
      obtain ⟨g1, g2⟩ := cells?_get hl1
      obtain ⟨ra, rlen, rc, row, e1, e2, e3, e4⟩ := open_num_core hl2
      have h0 := g2 0 (by omega)
      rw [e1] at h0
      have had : ∀ b : Addr, b.add 0 = b := fun b => by unfold Addr.add; split <;> simp_all
      rw [had] at h0
      exact ⟨row, ⟨ra, rc, by rw [h0, e2]; rfl, e3⟩, e4⟩
    obtain ⟨L, hll, hp⟩ := list_of2 len key
    refine ⟨some a, cap, L, by rw [hll], fun i row hi => ?_, fun row hr => ?_⟩
    · have hil : i < len := by
        have := (List.getElem?_eq_some_iff.1 hi).1
        omega
      obtain ⟨ra, rc, hc, hn⟩ := (hp i row hi).1
      obtain ⟨b, off, spot⟩ := a
      have hspot : spot = none := by
        obtain ⟨_, _, h0, _⟩ := (hp 0 (L[0]'(by omega)) (List.getElem?_eq_getElem (by omega))).1
        have := World.cell?_spot h0
        simpa [Addr.add] using this
      subst hspot
      rw [add_plainN, Nat.mul_one] at hc
      exact ⟨b, off, ra, rc, rfl, hc, hn, cell_in hc⟩
    · obtain ⟨i, hi, e⟩ := List.getElem_of_mem hr
      exact (hp i row (by rw [← e]; exact List.getElem?_eq_getElem hi)).2
end Go.Proofs.YtcdiehnkknmbeaaDoor
