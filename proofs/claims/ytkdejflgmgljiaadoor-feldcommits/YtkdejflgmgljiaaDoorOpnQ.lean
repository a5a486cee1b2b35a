/- Slices of numbers and of points among the arguments. -/
import Derived.Test.YtkdejflgmgljiaaDoorOpnP
import Derived.Test.YtkdejflgmgljiaaDoorSliceK
import Derived.Test.YtkdejflgmgljiaaDoorPnL
namespace Go.Proofs.YtkdejflgmgljiaaDoor
open Go Go.ChangeShapes Go.WideShapes Go.ChangeAt Go.RowKit

theorem add_plainQ (b o j : Nat) : (⟨b, o, none⟩ : Addr).add j = ⟨b, o + j, none⟩ := by unfold Addr.add; split <;> simp_all
theorem list_ofQ {α : Type} {P : Nat → α → Prop} : ∀ len : Nat, (∀ i, i < len → ∃ n, P i n) → ∃ l : List α, l.length = len ∧ ∀ i n, l[i]? = some n → P i n
  | 0, _ => ⟨[], rfl, fun i n h => by simp at h⟩
  | len + 1, h => by
    obtain ⟨l, hl, hp⟩ := list_ofQ len (fun i hi => h i (by omega))
    obtain ⟨x, hx⟩ := h len (by omega)
    refine ⟨l ++ [x], by simp [hl], fun i n hi => ?_⟩
    rcases Nat.lt_or_ge i l.length with c | c
    · rw [List.getElem?_append_left c] at hi; exact hp i n hi
    · rw [List.getElem?_append_right c] at hi
      have e : i - l.length = 0 := by
        have := (List.getElem?_eq_some_iff.1 hi).1
        simp at this
        omega
      rw [e] at hi
      simp at hi
      subst hi
      obtain rfl : i = len := by omega
      exact hx
set_option maxRecDepth 100000 in
theorem open_numq {H : Type} {enc : TypeId × Value → H} {W : World} {base : Nat} {v : Value} {d : DataW H} {p : List MemPlace} {ts : List TypeId} {ds : List (DataW H)} {j : Nat}
    (hv : Value.okWide Tryd.prog W .any base 22 v) (h : DataW.Trod enc Tryd.prog W 0 (fun _ => true) true 22 v d p)
    (hsz : (DataW.weightsEach Tryd.prog ts ds).all (· ≤ reachBytes) = true) (ht : ts[j]? = some 22) (hd : ds[j]? = some d) :
    ∃ (a : Option Addr) (cap : Nat) (l : List Nat), v = .slice a l.length cap ∧ NumsAt W a l ∧ (∀ n ∈ l, n < R256) ∧ l.length ≤ 4398046511104 := by
  obtain ⟨a0, len, cap, rfl⟩ := okWide_slice Tryd.underlying22 hv
  obtain ⟨fuel, hf⟩ := h
  have hb : Tryd.prog.bytesOf 34 = 32 := by kernel_rfl
  rcases DataW.trod_slice Tryd.underlying22 hf with ⟨hcs, hx⟩ | ⟨a, len', cap', elems, rest, m0, _, hcs, hx, hbs, hl, hm, hlen, hel, _⟩
  · simp [Value.cells] at hcs
    obtain ⟨rfl, rfl, rfl⟩ := hcs
    exact ⟨none, 0, [], rfl, NumsAt.nil _ _, fun s hs => by simp at hs, by decide⟩
  · simp [Value.cells] at hcs
    obtain ⟨rfl, rfl, rfl⟩ := hcs
    simp only [Prod.mk.injEq] at hx
    obtain ⟨rfl, rfl⟩ := hx
    have key : ∀ i, i < len → ∃ n : Nat, n < R256 ∧ ∀ k, k < 4 → W.cell? ((a.add (i * 4)).add k) = some (.int .u64 (limb n k : Nat)) := by
      intro i hi
      have hi' : i < elems.length := by omega
      have h1 := hel i hi
      rw [cellsNum, List.getElem?_eq_getElem hi', Option.bind_eq_some_iff] at h1
      obtain ⟨l, hl1, hl2⟩ := h1
      obtain ⟨g1, g2⟩ := cells?_get hl1
      match l, g1 with
      | [c0, c1, c2, c3], _ =>
        obtain ⟨n, hn, rfl, rfl, rfl, rfl, _⟩ := trod_numP hl2
        refine ⟨n, hn, fun k hk => ?_⟩
        have hg := g2 k hk
        have hk4 : k = 0 ∨ k = 1 ∨ k = 2 ∨ k = 3 := by omega
        rcases hk4 with rfl | rfl | rfl | rfl <;> (rw [hg]; rfl)
    obtain ⟨l, hll, hp⟩ := list_ofQ len key
    refine ⟨some a, cap, l, by rw [hll], fun i n hi => ?_, fun n hn => ?_, ?_⟩
    · have hc := (hp i n hi).2
      obtain ⟨b, off, spot⟩ := a
      have hspot : spot = none := by
        have hil := (List.getElem?_eq_some_iff.1 hi).1
        have h0 := (hp 0 (l[0]'(by omega)) (List.getElem?_eq_getElem (by omega))).2 0 (by omega)
        have := World.cell?_spot h0
        simpa [Addr.add] using this
      subst hspot
      have hc' : ∀ k, k < 4 → W.cell? ⟨b, off + i * 4 + k, none⟩ = some (.int .u64 (limb n k : Nat)) := fun k hk => by
        have h := hc k hk
        rw [add_plainQ, add_plainQ] at h
        exact h
      exact ⟨b, off, rfl, cell_in (hc' 0 (by omega)), hc' 0 (by omega), hc' 1 (by omega), hc' 2 (by omega), hc' 3 (by omega)⟩
    · obtain ⟨i, hi, e⟩ := List.getElem_of_mem hn
      exact (hp i n (by rw [← e]; exact List.getElem?_eq_getElem hi)).1
    · have h := sized_slice hsz (j := j) (t := 22) (e := 34) ht hd Tryd.underlying22
      rw [hb] at h
      have h' : ((elems.map (·.1)).length + (rest.map (·.1)).length) * 32 ≤ 140737488351232 := h
      rw [List.length_map] at h'
      omega
def ptC (p : Nat × Nat × Bool) : List Value := ptL p.1 p.2.1 p.2.2
set_option maxRecDepth 100000 in
theorem trod_ptQ {H : Type} {enc : TypeId × Value → H} {W : World} {base fuel : Nat} {spare : Nat → Bool} {held : Bool} {l : List Value} {x : DataW H × List MemPlace} (hl : l.length = 9)
    (hf : DataW.trod enc Tryd.prog W base spare held fuel 36 l = some x) : ∃ p : Nat × Nat × Bool, (p.1 < R256 ∧ p.2.1 < R256) ∧ l = ptC p := by
  obtain ⟨xs, m, _, hx, _, hxl, hall⟩ := DataW.trod_struct Tryd.underlying36 hf
  have i0 := hall 0 _ rfl
  have i1 := hall 1 _ rfl
  have i2 := hall 2 _ rfl
  match l, hl, xs, hxl with
  | [c0, c1, c2, c3, d0, d1, d2, d3, e0], _, [y0, y1, y2], _ =>
    simp [cellsNum, cellsBool] at i0 i1 i2
    obtain ⟨x, hx1, rfl, rfl, rfl, rfl, rfl⟩ := trod_numP i0
    obtain ⟨y, hy1, rfl, rfl, rfl, rfl, rfl⟩ := trod_numP i1
    obtain ⟨b, e, rfl⟩ := DataW.trod_bool Tryd.underlying4 i2
    simp at e
    subst e
    exact ⟨(x, y, b), ⟨hx1, hy1⟩, rfl⟩
theorem ptC_len (p : Nat × Nat × Bool) : (ptC p).length = 9 := rfl
set_option maxRecDepth 100000 in
theorem open_ptl {H : Type} {enc : TypeId × Value → H} {W : World} {base : Nat} {v : Value} {d : DataW H} {p : List MemPlace} {ts : List TypeId} {ds : List (DataW H)} {j : Nat}
    (hv : Value.okWide Tryd.prog W .any base 23 v) (h : DataW.Trod enc Tryd.prog W 0 (fun _ => true) true 23 v d p)
    (hsz : (DataW.weightsEach Tryd.prog ts ds).all (· ≤ reachBytes) = true) (ht : ts[j]? = some 23) (hd : ds[j]? = some d) :
    ∃ (a : Option Addr) (cap : Nat) (l : List (Nat × Nat × Bool)), v = .slice a l.length cap ∧ PntsAt W a l ∧ (∀ n ∈ l, n.1 < R256 ∧ n.2.1 < R256) ∧ l.length ≤ 4398046511104 := by
  obtain ⟨a0, len, cap, rfl⟩ := okWide_slice Tryd.underlying23 hv
  obtain ⟨fuel, hf⟩ := h
  have hb : Tryd.prog.bytesOf 36 = 72 := by kernel_rfl
  rcases DataW.trod_slice Tryd.underlying23 hf with ⟨hcs, hx⟩ | ⟨a, len', cap', elems, rest, m0, _, hcs, hx, hbs, hl, hm, hlen, hel, _⟩
  · simp [Value.cells] at hcs
    obtain ⟨rfl, rfl, rfl⟩ := hcs
    exact ⟨none, 0, [], rfl, PntsAt.nil _ _, fun s hs => by simp at hs, by decide⟩
  · simp [Value.cells] at hcs
    obtain ⟨rfl, rfl, rfl⟩ := hcs
    simp only [Prod.mk.injEq] at hx
    obtain ⟨rfl, rfl⟩ := hx
    have key : ∀ i, i < len → ∃ n : Nat × Nat × Bool, (n.1 < R256 ∧ n.2.1 < R256) ∧ ∀ k, k < 9 → W.cell? ((a.add (i * 9)).add k) = (ptC n)[k]? := by
      intro i hi
      have hi' : i < elems.length := by omega
      have h1 := hel i hi
      rw [cellsPt, List.getElem?_eq_getElem hi', Option.bind_eq_some_iff] at h1
      obtain ⟨l, hl1, hl2⟩ := h1
      obtain ⟨g1, g2⟩ := cells?_get hl1
      obtain ⟨n, hn, rfl⟩ := trod_ptQ g1 hl2
      exact ⟨n, hn, fun k hk => g2 k hk⟩
    obtain ⟨l, hll, hp⟩ := list_ofQ len key
    refine ⟨some a, cap, l, by rw [hll], fun i n hi => ?_, fun n hn => ?_, ?_⟩
    · have hc := (hp i n hi).2
      obtain ⟨b, off, spot⟩ := a
      have hspot : spot = none := by
        have hil := (List.getElem?_eq_some_iff.1 hi).1
        have h0 : W.cell? (((⟨b, off, spot⟩ : Addr).add (0 * 9)).add 0) = some (.int .u64 (limb (l[0]'(by omega)).1 0 : Nat)) := (hp 0 (l[0]'(by omega)) (List.getElem?_eq_getElem (by omega))).2 0 (by omega)
        have := World.cell?_spot h0
        simpa [Addr.add] using this
      subst hspot
      have hc' : ∀ k, k < 9 → W.cell? ⟨b, off + i * 9 + k, none⟩ = (ptC n)[k]? := fun k hk => by
        have h := hc k hk
        rw [add_plainQ, add_plainQ] at h
        exact h
      have h0 : W.cell? ⟨b, off + i * 9, none⟩ = some (.int .u64 (limb n.1 0 : Nat)) := hc' 0 (by omega)
      exact ⟨b, off, rfl, cell_in h0, h0, hc' 1 (by omega), hc' 2 (by omega), hc' 3 (by omega), hc' 4 (by omega), hc' 5 (by omega), hc' 6 (by omega), hc' 7 (by omega), hc' 8 (by omega)⟩
    · obtain ⟨i, hi, e⟩ := List.getElem_of_mem hn
      exact (hp i n (by rw [← e]; exact List.getElem?_eq_getElem hi)).1
    · have h := sized_slice hsz (j := j) (t := 23) (e := 36) ht hd Tryd.underlying23
      rw [hb] at h
      have h' : ((elems.map (·.1)).length + (rest.map (·.1)).length) * 72 ≤ 140737488351232 := h
      rw [List.length_map] at h'
      omega
end Go.Proofs.YtkdejflgmgljiaaDoor
