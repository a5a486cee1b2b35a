/- Several texts laid together. -/
import Derived.Test.YtfkpbcionlidaaaDoorLbA
import Derived.Test.YtfkpbcionlidaaaDoorRows
import Derived.ProofKit
import Derived.OpenShut
import Derived.Below
import Derived.LaidMore
import Derived.Stop.Joined
import Derived.Carry
import Derived.SizedLaws
import Derived.Lib.SmallJoins
import Derived.Test.YtfkpbcionlidaaaDoorPnL
import Derived.Test.YtfkpbcionlidaaaDoorFzX
import Derived.Test.YtfkpbcionlidaaaDoorGnA
import Derived.Test.YtfkpbcionlidaaaDoorFzY
import Derived.Test.YtfkpbcionlidaaaDoorTie
import Derived.Test.YtfkpbcionlidaaaDoorCards
import Derived.SevenTiedAt
namespace Go.Proofs.YtfkpbcionlidaaaDoor
open Go.ChangeShapes Go.WideShapes Go.ChangeAt Go.RowKit

theorem Tryd.own : ownKnob Tryd.prog.godebug = none := by kernel_rfl
theorem cellsNum : Tryd.prog.cellsOf 41 = 4 := by kernel_rfl
theorem cellsLimb : Tryd.prog.cellsOf 39 = 1 := by kernel_rfl
theorem word_of_wf {x : Int} (h : (Lit.int .u64 x).wf = true) : ∃ n : Nat, x = (n : Int) ∧ n < M64 := by
 simp [Lit.wf, IntKind.min, IntKind.max, IntKind.signed, IntKind.bits] at h
 exact ⟨x.toNat, by omega, by unfold M64; omega⟩
end Go.Proofs.YtfkpbcionlidaaaDoor

namespace Go.Proofs.YtfkpbcionlidaaaDoor
open Go Go.ChangeShapes Go.WideShapes Go.ChangeAt Go.RowKit

theorem cellsPt : Tryd.prog.cellsOf 45 = 9 := by kernel_rfl
theorem cellsBool : Tryd.prog.cellsOf 4 = 1 := by kernel_rfl
theorem trod_numP {H : Type} {enc : TypeId × Value → H} {W : World} {base fuel : Nat} {spare : Nat → Bool} {held : Bool} {c0 c1 c2 c3 : Value} {x : DataW H × List MemPlace}
  (hf : DataW.trod enc Tryd.prog W base spare held fuel 41 [c0, c1, c2, c3] = some x) :
  ∃ n : Nat, n < R256 ∧ c0 = .int .u64 (limb n 0 : Nat) ∧ c1 = .int .u64 (limb n 1 : Nat) ∧ c2 = .int .u64 (limb n 2 : Nat) ∧ c3 = .int .u64 (limb n 3 : Nat) ∧ x = (.agg [.lit (.int .u64 (limb n 0 : Nat)), .lit (.int .u64 (limb n 1 : Nat)), .lit (.int .u64 (limb n 2 : Nat)), .lit (.int .u64 (limb n 3 : Nat))], []) := by
 obtain ⟨xs, m, _, hx, _, hl, hall⟩ := DataW.trod_array Tryd.underlying41 hf
 have i0 := hall 0 (by omega)
 have i1 := hall 1 (by omega)
 have i2 := hall 2 (by omega)
 have i3 := hall 3 (by omega)
 match xs, hl with
 | [y0, y1, y2, y3], _ =>
  simp [cellsLimb] at i0 i1 i2 i3
  obtain ⟨x0, e0, rfl, w0⟩ := DataW.trod_int Tryd.underlying39 i0
  obtain ⟨x1, e1, rfl, w1⟩ := DataW.trod_int Tryd.underlying39 i1
  obtain ⟨x2, e2, rfl, w2⟩ := DataW.trod_int Tryd.underlying39 i2
  obtain ⟨x3, e3, rfl, w3⟩ := DataW.trod_int Tryd.underlying39 i3
  simp at e0 e1 e2 e3
  subst e0 e1 e2 e3
  obtain ⟨n0, rfl, h0⟩ := word_of_wf w0
  obtain ⟨n1, rfl, h1⟩ := word_of_wf w1
  obtain ⟨n2, rfl, h2⟩ := word_of_wf w2
  obtain ⟨n3, rfl, h3⟩ := word_of_wf w3
  refine ⟨join4 n0 n1 n2 n3, join4_lt _ _ _ _ h0 h1 h2 h3, ?_⟩
  rw [limb_join0 _ _ _ _ h0, limb_join1 _ _ _ _ h0 h1, limb_join2 _ _ _ _ h0 h1 h2, limb_join3 _ _ _ _ h0 h1 h2 h3]
  exact ⟨rfl, rfl, rfl, rfl, hx⟩
end Go.Proofs.YtfkpbcionlidaaaDoor

namespace Go.Proofs.YtfkpbcionlidaaaDoor
open Go Go.ChangeShapes Go.WideShapes Go.ChangeAt Go.RowKit

theorem cell_in {w : World} {a : Addr} {v : Value} (h : w.cell? a = some v) : a.block < w.heap.size := by
 rcases Nat.lt_or_ge a.block w.heap.size with c | c
 ·exact c
 ·simp [World.cell?, Array.getElem?_eq_none c] at h
theorem mapM_get {α β : Type} {f : α → Option β} : ∀ {l : List α} {r : List β}, l.mapM f = some r → r.length = l.length ∧ ∀ (i : Nat) (x : α), l[i]? = some x → f x = r[i]?
 | [], r, h => by simp at h; subst h; exact ⟨rfl, fun i x hx => by simp at hx⟩
 | a :: l, r, h => by
  rw [List.mapM_cons] at h
  simp only [Option.bind_eq_bind, Option.bind_eq_some_iff] at h
  obtain ⟨b, hb, r', hr', h⟩ := h
  have h : r = b :: r' := by simpa using h.symm
  subst h
  obtain ⟨h1, h2⟩ := mapM_get hr'
  refine ⟨by simp [h1], fun i x hx => ?_⟩
  match i, hx with
  | 0, hx => simp at hx; subst hx; simpa using hb
  | i + 1, hx => simp at hx ⊢; exact h2 i x hx
theorem cells?_get {w : World} {base n : Nat} {a : Addr} {cs : List Value} (h : w.cells? base a n = some cs) : cs.length = n ∧ ∀ i, i < n → w.cell? (a.add i) = cs[i]? := by
 unfold World.cells? at h
 split at h
 ·obtain ⟨h1, h2⟩ := mapM_get h
  simp at h1
  exact ⟨h1, fun i hi => h2 i i (by simp [hi])⟩
 ·cases h
end Go.Proofs.YtfkpbcionlidaaaDoor

namespace Go.Proofs.YtfkpbcionlidaaaDoor
open Go Go.ChangeShapes Go.WideShapes Go.ChangeAt Go.RowKit

theorem add_plainQ (b o j : Nat) : (⟨b, o, none⟩ : Addr).add j = ⟨b, o + j, none⟩ := by unfold Addr.add; split <;> simp_all
theorem list_ofQ {α : Type} {P : Nat → α → Prop} : ∀ len : Nat, (∀ i, i < len → ∃ n, P i n) → ∃ l : List α, l.length = len ∧ ∀ i n, l[i]? = some n → P i n
 | 0, _ => ⟨[], rfl, fun i n h => by simp at h⟩
 | len + 1, h => by
  obtain ⟨l, hl, hp⟩ := list_ofQ len (fun i hi => h i (by omega))
  obtain ⟨x, hx⟩ := h len (by omega)
  refine ⟨l ++ [x], by simp [hl], fun i n hi => ?_⟩
  rcases Nat.lt_or_ge i l.length with c | c
  ·rw [List.getElem?_append_left c] at hi; exact hp i n hi
  ·rw [List.getElem?_append_right c] at hi
   have e : i - l.length = 0 := by
    have := (List.getElem?_eq_some_iff.1 hi).1
    simp at this
    omega
   rw [e] at hi
   simp at hi
   subst hi
   obtain rfl : i = len := by omega
   exact hx
def ptC (p : Nat × Nat × Bool) : List Value := ptL p.1 p.2.1 p.2.2
set_option maxRecDepth 100000 in
theorem trod_ptQ {H : Type} {enc : TypeId × Value → H} {W : World} {base fuel : Nat} {spare : Nat → Bool} {held : Bool} {l : List Value} {x : DataW H × List MemPlace} (hl : l.length = 9)
  (hf : DataW.trod enc Tryd.prog W base spare held fuel 45 l = some x) : ∃ p : Nat × Nat × Bool, (p.1 < R256 ∧ p.2.1 < R256) ∧ l = ptC p := by
 obtain ⟨xs, m, _, hx, _, hxl, hall⟩ := DataW.trod_struct Tryd.underlying45 hf
 have i0 := hall 0 _ rfl
 have i1 := hall 1 _ rfl
 have i2 := hall 2 _ rfl
 match l, hl, xs, hxl with
 | [c0, c1, c2, c3, d0, d1, d2, d3, e0], _, [y0, y1, y2], _ =>
  simp [cellsNum, cellsBool] at i0 i1 i2
  obtain ⟨x, hx1, rfl, rfl, rfl, rfl, rfl⟩ := trod_numP i0
  obtain ⟨y, hy1, rfl, rfl, rfl, rfl, rfl⟩ := trod_numP i1
  obtain ⟨b, e, rfl⟩ := DataW.trod_bool Tryd.underlying4 i2
  simp at e
  subst e
  exact ⟨(x, y, b), ⟨hx1, hy1⟩, rfl⟩
end Go.Proofs.YtfkpbcionlidaaaDoor

namespace Go.Proofs.YtfkpbcionlidaaaDoor
open Go Go.ChangeShapes Go.WideShapes Go.ChangeAt Go.RowKit
set_option maxRecDepth 100000 in
theorem open_pt_core {H : Type} {enc : TypeId × Value → H} {W : World} {fuel : Nat} {cs : List Value} {x : DataW H × List MemPlace}
  (hf : DataW.trod enc Tryd.prog W 0 (fun _ => true) true fuel 24 cs = some x) :
  ∃ (a : Option Addr) (len cap : Nat) (l : List T3), cs = [.slice a len cap] ∧ len = l.length ∧ PntsAt W a l ∧ (∀ n ∈ l, n.1 < R256 ∧ n.2.1 < R256) := by
 rcases DataW.trod_slice Tryd.underlying24 hf with ⟨hcs, hx⟩ | ⟨a, len', cap', elems, rest, m0, _, hcs, hx, hbs, hl, hm, hlen, hel, _⟩
 ·exact ⟨none, 0, 0, [], hcs, rfl, PntsAt.nil _ _, fun s hs => by simp at hs⟩
 ·clear hx
  obtain ⟨len, rfl⟩ : ∃ y, y = len' := ⟨_, rfl⟩
  have key : ∀ i, i < len → ∃ n : Nat × Nat × Bool, (n.1 < R256 ∧ n.2.1 < R256) ∧ ∀ k, k < 9 → W.cell? ((a.add (i * 9)).add k) = (ptC n)[k]? := by
   intro i hi
   have hi' : i < elems.length := by omega
   have h1 := hel i hi
   rw [cellsPt, List.getElem?_eq_getElem hi', Option.bind_eq_some_iff] at h1
   obtain ⟨l, hl1, hl2⟩ := h1
   obtain ⟨g1, g2⟩ := cells?_get hl1
   obtain ⟨n, hn, rfl⟩ := trod_ptQ g1 hl2
   exact ⟨n, hn, fun k hk => g2 k hk⟩
  obtain ⟨l, hll, hp⟩ := list_ofQ len key
  refine ⟨some a, len, cap', l, hcs, hll.symm, fun i n hi => ?_, fun n hn => ?_⟩
  ·have hc := (hp i n hi).2
   obtain ⟨b, off, spot⟩ := a
   have hspot : spot = none := by
    have hil := (List.getElem?_eq_some_iff.1 hi).1
    have h0 : W.cell? (((⟨b, off, spot⟩ : Addr).add (0 * 9)).add 0) = some (.int .u64 (limb (l[0]'(by omega)).1 0 : Nat)) := (hp 0 (l[0]'(by omega)) (List.getElem?_eq_getElem (by omega))).2 0 (by omega)
    have := World.cell?_spot h0
    simpa [Addr.add] using this
   subst hspot
   have hc' : ∀ k, k < 9 → W.cell? ⟨b, off + i * 9 + k, none⟩ = (ptC n)[k]? := fun k hk => by
    have h := hc k hk
    rw [add_plainQ, add_plainQ] at h
    exact h
   have h0 : W.cell? ⟨b, off + i * 9, none⟩ = some (.int .u64 (limb n.1 0 : Nat)) := hc' 0 (by omega)
   exact ⟨b, off, rfl, cell_in h0, h0, hc' 1 (by omega), hc' 2 (by omega), hc' 3 (by omega), hc' 4 (by omega), hc' 5 (by omega), hc' 6 (by omega), hc' 7 (by omega), hc' 8 (by omega)⟩
  ·obtain ⟨i, hi, e⟩ := List.getElem_of_mem hn
   exact (hp i n (by rw [← e]; exact List.getElem?_eq_getElem hi)).1
set_option maxRecDepth 100000 in
theorem open_ptll {H : Type} {enc : TypeId × Value → H} {W : World} {base : Nat} {v : Value} {d : DataW H} {p : List MemPlace}
  (hv : Value.okWide Tryd.prog W .any base 22 v) (h : DataW.Trod enc Tryd.prog W 0 (fun _ => true) true 22 v d p) :
  ∃ (a : Option Addr) (cap : Nat) (L : List (List T3)), v = .slice a L.length cap ∧ L.length ≤ cap ∧ RowsT W a L ∧ (∀ row ∈ L, ∀ n ∈ row, n.1 < R256 ∧ n.2.1 < R256) := by
 obtain ⟨a0, len, cap, rfl⟩ := okWide_slice Tryd.underlying22 hv
 obtain ⟨fuel, hf⟩ := h
 have c1 : Tryd.prog.cellsOf 24 = 1 := by kernel_rfl
 rcases DataW.trod_slice Tryd.underlying22 hf with ⟨hcs, hx⟩ | ⟨a, len', cap', elems, rest, m0, _, hcs, hx, hbs, hl, hm, hlen, hel, _⟩
 ·simp [Value.cells] at hcs
  obtain ⟨rfl, rfl, rfl⟩ := hcs
  exact ⟨none, 0, [], rfl, Nat.le_refl _, fun j s hj => by simp at hj, fun s hs => by simp at hs⟩
 ·simp [Value.cells] at hcs
  obtain ⟨rfl, rfl, rfl⟩ := hcs
  have key : ∀ i, i < len → ∃ row : List T3, (∃ ra rc, W.cell? (a.add (i * 1)) = some (.slice ra row.length rc) ∧ PntsAt W ra row) ∧ ∀ n ∈ row, n.1 < R256 ∧ n.2.1 < R256 := by
   intro i hi
   have hi' : i < elems.length := by omega
   have h1 := hel i hi
   rw [c1, List.getElem?_eq_getElem hi', Option.bind_eq_some_iff] at h1
   obtain ⟨l, hl1, hl2⟩ := h1
   obtain ⟨g1, g2⟩ := cells?_get hl1
   obtain ⟨ra, rlen, rc, row, e1, e2, e3, e4⟩ := open_pt_core hl2
   have h0 := g2 0 (by omega)
   rw [e1] at h0
   have had : ∀ b : Addr, b.add 0 = b := fun b => by unfold Addr.add; split <;> simp_all
   rw [had] at h0
   exact ⟨row, ⟨ra, rc, by rw [h0, e2]; rfl, e3⟩, e4⟩
  obtain ⟨L, hll, hp⟩ := list_ofQ len key
  refine ⟨some a, cap, L, by rw [hll], by omega, fun i row hi => ?_, fun row hr => ?_⟩
  ·have hil : i < len := by
    have := (List.getElem?_eq_some_iff.1 hi).1
    omega
   obtain ⟨ra, rc, hc, hn⟩ := (hp i row hi).1
   obtain ⟨b, off, spot⟩ := a
   have hspot : spot = none := by
    obtain ⟨_, _, h0, _⟩ := (hp 0 (L[0]'(by omega)) (List.getElem?_eq_getElem (by omega))).1
    have := World.cell?_spot h0
    simpa [Addr.add] using this
   subst hspot
   rw [add_plainQ, Nat.mul_one] at hc
   exact ⟨b, off, ra, rc, rfl, hc, hn, cell_in hc⟩
  ·obtain ⟨i, hi, e⟩ := List.getElem_of_mem hr
   exact (hp i row (by rw [← e]; exact List.getElem?_eq_getElem hi)).2
end Go.Proofs.YtfkpbcionlidaaaDoor

namespace Go.Proofs.YtfkpbcionlidaaaDoor
open Go Go.ChangeShapes Go.WideShapes Go.ChangeAt Go.RowKit

set_option maxRecDepth 100000 in
theorem laid_num {H : Type} {enc : TypeId × Value → H} {W : World} {n : String} {g base fuel : Nat} {spare : Nat → Bool} {held : Bool} {cs : Array Value} {a0 a1 a2 a3 : Int} {q : List MemPlace}
  (hg : Tryd.prog.globalNamed n = some g) (hv : W.var? Tryd.prog n = some cs)
  (hd : DataW.trod enc Tryd.prog W base spare held fuel 41 cs.toList = some (.agg [.lit (.int .u64 a0), .lit (.int .u64 a1), .lit (.int .u64 a2), .lit (.int .u64 a3)], q)) :
  W.cell? ⟨g, 0, none⟩ = some (.int .u64 a0) ∧ W.cell? ⟨g, 1, none⟩ = some (.int .u64 a1) ∧ W.cell? ⟨g, 2, none⟩ = some (.int .u64 a2) ∧ W.cell? ⟨g, 3, none⟩ = some (.int .u64 a3) := by
 have c := World.var?_cell hg hv
 obtain ⟨xs, m, _, hx, hlen, hl, hall⟩ := DataW.trod_array Tryd.underlying41 hd
 have i0 := hall 0 (by omega)
 have i1 := hall 1 (by omega)
 have i2 := hall 2 (by omega)
 have i3 := hall 3 (by omega)
 rw [cellsNum] at hlen
 obtain ⟨l⟩ := cs
 match l, hlen, xs, hl with
 | [c0, c1, c2, c3], _, [y0, y1, y2, y3], _ =>
  simp [cellsLimb] at i0 i1 i2 i3
  obtain ⟨x0, e0, rfl, w0⟩ := DataW.trod_int Tryd.underlying39 i0
  obtain ⟨x1, e1, rfl, w1⟩ := DataW.trod_int Tryd.underlying39 i1
  obtain ⟨x2, e2, rfl, w2⟩ := DataW.trod_int Tryd.underlying39 i2
  obtain ⟨x3, e3, rfl, w3⟩ := DataW.trod_int Tryd.underlying39 i3
  simp at hx e0 e1 e2 e3
  obtain ⟨⟨rfl, rfl, rfl, rfl⟩, _⟩ := hx
  subst e0 e1 e2 e3
  exact ⟨c 0, c 1, c 2, c 3⟩
theorem num4_of {W : World} {g n : Nat} {a0 a1 a2 a3 : Int} (h : W.cell? ⟨g, 0, none⟩ = some (.int .u64 a0) ∧ W.cell? ⟨g, 1, none⟩ = some (.int .u64 a1) ∧ W.cell? ⟨g, 2, none⟩ = some (.int .u64 a2) ∧ W.cell? ⟨g, 3, none⟩ = some (.int .u64 a3))
  (e0 : a0 = (limb n 0 : Nat)) (e1 : a1 = (limb n 1 : Nat)) (e2 : a2 = (limb n 2 : Nat)) (e3 : a3 = (limb n 3 : Nat)) : Num4 W g n := by
 subst e0 e1 e2 e3
 exact limbs4 _ h.1 h.2.1 h.2.2.1 h.2.2.2
theorem size_of_cell {W : World} {g : Nat} {v : Value} (h : W.cell? ⟨g, 0, none⟩ = some v) : g < W.heap.size := by
 rcases Nat.lt_or_ge g W.heap.size with l | l
 ·exact l
 ·have : W.cell? ⟨g, 0, none⟩ = none := by simp [World.cell?, Array.getElem?_eq_none l]
  rw [this] at h
  cases h
theorem glob_FeldSums {W : World} (h : laidMetH Tryd.prog Rows.feldSumsRow.laid W) : GlobP W ∧ GTH W ∧ GG W ∧ GlobQ W := by
 rw [MakeChecks.laidMetH_plain _ _ _ (by kernel_rfl)] at h
 obtain ⟨ps, ⟨g0, t0, cs0, f0, p0, q0, hg0, ht0, hv0, hd0, ⟨g1, t1, cs1, f1, p1, q1, hg1, ht1, hv1, hd1, ⟨g2, t2, cs2, f2, p2, q2, hg2, ht2, hv2, hd2, ⟨g3, t3, cs3, f3, p3, q3, hg3, ht3, hv3, hd3, ⟨g4, t4, cs4, f4, p4, q4, hg4, ht4, hv4, hd4, _, _⟩, _⟩, _⟩, _⟩, _⟩, _, _⟩ := h
 have e0 : some g0 = some 4 := hg0.symm.trans (by kernel_rfl)
 cases e0
 have u0 : some t0 = some 41 := ht0.symm.trans (by kernel_rfl)
 cases u0
 have c0 := laid_num hg0 hv0 hd0
 have n0 : Num4 W 4 PP := num4_of c0 (by kernel_rfl) (by kernel_rfl) (by kernel_rfl) (by kernel_rfl)
 have s0 := size_of_cell c0.1
 have e1 : some g1 = some 2 := hg1.symm.trans (by kernel_rfl)
 cases e1
 have u1 : some t1 = some 41 := ht1.symm.trans (by kernel_rfl)
 cases u1
 have c1 := laid_num hg1 hv1 hd1
 have n1 : Num4 W 2 QQ := num4_of c1 (by kernel_rfl) (by kernel_rfl) (by kernel_rfl) (by kernel_rfl)
 have s1 := size_of_cell c1.1
 have e2 : some g2 = some 0 := hg2.symm.trans (by kernel_rfl)
 cases e2
 have u2 : some t2 = some 41 := ht2.symm.trans (by kernel_rfl)
 cases u2
 have c2 := laid_num hg2 hv2 hd2
 have n2 : Num4 W 0 GX := num4_of c2 (by kernel_rfl) (by kernel_rfl) (by kernel_rfl) (by kernel_rfl)
 have s2 := size_of_cell c2.1
 have e3 : some g3 = some 1 := hg3.symm.trans (by kernel_rfl)
 cases e3
 have u3 : some t3 = some 41 := ht3.symm.trans (by kernel_rfl)
 cases u3
 have c3 := laid_num hg3 hv3 hd3
 have n3 : Num4 W 1 GY := num4_of c3 (by kernel_rfl) (by kernel_rfl) (by kernel_rfl) (by kernel_rfl)
 have s3 := size_of_cell c3.1
 have e4 : some g4 = some 3 := hg4.symm.trans (by kernel_rfl)
 cases e4
 have u4 : some t4 = some 41 := ht4.symm.trans (by kernel_rfl)
 cases u4
 have c4 := laid_num hg4 hv4 hd4
 have n4 : Num4 W 3 TH := num4_of c4 (by kernel_rfl) (by kernel_rfl) (by kernel_rfl) (by kernel_rfl)
 have s4 := size_of_cell c4.1
 exact ⟨⟨n0, s0⟩, ⟨n4, s4⟩, ⟨n2, n3, s2, s3⟩, ⟨n1, s1⟩⟩
end Go.Proofs.YtfkpbcionlidaaaDoor

namespace Go.Proofs.YtfkpbcionlidaaaDoor
open Go Go.ChangeShapes Go.WideShapes Go.ChangeAt Go.RowKit

theorem feldSums_door (os : Os) (args : Array Value) : laidMetH Tryd.prog Rows.feldSumsRow.laid ((World.doorLaid Tryd.prog 400 os).forCall (fun _ _ => 0) ⟨#[], args, []⟩).memory :=
 laidMetH_of_parts3 (fuel := 8) (laidMet_of_run' 8 (by kernel_rfl) (by kernel_rfl)) (by kernel_rfl) (by kernel_rfl)
set_option maxRecDepth 100000 in
theorem feldSums_lifted (os : Os) (started : os.Started) (H : Type) (enc : TypeId × Value → H) :
  ReturnsInHanded {} Tryd.checked os 3 .any (fun w args => (Rows.feldSumsSpec.pre enc Tryd.prog Tryd.f3 [] false w args ∧ laidMetH Tryd.prog Rows.feldSumsRow.laid w) ∧ sizedMet enc Tryd.prog Tryd.f3 (OpenSpec.ofChange Rows.feldSumsSpec) false w args)
   (Rows.feldSumsSpec.post enc Tryd.prog Tryd.f3 false true false false) := by
 refine returnsInHanded_of_change_and (C := Tryd.checked) (X := fun w _ => laidMetH Tryd.prog Rows.feldSumsRow.laid w) (fun _ _ _ hh h => h.of_heap hh) Tryd.own started (by kernel_rfl) Tryd.func3
  (ChangeSpec.witness_shaped (enc := enc) (C := Tryd.checked) (os := os) (X := fun w _ => laidMetH Tryd.prog Rows.feldSumsRow.laid w) false (World.doorLaid Tryd.prog 400 os) #[.slice none 0 0] 8 rfl (World.shaped_of_RefB (by kernel_rfl) (by kernel_rfl)) (by kernel_rfl) (by kernel_rfl) (by kernel_rfl) (feldSums_door os _)) ?_
 intro W base args ds gs before hval0 hW _ hsz0 hL _
 have hsz : (DataW.weightsEach Tryd.prog (Tryd.f3.params.toList ++ Rows.feldSumsSpec.plain.varTypes Tryd.prog) (ds ++ gs)).all (· ≤ reachBytes) = true := hsz0
 clear hsz0
 have hval : ∀ (j : Nat) t v, Tryd.f3.params[j]? = some t → args[j]? = some v → Value.okWide Tryd.prog W .any base t v := hval0
 have hW' := hW
 obtain ⟨p, q, hA0, hV, rfl, hfz, hnd⟩ := hW
 have hA : DataW.TrodAll enc Tryd.prog W 0 (fun _ => true) true Tryd.f3.params.toList args.toList ds p := hA0
 rw [Tryd.params3] at hA hval hsz
 obtain ⟨v0, d0, rfl, rfl, h0⟩ := trodAll_one hA
 obtain ⟨rfl, rfl⟩ := trodVars_none hV
 have k0 := h0
 simp only [List.append_nil] at hW'
 have hlt : ∀ x ∈ p, x.block < W.heap.size := fun x hx => by simpa using hW'.lt x hx
 have r0 : ∀ (W' : World), Below W.heap.size W W' → DataW.Trod enc Tryd.prog W' 0 (fun b => decide (b < W.heap.size)) true 22 v0 d0 p :=
  fun W' hn => Below.trod (by kernel_rfl) (by kernel_rfl) (of_decide_eq_true (by kernel_rfl)) k0 hn (fun x hx => hlt x (hx))
 clear hlt
 obtain ⟨a0, c0, l0, rfl, q0, S0, z0⟩ := open_ptll (hval 0 22 v0 rfl rfl) h0
 have hG := glob_FeldSums hL
 clear hA0 hval0 hL
 refine (feldSums_any l0 l0.length a0 c0 rfl q0 z0 W ⟨hG.1, hG.2.2.2, hG.2.1, hG.2.2.1⟩ S0).mono fun e W' ⟨he, hg⟩ => ?_
 subst he
 exact ⟨_, rfl, _, _, _, [], _, [], hW', trodAll_mk1 (shut_bool Tryd.underlying4 _), trodAll_mk1 (r0 _ hg), by first | rfl | simp, hg.frame _, fun h => by cases h⟩

theorem feldSums_row : Rows.FeldSumsSaid :=
 OpenClaim.holds_of_wide 3 Tryd.f3 rfl rfl rfl rfl rfl rfl rfl ⟨rfl, rfl, rfl, rfl, rfl⟩ rfl rfl rfl rfl rfl (by kernel_rfl) Tryd.func3 (by kernel_rfl)
  (of_decide_eq_true (by kernel_rfl)) (by unfold Func.isWrapper; first | (rw [if_pos (by decide +kernel)]; kernel_rfl) | (rw [if_neg (by decide +kernel)]; exact ⟨rfl, rfl⟩))
  (fun os started H enc _ => feldSums_lifted os started H enc)
theorem feldSums_holds : Rows.FeldSumsCardSaid :=
 Claim7.holds_tied_plain_at .later [] [.data, .data, .data, .data, .data] true (true, "2d5c6380e20e965e248e8a53d704430359881f5af61d6d91e174bf40a21a6f59") false
  feldSums_row (fun _ h => by cases h) (by kernel_rfl) (fun _ h => by cases h) feldSums_row_tie rfl ⟨rfl, rfl⟩ (by kernel_rfl) rfl
  (fun f fn hf hfn => by
   have e : some f = some 3 := hf.symm.trans (by kernel_rfl)
   cases e
   obtain rfl : fn = Tryd.f3 := (Option.some.inj (Tryd.func3.symm.trans hfn)).symm
   exact ⟨by kernel_rfl, fun j t ht => by
    rw [Tryd.params3] at ht
    have hm : t ∈ [22] := by simpa using Array.mem_of_getElem? ht
    have hall : ([22].all fun u => !Tryd.prog.wantsStandIn u) = true := by kernel_rfl
    exact (show Tryd.prog.wantsStandIn t = false by simpa using List.all_eq_true.1 hall t hm)⟩)
  (by kernel_rfl)
end Go.Proofs.YtfkpbcionlidaaaDoor
