/- Maps by pairs; emits in memory. -/
import Derived.Test.YtbpgiijdcagckaaDoorTwK
import Derived.Test.YtbpgiijdcagckaaDoorTwA
namespace Go.Proofs.YtbpgiijdcagckaaDoor
open Go Go.RowKit Go.Lib Go.WideMaps Go.Maps
def emV (t : Td) : List Value := [.int .i64 t.n, .int .u64 (limb t.dx 0 : Nat), .int .u64 (limb t.dx 1 : Nat), .int .u64 (limb t.dx 2 : Nat), .int .u64 (limb t.dx 3 : Nat), .int .u64 (limb t.dy 0 : Nat), .int .u64 (limb t.dy 1 : Nat), .int .u64 (limb t.dy 2 : Nat), .int .u64 (limb t.dy 3 : Nat), .bool t.di, .int .u64 (limb t.ex 0 : Nat), .int .u64 (limb t.ex 1 : Nat), .int .u64 (limb t.ex 2 : Nat), .int .u64 (limb t.ex 3 : Nat), .int .u64 (limb t.ey 0 : Nat), .int .u64 (limb t.ey 1 : Nat), .int .u64 (limb t.ey 2 : Nat), .int .u64 (limb t.ey 3 : Nat), .bool t.ei, .int .u64 (limb t.c 0 : Nat), .int .u64 (limb t.c 1 : Nat), .int .u64 (limb t.c 2 : Nat), .int .u64 (limb t.c 3 : Nat)]
/-- Emits in memory. -/
def EmsAt (w : World) (a : Option Addr) (n : Nat) (ts : Nat → Td) : Prop := ∀ j, j < n → ∃ b o, a = some ⟨b, o, none⟩ ∧ w.rangeAt b (o + j * 23) (emV (ts j)) ∧ b < w.heap.size
theorem rangeAt_below {w w' : World} {b o : Nat} {cs : List Value} (h : w.rangeAt b o cs) (hl : b < w.heap.size) (hb : Below w.heap.size w w') : w'.rangeAt b o cs := fun j v hv => (hb.cell (p := ⟨b, o + j, none⟩) hl).trans (h j v hv)
theorem rangeAt_part {w : World} {b o : Nat} {cs : List Value} (h : w.rangeAt b o cs) (k : Nat) (us : List Value) (hs : (cs.drop k).take us.length = us) : w.rangeAt b (o + k) us := fun j v hv => by
  have hj : j < us.length := (List.getElem?_eq_some_iff.1 hv).1
  have e : cs[k + j]? = some v := by
    rw [← hs, List.getElem?_take] at hv
    rw [if_pos hj, List.getElem?_drop] at hv
    exact hv
  have := h (k + j) v e
  rw [show o + (k + j) = o + k + j by omega] at this
  exact this
theorem EmsAt.call {w w' : World} {a : Option Addr} {n : Nat} {ts : Nat → Td} (h : EmsAt w a n ts) (hb : Below w.heap.size w w') : EmsAt w' a n ts := fun j hj => by
  obtain ⟨b, o, e, hr, hl⟩ := h j hj
  exact ⟨b, o, e, rangeAt_below hr hl hb, Nat.lt_of_lt_of_le hl hb.size⟩
def anyW : Value → Option (DataW Value × List MemPlace) := fun v => some (.held v, [])
theorem anyW_inv {v : Value} {x : Value} {ps : List MemPlace} (h : anyW v = some (.held x, ps)) : v = x := by
  simp only [anyW, Option.some.injEq, Prod.mk.injEq] at h
  injection h.1
/-- What a key is known for. -/
def KeyL (z : Value) (D : DataW Value) (l : Lit) : Option Value → Prop
  | some v => has D l = true ∧ D.atKey l (.held z) = .held v
  | none => has D l = false ∧ D.atKey l (.held z) = .held z
theorem KeyL.other {z : Value} {D D' : DataW Value} {l : Lit} {o : Option Value} (h : KeyL z D l o) (h1 : has D' l = has D l) (h2 : D'.atKey l (.held z) = D.atKey l (.held z)) : KeyL z D' l o := by
  cases o with
  | none => exact ⟨h1.trans h.1, h2.trans h.2⟩
  | some k => exact ⟨h1.trans h.1, h2.trans h.2⟩
theorem KeyL.has {z : Value} {D : DataW Value} {l : Lit} {o : Option Value} (h : KeyL z D l o) : Maps.has D l = o.isSome := by
  cases o with
  | none => exact h.1
  | some k => exact h.1
theorem KeyL.at {z : Value} {D : DataW Value} {l : Lit} {o : Option Value} (h : KeyL z D l o) : D.atKey l (.held z) = .held (o.getD z) := by
  cases o with
  | none => exact h.2
  | some k => exact h.2
/-- Block B is a map, of N keys, from pairs to values. -/
def MapE (z : Value) (w : World) (B N : Nat) (n : Nat) (ts : Nat → Td) (p : Nat → Option Value) : Prop := ∃ D : DataW Value, w.ownsMap Tryd.prog 31 anyW B N D ∧ Maps.size D = N ∧ ∀ j, j < n → KeyL z D (klP (ts j)) (p j)
theorem MapE.made (z : Value) (w : World) (n : Nat) (ts : Nat → Td) : MapE z (w.alloc (.map #[] 0)) w.heap.size 0 n ts (fun _ => none) := ⟨.map [], World.ownsMap_made _ _ _ _, rfl, fun _ _ => ⟨rfl, rfl⟩⟩
theorem MapE.block {z : Value} {w w' : World} {B N n : Nat} {ts : Nat → Td} {p : Nat → Option Value} (h : MapE z w B N n ts p) (hb : w'.heap[B]? = w.heap[B]?) : MapE z w' B N n ts p := by
  obtain ⟨D, ⟨es, clock, h1, h2⟩, h3⟩ := h
  exact ⟨D, ⟨es, clock, hb.trans h1, h2⟩, h3⟩
theorem MapE.lt {z : Value} {w : World} {B N n : Nat} {ts : Nat → Td} {p : Nat → Option Value} (h : MapE z w B N n ts p) : B < w.heap.size := by
  obtain ⟨D, h1, _⟩ := h
  exact h1.lt
theorem MapE.call {z : Value} {w w' : World} {B N n : Nat} {ts : Nat → Td} {p : Nat → Option Value} (h : MapE z w B N n ts p) (hb : Below w.heap.size w w') : MapE z w' B N n ts p := h.block (hb.block B h.lt)
theorem MapE.eq {z : Value} {w : World} {B N n : Nat} {ts : Nat → Td} {p q : Nat → Option Value} (h : MapE z w B N n ts p) (he : ∀ j, j < n → q j = p j) : MapE z w B N n ts q := by
  obtain ⟨D, h1, h2, h3⟩ := h
  exact ⟨D, h1, h2, fun j hj => by rw [he j hj]; exact h3 j hj⟩
set_option maxRecDepth 100000 in
theorem MapE.look {z : Value} {T e : TypeId} {w : World} {B N n j : Nat} {ts : Nat → Td} {p : Nat → Option Value} (h : MapE z w B N n ts p) (hT : Tryd.prog.underlying T = some (.map 31 e)) (hz : (zeroValue e).run Tryd.prog w = .ok z w) (hj : j < n) (hW : (ts j).W) :
    (Instr.lookup T (.map (some B)) (.agg (prV (ts j)).toArray) true).run Tryd.prog w = .ok (.tuple #[(p j).getD z, .bool (p j).isSome]) w := by
  obtain ⟨D, h1, _, h3⟩ := h
  obtain ⟨v, ps, hrun, hv⟩ := h1.look_ok lawPr hT hz (zd := .held z) (zp := []) rfl (key_is (ts j) hW)
  rw [(h3 j hj).at] at hv
  rw [hrun, anyW_inv hv, (h3 j hj).has]
set_option maxRecDepth 100000 in
theorem MapE.len {z : Value} {T e : TypeId} {w : World} {B N n : Nat} {ts : Nat → Td} {p : Nat → Option Value} (h : MapE z w B N n ts p) (hT : Tryd.prog.underlying T = some (.map 31 e)) (ty : TypeId) : (Builtin.len_ #[T] ty #[.map (some B)]).run Tryd.prog w = .ok (.int .i64 (N : Nat)) w := by
  obtain ⟨D, h1, h2, h3⟩ := h
  have := h1.len hT ty
  rw [h2] at this
  exact this
set_option maxRecDepth 100000 in
theorem MapE.update {z v : Value} {T e : TypeId} {w : World} {B N n k : Nat} {ts : Nat → Td} {p : Nat → Option Value} (h : MapE z w B N n ts p) (hT : Tryd.prog.underlying T = some (.map 31 e)) (hN : N < 100000) (hk : k < n) (hW : ∀ j, j < n → (ts j).W) :
    ∃ w', (Instr.mapUpdate T (.map (some B)) (.agg (prV (ts k)).toArray) v).run Tryd.prog w = .ok () w' ∧ MapE z w' B (if (p k).isSome then N else N + 1) n ts (fun j => if eqPr (ts k) (ts j) = true then some v else p j) ∧ w.mapTurned w' B := by
  obtain ⟨D, h1, h2, h3⟩ := h
  obtain ⟨w', hrun, ho, hg⟩ := h1.store lawPr hT (by unfold maxLen; omega) (key_is (ts k) (hW k hk)) (show anyW v = some (.held v, []) from rfl)
  have kk := lawPr.key (key_is (ts k) (hW k hk))
  have hs := size_put (k := klP (ts k)) (h1.tidy lawPr) (.held v)
  rw [(h3 k hk).has, h2] at hs
  refine ⟨w', hrun, ⟨_, ?_, hs, fun j hj => ?_⟩, hg⟩
  · obtain ⟨es, clock, hb, F, hle, hD⟩ := ho
    refine ⟨es, clock, hb, F, ?_, hD⟩
    rw [← hs, hD]
    simp [Maps.size, length_sorted]
  · by_cases q : eqPr (ts k) (ts j) = true
    · have e := (kl_iff (ts k) (ts j) (hW k hk) (hW j hj)).2 q
      show KeyL z _ (klP (ts j)) (if eqPr (ts k) (ts j) = true then some v else p j)
      rw [if_pos q, ← e]
      exact ⟨has_put_same (k := klP (ts k)) h1.isMap kk _, atKey_put_same (k := klP (ts k)) h1.isMap kk _ _⟩
    · show KeyL z _ (klP (ts j)) (if eqPr (ts k) (ts j) = true then some v else p j)
      rw [if_neg q]
      have hne : klP (ts j) ≠ klP (ts k) := fun c => q ((kl_iff (ts k) (ts j) (hW k hk) (hW j hj)).1 c.symm)
      exact (h3 j hj).other (has_put_other hne _) (atKey_put_other hne _ _)
theorem turned_below {w w' w0 : World} {B0 B : Nat} (h : Below B0 w0 w) (hm : w.mapTurned w' B) (hB : B0 ≤ B) : Below B0 w0 w' := by
  obtain ⟨es, clock, es', clock', hb, rfl⟩ := hm
  exact ⟨h.os, h.tape, h.output, by simpa [ChangeMaps.setBlock] using h.size, fun b hb' => (ChangeMaps.heap_setBlock_other hb _ (fun c => by omega)).trans (h.block b hb')⟩
/-- Pairs alike; challenges the same. -/
def Ep (ts : Nat → Td) (i j : Nat) : Bool := eqPr (ts i) (ts j)
def Cp (ts : Nat → Td) (i j : Nat) : Bool := eqn (ts i).c (ts j).c
theorem Ep_eqv (ts : Nat → Td) : EqR (Ep ts) :=
  ⟨fun _ => (eqPr_iff _ _).2 rfl, fun _ _ h => (eqPr_iff _ _).2 ((eqPr_iff _ _).1 h).symm, fun _ _ _ h1 h2 => (eqPr_iff _ _).2 (((eqPr_iff _ _).1 h1).trans ((eqPr_iff _ _).1 h2))⟩
theorem eqn_iffV (a b : Nat) : eqn a b = true ↔ nuV a = nuV b := by simp [eqn, eq4, nuV]
theorem Cp_eqv (ts : Nat → Td) : EqR (Cp ts) :=
  ⟨fun _ => (eqn_iffV _ _).2 rfl, fun _ _ h => (eqn_iffV _ _).2 ((eqn_iffV _ _).1 h).symm, fun _ _ _ h1 h2 => (eqn_iffV _ _).2 (((eqn_iffV _ _).1 h1).trans ((eqn_iffV _ _).1 h2))⟩
end Go.Proofs.YtbpgiijdcagckaaDoor
