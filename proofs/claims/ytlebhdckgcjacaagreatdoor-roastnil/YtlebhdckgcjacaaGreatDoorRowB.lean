/- Bytes that a call owns: a slice of bytes whose array is the call's own, cut at its end perhaps, and append onto it. -/
import Derived.Test.YtlebhdckgcjacaaGreatDoorRows
import Derived.WalkKit
import Derived.WalkSpells
import Derived.WalkLawsBesides
import Derived.StillTactics
import Derived.Laws.Externs
import Derived.RowKit3
import Derived.Below
import Derived.BigQuiet
import Derived.ArgAppend
import Derived.Lib.AppendStr
import Derived.Laws.BytesArg
namespace Go.Proofs.YtlebhdckgcjacaaGreatDoor
open Go Go.RowKit Go.Lib

theorem below_call0 {a W w1 : World} (h : Below a.heap.size a W) (h1 : Below W.heap.size W w1) : Below a.heap.size a w1 := h.trans (h1.mono h.size)
theorem below_alloc0 {a W : World} (h : Below a.heap.size a W) (o : Obj) : Below a.heap.size a (W.alloc o) := h.alloc h.size o
theorem below_drewN {B : Nat} {a w : World} (h : Below B a w) (n : Nat) : Below B a (w.drewN n) := ⟨h.os, h.tape, h.output, h.size, h.block⟩
theorem bcell {W w1 : World} (hb : Below W.heap.size W w1) : (∀ b o, b < W.heap.size → w1.cell? ⟨b, o, none⟩ = W.cell? ⟨b, o, none⟩) ∧ (∀ b o, b < W.heap.size → w1.frozen? ⟨b, o, none⟩ = W.frozen? ⟨b, o, none⟩) :=
  ⟨fun b o h => hb.cell (p := ⟨b, o, none⟩) h, fun b o h => hb.frozen (p := ⟨b, o, none⟩) h⟩

theorem size_setCellsB (g : Nat) : ∀ (vs : List Value) (o : Nat) (w : World), (w.setCells g o vs).heap.size = w.heap.size
  | [], _, _ => rfl
  | v :: r, o, w => by rw [World.setCells, size_setCellsB g r (o + 1), World.size_setCell]
theorem heap_setCells (g k : Nat) (hk : k ≠ g) : ∀ (vs : List Value) (o : Nat) (w : World), (w.setCells g o vs).heap[k]? = w.heap[k]?
  | [], _, _ => rfl
  | v :: r, o, w => by rw [World.setCells, heap_setCells g k hk r (o + 1), Below.heap_setCell _ _ _ _ hk]
theorem os_setCells (g : Nat) : ∀ (vs : List Value) (o : Nat) (w : World), (w.setCells g o vs).os = w.os ∧ (w.setCells g o vs).tape = w.tape ∧ (w.setCells g o vs).output = w.output
  | [], _, _ => ⟨rfl, rfl, rfl⟩
  | v :: r, o, w => os_setCells g r (o + 1) (w.setCell ⟨g, o, none⟩ v)

/-- The blocks from B on. -/
def From (B : Nat) : Nat → Prop := fun k => B ≤ k
theorem not_from {B k : Nat} (h : k < B) : ¬ From B k := Nat.not_le_of_lt h
/-- All is as it was but for blocks of P. -/
structure Off (P : Nat → Prop) (w w' : World) : Prop where
  os : w'.os = w.os
  tape : w'.tape = w.tape
  output : w'.output = w.output
  size : w.heap.size ≤ w'.heap.size
  block : ∀ k, ¬ P k → w'.heap[k]? = w.heap[k]?
theorem Off.refl (P : Nat → Prop) (w : World) : Off P w w := ⟨rfl, rfl, rfl, Nat.le_refl _, fun _ _ => rfl⟩
theorem Off.trans {P : Nat → Prop} {a b c : World} (h : Off P a b) (k : Off P b c) : Off P a c :=
  ⟨k.os.trans h.os, k.tape.trans h.tape, k.output.trans h.output, Nat.le_trans h.size k.size, fun i hi => (k.block i hi).trans (h.block i hi)⟩
theorem Off.of_below {P : Nat → Prop} {B : Nat} {w w' : World} (h : Below B w w') (hP : ∀ k, B ≤ k → P k) : Off P w w' :=
  ⟨h.os, h.tape, h.output, h.size, fun k hk => h.block k (Nat.lt_of_not_le fun c => hk (hP k c))⟩
theorem Off.cell {P : Nat → Prop} {w w' : World} (h : Off P w w') {p : Addr} (hp : ¬ P p.block) : w'.cell? p = w.cell? p := World.cell?_of_block (w := w) (h.block p.block hp)
theorem Off.frozen {P : Nat → Prop} {w w' : World} (h : Off P w w') {p : Addr} (hp : ¬ P p.block) : w'.frozen? p = w.frozen? p := World.frozen?_of_block (w := w) (h.block p.block hp)
/-- All is as it was but for block g, and blocks of P. -/
structure But (g : Nat) (P : Nat → Prop) (w w' : World) : Prop where
  os : w'.os = w.os
  tape : w'.tape = w.tape
  output : w'.output = w.output
  size : w.heap.size ≤ w'.heap.size
  block : ∀ k, ¬ P k → k ≠ g → w'.heap[k]? = w.heap[k]?
theorem But.refl (g : Nat) (P : Nat → Prop) (w : World) : But g P w w := ⟨rfl, rfl, rfl, Nat.le_refl _, fun _ _ _ => rfl⟩
theorem But.trans {g : Nat} {P : Nat → Prop} {a b c : World} (h : But g P a b) (k : But g P b c) : But g P a c :=
  ⟨k.os.trans h.os, k.tape.trans h.tape, k.output.trans h.output, Nat.le_trans h.size k.size, fun i hi hg => (k.block i hi hg).trans (h.block i hi hg)⟩
theorem But.mono {g : Nat} {P Q : Nat → Prop} {a b : World} (h : But g P a b) (hq : ∀ k, P k → Q k) : But g Q a b :=
  ⟨h.os, h.tape, h.output, h.size, fun i hi hg => h.block i (fun c => hi (hq i c)) hg⟩
theorem But.below {g : Nat} {P : Nat → Prop} {w w' : World} (h : But g P w w') (hg : ∀ k, k < g → ¬ P k) : Below g w w' := ⟨h.os, h.tape, h.output, h.size, fun k hk => h.block k (hg k hk) (by omega)⟩
theorem But.of_off {g : Nat} {P : Nat → Prop} {w w' : World} (h : Off P w w') : But g P w w' := ⟨h.os, h.tape, h.output, h.size, fun k hk _ => h.block k hk⟩
theorem But.of_below {g B : Nat} {w w' : World} (h : Below B w w') : But g (From B) w w' := But.of_off (Off.of_below h fun _ h => h)
theorem But.drew {g : Nat} {P : Nat → Prop} {a w : World} (h : But g P a w) : But g P a w.drew := ⟨h.os, h.tape, h.output, h.size, h.block⟩
theorem But.drewN {g n : Nat} {P : Nat → Prop} {a w : World} (h : But g P a w) : But g P a (w.drewN n) := ⟨h.os, h.tape, h.output, h.size, h.block⟩
theorem But.set {g o : Nat} {P : Nat → Prop} {a w : World} (h : But g P a w) (v : Value) : But g P a (w.setCell ⟨g, o, none⟩ v) :=
  ⟨h.os, h.tape, h.output, by rw [World.size_setCell]; exact h.size, fun k hk hg => (Below.heap_setCell w ⟨g, o, none⟩ v k hg).trans (h.block k hk hg)⟩
theorem But.cell {g : Nat} {P : Nat → Prop} {w w' : World} (h : But g P w w') {p : Addr} (hp : ¬ P p.block) (hg : p.block ≠ g) : w'.cell? p = w.cell? p := World.cell?_of_block (w := w) (h.block p.block hp hg)
theorem But.frozen {g : Nat} {P : Nat → Prop} {w w' : World} (h : But g P w w') {p : Addr} (hp : ¬ P p.block) (hg : p.block ≠ g) : w'.frozen? p = w.frozen? p := World.frozen?_of_block (w := w) (h.block p.block hp hg)

/-- A slice of the bytes bs, its array the call's own, a block of P. -/
def RowB (w : World) (P : Nat → Prop) (a : Option Addr) (bs : ByteArray) (cap : Nat) : Prop :=
  (a = none ∧ bs.size = 0 ∧ cap = 0) ∨
  ∃ b, a = some ⟨b, 0, none⟩ ∧ P b ∧ b < w.heap.size ∧ bs.size ≤ cap ∧ cap ≤ maxLen ∧ (∀ j u, (strCells bs)[j]? = some u → w.cell? ⟨b, j, none⟩ = some u) ∧
    (∀ j, j < cap → (w.cell? ⟨b, j, none⟩).isSome = true) ∧ (∀ j, w.frozen? ⟨b, j, none⟩ = false)
theorem RowB.nil (w : World) (P : Nat → Prop) : RowB w P none ByteArray.empty 0 := .inl ⟨rfl, rfl, rfl⟩
theorem RowB.len {w : World} {P : Nat → Prop} {cap : Nat} {a : Option Addr} {bs : ByteArray} (h : RowB w P a bs cap) : bs.size ≤ cap := by
  rcases h with ⟨_, h1, h2⟩ | ⟨b, _, _, _, h, _⟩
  · omega
  · exact h
/-- What is kept of the blocks of P keeps the row. -/
theorem RowB.kept {w w' : World} {P : Nat → Prop} {cap : Nat} {a : Option Addr} {bs : ByteArray} (h : RowB w P a bs cap) (hz : w.heap.size ≤ w'.heap.size) (hk : ∀ k, P k → k < w.heap.size → w'.heap[k]? = w.heap[k]?) : RowB w' P a bs cap := by
  rcases h with h | ⟨b, h1, h2, h3, h4, h5, h6, h7, h8⟩
  · exact .inl h
  · have e := hk b h2 h3
    refine .inr ⟨b, h1, h2, Nat.lt_of_lt_of_le h3 hz, h4, h5, fun j u hj => ?_, fun j hj => ?_, fun j => ?_⟩
    · exact (World.cell?_of_block (w := w) (a := ⟨b, j, none⟩) e).trans (h6 j u hj)
    · rw [World.cell?_of_block (w := w) (a := ⟨b, j, none⟩) e]; exact h7 j hj
    · exact (World.frozen?_of_block (w := w) (a := ⟨b, j, none⟩) e).trans (h8 j)
theorem RowB.drew {w : World} {P : Nat → Prop} {cap : Nat} {a : Option Addr} {bs : ByteArray} (h : RowB w P a bs cap) : RowB w.drew P a bs cap := h
theorem RowB.set {w : World} {P : Nat → Prop} {cap g o : Nat} {a : Option Addr} {bs : ByteArray} (h : RowB w P a bs cap) (hg : ¬ P g) (v : Value) : RowB (w.setCell ⟨g, o, none⟩ v) P a bs cap :=
  h.kept (by rw [World.size_setCell]; exact Nat.le_refl _) (fun k hk _ => Below.heap_setCell w ⟨g, o, none⟩ v k (fun (c : k = g) => hg (c ▸ hk)))
theorem RowB.call {w w' : World} {P : Nat → Prop} {cap : Nat} {a : Option Addr} {bs : ByteArray} (h : RowB w P a bs cap) (hb : Below w.heap.size w w') : RowB w' P a bs cap :=
  h.kept hb.size (fun k _ hk => hb.block k hk)

theorem RowB.mono {w : World} {P Q : Nat → Prop} {cap : Nat} {a : Option Addr} {bs : ByteArray} (h : RowB w P a bs cap) (hq : ∀ k, k < w.heap.size → P k → Q k) : RowB w Q a bs cap := by
  rcases h with h | ⟨b, h1, h2, h3, h4⟩
  · exact .inl h
  · exact .inr ⟨b, h1, hq b h3 h2, h3, h4⟩
theorem strCells_append (a b : ByteArray) : strCells (a ++ b) = strCells a ++ strCells b := by
  simp [strCells, ByteArray.data_append]
theorem strCells_extract (a : ByteArray) (n : Nat) : strCells (a.extract 0 n) = (strCells a).take n := by
  simp [strCells, ByteArray.data_extract, Array.toList_extract, List.extract, List.map_take]
theorem RowB.of_owns {w : World} {B n : Nat} {P : Nat → Prop} {e : TypeId} {v : Value} {bs : ByteArray} (h : w.ownsRow B e 1 v n (strCells bs)) (hP : ∀ k, B ≤ k → P k) : ∃ a cap, v = .slice a n cap ∧ RowB w P a bs cap := by
  obtain ⟨h0, h⟩ := h
  have hl : n = bs.size := by rw [strCells_length] at h0; omega
  subst hl
  rcases h with ⟨rfl, hn⟩ | ⟨g, cap, cur, rfl, h1, h2, h3, h4, h5, h6⟩
  · exact ⟨none, 0, by rw [hn], .inl ⟨rfl, hn, rfl⟩⟩
  · refine ⟨_, cap, rfl, .inr ⟨g, rfl, hP g h1, (Array.getElem?_eq_some_iff.1 h2).1, h3, h4, fun j u hj => ?_, fun j hj => ?_, fun j => ?_⟩⟩
    · rw [cell_of_row w g j cur e (0, 0) h2]
      rw [← h6, List.getElem?_take] at hj
      split at hj
      · simpa using hj
      · cases hj
    · rw [cell_of_row w g j cur e (0, 0) h2]
      have hj' : j < cur.size := by omega
      simp [Array.getElem?_eq_getElem hj', Option.isSome]
    · simp [World.frozen?, h2]

section
variable {P : Program} (w : World)
theorem run_append_RowB (F : Nat → Prop) (t u ty e : TypeId) (i : TypeInfo) (ht : P.underlying t = some (.slice e)) (hu : P.underlying u = some .string) (hi : P.info? e = some i) (hz : i.zero = some (.int .u8 0))
    (hsize : i.size = 1) (hby : i.bytes = 1) (a : Option Addr) (cap : Nat) (bs s : ByteArray) (h : RowB w F a bs cap) (hn : bs.size + s.size ≤ 140737488355328) (hB : ∀ k, w.heap.size ≤ k → F k) :
    ∃ a' cap' w', (Builtin.append_ #[t, u] ty #[.slice a bs.size cap, .string s]).run P w = .ok (.slice a' (bs.size + s.size) cap') w' ∧ RowB w' F a' (bs ++ s) cap' ∧ Off F w w' := by
  have h63 : bs.size + s.size ≤ maxLen := by unfold maxLen; omega
  rcases h with ⟨rfl, h1, rfl⟩ | ⟨b, rfl, h2, h3, h4, h5, h6, h7, h8⟩
  · rw [h1]
    have hx : strCells bs = [] := List.eq_nil_of_length_eq_zero (by rw [strCells_length]; exact h1)
    obtain ⟨v', w', hr, ho, hg, _⟩ := run_append_own_string (P := P) w w.heap.size t u ty e i ht hu hi hz hsize hby (.slice none 0 0) 0 [] (World.ownsRow_nil w w.heap.size e 1) s (by omega) (by omega) (Nat.le_refl _)
    have ho' : w'.ownsRow w.heap.size e 1 v' (0 + s.size) (strCells (bs ++ s)) := by rw [strCells_append, hx]; exact ho
    obtain ⟨a', cap', rfl, hR⟩ := RowB.of_owns ho' hB
    exact ⟨a', cap', w', hr, hR, Off.of_below ((Below.refl w.heap.size w).grown hg (Nat.le_refl _) (fun k hk => by simp [Value.ownBlock] at hk)) hB⟩
  · by_cases hroom : bs.size + s.size ≤ cap
    · have hf := run_firstCells_string (P := P) w 1 s
      have hst := run_storeCells_cells (P := P) b bs.size (strCells s) 0 w (fun j hj => by rw [strCells_length] at hj; exact h7 _ (by omega)) (fun j _ => h8 _) (strCells_oneCell s)
      simp only [Nat.add_zero] at hst
      refine ⟨some ⟨b, 0, none⟩, cap, w.setCells b bs.size (strCells s), ?_, .inr ⟨b, rfl, h2, by rw [size_setCellsB]; exact h3, by rw [ByteArray.size_append]; exact hroom, h5, fun j v hj => ?_, fun j hj => ?_, fun j => by rw [World.frozen?_setCells]; exact h8 j⟩, ?_⟩
      · simp [Builtin.append_, run_underlying ht, run_underlying hu, sizeOf, typeInfo, hi, hsize, Builtin.lenOf, hroom, hf, Addr.add_lit, hst]
      · rw [strCells_append, List.getElem?_append] at hj
        split at hj
        · next c =>
          rw [strCells_length] at c
          rw [World.cell?_setCells_out b _ _ w _ (fun _ _ => .inl c)]
          exact h6 j v hj
        · next c =>
          rw [strCells_length] at c hj
          have hj' : j - bs.size < (strCells s).length := by
            rcases Nat.lt_or_ge (j - bs.size) (strCells s).length with q | q
            · exact q
            · rw [List.getElem?_eq_none q] at hj; cases hj
          have k := World.cell?_setCells_in b (strCells s) bs.size w (fun i hi => by rw [strCells_length] at hi; exact h7 _ (by omega)) (j - bs.size) hj'
          rw [show bs.size + (j - bs.size) = j from by omega] at k
          rw [k, ← List.getElem?_eq_getElem, hj]
      · rcases Nat.lt_or_ge j bs.size with c | c
        · rw [World.cell?_setCells_out b _ _ w _ (fun _ _ => .inl c)]; exact h7 j hj
        · rcases Nat.lt_or_ge j (bs.size + s.size) with c2 | c2
          · have k := World.cell?_setCells_in b (strCells s) bs.size w (fun i hi => by rw [strCells_length] at hi; exact h7 _ (by omega)) (j - bs.size) (by rw [strCells_length]; omega)
            rw [show bs.size + (j - bs.size) = j from by omega] at k
            rw [k]; rfl
          · rw [World.cell?_setCells_out b _ _ w _ (fun _ _ => .inr (by rw [strCells_length]; exact c2))]; exact h7 j hj
      · obtain ⟨e1, e2, e3⟩ := os_setCells b (strCells s) bs.size w
        exact ⟨e1, e2, e3, by rw [size_setCellsB]; exact Nat.le_refl _, fun k hk => heap_setCells b k (fun c => hk (c ▸ h2)) _ _ _⟩
    · have hr := run_append_grow_string (P := P) w t u ty e i (.int .u8 0) ht hu hi hz ⟨b, 0, none⟩ bs.size cap (strCells bs) (by rw [hsize, strCells_length]; omega) (fun j v hj => by rw [Addr.add_lit]; simpa using h6 j v hj) s (by omega) (by omega) (by rw [hby]; exact growslice_fits (by omega) (by omega))
      have hge := grownCap_ge w (bs.size + s.size) cap e
      have hcm : grownCap w (bs.size + s.size) cap e ≤ maxLen := grownCap_le_maxLen w (bs.size + s.size) cap e h63
      have ho : (w.drew.alloc (.cells ((strCells bs).toArray ++ (strCells s).toArray ++ Builtin.zeroCells (Value.int .u8 0).cells (grownCap w (bs.size + s.size) cap e - (bs.size + s.size))) e)).ownsRow w.heap.size e 1
          (.slice (some ⟨w.heap.size, 0, none⟩) (bs.size + s.size) (grownCap w (bs.size + s.size) cap e)) (bs.size + s.size) (strCells (bs ++ s)) := by
        refine ⟨by rw [strCells_length, ByteArray.size_append]; omega, .inr ⟨w.heap.size, _, _, rfl, Nat.le_refl _, heap_alloc_new w.drew _, hge, hcm, ?_, ?_⟩⟩
        · have hz1 : (Value.int IntKind.u8 0).cells.size = 1 := rfl
          simp only [Array.size_append, List.size_toArray, size_zeroCells, hz1, strCells_length]
          omega
        · simp only [Array.toList_append, List.append_assoc]
          rw [strCells_append, ← List.append_assoc, Nat.mul_one]
          exact List.take_left' (by rw [List.length_append, strCells_length, strCells_length])
      obtain ⟨a', cap', hv, hR⟩ := RowB.of_owns ho hB
      cases hv
      exact ⟨_, _, _, hr, hR, Off.of_below (((Below.refl w.heap.size w).drew).alloc (Nat.le_refl _) _) hB⟩

theorem wpList_append_RowB {ops : Array Oper} {rest : List Oper} {o : Oper} {a : Act} {Q : Exit → Act → World → Prop} (hgd : o.guard = none) (sl x : Operand) (t u : TypeId)
    (ho : o.op = .call { callee := .builtin .append, args := #[sl, x], argTypes := #[t, u] })
    (F : Nat → Prop) (e : TypeId) (i : TypeInfo) (ht : P.underlying t = some (.slice e)) (hu : P.underlying u = some .string) (hi : P.info? e = some i) (hz : i.zero = some (.int .u8 0))
    (hsize : i.size = 1) (hby : i.bytes = 1) (ad : Option Addr) (n cap : Nat) (bs s : ByteArray) (hs : a.eval sl = .slice ad n cap) (hnn : n = bs.size) (hx : a.eval x = .string s) (h : RowB w F ad bs cap) (hn : bs.size + s.size ≤ 140737488355328) (hB : ∀ k, w.heap.size ≤ k → F k)
    (hK : ∀ a' m cap' w', m = n + s.size → RowB w' F a' (bs ++ s) cap' → Off F w w' → wpList P ops Q rest (a.put o.dst (.slice a' m cap')) w') : wpList P ops Q (o :: rest) a w := by
  refine wpList_plain hgd fun K hK' => ?_
  subst hnn
  obtain ⟨a', cap', w', hr, h2, h3⟩ := run_append_RowB (P := P) w F t u o.type e i ht hu hi hz hsize hby ad cap bs s h hn hB
  unfold Oper.wp execOp
  simp only [ho, resolve, invoke, builtin, Sem.run_bind, Sem.run_pure, Result.andThen_ok, List.map_toArray, List.map_cons, List.map_nil, hs, hx, hr]
  exact hK' _ _ (hK a' _ cap' w' rfl h2 h3)
/-- The bytes as a string. -/
theorem run_string_RowB (F : Nat → Prop) (src e dst : TypeId) (hs : P.underlying src = some (.slice e)) (he : P.underlying e = some (.int .u8)) (hd : P.underlying dst = some .string) (a : Option Addr) (cap : Nat) (bs : ByteArray) (h : RowB w F a bs cap) :
    (convert src dst (.slice a bs.size cap)).run P w = .ok (.string bs) w := by
  rcases h with ⟨rfl, h1, rfl⟩ | ⟨b, rfl, h2, h3, h4, h5, h6, h7, h8⟩
  · rw [run_convert_bytes_nil w src e hs he _ _ dst hd]
    have : bs = ByteArray.empty := by
      have : bs.data = #[] := Array.eq_empty_of_size_eq_zero h1
      obtain ⟨d⟩ := bs
      obtain rfl : d = #[] := this
      rfl
    rw [this]
  · have hl : bs.data.toList.length = bs.size := by have := strCells_length bs; rw [strCells, List.length_map] at this; exact this
    rw [run_convert_bytes_arg w src e hs he b 0 bs.size cap (bs.data.toList.map fun x => (x.toNat : Int)) (by rw [List.length_map]; exact hl) (fun i hi => ?_) dst hd]
    · congr 2
      have : (strOfNums (bs.data.toList.map fun x => (x.toNat : Int))).data = bs.data := by
        apply Array.ext'
        rw [strOfNums_data]
        simp [List.map_map, Function.comp_def]
      exact congrArg ByteArray.mk this
    · rw [Nat.zero_add]
      refine h6 i _ ?_
      have hi' : i < bs.data.toList.length := by omega
      simp only [strCells, List.getElem?_map, List.getElem?_eq_getElem hi', Option.map, List.getD_eq_getElem?_getD, Option.getD]
end
section
variable {P : Program} (w : World)
/-- append of a slice that is there. -/
theorem run_append_RowB_slice (F : Nat → Prop) (t ty e : TypeId) (i : TypeInfo) (ht : P.underlying t = some (.slice e)) (hi : P.info? e = some i) (hz : i.zero = some (.int .u8 0))
    (hsize : i.size = 1) (hby : i.bytes = 1) (a : Option Addr) (cap : Nat) (bs s : ByteArray) (h : RowB w F a bs cap) (hn : bs.size + s.size ≤ 140737488355328) (hB : ∀ k, w.heap.size ≤ k → F k)
    (ad : Addr) (c : Nat) (hc : ∀ j u, (strCells s)[j]? = some u → w.cell? (ad.add j) = some u) :
    ∃ a' cap' w', (Builtin.append_ #[t, t] ty #[.slice a bs.size cap, .slice (some ad) s.size c]).run P w = .ok (.slice a' (bs.size + s.size) cap') w' ∧ RowB w' F a' (bs ++ s) cap' ∧ Off F w w' := by
  have h63 : bs.size + s.size ≤ maxLen := by unfold maxLen; omega
  have hl : (strCells s).length = s.size * 1 := by rw [strCells_length]; omega
  rcases h with ⟨rfl, h1, rfl⟩ | ⟨b, rfl, h2, h3, h4, h5, h6, h7, h8⟩
  · rw [h1]
    have hx : strCells bs = [] := List.eq_nil_of_length_eq_zero (by rw [strCells_length]; exact h1)
    obtain ⟨v', w', hr, ho, hg, _⟩ := run_append_own (P := P) w w.heap.size t ty e i (.int .u8 0) 1 1 ht hi hz hsize hby rfl (by decide) (.slice none 0 0) 0 [] (World.ownsRow_nil w w.heap.size e 1) ad s.size c (strCells s) hl hc (strCells_oneCell s) (by omega) (by omega) (Nat.le_refl _)
    have ho' : w'.ownsRow w.heap.size e 1 v' (0 + s.size) (strCells (bs ++ s)) := by rw [strCells_append, hx]; exact ho
    obtain ⟨a', cap', rfl, hR⟩ := RowB.of_owns ho' hB
    exact ⟨a', cap', w', hr, hR, Off.of_below ((Below.refl w.heap.size w).grown hg (Nat.le_refl _) (fun k hk => by simp [Value.ownBlock] at hk)) hB⟩
  · by_cases hroom : bs.size + s.size ≤ cap
    · have hr := run_append_room_cells (P := P) w t ty e i ht hi b 0 bs.size cap ad s.size c (strCells s) (by rw [hsize]; exact hl) hc (strCells_oneCell s) hroom (fun j hj => by rw [strCells_length] at hj; exact h7 _ (by rw [hsize]; omega)) (fun j _ => h8 _)
      rw [hsize, Nat.zero_add, Nat.mul_one] at hr
      refine ⟨some ⟨b, 0, none⟩, cap, _, hr, .inr ⟨b, rfl, h2, by rw [size_setCellsB]; exact h3, by rw [ByteArray.size_append]; exact hroom, h5, fun j v hj => ?_, fun j hj => ?_, fun j => by rw [World.frozen?_setCells]; exact h8 j⟩, ?_⟩
      · rw [strCells_append, List.getElem?_append] at hj
        split at hj
        · next c =>
          rw [strCells_length] at c
          rw [World.cell?_setCells_out b _ _ w _ (fun _ _ => .inl c)]
          exact h6 j v hj
        · next c =>
          rw [strCells_length] at c hj
          have hj' : j - bs.size < (strCells s).length := by
            rcases Nat.lt_or_ge (j - bs.size) (strCells s).length with q | q
            · exact q
            · rw [List.getElem?_eq_none q] at hj; cases hj
          have k := World.cell?_setCells_in b (strCells s) bs.size w (fun i hi => by rw [strCells_length] at hi; exact h7 _ (by omega)) (j - bs.size) hj'
          rw [show bs.size + (j - bs.size) = j from by omega] at k
          rw [k, ← List.getElem?_eq_getElem, hj]
      · rcases Nat.lt_or_ge j bs.size with c | c
        · rw [World.cell?_setCells_out b _ _ w _ (fun _ _ => .inl c)]; exact h7 j hj
        · rcases Nat.lt_or_ge j (bs.size + s.size) with c2 | c2
          · have k := World.cell?_setCells_in b (strCells s) bs.size w (fun i hi => by rw [strCells_length] at hi; exact h7 _ (by omega)) (j - bs.size) (by rw [strCells_length]; omega)
            rw [show bs.size + (j - bs.size) = j from by omega] at k
            rw [k]; rfl
          · rw [World.cell?_setCells_out b _ _ w _ (fun _ _ => .inr (by rw [strCells_length]; exact c2))]; exact h7 j hj
      · obtain ⟨e1, e2, e3⟩ := os_setCells b (strCells s) bs.size w
        exact ⟨e1, e2, e3, by rw [size_setCellsB]; exact Nat.le_refl _, fun k hk => heap_setCells b k (fun c => hk (c ▸ h2)) _ _ _⟩
    · obtain ⟨v', w', hr, ho, hg⟩ := run_append_arg_grows (P := P) w t ty e i (.int .u8 0) 1 1 ht hi hz hsize hby rfl (by decide) ⟨b, 0, none⟩ bs.size cap (strCells bs) (by rw [strCells_length]; omega) (fun j v hj => by rw [Addr.add_lit]; simpa using h6 j v hj) ad s.size c (strCells s) hl hc (by omega) h63 (by omega)
      rw [← strCells_append] at ho
      obtain ⟨a', cap', rfl, hR⟩ := RowB.of_owns ho hB
      exact ⟨a', cap', w', hr, hR, Off.of_below ((Below.refl w.heap.size w).grown hg (Nat.le_refl _) (fun k hk => by cases hk)) hB⟩
theorem owp_append_RowB {o : Oper} {a : Act} {K : Act → World → Prop} {Q : Exit → Act → World → Prop}
    (sl x : Operand) (t : TypeId) (hop : o.op = Op.call { callee := Callee.builtin Builtin.append, args := #[sl, x], argTypes := #[t, t] })
    (F : Nat → Prop) (e : TypeId) (i : TypeInfo) (ht : P.underlying t = some (.slice e)) (hi : P.info? e = some i) (hz : i.zero = some (.int .u8 0))
    (hsize : i.size = 1) (hby : i.bytes = 1) (aa : Option Addr) (n cap : Nat) (bs s : ByteArray) (hs : a.eval sl = .slice aa n cap) (hnn : n = bs.size) (h : RowB w F aa bs cap) (hn : bs.size + s.size ≤ 140737488355328) (hB : ∀ k, w.heap.size ≤ k → F k)
    (ad : Addr) (c m : Nat) (hx : a.eval x = .slice (some ad) m c) (hm : m = s.size) (hc : ∀ j u, (strCells s)[j]? = some u → w.cell? (ad.add j) = some u)
    (hK : ∀ a' m' cap' w', m' = n + s.size → RowB w' F a' (bs ++ s) cap' → Off F w w' → K (a.put o.dst (.slice a' m' cap')) w') : Oper.wp P o a w K Q := by
  subst hnn hm
  obtain ⟨a', cap', w', hr, h2, h3⟩ := run_append_RowB_slice (P := P) w F t o.type e i ht hi hz hsize hby aa cap bs s h hn hB ad c hc
  unfold Oper.wp
  simp [execOp, hop, resolve, invoke, builtin, hs, hx, hr, Result.andThen]
  exact hK _ _ _ _ rfl h2 h3
theorem wpList_append_RowB_slice {ops : Array Oper} {rest : List Oper} {o : Oper} {a : Act} {Q : Exit → Act → World → Prop} (hgd : o.guard = none)
    (sl x : Operand) (t : TypeId) (hop : o.op = Op.call { callee := Callee.builtin Builtin.append, args := #[sl, x], argTypes := #[t, t] })
    (F : Nat → Prop) (e : TypeId) (i : TypeInfo) (ht : P.underlying t = some (.slice e)) (hi : P.info? e = some i) (hz : i.zero = some (.int .u8 0))
    (hsize : i.size = 1) (hby : i.bytes = 1) (aa : Option Addr) (n cap : Nat) (bs s : ByteArray) (hs : a.eval sl = .slice aa n cap) (hnn : n = bs.size) (h : RowB w F aa bs cap) (hn : bs.size + s.size ≤ 140737488355328) (hB : ∀ k, w.heap.size ≤ k → F k)
    (ad : Addr) (c m : Nat) (hx : a.eval x = .slice (some ad) m c) (hm : m = s.size) (hc : ∀ j u, (strCells s)[j]? = some u → w.cell? (ad.add j) = some u)
    (hK : ∀ a' m' cap' w', m' = n + s.size → RowB w' F a' (bs ++ s) cap' → Off F w w' → wpList P ops Q rest (a.put o.dst (.slice a' m' cap')) w') : wpList P ops Q (o :: rest) a w := by
  refine wpList_plain hgd fun K hK' => ?_
  exact owp_append_RowB (P := P) w sl x t hop F e i ht hi hz hsize hby aa n cap bs s hs hnn h hn hB ad c m hx hm hc (fun a' m' cap' w' h1 h2 h3 => hK' _ _ (hK a' m' cap' w' h1 h2 h3))
end
end Go.Proofs.YtlebhdckgcjacaaGreatDoor
