/- Rows of records of k cells each; append onto them; a slice literal of one record. -/
import Derived.Test.YtbpgiijdcagckaaDoorLbA
import Derived.WalkKit
import Derived.Laws.Externs
import Derived.RowKit3
import Derived.Below
import Derived.BigQuiet
import Derived.ArgAppend
import Derived.Laws.BytesArg
import Derived.Laws.AppendOwn
import Derived.Great.BuildSlice
import Derived.Lib.AppendZeros
namespace Go.Proofs.YtbpgiijdcagckaaDoor
open Go Go.RowKit Go.Lib
theorem size_setCellsB (g : Nat) : ∀ (vs : List Value) (o : Nat) (w : World), (w.setCells g o vs).heap.size = w.heap.size
  | [], _, _ => rfl
  | v :: r, o, w => by rw [World.setCells, size_setCellsB g r (o + 1), World.size_setCell]
theorem heap_setCells (g k : Nat) (hk : k ≠ g) : ∀ (vs : List Value) (o : Nat) (w : World), (w.setCells g o vs).heap[k]? = w.heap[k]?
  | [], _, _ => rfl
  | v :: r, o, w => by rw [World.setCells, heap_setCells g k hk r (o + 1), Below.heap_setCell _ _ _ _ hk]
theorem os_setCells (g : Nat) : ∀ (vs : List Value) (o : Nat) (w : World), (w.setCells g o vs).os = w.os ∧ (w.setCells g o vs).tape = w.tape ∧ (w.setCells g o vs).output = w.output
  | [], _, _ => ⟨rfl, rfl, rfl⟩
  | v :: r, o, w => os_setCells g r (o + 1) (w.setCell ⟨g, o, none⟩ v)

/-- The blocks from B on. -/
def From (B : Nat) : Nat → Prop := fun k => B ≤ k
theorem not_from {B k : Nat} (h : k < B) : ¬ From B k := Nat.not_le_of_lt h
/-- All is as it was but for blocks of P. -/
structure Off (P : Nat → Prop) (w w' : World) : Prop where
  os : w'.os = w.os
  tape : w'.tape = w.tape
  output : w'.output = w.output
  size : w.heap.size ≤ w'.heap.size
  block : ∀ k, ¬ P k → w'.heap[k]? = w.heap[k]?
theorem Off.refl (P : Nat → Prop) (w : World) : Off P w w := ⟨rfl, rfl, rfl, Nat.le_refl _, fun _ _ => rfl⟩
theorem Off.trans {P : Nat → Prop} {a b c : World} (h : Off P a b) (k : Off P b c) : Off P a c :=
  ⟨k.os.trans h.os, k.tape.trans h.tape, k.output.trans h.output, Nat.le_trans h.size k.size, fun i hi => (k.block i hi).trans (h.block i hi)⟩
theorem Off.of_below {P : Nat → Prop} {B : Nat} {w w' : World} (h : Below B w w') (hP : ∀ k, B ≤ k → P k) : Off P w w' :=
  ⟨h.os, h.tape, h.output, h.size, fun k hk => h.block k (Nat.lt_of_not_le fun c => hk (hP k c))⟩
theorem Off.cell {P : Nat → Prop} {w w' : World} (h : Off P w w') {p : Addr} (hp : ¬ P p.block) : w'.cell? p = w.cell? p := World.cell?_of_block (w := w) (h.block p.block hp)
theorem Off.frozen {P : Nat → Prop} {w w' : World} (h : Off P w w') {p : Addr} (hp : ¬ P p.block) : w'.frozen? p = w.frozen? p := World.frozen?_of_block (w := w) (h.block p.block hp)
/-! rows of records of k cells each -/
section
variable {α : Type}
theorem flat_len {enc : α → List Value} {k : Nat} (hk : ∀ x, (enc x).length = k) : ∀ X : List α, (X.flatMap enc).length = X.length * k
  | [] => by simp
  | x :: X => by rw [List.flatMap_cons, List.length_append, hk, flat_len hk X, List.length_cons, Nat.succ_mul]; omega
theorem flat_get {enc : α → List Value} {k : Nat} (hk : ∀ x, (enc x).length = k) : ∀ (X : List α) (j c : Nat) (x : α), X[j]? = some x → c < k → (X.flatMap enc)[j * k + c]? = (enc x)[c]?
  | [], j, c, x, h, _ => by simp at h
  | y :: X, 0, c, x, h, hc => by
    simp at h
    subst h
    rw [List.flatMap_cons, Nat.zero_mul, Nat.zero_add, List.getElem?_append_left (by rw [hk]; exact hc)]
  | y :: X, j + 1, c, x, h, hc => by
    rw [List.getElem?_cons_succ] at h
    rw [List.flatMap_cons, Nat.succ_mul, List.getElem?_append_right (by rw [hk]; omega), hk, show j * k + k + c - k = j * k + c from by omega]
    exact flat_get hk X j c x h hc
def RowX (enc : α → List Value) (k : Nat) (w : World) (F : Nat → Prop) (a : Option Addr) (X : List α) (cap : Nat) : Prop :=
  (a = none ∧ X = [] ∧ cap = 0) ∨
  ∃ b o, a = some ⟨b, o, none⟩ ∧ F b ∧ b < w.heap.size ∧ X.length ≤ cap ∧ cap ≤ maxLen ∧ (∀ j u, (X.flatMap enc)[j]? = some u → w.cell? ⟨b, o + j, none⟩ = some u) ∧
    (∀ j, j < cap * k → (w.cell? ⟨b, o + j, none⟩).isSome = true) ∧ (∀ j, w.frozen? ⟨b, j, none⟩ = false)
variable {enc : α → List Value} {k : Nat}
theorem RowX.nil (w : World) (F : Nat → Prop) : RowX enc k w F none [] 0 := .inl ⟨rfl, rfl, rfl⟩
theorem RowX.len {w : World} {F : Nat → Prop} {cap : Nat} {a : Option Addr} {X : List α} (h : RowX enc k w F a X cap) : X.length ≤ cap := by
  rcases h with ⟨_, rfl, h2⟩ | ⟨b, o, _, _, _, h, _⟩
  · simp
  · exact h
theorem RowX.kept {w w' : World} {F : Nat → Prop} {cap : Nat} {a : Option Addr} {X : List α} (h : RowX enc k w F a X cap) (hz : w.heap.size ≤ w'.heap.size) (hk : ∀ k, F k → k < w.heap.size → w'.heap[k]? = w.heap[k]?) : RowX enc k w' F a X cap := by
  rcases h with h | ⟨b, o, h1, h2, h3, h4, h5, h6, h7, h8⟩
  · exact .inl h
  · have e := hk b h2 h3
    refine .inr ⟨b, o, h1, h2, Nat.lt_of_lt_of_le h3 hz, h4, h5, fun j u hj => ?_, fun j hj => ?_, fun j => ?_⟩
    · exact (World.cell?_of_block (w := w) (a := ⟨b, o + j, none⟩) e).trans (h6 j u hj)
    · rw [World.cell?_of_block (w := w) (a := ⟨b, o + j, none⟩) e]; exact h7 j hj
    · exact (World.frozen?_of_block (w := w) (a := ⟨b, j, none⟩) e).trans (h8 j)
theorem RowX.drew {w : World} {F : Nat → Prop} {cap : Nat} {a : Option Addr} {X : List α} (h : RowX enc k w F a X cap) : RowX enc k w.drew F a X cap := h
theorem RowX.call {w w' : World} {F : Nat → Prop} {cap : Nat} {a : Option Addr} {X : List α} (h : RowX enc k w F a X cap) (hb : Below w.heap.size w w') : RowX enc k w' F a X cap := h.kept hb.size (fun k _ hk => hb.block k hk)
theorem RowX.mono {w : World} {F Q : Nat → Prop} {cap : Nat} {a : Option Addr} {X : List α} (h : RowX enc k w F a X cap) (hq : ∀ k, k < w.heap.size → F k → Q k) : RowX enc k w Q a X cap := by
  rcases h with h | ⟨b, o, h1, h2, h3, h4⟩
  · exact .inl h
  · exact .inr ⟨b, o, h1, hq b h3 h2, h3, h4⟩
theorem RowX.get {w : World} {F : Nat → Prop} {cap : Nat} {a : Option Addr} {X : List α} (hk : ∀ x, (enc x).length = k) (h : RowX enc k w F a X cap) {j : Nat} {x : α} (hj : X[j]? = some x) : ∃ b o, a = some ⟨b, o, none⟩ ∧ (∀ c u, (enc x)[c]? = some u → w.cell? ⟨b, o + j * k + c, none⟩ = some u) ∧ b < w.heap.size ∧ F b ∧ ∀ i, w.frozen? ⟨b, i, none⟩ = false := by
  rcases h with ⟨_, rfl, _⟩ | ⟨b, o, h1, h2, h3, h4, h5, h6, h7, h8⟩
  · simp at hj
  · refine ⟨b, o, h1, fun c u hu => ?_, h3, h2, h8⟩
    have hc : c < k := by
      have := (List.getElem?_eq_some_iff.1 hu).1
      rwa [hk] at this
    rw [Nat.add_assoc]
    exact h6 _ u (by rw [flat_get hk X j c x hj hc]; exact hu)
theorem RowX.of_owns {w : World} {B n : Nat} {F : Nat → Prop} {e : TypeId} {v : Value} {X : List α} (h : w.ownsRow B e k v n (X.flatMap enc)) (hn : n = X.length) (hF : ∀ k, B ≤ k → F k) : ∃ a cap, v = .slice a n cap ∧ RowX enc k w F a X cap := by
  obtain ⟨h0, h⟩ := h
  subst hn
  rcases h with ⟨rfl, hn⟩ | ⟨g, cap, cur, rfl, h1, h2, h3, h4, h5, h6⟩
  · exact ⟨none, 0, by rw [hn], .inl ⟨rfl, List.eq_nil_of_length_eq_zero hn, rfl⟩⟩
  · refine ⟨_, cap, rfl, .inr ⟨g, 0, rfl, hF g h1, (Array.getElem?_eq_some_iff.1 h2).1, h3, h4, fun j u hj => ?_, fun j hj => ?_, fun j => ?_⟩⟩
    · rw [Nat.zero_add, cell_of_row w g j cur e (0, 0) h2]
      rw [← h6, List.getElem?_take] at hj
      split at hj
      · simpa using hj
      · cases hj
    · rw [Nat.zero_add, cell_of_row w g j cur e (0, 0) h2]
      have hj' : j < cur.size := by omega
      simp [Array.getElem?_eq_getElem hj', Option.isSome]
    · simp [World.frozen?, h2]
/-- What is asked of a type of records of k cells. -/
structure InfE (P : Program) (t e : TypeId) (k bytes : Nat) : Prop where
  ht : P.underlying t = some (.slice e)
  hi : ∃ i z, P.info? e = some i ∧ i.zero = some z ∧ z.cells.size = k ∧ i.size = k ∧ i.bytes = bytes
theorem run_append_RowX {P : Program} (w : World) (F : Nat → Prop) {t ty e : TypeId} {bytes : Nat} (I : InfE P t e k bytes) (hk : ∀ x, (enc x).length = k) (h1k : ∀ x, ∀ u ∈ enc x, u.oneCell' = true) (k0 : 0 < k) (a : Option Addr) (cap n : Nat) (X : List α) (x : α) (hnX : n = X.length) (h : RowX enc k w F a X cap) (hn : n ≤ 1000000) (hby : bytes ≤ 1000) (hB : ∀ k, w.heap.size ≤ k → F k)
    (ad : Addr) (c : Nat) (hc : ∀ j u, (enc x)[j]? = some u → w.cell? (ad.add j) = some u) :
    ∃ a' cap' w', (Builtin.append_ #[t, t] ty #[.slice a n cap, .slice (some ad) 1 c]).run P w = .ok (.slice a' (n + 1) cap') w' ∧ RowX enc k w' F a' (X ++ [x]) cap' ∧ Off F w w' := by
  subst hnX
  obtain ⟨i, z, hi, hz, hzc, hs, hib⟩ := I.hi
  have hl : (enc x).length = 1 * k := by rw [hk]; omega
  have hfl : (X ++ [x]).flatMap enc = X.flatMap enc ++ enc x := by simp
  have hnl : X.length + 1 = (X ++ [x]).length := by simp
  have hb1 : (X.length + 1) * bytes ≤ 140737488355328 := Nat.le_trans (Nat.mul_le_mul_left _ hby) (by omega)
  rcases h with ⟨rfl, rfl, rfl⟩ | ⟨b, o, rfl, h2, h3, h4, h5, h6, h7, h8⟩
  · obtain ⟨v', w', hr, ho, hg, _⟩ := run_append_own (P := P) w w.heap.size t ty e i z k bytes I.ht hi hz hs hib hzc k0 (.slice none 0 0) 0 [] (World.ownsRow_nil w w.heap.size e k) ad 1 c (enc x) hl hc (h1k x) (by unfold maxLen; omega) (by simpa using hb1) (Nat.le_refl _)
    obtain ⟨a', cap', rfl, hR⟩ := RowX.of_owns (X := [x]) (by simpa using ho) rfl hB
    exact ⟨a', cap', w', hr, hR, Off.of_below ((Below.refl w.heap.size w).grown hg (Nat.le_refl _) (fun k hk => by simp [Value.ownBlock] at hk)) hB⟩
  · by_cases hroom : X.length + 1 ≤ cap
    · have hrm : X.length * k + k ≤ cap * k := by rw [← Nat.succ_mul]; exact Nat.mul_le_mul_right _ hroom
      have hek : (enc x).length = k := hk x
      have hr := run_append_room_cells (P := P) w t ty e i I.ht hi b o X.length cap ad 1 c (enc x) (by rw [hs]; exact hl) hc (h1k x) hroom (fun j hj => by rw [hs, Nat.add_assoc]; exact h7 _ (by omega)) (fun j _ => h8 _)
      rw [hs] at hr
      have hin : ∀ i, i < (enc x).length → (w.cell? ⟨b, o + X.length * k + i, none⟩).isSome = true := fun i hi => by rw [Nat.add_assoc]; exact h7 _ (by omega)
      refine ⟨some ⟨b, o, none⟩, cap, _, hr, .inr ⟨b, o, rfl, h2, by rw [size_setCellsB]; exact h3, by rw [← hnl]; exact hroom, h5, fun j v hj => ?_, fun j hj => ?_, fun j => by rw [World.frozen?_setCells]; exact h8 j⟩, ?_⟩
      · rw [hfl, List.getElem?_append] at hj
        rw [flat_len hk] at hj
        split at hj
        · next c =>
          rw [World.cell?_setCells_out b _ _ w _ (fun _ _ => .inl (by simp only []; omega))]
          exact h6 j v hj
        · next c =>
          have hj' : j - X.length * k < (enc x).length := (List.getElem?_eq_some_iff.1 hj).1
          have q := World.cell?_setCells_in b (enc x) (o + X.length * k) w hin (j - X.length * k) hj'
          rw [show o + X.length * k + (j - X.length * k) = o + j from by omega] at q
          rw [q, ← List.getElem?_eq_getElem, hj]
      · rcases Nat.lt_or_ge j (X.length * k) with c | c
        · rw [World.cell?_setCells_out b _ _ w _ (fun _ _ => .inl (by simp only []; omega))]; exact h7 j hj
        · rcases Nat.lt_or_ge j (X.length * k + k) with c2 | c2
          · have q := World.cell?_setCells_in b (enc x) (o + X.length * k) w hin (j - X.length * k) (by omega)
            rw [show o + X.length * k + (j - X.length * k) = o + j from by omega] at q
            rw [q]; rfl
          · rw [World.cell?_setCells_out b _ _ w _ (fun _ _ => .inr (by simp only []; omega))]; exact h7 j hj
      · obtain ⟨e1, e2, e3⟩ := os_setCells b (enc x) (o + X.length * k) w
        exact ⟨e1, e2, e3, by rw [size_setCellsB]; exact Nat.le_refl _, fun i hi => heap_setCells b i (fun c => hi (c ▸ h2)) _ _ _⟩
    · obtain ⟨v', w', hr, ho, hg⟩ := run_append_arg_grows (P := P) w t ty e i z k bytes I.ht hi hz hs hib hzc k0 ⟨b, o, none⟩ X.length cap (X.flatMap enc) (flat_len hk X) (fun j v hj => by rw [Addr.add_lit]; exact h6 j v hj) ad 1 c (enc x) hl hc (by omega) (by unfold maxLen; omega) hb1
      rw [← hfl] at ho
      obtain ⟨a', cap', rfl, hR⟩ := RowX.of_owns ho hnl hB
      exact ⟨a', cap', w', hr, hR, Off.of_below ((Below.refl w.heap.size w).grown hg (Nat.le_refl _) (fun k hk => by cases hk)) hB⟩
end
theorem wp_bs1 {P : Program} {t e : TypeId} {k bytes : Nat} (I : InfE P t e k bytes) (k0 : 0 < k) (k1 : k ≤ 1000) {o : Oper} {a : Act} {w : World} {K : Act → World → Prop} {Q : Exit → Act → World → Prop} {x : Nat} {cs : List Value} (ho : o.op = .buildSlice t 1 #[(0, .tmp x)]) (hx : a.eval (.tmp x) = .agg cs.toArray) (hl : cs.length = k)
    (h : K (a.put o.dst (.slice (some ⟨w.heap.size, 0, none⟩) 1 1)) (w.alloc (.cells cs.toArray e))) : o.wp P a w K Q := by
  obtain ⟨i, z, hi, hz, -, hs, -⟩ := I.hi
  refine wp_buildSlice t e 1 _ ho cs.toArray i z I.ht hi hz (by rw [hs]; omega) (by rw [hs]; omega) ?_ h
  have e1 : (Array.map (fun (x : Nat × Operand) => match x with | (i, x) => (i, a.eval x)) #[(0, Operand.tmp x)]).toList = (([Value.agg cs.toArray].zipIdx 0).map fun x => (x.2, x.1)) := by simp [hx]
  rw [e1, hs]
  rw [Great.fill_whole k0 [Value.agg cs.toArray] _ (by simp [Value.cells, hl]) (by simp)]
  simp [Value.cells]
/-- The first k of them. -/
def rsE {α : Type} (ts : Nat → α) (k : Nat) : List α := (List.range k).map ts
theorem rsE_succ {α : Type} (ts : Nat → α) (k : Nat) : rsE ts (k + 1) = rsE ts k ++ [ts k] := by
  unfold rsE
  rw [List.range_succ, List.map_append]
  rfl
theorem rsE_len {α : Type} (ts : Nat → α) (k : Nat) : k = (rsE ts k).length := by simp [rsE]
theorem rsE_get {α : Type} (ts : Nat → α) {k j : Nat} (h : j < k) : (rsE ts k)[j]? = some (ts j) := by simp [rsE, h]
end Go.Proofs.YtbpgiijdcagckaaDoor
