/- Package queue: signatures as values, maps of values, rows of records. -/
import Derived.Test.YtolhkpgpcbebiaaPnt
import Derived.Test.YtolhkpgpcbebiaaAgP
import Derived.Maps.OwnSet
import Derived.Shelf.SlicesE.Delete
import Derived.Shelf.SlicesE.Index
namespace Go.Proofs.Ytolhkpgpcbebiaa
open Go Go.RowKit Go.Lib Go.WideMaps Go.Maps

/-- A signature: its twelve words and its mark. -/
structure Sg where
  x0 : Int
  x1 : Int
  x2 : Int
  x3 : Int
  x4 : Int
  x5 : Int
  x6 : Int
  x7 : Int
  i : Bool
  x8 : Int
  x9 : Int
  x10 : Int
  x11 : Int
def sg0 : Sg := ⟨0, 0, 0, 0, 0, 0, 0, 0, false, 0, 0, 0, 0⟩
/-- A request that is known. -/
structure Qe where
  id : Nat
  m : ByteArray
  d : Bool
  S : Sg
def qa (d : Bool) : Int := if d then 4 else 1
def entV (e : Qe) : Value := .agg #[.string e.m, .int .i64 (qa e.d), .int .u64 e.S.x0, .int .u64 e.S.x1, .int .u64 e.S.x2, .int .u64 e.S.x3, .int .u64 e.S.x4, .int .u64 e.S.x5, .int .u64 e.S.x6, .int .u64 e.S.x7, .bool e.S.i, .int .u64 e.S.x8, .int .u64 e.S.x9, .int .u64 e.S.x10, .int .u64 e.S.x11]
def zeroV : Value := .agg #[.string ⟨#[]⟩, .int .i64 0, .int .u64 0, .int .u64 0, .int .u64 0, .int .u64 0, .int .u64 0, .int .u64 0, .int .u64 0, .int .u64 0, .bool false, .int .u64 0, .int .u64 0, .int .u64 0, .int .u64 0]
def anyE : Value → Option (DataW Value × List MemPlace) := fun v => some (.held v, [])
theorem lawQ : Keyed Try.prog 3 := int_keyed Try.underlying3
theorem zeroQ (w : World) : (zeroValue 65).run Try.prog w = .ok zeroV w := by kernel_rfl
/-- What a key is known for. -/
def KeyV (D : DataW Value) (t : Int) : Option Value → Prop
  | some v => has D (.int .i64 t) = true ∧ D.atKey (.int .i64 t) (.held zeroV) = .held v
  | none => has D (.int .i64 t) = false ∧ D.atKey (.int .i64 t) (.held zeroV) = .held zeroV
theorem KeyV.other {D D' : DataW Value} {t : Int} {o : Option Value} (h : KeyV D t o) (h1 : has D' (.int .i64 t) = has D (.int .i64 t)) (h2 : D'.atKey (.int .i64 t) (.held zeroV) = D.atKey (.int .i64 t) (.held zeroV)) : KeyV D' t o := by
  cases o with
  | none => exact ⟨h1.trans h.1, h2.trans h.2⟩
  | some k => exact ⟨h1.trans h.1, h2.trans h.2⟩
theorem KeyV.has {D : DataW Value} {t : Int} {o : Option Value} (h : KeyV D t o) : Maps.has D (.int .i64 t) = o.isSome := by
  cases o with
  | none => exact h.1
  | some k => exact h.1
theorem KeyV.at {D : DataW Value} {t : Int} {o : Option Value} (h : KeyV D t o) : D.atKey (.int .i64 t) (.held zeroV) = .held (o.getD zeroV) := by
  cases o with
  | none => exact h.2
  | some k => exact h.2
/-- Block B is a map of N keys to values. -/
def MapV (w : World) (B N : Nat) (p : Int → Option Value) : Prop := ∃ D : DataW Value, w.ownsMap Try.prog 3 anyE B N D ∧ Maps.size D = N ∧ ∀ t : Int, KeyV D t (p t)
theorem MapV.made (w : World) : MapV (w.alloc (.map #[] 0)) w.heap.size 0 (fun _ => none) := ⟨.map [], World.ownsMap_made _ _ _ _, rfl, fun _ => ⟨rfl, rfl⟩⟩
theorem MapV.block {w w' : World} {B k : Nat} {p : Int → Option Value} (h : MapV w B k p) (hb : w'.heap[B]? = w.heap[B]?) : MapV w' B k p := by
  obtain ⟨D, ⟨es, clock, h1, h2⟩, h3⟩ := h
  exact ⟨D, ⟨es, clock, hb.trans h1, h2⟩, h3⟩
theorem MapV.lt {w : World} {B k : Nat} {p : Int → Option Value} (h : MapV w B k p) : B < w.heap.size := by
  obtain ⟨D, h1, _⟩ := h
  exact h1.lt
theorem MapV.eq {w : World} {B k : Nat} {p q : Int → Option Value} (h : MapV w B k p) (he : ∀ t, q t = p t) : MapV w B k q := by
  obtain ⟨D, h1, h2, h3⟩ := h
  exact ⟨D, h1, h2, fun t => by rw [he t]; exact h3 t⟩
theorem keyQ {t : Int} (h : -9223372036854775808 ≤ t ∧ t ≤ 9223372036854775807) : keyOf Try.prog 3 (.int .i64 t) = some (.int .i64 t) := keyOf_int_mk Try.underlying3 (WalkArith.wf_i64 h)
theorem anyE_inv {v : Value} {x : Value} {ps : List MemPlace} (h : anyE v = some (.held x, ps)) : v = x := by
  simp only [anyE, Option.some.injEq, Prod.mk.injEq] at h
  injection h.1
theorem MapV.look {w : World} {B N : Nat} {t : Int} {p : Int → Option Value} (h : MapV w B N p) (ht : -9223372036854775808 ≤ t ∧ t ≤ 9223372036854775807) : (Instr.lookup 61 (.map (some B)) (.int .i64 t) true).run Try.prog w = .ok (.tuple #[(p t).getD zeroV, .bool (p t).isSome]) w := by
  obtain ⟨D, h1, _, h3⟩ := h
  obtain ⟨v, ps, hrun, hv⟩ := h1.look_ok lawQ Try.underlying61 (zeroQ w) (zd := .held zeroV) (zp := []) rfl (keyQ ht)
  rw [(h3 t).at] at hv
  rw [hrun, anyE_inv hv, (h3 t).has]
theorem MapV.look1 {w : World} {B N : Nat} {t : Int} {p : Int → Option Value} (h : MapV w B N p) (ht : -9223372036854775808 ≤ t ∧ t ≤ 9223372036854775807) : (Instr.lookup 61 (.map (some B)) (.int .i64 t) false).run Try.prog w = .ok ((p t).getD zeroV) w := by
  obtain ⟨D, h1, _, h3⟩ := h
  obtain ⟨v, ps, hrun, hv⟩ := h1.lookup lawQ Try.underlying61 (zeroQ w) (zd := .held zeroV) (zp := []) rfl (keyQ ht)
  rw [(h3 t).at] at hv
  rw [hrun, anyE_inv hv]
theorem MapV.len {w : World} {B N : Nat} {p : Int → Option Value} (h : MapV w B N p) (ty : TypeId) : (Builtin.len_ #[61] ty #[.map (some B)]).run Try.prog w = .ok (.int .i64 (N : Nat)) w := by
  obtain ⟨D, h1, h2, h3⟩ := h
  have := h1.len Try.underlying61 ty
  rw [h2] at this
  exact this
def updV (p : Int → Option Value) (t : Int) (v : Value) : Int → Option Value := fun x => if x = t then some v else p x
theorem MapV.update {w : World} {B N : Nat} {t : Int} {v : Value} {p : Int → Option Value} (h : MapV w B N p) (hN : N < 100000) (ht : -9223372036854775808 ≤ t ∧ t ≤ 9223372036854775807) : ∃ w', (Instr.mapUpdate 61 (.map (some B)) (.int .i64 t) v).run Try.prog w = .ok () w' ∧ MapV w' B (if (p t).isSome then N else N + 1) (updV p t v) ∧ w.mapTurned w' B := by
  obtain ⟨D, h1, h2, h3⟩ := h
  obtain ⟨w', hrun, ho, hg⟩ := h1.store lawQ Try.underlying61 (by unfold maxLen; omega) (keyQ ht) (show anyE v = some (.held v, []) from rfl)
  have hs := size_put (k := .int .i64 t) (h1.tidy lawQ) (.held v)
  rw [(h3 t).has, h2] at hs
  refine ⟨w', hrun, ⟨_, ?_, hs, fun x => ?_⟩, hg⟩
  · obtain ⟨es, clock, hb, F, hle, hD⟩ := ho
    refine ⟨es, clock, hb, F, ?_, hD⟩
    rw [← hs, hD]
    simp [Maps.size, length_sorted]
  · by_cases q : x = t
    · subst q
      rw [show updV p x v x = some v from if_pos rfl]
      exact ⟨has_put_same (k := .int .i64 x) h1.isMap trivial _, atKey_put_same (k := .int .i64 x) h1.isMap trivial _ _⟩
    · rw [show updV p t v x = p x from if_neg q]
      have hne : Lit.int .i64 x ≠ Lit.int .i64 t := fun c => q (by injection c)
      exact (h3 x).other (has_put_other hne _) (atKey_put_other hne _ _)
theorem off_drew {Z : Nat → Prop} {w w' : World} (h : Off Z w w') : Off Z w w'.drew := ⟨h.os, h.tape, h.output, h.size, h.block⟩
theorem off_new {Z : Nat → Prop} {w w' : World} (h : Off Z w w') (hZ : ∀ k, w.heap.size ≤ k → Z k) : ∀ k, w'.heap.size ≤ k → Z k := fun k hk => hZ k (Nat.le_trans h.size hk)
theorem mapTurned_off {w w' w0 : World} {Z : Nat → Prop} {B : Nat} (h : Off Z w0 w) (hm : w.mapTurned w' B) (hB : Z B) : Off Z w0 w' := by
  obtain ⟨es, clock, es', clock', hb, rfl⟩ := hm
  exact ⟨h.os, h.tape, h.output, by simpa [ChangeMaps.setBlock] using h.size, fun b hb' => (ChangeMaps.heap_setBlock_other hb _ (fun c => hb' (by rw [c]; exact hB))).trans (h.block b hb')⟩
theorem mapTurned_block {w w' : World} {B b : Nat} (hm : w.mapTurned w' B) (hB : b ≠ B) : w'.heap[b]? = w.heap[b]? := by
  obtain ⟨es, clock, es', clock', hb, rfl⟩ := hm
  exact ChangeMaps.heap_setBlock_other hb _ hB
theorem mapTurned_size {w w' : World} {B : Nat} (hm : w.mapTurned w' B) : w'.heap.size = w.heap.size := by
  obtain ⟨es, clock, es', clock', hb, rfl⟩ := hm
  simp [ChangeMaps.setBlock]
/-! rows of records of k cells each -/
section
variable {α : Type}
theorem flat_len {enc : α → List Value} {k : Nat} (hk : ∀ x, (enc x).length = k) : ∀ X : List α, (X.flatMap enc).length = X.length * k
  | [] => by simp
  | x :: X => by rw [List.flatMap_cons, List.length_append, hk, flat_len hk X, List.length_cons, Nat.succ_mul]; omega
theorem flat_get {enc : α → List Value} {k : Nat} (hk : ∀ x, (enc x).length = k) : ∀ (X : List α) (j c : Nat) (x : α), X[j]? = some x → c < k → (X.flatMap enc)[j * k + c]? = (enc x)[c]?
  | [], j, c, x, h, _ => by simp at h
  | y :: X, 0, c, x, h, hc => by
    simp at h
    subst h
    rw [List.flatMap_cons, Nat.zero_mul, Nat.zero_add, List.getElem?_append_left (by rw [hk]; exact hc)]
  | y :: X, j + 1, c, x, h, hc => by
    rw [List.getElem?_cons_succ] at h
    rw [List.flatMap_cons, Nat.succ_mul, List.getElem?_append_right (by rw [hk]; omega), hk, show j * k + k + c - k = j * k + c from by omega]
    exact flat_get hk X j c x h hc
def RowX (enc : α → List Value) (k : Nat) (w : World) (F : Nat → Prop) (a : Option Addr) (X : List α) (cap : Nat) : Prop :=
  (a = none ∧ X = [] ∧ cap = 0) ∨
  ∃ b o, a = some ⟨b, o, none⟩ ∧ F b ∧ b < w.heap.size ∧ X.length ≤ cap ∧ cap ≤ maxLen ∧ (∀ j u, (X.flatMap enc)[j]? = some u → w.cell? ⟨b, o + j, none⟩ = some u) ∧
    (∀ j, j < cap * k → (w.cell? ⟨b, o + j, none⟩).isSome = true) ∧ (∀ j, w.frozen? ⟨b, j, none⟩ = false)
variable {enc : α → List Value} {k : Nat}
theorem RowX.nil (w : World) (F : Nat → Prop) : RowX enc k w F none [] 0 := .inl ⟨rfl, rfl, rfl⟩
theorem RowX.len {w : World} {F : Nat → Prop} {cap : Nat} {a : Option Addr} {X : List α} (h : RowX enc k w F a X cap) : X.length ≤ cap := by
  rcases h with ⟨_, rfl, h2⟩ | ⟨b, o, _, _, _, h, _⟩
  · simp
  · exact h
theorem RowX.kept {w w' : World} {F : Nat → Prop} {cap : Nat} {a : Option Addr} {X : List α} (h : RowX enc k w F a X cap) (hz : w.heap.size ≤ w'.heap.size) (hk : ∀ k, F k → k < w.heap.size → w'.heap[k]? = w.heap[k]?) : RowX enc k w' F a X cap := by
  rcases h with h | ⟨b, o, h1, h2, h3, h4, h5, h6, h7, h8⟩
  · exact .inl h
  · have e := hk b h2 h3
    refine .inr ⟨b, o, h1, h2, Nat.lt_of_lt_of_le h3 hz, h4, h5, fun j u hj => ?_, fun j hj => ?_, fun j => ?_⟩
    · exact (World.cell?_of_block (w := w) (a := ⟨b, o + j, none⟩) e).trans (h6 j u hj)
    · rw [World.cell?_of_block (w := w) (a := ⟨b, o + j, none⟩) e]; exact h7 j hj
    · exact (World.frozen?_of_block (w := w) (a := ⟨b, j, none⟩) e).trans (h8 j)
theorem RowX.drew {w : World} {F : Nat → Prop} {cap : Nat} {a : Option Addr} {X : List α} (h : RowX enc k w F a X cap) : RowX enc k w.drew F a X cap := h
theorem RowX.call {w w' : World} {F : Nat → Prop} {cap : Nat} {a : Option Addr} {X : List α} (h : RowX enc k w F a X cap) (hb : Below w.heap.size w w') : RowX enc k w' F a X cap := h.kept hb.size (fun k _ hk => hb.block k hk)
theorem RowX.mono {w : World} {F Q : Nat → Prop} {cap : Nat} {a : Option Addr} {X : List α} (h : RowX enc k w F a X cap) (hq : ∀ k, k < w.heap.size → F k → Q k) : RowX enc k w Q a X cap := by
  rcases h with h | ⟨b, o, h1, h2, h3, h4⟩
  · exact .inl h
  · exact .inr ⟨b, o, h1, hq b h3 h2, h3, h4⟩
theorem RowX.get {w : World} {F : Nat → Prop} {cap : Nat} {a : Option Addr} {X : List α} (hk : ∀ x, (enc x).length = k) (h : RowX enc k w F a X cap) {j : Nat} {x : α} (hj : X[j]? = some x) : ∃ b o, a = some ⟨b, o, none⟩ ∧ (∀ c u, (enc x)[c]? = some u → w.cell? ⟨b, o + j * k + c, none⟩ = some u) ∧ b < w.heap.size ∧ F b ∧ ∀ i, w.frozen? ⟨b, i, none⟩ = false := by
  rcases h with ⟨_, rfl, _⟩ | ⟨b, o, h1, h2, h3, h4, h5, h6, h7, h8⟩
  · simp at hj
  · refine ⟨b, o, h1, fun c u hu => ?_, h3, h2, h8⟩
    have hc : c < k := by
      have := (List.getElem?_eq_some_iff.1 hu).1
      rwa [hk] at this
    rw [Nat.add_assoc]
    exact h6 _ u (by rw [flat_get hk X j c x hj hc]; exact hu)
theorem RowX.of_owns {w : World} {B n : Nat} {F : Nat → Prop} {e : TypeId} {v : Value} {X : List α} (h : w.ownsRow B e k v n (X.flatMap enc)) (hn : n = X.length) (hF : ∀ k, B ≤ k → F k) : ∃ a cap, v = .slice a n cap ∧ RowX enc k w F a X cap := by
  obtain ⟨h0, h⟩ := h
  subst hn
  rcases h with ⟨rfl, hn⟩ | ⟨g, cap, cur, rfl, h1, h2, h3, h4, h5, h6⟩
  · exact ⟨none, 0, by rw [hn], .inl ⟨rfl, List.eq_nil_of_length_eq_zero hn, rfl⟩⟩
  · refine ⟨_, cap, rfl, .inr ⟨g, 0, rfl, hF g h1, (Array.getElem?_eq_some_iff.1 h2).1, h3, h4, fun j u hj => ?_, fun j hj => ?_, fun j => ?_⟩⟩
    · rw [Nat.zero_add, cell_of_row w g j cur e (0, 0) h2]
      rw [← h6, List.getElem?_take] at hj
      split at hj
      · simpa using hj
      · cases hj
    · rw [Nat.zero_add, cell_of_row w g j cur e (0, 0) h2]
      have hj' : j < cur.size := by omega
      simp [Array.getElem?_eq_getElem hj', Option.isSome]
    · simp [World.frozen?, h2]
/-- What is asked of a type of records of k cells. -/
structure InfE (P : Program) (t e : TypeId) (k bytes : Nat) : Prop where
  ht : P.underlying t = some (.slice e)
  hi : ∃ i z, P.info? e = some i ∧ i.zero = some z ∧ z.cells.size = k ∧ i.size = k ∧ i.bytes = bytes
theorem run_append_RowX {P : Program} (w : World) (F : Nat → Prop) {t ty e : TypeId} {bytes : Nat} (I : InfE P t e k bytes) (hk : ∀ x, (enc x).length = k) (h1k : ∀ x, ∀ u ∈ enc x, u.oneCell' = true) (k0 : 0 < k) (a : Option Addr) (cap n : Nat) (X : List α) (x : α) (hnX : n = X.length) (h : RowX enc k w F a X cap) (hn : n ≤ 1000000) (hby : bytes ≤ 1000) (hB : ∀ k, w.heap.size ≤ k → F k)
    (ad : Addr) (c : Nat) (hc : ∀ j u, (enc x)[j]? = some u → w.cell? (ad.add j) = some u) :
    ∃ a' cap' w', (Builtin.append_ #[t, t] ty #[.slice a n cap, .slice (some ad) 1 c]).run P w = .ok (.slice a' (n + 1) cap') w' ∧ RowX enc k w' F a' (X ++ [x]) cap' ∧ Off F w w' := by
  subst hnX
  obtain ⟨i, z, hi, hz, hzc, hs, hib⟩ := I.hi
  have hl : (enc x).length = 1 * k := by rw [hk]; omega
  have hfl : (X ++ [x]).flatMap enc = X.flatMap enc ++ enc x := by simp
  have hnl : X.length + 1 = (X ++ [x]).length := by simp
  have hb1 : (X.length + 1) * bytes ≤ 140737488355328 := Nat.le_trans (Nat.mul_le_mul_left _ hby) (by omega)
  rcases h with ⟨rfl, rfl, rfl⟩ | ⟨b, o, rfl, h2, h3, h4, h5, h6, h7, h8⟩
  · obtain ⟨v', w', hr, ho, hg, _⟩ := run_append_own (P := P) w w.heap.size t ty e i z k bytes I.ht hi hz hs hib hzc k0 (.slice none 0 0) 0 [] (World.ownsRow_nil w w.heap.size e k) ad 1 c (enc x) hl hc (h1k x) (by unfold maxLen; omega) (by simpa using hb1) (Nat.le_refl _)
    obtain ⟨a', cap', rfl, hR⟩ := RowX.of_owns (X := [x]) (by simpa using ho) rfl hB
    exact ⟨a', cap', w', hr, hR, Off.of_below ((Below.refl w.heap.size w).grown hg (Nat.le_refl _) (fun k hk => by simp [Value.ownBlock] at hk)) hB⟩
  · by_cases hroom : X.length + 1 ≤ cap
    · have hrm : X.length * k + k ≤ cap * k := by rw [← Nat.succ_mul]; exact Nat.mul_le_mul_right _ hroom
      have hek : (enc x).length = k := hk x
      have hr := run_append_room_cells (P := P) w t ty e i I.ht hi b o X.length cap ad 1 c (enc x) (by rw [hs]; exact hl) hc (h1k x) hroom (fun j hj => by rw [hs, Nat.add_assoc]; exact h7 _ (by omega)) (fun j _ => h8 _)
      rw [hs] at hr
      have hin : ∀ i, i < (enc x).length → (w.cell? ⟨b, o + X.length * k + i, none⟩).isSome = true := fun i hi => by rw [Nat.add_assoc]; exact h7 _ (by omega)
      refine ⟨some ⟨b, o, none⟩, cap, _, hr, .inr ⟨b, o, rfl, h2, by rw [size_setCellsB]; exact h3, by rw [← hnl]; exact hroom, h5, fun j v hj => ?_, fun j hj => ?_, fun j => by rw [World.frozen?_setCells]; exact h8 j⟩, ?_⟩
      · rw [hfl, List.getElem?_append] at hj
        rw [flat_len hk] at hj
        split at hj
        · next c =>
          rw [World.cell?_setCells_out b _ _ w _ (fun _ _ => .inl (by simp only []; omega))]
          exact h6 j v hj
        · next c =>
          have hj' : j - X.length * k < (enc x).length := (List.getElem?_eq_some_iff.1 hj).1
          have q := World.cell?_setCells_in b (enc x) (o + X.length * k) w hin (j - X.length * k) hj'
          rw [show o + X.length * k + (j - X.length * k) = o + j from by omega] at q
          rw [q, ← List.getElem?_eq_getElem, hj]
      · rcases Nat.lt_or_ge j (X.length * k) with c | c
        · rw [World.cell?_setCells_out b _ _ w _ (fun _ _ => .inl (by simp only []; omega))]; exact h7 j hj
        · rcases Nat.lt_or_ge j (X.length * k + k) with c2 | c2
          · have q := World.cell?_setCells_in b (enc x) (o + X.length * k) w hin (j - X.length * k) (by omega)
            rw [show o + X.length * k + (j - X.length * k) = o + j from by omega] at q
            rw [q]; rfl
          · rw [World.cell?_setCells_out b _ _ w _ (fun _ _ => .inr (by simp only []; omega))]; exact h7 j hj
      · obtain ⟨e1, e2, e3⟩ := os_setCells b (enc x) (o + X.length * k) w
        exact ⟨e1, e2, e3, by rw [size_setCellsB]; exact Nat.le_refl _, fun i hi => heap_setCells b i (fun c => hi (c ▸ h2)) _ _ _⟩
    · obtain ⟨v', w', hr, ho, hg⟩ := run_append_arg_grows (P := P) w t ty e i z k bytes I.ht hi hz hs hib hzc k0 ⟨b, o, none⟩ X.length cap (X.flatMap enc) (flat_len hk X) (fun j v hj => by rw [Addr.add_lit]; exact h6 j v hj) ad 1 c (enc x) hl hc (by omega) (by unfold maxLen; omega) hb1
      rw [← hfl] at ho
      obtain ⟨a', cap', rfl, hR⟩ := RowX.of_owns ho hnl hB
      exact ⟨a', cap', w', hr, hR, Off.of_below ((Below.refl w.heap.size w).grown hg (Nat.le_refl _) (fun k hk => by cases hk)) hB⟩
end
end Go.Proofs.Ytolhkpgpcbebiaa
