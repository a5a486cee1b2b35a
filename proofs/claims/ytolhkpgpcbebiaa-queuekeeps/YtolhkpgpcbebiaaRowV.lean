/- A slice of values of one cell each whose array is the call's own, a block of F, cut at its beginning or end perhaps; and append onto it. -/
import Derived.Test.YtolhkpgpcbebiaaRowB
namespace Go.Proofs.Ytolhkpgpcbebiaa
open Go Go.RowKit Go.Lib

def RowV (w : World) (F : Nat → Prop) (a : Option Addr) (vs : List Value) (cap : Nat) : Prop :=
  (a = none ∧ vs = [] ∧ cap = 0) ∨
  ∃ b o, a = some ⟨b, o, none⟩ ∧ F b ∧ b < w.heap.size ∧ vs.length ≤ cap ∧ cap ≤ maxLen ∧ (∀ j u, vs[j]? = some u → w.cell? ⟨b, o + j, none⟩ = some u) ∧
    (∀ j, j < cap → (w.cell? ⟨b, o + j, none⟩).isSome = true) ∧ (∀ j, w.frozen? ⟨b, j, none⟩ = false)
theorem RowV.nil (w : World) (F : Nat → Prop) : RowV w F none [] 0 := .inl ⟨rfl, rfl, rfl⟩
theorem RowV.len {w : World} {F : Nat → Prop} {cap : Nat} {a : Option Addr} {vs : List Value} (h : RowV w F a vs cap) : vs.length ≤ cap := by
  rcases h with ⟨_, rfl, h2⟩ | ⟨b, o, _, _, _, h, _⟩
  · simp
  · exact h
theorem RowV.kept {w w' : World} {F : Nat → Prop} {cap : Nat} {a : Option Addr} {vs : List Value} (h : RowV w F a vs cap) (hz : w.heap.size ≤ w'.heap.size) (hk : ∀ k, F k → k < w.heap.size → w'.heap[k]? = w.heap[k]?) : RowV w' F a vs cap := by
  rcases h with h | ⟨b, o, h1, h2, h3, h4, h5, h6, h7, h8⟩
  · exact .inl h
  · have e := hk b h2 h3
    refine .inr ⟨b, o, h1, h2, Nat.lt_of_lt_of_le h3 hz, h4, h5, fun j u hj => ?_, fun j hj => ?_, fun j => ?_⟩
    · exact (World.cell?_of_block (w := w) (a := ⟨b, o + j, none⟩) e).trans (h6 j u hj)
    · rw [World.cell?_of_block (w := w) (a := ⟨b, o + j, none⟩) e]; exact h7 j hj
    · exact (World.frozen?_of_block (w := w) (a := ⟨b, j, none⟩) e).trans (h8 j)
theorem RowV.drew {w : World} {F : Nat → Prop} {cap : Nat} {a : Option Addr} {vs : List Value} (h : RowV w F a vs cap) : RowV w.drew F a vs cap := h
theorem RowV.drewN {w : World} {F : Nat → Prop} {cap n : Nat} {a : Option Addr} {vs : List Value} (h : RowV w F a vs cap) : RowV (w.drewN n) F a vs cap := h
theorem RowV.set {w : World} {F : Nat → Prop} {cap g o : Nat} {a : Option Addr} {vs : List Value} (h : RowV w F a vs cap) (hg : ¬ F g) (v : Value) : RowV (w.setCell ⟨g, o, none⟩ v) F a vs cap :=
  h.kept (by rw [World.size_setCell]; exact Nat.le_refl _) (fun k hk _ => Below.heap_setCell w ⟨g, o, none⟩ v k (fun (c : k = g) => hg (c ▸ hk)))
theorem RowV.call {w w' : World} {F : Nat → Prop} {cap : Nat} {a : Option Addr} {vs : List Value} (h : RowV w F a vs cap) (hb : Below w.heap.size w w') : RowV w' F a vs cap :=
  h.kept hb.size (fun k _ hk => hb.block k hk)
theorem RowV.mono {w : World} {F Q : Nat → Prop} {cap : Nat} {a : Option Addr} {vs : List Value} (h : RowV w F a vs cap) (hq : ∀ k, k < w.heap.size → F k → Q k) : RowV w Q a vs cap := by
  rcases h with h | ⟨b, o, h1, h2, h3, h4⟩
  · exact .inl h
  · exact .inr ⟨b, o, h1, hq b h3 h2, h3, h4⟩
/-- The slice cut from n on, with no room behind. -/
theorem RowV.cut {w : World} {F : Nat → Prop} {cap n : Nat} {b o : Nat} {vs : List Value} (h : RowV w F (some ⟨b, o, none⟩) vs cap) (hn : n ≤ vs.length) : RowV w F (some ⟨b, o + n, none⟩) (vs.drop n) (vs.length - n) := by
  rcases h with ⟨h, _⟩ | ⟨b', o', h1, h2, h3, h4, h5, h6, h7, h8⟩
  · cases h
  · cases h1
    refine .inr ⟨b, o + n, rfl, h2, h3, by rw [List.length_drop]; exact Nat.le_refl _, by omega, fun j u hj => ?_, fun j hj => ?_, h8⟩
    · rw [List.getElem?_drop] at hj
      rw [Nat.add_assoc]; exact h6 _ u hj
    · rw [Nat.add_assoc]; exact h7 _ (by omega)
theorem RowV.of_owns {w : World} {B n : Nat} {F : Nat → Prop} {e : TypeId} {v : Value} {vs : List Value} (h : w.ownsRow B e 1 v n vs) (hF : ∀ k, B ≤ k → F k) : ∃ a cap, v = .slice a n cap ∧ RowV w F a vs cap := by
  obtain ⟨h0, h⟩ := h
  have hl : n = vs.length := by omega
  subst hl
  rcases h with ⟨rfl, hn⟩ | ⟨g, cap, cur, rfl, h1, h2, h3, h4, h5, h6⟩
  · exact ⟨none, 0, by rw [hn], .inl ⟨rfl, List.eq_nil_of_length_eq_zero hn, rfl⟩⟩
  · refine ⟨_, cap, rfl, .inr ⟨g, 0, rfl, hF g h1, (Array.getElem?_eq_some_iff.1 h2).1, h3, h4, fun j u hj => ?_, fun j hj => ?_, fun j => ?_⟩⟩
    · rw [Nat.zero_add, cell_of_row w g j cur e (0, 0) h2]
      rw [← h6, List.getElem?_take] at hj
      split at hj
      · simpa using hj
      · cases hj
    · rw [Nat.zero_add, cell_of_row w g j cur e (0, 0) h2]
      have hj' : j < cur.size := by omega
      simp [Array.getElem?_eq_getElem hj', Option.isSome]
    · simp [World.frozen?, h2]
theorem RowV.get {w : World} {F : Nat → Prop} {cap : Nat} {a : Option Addr} {vs : List Value} (h : RowV w F a vs cap) {j : Nat} {u : Value} (hj : vs[j]? = some u) : ∃ b o, a = some ⟨b, o, none⟩ ∧ w.cell? ⟨b, o + j, none⟩ = some u ∧ b < w.heap.size ∧ F b := by
  rcases h with ⟨_, rfl, _⟩ | ⟨b, o, h1, h2, h3, h4, h5, h6, h7, h8⟩
  · simp at hj
  · exact ⟨b, o, h1, h6 j u hj, h3, h2⟩
section
variable {P : Program} (w : World)
theorem run_append_RowV (F : Nat → Prop) (t ty e : TypeId) (i : TypeInfo) (z : Value) (bytes : Nat) (ht : P.underlying t = some (.slice e)) (hi : P.info? e = some i) (hz : i.zero = some z) (hzc : z.cells.size = 1)
    (hsize : i.size = 1) (hby : i.bytes = bytes) (a : Option Addr) (cap : Nat) (vs us : List Value) (h : RowV w F a vs cap) (h63 : vs.length + us.length ≤ maxLen) (hn : (vs.length + us.length) * bytes ≤ 140737488355328) (hB : ∀ k, w.heap.size ≤ k → F k)
    (ad : Addr) (c : Nat) (hc : ∀ j u, us[j]? = some u → w.cell? (ad.add j) = some u) (h1c : ∀ u ∈ us, u.oneCell' = true) :
    ∃ a' cap' w', (Builtin.append_ #[t, t] ty #[.slice a vs.length cap, .slice (some ad) us.length c]).run P w = .ok (.slice a' (vs.length + us.length) cap') w' ∧ RowV w' F a' (vs ++ us) cap' ∧ Off F w w' := by
  have hl : us.length = us.length * 1 := by omega
  rcases h with ⟨rfl, rfl, rfl⟩ | ⟨b, o, rfl, h2, h3, h4, h5, h6, h7, h8⟩
  · obtain ⟨v', w', hr, ho, hg, _⟩ := run_append_own (P := P) w w.heap.size t ty e i z 1 bytes ht hi hz hsize hby hzc (by decide) (.slice none 0 0) 0 [] (World.ownsRow_nil w w.heap.size e 1) ad us.length c us hl hc h1c (by simpa using h63) (by simpa using hn) (Nat.le_refl _)
    obtain ⟨a', cap', rfl, hR⟩ := RowV.of_owns ho hB
    exact ⟨a', cap', w', hr, hR, Off.of_below ((Below.refl w.heap.size w).grown hg (Nat.le_refl _) (fun k hk => by simp [Value.ownBlock] at hk)) hB⟩
  · by_cases hroom : vs.length + us.length ≤ cap
    · have hr := run_append_room_cells (P := P) w t ty e i ht hi b o vs.length cap ad us.length c us (by rw [hsize]; exact hl) hc h1c hroom (fun j hj => by rw [hsize, Nat.mul_one, Nat.add_assoc]; exact h7 _ (by omega)) (fun j _ => h8 _)
      rw [hsize, Nat.mul_one] at hr
      have hin : ∀ i, i < us.length → (w.cell? ⟨b, o + vs.length + i, none⟩).isSome = true := fun i hi => by rw [Nat.add_assoc]; exact h7 _ (by omega)
      refine ⟨some ⟨b, o, none⟩, cap, _, hr, .inr ⟨b, o, rfl, h2, by rw [size_setCellsB]; exact h3, by rw [List.length_append]; exact hroom, h5, fun j v hj => ?_, fun j hj => ?_, fun j => by rw [World.frozen?_setCells]; exact h8 j⟩, ?_⟩
      · rw [List.getElem?_append] at hj
        split at hj
        · next c =>
          rw [World.cell?_setCells_out b _ _ w _ (fun _ _ => .inl (by simp only []; omega))]
          exact h6 j v hj
        · next c =>
          have hj' : j - vs.length < us.length := by
            rcases Nat.lt_or_ge (j - vs.length) us.length with q | q
            · exact q
            · rw [List.getElem?_eq_none q] at hj; cases hj
          have k := World.cell?_setCells_in b us (o + vs.length) w hin (j - vs.length) hj'
          rw [show o + vs.length + (j - vs.length) = o + j from by omega] at k
          rw [k, ← List.getElem?_eq_getElem, hj]
      · rcases Nat.lt_or_ge j vs.length with c | c
        · rw [World.cell?_setCells_out b _ _ w _ (fun _ _ => .inl (by simp only []; omega))]; exact h7 j hj
        · rcases Nat.lt_or_ge j (vs.length + us.length) with c2 | c2
          · have k := World.cell?_setCells_in b us (o + vs.length) w hin (j - vs.length) (by omega)
            rw [show o + vs.length + (j - vs.length) = o + j from by omega] at k
            rw [k]; rfl
          · rw [World.cell?_setCells_out b _ _ w _ (fun _ _ => .inr (by simp only []; omega))]; exact h7 j hj
      · obtain ⟨e1, e2, e3⟩ := os_setCells b us (o + vs.length) w
        exact ⟨e1, e2, e3, by rw [size_setCellsB]; exact Nat.le_refl _, fun k hk => heap_setCells b k (fun c => hk (c ▸ h2)) _ _ _⟩
    · obtain ⟨v', w', hr, ho, hg⟩ := run_append_arg_grows (P := P) w t ty e i z 1 bytes ht hi hz hsize hby hzc (by decide) ⟨b, o, none⟩ vs.length cap vs (by omega) (fun j v hj => by rw [Addr.add_lit]; exact h6 j v hj) ad us.length c us hl hc (by omega) h63 hn
      obtain ⟨a', cap', rfl, hR⟩ := RowV.of_owns ho hB
      exact ⟨a', cap', w', hr, hR, Off.of_below ((Below.refl w.heap.size w).grown hg (Nat.le_refl _) (fun k hk => by cases hk)) hB⟩
theorem owp_append_RowV {o : Oper} {a : Act} {K : Act → World → Prop} {Q : Exit → Act → World → Prop}
    (sl x : Operand) (t : TypeId) (hop : o.op = Op.call { callee := Callee.builtin Builtin.append, args := #[sl, x], argTypes := #[t, t] })
    (F : Nat → Prop) (e : TypeId) (i : TypeInfo) (z : Value) (bytes : Nat) (ht : P.underlying t = some (.slice e)) (hi : P.info? e = some i) (hz : i.zero = some z) (hzc : z.cells.size = 1)
    (hsize : i.size = 1) (hby : i.bytes = bytes) (aa : Option Addr) (n cap : Nat) (vs us : List Value) (hs : a.eval sl = .slice aa n cap) (hnn : n = vs.length) (h : RowV w F aa vs cap) (h63 : vs.length + us.length ≤ maxLen) (hn : (vs.length + us.length) * bytes ≤ 140737488355328) (hB : ∀ k, w.heap.size ≤ k → F k)
    (ad : Addr) (c m : Nat) (hx : a.eval x = .slice (some ad) m c) (hm : m = us.length) (hc : ∀ j u, us[j]? = some u → w.cell? (ad.add j) = some u) (h1c : ∀ u ∈ us, u.oneCell' = true)
    (hK : ∀ a' m' cap' w', m' = n + m → RowV w' F a' (vs ++ us) cap' → Off F w w' → K (a.put o.dst (.slice a' m' cap')) w') : Oper.wp P o a w K Q := by
  subst hnn hm
  obtain ⟨a', cap', w', hr, h2, h3⟩ := run_append_RowV (P := P) w F t o.type e i z bytes ht hi hz hzc hsize hby aa cap vs us h h63 hn hB ad c hc h1c
  unfold Oper.wp
  simp [execOp, hop, resolve, invoke, builtin, hs, hx, hr, Result.andThen]
  exact hK _ _ _ _ rfl h2 h3
theorem wpList_append_RowV {ops : Array Oper} {rest : List Oper} {o : Oper} {a : Act} {Q : Exit → Act → World → Prop} (hgd : o.guard = none)
    (sl x : Operand) (t : TypeId) (hop : o.op = Op.call { callee := Callee.builtin Builtin.append, args := #[sl, x], argTypes := #[t, t] })
    (F : Nat → Prop) (e : TypeId) (i : TypeInfo) (z : Value) (bytes : Nat) (ht : P.underlying t = some (.slice e)) (hi : P.info? e = some i) (hz : i.zero = some z) (hzc : z.cells.size = 1)
    (hsize : i.size = 1) (hby : i.bytes = bytes) (aa : Option Addr) (n cap : Nat) (vs us : List Value) (hs : a.eval sl = .slice aa n cap) (hnn : n = vs.length) (h : RowV w F aa vs cap) (h63 : vs.length + us.length ≤ maxLen) (hn : (vs.length + us.length) * bytes ≤ 140737488355328) (hB : ∀ k, w.heap.size ≤ k → F k)
    (ad : Addr) (c m : Nat) (hx : a.eval x = .slice (some ad) m c) (hm : m = us.length) (hc : ∀ j u, us[j]? = some u → w.cell? (ad.add j) = some u) (h1c : ∀ u ∈ us, u.oneCell' = true)
    (hK : ∀ a' m' cap' w', m' = n + m → RowV w' F a' (vs ++ us) cap' → Off F w w' → wpList P ops Q rest (a.put o.dst (.slice a' m' cap')) w') : wpList P ops Q (o :: rest) a w := by
  refine wpList_plain hgd fun K hK' => ?_
  exact owp_append_RowV (P := P) w sl x t hop F e i z bytes ht hi hz hzc hsize hby aa n cap vs us hs hnn h h63 hn hB ad c m hx hm hc h1c (fun a' m' cap' w' h1 h2 h3 => hK' _ _ (hK a' m' cap' w' h1 h2 h3))
end
end Go.Proofs.Ytolhkpgpcbebiaa
