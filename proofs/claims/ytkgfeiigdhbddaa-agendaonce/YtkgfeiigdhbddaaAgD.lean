/- Package agenda: rows of entries, and append onto them. -/
import Derived.Test.YtkgfeiigdhbddaaAgB2
namespace Go.Proofs.Ytkgfeiigdhbddaa
open Go Go.RowKit Go.Lib
def enV (x : En) : List Value := [.int .i64 (x.t : Nat), .int .i64 (x.m : Nat), .string x.s]
def ensV (f : Nat → En) : Nat → List Value
  | 0 => []
  | n + 1 => ensV f n ++ enV (f n)
theorem ensV_len (f : Nat → En) : ∀ n, (ensV f n).length = n * 3
  | 0 => rfl
  | n + 1 => by rw [ensV, List.length_append, ensV_len]; show _ + 3 = _; omega
theorem ensV_get (f : Nat → En) : ∀ n k c, k < n → c < 3 → (ensV f n)[k * 3 + c]? = (enV (f k))[c]?
  | 0, k, c, h, _ => absurd h (Nat.not_lt_zero _)
  | n + 1, k, c, h, hc => by
    rw [ensV]
    by_cases e : k < n
    · rw [List.getElem?_append_left (by rw [ensV_len]; omega)]; exact ensV_get f n k c e hc
    · obtain rfl : k = n := by omega
      rw [List.getElem?_append_right (by rw [ensV_len]; omega), ensV_len]
      congr 1
      omega
theorem ensV_put (f : Nat → En) (x : En) : ∀ n m, n ≤ m → ensV (putF f m x) n = ensV f n
  | 0, _, _ => rfl
  | n + 1, m, h => by rw [ensV, ensV, ensV_put f x n m (by omega), putF_o (by omega)]
theorem ensV_snoc (f : Nat → En) (x : En) (n : Nat) : ensV (putF f n x) (n + 1) = ensV f n ++ enV x := by rw [ensV, ensV_put f x n n (Nat.le_refl _), putF_s]
theorem Rw.cells {w : World} {q cap n : Nat} {f : Nat → En} (h : Rw w q cap n f) : ∀ j u, (ensV f n)[j]? = some u → w.cell? ⟨q, j, none⟩ = some u := by
  intro j u hj
  have hl : j < n * 3 := by
    rcases Nat.lt_or_ge j (n * 3) with c | c
    · exact c
    · rw [List.getElem?_eq_none (by rw [ensV_len]; exact c)] at hj; cases hj
  have e : j = j / 3 * 3 + j % 3 := by omega
  have hk : j / 3 < n := by omega
  have hc : j % 3 < 3 := by omega
  rw [e, ensV_get f n _ _ hk hc] at hj
  rw [e]
  have : j % 3 = 0 ∨ j % 3 = 1 ∨ j % 3 = 2 := by omega
  rcases this with c | c | c
  · rw [c] at hj ⊢; cases hj; exact h.c0 _ hk
  · rw [c] at hj ⊢; cases hj; exact h.c1 _ hk
  · rw [c] at hj ⊢; cases hj; exact h.c2 _ hk
theorem Rw.of_owns {w : World} {B n : Nat} {e : TypeId} {v : Value} {f : Nat → En} (h : w.ownsRow B e 3 v (n + 1) (ensV f (n + 1))) : ∃ q cap, v = .slice (some ⟨q, 0, none⟩) (n + 1) cap ∧ Rw w q cap (n + 1) f ∧ B ≤ q := by
  obtain ⟨h0, h⟩ := h
  rcases h with ⟨rfl, hn⟩ | ⟨g, cap, cur, rfl, h1, h2, h3, h4, h5, h6⟩
  · omega
  · have key : ∀ k c u, k < n + 1 → c < 3 → (enV (f k))[c]? = some u → w.cell? ⟨g, k * 3 + c, none⟩ = some u := fun k c u hk hc hu => by
      rw [cell_of_row w g (k * 3 + c) cur e (0, 0) h2]
      have := ensV_get f (n + 1) k c hk hc
      rw [hu, ← h6, List.getElem?_take, if_pos (by omega)] at this
      simpa using this
    refine ⟨g, cap, rfl, ⟨(Array.getElem?_eq_some_iff.1 h2).1, h3, h4, fun k hk => key k 0 _ hk (by omega) rfl, fun k hk => key k 1 _ hk (by omega) rfl, fun k hk => key k 2 _ hk (by omega) rfl, fun k hk => ?_, fun o => by simp [World.frozen?, h2]⟩, h1⟩
    rw [cell_of_row w g k cur e (0, 0) h2]
    have hk' : k < cur.size := by omega
    simp [Array.getElem?_eq_getElem hk', Option.isSome]
/-- A slice of entries: none, or those of a block. -/
def RwO (w : World) (a : Option Addr) (cap n : Nat) (f : Nat → En) : Prop := (a = none ∧ n = 0 ∧ cap = 0) ∨ ∃ q, a = some ⟨q, 0, none⟩ ∧ Rw w q cap n f
theorem RwO.block {w w' : World} {a : Option Addr} {cap n : Nat} {f : Nat → En} (h : RwO w a cap n f) (hz : w.heap.size ≤ w'.heap.size) (hb : ∀ q, a = some ⟨q, 0, none⟩ → q < w.heap.size → w'.heap[q]? = w.heap[q]?) : RwO w' a cap n f := by
  rcases h with h | ⟨q, rfl, h⟩
  · exact .inl h
  · exact .inr ⟨q, rfl, h.block hz (hb q rfl h.lt)⟩
theorem RwO.call {w w' : World} {a : Option Addr} {cap n : Nat} {f : Nat → En} (h : RwO w a cap n f) (hb : Below w.heap.size w w') : RwO w' a cap n f := h.block hb.size (fun q _ hq => hb.block q hq)
/-- What an append of one entry leaves. -/
structure AppR (w w' : World) (a : Option Addr) (q cap n : Nat) (f : Nat → En) : Prop where
  row : Rw w' q cap n f
  os : w'.os = w.os
  tape : w'.tape = w.tape
  output : w'.output = w.output
  size : w.heap.size ≤ w'.heap.size
  block : ∀ b, b < w.heap.size → a ≠ some ⟨b, 0, none⟩ → w'.heap[b]? = w.heap[b]?
  own : a = some ⟨q, 0, none⟩ ∨ w.heap.size ≤ q
structure EnI (P : Program) (t e : TypeId) : Prop where
  ht : P.underlying t = some (.slice e)
  hi : ∃ i, P.info? e = some i ∧ i.zero = some (.agg #[.int .i64 0, .int .i64 0, .string ⟨#[]⟩]) ∧ i.size = 3 ∧ i.bytes = 32
theorem enI_code : EnI Try.prog 47 34 := by
  refine ⟨Try.underlying47, ?_⟩
  have h : (Try.prog.info? 34).map (fun i => (i.zero, i.size, i.bytes)) = some (some (.agg #[.int .i64 0, .int .i64 0, .string ⟨#[]⟩]), 3, 32) := by kernel_rfl
  cases e : Try.prog.info? 34 with
  | none => rw [e] at h; cases h
  | some i =>
    rw [e] at h
    simp only [Option.map_some, Option.some.injEq, Prod.mk.injEq] at h
    exact ⟨i, rfl, h.1, h.2.1, h.2.2⟩
theorem enI_ref : EnI Try.prog 27 38 := by
  refine ⟨Try.underlying27, ?_⟩
  have h : (Try.prog.info? 38).map (fun i => (i.zero, i.size, i.bytes)) = some (some (.agg #[.int .i64 0, .int .i64 0, .string ⟨#[]⟩]), 3, 32) := by kernel_rfl
  cases e : Try.prog.info? 38 with
  | none => rw [e] at h; cases h
  | some i =>
    rw [e] at h
    simp only [Option.map_some, Option.some.injEq, Prod.mk.injEq] at h
    exact ⟨i, rfl, h.1, h.2.1, h.2.2⟩
theorem enV_one (x : En) : ∀ u ∈ enV x, u.oneCell' = true := fun u hu => by
  simp [enV] at hu
  rcases hu with rfl | rfl | rfl <;> rfl
theorem run_append_Rw {P : Program} (w : World) (t ty e : TypeId) (I : EnI P t e) (a : Option Addr) (cap n : Nat) (f : Nat → En) (x : En) (h : RwO w a cap n f) (hn : n ≤ 1000000) (b c : Nat) (hc : ∀ j u, (enV x)[j]? = some u → w.cell? ⟨b, j, none⟩ = some u) :
    ∃ q' cap' w', (Builtin.append_ #[t, t] ty #[.slice a n cap, .slice (some ⟨b, 0, none⟩) 1 c]).run P w = .ok (.slice (some ⟨q', 0, none⟩) (n + 1) cap') w' ∧ AppR w w' a q' cap' (n + 1) (putF f n x) := by
  obtain ⟨i, hi, hz, hs, hby⟩ := I.hi
  have hc' : ∀ j u, (enV x)[j]? = some u → w.cell? ((⟨b, 0, none⟩ : Addr).add j) = some u := fun j u hj => by rw [Addr.add_lit, Nat.zero_add]; exact hc j u hj
  rcases h with ⟨rfl, rfl, rfl⟩ | ⟨q, rfl, h⟩
  · obtain ⟨v', w', hr, ho, hg, _⟩ := run_append_own (P := P) w w.heap.size t ty e i _ 3 32 I.ht hi hz hs hby rfl (by decide) (.slice none 0 0) 0 [] (World.ownsRow_nil w w.heap.size e 3) ⟨b, 0, none⟩ 1 c (enV x) rfl hc' (enV_one x) (by unfold maxLen; omega) (by omega) (Nat.le_refl _)
    have ho' : w'.ownsRow w.heap.size e 3 v' (0 + 1) (ensV (putF f 0 x) (0 + 1)) := by rw [ensV_snoc]; exact ho
    obtain ⟨q', cap', rfl, hR, hq⟩ := Rw.of_owns ho'
    have hB := (Below.refl w.heap.size w).grown hg (Nat.le_refl _) (fun k hk => by simp [Value.ownBlock] at hk)
    exact ⟨q', cap', w', hr, ⟨hR, hB.os, hB.tape, hB.output, hB.size, fun k hk _ => hB.block k hk, .inr hq⟩⟩
  · by_cases hroom : n + 1 ≤ cap
    · have hr := run_append_room_cells (P := P) w t ty e i I.ht hi q 0 n cap ⟨b, 0, none⟩ 1 c (enV x) (by rw [hs]; rfl) hc' (enV_one x) hroom (fun j hj => by rw [hs, Nat.zero_add]; exact h.cs _ (by have : (enV x).length = 3 := rfl; omega)) (fun j _ => h.fz _)
      rw [hs, Nat.zero_add] at hr
      have hin : ∀ j, j < (enV x).length → (w.cell? ⟨q, n * 3 + j, none⟩).isSome = true := fun j hj => h.cs _ (by have : (enV x).length = 3 := rfl; omega)
      have key : ∀ k c u, k < n + 1 → c < 3 → (enV (putF f n x k))[c]? = some u → (w.setCells q (n * 3) (enV x)).cell? ⟨q, k * 3 + c, none⟩ = some u := fun k c u hk hc hu => by
        by_cases q1 : k = n
        · subst q1
          rw [putF_s] at hu
          have k1 := World.cell?_setCells_in q (enV x) (k * 3) w hin c (by have : (enV x).length = 3 := rfl; omega)
          rw [k1, ← List.getElem?_eq_getElem, hu]
        · rw [World.cell?_setCells_out q _ _ w _ (fun _ _ => .inl (by simp only []; omega))]
          rw [putF_o q1] at hu
          refine h.cells _ _ ?_
          rw [ensV_get f n k c (by omega) hc]; exact hu
      refine ⟨q, cap, _, hr, ⟨⟨by rw [size_setCellsB]; exact h.lt, hroom, h.cl, fun k hk => key k 0 _ hk (by omega) rfl, fun k hk => key k 1 _ hk (by omega) rfl, fun k hk => key k 2 _ hk (by omega) rfl, fun k hk => ?_, fun o => by rw [World.frozen?_setCells]; exact h.fz o⟩, (os_setCells q _ _ w).1, (os_setCells q _ _ w).2.1, (os_setCells q _ _ w).2.2, by rw [size_setCellsB]; exact Nat.le_refl _, fun k _ hk => heap_setCells q k (fun c => hk (by rw [c])) _ _ _, .inl rfl⟩⟩
      by_cases c1 : n * 3 ≤ k ∧ k < n * 3 + 3
      · have k1 := World.cell?_setCells_in q (enV x) (n * 3) w hin (k - n * 3) (by have : (enV x).length = 3 := rfl; omega)
        rw [show n * 3 + (k - n * 3) = k from by omega] at k1
        rw [k1]; rfl
      · have : k < n * 3 ∨ n * 3 + 3 ≤ k := by omega
        rcases this with c2 | c2
        · rw [World.cell?_setCells_out q _ _ w _ (fun _ _ => .inl (by simp only []; omega))]; exact h.cs k hk
        · rw [World.cell?_setCells_out q _ _ w _ (fun _ _ => .inr (by have : (enV x).length = 3 := rfl; simp only []; omega))]; exact h.cs k hk
    · obtain ⟨v', w', hr, ho, hg⟩ := run_append_arg_grows (P := P) w t ty e i _ 3 32 I.ht hi hz hs hby rfl (by decide) ⟨q, 0, none⟩ n cap (ensV f n) (ensV_len f n) (fun j u hj => by rw [Addr.add_lit, Nat.zero_add]; exact h.cells j u hj) ⟨b, 0, none⟩ 1 c (enV x) rfl hc' (by omega) (by unfold maxLen; omega) (by omega)
      rw [← ensV_snoc] at ho
      obtain ⟨q', cap', rfl, hR, hq⟩ := Rw.of_owns ho
      have hB := (Below.refl w.heap.size w).grown hg (Nat.le_refl _) (fun k hk => by cases hk)
      exact ⟨q', cap', w', hr, ⟨hR, hB.os, hB.tape, hB.output, hB.size, fun k hk _ => hB.block k hk, .inr hq⟩⟩
end Go.Proofs.Ytkgfeiigdhbddaa
