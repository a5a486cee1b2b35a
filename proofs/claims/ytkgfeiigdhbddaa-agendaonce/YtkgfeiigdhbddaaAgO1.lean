/- The law AgendaOnce: of each ticket its moment, in a row of the law's own. -/
import Derived.Test.YtkgfeiigdhbddaaOpenA
namespace Go.Proofs.Ytkgfeiigdhbddaa
open Go Go.RowKit Go.Lib
def MomIs (L : List En) (t : Nat) (v : Int) : Prop := (∃ x ∈ L, x.t = t ∧ v = (x.m : Nat)) ∨ ((∀ x ∈ L, x.t ≠ t) ∧ v = -1)
def AtI (A : List Int) (L : List En) (l : Nat) : Prop := A.length = l + 1 ∧ ∀ t v, A[t]? = some v → MomIs L t v
theorem at_zero : AtI [-1] [] 0 := ⟨rfl, fun t v h => .inr ⟨fun x hx => (by cases hx), by
  match t, h with
  | 0, h => simpa using h.symm
  | t + 1, h => simp at h⟩⟩
theorem at_put {A : List Int} {L : List En} {l m : Nat} {s : ByteArray} (h : AtI A L l) : AtI (A ++ [(m : Int)]) (insE ⟨l + 1, m, s⟩ L) (l + 1) := by
  refine ⟨by rw [List.length_append, h.1]; rfl, fun t v hv => ?_⟩
  by_cases c : t < A.length
  · rw [List.getElem?_append_left c] at hv
    have ht : t ≠ l + 1 := by have := h.1; omega
    rcases h.2 t v hv with ⟨x, hx, h1, h2⟩ | ⟨h1, h2⟩
    · exact .inl ⟨x, (mem_insE _ _ _).2 (.inr hx), h1, h2⟩
    · refine .inr ⟨fun x hx => ?_, h2⟩
      rcases (mem_insE _ _ _).1 hx with rfl | hx
      · exact fun q => ht q.symm
      · exact h1 x hx
  · have e : t = A.length := by
      have := (List.getElem?_eq_some_iff.1 hv).1
      rw [List.length_append] at this
      simp at this
      omega
    subst e
    rw [List.getElem?_append_right (Nat.le_refl _), Nat.sub_self] at hv
    simp at hv
    exact .inl ⟨_, (mem_insE _ _ _).2 (.inl rfl), h.1.symm, hv.symm⟩
theorem at_drop {A : List Int} {L : List En} {l t : Nat} (h : AtI A L l) : AtI (A.set t (-1)) (rmE t L) l := by
  refine ⟨by rw [List.length_set]; exact h.1, fun j v hv => ?_⟩
  rcases set_get hv with ⟨rfl, rfl, _⟩ | ⟨hj, hv⟩
  · exact .inr ⟨fun x hx => (mem_rmE.1 hx).2, rfl⟩
  · rcases h.2 j v hv with ⟨x, hx, h1, h2⟩ | ⟨h1, h2⟩
    · exact .inl ⟨x, mem_rmE.2 ⟨hx, by rw [h1]; exact fun c => hj c.symm⟩, h1, h2⟩
    · exact .inr ⟨fun x hx => h1 x (mem_rmE.1 hx).1, h2⟩
theorem at_move {A : List Int} {L : List En} {l t m : Nat} {s : ByteArray} (h : AtI A L l) : AtI (A.set t (m : Int)) (insE ⟨t, m, s⟩ (rmE t L)) l := by
  refine ⟨by rw [List.length_set]; exact h.1, fun j v hv => ?_⟩
  rcases set_get hv with ⟨rfl, rfl, _⟩ | ⟨hj, hv⟩
  · exact .inl ⟨_, (mem_insE _ _ _).2 (.inl rfl), rfl, rfl⟩
  · rcases h.2 j v hv with ⟨x, hx, h1, h2⟩ | ⟨h1, h2⟩
    · exact .inl ⟨x, (mem_insE _ _ _).2 (.inr (mem_rmE.2 ⟨hx, by rw [h1]; exact fun c => hj c.symm⟩)), h1, h2⟩
    · refine .inr ⟨fun x hx => ?_, h2⟩
      rcases (mem_insE _ _ _).1 hx with rfl | hx
      · exact hj
      · exact h1 x (mem_rmE.1 hx).1
theorem at_get {A : List Int} {L : List En} {l t : Nat} (h : AtI A L l) (ht : t ≤ l) : ∃ v, A[t]? = some v ∧ MomIs L t v := by
  have hl : t < A.length := by rw [h.1]; omega
  exact ⟨_, List.getElem?_eq_getElem hl, h.2 t _ (List.getElem?_eq_getElem hl)⟩
theorem mom_in {L : List En} {x : En} {v : Int} (hd : Dst L) (hx : x ∈ L) (h : MomIs L x.t v) : v = (x.m : Nat) := by
  rcases h with ⟨y, hy, h1, h2⟩ | ⟨h1, _⟩
  · rw [h2, hd y hy x hx h1]
  · exact absurd rfl (h1 x hx)
theorem mom_no {L : List En} {t : Nat} {v : Int} (hx : ∀ x ∈ L, x.t ≠ t) (h : MomIs L t v) : v = -1 := by
  rcases h with ⟨y, hy, h1, _⟩ | ⟨_, h2⟩
  · exact absurd h1 (hx y hy)
  · exact h2
theorem at_step {A : List Int} {x : En} {R : List En} {l : Nat} (hs : Srt (x :: R)) (hd : Dst (x :: R)) (h : AtI A (x :: R) l) : AtI (A.set x.t (-1)) R l := by
  have := at_drop (t := x.t) h
  rwa [rmE_head hs hd] at this
theorem rest_gt {now : Nat} : ∀ {L : List En}, Srt L → ∀ x ∈ rest now L, now < x.m
  | [], _, x, hx => by cases hx
  | y :: R, hs, x, hx => by
    have h' := List.pairwise_cons.1 hs
    by_cases c : y.m ≤ now
    · have e : rest now (y :: R) = rest now R := by simp [rest, c]
      rw [e] at hx
      exact rest_gt h'.2 x hx
    · have e : rest now (y :: R) = y :: R := by simp [rest, c]
      rw [e] at hx
      rcases List.mem_cons.1 hx with rfl | hx
      · omega
      · have := h'.1 x hx
        unfold eLt at this
        omega
theorem srt_next {L : List En} {i : Nat} {p x : En} (hs : Srt L) (hp : L[i]? = some p) (hx : L[i + 1]? = some x) : eLt p x := by
  obtain ⟨h1, rfl⟩ := List.getElem?_eq_some_iff.1 hp
  obtain ⟨h2, rfl⟩ := List.getElem?_eq_some_iff.1 hx
  exact List.pairwise_iff_getElem.1 hs i (i + 1) h1 h2 (Nat.lt_succ_self _)
def iV (v : Int) : Value := .int .i64 v
/-- An agenda and a row of numbers, apart; nothing else has changed since w0 but blocks from B on. -/
structure OnR (w0 w : World) (B g l : Nat) (L : List En) (S : Nat → Prop) (a : Option Addr) (cap : Nat) (A : List Int) : Prop where
  ag : AgZ w S g l L
  row : RowV w (fun k => ¬ S k ∧ B ≤ k) a (A.map iV) cap
  sB : ∀ k, S k → B ≤ k
  sl : ∀ k, S k → k < w.heap.size
  hB : B ≤ w.heap.size
  hb : Below B w0 w
theorem OnR.call {w0 w w' : World} {B g l cap : Nat} {L : List En} {S : Nat → Prop} {a : Option Addr} {A : List Int} (h : OnR w0 w B g l L S a cap A) (hb : Below w.heap.size w w') : OnR w0 w' B g l L S a cap A :=
  ⟨h.ag.call hb, h.row.call hb, h.sB, fun k hk => Nat.lt_of_lt_of_le (h.sl k hk) hb.size, Nat.le_trans h.hB hb.size, h.hb.trans (hb.mono h.hB)⟩
theorem OnR.op {w0 w w' : World} {B g l l' cap : Nat} {L L' : List En} {S : Nat → Prop} {a : Option Addr} {A : List Int} (h : OnR w0 w B g l L S a cap A) (hA : AgZ w' (fun k => S k ∨ w.heap.size ≤ k) g l' L') (hO : Off (fun k => S k ∨ w.heap.size ≤ k) w w') :
    OnR w0 w' B g l' L' (fun k => (S k ∨ w.heap.size ≤ k) ∧ k < w'.heap.size) a cap A := by
  have hBs := h.hB
  refine ⟨hA.mono (fun k hk hz => ⟨hz, hk⟩), ?_, fun k hk => ?_, fun k hk => hk.2, Nat.le_trans h.hB hO.size, ⟨hO.os.trans h.hb.os, hO.tape.trans h.hb.tape, hO.output.trans h.hb.output, Nat.le_trans h.hb.size hO.size, fun k hk => (hO.block k (fun c => c.elim (fun c => by have := h.sB k c; omega) (fun c => by omega))).trans (h.hb.block k hk)⟩⟩
  · have hR : RowV w (fun k => (¬ S k ∧ B ≤ k) ∧ k < w.heap.size) a (A.map iV) cap := h.row.mono (fun k hk hz => ⟨hz, hk⟩)
    exact (hR.kept hO.size (fun k hk _ => hO.block k (fun c => c.elim hk.1.1 (fun c => by omega)))).mono (fun k _ hk => ⟨fun c => c.1.elim hk.1.1 (fun c => by omega), hk.1.2⟩)
  · rcases hk.1 with c | c
    · exact h.sB k c
    · omega
theorem OnR.at {w0 w : World} {B g l cap t : Nat} {L : List En} {S : Nat → Prop} {a : Option Addr} {A : List Int} {v : Int} (h : OnR w0 w B g l L S a cap A) (hv : A[t]? = some v) : ∃ q o, a = some ⟨q, o, none⟩ ∧ w.cell? ⟨q, o + t, none⟩ = some (.int .i64 v) ∧ (∀ j, w.frozen? ⟨q, j, none⟩ = false) ∧ q < w.heap.size ∧ ¬ S q ∧ B ≤ q := by
  have hj : (A.map iV)[t]? = some (iV v) := by rw [List.getElem?_map, hv]; rfl
  rcases h.row with ⟨_, h0, _⟩ | ⟨b, o, h1, h2, h3, h4, h5, h6, h7, h8⟩
  · rw [h0] at hj; simp at hj
  · exact ⟨b, o, h1, h6 t _ hj, h8, h3, h2.1, h2.2⟩
theorem OnR.set {w0 w : World} {B g l cap t q o : Nat} {L : List En} {S : Nat → Prop} {A : List Int} {v u : Int} (h : OnR w0 w B g l L S (some ⟨q, o, none⟩) cap A) (hv : A[t]? = some v) : OnR w0 (w.setCell ⟨q, o + t, none⟩ (.int .i64 u)) B g l L S (some ⟨q, o, none⟩) cap (A.set t u) := by
  obtain ⟨q', o', e, _, _, _, hq, hB⟩ := h.at hv
  cases e
  have hj : (A.map iV)[t]? = some (iV v) := by rw [List.getElem?_map, hv]; rfl
  have hb : ∀ k, k ≠ q → (w.setCell ⟨q, o + t, none⟩ (.int .i64 u)).heap[k]? = w.heap[k]? := fun k hk => Below.heap_setCell _ _ _ _ hk
  refine ⟨h.ag.kept (by rw [World.size_setCell]; exact Nat.le_refl _) (fun k hk _ => hb k (fun c => hq (by rw [← c]; exact hk))), ?_, h.sB, fun k hk => by rw [World.size_setCell]; exact h.sl k hk, by rw [World.size_setCell]; exact h.hB, ⟨h.hb.os, h.hb.tape, h.hb.output, by rw [World.size_setCell]; exact h.hb.size, fun k hk => (hb k (by omega)).trans (h.hb.block k hk)⟩⟩
  rw [List.map_set]
  exact h.row.put hj
theorem intI : ∃ i, Try.prog.info? 3 = some i ∧ i.zero = some (.int .i64 0) ∧ i.size = 1 ∧ i.bytes = 8 := by
  have h : (Try.prog.info? 3).map (fun i => (i.zero, i.size, i.bytes)) = some (some (.int .i64 0), 1, 8) := by kernel_rfl
  cases e : Try.prog.info? 3 with
  | none => rw [e] at h; cases h
  | some i =>
    rw [e] at h
    simp only [Option.map_some, Option.some.injEq, Prod.mk.injEq] at h
    exact ⟨i, rfl, h.1, h.2.1, h.2.2⟩
theorem OnR.app {w0 w : World} {B g l cap n : Nat} {L : List En} {S : Nat → Prop} {a : Option Addr} {A : List Int} (h : OnR w0 w B g l L S a cap A) (hn : n = A.length) (h5 : n ≤ 1000000) (u : Int) : ∃ a' cap' w', (Builtin.append_ #[40, 40] 40 #[.slice a n cap, .slice (some ⟨w.heap.size, 0, none⟩) 1 1]).run Try.prog (w.alloc (.cells #[.int .i64 u] 3)) = .ok (.slice a' (n + 1) cap') w' ∧ OnR w0 w' B g l L S a' cap' (A ++ [u]) := by
  have hb : Below w.heap.size w (w.alloc (.cells #[.int .i64 u] 3)) := below_alloc0 (Below.refl _ _) _
  have h' := h.call hb
  obtain ⟨i, hi, hz, hs, hby⟩ := intI
  have hl : (A.map iV).length = n := by rw [List.length_map, hn]
  obtain ⟨a', cap', w', hr, hR, hO⟩ := run_append_RowV (P := Try.prog) (w.alloc (.cells #[.int .i64 u] 3)) (fun k => ¬ S k ∧ B ≤ k) 40 40 3 i (.int .i64 0) 8 Try.underlying40 hi hz rfl hs hby a cap (A.map iV) [iV u] h'.row (by rw [hl]; show n + 1 ≤ maxLen; unfold maxLen; omega) (by rw [hl]; show (n + 1) * 8 ≤ _; omega) (fun k hk => ⟨fun c => by have := h'.sl k c; omega, by have := h'.hB; omega⟩) ⟨w.heap.size, 0, none⟩ 1 (fun j v hj => by
    match j, hj with
    | 0, hj => cases hj; rw [Addr.add_lit, Nat.zero_add, World.cell?_alloc_new]; rfl
    | j + 1, hj => simp at hj) (fun v hv => by rw [List.mem_singleton.1 hv]; rfl)
  rw [hl] at hr
  refine ⟨a', cap', w', hr, ⟨h'.ag.kept hO.size (fun k hk _ => hO.block k (fun c => c.1 hk)), by rw [List.map_append]; exact hR, h'.sB, fun k hk => Nat.lt_of_lt_of_le (h'.sl k hk) hO.size, Nat.le_trans h'.hB hO.size, ⟨hO.os.trans h'.hb.os, hO.tape.trans h'.hb.tape, hO.output.trans h'.hb.output, Nat.le_trans h'.hb.size hO.size, fun k hk => (hO.block k (fun c => by have := c.2; omega)).trans (h'.hb.block k hk)⟩⟩⟩
end Go.Proofs.Ytkgfeiigdhbddaa
