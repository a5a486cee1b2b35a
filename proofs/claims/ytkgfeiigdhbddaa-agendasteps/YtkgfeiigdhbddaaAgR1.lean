/- The reference's agenda: put, take. -/
import Derived.Test.YtkgfeiigdhbddaaAgH1
namespace Go.Proofs.Ytkgfeiigdhbddaa
open Go Go.RowKit Go.Lib
/-- A slice of entries in memory, cut at its beginning perhaps. -/
def EnsAt (w : World) (F : Nat → Prop) (a : Option Addr) (L : List En) : Prop := ∀ k x, L[k]? = some x → ∃ q o, a = some ⟨q, o, none⟩ ∧ F q ∧ q < w.heap.size ∧ w.cell? ⟨q, o + k * 3, none⟩ = some (.int .i64 (x.t : Nat)) ∧ w.cell? ⟨q, o + k * 3 + 1, none⟩ = some (.int .i64 (x.m : Nat)) ∧ w.cell? ⟨q, o + k * 3 + 2, none⟩ = some (.string x.s)
theorem EnsAt.kept {w w' : World} {F : Nat → Prop} {a : Option Addr} {L : List En} (h : EnsAt w F a L) (hz : w.heap.size ≤ w'.heap.size) (hb : ∀ k, F k → k < w.heap.size → w'.heap[k]? = w.heap[k]?) : EnsAt w' F a L := fun k x hk => by
  obtain ⟨q, o, h1, h2, h3, h4, h5, h6⟩ := h k x hk
  have e : ∀ j, w'.cell? ⟨q, j, none⟩ = w.cell? ⟨q, j, none⟩ := fun j => World.cell?_of_block (w := w) (a := ⟨q, j, none⟩) (hb q h2 h3)
  exact ⟨q, o, h1, h2, Nat.lt_of_lt_of_le h3 hz, (e _).trans h4, (e _).trans h5, (e _).trans h6⟩
theorem EnsAt.call {w w' : World} {F : Nat → Prop} {a : Option Addr} {L : List En} (h : EnsAt w F a L) (hb : Below w.heap.size w w') : EnsAt w' F a L := h.kept hb.size (fun k _ hk => hb.block k hk)
theorem EnsAt.mono {w : World} {F G : Nat → Prop} {a : Option Addr} {L : List En} (h : EnsAt w F a L) (hg : ∀ k, k < w.heap.size → F k → G k) : EnsAt w G a L := fun k x hk => by
  obtain ⟨q, o, h1, h2, h3, h4⟩ := h k x hk
  exact ⟨q, o, h1, hg q h3 h2, h3, h4⟩
theorem EnsAt.nil (w : World) (F : Nat → Prop) (a : Option Addr) : EnsAt w F a [] := fun k x hk => by simp at hk
theorem EnsAt.of_row {w : World} {F : Nat → Prop} {a : Option Addr} {cap n : Nat} {L : List En} (h : RwO w a cap n (enF L)) (hn : n = L.length) (hF : ∀ q, a = some ⟨q, 0, none⟩ → F q) : EnsAt w F a L := fun k x hk => by
  have hl : k < L.length := (List.getElem?_eq_some_iff.1 hk).1
  rcases h with ⟨_, h0, _⟩ | ⟨q, ha, h⟩
  · omega
  · have e : enF L k = x := by unfold enF; simp [List.getD, hk]
    have c0 := h.c0 k (by omega)
    have c1 := h.c1 k (by omega)
    have c2 := h.c2 k (by omega)
    rw [e] at c0 c1 c2
    exact ⟨q, 0, ha, hF q ha, h.lt, by rw [Nat.zero_add]; exact c0, by rw [Nat.zero_add]; exact c1, by rw [Nat.zero_add]; exact c2⟩
/-- The reference's agenda at block r. -/
structure RefA (w : World) (Z : Nat → Prop) (r l : Nat) (L : List En) : Prop where
  zr : Z r
  rl : r < w.heap.size
  fr : ∀ o, w.frozen? ⟨r, o, none⟩ = false
  c0 : ∃ a cap, w.cell? ⟨r, 0, none⟩ = some (.slice a L.length cap) ∧ (L.length ≤ cap ∧ (a = none → cap = 0) ∧ ∀ b, a = some b → b.spot = none) ∧ EnsAt w (fun k => Z k ∧ k ≠ r) a L
  c1 : w.cell? ⟨r, 1, none⟩ = some (.int .i64 (l : Nat))
theorem RefA.kept {w w' : World} {Z : Nat → Prop} {r l : Nat} {L : List En} (h : RefA w Z r l L) (hz : w.heap.size ≤ w'.heap.size) (hb : ∀ k, Z k → k < w.heap.size → w'.heap[k]? = w.heap[k]?) : RefA w' Z r l L := by
  obtain ⟨a, cap, h0, h1, h2⟩ := h.c0
  have e : ∀ j, w'.cell? ⟨r, j, none⟩ = w.cell? ⟨r, j, none⟩ := fun j => World.cell?_of_block (w := w) (a := ⟨r, j, none⟩) (hb r h.zr h.rl)
  exact ⟨h.zr, Nat.lt_of_lt_of_le h.rl hz, fun o => (World.frozen?_of_block (w := w) (a := ⟨r, o, none⟩) (hb r h.zr h.rl)).trans (h.fr o), ⟨a, cap, (e _).trans h0, h1, h2.kept hz (fun k hk => hb k hk.1)⟩, (e _).trans h.c1⟩
theorem RefA.call {w w' : World} {Z : Nat → Prop} {r l : Nat} {L : List En} (h : RefA w Z r l L) (hb : Below w.heap.size w w') : RefA w' Z r l L := h.kept hb.size (fun k _ hk => hb.block k hk)
theorem RefA.mono {w : World} {Z G : Nat → Prop} {r l : Nat} {L : List En} (h : RefA w Z r l L) (hg : ∀ k, k < w.heap.size → Z k → G k) : RefA w G r l L := by
  obtain ⟨a, cap, h0, h1, h2⟩ := h.c0
  exact ⟨hg r h.rl h.zr, h.rl, h.fr, ⟨a, cap, h0, h1, h2.mono (fun k hk hz => ⟨hg k hk hz.1, hz.2⟩)⟩, h.c1⟩
theorem moment_any (n : Int) (w : World) : Calls Try.prog 30 #[.int .i64 n] w fun e w' => e = .returned (.bool (decide (0 ≤ n ∧ n ≤ 1099511627776))) ∧ w' = w := by
  by_cases h1 : 0 ≤ n
  · by_cases h2 : n ≤ 1099511627776
    · rw [decide_eq_true (show 0 ≤ n ∧ n ≤ 1099511627776 from ⟨h1, h2⟩)]
      go_enter Try.func30, Try.ntmps30
      go_wp2
      go_ret
      exact ⟨rfl, rfl⟩
    · rw [decide_eq_false (show ¬ (0 ≤ n ∧ n ≤ 1099511627776) from fun c => h2 c.2)]
      go_enter Try.func30, Try.ntmps30
      go_wp2
      go_ret
      exact ⟨rfl, rfl⟩
  · rw [decide_eq_false (show ¬ (0 ≤ n ∧ n ≤ 1099511627776) from fun c => h1 c.1)]
    go_enter Try.func30, Try.ntmps30
    go_wp2
    go_ret
    exact ⟨rfl, rfl⟩
/-- A row of the call's own, in blocks from B on. -/
structure OwR (w : World) (B : Nat) (a : Option Addr) (cap m : Nat) (T : List En) : Prop where
  ml : m = T.length
  row : RwO w a cap m (enF T)
  own : ∀ q, a = some ⟨q, 0, none⟩ → B ≤ q
theorem OwR.nil (w : World) (B : Nat) : OwR w B none 0 0 [] := ⟨rfl, .inl ⟨rfl, rfl, rfl⟩, fun q h => by cases h⟩
theorem OwR.call {w w' : World} {B cap m : Nat} {a : Option Addr} {T : List En} (h : OwR w B a cap m T) (hb : Below w.heap.size w w') : OwR w' B a cap m T := ⟨h.ml, h.row.call hb, h.own⟩
theorem OwR.snoc {w : World} {B cap m : Nat} {a : Option Addr} {T : List En} {x : En} (h : OwR w B a cap m T) (hB : B ≤ w.heap.size) (hm : m ≤ 1000000) (b c : Nat) (hc : ∀ j u, (enV x)[j]? = some u → w.cell? ⟨b, j, none⟩ = some u) :
    ∃ q' cap' w', (Builtin.append_ #[27, 27] 27 #[.slice a m cap, .slice (some ⟨b, 0, none⟩) 1 c]).run Try.prog w = .ok (.slice (some ⟨q', 0, none⟩) (m + 1) cap') w' ∧ OwR w' B (some ⟨q', 0, none⟩) cap' (m + 1) (T ++ [x]) ∧ Below B w w' ∧ ∀ k, k < w.heap.size → a ≠ some ⟨k, 0, none⟩ → w'.heap[k]? = w.heap[k]? := by
  obtain ⟨q', cap', w', hr, hA⟩ := run_append_Rw w 27 27 38 enI_ref a cap m (enF T) x h.row hm b c hc
  refine ⟨q', cap', w', hr, ⟨by rw [List.length_append, h.ml]; rfl, RwO.some (hA.row.eqf (fun k hk => by rw [h.ml]; exact enF_snoc T x k (by rw [← h.ml]; exact hk))), fun q hq => ?_⟩, ⟨hA.os, hA.tape, hA.output, hA.size, fun k hk => hA.block k (by omega) (fun c => by have := h.own k c; omega)⟩, hA.block⟩
  cases hq
  rcases hA.own with c | c
  · exact h.own _ c
  · omega
/-- What put has laid out when k of L were looked at. -/
def insP (e : En) (L : List En) : Nat → List En × Bool
  | 0 => ([], false)
  | k + 1 => match L[k]? with
    | none => insP e L k
    | some x => if (insP e L k).2 = false ∧ eLt e x then ((insP e L k).1 ++ [e, x], true) else ((insP e L k).1 ++ [x], (insP e L k).2)
end Go.Proofs.Ytkgfeiigdhbddaa
