/- A range over an iterator that writes a variable of its own (a box): a law of my own over the library's base law; no program in sight. -/
import Derived.Test.YtdnahobafhelhaaDoorRowB
import Derived.RangeFuncNested
import Derived.RangeFuncBound
import Derived.RangeFuncCalls
import Derived.RangeFuncLeaves
import Derived.OwnWalkIn
namespace Go.Proofs.YtdnahobafhelhaaDoor
open Go Go.RowKit Go.Lib

/-- What stays while the iterator itself goes on: every block but its box, and new ones. -/
def Steady {α : Type} (c : Nat) (J : List α → World → Prop) : Prop := ∀ s A B, J s A → Off (fun k => k = c ∨ A.heap.size ≤ k) A B → J s B
/-- What an iterator with a box at c promises: all of xs come, or a beginning. A round keeps every block but those of X and the loop's record l; the blocks of Kp, which the iterator reads, are none of X. -/
def TellsB {α : Type} (F : Fence) (n : Nat) (P : Program) (g : Nat) (lb : Array Value) (encs : α → Array Value) (c : Nat) (Kp : Nat → Prop) (xs : List α) (w : World) : Prop :=
  ∀ (l : Nat) (X : Nat → Prop) (J Jx : List α → World → Prop) (W : World), Below w.heap.size w W → Steady c J → Steady c Jx → (∀ k, Kp k → ¬ X k) → w.heap.size ≤ l →
    (∀ pre x W1, pre ++ [x] <+: xs → J pre W1 → YieldAt F (n - 1) P l (encs x) W1 fun e W' =>
      (e = .returned (.bool true) ∧ J (pre ++ [x]) W' ∧ Off (fun k => X k ∨ k = l ∨ W1.heap.size ≤ k) W1 W') ∨ (e = .returned (.bool false) ∧ Jx (pre ++ [x]) W')) →
    J [] W → CallsIn F n P g (#[.func (.yield l) #[] #[]] ++ lb) W fun e W' => (∃ v, e = .returned v) ∧ (J xs W' ∨ ∃ pre, pre <+: xs ∧ Jx pre W')
/-- How a round may be left: it goes on, or breaks. -/
def leftB {α : Type} (D : Nat) (X : Nat → Prop) (I : List α → World → Prop) (Ix : Nat → List α → World → Prop) (xs : List α) (W : World) : Exit → Act → World → Prop
  | .normal, _, W' => Off (fun k => X k ∨ W.heap.size ≤ k) W W' ∧ I xs W'
  | .exit id, _, W' => (W'.heap[D]? = W.heap[D]? ∧ W'.heap[D + 1]? = W.heap[D + 1]?) ∧ Ix id xs W'
  | _, _, _ => False
theorem Off.mono' {P Q : Nat → Prop} {w w' : World} (h : Off P w w') (hp : ∀ k, P k → Q k) : Off Q w w' := ⟨h.os, h.tape, h.output, h.size, fun k hk => h.block k fun c => hk (hp k c)⟩
theorem Off.put (w : World) (l : Nat) (o : Obj) : Off (fun k => k = l) w (w.putObj l o) := ⟨rfl, rfl, rfl, by simp, fun k hk => World.putObj_heap_other (fun e => hk (by rw [e]))⟩
theorem some_lt {w : World} {k : Nat} {o : Obj} (h : w.heap[k]? = some o) : k < w.heap.size := (Array.getElem?_eq_some_iff.1 h).1

variable {F : Fence} {n : Nat} {P : Program}
theorem wpIn_rangeFunc_box {α : Type} {g : Operand} {ps : Array Tmp} {assign body : Code} {Q : Exit → Act → World → Prop} {a : Act} {w : World}
    {D : Nat} (hD : D = w.heap.size) (hro : F.round = none) (h1 : 1 ≤ n) {gf : Nat} {lb : Array Value} (hg : a.eval g = .func (.func gf) #[] lb) (hFg : F.fn gf) (eg : ∀ args w, (callFunc gf args).run P w = .ok (.enter gf args) w)
    {encs : α → Array Value} (hps : ∀ x, (encs x).size = ps.size) {c : Nat} (hc : c < D) {xs : List α} {w0 : World} {Kp : Nat → Prop} (hseq : TellsB F (n - 1) P gf lb encs c Kp xs w0) (hb0 : Below w0.heap.size w0 w)
    (X : Nat → Prop) (hX0 : ∀ k, Kp k → ¬ X k) (hXD : ¬ X D) (hXl : ¬ X (D + 1))
    (I : List α → World → Prop) (Ix : Nat → List α → World → Prop)
    (hI : ∀ s A B, I s A → Off (fun k => k = c ∨ k = D ∨ k = D + 1 ∨ A.heap.size ≤ k) A B → I s B)
    (hIx : ∀ i s A B, Ix i s A → Off (fun k => k = c ∨ k = D ∨ k = D + 1 ∨ A.heap.size ≤ k) A B → Ix i s B) (h0 : I [] w) (a₁ : α → Act)
    (hassign : ∀ (x : α) (W : World) (K : Act → World → Prop), K (a₁ x) W →
      assign.wpIn (F.inRound (D + 1)) (n - 1 - 1) P (Exit.then K (fun _ _ _ => False)) { tmps := (ps.zip (encs x)).foldl (fun t (p, v) => t.setIfInBounds p v) a.tmps, defers := [] } W)
    (hbody : ∀ (pre : List α) (x : α) (W : World), pre ++ [x] <+: xs → I pre W → D + 1 < W.heap.size → body.wpIn (F.inRound (D + 1)) (n - 1 - 1) P (leftB D X I Ix (pre ++ [x]) W) (a₁ x) W)
    (hdone : ∀ (W : World), I xs W → W.heap[D]? = some (.deferred (some [])) → Q .normal { a with defers := { target := .collected D, args := #[] } :: a.defers } W)
    (hstop : ∀ (id : Nat) (pre : List α) (W : World), pre <+: xs → Ix id pre W → W.heap[D]? = some (.deferred (some [])) → (Code.exit id).wpIn F n P Q { a with defers := { target := .collected D, args := #[] } :: a.defers } W) :
    (Code.rangeFunc g ps assign body).wpIn F n P Q a w := by
  refine wpIn_rangeFunc fun fn hfn => ?_
  rw [hro]
  obtain ⟨r, hr⟩ : ∃ r : LoopState → Option Code → Loop, ∀ st pe, r st pe = { state := st, pending := pe, fn := fn, tmps := a.tmps, params := ps, assign := assign, body := body, defers := D } := ⟨_, fun _ _ => rfl⟩
  obtain ⟨W1, hW1⟩ : ∃ W1, W1 = (w.alloc (.deferred (some []))).alloc (.loop (r .ready none)) := ⟨_, rfl⟩
  have bW : Below D w W1 := by
    rw [hW1, hD]
    exact below_alloc0 (below_alloc0 (Below.refl _ _) _) _
  have l1 : W1.heap[D + 1]? = some (.loop (r .ready none)) := by
    have e := World.alloc_heap_new (w.alloc (.deferred (some []))) (.loop (r .ready none))
    rw [World.size_alloc, ← hD] at e
    rw [hW1]
    exact e
  have k1 : W1.heap[D]? = some (.deferred (some [])) := by
    rw [hW1, Below.heap_alloc _ _ _ (by rw [World.size_alloc]; omega), hD]
    exact World.alloc_heap_new w _
  have i1 : I [] W1 := hI _ _ _ h0 (Off.of_below bW fun k hk => .inr (.inr (.inr (by omega))))
  have st : ∀ (J : World → Prop) (L : Obj), (∀ A B, J A → Off (fun k => k = c ∨ k = D ∨ k = D + 1 ∨ A.heap.size ≤ k) A B → J B) →
      ∀ A B, (J A ∧ A.heap[D + 1]? = some L ∧ A.heap[D]? = some (.deferred (some []))) → Off (fun k => k = c ∨ A.heap.size ≤ k) A B → (J B ∧ B.heap[D + 1]? = some L ∧ B.heap[D]? = some (.deferred (some []))) := by
    rintro J L hJ A B ⟨hj, hl, hk⟩ ho
    have hlt := some_lt hl
    exact ⟨hJ _ _ hj (ho.mono' fun k hk => hk.elim .inl fun h => .inr (.inr (.inr h))), (ho.block _ (by omega)).trans hl, (ho.block _ (by omega)).trans hk⟩
  refine ⟨D + 1, [{ target := .collected D, args := #[] }], W1, { target := .fn (.func gf) lb, args := #[.func (.yield (D + 1)) #[] #[]] }, W1, gf, #[.func (.yield (D + 1)) #[] #[]] ++ lb, W1, ?_, ?_, ?_, ?_, fun _ => h1, ?_⟩
  · rw [hW1, hr]
    subst hD
    exact run_enterLoop_outer _ _ _ _ _
  · simp only [resolve, hg]
    simp [go_sem]
  · intro f' hf'
    simp [Target.leads] at hf'
    subst hf'
    exact hFg
  · simp [invoke, go_sem, eg]
  refine (hseq (D + 1) X (fun pre W => I pre W ∧ W.heap[D + 1]? = some (.loop (r .ready none)) ∧ W.heap[D]? = some (.deferred (some [])))
    (fun pre W => ∃ id, Ix id pre W ∧ W.heap[D + 1]? = some (.loop (r .done (some (.exit id)))) ∧ W.heap[D]? = some (.deferred (some []))) W1
    (hb0.trans (bW.mono (by rw [hD]; exact hb0.size))) (fun s A B hs ho => st (I s) _ (hI s) A B hs ho) (fun s A B ⟨id, hs⟩ ho => ⟨id, st (Ix id s) _ (hIx id s) A B hs ho⟩)
    hX0 (by have := hb0.size; omega) ?_ ⟨i1, l1, k1⟩).mono ?_
  · rintro pre x W hp0 ⟨hi, hl, hk⟩
    have hlt := some_lt hl
    have hy := run_yield (P := P) (args := encs x) hl (by rw [hr]; exact hps x)
    rw [hr] at hy
    refine ⟨fn, _, assign, body, hy, roundIn_of_wpIn hfn (hassign x W _ ⟨_, run_beginRound hl (by rw [hr]), ?_⟩)⟩
    obtain ⟨V, hV⟩ : ∃ V, V = W.putObj (D + 1) (.loop { r .ready none with state := .busy }) := ⟨_, rfl⟩
    have oV : Off (fun k => k = D + 1) W V := by rw [hV]; exact Off.put _ _ _
    have lV : V.heap[D + 1]? = some (.loop (r .busy none)) := by
      rw [hV, World.putObj_heap_same hlt]
      simp only [hr]
    have kV : V.heap[D]? = some (.deferred (some [])) := (oV.block _ (by omega)).trans hk
    have iV : I pre V := hI _ _ _ hi (oV.mono' fun k h => .inr (.inr (.inl h)))
    rw [← hV]
    refine wpIn_mono (hbody pre x V hp0 iV (some_lt lV)) ?_
    rintro e a3 Z hp
    cases e with
    | normal =>
      obtain ⟨hoff, hiZ⟩ := hp
      have lZ : Z.heap[D + 1]? = some (.loop (r .busy none)) := (hoff.block _ (by rintro (h | h); exact hXl h; exact absurd (some_lt lV) (by omega))).trans lV
      have kZ : Z.heap[D]? = some (.deferred (some [])) := (hoff.block _ (by rintro (h | h); exact hXD h; exact absurd (some_lt kV) (by omega))).trans kV
      have hE := run_endRound (P := P) none lZ
      have oZ := Off.put Z (D + 1) (.loop { r .busy none with state := if (none : Option Code).isNone then .ready else .done, pending := none })
      refine ⟨_, _, hE, .inl ⟨rfl, ⟨hI _ _ _ hiZ (oZ.mono' fun k h => .inr (.inr (.inl h))), ?_, (oZ.block _ (by omega)).trans kZ⟩, ?_⟩⟩
      · rw [World.putObj_heap_same (some_lt lZ)]
        simp [hr]
      · refine (oV.mono' fun k h => .inr (.inl h)).trans ((hoff.mono' fun k h => ?_).trans (oZ.mono' fun k h => .inr (.inl h)))
        rcases h with h | h
        · exact .inl h
        · exact .inr (.inr (Nat.le_trans oV.size h))
    | exit id =>
      obtain ⟨⟨hd, hl'⟩, hiZ⟩ := hp
      have lZ : Z.heap[D + 1]? = some (.loop (r .busy none)) := hl'.trans lV
      have kZ : Z.heap[D]? = some (.deferred (some [])) := hd.trans kV
      have hE := run_endRound (P := P) (some (.exit id)) lZ
      have oZ := Off.put Z (D + 1) (.loop { r .busy none with state := if (some (Code.exit id)).isNone then .ready else .done, pending := some (.exit id) })
      refine ⟨_, _, hE, .inr ⟨rfl, id, hIx _ _ _ _ hiZ (oZ.mono' fun k h => .inr (.inr (.inl h))), ?_, (oZ.block _ (by omega)).trans kZ⟩⟩
      rw [World.putObj_heap_same (some_lt lZ)]
      simp [hr]
    | ret => exact hp.elim
    | goto t => exact hp.elim
    | panic ch => exact hp.elim
    | outgrown => exact hp.elim
  · rintro e Z ⟨⟨v, rfl⟩, (⟨hi, hl, hk⟩ | ⟨pre, hpre, id, hi, hl, hk⟩)⟩
    · have hE := run_endLoop (P := P) hl (by rw [hr]; simp)
      rw [show (r .ready none).pending = none by rw [hr]] at hE
      refine ⟨none, _, hE, ?_⟩
      exact hdone _ (hI _ _ _ hi ((Off.put Z (D + 1) _).mono' fun k h => .inr (.inr (.inl h)))) (((Off.put Z (D + 1) _).block _ (by omega)).trans hk)
    · have hE := run_endLoop (P := P) hl (by rw [hr]; simp)
      rw [show (r .done (some (.exit id))).pending = some (.exit id) by rw [hr]] at hE
      refine ⟨some (.exit id), _, hE, ?_⟩
      exact hstop id pre _ hpre (hIx _ _ _ _ hi ((Off.put Z (D + 1) _).mono' fun k h => .inr (.inr (.inl h)))) (((Off.put Z (D + 1) _).block _ (by omega)).trans hk)
end Go.Proofs.YtdnahobafhelhaaDoor
