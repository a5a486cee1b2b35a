/- Blocks are coloured by their owners: what one owner does leaves the others' blocks alone. The two ends that send, as the law meets them. -/
import Derived.Test.YtadcjdffjhiniaaLkQ
namespace Go.Proofs.Ytadcjdffjhiniaa
open Go Go.RowKit Go.Lib

/-- The blocks that were made from w to w' are the owner's. -/
def paint (c : Nat → Nat) (w w' : World) (i : Nat) : Nat → Nat := fun k => if w.heap.size ≤ k ∧ k < w'.heap.size then i else c k
theorem paint_old {c : Nat → Nat} {w w' : World} {i k : Nat} (h : k < w.heap.size) : paint c w w' i k = c k := if_neg (fun q => absurd q.1 (Nat.not_le_of_lt h))
theorem paint_new {c : Nat → Nat} {w w' : World} {i k : Nat} (h : w.heap.size ≤ k) (h2 : k < w'.heap.size) : paint c w w' i k = i := if_pos ⟨h, h2⟩
/-- All is as it was but for the blocks of colours i and j, and new ones. -/
def Chg (w : World) (c : Nat → Nat) (i j : Nat) (w' : World) : Prop := Off (fun k => c k = i ∨ c k = j ∨ w.heap.size ≤ k) w w'
theorem Chg.of_below {w w' : World} {c : Nat → Nat} {i j : Nat} (h : Below w.heap.size w w') : Chg w c i j w' := Off.of_below h (fun _ hk => .inr (.inr hk))
theorem Chg.block {w w' : World} {c : Nat → Nat} {i j k : Nat} (h : Chg w c i j w') (hk : k < w.heap.size) (hi : c k ≠ i) (hj : c k ≠ j) : w'.heap[k]? = w.heap[k]? :=
  Off.block h k (fun q => q.elim hi (fun q => q.elim hj (fun q => absurd q (Nat.not_le_of_lt hk))))
theorem Chg.cell {w w' : World} {c : Nat → Nat} {i j b o : Nat} (h : Chg w c i j w') (hk : b < w.heap.size) (hi : c b ≠ i) (hj : c b ≠ j) : w'.cell? ⟨b, o, none⟩ = w.cell? ⟨b, o, none⟩ := World.cell?_of_block (w := w) (a := ⟨b, o, none⟩) (h.block hk hi hj)
theorem Chg.under {w w' : World} {c : Nat → Nat} {i j B : Nat} (h : Chg w c i j w') (hB : ∀ k, k < B → k < w.heap.size ∧ c k = 0) (hi : i ≠ 0) (hj : j ≠ 0) : Below B w w' :=
  ⟨Off.os h, Off.tape h, Off.output h, Off.size h, fun k hk => h.block (hB k hk).1 (fun q => hi (q.symm.trans (hB k hk).2)) (fun q => hj (q.symm.trans (hB k hk).2))⟩
/-- An end that sends, of colour i, its own block of colour j. -/
def Snd (w : World) (c : Nat → Nat) (i j G life last : Nat) (t : List ByteArray) : Prop := c G = j ∧ i ≠ j ∧ SenderAt w G (fun k => c k = i ∨ w.heap.size ≤ k) life last t
theorem Snd.lt {w : World} {c : Nat → Nat} {i j G life last : Nat} {t : List ByteArray} (h : Snd w c i j G life last t) : G < w.heap.size := h.2.2.lt
theorem SenderAt.mono {w : World} {g life last : Nat} {F Q : Nat → Prop} {l : List ByteArray} (h : SenderAt w g F life last l) (hg : ¬ Q g) (hB : ∀ k, w.heap.size ≤ k → Q k) (hq : ∀ k, k < w.heap.size → F k → Q k) : SenderAt w g Q life last l := by
  obtain ⟨a, cap, c0, c1, c2, fz, _, _, hR⟩ := h
  exact ⟨a, cap, c0, c1, c2, fz, hg, hB, hR.mono hq⟩
theorem Snd.op {w : World} {c : Nat → Nat} {i j G life last life' last' : Nat} {t t' : List ByteArray} {f : FuncId} {args : Array Value} {X : Ending} (h : Snd w c i j G life last t)
    (hc : ∀ F, SenderAt w G F life last t → Calls Try.prog f args w fun e w' => e = X ∧ SenderAt w' G F life' last' t' ∧ But G F w w') :
    Calls Try.prog f args w fun e w' => e = X ∧ Snd w' (paint c w w' i) i j G life' last' t' ∧ Chg w c i j w' := by
  refine (hc _ h.2.2).mono ?_
  rintro e w' ⟨rfl, hS, hb⟩
  have hlt := h.lt
  refine ⟨rfl, ⟨by rw [paint_old hlt]; exact h.1, h.2.1, hS.mono (fun q => ?_) (fun k hk => .inr hk) (fun k hk hF => ?_)⟩, ?_⟩
  · rcases q with q | q
    · rw [paint_old hlt, h.1] at q; exact h.2.1 q.symm
    · exact absurd hlt (Nat.not_lt_of_le (Nat.le_trans hb.size q))
  · left
    by_cases q : k < w.heap.size
    · rw [paint_old q]; exact hF.resolve_right (Nat.not_le_of_lt q)
    · exact paint_new (Nat.le_of_not_lt q) hk
  · refine ⟨hb.os, hb.tape, hb.output, hb.size, fun k hk => hb.block k (fun q => hk (q.elim .inl (fun q => .inr (.inr q)))) (fun q => hk (.inr (.inl (by rw [q]; exact h.1))))⟩
theorem Snd.keep {w w' : World} {c : Nat → Nat} {i j G life last a b : Nat} {t : List ByteArray} (h : Snd w c i j G life last t) (hb : Chg w c a b w') (h1 : i ≠ a) (h2 : i ≠ b) (h3 : j ≠ a) (h4 : j ≠ b) : Snd w' (paint c w w' a) i j G life last t := by
  have hlt := h.lt
  refine ⟨by rw [paint_old hlt]; exact h.1, h.2.1, ?_⟩
  have hk := hb.block hlt (by rw [h.1]; exact h3) (by rw [h.1]; exact h4)
  obtain ⟨p, cap, c0, c1, c2, fz, hg, hB, hR⟩ := h.2.2
  refine ⟨p, cap, (World.cell?_of_block (w := w) (a := ⟨G, 0, none⟩) hk).trans c0, (World.cell?_of_block (w := w) (a := ⟨G, 1, none⟩) hk).trans c1, (World.cell?_of_block (w := w) (a := ⟨G, 2, none⟩) hk).trans c2, fun o => (World.frozen?_of_block (w := w) (a := ⟨G, o, none⟩) hk).trans (fz o), fun q => ?_, fun k hk => .inr hk, ?_⟩
  · rcases q with q | q
    · rw [paint_old hlt, h.1] at q; exact h.2.1 q.symm
    · exact absurd hlt (Nat.not_lt_of_le (Nat.le_trans (Off.size hb) q))
  · rcases hR with hR | ⟨bb, o, h5, h6, h7, h8⟩
    · exact .inl hR
    · have hcb : c bb = i := h6.resolve_right (Nat.not_le_of_lt h7)
      have hR : RowV w (fun k => k = bb) p (t.map Value.string) cap := .inr ⟨bb, o, h5, rfl, h7, h8⟩
      exact (hR.kept (Off.size hb) (fun k hk hz => by subst hk; exact hb.block hz (by rw [hcb]; exact h1) (by rw [hcb]; exact h2))).mono (fun k _ hk => by subst hk; left; rw [paint_old h7]; exact hcb)
theorem Snd.call {w w' : World} {c : Nat → Nat} {i j G life last : Nat} {t : List ByteArray} (h : Snd w c i j G life last t) (hb : Below w.heap.size w w') (hi : i ≠ 0) (hj : j ≠ 0) : Snd w' (paint c w w' 0) i j G life last t :=
  h.keep (a := 0) (b := 0) (Chg.of_below hb) hi hi hj hj

/-- What Push answers: the number, why not; the texts behind it. -/
def psR (s : ByteArray) (gone : Nat) (L : List ByteArray) : Nat × Int × List ByteArray :=
  if 7900 < s.size then (0, 2, L) else if 64 ≤ L.length - gone then (0, 5, L) else (L.length + 1, 0, L ++ [s])
theorem psR_le {s : ByteArray} {gone : Nat} {L : List ByteArray} (hg : gone ≤ L.length) (hz : ∀ s ∈ L, s.size ≤ 7900) : gone ≤ (psR s gone L).2.2.length ∧ (psR s gone L).2.2.length ≤ L.length + 1 ∧ ∀ s' ∈ (psR s gone L).2.2, s'.size ≤ 7900 := by
  unfold psR
  split
  · exact ⟨hg, Nat.le_succ _, hz⟩
  · next c =>
    split
    · exact ⟨hg, Nat.le_succ _, hz⟩
    · refine ⟨?_, ?_, ?_⟩
      · simp only [List.length_append]; omega
      · simp only [List.length_append, List.length_cons, List.length_nil]; omega
      · intro s' hs'
        simp only [List.mem_append, List.mem_cons, List.not_mem_nil, or_false] at hs'
        rcases hs' with q | rfl
        · exact hz s' q
        · omega
theorem but_same {w : World} {g : Nat} {F : Nat → Prop} : But g F w w := But.refl _ _ _
theorem SenderAt.all {w : World} {g life last : Nat} {F : Nat → Prop} {l : List ByteArray} (h : SenderAt w g F life last l) : ∀ k, w.heap.size ≤ k → F k := by
  obtain ⟨a, cap, _, _, _, _, _, hB, _⟩ := h; exact hB
theorem push_all (g : Nat) (F : Nat → Prop) (life gone : Nat) (L : List ByteArray) (s : ByteArray) (hg : gone ≤ L.length) (hL : L.length < 1000000) (w : World) (hS : SenderAt w g F life L.length (L.drop gone)) :
    Calls Try.prog 10 #[.pointer (some ⟨g, 0, none⟩), .string s] w fun e w' => e = .returned (.tuple #[.int .i64 ((psR s gone L).1 : Nat), .int .i64 (psR s gone L).2.1]) ∧ SenderAt w' g F life (psR s gone L).2.2.length ((psR s gone L).2.2.drop gone) ∧ But g F w w' := by
  unfold psR
  by_cases h1 : 7900 < s.size
  · rw [if_pos h1]
    exact (push_long _ s h1 w).mono fun e w' ⟨h, h'⟩ => by subst h'; exact ⟨h, hS, but_same⟩
  · rw [if_neg h1]
    by_cases h2 : 64 ≤ L.length - gone
    · rw [if_pos h2]
      exact (push_full g F life L.length (L.drop gone) s h1 (by rw [List.length_drop]; exact h2) w hS).mono fun e w' ⟨h, h'⟩ => by subst h'; exact ⟨h, hS, but_same⟩
    · rw [if_neg h2]
      refine (push_ok g F life L.length (L.drop gone) s h1 (by rw [List.length_drop]; omega) (by omega) w hS).mono fun e w' ⟨h, h', h''⟩ => ⟨h, ?_, h''⟩
      have e1 : (L ++ [s]).length = L.length + 1 := by simp
      have e2 : (L ++ [s]).drop gone = L.drop gone ++ [s] := by rw [List.drop_append_of_le_length hg]
      show SenderAt w' g F life (L ++ [s]).length ((L ++ [s]).drop gone)
      rw [e1, e2]; exact h'
theorem rpush_all (g : Nat) (F : Nat → Prop) (life gone : Nat) (L : List ByteArray) (s : ByteArray) (hg : gone ≤ L.length) (hL : L.length < 1000000) (w : World) (hS : SenderAt w g F life gone L) :
    Calls Try.prog 11 #[.pointer (some ⟨g, 0, none⟩), .string s] w fun e w' => e = .returned (.tuple #[.int .i64 ((psR s gone L).1 : Nat), .int .i64 (psR s gone L).2.1]) ∧ SenderAt w' g F life gone (psR s gone L).2.2 ∧ But g F w w' := by
  unfold psR
  by_cases h1 : 7900 < s.size
  · rw [if_pos h1]
    exact (rpush_long _ s h1 w).mono fun e w' ⟨h, h'⟩ => by subst h'; exact ⟨h, hS, but_same⟩
  · rw [if_neg h1]
    by_cases h2 : 64 ≤ L.length - gone
    · rw [if_pos h2]
      exact (rpush_full g F life gone L (by omega) hg s h1 h2 w hS).mono fun e w' ⟨h, h'⟩ => ⟨h, hS.call h', But.of_off (Off.of_below h' hS.all)⟩
    · rw [if_neg h2]
      exact rpush_ok g F life gone L (by omega) hg s h1 h2 w hS
theorem heard_all (g : Nat) (F : Nat → Prop) (life gone : Nat) (L : List ByteArray) (s : ByteArray) (hs : s.size < 140737488351233) (hg : gone ≤ L.length) (hL : L.length < 1000000) (w : World) (hS : SenderAt w g F life L.length (L.drop gone)) :
    Calls Try.prog 12 #[.pointer (some ⟨g, 0, none⟩), .string s] w fun e w' => e = .returned (.tuple #[.int .i64 ((hdR s life gone L.length).1 : Nat), .int .i64 (hdR s life gone L.length).2.1]) ∧ SenderAt w' g F life L.length (L.drop (hdR s life gone L.length).2.2) ∧ But g F w w' := by
  unfold hdR
  match h : lkU 2 0 s with
  | none => exact (heard_form _ s hs h w).mono fun e w' ⟨h, h'⟩ => ⟨h, hS.call h', But.of_off (Off.of_below h' hS.all)⟩
  | some (l', k, r) =>
    show Calls Try.prog 12 #[.pointer (some ⟨g, 0, none⟩), .string s] w fun e w' => e = .returned (.tuple #[.int .i64 ((if l' ≠ life ∨ L.length < k then ((0 : Nat), (7 : Int), gone) else if k ≤ gone then (0, 0, gone) else (k - gone, 0, k)).1 : Nat), .int .i64 (if l' ≠ life ∨ L.length < k then ((0 : Nat), (7 : Int), gone) else if k ≤ gone then (0, 0, gone) else (k - gone, 0, k)).2.1]) ∧ SenderAt w' g F life L.length (L.drop (if l' ≠ life ∨ L.length < k then ((0 : Nat), (7 : Int), gone) else if k ≤ gone then (0, 0, gone) else (k - gone, 0, k)).2.2) ∧ But g F w w'
    by_cases hbad : l' ≠ life ∨ L.length < k
    · rw [if_pos hbad]
      exact (heard_state g F life L.length (L.drop gone) s hs h hbad w hS).mono fun e w' ⟨h, h'⟩ => ⟨h, hS.call h', But.of_off (Off.of_below h' hS.all)⟩
    · rw [if_neg hbad]
      obtain rfl : l' = life := Classical.byContradiction fun q => hbad (.inl q)
      have hk : k ≤ L.length := Nat.le_of_not_lt fun q => hbad (.inr q)
      have hc := heard_in g F l' L.length (L.drop gone) (by rw [List.length_drop]; omega) (by omega) s hs h hk w hS
      have e1 : L.length - (L.drop gone).length = gone := by rw [List.length_drop]; omega
      rw [e1, List.drop_drop] at hc
      by_cases h3 : k ≤ gone
      · rw [if_pos h3]
        have e2 : k - gone = 0 := by omega
        rw [e2, Nat.add_zero] at hc
        exact hc
      · rw [if_neg h3]
        have e2 : gone + (k - gone) = k := by omega
        rw [e2] at hc
        exact hc
theorem hdR_le (s : ByteArray) (life gone n : Nat) (hg : gone ≤ n) : (hdR s life gone n).2.2 ≤ n := by
  unfold hdR
  split
  · exact hg
  · next l k r h =>
    split
    · exact hg
    · next c =>
      split
      · exact hg
      · exact Nat.le_of_not_lt fun q => c (.inr q)
end Go.Proofs.Ytadcjdffjhiniaa
