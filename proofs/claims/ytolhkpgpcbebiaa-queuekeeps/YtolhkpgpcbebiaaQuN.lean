/- Package queue: what a queue is, as a list of requests in the order in which they were accepted. -/
import Derived.Test.YtolhkpgpcbebiaaQuA
namespace Go.Proofs.Ytolhkpgpcbebiaa
open Go Go.RowKit Go.Lib
/-- What an ID is known for. -/
def lookQ : List Qe → Int → Option Qe
  | [], _ => none
  | e :: L, k => if (e.id : Int) = k then some e else lookQ L k
/-- Those that wait. -/
def waitQ : List Qe → List Qe
  | [] => []
  | e :: L => if e.d then waitQ L else e :: waitQ L
def idsQ (L : List Qe) : List Int := (waitQ L).map (fun e => (e.id : Int))
/-- The request of an ID is done. -/
def doneQ (k : Int) (s : Sg) : List Qe → List Qe
  | [] => []
  | e :: L => if (e.id : Int) = k then ⟨e.id, e.m, true, s⟩ :: L else e :: doneQ k s L
/-- What a queue keeps. -/
structure QOk (L : List Qe) : Prop where
  id1 : ∀ e ∈ L, 1 ≤ e.id ∧ e.id ≤ 1099511627776
  ms : ∀ e ∈ L, e.m.size ≤ 4096
  ap : L.Pairwise (fun a b => a.id ≠ b.id)
  z : ∀ e ∈ L, e.d = false → e.S = sg0
  w8 : (waitQ L).length ≤ 8
theorem QOk.nil : QOk [] := ⟨fun e h => (by cases h), fun e h => (by cases h), List.Pairwise.nil, fun e h => (by cases h), (by simp [waitQ])⟩
theorem lookQ_mem : ∀ {L : List Qe} {k : Int} {e : Qe}, lookQ L k = some e → e ∈ L ∧ (e.id : Int) = k
  | [], _, _, h => by cases h
  | x :: L, k, e, h => by
    unfold lookQ at h
    split at h
    · next c => cases h; exact ⟨List.mem_cons_self .., c⟩
    · have := lookQ_mem h; exact ⟨List.mem_cons_of_mem _ this.1, this.2⟩
theorem lookQ_none : ∀ {L : List Qe} {k : Int}, lookQ L k = none → ∀ e ∈ L, (e.id : Int) ≠ k
  | [], _, _, e, he => by cases he
  | x :: L, k, h, e, he => by
    unfold lookQ at h
    split at h
    · cases h
    · next c =>
      rcases List.mem_cons.1 he with rfl | he
      · exact c
      · exact lookQ_none h e he
theorem lookQ_app (L : List Qe) (x : Qe) (k : Int) : lookQ (L ++ [x]) k = (lookQ L k).or (if (x.id : Int) = k then some x else none) := by
  induction L with
  | nil => simp [lookQ]
  | cons e L ih =>
    rw [List.cons_append, lookQ, lookQ]
    split
    · rfl
    · exact ih
theorem waitQ_app (x : Qe) (hx : x.d = false) : ∀ L : List Qe, waitQ (L ++ [x]) = waitQ L ++ [x]
  | [] => by simp [waitQ, hx]
  | e :: L => by
    rw [List.cons_append, waitQ, waitQ]
    split
    · exact waitQ_app x hx L
    · rw [waitQ_app x hx L]; rfl
theorem waitQ_mem : ∀ {L : List Qe} {e : Qe}, e ∈ waitQ L → e ∈ L ∧ e.d = false
  | [], e, h => by cases h
  | x :: L, e, h => by
    unfold waitQ at h
    split at h
    · have := waitQ_mem h; exact ⟨List.mem_cons_of_mem _ this.1, this.2⟩
    · next c =>
      rcases List.mem_cons.1 h with rfl | h
      · exact ⟨List.mem_cons_self .., by simpa using c⟩
      · have := waitQ_mem h; exact ⟨List.mem_cons_of_mem _ this.1, this.2⟩
theorem waitQ_ap : ∀ {L : List Qe}, L.Pairwise (fun a b => a.id ≠ b.id) → (waitQ L).Pairwise (fun a b => a.id ≠ b.id)
  | [], _ => .nil
  | x :: L, h => by
    have h' := List.pairwise_cons.1 h
    unfold waitQ
    split
    · exact waitQ_ap h'.2
    · exact List.pairwise_cons.2 ⟨fun a ha => h'.1 a (waitQ_mem ha).1, waitQ_ap h'.2⟩
theorem waitQ_len : ∀ L : List Qe, (waitQ L).length ≤ L.length
  | [] => by simp [waitQ]
  | x :: L => by
    unfold waitQ
    have := waitQ_len L
    split
    · rw [List.length_cons]; omega
    · rw [List.length_cons, List.length_cons]; omega
theorem QOk.push {L : List Qe} (h : QOk L) {x : Qe} (h1 : 1 ≤ x.id ∧ x.id ≤ 1099511627776) (hm : x.m.size ≤ 4096) (hx : lookQ L (x.id : Int) = none) (hd : x.d = false) (hs : x.S = sg0) (h8 : (waitQ L).length < 8) : QOk (L ++ [x]) := by
  refine ⟨fun e he => ?_, fun e he => ?_, ?_, fun e he => ?_, ?_⟩
  · rcases List.mem_append.1 he with he | he
    · exact h.id1 e he
    · rw [List.mem_singleton.1 he]; exact h1
  · rcases List.mem_append.1 he with he | he
    · exact h.ms e he
    · rw [List.mem_singleton.1 he]; exact hm
  · refine List.pairwise_append.2 ⟨h.ap, .cons (fun a ha => by cases ha) .nil, fun a ha b hb => ?_⟩
    rw [List.mem_singleton.1 hb]
    have := lookQ_none hx a ha
    omega
  · rcases List.mem_append.1 he with he | he
    · exact h.z e he
    · rw [List.mem_singleton.1 he]; exact fun _ => hs
  · rw [waitQ_app x hd, List.length_append]
    show _ + 1 ≤ 8
    omega
theorem doneQ_mem : ∀ {L : List Qe} {k : Int} {s : Sg} {e : Qe}, e ∈ doneQ k s L → e ∈ L ∨ (e.d = true ∧ ∃ x ∈ L, e.id = x.id ∧ e.m = x.m)
  | [], _, _, _, h => by cases h
  | x :: L, k, s, e, h => by
    unfold doneQ at h
    split at h
    · rcases List.mem_cons.1 h with rfl | h
      · exact .inr ⟨rfl, x, List.mem_cons_self .., rfl, rfl⟩
      · exact .inl (List.mem_cons_of_mem _ h)
    · rcases List.mem_cons.1 h with rfl | h
      · exact .inl (List.mem_cons_self ..)
      · rcases doneQ_mem h with h | ⟨h1, y, hy, h2⟩
        · exact .inl (List.mem_cons_of_mem _ h)
        · exact .inr ⟨h1, y, List.mem_cons_of_mem _ hy, h2⟩
theorem doneQ_len (k : Int) (s : Sg) : ∀ L : List Qe, (doneQ k s L).length = L.length
  | [] => rfl
  | x :: L => by
    unfold doneQ
    split
    · rfl
    · rw [List.length_cons, List.length_cons, doneQ_len k s L]
theorem doneQ_ids (k : Int) (s : Sg) : ∀ L : List Qe, (doneQ k s L).map (·.id) = L.map (·.id)
  | [] => rfl
  | x :: L => by
    unfold doneQ
    split
    · rfl
    · rw [List.map_cons, List.map_cons, doneQ_ids k s L]
theorem ap_ids {L : List Qe} : L.Pairwise (fun a b => a.id ≠ b.id) ↔ (L.map (·.id)).Pairwise (· ≠ ·) := by rw [List.pairwise_map]
theorem doneQ_wlen (k : Int) (s : Sg) : ∀ L : List Qe, (waitQ (doneQ k s L)).length ≤ (waitQ L).length
  | [] => by simp [doneQ]
  | x :: L => by
    unfold doneQ
    split
    · rw [waitQ, waitQ, if_pos rfl]
      split
      · exact Nat.le_refl _
      · rw [List.length_cons]; omega
    · rw [waitQ, waitQ]
      have := doneQ_wlen k s L
      split
      · exact this
      · rw [List.length_cons, List.length_cons]; omega
theorem QOk.done {L : List Qe} (h : QOk L) (k : Int) (s : Sg) : QOk (doneQ k s L) := by
  refine ⟨fun e he => ?_, fun e he => ?_, ?_, fun e he => ?_, Nat.le_trans (doneQ_wlen k s L) h.w8⟩
  · rcases doneQ_mem he with he | ⟨_, x, hx, h1, _⟩
    · exact h.id1 e he
    · rw [h1]; exact h.id1 x hx
  · rcases doneQ_mem he with he | ⟨_, x, hx, _, h1⟩
    · exact h.ms e he
    · rw [h1]; exact h.ms x hx
  · rw [ap_ids, doneQ_ids, ← ap_ids]; exact h.ap
  · rcases doneQ_mem he with he | ⟨h1, _⟩
    · exact h.z e he
    · intro c; rw [h1] at c; cases c
theorem lookQ_done (k : Int) (s : Sg) : ∀ {L : List Qe} {e : Qe}, lookQ L k = some e → ∀ t, lookQ (doneQ k s L) t = if t = k then some ⟨e.id, e.m, true, s⟩ else lookQ L t
  | [], _, h, _ => by cases h
  | x :: L, e, h, t => by
    by_cases c : (x.id : Int) = k
    · have hx : x = e := by
        unfold lookQ at h
        rw [if_pos c] at h
        exact Option.some.inj h
      subst hx
      rw [doneQ, if_pos c, lookQ, lookQ]
      by_cases q : t = k
      · rw [if_pos (by show (x.id : Int) = t; rw [c, q]), if_pos q]
      · rw [if_neg (by show ¬ (x.id : Int) = t; rw [c]; exact fun z => q z.symm), if_neg q, if_neg (by rw [c]; exact fun z => q z.symm)]
    · rw [lookQ, if_neg c] at h
      rw [doneQ, if_neg c, lookQ, lookQ, lookQ_done k s h t]
      by_cases q : t = k
      · rw [if_neg (by rw [q]; exact c), if_pos q, if_pos q]
      · rw [if_neg q, if_neg q]
/-- Where the request of an ID stands among those that wait. -/
theorem wait_at : ∀ {L : List Qe} {k : Int} {e : Qe}, L.Pairwise (fun a b => a.id ≠ b.id) → lookQ L k = some e → e.d = false → ∃ i, (waitQ L)[i]? = some e ∧ (∀ j x, j < i → (waitQ L)[j]? = some x → (x.id : Int) ≠ k) ∧ ∀ s, waitQ (doneQ k s L) = (waitQ L).take i ++ (waitQ L).drop (i + 1)
  | [], _, _, _, h, _ => by cases h
  | x :: L, k, e, ha, h, hd => by
    by_cases c : (x.id : Int) = k
    · have hx : x = e := by
        unfold lookQ at h
        rw [if_pos c] at h
        exact Option.some.inj h
      subst hx
      refine ⟨0, ?_, fun j y hj => absurd hj (Nat.not_lt_zero _), fun s => ?_⟩
      · rw [waitQ, if_neg (by rw [hd]; decide)]; rfl
      · rw [doneQ, if_pos c, waitQ, waitQ, if_pos rfl, if_neg (by rw [hd]; decide)]
        rfl
    · have ha' := List.pairwise_cons.1 ha
      rw [lookQ, if_neg c] at h
      obtain ⟨i, h1, h2, h3⟩ := wait_at ha'.2 h hd
      by_cases q : x.d = true
      · refine ⟨i, ?_, fun j y hj hy => ?_, fun s => ?_⟩
        · rw [waitQ, if_pos q]; exact h1
        · rw [waitQ, if_pos q] at hy; exact h2 j y hj hy
        · rw [doneQ, if_neg c, waitQ, waitQ, if_pos q, if_pos q]; exact h3 s
      · refine ⟨i + 1, ?_, fun j y hj hy => ?_, fun s => ?_⟩
        · rw [waitQ, if_neg q, List.getElem?_cons_succ]; exact h1
        · rw [waitQ, if_neg q] at hy
          cases j with
          | zero => simp at hy; rw [← hy]; exact c
          | succ j => rw [List.getElem?_cons_succ] at hy; exact h2 j y (by omega) hy
        · rw [doneQ, if_neg c, waitQ, waitQ, if_neg q, if_neg q, h3 s]; rfl
def okQ (id : Int) (m : ByteArray) : Prop := 1 ≤ id ∧ id ≤ 1099511627776 ∧ m.size ≤ 4096
instance (id : Int) (m : ByteArray) : Decidable (okQ id m) := by unfold okQ; infer_instance
/-- What Submit answers, and what is known then. -/
def subR (L : List Qe) (id : Int) (m : ByteArray) : Int × Sg × List Qe :=
  if okQ id m then
    match lookQ L id with
    | some e => if e.m = m then (qa e.d, e.S, L) else (3, sg0, L)
    | none => if 8 ≤ (waitQ L).length then (2, sg0, L) else (1, sg0, L ++ [⟨id.toNat, m, false, sg0⟩])
  else (3, sg0, L)
/-- What Finish answers. -/
def finR (L : List Qe) (id : Int) (s : Sg) : Int × List Qe :=
  match lookQ L id with
  | some e => if e.d then (6, L) else (0, doneQ id s L)
  | none => (6, L)
theorem subR_ok {L : List Qe} {id : Int} {m : ByteArray} (h : QOk L) : QOk (subR L id m).2.2 := by
  unfold subR
  split
  · next c =>
    split
    · split
      · exact h
      · exact h
    · next hl =>
      split
      · exact h
      · next h8 =>
        have e : ((id.toNat : Nat) : Int) = id := by have := c.1; omega
        exact h.push (by have := c.1; have := c.2.1; show 1 ≤ id.toNat ∧ id.toNat ≤ _; omega) c.2.2 (by show lookQ L ((id.toNat : Nat) : Int) = none; rw [e]; exact hl) rfl rfl (by omega)
  · exact h
theorem subR_len {L : List Qe} {id : Int} {m : ByteArray} : (subR L id m).2.2.length ≤ L.length + 1 := by
  unfold subR
  split
  · split
    · split
      · exact Nat.le_succ _
      · exact Nat.le_succ _
    · split
      · exact Nat.le_succ _
      · show (L ++ [_]).length ≤ _; rw [List.length_append]; exact Nat.le_refl _
  · exact Nat.le_succ _
theorem finR_ok {L : List Qe} {id : Int} {s : Sg} (h : QOk L) : QOk (finR L id s).2 := by
  unfold finR
  split
  · split
    · exact h
    · exact h.done id s
  · exact h
theorem finR_len {L : List Qe} {id : Int} {s : Sg} : (finR L id s).2.length = L.length := by
  unfold finR
  split
  · split
    · rfl
    · exact doneQ_len id s L
  · rfl
end Go.Proofs.Ytolhkpgpcbebiaa
