/- A queue and a row of the law's own, apart; what Submit answers where all messages are one. -/
import Derived.Test.YtolhkpgpcbebiaaQuF
namespace Go.Proofs.Ytolhkpgpcbebiaa
open Go Go.RowKit Go.Lib
structure OnQ {α : Type} (enc : α → List Value) (k : Nat) (w0 w : World) (B g : Nat) (L : List Qe) (S : Nat → Prop) (a : Option Addr) (X : List α) (cap : Nat) : Prop where
  q : QI w S g L
  row : RowX enc k w (fun j => ¬ S j ∧ B ≤ j) a X cap
  sB : ∀ j, S j → B ≤ j
  sl : ∀ j, S j → j < w.heap.size
  hB : B ≤ w.heap.size
  hb : Below B w0 w
section
variable {α : Type} {enc : α → List Value} {k : Nat} {w0 w w' : World} {B g cap : Nat} {L L' : List Qe} {S : Nat → Prop} {a : Option Addr} {X : List α}
theorem OnQ.call (h : OnQ enc k w0 w B g L S a X cap) (hb : Below w.heap.size w w') : OnQ enc k w0 w' B g L S a X cap :=
  ⟨h.q.call hb, h.row.call hb, h.sB, fun j hj => Nat.lt_of_lt_of_le (h.sl j hj) hb.size, Nat.le_trans h.hB hb.size, h.hb.trans (hb.mono h.hB)⟩
theorem OnQ.op (h : OnQ enc k w0 w B g L S a X cap) (hA : QI w' (fun j => S j ∨ w.heap.size ≤ j) g L') (hO : Off (fun j => S j ∨ w.heap.size ≤ j) w w') : OnQ enc k w0 w' B g L' (fun j => (S j ∨ w.heap.size ≤ j) ∧ j < w'.heap.size) a X cap := by
  have hBs := h.hB
  refine ⟨hA.mono (fun j hj hz => ⟨hz, hj⟩), ?_, fun j hj => ?_, fun j hj => hj.2, Nat.le_trans h.hB hO.size, ⟨hO.os.trans h.hb.os, hO.tape.trans h.hb.tape, hO.output.trans h.hb.output, Nat.le_trans h.hb.size hO.size, fun j hj => (hO.block j (fun c => c.elim (fun c => by have := h.sB j c; omega) (fun c => by omega))).trans (h.hb.block j hj)⟩⟩
  · have hR : RowX enc k w (fun j => (¬ S j ∧ B ≤ j) ∧ j < w.heap.size) a X cap := h.row.mono (fun j hj hz => ⟨hz, hj⟩)
    exact (hR.kept hO.size (fun j hj _ => hO.block j (fun c => c.elim hj.1.1 (fun c => by omega)))).mono (fun j _ hj => ⟨fun c => c.1.elim hj.1.1 (fun c => by omega), hj.1.2⟩)
  · rcases hj.1 with c | c
    · exact h.sB j c
    · omega
theorem OnQ.app {t e te : TypeId} {bytes n : Nat} (h : OnQ enc k w0 w B g L S a X cap) (I : InfE Try.prog t e k bytes) (hk : ∀ x, (enc x).length = k) (h1k : ∀ x, ∀ u ∈ enc x, u.oneCell' = true) (k0 : 0 < k) (hby : bytes ≤ 1000) (x : α) (hn : n = X.length) (h5 : n ≤ 100000) :
    ∃ a' cap' w', (Builtin.append_ #[t, t] t #[.slice a n cap, .slice (some ⟨w.heap.size, 0, none⟩) 1 1]).run Try.prog (w.alloc (.cells (enc x).toArray te)) = .ok (.slice a' (n + 1) cap') w' ∧ OnQ enc k w0 w' B g L S a' (X ++ [x]) cap' := by
  have hb1 : Below w.heap.size w (w.alloc (.cells (enc x).toArray te)) := below_alloc0 (Below.refl _ _) _
  have h' := h.call hb1
  obtain ⟨a', cap', w', h1, h2, h3⟩ := run_append_RowX (ty := t) (w.alloc (.cells (enc x).toArray te)) (fun j => ¬ S j ∧ B ≤ j) I hk h1k k0 a cap n X x hn h'.row (by omega) hby (fun j hj => ⟨fun c => by have := h'.sl j c; omega, by have := h'.hB; omega⟩) ⟨w.heap.size, 0, none⟩ 1 (fun j u hj => by rw [Addr.add_lit, Nat.zero_add, World.cell?_alloc_new, List.getElem?_toArray]; exact hj)
  exact ⟨a', cap', w', h1, ⟨h'.q.kept h3.size (fun j hj _ => h3.block j (fun c => c.1 hj)), h2, h'.sB, fun j hj => Nat.lt_of_lt_of_le (h'.sl j hj) h3.size, Nat.le_trans h'.hB h3.size, ⟨h3.os.trans h'.hb.os, h3.tape.trans h'.hb.tape, h3.output.trans h'.hb.output, Nat.le_trans h'.hb.size h3.size, fun j hj => (h3.block j (fun c => by have := c.2; omega)).trans (h'.hb.block j hj)⟩⟩⟩
end
/-- All wait, with one message. -/
def AllM (m : ByteArray) (L : List Qe) : Prop := ∀ e ∈ L, e.m = m ∧ e.d = false
theorem AllM.nil (m : ByteArray) : AllM m [] := fun e he => by cases he
theorem waitQ_all {m : ByteArray} : ∀ {L : List Qe}, AllM m L → waitQ L = L
  | [], _ => rfl
  | x :: L, h => by
    rw [waitQ, if_neg (by rw [(h x (List.mem_cons_self ..)).2]; decide), waitQ_all (fun e he => h e (List.mem_cons_of_mem _ he))]
theorem ids_some {L : List Qe} {k : Int} {e : Qe} (h : lookQ L k = some e) (hA : waitQ L = L) : k ∈ idsQ L := by
  unfold idsQ
  rw [hA]
  exact List.mem_map.2 ⟨e, (lookQ_mem h).1, (lookQ_mem h).2⟩
theorem ids_none {L : List Qe} {k : Int} (h : lookQ L k = none) : k ∉ idsQ L := fun c => by
  unfold idsQ at c
  obtain ⟨e, he, h1⟩ := List.mem_map.1 c
  exact lookQ_none h e (waitQ_mem he).1 h1
theorem room_bad {L : List Qe} {m : ByteArray} {k : Int} (h : ¬ (1 ≤ k ∧ k ≤ 1099511627776)) : subR L k m = (3, sg0, L) := by
  unfold subR; rw [if_neg (fun c => h ⟨c.1, c.2.1⟩)]
theorem room_there {L : List Qe} {m : ByteArray} {k : Int} (hok : QOk L) (hA : AllM m L) (hk : okQ k m) (h : k ∈ idsQ L) : subR L k m = (1, sg0, L) := by
  unfold subR
  rw [if_pos hk]
  cases e : lookQ L k with
  | none => exact absurd h (ids_none e)
  | some x =>
    have := hA x (lookQ_mem e).1
    simp only [this.1, if_true, this.2, hok.z x (lookQ_mem e).1 this.2]
    rfl
theorem room_out {L : List Qe} {m : ByteArray} {k : Int} (hA : AllM m L) (h : k ∉ idsQ L) : lookQ L k = none := by
  cases e : lookQ L k with
  | none => rfl
  | some x => exact absurd (ids_some e (waitQ_all hA)) h
theorem room_full {L : List Qe} {m : ByteArray} {k : Int} (hA : AllM m L) (hk : okQ k m) (h : k ∉ idsQ L) (h8 : 8 ≤ (idsQ L).length) : subR L k m = (2, sg0, L) := by
  unfold subR
  unfold idsQ at h8
  rw [List.length_map] at h8
  rw [if_pos hk, room_out hA h]
  simp only [if_pos h8]
theorem room_new {L : List Qe} {m : ByteArray} {k : Int} (hA : AllM m L) (hk : okQ k m) (h : k ∉ idsQ L) (h8 : (idsQ L).length < 8) : subR L k m = (1, sg0, L ++ [⟨k.toNat, m, false, sg0⟩]) ∧ AllM m (L ++ [⟨k.toNat, m, false, sg0⟩]) ∧ idsQ (L ++ [⟨k.toNat, m, false, sg0⟩]) = idsQ L ++ [k] := by
  unfold idsQ at h8
  rw [List.length_map] at h8
  refine ⟨?_, fun e he => ?_, ?_⟩
  · unfold subR
    rw [if_pos hk, room_out hA h]
    simp only [if_neg (show ¬ 8 ≤ (waitQ L).length by omega)]
  · rcases List.mem_append.1 he with he | he
    · exact hA e he
    · rw [List.mem_singleton.1 he]; exact ⟨rfl, rfl⟩
  · rw [ids_push L _ rfl]
    congr 2
    show ((k.toNat : Nat) : Int) = k
    have := hk.1
    omega
theorem doneQ_w1 {s : Sg} : ∀ {L : List Qe} {k : Int} {e : Qe}, lookQ L k = some e → e.d = false → (waitQ (doneQ k s L)).length + 1 = (waitQ L).length
  | [], _, _, h, _ => by cases h
  | x :: L, k, e, h, hd => by
    by_cases c : (x.id : Int) = k
    · have hx : x = e := by
        unfold lookQ at h
        rw [if_pos c] at h
        exact Option.some.inj h
      subst hx
      rw [doneQ, if_pos c, waitQ, waitQ, if_pos rfl, if_neg (by rw [hd]; decide)]
      rfl
    · rw [lookQ, if_neg c] at h
      have := doneQ_w1 (s := s) h hd
      rw [doneQ, if_neg c, waitQ, waitQ]
      split
      · exact this
      · rw [List.length_cons, List.length_cons]; omega
theorem lookQ_done_none {L : List Qe} {k t : Int} {s : Sg} {e : Qe} (hl : lookQ L k = some e) (h : lookQ L t = none) : lookQ (doneQ k s L) t = none := by
  rw [lookQ_done k s hl t]
  by_cases c : t = k
  · rw [c, hl] at h; cases h
  · rw [if_neg c]; exact h
end Go.Proofs.Ytolhkpgpcbebiaa
