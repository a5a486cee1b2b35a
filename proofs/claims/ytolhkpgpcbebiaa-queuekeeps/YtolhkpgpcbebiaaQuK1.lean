/- The law QueueKeeps: a queue and two rows of the law's own (the order of those that wait; the steps that are done), apart. -/
import Derived.Test.YtolhkpgpcbebiaaQuS1
import Derived.Test.YtolhkpgpcbebiaaQuH
import Derived.Deep.CutBlock
namespace Go.Proofs.Ytolhkpgpcbebiaa
open Go Go.RowKit Go.Lib
theorem neq_sgK (V : Sg) (w : World) : Sem.run Try.prog (binOp .neq 38 (.agg #[.int .u64 V.x0, .int .u64 V.x1, .int .u64 V.x2, .int .u64 V.x3, .int .u64 V.x4, .int .u64 V.x5, .int .u64 V.x6, .int .u64 V.x7, .bool V.i, .int .u64 V.x8, .int .u64 V.x9, .int .u64 V.x10, .int .u64 V.x11]) (.agg #[.int .u64 V.x0, .int .u64 V.x1, .int .u64 V.x2, .int .u64 V.x3, .int .u64 V.x4, .int .u64 V.x5, .int .u64 V.x6, .int .u64 V.x7, .bool V.i, .int .u64 V.x8, .int .u64 V.x9, .int .u64 V.x10, .int .u64 V.x11])) w = .ok (.bool false) w := by
  simp [binOp, Op.equal, Op.maxDepth, run_eqS]
theorem stE_len (x : Stq) : (stE x).length = 16 := rfl
theorem stE_one (x : Stq) : ∀ u ∈ stE x, u.oneCell' = true := fun u hu => by
  simp only [stE, List.mem_cons, List.not_mem_nil, or_false] at hu
  rcases hu with rfl | rfl | rfl | rfl | rfl | rfl | rfl | rfl | rfl | rfl | rfl | rfl | rfl | rfl | rfl | rfl <;> rfl
theorem infoSt : InfE Try.prog 22 40 16 136 := by
  refine ⟨Try.underlying22, ?_⟩
  have h : (Try.prog.info? 40).map (fun i => (i.zero, i.size, i.bytes)) = some (some (.agg #[.int .i64 0, .int .i64 0, .string ⟨#[]⟩, .int .u64 0, .int .u64 0, .int .u64 0, .int .u64 0, .int .u64 0, .int .u64 0, .int .u64 0, .int .u64 0, .bool false, .int .u64 0, .int .u64 0, .int .u64 0, .int .u64 0]), 16, 136) := by kernel_rfl
  cases e : Try.prog.info? 40 with
  | none => rw [e] at h; cases h
  | some i =>
    rw [e] at h
    simp only [Option.map_some, Option.some.injEq, Prod.mk.injEq] at h
    exact ⟨i, _, rfl, h.1, rfl, h.2.1, h.2.2⟩
/-- Each of these steps tells a request that is done, and its signature. -/
def DnI (L : List Qe) (Dn : List Stq) : Prop := ∀ d ∈ Dn, ∃ e ∈ L, e.d = true ∧ (e.id : Int) = d.id ∧ e.m = d.m ∧ e.S = d.S
theorem DnI.nil (L : List Qe) : DnI L [] := fun d hd => by cases hd
theorem DnI.sub {L L' : List Qe} {Dn : List Stq} (h : DnI L Dn) (hs : ∀ e ∈ L, e.d = true → e ∈ L') : DnI L' Dn := fun d hd => by
  obtain ⟨e, he, h1, h2⟩ := h d hd
  exact ⟨e, hs e he h1, h1, h2⟩
theorem DnI.snoc {L : List Qe} {Dn : List Stq} (h : DnI L Dn) {x : Stq} {e : Qe} (he : e ∈ L) (h1 : e.d = true) (h2 : (e.id : Int) = x.id) (h3 : e.m = x.m) (h4 : e.S = x.S) : DnI L (Dn ++ [x]) := fun d hd => by
  rcases List.mem_append.1 hd with hd | hd
  · exact h d hd
  · rw [List.mem_singleton.1 hd]; exact ⟨e, he, h1, h2, h3, h4⟩
theorem done_keeps {s : Sg} : ∀ {L : List Qe} {k : Int} {y : Qe}, lookQ L k = some y → y.d = false → ∀ e ∈ L, e.d = true → e ∈ doneQ k s L
  | [], _, _, h, _, _, _, _ => by cases h
  | x :: L, k, y, h, hd, e, he, h1 => by
    by_cases c : (x.id : Int) = k
    · have hx : x = y := by
        unfold lookQ at h
        rw [if_pos c] at h
        exact Option.some.inj h
      subst hx
      rw [doneQ, if_pos c]
      rcases List.mem_cons.1 he with rfl | he
      · rw [hd] at h1; cases h1
      · exact List.mem_cons_of_mem _ he
    · rw [lookQ, if_neg c] at h
      rw [doneQ, if_neg c]
      rcases List.mem_cons.1 he with rfl | he
      · exact List.mem_cons_self ..
      · exact List.mem_cons_of_mem _ (done_keeps h hd e he h1)
theorem done_has {s : Sg} : ∀ {L : List Qe} {k : Int} {y : Qe}, lookQ L k = some y → (⟨y.id, y.m, true, s⟩ : Qe) ∈ doneQ k s L
  | [], _, _, h => by cases h
  | x :: L, k, y, h => by
    by_cases c : (x.id : Int) = k
    · have hx : x = y := by
        unfold lookQ at h
        rw [if_pos c] at h
        exact Option.some.inj h
      subst hx
      rw [doneQ, if_pos c]
      exact List.mem_cons_self ..
    · rw [lookQ, if_neg c] at h
      rw [doneQ, if_neg c]
      exact List.mem_cons_of_mem _ (done_has h)
theorem sub_keeps {L : List Qe} {id : Int} {m : ByteArray} : ∀ e ∈ L, e.d = true → e ∈ (subR L id m).2.2 := fun e he _ => by
  unfold subR
  split
  · split
    · split
      · exact he
      · exact he
    · split
      · exact he
      · exact List.mem_append_left _ he
  · exact he
/-- What a step that is done answers when it is submitted again. -/
theorem dn_sub {L : List Qe} {Dn : List Stq} (hok : QOk L) (h : DnI L Dn) {d : Stq} (hd : d ∈ Dn) : subR L d.id d.m = (4, d.S, L) := by
  obtain ⟨e, he, h1, h2, h3, h4⟩ := h d hd
  have hl : lookQ L d.id = some e := by rw [← h2]; exact lookQ_self hok.ap he
  have hk : okQ d.id d.m := by
    have q1 := hok.id1 e he
    have q2 := hok.ms e he
    rw [h3] at q2
    exact ⟨by omega, by omega, q2⟩
  unfold subR
  rw [if_pos hk, hl]
  simp only [h3, if_true, h1, h4]
  rfl
structure TQ (w0 w : World) (B g : Nat) (L : List Qe) (S D : Nat → Prop) (aO : Option Addr) (X : List Int) (cO : Nat) (aD : Option Addr) (Dn : List Stq) (cD : Nat) : Prop where
  q : QI w S g L
  ro : RowX iE 1 w (fun j => ¬ S j ∧ ¬ D j ∧ B ≤ j) aO X cO
  rd : RowX stE 16 w D aD Dn cD
  sd : ∀ j, S j → ¬ D j
  sB : ∀ j, S j → B ≤ j
  dB : ∀ j, D j → B ≤ j
  sl : ∀ j, S j → j < w.heap.size
  dl : ∀ j, D j → j < w.heap.size
  hB : B ≤ w.heap.size
  hb : Below B w0 w
  dn : DnI L Dn
section
variable {w0 w w' : World} {B g cO cD n : Nat} {L L' : List Qe} {S D : Nat → Prop} {aO aD : Option Addr} {X : List Int} {Dn : List Stq}
theorem TQ.call (h : TQ w0 w B g L S D aO X cO aD Dn cD) (hb : Below w.heap.size w w') : TQ w0 w' B g L S D aO X cO aD Dn cD :=
  ⟨h.q.call hb, h.ro.call hb, h.rd.call hb, h.sd, h.sB, h.dB, fun j hj => Nat.lt_of_lt_of_le (h.sl j hj) hb.size, fun j hj => Nat.lt_of_lt_of_le (h.dl j hj) hb.size, Nat.le_trans h.hB hb.size, h.hb.trans (hb.mono h.hB), h.dn⟩
theorem TQ.qop (h : TQ w0 w B g L S D aO X cO aD Dn cD) (hA : QI w' (fun j => S j ∨ w.heap.size ≤ j) g L') (hO : Off (fun j => S j ∨ w.heap.size ≤ j) w w') (hd : DnI L' Dn) : TQ w0 w' B g L' (fun j => (S j ∨ w.heap.size ≤ j) ∧ j < w'.heap.size) D aO X cO aD Dn cD := by
  have hBs := h.hB
  refine ⟨hA.mono (fun j hj hz => ⟨hz, hj⟩), ?_, ?_, fun j hj hd => ?_, fun j hj => ?_, h.dB, fun j hj => hj.2, fun j hj => Nat.lt_of_lt_of_le (h.dl j hj) hO.size, Nat.le_trans h.hB hO.size, ⟨hO.os.trans h.hb.os, hO.tape.trans h.hb.tape, hO.output.trans h.hb.output, Nat.le_trans h.hb.size hO.size, fun j hj => (hO.block j (fun c => c.elim (fun c => by have := h.sB j c; omega) (fun c => by omega))).trans (h.hb.block j hj)⟩, hd⟩
  · have hR : RowX iE 1 w (fun j => (¬ S j ∧ ¬ D j ∧ B ≤ j) ∧ j < w.heap.size) aO X cO := h.ro.mono (fun j hj hz => ⟨hz, hj⟩)
    exact (hR.kept hO.size (fun j hj _ => hO.block j (fun c => c.elim hj.1.1 (fun c => by omega)))).mono (fun j _ hj => ⟨fun c => c.1.elim hj.1.1 (fun c => by omega), hj.1.2⟩)
  · exact h.rd.kept hO.size (fun j hj hl => hO.block j (fun c => c.elim (fun c => h.sd j c hj) (fun c => by omega)))
  · rcases hj.1 with c | c
    · exact h.sd j c hd
    · have := h.dl j hd; omega
  · rcases hj.1 with c | c
    · exact h.sB j c
    · omega
/-- An append onto the order. -/
theorem TQ.appO {te : TypeId} (h : TQ w0 w B g L S D aO X cO aD Dn cD) (x : Int) (hn : n = X.length) (h5 : n ≤ 100000) :
    ∃ a' cap' w', (Builtin.append_ #[58, 58] 58 #[.slice aO n cO, .slice (some ⟨w.heap.size, 0, none⟩) 1 1]).run Try.prog (w.alloc (.cells (iE x).toArray te)) = .ok (.slice a' (n + 1) cap') w' ∧ TQ w0 w' B g L S D a' (X ++ [x]) cap' aD Dn cD := by
  have hb1 : Below w.heap.size w (w.alloc (.cells (iE x).toArray te)) := below_alloc0 (Below.refl _ _) _
  have h' := h.call hb1
  obtain ⟨a', cap', w', h1, h2, h3⟩ := run_append_RowX (ty := 58) (w.alloc (.cells (iE x).toArray te)) (fun j => ¬ S j ∧ ¬ D j ∧ B ≤ j) infoI iE_len iE_one (by decide) aO cO n X x hn h'.ro (by omega) (by decide) (fun j hj => ⟨fun c => by have := h'.sl j c; omega, fun c => by have := h'.dl j c; omega, by have := h'.hB; omega⟩) ⟨w.heap.size, 0, none⟩ 1 (fun j u hj => by rw [Addr.add_lit, Nat.zero_add, World.cell?_alloc_new, List.getElem?_toArray]; exact hj)
  exact ⟨a', cap', w', h1, ⟨h'.q.kept h3.size (fun j hj _ => h3.block j (fun c => c.1 hj)), h2, h'.rd.kept h3.size (fun j hj _ => h3.block j (fun c => c.2.1 hj)), h'.sd, h'.sB, h'.dB, fun j hj => Nat.lt_of_lt_of_le (h'.sl j hj) h3.size, fun j hj => Nat.lt_of_lt_of_le (h'.dl j hj) h3.size, Nat.le_trans h'.hB h3.size, ⟨h3.os.trans h'.hb.os, h3.tape.trans h'.hb.tape, h3.output.trans h'.hb.output, Nat.le_trans h'.hb.size h3.size, fun j hj => (h3.block j (fun c => by have := c.2.2; omega)).trans (h'.hb.block j hj)⟩, h'.dn⟩⟩
/-- An append onto the steps that are done; what lies in blocks that are neither theirs nor new stays. -/
theorem TQ.appD {te : TypeId} (h : TQ w0 w B g L S D aO X cO aD Dn cD) (x : Stq) (hn : n = Dn.length) (h5 : n ≤ 100000) (hd : DnI L (Dn ++ [x])) :
    ∃ a' cap' w', (Builtin.append_ #[22, 22] 22 #[.slice aD n cD, .slice (some ⟨w.heap.size, 0, none⟩) 1 1]).run Try.prog (w.alloc (.cells (stE x).toArray te)) = .ok (.slice a' (n + 1) cap') w' ∧ TQ w0 w' B g L S (fun j => (D j ∨ w.heap.size ≤ j) ∧ j < w'.heap.size) aO X cO a' (Dn ++ [x]) cap' ∧ Off (fun j => D j ∨ w.heap.size ≤ j) w w' := by
  have hBs := h.hB
  have hb1 : Below w.heap.size w (w.alloc (.cells (stE x).toArray te)) := below_alloc0 (Below.refl _ _) _
  obtain ⟨a', cap', w', h1, h2, h3⟩ := run_append_RowX (ty := 22) (w.alloc (.cells (stE x).toArray te)) (fun j => D j ∨ w.heap.size ≤ j) infoSt stE_len stE_one (by decide) aD cD n Dn x hn ((h.rd.call hb1).mono (fun j _ hj => .inl hj)) (by omega) (by decide) (fun j hj => .inr (Nat.le_trans hb1.size hj)) ⟨w.heap.size, 0, none⟩ 1 (fun j u hj => by rw [Addr.add_lit, Nat.zero_add, World.cell?_alloc_new, List.getElem?_toArray]; exact hj)
  have hO : Off (fun j => D j ∨ w.heap.size ≤ j) w w' := (Off.of_below hb1 (fun j hj => .inr hj)).trans h3
  have hR : RowX iE 1 w (fun j => (¬ S j ∧ ¬ D j ∧ B ≤ j) ∧ j < w.heap.size) aO X cO := h.ro.mono (fun j hj hz => ⟨hz, hj⟩)
  refine ⟨a', cap', w', h1, ⟨h.q.kept hO.size (fun j hj hl => hO.block j (fun c => c.elim (h.sd j hj) (fun c => by omega))), (hR.kept hO.size (fun j hj _ => hO.block j (fun c => c.elim hj.1.2.1 (fun c => by omega)))).mono (fun j _ hj => ⟨hj.1.1, fun c => c.1.elim hj.1.2.1 (fun c => by omega), hj.1.2.2⟩), h2.mono (fun j hj hz => ⟨hz, hj⟩), fun j hj c => c.1.elim (h.sd j hj) (fun c => by have := h.sl j hj; omega), h.sB, fun j hj => hj.1.elim (h.dB j) (fun c => by omega), fun j hj => Nat.lt_of_lt_of_le (h.sl j hj) hO.size, fun j hj => hj.2, Nat.le_trans h.hB hO.size, ⟨hO.os.trans h.hb.os, hO.tape.trans h.hb.tape, hO.output.trans h.hb.output, Nat.le_trans h.hb.size hO.size, fun j hj => (hO.block j (fun c => c.elim (fun c => by have := h.dB j c; omega) (fun c => by omega))).trans (h.hb.block j hj)⟩, hd⟩, hO⟩
/-- Another row is the order. -/
theorem TQ.newO {a2 : Option Addr} {X2 : List Int} {c2 M : Nat} (h : TQ w0 w B g L S D aO X cO aD Dn cD) (hr : RowX iE 1 w (fun j => M ≤ j ∧ ¬ S j ∧ ¬ D j) a2 X2 c2) (hM : B ≤ M) : TQ w0 w B g L S D a2 X2 c2 aD Dn cD :=
  ⟨h.q, hr.mono (fun _ _ hj => ⟨hj.2.1, hj.2.2, Nat.le_trans hM hj.1⟩), h.rd, h.sd, h.sB, h.dB, h.sl, h.dl, h.hB, h.hb, h.dn⟩
end
theorem ids_done {L : List Qe} {k : Int} {y : Qe} {s : Sg} (hok : QOk L) (hl : lookQ L k = some y) (hd : y.d = false) : idsQ (doneQ k s L) = (idsQ L).filter (fun x => decide (x ≠ k)) := by
  obtain ⟨i, h1, h2, h3⟩ := idsQ_at hok hl hd
  rw [h3 s]
  have hap : (idsQ L).Pairwise (· ≠ ·) := by
    unfold idsQ
    rw [List.pairwise_map]
    exact (waitQ_ap hok.ap).imp (fun h c => h (by omega))
  have hi := List.getElem?_eq_some_iff.1 h1
  have e : idsQ L = (idsQ L).take i ++ k :: (idsQ L).drop (i + 1) := by
    rw [← hi.2]
    simp
  have e2 : (idsQ L).filter (fun x => decide (x ≠ k)) = ((idsQ L).take i).filter (fun x => decide (x ≠ k)) ++ ((idsQ L).drop (i + 1)).filter (fun x => decide (x ≠ k)) := by
    conv => lhs; rw [e]
    rw [List.filter_append, List.filter_cons_of_neg (by simp)]
  rw [e2, List.filter_eq_self.2, List.filter_eq_self.2]
  · intro x hx
    rw [decide_eq_true_iff]
    rw [e] at hap
    have := (List.pairwise_append.1 hap).2.1
    exact fun c => (List.pairwise_cons.1 this).1 x hx c.symm
  · intro x hx
    rw [decide_eq_true_iff]
    obtain ⟨j, hj⟩ := List.getElem?_of_mem hx
    have hji : j < i := by
      have := (List.getElem?_eq_some_iff.1 hj).1
      rw [List.length_take] at this
      omega
    rw [List.getElem?_take_of_lt hji] at hj
    exact h2 j x hji hj
end Go.Proofs.Ytolhkpgpcbebiaa
