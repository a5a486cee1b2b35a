/- Package queue: accept. -/
import Derived.Test.YtolhkpgpcbebiaaQuB
import Derived.Deep.RegionLaw
import Derived.Deep.RegionWith
import Derived.Deep.DeepCutAuto
namespace Go.Proofs.Ytolhkpgpcbebiaa
open Go Go.RowKit Go.Lib
theorem infoI : InfE Try.prog 58 3 1 8 := by
  refine ⟨Try.underlying58, ?_⟩
  have h : (Try.prog.info? 3).map (fun i => (i.zero, i.size, i.bytes)) = some (some (.int .i64 0), 1, 8) := by kernel_rfl
  cases e : Try.prog.info? 3 with
  | none => rw [e] at h; cases h
  | some i =>
    rw [e] at h
    simp only [Option.map_some, Option.some.injEq, Prod.mk.injEq] at h
    exact ⟨i, _, rfl, h.1, rfl, h.2.1, h.2.2⟩
theorem step_append_run {P : Program} {w w' : World} {ops : Array Oper} {o : Oper} {a : Act} {K : Act → World → Prop} {Q : Exit → Act → World → Prop} {E : Prop} (hgd : o.guard = none) (s x : Operand) (t : TypeId) (ho : o.op = .call { callee := .builtin .append, args := #[s, x], argTypes := #[t, t] }) {v1 v2 v : Value} (h1 : a.eval s = v1) (h2 : a.eval x = v2) (hrun : (Builtin.append_ #[t, t] o.type #[v1, v2]).run P w = .ok v w') (h : K (a.put o.dst v) w') :
    if Region.wanted o (yielded ops a.tmps) = true then Oper.wp P o a w K Q else E := by
  have hw : Region.wanted o (yielded ops a.tmps) = true := by simp [Region.wanted, hgd]
  rw [if_pos hw]
  unfold Oper.wp
  simp [execOp, ho, resolve, invoke, builtin, h1, h2, hrun, Result.andThen]
  exact h
theorem eq_mapQ0 (w : World) : Sem.run Try.prog (binOp .eql 61 (.map none) (.map none)) w = .ok (.bool true) w := by kernel_rfl
theorem eq_mapQ (mB : Option Nat) (w : World) : Sem.run Try.prog (binOp .eql 61 (.map mB) (.map none)) w = .ok (.bool mB.isNone) w := by cases mB <;> kernel_rfl
theorem eq_mapQ1 (B : Nat) (w : World) : Sem.run Try.prog (binOp .eql 61 (.map (some B)) (.map none)) w = .ok (.bool false) w := by kernel_rfl
/-- A queue whose map is there, at block B; the row is behind a. -/
structure QM (w : World) (Z : Nat → Prop) (g B : Nat) (a : Option Addr) (n cap : Nat) (L : List Qe) : Prop where
  ok : QOk L
  zg : Z g
  gl : g < w.heap.size
  fg : ∀ o, w.frozen? ⟨g, o, none⟩ = false
  c0 : w.cell? ⟨g, 0, none⟩ = some (.map (some B))
  c1 : w.cell? ⟨g, 1, none⟩ = some (.slice a n cap)
  hn : n = (idsQ L).length
  zB : Z B
  gB : B ≠ g
  mp : MapV w B L.length (fun t => (lookQ L t).map entV)
  row : RowX iE 1 w (fun k => Z k ∧ k ≠ g ∧ k ≠ B) a (idsQ L) cap
theorem QM.toQI {w : World} {Z : Nat → Prop} {g B n cap : Nat} {a : Option Addr} {L : List Qe} (h : QM w Z g B a n cap L) : QI w Z g L :=
  ⟨h.ok, h.zg, h.gl, h.fg, some B, a, cap, h.c0, (by rw [h.c1, h.hn]), fun c => (by cases c), fun B' hB => (by cases hB; exact ⟨h.zB, h.gB, h.mp⟩), h.row.mono (fun k _ hk => ⟨hk.1, hk.2.1, fun c => hk.2.2 (Option.some.inj c)⟩)⟩
theorem QM.kept {w w' : World} {Z : Nat → Prop} {g B n cap : Nat} {a : Option Addr} {L : List Qe} (h : QM w Z g B a n cap L) (hz : w.heap.size ≤ w'.heap.size) (hb : ∀ k, Z k → k < w.heap.size → w'.heap[k]? = w.heap[k]?) : QM w' Z g B a n cap L :=
  have e := hb g h.zg h.gl
  ⟨h.ok, h.zg, Nat.lt_of_lt_of_le h.gl hz, fun o => (World.frozen?_of_block (w := w) (a := ⟨g, o, none⟩) e).trans (h.fg o), (World.cell?_of_block (w := w) (a := ⟨g, 0, none⟩) e).trans h.c0, (World.cell?_of_block (w := w) (a := ⟨g, 1, none⟩) e).trans h.c1, h.hn, h.zB, h.gB, h.mp.block (hb B h.zB h.mp.lt), h.row.kept hz (fun k hk hl => hb k hk.1 hl)⟩
theorem QM.call {w w' : World} {Z : Nat → Prop} {g B n cap : Nat} {a : Option Addr} {L : List Qe} (h : QM w Z g B a n cap L) (hb : Below w.heap.size w w') : QM w' Z g B a n cap L := h.kept hb.size (fun k _ hk => hb.block k hk)
theorem updV_push {L : List Qe} {x : Qe} (h : lookQ L (x.id : Int) = none) : ∀ t, (lookQ (L ++ [x]) t).map entV = updV (fun t => (lookQ L t).map entV) (x.id : Int) (entV x) t := fun t => by
  unfold updV
  rw [lookQ_app]
  by_cases c : t = (x.id : Int)
  · subst c; rw [h, if_pos rfl, if_pos rfl]; rfl
  · rw [if_neg c, if_neg (fun q => c q.symm)]
    show Option.map entV ((lookQ L t).or none) = Option.map entV (lookQ L t)
    rw [Option.or_none]
/-- What is left to do once the request is in the map: the row gets its ID. -/
theorem QM.upd {w : World} {Z : Nat → Prop} {g B n cap : Nat} {a : Option Addr} {L : List Qe} {x : Qe} (h : QM w Z g B a n cap L) (hx : lookQ L (x.id : Int) = none) (hN : L.length < 10000) (hr : -9223372036854775808 ≤ (x.id : Int) ∧ (x.id : Int) ≤ 9223372036854775807) :
    ∃ w', (Instr.mapUpdate 61 (.map (some B)) (.int .i64 (x.id : Int)) (entV x)).run Try.prog w = .ok () w' ∧ MapV w' B (L ++ [x]).length (fun t => (lookQ (L ++ [x]) t).map entV) ∧ w.mapTurned w' B := by
  obtain ⟨w', h1, h2, h3⟩ := h.mp.update (t := (x.id : Int)) (v := entV x) (by omega) hr
  refine ⟨w', h1, ?_, h3⟩
  rw [hx] at h2
  have : (L ++ [x]).length = L.length + 1 := by simp
  rw [this]
  exact h2.eq (updV_push hx)
theorem ids_push (L : List Qe) (x : Qe) (hd : x.d = false) : idsQ (L ++ [x]) = idsQ L ++ [(x.id : Int)] := by unfold idsQ; rw [waitQ_app x hd, List.map_append]; rfl
theorem acc_end {w5 w9 : World} {o : Obj} {Z : Nat → Prop} {g B n cap' : Nat} {a' : Option Addr} {L' : List Qe} {v : Value} (hZ : ∀ k, w5.heap.size ≤ k → Z k) (ok : QOk L') (zg : Z g) (zB : Z B) (gB : B ≠ g) (gl : g < w5.heap.size) (hM : MapV w5 B L'.length (fun t => (lookQ L' t).map entV))
    (c0 : w5.cell? ⟨g, 0, none⟩ = some (.map (some B))) (c1 : w5.cell? ⟨g, 1, none⟩ = some v) (fg : ∀ o, w5.frozen? ⟨g, o, none⟩ = false) (hn : n = (idsQ L').length) (hR : RowX iE 1 w9 (fun k => Z k ∧ k ≠ g ∧ k ≠ B) a' (idsQ L') cap') (hO : Off (fun k => Z k ∧ k ≠ g ∧ k ≠ B) (w5.alloc o).drew w9) :
    QM (w9.setCell ⟨g, 1, none⟩ (.slice a' n cap')) Z g B a' n cap' L' ∧ Off Z w5 (w9.setCell ⟨g, 1, none⟩ (.slice a' n cap')) ∧ w9.cell? ⟨g, 1, none⟩ = some v ∧ w9.frozen? ⟨g, 1, none⟩ = false := by
  have hb : Below w5.heap.size w5 (w5.alloc o) := below_alloc0 (Below.refl _ _) _
  have hsz : w5.heap.size ≤ w9.heap.size := Nat.le_trans hb.size hO.size
  have kg : w9.heap[g]? = w5.heap[g]? := (hO.block g (fun c => c.2.1 rfl)).trans (hb.block g gl)
  have kB : w9.heap[B]? = w5.heap[B]? := (hO.block B (fun c => c.2.2 rfl)).trans (hb.block B hM.lt)
  have g1 : w9.cell? ⟨g, 1, none⟩ = some v := (World.cell?_of_block (w := w5) (a := ⟨g, 1, none⟩) kg).trans c1
  refine ⟨⟨ok, zg, ?_, fun o => ?_, (World.cell?_setCell_other _ _ _ _ (by intro c; injection c with _ c _; cases c)).trans ((World.cell?_of_block (w := w5) (a := ⟨g, 0, none⟩) kg).trans c0), World.cell?_setCell_same _ _ _ g1, hn, zB, gB, hM.block ((Below.heap_setCell _ _ _ _ gB).trans kB), ?_⟩, ⟨?_, ?_, ?_, ?_, fun b hb' => ?_⟩, g1, (World.frozen?_of_block (w := w5) (a := ⟨g, 1, none⟩) kg).trans (fg 1)⟩
  · rw [World.size_setCell]; omega
  · rw [World.frozen?_setCell]; exact (World.frozen?_of_block (w := w5) (a := ⟨g, o, none⟩) kg).trans (fg o)
  · exact hR.kept (by rw [World.size_setCell]; exact Nat.le_refl _) (fun k hk _ => Below.heap_setCell _ _ _ _ hk.2.1)
  · exact hO.os.trans hb.os
  · exact hO.tape.trans hb.tape
  · exact hO.output.trans hb.output
  · rw [World.size_setCell]; exact hsz
  · rw [Below.heap_setCell _ _ _ _ (fun (c : b = g) => hb' (by rw [c]; exact zg))]
    by_cases c : b < w5.heap.size
    · exact (hO.block b (fun c2 => hb' c2.1)).trans (hb.block b c)
    · exact absurd (hZ b (by omega)) hb'
theorem acc_mid {w W w4 : World} {Z : Nat → Prop} {g B n cap E id : Nat} {m : ByteArray} {a : Option Addr} {L : List Qe} (hZ : ∀ k, w.heap.size ≤ k → Z k) (hx : lookQ L (id : Int) = none) (hN : L.length < 10000) (hr : -9223372036854775808 ≤ (id : Int) ∧ (id : Int) ≤ 9223372036854775807) (HW : QM W Z g B a n cap L ∧ Off Z w W ∧ E < W.heap.size ∧ E ≠ B) (x0 : W.cell? ⟨E, 0, none⟩ = some (.int .i64 (id : Nat))) (x1 : W.cell? ⟨E, 1, none⟩ = some (.string m)) (hb4' : Below W.drew.heap.size W.drew w4) :
    ∃ w5, w4.cell? ⟨g, 0, none⟩ = some (.map (some B)) ∧ w4.cell? ⟨g, 1, none⟩ = some (.slice a n cap) ∧ w4.cell? ⟨E, 0, none⟩ = some (.int .i64 (id : Nat)) ∧ w4.cell? ⟨E, 1, none⟩ = some (.string m) ∧ (Instr.mapUpdate 61 (.map (some B)) (.int .i64 (id : Nat)) (.agg #[.string m, .int .i64 1, .int .u64 0, .int .u64 0, .int .u64 0, .int .u64 0, .int .u64 0, .int .u64 0, .int .u64 0, .int .u64 0, .bool false, .int .u64 0, .int .u64 0, .int .u64 0, .int .u64 0])).run Try.prog w4 = .ok () w5 ∧ w5.cell? ⟨g, 0, none⟩ = some (.map (some B)) ∧ w5.cell? ⟨g, 1, none⟩ = some (.slice a n cap) ∧ w5.cell? ⟨E, 0, none⟩ = some (.int .i64 (id : Nat)) ∧
      (QM w4 Z g B a n cap L ∧ MapV w5 B (L ++ [(⟨id, m, false, sg0⟩ : Qe)]).length (fun t => (lookQ (L ++ [(⟨id, m, false, sg0⟩ : Qe)]) t).map entV) ∧ w4.mapTurned w5 B ∧ Off Z w w4 ∧ W.heap.size ≤ w4.heap.size) := by
  have hb4 : Below W.heap.size W w4 := ⟨hb4'.os, hb4'.tape, hb4'.output, hb4'.size, hb4'.block⟩
  have hM4 := HW.1.call hb4
  have f0 : w4.cell? ⟨g, 0, none⟩ = some (.map (some B)) := hM4.c0
  have f1 : w4.cell? ⟨g, 1, none⟩ = some (.slice a n cap) := hM4.c1
  have y0 : w4.cell? ⟨E, 0, none⟩ = some (.int .i64 (id : Nat)) := (hb4.cell (p := ⟨E, 0, none⟩) HW.2.2.1).trans x0
  have y1 : w4.cell? ⟨E, 1, none⟩ = some (.string m) := (hb4.cell (p := ⟨E, 1, none⟩) HW.2.2.1).trans x1
  obtain ⟨w5, hup, hM5, hT5⟩ := hM4.upd (x := ⟨id, m, false, sg0⟩) hx hN hr
  have kg := mapTurned_block hT5 HW.1.gB.symm
  exact ⟨w5, f0, f1, y0, y1, hup, (World.cell?_of_block (w := w4) (a := ⟨g, 0, none⟩) kg).trans f0, (World.cell?_of_block (w := w4) (a := ⟨g, 1, none⟩) kg).trans f1, (World.cell?_of_block (w := w4) (a := ⟨E, 0, none⟩) (mapTurned_block hT5 HW.2.2.2)).trans y0, ⟨hM4, hM5, hT5, HW.2.1.trans (Off.of_below hb4 (off_new HW.2.1 hZ)), hb4.size⟩⟩
theorem QM.of_none {w : World} {Z : Nat → Prop} {g n cap : Nat} {a : Option Addr} (hZ : ∀ k, w.heap.size ≤ k → Z k) (ok : QOk []) (zg : Z g) (gl : g < w.heap.size) (fg : ∀ o, w.frozen? ⟨g, o, none⟩ = false) (c0 : w.cell? ⟨g, 0, none⟩ = some (.map none)) (c1 : w.cell? ⟨g, 1, none⟩ = some (.slice a n cap)) (hn : n = (idsQ []).length) (hR : RowX iE 1 w (fun k => Z k ∧ k ≠ g) a (idsQ []) cap) :
    QM ((w.setCell ⟨g, 0, none⟩ (.map (some w.heap.size))).alloc (.map #[] 0)) Z g w.heap.size a n cap [] := by
  have hz : (w.setCell ⟨g, 0, none⟩ (.map (some w.heap.size))).heap.size = w.heap.size := World.size_setCell ..
  have hb : Below w.heap.size (w.setCell ⟨g, 0, none⟩ (.map (some w.heap.size))) ((w.setCell ⟨g, 0, none⟩ (.map (some w.heap.size))).alloc (.map #[] 0)) := by
    have := below_alloc0 (Below.refl (w.setCell ⟨g, 0, none⟩ (.map (some w.heap.size))).heap.size (w.setCell ⟨g, 0, none⟩ (.map (some w.heap.size)))) (.map #[] 0)
    rwa [hz] at this
  have k1 : ∀ k, k ≠ g → (w.setCell ⟨g, 0, none⟩ (.map (some w.heap.size))).heap[k]? = w.heap[k]? := fun k hk => Below.heap_setCell _ _ _ _ hk
  have hgB : w.heap.size ≠ g := by omega
  have hM := MapV.made (w.setCell ⟨g, 0, none⟩ (.map (some w.heap.size)))
  rw [hz] at hM
  refine ⟨ok, zg, Nat.lt_of_lt_of_le gl (by have := hb.size; rw [hz] at this; exact this), fun o => ?_, (hb.cell (p := ⟨g, 0, none⟩) gl).trans (World.cell?_setCell_same _ _ _ c0), ?_, hn, hZ _ (Nat.le_refl _), hgB, hM, ?_⟩
  · refine (hb.frozen (p := ⟨g, o, none⟩) gl).trans ?_
    rw [World.frozen?_setCell]; exact fg o
  · exact (hb.cell (p := ⟨g, 1, none⟩) gl).trans ((World.cell?_setCell_other _ _ _ _ (by intro c; injection c with _ c _; cases c)).trans c1)
  · have hR' : RowX iE 1 w (fun k => (Z k ∧ k ≠ g) ∧ k < w.heap.size) a (idsQ []) cap := hR.mono (fun k hk hz => ⟨hz, hk⟩)
    have hR2 := hR'.kept (w' := w.setCell ⟨g, 0, none⟩ (.map (some w.heap.size))) (Nat.le_of_eq hz.symm) (fun k hk _ => k1 k hk.1.2)
    exact (hR2.kept hb.size (fun k hk _ => hb.block k hk.2)).mono (fun k _ hk => ⟨hk.1.1, hk.1.2, by omega⟩)
set_option maxRecDepth 100000 in
set_option maxHeartbeats 4000000 in
theorem accept_in (g id : Nat) (m : ByteArray) (Z : Nat → Prop) (L : List Qe) (w : World) (hZ : ∀ k, w.heap.size ≤ k → Z k) (hQ : QI w Z g L) (hx : lookQ L (id : Int) = none) (hN : L.length < 10000) (h1 : 1 ≤ id ∧ id ≤ 1099511627776) (hm : m.size ≤ 4096) (h8 : (waitQ L).length < 8) :
    Calls Try.prog 20 #[.pointer (some ⟨g, 0, none⟩), .agg #[.int .i64 (id : Nat), .string m]] w fun e w' => e = .returned (.tuple #[]) ∧ QI w' Z g (L ++ [(⟨id, m, false, sg0⟩ : Qe)]) ∧ Off Z w w' := by
  have HT : Hid ((∀ k, w.heap.size ≤ k → Z k) ∧ lookQ L (id : Int) = none ∧ L.length < 10000 ∧ (-9223372036854775808 ≤ (id : Int) ∧ (id : Int) ≤ 9223372036854775807) ∧ m.size ≤ 281474976710656 ∧ QOk (L ++ [(⟨id, m, false, sg0⟩ : Qe)])) := ⟨hZ, hx, hN, by omega, by omega, hQ.ok.push h1 hm hx rfl rfl h8⟩
  have hb : Below w.heap.size w (w.alloc (.cells #[.int .i64 (id : Nat), .string m] 31)) := below_alloc0 (Below.refl _ _) _
  obtain ⟨mB, a, cap, c0, c1, q2, q3, q4⟩ := (hQ.call hb).body
  have hl := (hQ.call hb).gl
  have fg := (hQ.call hb).fg 0
  have HQ : Hid (QI (w.alloc (.cells #[.int .i64 (id : Nat), .string m] 31)) Z g L ∧ Off Z w (w.alloc (.cells #[.int .i64 (id : Nat), .string m] 31)) ∧ g < w.heap.size) := ⟨hQ.call hb, Off.of_below hb hZ, hQ.gl⟩
  have HB : Hid ((mB = none → L = []) ∧ (∀ B, mB = some B → Z B ∧ B ≠ g ∧ MapV (w.alloc (.cells #[.int .i64 (id : Nat), .string m] 31)) B L.length (fun t => (lookQ L t).map entV) ∧ B < w.heap.size) ∧ RowX iE 1 (w.alloc (.cells #[.int .i64 (id : Nat), .string m] 31)) (fun k => Z k ∧ k ≠ g ∧ some k ≠ mB) a (idsQ L) cap) := ⟨q2, fun B hB => by
    obtain ⟨mB', a', cap', d0, d1, d2, d3, d4⟩ := hQ.body
    have e : mB' = mB := by
      have := ((hb.cell (p := ⟨g, 0, none⟩) hQ.gl).trans d0).symm.trans c0
      injection this with this
      injection this
    obtain ⟨r1, r2, r3⟩ := q3 B hB
    exact ⟨r1, r2, r3, (d3 B (by rw [e]; exact hB)).2.2.lt⟩, q4⟩
  obtain ⟨n, hn⟩ : ∃ n, n = (idsQ L).length := ⟨_, rfl⟩
  have HN : Hid (n = (idsQ L).length) := hn
  rw [← hn] at c1
  have hq := eq_mapQ mB
  obtain ⟨E, hE⟩ : ∃ E, E = w.heap.size := ⟨_, rfl⟩
  have HE : Hid (E = w.heap.size) := hE
  have x0 : (w.alloc (.cells #[.int .i64 (id : Nat), .string m] 31)).cell? ⟨E, 0, none⟩ = some (.int .i64 (id : Nat)) := by rw [hE, World.cell?_alloc_new]; rfl
  have x1 : (w.alloc (.cells #[.int .i64 (id : Nat), .string m] 31)).cell? ⟨E, 1, none⟩ = some (.string m) := by rw [hE, World.cell?_alloc_new]; rfl
  have xl : E < (w.alloc (.cells #[.int .i64 (id : Nat), .string m] 31)).heap.size := by rw [hE]; simp
  clear hQ hZ hx hN h1 hm h8 hb q2 q3 q4 hn hE
  obtain ⟨W0, hW0⟩ : ∃ W0, W0 = w.alloc (.cells #[.int .i64 (id : Nat), .string m] 31) := ⟨_, rfl⟩
  have HW0 : Hid (W0 = w.alloc (.cells #[.int .i64 (id : Nat), .string m] 31)) := hW0
  rw [← hW0] at c0 c1 hl fg x0 x1 xl HQ HB
  clear hW0
  go_enter Try.func20, Try.ntmps20
  go_upto_region 1 with fail
  rw [← HW0.out, ← HE.out]
  go_upto_if 8 with fail
  go_cut [] (fun wz => ∃ B, QM wz Z g B a n cap L ∧ Off Z w wz ∧ E < wz.heap.size ∧ E ≠ B ∧ wz.cell? ⟨E, 0, none⟩ = some (.int .i64 (id : Nat)) ∧ wz.cell? ⟨E, 1, none⟩ = some (.string m))
  case first =>
    cases mB with
    | none =>
      have hmm := @run_makeMap Try.prog
      go_wp2_with fail
      go_meet
      have e : L = [] := HB.out.1 (by simp)
      have hEg : E ≠ g := by have := HQ.out.2.2; have := HE.out; omega
      have hZ0 := off_new HQ.out.2.1 HT.out.1
      obtain ⟨V, hV⟩ : ∃ V, V = W0.setCell ⟨g, 0, none⟩ (.map (some W0.heap.size)) := ⟨_, rfl⟩
      have hz : V.heap.size = W0.heap.size := by rw [hV]; exact World.size_setCell ..
      have hbl : Below W0.heap.size V (V.alloc (.map #[] 0)) := by rw [← hz]; exact below_alloc0 (Below.refl _ _) _
      have kV : ∀ b, b ≠ g → V.heap[b]? = W0.heap[b]? := fun b hb => by rw [hV]; exact Below.heap_setCell _ _ _ _ hb
      have hQM := QM.of_none (a := a) (n := n) (cap := cap) hZ0 (by have := HQ.out.1.ok; rwa [e] at this) HQ.out.1.zg hl HQ.out.1.fg c0 c1 (by rw [← e]; exact HN.out) (by rw [← e]; exact HB.out.2.2.mono (fun k _ hk => ⟨hk.1, hk.2.1⟩))
      rw [← hV] at hQM ⊢
      have y : ∀ o, (V.alloc (.map #[] 0)).cell? ⟨E, o, none⟩ = W0.cell? ⟨E, o, none⟩ := fun o => (hbl.cell (p := ⟨E, o, none⟩) xl).trans (World.cell?_of_block (w := W0) (a := ⟨E, o, none⟩) (kV E hEg))
      refine ⟨W0.heap.size, by rw [e]; exact hQM, ⟨hbl.os.trans (by rw [hV]; exact HQ.out.2.1.os), hbl.tape.trans (by rw [hV]; exact HQ.out.2.1.tape), hbl.output.trans (by rw [hV]; exact HQ.out.2.1.output), Nat.le_trans HQ.out.2.1.size (by rw [← hz]; exact hbl.size), fun b hb => ?_⟩, Nat.lt_of_lt_of_le xl (by rw [← hz]; exact hbl.size), Nat.ne_of_lt xl, (y 0).trans x0, (y 1).trans x1⟩
      by_cases q : b < W0.heap.size
      · exact ((hbl.block b q).trans (kV b (fun (c : b = g) => hb (by rw [c]; exact HQ.out.1.zg)))).trans (HQ.out.2.1.block b hb)
      · exact absurd (hZ0 b (by omega)) hb
    | some B =>
      go_wp2_with fail
      go_meet
      obtain ⟨r1, r2, r3, r4⟩ := HB.out.2.1 B rfl
      exact ⟨B, ⟨HQ.out.1.ok, HQ.out.1.zg, hl, HQ.out.1.fg, c0, c1, HN.out, r1, r2, r3, HB.out.2.2.mono (fun k _ hk => ⟨hk.1, hk.2.1, fun c => hk.2.2 (by rw [c])⟩)⟩, HQ.out.2.1, xl, by have := HE.out; omega, x0, x1⟩
  case rest =>
    clear c0 c1 hl fg x0 x1 xl HB HQ HW0
    rename World => W
    obtain ⟨B, hQ, hO, hEl, hEB, x0, x1⟩ := hcut
    have HW : Hid (QM W Z g B a n cap L ∧ Off Z w W ∧ E < W.heap.size ∧ E ≠ B) := ⟨hQ, hO, hEl, hEB⟩
    clear hQ hO hEl hEB
    have d0 := HW.out.1.c0
    have d1 := HW.out.1.c1
    have dl := HW.out.1.gl
    go_upto_region 3 with fail
    go_cut [] (fun wz => ∃ w4, QM w4 Z g B a n cap L ∧ MapV wz B (L ++ [(⟨id, m, false, sg0⟩ : Qe)]).length (fun t => (lookQ (L ++ [(⟨id, m, false, sg0⟩ : Qe)]) t).map entV) ∧ w4.mapTurned wz B ∧ Off Z w w4 ∧ W.heap.size ≤ w4.heap.size ∧ wz.cell? ⟨g, 0, none⟩ = some (.map (some B)) ∧ wz.cell? ⟨g, 1, none⟩ = some (.slice a n cap) ∧ wz.cell? ⟨E, 0, none⟩ = some (.int .i64 (id : Nat)))
    case first =>
      go_region_with (first
        | (go_at_call 24; refine (clone_any m _ HT.out.2.2.2.2.1).mono ?_; rintro e w4 ⟨rfl, hb4⟩; obtain ⟨w5, f0, f1, y0, y1, hup, z0, z1, v0, h5⟩ := acc_mid HT.out.1 HT.out.2.1 HT.out.2.2.1 HT.out.2.2.2.1 HW.out x0 x1 hb4; have H5 : Hid _ := h5; clear hb4 h5))
      all_goals
        go_wp2_with fail
        go_meet
        exact ⟨w4, H5.out.1, H5.out.2.1, H5.out.2.2.1, H5.out.2.2.2.1, H5.out.2.2.2.2, z0, z1, v0⟩
    case rest =>
      rename World => w5
      obtain ⟨w4, q1, q2, q3, q4, q5, z0, z1, v0⟩ := hcut
      have H5 : Hid (QM w4 Z g B a n cap L ∧ MapV w5 B (L ++ [(⟨id, m, false, sg0⟩ : Qe)]).length (fun t => (lookQ (L ++ [(⟨id, m, false, sg0⟩ : Qe)]) t).map entV) ∧ w4.mapTurned w5 B ∧ Off Z w w4 ∧ W.heap.size ≤ w4.heap.size) := ⟨q1, q2, q3, q4, q5⟩
      clear q1 q2 q3 q4 q5
      have sz5 : w5.heap.size = w4.heap.size := mapTurned_size H5.out.2.2.1
      have kb5 : ∀ b, b ≠ B → w5.heap[b]? = w4.heap[b]? := fun b hb => mapTurned_block H5.out.2.2.1 hb
      have hO5 : Off Z w w5 := mapTurned_off H5.out.2.2.2.1 H5.out.2.2.1 H5.out.1.zB
      have hR5 : RowX iE 1 (w5.alloc (.cells #[.int .i64 (id : Nat)] 3)).drew (fun k => Z k ∧ k ≠ g ∧ k ≠ B) a (idsQ L) cap := ((H5.out.1.row.kept (w' := w5) (Nat.le_of_eq sz5.symm) (fun k hk _ => kb5 k hk.2.2)).call (below_alloc0 (Below.refl w5.heap.size w5) _)).drew
      obtain ⟨a', cap', w9, happ, hR9, hO9⟩ := run_append_RowX (ty := 58) (w5.alloc (.cells #[.int .i64 (id : Nat)] 3)).drew (fun k => Z k ∧ k ≠ g ∧ k ≠ B) infoI iE_len iE_one (by decide) a cap n (idsQ L) (id : Int) H5.out.1.hn hR5 (by have := H5.out.1.ok.w8; have := H5.out.1.hn; unfold idsQ at this; rw [List.length_map] at this; omega) (by decide) (fun k hk => by
        have q1 : w5.heap.size < k := by
          have : (w5.alloc (.cells #[.int .i64 (id : Nat)] 3)).drew.heap.size = w5.heap.size + 1 := by simp
          omega
        have q2 := H5.out.1.mp.lt
        have q3 := H5.out.1.gl
        exact ⟨off_new hO5 HT.out.1 k (by omega), by omega, by omega⟩) ⟨w5.heap.size, 0, none⟩ 1 (fun j u hj => by
        match j, hj with
        | 0, hj =>
          cases hj
          show (w5.alloc (.cells #[.int .i64 (id : Nat)] 3)).cell? _ = _
          rw [Addr.add_lit, Nat.zero_add, World.cell?_alloc_new]; rfl
        | j + 1, hj => simp [iE] at hj)
      have hEnd := acc_end (n := n + 1) (off_new hO5 HT.out.1) HT.out.2.2.2.2.2 H5.out.1.zg H5.out.1.zB H5.out.1.gB (by rw [sz5]; exact H5.out.1.gl) H5.out.2.1 z0 z1 (fun o => (World.frozen?_of_block (w := w4) (a := ⟨g, o, none⟩) (kb5 g H5.out.1.gB.symm)).trans (H5.out.1.fg o)) (by rw [ids_push L _ rfl, List.length_append, ← H5.out.1.hn]; rfl) (by rw [ids_push L _ rfl]; exact hR9) hO9
      have HE2 : Hid (QI (w9.setCell ⟨g, 1, none⟩ (.slice a' (n + 1) cap')) Z g (L ++ [(⟨id, m, false, sg0⟩ : Qe)]) ∧ Off Z w (w9.setCell ⟨g, 1, none⟩ (.slice a' (n + 1) cap'))) := ⟨hEnd.1.toQI, hO5.trans hEnd.2.1⟩
      have g9 := hEnd.2.2.1
      have z9 := hEnd.2.2.2
      have gl5 : g < w5.heap.size := by rw [sz5]; exact H5.out.1.gl
      have el5 : E < w5.heap.size := by rw [sz5]; exact Nat.lt_of_lt_of_le HW.out.2.2.1 H5.out.2.2.2.2
      obtain ⟨n1, hn1⟩ : ∃ n1, n1 = n + 1 := ⟨_, rfl⟩
      have HN1 : Hid (n1 = n + 1) := hn1
      rw [← hn1] at happ
      clear sz5 kb5 hO5 hR5 hR9 hO9 hEnd hn1 d0 d1 dl x0 x1
      go_wp2_with fail
      go_region_law (refine step_append_run rfl (.tmp 27) (.tmp 30) 58 rfl (by simp [Act.eval]) (by simp [Act.eval]) happ ?_)
      all_goals
        rw [HN1.out]
        go_end0
        exact ⟨rfl, HE2.out⟩
end Go.Proofs.Ytolhkpgpcbebiaa
