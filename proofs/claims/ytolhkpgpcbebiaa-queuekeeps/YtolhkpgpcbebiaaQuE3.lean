/- Package queue: Count, Get, Waiting. -/
import Derived.Test.YtolhkpgpcbebiaaQuE2
namespace Go.Proofs.Ytolhkpgpcbebiaa
open Go Go.RowKit Go.Lib
theorem len_mapQ0 (ty : TypeId) (w : World) : (Builtin.len_ #[61] ty #[.map none]).run Try.prog w = .ok (.int .i64 0) w := by kernel_rfl
set_option maxRecDepth 100000 in
set_option maxHeartbeats 2000000 in
theorem count_gen (g n N d : Nat) (mB : Option Nat) (a : Option Addr) (cap : Nat) (w : World) (c0 : w.cell? ⟨g, 0, none⟩ = some (.map mB)) (c1 : w.cell? ⟨g, 1, none⟩ = some (.slice a n cap)) (hlen : ∀ ty, (Builtin.len_ #[61] ty #[.map mB]).run Try.prog w.drew = .ok (.int .i64 (N : Nat)) w.drew) (hd : N = n + d) (hN : N < 100000) :
    Calls Try.prog 13 #[.pointer (some ⟨g, 0, none⟩)] w fun e w' => e = .returned (.tuple #[.int .i64 (n : Nat), .int .i64 (d : Nat)]) ∧ w' = w.drew := by
  have i1 : (N : Int) - (n : Int) = (d : Nat) := by omega
  have i2 : (d : Int) < 100000 := by omega
  have i3 : (n : Int) < 100000 := by omega
  have i4 : (N : Int) < 100000 := by omega
  clear hd hN
  go_enter Try.func13, Try.ntmps13
  go_wp2_with fail
  go_region
  go_wp2_with fail
  go_ret2
  exact ⟨by first | rfl | simp [i1], rfl⟩
theorem count_in (g n d : Nat) (Z : Nat → Prop) (L : List Qe) (w : World) (hQ : QI w Z g L) (hn : n = (waitQ L).length) (hd : L.length = n + d) (hN : L.length < 10000) :
    Calls Try.prog 13 #[.pointer (some ⟨g, 0, none⟩)] w fun e w' => e = .returned (.tuple #[.int .i64 (n : Nat), .int .i64 (d : Nat)]) ∧ w' = w.drew := by
  obtain ⟨mB, a, cap, c0, c1, q2, q3, q4⟩ := hQ.body
  have e : (idsQ L).length = n := by unfold idsQ; rw [List.length_map, hn]
  rw [e] at c1
  refine count_gen g n L.length d mB a cap w c0 c1 (fun ty => ?_) hd (by omega)
  cases mB with
  | none => rw [q2 rfl]; exact len_mapQ0 ty _
  | some B =>
    have : MapV w.drew B L.length (fun t => (lookQ L t).map entV) := (q3 B rfl).2.2
    exact this.len ty
theorem lookQ_self : ∀ {L : List Qe} {x : Qe}, L.Pairwise (fun a b => a.id ≠ b.id) → x ∈ L → lookQ L (x.id : Int) = some x
  | [], _, _, h => by cases h
  | y :: L, x, ha, h => by
    have ha' := List.pairwise_cons.1 ha
    rw [lookQ]
    rcases List.mem_cons.1 h with rfl | h
    · rw [if_pos rfl]
    · have := ha'.1 x h
      rw [if_neg (by omega)]
      exact lookQ_self ha'.2 h
def gI (o : Option Qe) : Int := match o with | some e => (e.id : Nat) | none => 0
theorem get_blk {w w1 : World} (hb : Below (w.alloc (.cells #[.int .i64 0, .string ⟨#[]⟩] 31)).heap.size (w.alloc (.cells #[.int .i64 0, .string ⟨#[]⟩] 31)) w1) : Blk w1 w.heap.size [.int .i64 0, .string ⟨#[]⟩] ∧ Below w.heap.size w w1 := ⟨(Blk.new w [.int .i64 0, .string ⟨#[]⟩] 31).call hb, (below_alloc0 (Below.refl _ _) _).trans (hb.mono (by simp))⟩
set_option maxRecDepth 100000 in
set_option maxHeartbeats 4000000 in
theorem get_none (g : Nat) (id : Int) (Z : Nat → Prop) (L : List Qe) (w : World) (hQ : QI w Z g L) (hid : -9223372036854775808 ≤ id ∧ id ≤ 9223372036854775807) (hl : lookQ L id = none) :
    Calls Try.prog 17 #[.pointer (some ⟨g, 0, none⟩), .int .i64 id] w fun e w' => e = .returned (.tuple #[.agg #[.int .i64 0, .string ⟨#[]⟩], .bool false]) ∧ Below w.heap.size w w' := by
  have HQ : Hid (QI w Z g L ∧ (-9223372036854775808 ≤ id ∧ id ≤ 9223372036854775807) ∧ lookQ L id = none) := ⟨hQ, hid, hl⟩
  clear hQ hid hl
  go_enter Try.func17, Try.ntmps17
  go_wp2_with fail
  refine (find_in g id HQ.out.2.1 Z L _ (HQ.out.1.call (below_alloc0 (Below.refl _ _) _))).mono ?_
  rintro e w2 ⟨rfl, hb2⟩
  rw [HQ.out.2.2]
  simp only [fm, fa, fs, sg0, Option.isSome_none]
  have h2 := get_blk hb2
  obtain ⟨E, hE⟩ : ∃ E, E = w.heap.size := ⟨_, rfl⟩
  rw [← hE] at h2 ⊢
  have HE : Hid (E = w.heap.size ∧ Blk w2 E [.int .i64 0, .string ⟨#[]⟩] ∧ Below E w w2) := ⟨hE, h2⟩
  have el := h2.1.1
  have f0 : w2.cell? ⟨E, 0, none⟩ = some (.int .i64 0) := h2.1.2.2 0 _ rfl
  have f1 : w2.cell? ⟨E, 1, none⟩ = some (.string ⟨#[]⟩) := h2.1.2.2 1 _ rfl
  have fz := h2.1.2.1
  clear hb2 h2 hE
  go_wp2_with fail
  refine bodyPost_ret (v := .tuple #[.agg #[.int .i64 0, .string ⟨#[]⟩], .bool false]) ?_ rfl ⟨rfl, ?_⟩
  · simp [results, Try.results17, go_sem, *]
  · rw [← HE.out.1]
    exact ((HE.out.2.2.setCell (p := ⟨E, _, none⟩) (Nat.le_refl E) _).setCell (p := ⟨E, _, none⟩) (Nat.le_refl E) _).alloc (by rw [World.size_setCell, World.size_setCell]; exact Nat.le_of_lt HE.out.2.1.1) _
set_option maxRecDepth 100000 in
set_option maxHeartbeats 4000000 in
theorem get_some (g : Nat) (id : Int) (Z : Nat → Prop) (L : List Qe) (w : World) (hQ : QI w Z g L) (hid : -9223372036854775808 ≤ id ∧ id ≤ 9223372036854775807) (x : Qe) (hl : lookQ L id = some x) :
    Calls Try.prog 17 #[.pointer (some ⟨g, 0, none⟩), .int .i64 id] w fun e w' => e = .returned (.tuple #[.agg #[.int .i64 id, .string x.m], .bool true]) ∧ Below w.heap.size w w' := by
  have HQ : Hid (QI w Z g L ∧ (-9223372036854775808 ≤ id ∧ id ≤ 9223372036854775807) ∧ lookQ L id = some x ∧ x.m.size ≤ 281474976710656) := ⟨hQ, hid, hl, by have := hQ.ok.ms x (lookQ_mem hl).1; omega⟩
  clear hQ hid hl
  go_enter Try.func17, Try.ntmps17
  go_wp2_with fail
  refine (find_in g id HQ.out.2.1 Z L _ (HQ.out.1.call (below_alloc0 (Below.refl _ _) _))).mono ?_
  rintro e w2 ⟨rfl, hb2⟩
  rw [HQ.out.2.2.1]
  simp only [fm, fa, fs, Option.isSome_some]
  have h2 := get_blk hb2
  obtain ⟨E, hE⟩ : ∃ E, E = w.heap.size := ⟨_, rfl⟩
  rw [← hE] at h2 ⊢
  have HE : Hid (E = w.heap.size ∧ Blk w2 E [.int .i64 0, .string ⟨#[]⟩] ∧ Below E w w2) := ⟨hE, h2⟩
  have el := h2.1.1
  have f0 : w2.cell? ⟨E, 0, none⟩ = some (.int .i64 0) := h2.1.2.2 0 _ rfl
  have f1 : w2.cell? ⟨E, 1, none⟩ = some (.string ⟨#[]⟩) := h2.1.2.2 1 _ rfl
  have fz := h2.1.2.1
  clear hb2 h2 hE
  go_wp2_with fail
  refine (request_any x.m (qa x.d) id x.S _ HQ.out.2.2.2).mono ?_
  rintro e w5 ⟨rfl, hb5⟩
  have H5 : Hid (Below E w w5 ∧ Blk w5 E [.int .i64 0, .string ⟨#[]⟩]) := ⟨(HE.out.2.2.alloc (Nat.le_of_lt HE.out.2.1.1) _).trans (hb5.mono (by simp; exact Nat.le_succ_of_le (Nat.le_of_lt HE.out.2.1.1))), (HE.out.2.1.call (below_alloc0 (Below.refl _ _) _)).call hb5⟩
  have k0 : w5.cell? ⟨E, 0, none⟩ = some (.int .i64 0) := H5.out.2.2.2 0 _ rfl
  have k1 : w5.cell? ⟨E, 1, none⟩ = some (.string ⟨#[]⟩) := H5.out.2.2.2 1 _ rfl
  have kz := H5.out.2.2.1
  clear hb5 f0 f1 fz
  go_wp2_with fail
  refine bodyPost_ret (v := .tuple #[.agg #[.int .i64 id, .string x.m], .bool true]) ?_ rfl ⟨rfl, ?_⟩
  · simp [results, Try.results17, go_sem, *]
  · rw [← HE.out.1]
    exact (H5.out.1.setCell (p := ⟨E, _, none⟩) (Nat.le_refl E) _).setCell (p := ⟨E, _, none⟩) (Nat.le_refl E) _
theorem get_in (g : Nat) (id : Int) (Z : Nat → Prop) (L : List Qe) (w : World) (hQ : QI w Z g L) (hid : -9223372036854775808 ≤ id ∧ id ≤ 9223372036854775807) :
    Calls Try.prog 17 #[.pointer (some ⟨g, 0, none⟩), .int .i64 id] w fun e w' => e = .returned (.tuple #[.agg #[.int .i64 (gI (lookQ L id)), .string (fm (lookQ L id))], .bool (lookQ L id).isSome]) ∧ Below w.heap.size w w' := by
  cases hl : lookQ L id with
  | none => exact get_none g id Z L w hQ hid hl
  | some x =>
    have e := (lookQ_mem hl).2
    have := get_some g id Z L w hQ hid x hl
    rw [← e] at this ⊢
    exact this
def rqE (x : Qe) : List Value := [.int .i64 (x.id : Nat), .string x.m]
theorem rqE_len (x : Qe) : (rqE x).length = 2 := rfl
theorem rqE_one (x : Qe) : ∀ u ∈ rqE x, u.oneCell' = true := fun u hu => by
  simp [rqE] at hu
  rcases hu with rfl | rfl <;> rfl
theorem infoR : InfE Try.prog 50 31 2 24 := by
  refine ⟨Try.underlying50, ?_⟩
  have h : (Try.prog.info? 31).map (fun i => (i.zero, i.size, i.bytes)) = some (some (.agg #[.int .i64 0, .string ⟨#[]⟩]), 2, 24) := by kernel_rfl
  cases e : Try.prog.info? 31 with
  | none => rw [e] at h; cases h
  | some i =>
    rw [e] at h
    simp only [Option.map_some, Option.some.injEq, Prod.mk.injEq] at h
    exact ⟨i, _, rfl, h.1, rfl, h.2.1, h.2.2⟩
theorem wpList_append_run {P : Program} {w w' : World} {ops : Array Oper} {rest : List Oper} {o : Oper} {a : Act} {Q : Exit → Act → World → Prop} (hgd : o.guard = none) (s x : Operand) (t : TypeId) (ho : o.op = .call { callee := .builtin .append, args := #[s, x], argTypes := #[t, t] }) {v1 v2 v : Value} (h1 : a.eval s = v1) (h2 : a.eval x = v2) (hrun : (Builtin.append_ #[t, t] o.type #[v1, v2]).run P w = .ok v w') (h : wpList P ops Q rest (a.put o.dst v) w') : wpList P ops Q (o :: rest) a w := by
  refine wpList_plain hgd fun K hK => ?_
  unfold Oper.wp
  simp [execOp, ho, resolve, invoke, builtin, h1, h2, hrun, Result.andThen]
  exact hK _ _ h
theorem take_snoc {α : Type} {X : List α} {i : Nat} {x : α} (h : X[i]? = some x) : X.take (i + 1) = X.take i ++ [x] := by
  rw [List.take_add_one, h]; rfl
/-- A row of the law's own, in blocks from B on. -/
theorem row_app {α : Type} {enc : α → List Value} {k bytes : Nat} {t e : TypeId} (I : InfE Try.prog t e k bytes) (hk : ∀ x, (enc x).length = k) (h1k : ∀ x, ∀ u ∈ enc x, u.oneCell' = true) (k0 : 0 < k) (hby : bytes ≤ 1000) {w0 w : World} {B n cap : Nat} {a : Option Addr} {X : List α} (x : α) (hn : n = X.length) (h5 : n ≤ 100000) (hR : RowX enc k w (From B) a X cap) (hb : Below B w0 w) (hB : B ≤ w.heap.size) (te : TypeId) :
    ∃ a' cap' w', (Builtin.append_ #[t, t] t #[.slice a n cap, .slice (some ⟨w.heap.size, 0, none⟩) 1 1]).run Try.prog (w.alloc (.cells (enc x).toArray te)) = .ok (.slice a' (n + 1) cap') w' ∧ RowX enc k w' (From B) a' (X ++ [x]) cap' ∧ Below B w0 w' ∧ B ≤ w'.heap.size ∧ Off (From B) w w' := by
  have hb1 : Below w.heap.size w (w.alloc (.cells (enc x).toArray te)) := below_alloc0 (Below.refl _ _) _
  obtain ⟨a', cap', w', h1, h2, h3⟩ := run_append_RowX (ty := t) (w.alloc (.cells (enc x).toArray te)) (From B) I hk h1k k0 a cap n X x hn (hR.call hb1) (by omega) hby (fun j hj => by show B ≤ j; have := hb1.size; omega) ⟨w.heap.size, 0, none⟩ 1 (fun j u hj => by rw [Addr.add_lit, Nat.zero_add, World.cell?_alloc_new, List.getElem?_toArray]; exact hj)
  have hO : Off (From B) w w' := (Off.of_below hb1 (fun j hj => by show B ≤ j; omega)).trans h3
  exact ⟨a', cap', w', h1, h2, ⟨hO.os.trans hb.os, hO.tape.trans hb.tape, hO.output.trans hb.output, Nat.le_trans hb.size hO.size, fun j hj => (hO.block j (not_from hj)).trans (hb.block j hj)⟩, Nat.le_trans hB hO.size, hO⟩
set_option maxRecDepth 100000 in
set_option maxHeartbeats 4000000 in
theorem waiting_in (g : Nat) (Z : Nat → Prop) (L : List Qe) (w : World) (hQ : QI w Z g L) :
    Calls Try.prog 15 #[.pointer (some ⟨g, 0, none⟩)] w fun e w' => ∃ a n cap, e = .returned (.slice a n cap) ∧ n = (waitQ L).length ∧ RowX rqE 2 w' (From w.heap.size) a (waitQ L) cap ∧ Below w.heap.size w w' := by
  obtain ⟨mB, a, cap, c0, c1, q2, q3, q4⟩ := hQ.body
  obtain ⟨n, hn⟩ : ∃ n, n = (waitQ L).length := ⟨_, rfl⟩
  have e : (idsQ L).length = n := by unfold idsQ; rw [List.length_map, hn]
  rw [e] at c1
  have hl := hQ.gl
  have n8 : (n : Int) ≤ 8 := by have := hQ.ok.w8; omega
  have HB : Hid (QI w Z g L ∧ n = (waitQ L).length ∧ (mB = none → L = []) ∧ (∀ B, mB = some B → Z B ∧ B ≠ g ∧ MapV w B L.length (fun t => (lookQ L t).map entV)) ∧ RowX iE 1 w (fun k => Z k ∧ k ≠ g ∧ some k ≠ mB) a (idsQ L) cap ∧ n ≤ 8) := ⟨hQ, hn, q2, q3, q4, by omega⟩
  clear hQ q2 q3 q4 e hn
  go_enter Try.func15, Try.ntmps15
  go_wp2_with fail
  rename_i Kr hKr
  have HKr : Hid _ := hKr
  clear hKr
  go_loopw [3, 13] (fun ov iv wr => ∃ (i m : Nat) (ra : Option Addr) (rc : Nat), i ≤ n ∧ m = i ∧ ov = .slice ra m rc ∧ iv = .int .i64 (i : Nat) ∧ RowX rqE 2 wr (From w.heap.size) ra ((waitQ L).take i) rc ∧ Below w.heap.size w wr) (fun _ iv _ => n - (Go.RowKit.intOf iv).toNat)
  case atStart => exact ⟨0, 0, none, 0, Nat.zero_le _, rfl, rfl, rfl, RowX.nil _ _, Below.refl _ _⟩
  case round =>
    obtain ⟨i, m, ra, rc, hi, hm, rfl, rfl, hR, hb⟩ := hrel
    rename World => wr
    have HI : Hid (i ≤ n ∧ m = i ∧ RowX rqE 2 wr (From w.heap.size) ra ((waitQ L).take i) rc ∧ Below w.heap.size w wr) := ⟨hi, hm, hR, hb⟩
    by_cases hlt : i < n
    · have hlt' : (i : Int) < (n : Nat) := by omega
      obtain ⟨x, hx⟩ : ∃ x, (waitQ L)[i]? = some x := ⟨_, List.getElem?_eq_getElem (by rw [← HB.out.2.1]; exact hlt)⟩
      have hxi : (idsQ L)[i]? = some (x.id : Int) := by unfold idsQ; rw [List.getElem?_map, hx]; rfl
      have hxm := (waitQ_mem (List.mem_of_getElem? hx)).1
      obtain ⟨B, rfl⟩ : ∃ B, mB = some B := by
        cases mB with
        | none => have := HB.out.2.2.1 rfl; rw [this] at hxm; cases hxm
        | some B => exact ⟨B, rfl⟩
      obtain ⟨b, o, rfl, hc, hbl, -, -⟩ := HB.out.2.2.2.2.1.get iE_len hxi
      have r0 : wr.cell? ⟨b, o + i, none⟩ = some (.int .i64 (x.id : Nat)) := (hb.cell (p := ⟨b, o + i, none⟩) hbl).trans (by have := hc 0 _ rfl; rwa [Nat.mul_one, Nat.add_zero] at this)
      have k0 : wr.cell? ⟨g, 0, none⟩ = some (.map (some B)) := (hb.cell (p := ⟨g, 0, none⟩) hl).trans c0
      have hid := HB.out.1.ok.id1 x hxm
      have hmp := ((HB.out.2.2.2.1 B rfl).2.2).block (hb.block B (HB.out.2.2.2.1 B rfl).2.2.lt)
      have hlk := hmp.look1 (t := (x.id : Nat)) (by omega)
      rw [lookQ_self HB.out.1.ok.ap hxm] at hlk
      replace hlk : (Instr.lookup 61 (.map (some B)) (.int .i64 (x.id : Nat)) false).run Try.prog wr = .ok (.agg #[.string x.m, .int .i64 (qa x.d), .int .u64 x.S.x0, .int .u64 x.S.x1, .int .u64 x.S.x2, .int .u64 x.S.x3, .int .u64 x.S.x4, .int .u64 x.S.x5, .int .u64 x.S.x6, .int .u64 x.S.x7, .bool x.S.i, .int .u64 x.S.x8, .int .u64 x.S.x9, .int .u64 x.S.x10, .int .u64 x.S.x11]) wr := hlk
      have HX : Hid ((waitQ L)[i]? = some x ∧ x.m.size ≤ 281474976710656) := ⟨hx, by have := HB.out.1.ok.ms x hxm; omega⟩
      clear hR hb hx hxi hxm hc hbl hid hmp hi hm hlt
      go_wp2_with fail
      refine (request_any x.m (qa x.d) (x.id : Nat) x.S wr HX.out.2).mono ?_
      rintro e w4 ⟨rfl, hb4⟩
      obtain ⟨a', cap', w9, happ, hR9, hb9, -⟩ := row_app (B := w.heap.size) infoR rqE_len rqE_one (by decide) (by decide) x (n := m) (by rw [List.length_take, ← HB.out.2.1, HI.out.2.1]; have := HI.out.1; omega) (by have := HI.out; have := HB.out.2.2.2.2.2; omega) (HI.out.2.2.1.call hb4) (HI.out.2.2.2.trans (hb4.mono HI.out.2.2.2.size)) (Nat.le_trans HI.out.2.2.2.size hb4.size) 31
      rw [← take_snoc HX.out.1] at hR9
      have H9 : Hid (RowX rqE 2 w9 (From w.heap.size) a' ((waitQ L).take (i + 1)) cap' ∧ Below w.heap.size w w9) := ⟨hR9, hb9⟩
      obtain ⟨m1, hm1⟩ : ∃ m1, m1 = m + 1 := ⟨_, rfl⟩
      have HM : Hid (m1 = m + 1) := hm1
      rw [← hm1] at happ
      replace happ : (Builtin.append_ #[50, 50] 50 #[.slice ra m rc, .slice (some ⟨w4.heap.size, 0, none⟩) 1 1]).run Try.prog (w4.alloc (.cells #[.int .i64 (x.id : Nat), .string x.m] 31)) = .ok (.slice a' m1 cap') w9 := happ
      clear hb4 hR9 hb9 hm1 hlk r0 k0 HKr
      go_wp2_with (at_builtin; refine wpList_append_run rfl _ _ 50 rfl rfl rfl happ ?_)
      go_roundw
      case rel => exact ⟨i + 1, m1, a', cap', by have := HI.out.1; have : (i : Int) < (n : Nat) := hlt'; omega, by rw [HM.out, HI.out.2.1], rfl, by first | rfl | (congr 1), H9.out⟩
      case measure => simp [Go.RowKit.intOf]; omega
    · have hge : ¬ ((i : Int) < (n : Nat)) := by omega
      have HIN : Hid (i = n) := by have : i = n := by omega
                                   exact this
      clear hR hb hm hi hlt
      go_wp2_with fail
      refine HKr.out _ _ ?_
      clear HKr
      go_wp2_with fail
      go_ret
      refine ⟨ra, m, rc, rfl, by rw [← HB.out.2.1, HI.out.2.1, HIN.out], ?_, HI.out.2.2.2⟩
      have := HI.out.2.2.1
      rw [HIN.out, HB.out.2.1, List.take_length] at this
      exact this
end Go.Proofs.Ytolhkpgpcbebiaa
