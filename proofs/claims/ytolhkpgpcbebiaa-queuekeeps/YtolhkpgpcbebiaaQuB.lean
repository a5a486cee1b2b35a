/- Package queue: a queue in memory; New, find, isRequest, request. -/
import Derived.Test.YtolhkpgpcbebiaaQuN
namespace Go.Proofs.Ytolhkpgpcbebiaa
open Go Go.RowKit Go.Lib
def iE (x : Int) : List Value := [.int .i64 x]
theorem iE_len (x : Int) : (iE x).length = 1 := rfl
theorem iE_one (x : Int) : ∀ u ∈ iE x, u.oneCell' = true := fun u hu => by rw [List.mem_singleton.1 hu]; rfl
/-- A queue at block g that knows L. -/
structure QI (w : World) (Z : Nat → Prop) (g : Nat) (L : List Qe) : Prop where
  ok : QOk L
  zg : Z g
  gl : g < w.heap.size
  fg : ∀ o, w.frozen? ⟨g, o, none⟩ = false
  body : ∃ mB a cap, w.cell? ⟨g, 0, none⟩ = some (.map mB) ∧ w.cell? ⟨g, 1, none⟩ = some (.slice a (idsQ L).length cap) ∧ (mB = none → L = []) ∧ (∀ B, mB = some B → Z B ∧ B ≠ g ∧ MapV w B L.length (fun t => (lookQ L t).map entV)) ∧ RowX iE 1 w (fun k => Z k ∧ k ≠ g ∧ some k ≠ mB) a (idsQ L) cap
theorem QI.kept {w w' : World} {Z : Nat → Prop} {g : Nat} {L : List Qe} (h : QI w Z g L) (hz : w.heap.size ≤ w'.heap.size) (hb : ∀ k, Z k → k < w.heap.size → w'.heap[k]? = w.heap[k]?) : QI w' Z g L := by
  obtain ⟨mB, a, cap, h0, h1, h2, h3, h4⟩ := h.body
  have e := hb g h.zg h.gl
  refine ⟨h.ok, h.zg, Nat.lt_of_lt_of_le h.gl hz, fun o => (World.frozen?_of_block (w := w) (a := ⟨g, o, none⟩) e).trans (h.fg o), mB, a, cap, (World.cell?_of_block (w := w) (a := ⟨g, 0, none⟩) e).trans h0, (World.cell?_of_block (w := w) (a := ⟨g, 1, none⟩) e).trans h1, h2, fun B hB => ?_, h4.kept hz (fun k hk hl => hb k hk.1 hl)⟩
  obtain ⟨q1, q2, q3⟩ := h3 B hB
  exact ⟨q1, q2, q3.block (hb B q1 q3.lt)⟩
theorem QI.call {w w' : World} {Z : Nat → Prop} {g : Nat} {L : List Qe} (h : QI w Z g L) (hb : Below w.heap.size w w') : QI w' Z g L := h.kept hb.size (fun k _ hk => hb.block k hk)
theorem QI.mono {w : World} {Z Z' : Nat → Prop} {g : Nat} {L : List Qe} (h : QI w Z g L) (hz : ∀ k, k < w.heap.size → Z k → Z' k) : QI w Z' g L := by
  obtain ⟨mB, a, cap, h0, h1, h2, h3, h4⟩ := h.body
  refine ⟨h.ok, hz g h.gl h.zg, h.gl, h.fg, mB, a, cap, h0, h1, h2, fun B hB => ?_, h4.mono (fun k hk hl => ⟨hz k hk hl.1, hl.2⟩)⟩
  obtain ⟨q1, q2, q3⟩ := h3 B hB
  exact ⟨hz B q3.lt q1, q2, q3⟩
theorem qnew_in (Z : Nat → Prop) (w : World) (hZ : ∀ k, w.heap.size ≤ k → Z k) : Calls Try.prog 7 #[] w fun e w' => e = .returned (.pointer (some ⟨w.heap.size, 0, none⟩)) ∧ QI w' Z w.heap.size [] ∧ Below w.heap.size w w' := by
  have HZ : Hid (∀ k, w.heap.size ≤ k → Z k) := hZ
  clear hZ
  go_enter Try.func7, Try.ntmps7
  go_wp2_with fail
  go_ret
  refine ⟨rfl, ⟨QOk.nil, HZ.out _ (Nat.le_refl _), by simp, fun o => World.frozen?_alloc_new _ _ _ _, none, none, 0, by simp [go_sem], by simp [go_sem, idsQ, waitQ], fun _ => rfl, fun B hB => (by cases hB), RowX.nil _ _⟩, below_alloc0 (Below.refl _ _) _⟩
/-- What find answers. -/
def fm (o : Option Qe) : ByteArray := match o with | some e => e.m | none => ⟨#[]⟩
def fa (o : Option Qe) : Int := match o with | some e => qa e.d | none => 0
def fs (o : Option Qe) : Sg := match o with | some e => e.S | none => sg0
set_option maxHeartbeats 2000000 in
theorem find_gen (g : Nat) (id : Int) (mB : Option Nat) (m : ByteArray) (a : Int) (S : Sg) (b : Bool) (w : World) (hg : g < w.heap.size) (c0 : w.cell? ⟨g, 0, none⟩ = some (.map mB))
    (hlk : (Instr.lookup 61 (.map mB) (.int .i64 id) true).run Try.prog (w.alloc (.cells #[.string ⟨#[]⟩, .int .i64 0, .int .u64 0, .int .u64 0, .int .u64 0, .int .u64 0, .int .u64 0, .int .u64 0, .int .u64 0, .int .u64 0, .bool false, .int .u64 0, .int .u64 0, .int .u64 0, .int .u64 0] 65)) = .ok (.tuple #[.agg #[.string m, .int .i64 a, .int .u64 S.x0, .int .u64 S.x1, .int .u64 S.x2, .int .u64 S.x3, .int .u64 S.x4, .int .u64 S.x5, .int .u64 S.x6, .int .u64 S.x7, .bool S.i, .int .u64 S.x8, .int .u64 S.x9, .int .u64 S.x10, .int .u64 S.x11], .bool b]) (w.alloc (.cells #[.string ⟨#[]⟩, .int .i64 0, .int .u64 0, .int .u64 0, .int .u64 0, .int .u64 0, .int .u64 0, .int .u64 0, .int .u64 0, .int .u64 0, .bool false, .int .u64 0, .int .u64 0, .int .u64 0, .int .u64 0] 65))) :
    Calls Try.prog 18 #[.pointer (some ⟨g, 0, none⟩), .int .i64 id] w fun e w' => e = .returned (.tuple #[.agg #[.string m, .int .i64 a, .int .u64 S.x0, .int .u64 S.x1, .int .u64 S.x2, .int .u64 S.x3, .int .u64 S.x4, .int .u64 S.x5, .int .u64 S.x6, .int .u64 S.x7, .bool S.i, .int .u64 S.x8, .int .u64 S.x9, .int .u64 S.x10, .int .u64 S.x11], .bool b]) ∧ Below w.heap.size w w' := by
  go_enter Try.func18, Try.ntmps18
  go_wp2_with fail
  refine bodyPost_ret (v := .tuple #[.agg #[.string m, .int .i64 a, .int .u64 S.x0, .int .u64 S.x1, .int .u64 S.x2, .int .u64 S.x3, .int .u64 S.x4, .int .u64 S.x5, .int .u64 S.x6, .int .u64 S.x7, .bool S.i, .int .u64 S.x8, .int .u64 S.x9, .int .u64 S.x10, .int .u64 S.x11], .bool b]) ?_ rfl ⟨rfl, ?_⟩
  · simp [results, Try.results18, go_sem]
  · ((repeat' (first | with_reducible exact Below.refl _ _ | with_reducible refine Below.setCell ?_ ?_ _ | with_reducible refine below_alloc0 ?_ _ | with_reducible refine below_drewN ?_ _ | with_reducible refine Below.drew ?_ | refine below_call0 ?_ (by assumption))) <;> (first | omega | (simp; done) | (simp; omega)))
theorem find_in (g : Nat) (id : Int) (hid : -9223372036854775808 ≤ id ∧ id ≤ 9223372036854775807) (Z : Nat → Prop) (L : List Qe) (w : World) (hQ : QI w Z g L) :
    Calls Try.prog 18 #[.pointer (some ⟨g, 0, none⟩), .int .i64 id] w fun e w' => e = .returned (.tuple #[.agg #[.string (fm (lookQ L id)), .int .i64 (fa (lookQ L id)), .int .u64 (fs (lookQ L id)).x0, .int .u64 (fs (lookQ L id)).x1, .int .u64 (fs (lookQ L id)).x2, .int .u64 (fs (lookQ L id)).x3, .int .u64 (fs (lookQ L id)).x4, .int .u64 (fs (lookQ L id)).x5, .int .u64 (fs (lookQ L id)).x6, .int .u64 (fs (lookQ L id)).x7, .bool (fs (lookQ L id)).i, .int .u64 (fs (lookQ L id)).x8, .int .u64 (fs (lookQ L id)).x9, .int .u64 (fs (lookQ L id)).x10, .int .u64 (fs (lookQ L id)).x11], .bool (lookQ L id).isSome]) ∧ Below w.heap.size w w' := by
  obtain ⟨mB, a, cap, h0, h1, h2, h3, h4⟩ := hQ.body
  refine find_gen g id mB _ _ _ _ w hQ.gl h0 ?_
  cases mB with
  | none =>
    rw [h2 rfl]
    kernel_rfl
  | some B =>
    obtain ⟨q1, q2, q3⟩ := h3 B rfl
    have q4 := q3.block ((below_alloc0 (Below.refl w.heap.size w) (.cells #[.string ⟨#[]⟩, .int .i64 0, .int .u64 0, .int .u64 0, .int .u64 0, .int .u64 0, .int .u64 0, .int .u64 0, .int .u64 0, .int .u64 0, .bool false, .int .u64 0, .int .u64 0, .int .u64 0, .int .u64 0] 65)).block B q3.lt)
    rw [q4.look hid]
    cases lookQ L id with
    | none => rfl
    | some e => rfl
set_option maxHeartbeats 2000000 in
theorem find_nil (id : Int) (w : World) : Calls Try.prog 18 #[.pointer none, .int .i64 id] w fun e w' => e = .returned (.tuple #[.agg #[.string ⟨#[]⟩, .int .i64 0, .int .u64 0, .int .u64 0, .int .u64 0, .int .u64 0, .int .u64 0, .int .u64 0, .int .u64 0, .int .u64 0, .bool false, .int .u64 0, .int .u64 0, .int .u64 0, .int .u64 0], .bool false]) ∧ Below w.heap.size w w' := by
  go_enter Try.func18, Try.ntmps18
  go_wp2_with fail
  refine bodyPost_ret (v := .tuple #[.agg #[.string ⟨#[]⟩, .int .i64 0, .int .u64 0, .int .u64 0, .int .u64 0, .int .u64 0, .int .u64 0, .int .u64 0, .int .u64 0, .int .u64 0, .bool false, .int .u64 0, .int .u64 0, .int .u64 0, .int .u64 0], .bool false]) ?_ rfl ⟨rfl, ?_⟩
  · simp [results, Try.results18, go_sem]
  · ((repeat' (first | with_reducible exact Below.refl _ _ | with_reducible refine Below.setCell ?_ ?_ _ | with_reducible refine below_alloc0 ?_ _ | with_reducible refine below_drewN ?_ _ | with_reducible refine Below.drew ?_ | refine below_call0 ?_ (by assumption))) <;> (first | omega | (simp; done) | (simp; omega)))
theorem isReq_any (id : Int) (m : ByteArray) (w : World) (hm : m.size ≤ 281474976710656) : Calls Try.prog 19 #[.agg #[.int .i64 id, .string m]] w fun e w' => e = .returned (.bool (decide (okQ id m))) ∧ Below w.heap.size w w' := by
  obtain ⟨n, hn⟩ : ∃ n, n = m.size := ⟨_, rfl⟩
  by_cases h1 : 1 ≤ id
  · by_cases h2 : id ≤ 1099511627776
    · by_cases h3 : n ≤ 4096
      · rw [decide_eq_true (show okQ id m from ⟨h1, h2, by omega⟩)]
        have h4 : (m.size : Int) ≤ 4096 := by omega
        clear hn
        go_enter Try.func19, Try.ntmps19
        go_wp2
        go_ret
        exact ⟨rfl, by ((repeat' (first | with_reducible exact Below.refl _ _ | with_reducible refine Below.setCell ?_ ?_ _ | with_reducible refine below_alloc0 ?_ _ | with_reducible refine below_drewN ?_ _ | with_reducible refine Below.drew ?_ | refine below_call0 ?_ (by assumption))) <;> (first | omega | (simp; done) | (simp; omega)))⟩
      · rw [decide_eq_false (show ¬ okQ id m from fun c => by have := c.2.2; omega)]
        have h4 : ¬ (m.size : Int) ≤ 4096 := by omega
        clear hn
        go_enter Try.func19, Try.ntmps19
        go_wp2
        go_ret
        exact ⟨rfl, by ((repeat' (first | with_reducible exact Below.refl _ _ | with_reducible refine Below.setCell ?_ ?_ _ | with_reducible refine below_alloc0 ?_ _ | with_reducible refine below_drewN ?_ _ | with_reducible refine Below.drew ?_ | refine below_call0 ?_ (by assumption))) <;> (first | omega | (simp; done) | (simp; omega)))⟩
    · rw [decide_eq_false (show ¬ okQ id m from fun c => h2 c.2.1)]
      clear hn
      go_enter Try.func19, Try.ntmps19
      go_wp2
      go_ret
      exact ⟨rfl, by ((repeat' (first | with_reducible exact Below.refl _ _ | with_reducible refine Below.setCell ?_ ?_ _ | with_reducible refine below_alloc0 ?_ _ | with_reducible refine below_drewN ?_ _ | with_reducible refine Below.drew ?_ | refine below_call0 ?_ (by assumption))) <;> (first | omega | (simp; done) | (simp; omega)))⟩
  · rw [decide_eq_false (show ¬ okQ id m from fun c => h1 c.1)]
    clear hn
    go_enter Try.func19, Try.ntmps19
    go_wp2
    go_ret
    exact ⟨rfl, by ((repeat' (first | with_reducible exact Below.refl _ _ | with_reducible refine Below.setCell ?_ ?_ _ | with_reducible refine below_alloc0 ?_ _ | with_reducible refine below_drewN ?_ _ | with_reducible refine Below.drew ?_ | refine below_call0 ?_ (by assumption))) <;> (first | omega | (simp; done) | (simp; omega)))⟩
set_option maxHeartbeats 2000000 in
theorem request_any (m : ByteArray) (a id : Int) (S : Sg) (w : World) (hm : m.size ≤ 281474976710656) : Calls Try.prog 23 #[.agg #[.string m, .int .i64 a, .int .u64 S.x0, .int .u64 S.x1, .int .u64 S.x2, .int .u64 S.x3, .int .u64 S.x4, .int .u64 S.x5, .int .u64 S.x6, .int .u64 S.x7, .bool S.i, .int .u64 S.x8, .int .u64 S.x9, .int .u64 S.x10, .int .u64 S.x11], .int .i64 id] w fun e w' => e = .returned (.agg #[.int .i64 id, .string m]) ∧ Below w.heap.size w w' := by
  have HM : Hid (m.size ≤ 281474976710656) := hm
  clear hm
  go_enter Try.func23, Try.ntmps23
  go_wp2_with fail
  obtain ⟨W, hW⟩ : ∃ W, W = (w.alloc (.cells #[.string m, .int .i64 a, .int .u64 S.x0, .int .u64 S.x1, .int .u64 S.x2, .int .u64 S.x3, .int .u64 S.x4, .int .u64 S.x5, .int .u64 S.x6, .int .u64 S.x7, .bool S.i, .int .u64 S.x8, .int .u64 S.x9, .int .u64 S.x10, .int .u64 S.x11] 65)).alloc (.cells #[.int .i64 0, .string ⟨#[]⟩] 31) := ⟨_, rfl⟩
  have hb : Below w.heap.size w W := by rw [hW]; exact below_alloc0 (below_alloc0 (Below.refl _ _) _) _
  have hz : W.heap.size = w.heap.size + 2 := by rw [hW]; simp
  have k0 : W.cell? ⟨w.heap.size + 1, 0, none⟩ = some (.int .i64 0) := by rw [hW, show w.heap.size + 1 = (w.alloc (.cells #[.string m, .int .i64 a, .int .u64 S.x0, .int .u64 S.x1, .int .u64 S.x2, .int .u64 S.x3, .int .u64 S.x4, .int .u64 S.x5, .int .u64 S.x6, .int .u64 S.x7, .bool S.i, .int .u64 S.x8, .int .u64 S.x9, .int .u64 S.x10, .int .u64 S.x11] 65)).heap.size by simp, World.cell?_alloc_new]; rfl
  have k1 : W.cell? ⟨w.heap.size + 1, 1, none⟩ = some (.string ⟨#[]⟩) := by rw [hW, show w.heap.size + 1 = (w.alloc (.cells #[.string m, .int .i64 a, .int .u64 S.x0, .int .u64 S.x1, .int .u64 S.x2, .int .u64 S.x3, .int .u64 S.x4, .int .u64 S.x5, .int .u64 S.x6, .int .u64 S.x7, .bool S.i, .int .u64 S.x8, .int .u64 S.x9, .int .u64 S.x10, .int .u64 S.x11] 65)).heap.size by simp, World.cell?_alloc_new]; rfl
  have kf : ∀ o, W.frozen? ⟨w.heap.size + 1, o, none⟩ = false := fun o => by rw [hW, show w.heap.size + 1 = (w.alloc (.cells #[.string m, .int .i64 a, .int .u64 S.x0, .int .u64 S.x1, .int .u64 S.x2, .int .u64 S.x3, .int .u64 S.x4, .int .u64 S.x5, .int .u64 S.x6, .int .u64 S.x7, .bool S.i, .int .u64 S.x8, .int .u64 S.x9, .int .u64 S.x10, .int .u64 S.x11] 65)).heap.size by simp]; exact World.frozen?_alloc_new _ _ _ _
  rw [← hW]
  clear hW
  refine (clone_any m W HM.out).mono ?_
  rintro e w2 ⟨rfl, hb2⟩
  obtain ⟨E, hE⟩ : ∃ E, E = w.heap.size + 1 := ⟨_, rfl⟩
  have d0 : w2.cell? ⟨E, 0, none⟩ = some (.int .i64 0) := by rw [hE]; exact (hb2.cell (p := ⟨w.heap.size + 1, 0, none⟩) (by rw [hz]; show w.heap.size + 1 < _; omega)).trans k0
  have d1 : w2.cell? ⟨E, 1, none⟩ = some (.string ⟨#[]⟩) := by rw [hE]; exact (hb2.cell (p := ⟨w.heap.size + 1, 1, none⟩) (by rw [hz]; show w.heap.size + 1 < _; omega)).trans k1
  have df : ∀ o, w2.frozen? ⟨E, o, none⟩ = false := fun o => by rw [hE]; exact (hb2.frozen (p := ⟨w.heap.size + 1, o, none⟩) (by rw [hz]; show w.heap.size + 1 < _; omega)).trans (kf o)
  have HB : Hid (Below w.heap.size w w2 ∧ w.heap.size ≤ E) := ⟨hb.trans (hb2.mono (by rw [hz]; omega)), by omega⟩
  rw [← hE]
  clear hb hb2 k0 k1 kf hz hE
  go_wp2_with fail
  refine bodyPost_ret (v := .agg #[.int .i64 id, .string m]) ?_ rfl ⟨rfl, ?_⟩
  · simp [results, Try.results23, go_sem, *]
  exact (HB.out.1.setCell (p := ⟨E, _, none⟩) HB.out.2 _).setCell (p := ⟨E, _, none⟩) HB.out.2 _
end Go.Proofs.Ytolhkpgpcbebiaa
