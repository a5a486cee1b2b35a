/- The law QueueSteps: equal signatures are equal; a queue and the reference's, apart. -/
import Derived.Test.YtolhkpgpcbebiaaQuDz
import Derived.Test.YtolhkpgpcbebiaaQuR3
import Derived.Test.YtolhkpgpcbebiaaQuRs
import Derived.Test.YtolhkpgpcbebiaaOpQ
namespace Go.Proofs.Ytolhkpgpcbebiaa
open Go Go.RowKit Go.Lib
def eq4 (x0 x1 x2 x3 y0 y1 y2 y3 : Int) : Bool := x0 == y0 && (x1 == y1 && (x2 == y2 && x3 == y3))
theorem size_limb (w : World) : (sizeOf 32).run Try.prog w = .ok 1 w := by kernel_rfl
theorem limb_part0 (a b c d : Int) (w : World) : (Go.part 32 #[.int .u64 a, .int .u64 b, .int .u64 c, .int .u64 d] 0).run Try.prog w = .ok (.int .u64 a) w := by kernel_rfl
theorem limb_part1 (a b c d : Int) (w : World) : (Go.part 32 #[.int .u64 a, .int .u64 b, .int .u64 c, .int .u64 d] 1).run Try.prog w = .ok (.int .u64 b) w := by kernel_rfl
theorem limb_part2 (a b c d : Int) (w : World) : (Go.part 32 #[.int .u64 a, .int .u64 b, .int .u64 c, .int .u64 d] 2).run Try.prog w = .ok (.int .u64 c) w := by kernel_rfl
theorem limb_part3 (a b c d : Int) (w : World) : (Go.part 32 #[.int .u64 a, .int .u64 b, .int .u64 c, .int .u64 d] 3).run Try.prog w = .ok (.int .u64 d) w := by kernel_rfl
theorem eq_limb (d : Nat) (a b : Int) (w : World) : (Op.equalIn (d + 1) 32 (.int .u64 a) (.int .u64 b)).run Try.prog w = .ok (a == b) w := run_equalIn_int w d 32 .u64 .u64 a b Try.underlying32
theorem run_eq4' (d : Nat) (x0 x1 x2 x3 y0 y1 y2 y3 : Int) (w : World) : (Op.equalIn (d + 2) 34 (.agg #[.int .u64 x0, .int .u64 x1, .int .u64 x2, .int .u64 x3]) (.agg #[.int .u64 y0, .int .u64 y1, .int .u64 y2, .int .u64 y3])).run Try.prog w = .ok (eq4 x0 x1 x2 x3 y0 y1 y2 y3) w := by
  rw [Op.equalIn]
  simp only [Sem.run_bind, run_underlying Try.underlying34, Result.andThen_ok, size_limb]
  simp only [Std.Legacy.Range.forIn_eq_forIn_range', Std.Legacy.Range.size]
  simp only [List.range', List.forIn_cons, List.forIn_nil, Sem.run_bind, Nat.mul_one, Nat.sub_zero, Nat.zero_add, limb_part0, Result.andThen_ok, eq_limb]
  unfold eq4
  cases x0 == y0
  · simp
  simp only [Bool.not_true, Bool.false_eq_true, if_false, Sem.run_pure, Result.andThen_ok, Sem.run_bind, limb_part1, eq_limb]
  cases x1 == y1
  · simp
  simp only [Bool.not_true, Bool.false_eq_true, if_false, Sem.run_pure, Result.andThen_ok, Sem.run_bind, show 1 + 1 = 2 from rfl, show 2 + 1 = 3 from rfl, limb_part2, eq_limb]
  cases x2 == y2
  · simp
  simp only [Bool.not_true, Bool.false_eq_true, if_false, Sem.run_pure, Result.andThen_ok, Sem.run_bind, limb_part3, eq_limb]
  cases x3 == y3
  · simp
  · simp
theorem pt_part0 (x0 x1 x2 x3 y0 y1 y2 y3 : Int) (b : Bool) (w : World) : (Go.part 34 #[.int .u64 x0, .int .u64 x1, .int .u64 x2, .int .u64 x3, .int .u64 y0, .int .u64 y1, .int .u64 y2, .int .u64 y3, .bool b] 0).run Try.prog w = .ok (.agg #[.int .u64 x0, .int .u64 x1, .int .u64 x2, .int .u64 x3]) w := by kernel_rfl
theorem pt_part1 (x0 x1 x2 x3 y0 y1 y2 y3 : Int) (b : Bool) (w : World) : (Go.part 34 #[.int .u64 x0, .int .u64 x1, .int .u64 x2, .int .u64 x3, .int .u64 y0, .int .u64 y1, .int .u64 y2, .int .u64 y3, .bool b] 4).run Try.prog w = .ok (.agg #[.int .u64 y0, .int .u64 y1, .int .u64 y2, .int .u64 y3]) w := by kernel_rfl
theorem pt_part2 (x0 x1 x2 x3 y0 y1 y2 y3 : Int) (b : Bool) (w : World) : (Go.part 4 #[.int .u64 x0, .int .u64 x1, .int .u64 x2, .int .u64 x3, .int .u64 y0, .int .u64 y1, .int .u64 y2, .int .u64 y3, .bool b] 8).run Try.prog w = .ok (.bool b) w := by kernel_rfl
theorem pt_fields : Try.prog.underlying 36 = some (.struct (Try.prog.fieldsOf 36)) := by kernel_rfl
theorem pt_list : ((Try.prog.fieldsOf 36).toList.map fun f => (f.name, f.type, f.offset)) = [("X", 34, 0), ("Y", 34, 4), ("Inf", 4, 8)] := by kernel_rfl
theorem eqFields_cons (d : Nat) (xs ys : Array Value) (f : Field) (fs : List Field) (hn : f.name ≠ "_") (w : World) (a b : Value) (r : Bool) (ha : (Go.part f.type xs f.offset).run Try.prog w = .ok a w) (hb : (Go.part f.type ys f.offset).run Try.prog w = .ok b w) (hr : (Op.equalIn d f.type a b).run Try.prog w = .ok r w) :
    (Op.eqFields d xs ys (f :: fs)).run Try.prog w = if r then (Op.eqFields d xs ys fs).run Try.prog w else .ok false w := by
  simp only [Op.eqFields, if_pos hn, Sem.run_bind, ha, hb, hr, Result.andThen_ok]
  cases r <;> simp
theorem run_eqP (x0 x1 x2 x3 y0 y1 y2 y3 u0 u1 u2 u3 v0 v1 v2 v3 : Int) (b c : Bool) (w : World) : (Op.equalIn 9999 36 (.agg #[.int .u64 x0, .int .u64 x1, .int .u64 x2, .int .u64 x3, .int .u64 y0, .int .u64 y1, .int .u64 y2, .int .u64 y3, .bool b]) (.agg #[.int .u64 u0, .int .u64 u1, .int .u64 u2, .int .u64 u3, .int .u64 v0, .int .u64 v1, .int .u64 v2, .int .u64 v3, .bool c])).run Try.prog w = .ok (eq4 x0 x1 x2 x3 u0 u1 u2 u3 && (eq4 y0 y1 y2 y3 v0 v1 v2 v3 && (b == c))) w := by
  rw [show (9999 : Nat) = 9998 + 1 from rfl, run_equalIn_agg w 9998 36 _ _ pt_fields (by kernel_rfl)]
  have hl := pt_list
  generalize (Try.prog.fieldsOf 36).toList = fl at hl ⊢
  rcases fl with _ | ⟨f0, _ | ⟨f1, _ | ⟨f2, _ | ⟨f3, fl⟩⟩⟩⟩
  · simp at hl
  · simp at hl
  · simp at hl
  · simp only [List.map_cons, List.map_nil, List.cons.injEq, Prod.mk.injEq, and_true] at hl
    obtain ⟨⟨n0, t0, o0⟩, ⟨n1, t1, o1⟩, ⟨n2, t2, o2⟩⟩ := hl
    rw [eqFields_cons 9998 _ _ f0 _ (by rw [n0]; decide) w _ _ _ (by rw [t0, o0]; exact pt_part0 _ _ _ _ _ _ _ _ _ _) (by rw [t0, o0]; exact pt_part0 _ _ _ _ _ _ _ _ _ _) (by rw [t0]; exact run_eq4' 9996 _ _ _ _ _ _ _ _ w)]
    rw [eqFields_cons 9998 _ _ f1 _ (by rw [n1]; decide) w _ _ _ (by rw [t1, o1]; exact pt_part1 _ _ _ _ _ _ _ _ _ _) (by rw [t1, o1]; exact pt_part1 _ _ _ _ _ _ _ _ _ _) (by rw [t1]; exact run_eq4' 9996 _ _ _ _ _ _ _ _ w)]
    rw [eqFields_cons 9998 _ _ f2 _ (by rw [n2]; decide) w _ _ _ (by rw [t2, o2]; exact pt_part2 _ _ _ _ _ _ _ _ _ _) (by rw [t2, o2]; exact pt_part2 _ _ _ _ _ _ _ _ _ _) (by rw [t2]; exact run_equalIn_bool' w 9997 4 _ _ Try.underlying4)]
    generalize eq4 x0 x1 x2 x3 u0 u1 u2 u3 = p
    generalize eq4 y0 y1 y2 y3 v0 v1 v2 v3 = q
    cases p <;> cases q <;> cases (b == c) <;> simp [Op.eqFields]
  · simp at hl

theorem eq4_self (x0 x1 x2 x3 : Int) : eq4 x0 x1 x2 x3 x0 x1 x2 x3 = true := by simp [eq4]
theorem sg_part0 (S : Sg) (w : World) : (Go.part 36 #[.int .u64 S.x0, .int .u64 S.x1, .int .u64 S.x2, .int .u64 S.x3, .int .u64 S.x4, .int .u64 S.x5, .int .u64 S.x6, .int .u64 S.x7, .bool S.i, .int .u64 S.x8, .int .u64 S.x9, .int .u64 S.x10, .int .u64 S.x11] 0).run Try.prog w = .ok (.agg #[.int .u64 S.x0, .int .u64 S.x1, .int .u64 S.x2, .int .u64 S.x3, .int .u64 S.x4, .int .u64 S.x5, .int .u64 S.x6, .int .u64 S.x7, .bool S.i]) w := by kernel_rfl
theorem sg_part1 (S : Sg) (w : World) : (Go.part 34 #[.int .u64 S.x0, .int .u64 S.x1, .int .u64 S.x2, .int .u64 S.x3, .int .u64 S.x4, .int .u64 S.x5, .int .u64 S.x6, .int .u64 S.x7, .bool S.i, .int .u64 S.x8, .int .u64 S.x9, .int .u64 S.x10, .int .u64 S.x11] 9).run Try.prog w = .ok (.agg #[.int .u64 S.x8, .int .u64 S.x9, .int .u64 S.x10, .int .u64 S.x11]) w := by kernel_rfl
theorem sg_fields : Try.prog.underlying 38 = some (.struct (Try.prog.fieldsOf 38)) := by kernel_rfl
theorem sg_list : ((Try.prog.fieldsOf 38).toList.map fun f => (f.name, f.type, f.offset)) = [("R", 36, 0), ("Z", 34, 9)] := by kernel_rfl
theorem run_eqS (S : Sg) (w : World) : (Op.equalIn 10000 38 (.agg #[.int .u64 S.x0, .int .u64 S.x1, .int .u64 S.x2, .int .u64 S.x3, .int .u64 S.x4, .int .u64 S.x5, .int .u64 S.x6, .int .u64 S.x7, .bool S.i, .int .u64 S.x8, .int .u64 S.x9, .int .u64 S.x10, .int .u64 S.x11]) (.agg #[.int .u64 S.x0, .int .u64 S.x1, .int .u64 S.x2, .int .u64 S.x3, .int .u64 S.x4, .int .u64 S.x5, .int .u64 S.x6, .int .u64 S.x7, .bool S.i, .int .u64 S.x8, .int .u64 S.x9, .int .u64 S.x10, .int .u64 S.x11])).run Try.prog w = .ok true w := by
  rw [show (10000 : Nat) = 9999 + 1 from rfl, run_equalIn_agg w 9999 38 _ _ sg_fields (by kernel_rfl)]
  have hl := sg_list
  generalize (Try.prog.fieldsOf 38).toList = fl at hl ⊢
  rcases fl with _ | ⟨f0, _ | ⟨f1, _ | ⟨f2, fl⟩⟩⟩
  · simp at hl
  · simp at hl
  · simp only [List.map_cons, List.map_nil, List.cons.injEq, Prod.mk.injEq, and_true] at hl
    obtain ⟨⟨n0, t0, o0⟩, ⟨n1, t1, o1⟩⟩ := hl
    rw [eqFields_cons 9999 _ _ f0 _ (by rw [n0]; decide) w _ _ _ (by rw [t0, o0]; exact sg_part0 S w) (by rw [t0, o0]; exact sg_part0 S w) (by rw [t0]; exact run_eqP _ _ _ _ _ _ _ _ _ _ _ _ _ _ _ _ _ _ w)]
    rw [eqFields_cons 9999 _ _ f1 _ (by rw [n1]; decide) w _ _ _ (by rw [t1, o1]; exact sg_part1 S w) (by rw [t1, o1]; exact sg_part1 S w) (by rw [t1]; exact run_eq4' 9997 _ _ _ _ _ _ _ _ w)]
    simp [eq4_self, Op.eqFields]
  · simp at hl
/-- A queue that knows A and the reference's that knows L, in blocks apart, from B on. -/
structure BQ (w0 w : World) (B g r : Nat) (A L : List Qe) (S R : Nat → Prop) : Prop where
  q : QI w S g A
  rq : RQ w R r L
  ap : ∀ k, S k → ¬ R k
  sB : ∀ k, S k → B ≤ k
  rB : ∀ k, R k → B ≤ k
  sl : ∀ k, S k → k < w.heap.size
  rl : ∀ k, R k → k < w.heap.size
  hB : B ≤ w.heap.size
  hb : Below B w0 w
theorem BQ.call {w0 w w' : World} {B g r : Nat} {A L : List Qe} {S R : Nat → Prop} (h : BQ w0 w B g r A L S R) (hb : Below w.heap.size w w') : BQ w0 w' B g r A L S R :=
  ⟨h.q.call hb, h.rq.call hb, h.ap, h.sB, h.rB, fun k hk => Nat.lt_of_lt_of_le (h.sl k hk) hb.size, fun k hk => Nat.lt_of_lt_of_le (h.rl k hk) hb.size, Nat.le_trans h.hB hb.size, h.hb.trans (hb.mono h.hB)⟩
theorem BQ.qop {w0 w w' : World} {B g r : Nat} {A A' L : List Qe} {S R : Nat → Prop} (h : BQ w0 w B g r A L S R) (hA : QI w' (fun j => S j ∨ w.heap.size ≤ j) g A') (hO : Off (fun j => S j ∨ w.heap.size ≤ j) w w') : BQ w0 w' B g r A' L (fun j => (S j ∨ w.heap.size ≤ j) ∧ j < w'.heap.size) R := by
  have hBs := h.hB
  refine ⟨hA.mono (fun j hj hz => ⟨hz, hj⟩), h.rq.kept hO.size (fun j hj hl => hO.block j (fun c => c.elim (fun c => h.ap j c hj) (fun c => by omega))), fun j hj hr => ?_, fun j hj => ?_, h.rB, fun j hj => hj.2, fun j hj => Nat.lt_of_lt_of_le (h.rl j hj) hO.size, Nat.le_trans h.hB hO.size, ⟨hO.os.trans h.hb.os, hO.tape.trans h.hb.tape, hO.output.trans h.hb.output, Nat.le_trans h.hb.size hO.size, fun j hj => (hO.block j (fun c => c.elim (fun c => by have := h.sB j c; omega) (fun c => by omega))).trans (h.hb.block j hj)⟩⟩
  · rcases hj.1 with c | c
    · exact h.ap j c hr
    · have := h.rl j hr; omega
  · rcases hj.1 with c | c
    · exact h.sB j c
    · omega
theorem BQ.rop {w0 w w' : World} {B g r : Nat} {A L L' : List Qe} {S R : Nat → Prop} (h : BQ w0 w B g r A L S R) (hA : RQ w' (fun j => R j ∨ w.heap.size ≤ j) r L') (hO : Off (fun j => R j ∨ w.heap.size ≤ j) w w') : BQ w0 w' B g r A L' S (fun j => (R j ∨ w.heap.size ≤ j) ∧ j < w'.heap.size) := by
  have hBs := h.hB
  refine ⟨h.q.kept hO.size (fun j hj hl => hO.block j (fun c => c.elim (fun c => h.ap j hj c) (fun c => by omega))), hA.mono (fun j hj hz => ⟨hz, hj⟩), fun j hj hr => ?_, h.sB, fun j hj => ?_, fun j hj => Nat.lt_of_lt_of_le (h.sl j hj) hO.size, fun j hj => hj.2, Nat.le_trans h.hB hO.size, ⟨hO.os.trans h.hb.os, hO.tape.trans h.hb.tape, hO.output.trans h.hb.output, Nat.le_trans h.hb.size hO.size, fun j hj => (hO.block j (fun c => c.elim (fun c => by have := h.rB j c; omega) (fun c => by omega))).trans (h.hb.block j hj)⟩⟩
  · rcases hr.1 with c | c
    · exact h.ap j hj c
    · have := h.sl j hj; omega
  · rcases hj.1 with c | c
    · exact h.rB j c
    · omega
/-- .. with a block beside them. -/
structure BG (w0 w : World) (B g r : Nat) (A L : List Qe) (S R : Nat → Prop) (G : Nat) (vs : List Value) : Prop where
  b : BQ w0 w B g r A L S R
  k : Blk w G vs
  ns : ¬ S G
  nr : ¬ R G
theorem BG.call {w0 w w' : World} {B g r G : Nat} {A L : List Qe} {S R : Nat → Prop} {vs : List Value} (h : BG w0 w B g r A L S R G vs) (hb : Below w.heap.size w w') : BG w0 w' B g r A L S R G vs := ⟨h.b.call hb, h.k.call hb, h.ns, h.nr⟩
theorem BG.qop {w0 w w' : World} {B g r G : Nat} {A A' L : List Qe} {S R : Nat → Prop} {vs : List Value} (h : BG w0 w B g r A L S R G vs) (hA : QI w' (fun j => S j ∨ w.heap.size ≤ j) g A') (hO : Off (fun j => S j ∨ w.heap.size ≤ j) w w') : BG w0 w' B g r A' L (fun j => (S j ∨ w.heap.size ≤ j) ∧ j < w'.heap.size) R G vs :=
  ⟨h.b.qop hA hO, h.k.off hO (fun c => c.elim h.ns (fun c => by have := h.k.1; omega)), fun c => c.1.elim h.ns (fun c => by have := h.k.1; omega), h.nr⟩
theorem BG.rop {w0 w w' : World} {B g r G : Nat} {A L L' : List Qe} {S R : Nat → Prop} {vs : List Value} (h : BG w0 w B g r A L S R G vs) (hA : RQ w' (fun j => R j ∨ w.heap.size ≤ j) r L') (hO : Off (fun j => R j ∨ w.heap.size ≤ j) w w') : BG w0 w' B g r A L' S (fun j => (R j ∨ w.heap.size ≤ j) ∧ j < w'.heap.size) G vs :=
  ⟨h.b.rop hA hO, h.k.off hO (fun c => c.elim h.nr (fun c => by have := h.k.1; omega)), h.ns, fun c => c.1.elim h.nr (fun c => by have := h.k.1; omega)⟩
/-- Both know the same, with a block beside them. -/
def BE (w0 w : World) (B g r G c : Nat) (vs : List Value) : Prop := ∃ L S R, BG w0 w B g r L L S R G vs ∧ L.length ≤ c
theorem BE.subs {w0 w : World} {B g r G c : Nat} {vs : List Value} (h : BE w0 w B g r G c vs) (hc : c < 5000) (id : Int) (m : ByteArray) (hid : -9223372036854775808 ≤ id ∧ id ≤ 9223372036854775807) (hm : m.size ≤ 281474976710656) :
    ∃ (v : Int) (V : Sg), Calls Try.prog 9 #[.pointer (some ⟨g, 0, none⟩), .agg #[.int .i64 id, .string m]] w fun e w' => e = .returned (.tuple #[.int .i64 v, .agg #[.int .u64 V.x0, .int .u64 V.x1, .int .u64 V.x2, .int .u64 V.x3, .int .u64 V.x4, .int .u64 V.x5, .int .u64 V.x6, .int .u64 V.x7, .bool V.i, .int .u64 V.x8, .int .u64 V.x9, .int .u64 V.x10, .int .u64 V.x11]]) ∧ Blk w' G vs ∧
      ∀ (E : Nat) (us : List Value) (w2 : World), Below w'.heap.size w' w2 → Blk w2 E us → w'.heap.size ≤ E → Calls Try.prog 10 #[.pointer (some ⟨r, 0, none⟩), .int .i64 id, .string m] w2 fun e w'' => e = .returned (.tuple #[.int .i64 v, .agg #[.int .u64 V.x0, .int .u64 V.x1, .int .u64 V.x2, .int .u64 V.x3, .int .u64 V.x4, .int .u64 V.x5, .int .u64 V.x6, .int .u64 V.x7, .bool V.i, .int .u64 V.x8, .int .u64 V.x9, .int .u64 V.x10, .int .u64 V.x11]]) ∧ BE w0 w'' B g r G (c + 1) vs ∧ Blk w'' E us := by
  obtain ⟨L, S, R, h, hl⟩ := h
  refine ⟨(subR L id m).1, (subR L id m).2.1, (submit_any g id m (fun k => S k ∨ w.heap.size ≤ k) L w (fun k hk => .inr hk) (h.b.q.mono (fun k _ hk => .inl hk)) hid hm (by omega)).mono ?_⟩
  rintro e w' ⟨he, hQ, hO⟩
  have h1 := h.qop hQ hO
  refine ⟨he, h1.k, fun E us w2 hb2 hE hEs => ?_⟩
  have h2 := h1.call hb2
  refine (rsubmit_any r id m (fun k => R k ∨ w2.heap.size ≤ k) L w2 (fun k hk => .inr hk) (h2.b.rq.mono (fun k _ hk => .inl hk)) h.b.q.ok (by omega)).mono ?_
  rintro e w'' ⟨he2, hR2, hO2⟩
  refine ⟨he2, ⟨_, _, _, h2.rop hR2 hO2, Nat.le_trans subR_len (by omega)⟩, hE.off hO2 (fun c => c.elim (fun c => ?_) (fun c => by have := hE.1; omega))⟩
  have := h1.b.rl E c
  omega
theorem BE.fins {w0 w : World} {B g r G c : Nat} {vs : List Value} (h : BE w0 w B g r G c vs) (hc : c < 5000) (id : Int) (s : Sg) (hid : -9223372036854775808 ≤ id ∧ id ≤ 9223372036854775807) :
    ∃ (v : Int), Calls Try.prog 11 #[.pointer (some ⟨g, 0, none⟩), .int .i64 id, .agg #[.int .u64 s.x0, .int .u64 s.x1, .int .u64 s.x2, .int .u64 s.x3, .int .u64 s.x4, .int .u64 s.x5, .int .u64 s.x6, .int .u64 s.x7, .bool s.i, .int .u64 s.x8, .int .u64 s.x9, .int .u64 s.x10, .int .u64 s.x11]] w fun e w' => e = .returned (.int .i64 v) ∧ Blk w' G vs ∧ Calls Try.prog 12 #[.pointer (some ⟨r, 0, none⟩), .int .i64 id, .agg #[.int .u64 s.x0, .int .u64 s.x1, .int .u64 s.x2, .int .u64 s.x3, .int .u64 s.x4, .int .u64 s.x5, .int .u64 s.x6, .int .u64 s.x7, .bool s.i, .int .u64 s.x8, .int .u64 s.x9, .int .u64 s.x10, .int .u64 s.x11]] w' fun e w'' => e = .returned (.int .i64 v) ∧ BE w0 w'' B g r G (c + 1) vs := by
  obtain ⟨L, S, R, h, hl⟩ := h
  refine ⟨(finR L id s).1, (finish_any g id s (fun k => S k ∨ w.heap.size ≤ k) L w (fun k hk => .inr hk) (h.b.q.mono (fun k _ hk => .inl hk)) hid (by omega)).mono ?_⟩
  rintro e w' ⟨he, hQ, hO⟩
  have h1 := h.qop hQ hO
  refine ⟨he, h1.k, (rfinish_any r id s (fun k => R k ∨ w'.heap.size ≤ k) L w' (fun k hk => .inr hk) (h1.b.rq.mono (fun k _ hk => .inl hk)) h.b.q.ok (by omega)).mono ?_⟩
  rintro e w'' ⟨he2, hR2, hO2⟩
  exact ⟨he2, _, _, _, h1.rop hR2 hO2, by rw [finR_len]; omega⟩
end Go.Proofs.Ytolhkpgpcbebiaa
