/- The law QueueSteps. -/
import Derived.Test.YtojpddbdibkojaaQuS1
import Derived.Deep.CutBlock
namespace Go.Proofs.Ytojpddbdibkojaa
open Go Go.RowKit Go.Lib
theorem neq_sg (V : Sg) (w : World) : Sem.run Try.prog (binOp .neq 38 (.agg #[.int .u64 V.x0, .int .u64 V.x1, .int .u64 V.x2, .int .u64 V.x3, .int .u64 V.x4, .int .u64 V.x5, .int .u64 V.x6, .int .u64 V.x7, .bool V.i, .int .u64 V.x8, .int .u64 V.x9, .int .u64 V.x10, .int .u64 V.x11]) (.agg #[.int .u64 V.x0, .int .u64 V.x1, .int .u64 V.x2, .int .u64 V.x3, .int .u64 V.x4, .int .u64 V.x5, .int .u64 V.x6, .int .u64 V.x7, .bool V.i, .int .u64 V.x8, .int .u64 V.x9, .int .u64 V.x10, .int .u64 V.x11])) w = .ok (.bool false) w := by
  simp [binOp, Op.equal, Op.maxDepth, run_eqS]
def BB (w0 w : World) (B g r c : Nat) : Prop := ∃ L S R, BQ w0 w B g r L L S R ∧ L.length ≤ c
theorem BB.beside {w0 w : World} {B g r c : Nat} (h : BB w0 w B g r c) (vs : List Value) (t : TypeId) : BE w0 (w.alloc (.cells vs.toArray t)) B g r w.heap.size c vs := by
  obtain ⟨L, S, R, h, hl⟩ := h
  exact ⟨L, S, R, ⟨h.call (below_alloc0 (Below.refl _ _) _), Blk.new w vs t, fun c => by have := h.sl _ c; omega, fun c => by have := h.rl _ c; omega⟩, hl⟩
theorem BE.call {w0 w w' : World} {B g r G c : Nat} {vs : List Value} (h : BE w0 w B g r G c vs) (hb : Below w.heap.size w w') : BE w0 w' B g r G c vs := by
  obtain ⟨L, S, R, h, hl⟩ := h
  exact ⟨L, S, R, h.call hb, hl⟩
theorem BE.up {w0 w : World} {B g r G c d : Nat} {vs : List Value} (h : BE w0 w B g r G c vs) (hc : c ≤ d) : BE w0 w B g r G d vs := by
  obtain ⟨L, S, R, h, hl⟩ := h
  exact ⟨L, S, R, h, Nat.le_trans hl hc⟩
theorem BE.blk {w0 w : World} {B g r G c : Nat} {vs : List Value} (h : BE w0 w B g r G c vs) : Blk w G vs := by
  obtain ⟨L, S, R, h, hl⟩ := h
  exact h.k
theorem BG.drew {w0 w : World} {B g r G : Nat} {A L : List Qe} {S R : Nat → Prop} {vs : List Value} (h : BG w0 w B g r A L S R G vs) : BG w0 w.drew B g r A L S R G vs := h.call ⟨rfl, rfl, rfl, Nat.le_refl _, fun _ _ => rfl⟩
theorem BE.drew {w0 w : World} {B g r G c : Nat} {vs : List Value} (h : BE w0 w B g r G c vs) : BE w0 w.drew B g r G c vs := by
  obtain ⟨L, S, R, h, hl⟩ := h
  exact ⟨L, S, R, h.drew, hl⟩
theorem look_isSome {L : List Qe} {j : Nat} {y : Qe} {k : Int} (hy : L[j]? = some y) : (lookQ (L.take (j + 1)) k).isSome = ((lookQ (L.take j) k).isSome || decide ((y.id : Int) = k)) := by
  rw [take_snoc hy, lookQ_app]
  by_cases c : (y.id : Int) = k
  · rw [if_pos c, decide_eq_true c]
    cases lookQ (L.take j) k <;> rfl
  · rw [if_neg c, decide_eq_false c]
    cases lookQ (L.take j) k <;> rfl
set_option maxRecDepth 100000 in
set_option maxHeartbeats 8000000 in
theorem steps_main (len cl : Nat) (ad : Option Addr) (w : World) (hS : StepsQ w ad len) (hlen : len ≤ 300) : Calls Try.prog 3 #[.slice ad len cl] w fun e w' => e = .returned (.bool true) ∧ Below w.heap.size w w' := by
  obtain ⟨g, hg⟩ : ∃ g, g = w.heap.size := ⟨_, rfl⟩
  have HG : Hid (g = w.heap.size) := hg
  have HS : Hid (StepsQ w ad len ∧ len ≤ 300) := ⟨hS, hlen⟩
  have KN : Hid (Calls Try.prog 7 #[] w fun e w' => e = .returned (.pointer (some ⟨g, 0, none⟩)) ∧ QI w' (From g) g [] ∧ Below g w w') := by
    rw [hg]; exact qnew_in (From w.heap.size) w (fun k hk => hk)
  have l1 : ¬ ((300 : Int) < (len : Nat)) := by omega
  have l3 : (len : Int) ≤ 300 := by omega
  clear hlen hS hg
  go_enter Try.func3, Try.ntmps3
  go_wp2_with fail
  refine KN.out.mono ?_
  rintro e w1 ⟨rfl, hQ1, hb1⟩
  obtain ⟨r, hr⟩ : ∃ r, r = w1.heap.size := ⟨_, rfl⟩
  obtain ⟨W2, hW2⟩ : ∃ W2, W2 = w1.alloc (.cells #[.slice none 0 0] 29) := ⟨_, rfl⟩
  have HW2 : Hid (W2 = w1.alloc (.cells #[.slice none 0 0] 29) ∧ r = w1.heap.size) := ⟨hW2, hr⟩
  have H2 : Hid (BB w W2 g g r 0) := by
    have hb2 : Below w1.heap.size w1 W2 := by rw [hW2]; exact below_alloc0 (Below.refl _ _) _
    have hk : Blk W2 r [.slice none 0 0] := by rw [hW2, hr]; exact Blk.new w1 [.slice none 0 0] 29
    have hgl := hQ1.gl
    have hg1 : g ≤ w1.heap.size := by omega
    exact ⟨[], fun k => g ≤ k ∧ k < w1.heap.size, fun k => k = r, ⟨(hQ1.mono (fun k hk hz => ⟨hz, hk⟩)).call hb2, ⟨rfl, hk.1, hk.2.1, none, 0, hk.2.2 0 _ rfl, RowX.nil _ _⟩, fun k h1 h2 => by omega, fun k hk => hk.1, fun k hk => by omega, fun k hk => Nat.lt_of_lt_of_le hk.2 hb2.size, fun k hk2 => by rw [hk2]; exact hk.1, Nat.le_trans hg1 hb2.size, hb1.trans (hb2.mono hg1)⟩, Nat.le_refl _⟩
  clear hQ1 hb1 hr hW2 KN
  go_upto_region 5 with fail
  rw [← HW2.out.1, ← HW2.out.2]
  clear HW2
  go_wp2_with fail
  rename_i Kr hKr
  have HKr : Hid _ := hKr
  clear hKr
  go_loopw [35] (fun iv wr => ∃ i : Nat, i ≤ len ∧ iv = .int .i64 (i : Nat) ∧ BB w wr g g r i) (fun iv _ => len - (Go.RowKit.intOf iv).toNat)
  case atStart => exact ⟨0, Nat.zero_le _, rfl, H2.out⟩
  case round =>
    obtain ⟨i, hi, rfl, hB⟩ := hrel
    rename World => wr
    have HB0 : Hid (BB w wr g g r i ∧ i ≤ len) := ⟨hB, hi⟩
    clear H2
    by_cases hlt : i < len
    · have hlt' : (i : Int) < (len : Nat) := by omega
      obtain ⟨p, o, x, rfl, hc, hp, hms, hid⟩ := HS.out.1 i hlt
      have hcr : ∀ c u, (stE x)[c]? = some u → wr.cell? ⟨p, o + i * 16 + c, none⟩ = some u := fun c u hu => by
        obtain ⟨L, S, R, h, _⟩ := hB
        exact (h.hb.cell (p := ⟨p, _, none⟩) (by rw [HG.out]; exact hp)).trans (hc c u hu)
      have k0 : wr.cell? ⟨p, o + i * 16, none⟩ = some (.int .i64 x.X) := hcr 0 _ rfl
      have k1 : wr.cell? ⟨p, o + i * 16 + 1, none⟩ = some (.int .i64 x.id) := hcr 1 _ rfl
      have k2 : wr.cell? ⟨p, o + i * 16 + 2, none⟩ = some (.string x.m) := hcr 2 _ rfl
      have k3 : wr.cell? ⟨p, o + i * 16 + 3, none⟩ = some (.int .u64 x.S.x0) := hcr 3 _ rfl
      have k4 : wr.cell? ⟨p, o + i * 16 + 4, none⟩ = some (.int .u64 x.S.x1) := hcr 4 _ rfl
      have k5 : wr.cell? ⟨p, o + i * 16 + 5, none⟩ = some (.int .u64 x.S.x2) := hcr 5 _ rfl
      have k6 : wr.cell? ⟨p, o + i * 16 + 6, none⟩ = some (.int .u64 x.S.x3) := hcr 6 _ rfl
      have k7 : wr.cell? ⟨p, o + i * 16 + 7, none⟩ = some (.int .u64 x.S.x4) := hcr 7 _ rfl
      have k8 : wr.cell? ⟨p, o + i * 16 + 8, none⟩ = some (.int .u64 x.S.x5) := hcr 8 _ rfl
      have k9 : wr.cell? ⟨p, o + i * 16 + 9, none⟩ = some (.int .u64 x.S.x6) := hcr 9 _ rfl
      have k10 : wr.cell? ⟨p, o + i * 16 + 10, none⟩ = some (.int .u64 x.S.x7) := hcr 10 _ rfl
      have k11 : wr.cell? ⟨p, o + i * 16 + 11, none⟩ = some (.bool x.S.i) := hcr 11 _ rfl
      have k12 : wr.cell? ⟨p, o + i * 16 + 12, none⟩ = some (.int .u64 x.S.x8) := hcr 12 _ rfl
      have k13 : wr.cell? ⟨p, o + i * 16 + 13, none⟩ = some (.int .u64 x.S.x9) := hcr 13 _ rfl
      have k14 : wr.cell? ⟨p, o + i * 16 + 14, none⟩ = some (.int .u64 x.S.x10) := hcr 14 _ rfl
      have k15 : wr.cell? ⟨p, o + i * 16 + 15, none⟩ = some (.int .u64 x.S.x11) := hcr 15 _ rfl
      obtain ⟨W3, hW3⟩ : ∃ W3, W3 = wr.alloc (.cells #[.int .i64 x.X, .int .i64 x.id, .string x.m, .int .u64 x.S.x0, .int .u64 x.S.x1, .int .u64 x.S.x2, .int .u64 x.S.x3, .int .u64 x.S.x4, .int .u64 x.S.x5, .int .u64 x.S.x6, .int .u64 x.S.x7, .bool x.S.i, .int .u64 x.S.x8, .int .u64 x.S.x9, .int .u64 x.S.x10, .int .u64 x.S.x11] 40) := ⟨_, rfl⟩
      obtain ⟨G, hG⟩ : ∃ G, G = wr.heap.size := ⟨_, rfl⟩
      have HW3 : Hid (W3 = wr.alloc (.cells #[.int .i64 x.X, .int .i64 x.id, .string x.m, .int .u64 x.S.x0, .int .u64 x.S.x1, .int .u64 x.S.x2, .int .u64 x.S.x3, .int .u64 x.S.x4, .int .u64 x.S.x5, .int .u64 x.S.x6, .int .u64 x.S.x7, .bool x.S.i, .int .u64 x.S.x8, .int .u64 x.S.x9, .int .u64 x.S.x10, .int .u64 x.S.x11] 40) ∧ G = wr.heap.size) := ⟨hW3, hG⟩
      have HB : Hid (BE w W3 g g r G i (stE x)) := by rw [hW3, hG]; exact hB.beside (stE x) 40
      have HX : Hid (i < len ∧ x.m.size ≤ 281474976710656 ∧ (-9223372036854775808 ≤ x.id ∧ x.id ≤ 9223372036854775807)) := ⟨hlt, by omega, hid⟩
      have g0 : W3.cell? ⟨G, 0, none⟩ = some (.int .i64 x.X) := HB.out.blk.2.2 0 _ rfl
      have g1 : W3.cell? ⟨G, 1, none⟩ = some (.int .i64 x.id) := HB.out.blk.2.2 1 _ rfl
      have g2 : W3.cell? ⟨G, 2, none⟩ = some (.string x.m) := HB.out.blk.2.2 2 _ rfl
      clear hB hi hlt hc hp hms hid hcr hW3 hG
      go_upto_region 8 with fail
      rw [← HW3.out.1, ← HW3.out.2]
      clear HW3 HB0 k0 k1 k2 k3 k4 k5 k6 k7 k8 k9 k10 k11 k12 k13 k14 k15
      go_upto_block 2 with fail
      go_cut [] (fun wz => BE w wz g g r G (i + 1) (stE x))
      case first =>
        have hcs : x.X = 0 ∨ x.X = 1 ∨ x.X = 2 ∨ (¬ x.X = 0 ∧ ¬ x.X = 1 ∧ ¬ x.X = 2) := by omega
        rcases hcs with e0 | e0 | e0 | ⟨e0, e1, e2⟩
        · as_aux_lemma =>
            have xb0 : (x.X == 0) = true := by rw [e0]; rfl
            clear e0
            obtain ⟨v, V, hC⟩ := HB.out.subs (by have := HX.out.1; have := HS.out.2; omega) x.id x.m HX.out.2.2 HX.out.2.1
            have vv : (v != v) = false := by simp
            have hns := neq_sg V
            go_wp2_with fail
            refine hC.mono ?_
            rintro e w4 ⟨rfl, hk4, hC2⟩
            obtain ⟨W5, hW5⟩ : ∃ W5, W5 = w4.alloc (.cells #[.int .u64 V.x0, .int .u64 V.x1, .int .u64 V.x2, .int .u64 V.x3, .int .u64 V.x4, .int .u64 V.x5, .int .u64 V.x6, .int .u64 V.x7, .bool V.i, .int .u64 V.x8, .int .u64 V.x9, .int .u64 V.x10, .int .u64 V.x11] 38) := ⟨_, rfl⟩
            obtain ⟨E, hE⟩ : ∃ E, E = w4.heap.size := ⟨_, rfl⟩
            have HW5 : Hid (W5 = w4.alloc (.cells #[.int .u64 V.x0, .int .u64 V.x1, .int .u64 V.x2, .int .u64 V.x3, .int .u64 V.x4, .int .u64 V.x5, .int .u64 V.x6, .int .u64 V.x7, .bool V.i, .int .u64 V.x8, .int .u64 V.x9, .int .u64 V.x10, .int .u64 V.x11] 38) ∧ E = w4.heap.size) := ⟨hW5, hE⟩
            have hb5 : Below w4.heap.size w4 W5 := by rw [hW5]; exact below_alloc0 (Below.refl _ _) _
            have KC : Hid (Calls Try.prog 10 #[.pointer (some ⟨r, 0, none⟩), .int .i64 x.id, .string x.m] W5 fun e w'' => e = .returned (.tuple #[.int .i64 v, .agg #[.int .u64 V.x0, .int .u64 V.x1, .int .u64 V.x2, .int .u64 V.x3, .int .u64 V.x4, .int .u64 V.x5, .int .u64 V.x6, .int .u64 V.x7, .bool V.i, .int .u64 V.x8, .int .u64 V.x9, .int .u64 V.x10, .int .u64 V.x11]]) ∧ BE w w'' g g r G (i + 1) (stE x) ∧ Blk w'' E [.int .u64 V.x0, .int .u64 V.x1, .int .u64 V.x2, .int .u64 V.x3, .int .u64 V.x4, .int .u64 V.x5, .int .u64 V.x6, .int .u64 V.x7, .bool V.i, .int .u64 V.x8, .int .u64 V.x9, .int .u64 V.x10, .int .u64 V.x11]) := hC2 E [.int .u64 V.x0, .int .u64 V.x1, .int .u64 V.x2, .int .u64 V.x3, .int .u64 V.x4, .int .u64 V.x5, .int .u64 V.x6, .int .u64 V.x7, .bool V.i, .int .u64 V.x8, .int .u64 V.x9, .int .u64 V.x10, .int .u64 V.x11] W5 hb5 (by rw [hW5, hE]; exact Blk.new w4 [.int .u64 V.x0, .int .u64 V.x1, .int .u64 V.x2, .int .u64 V.x3, .int .u64 V.x4, .int .u64 V.x5, .int .u64 V.x6, .int .u64 V.x7, .bool V.i, .int .u64 V.x8, .int .u64 V.x9, .int .u64 V.x10, .int .u64 V.x11] 38) (by rw [hE]; exact Nat.le_refl _)
            have k1 : W5.cell? ⟨G, 1, none⟩ = some (.int .i64 x.id) := (hk4.call hb5).2.2 1 _ rfl
            have k2 : W5.cell? ⟨G, 2, none⟩ = some (.string x.m) := (hk4.call hb5).2.2 2 _ rfl
            clear hC hk4 hC2 hW5 hE hb5 g0 g1 g2
            go_upto_region 12 with fail
            rw [← HW5.out.1, ← HW5.out.2]
            go_wp2_with fail
            refine KC.out.mono ?_
            rintro e w6 ⟨rfl, hE6, hk6⟩
            have H6 : Hid (BE w w6 g g r G (i + 1) (stE x)) := hE6
            have el : E < w6.heap.size := hk6.1
            have s0 : w6.cell? ⟨E, 0, none⟩ = some (.int .u64 V.x0) := hk6.2.2 0 _ rfl
            have s1 : w6.cell? ⟨E, 1, none⟩ = some (.int .u64 V.x1) := hk6.2.2 1 _ rfl
            have s2 : w6.cell? ⟨E, 2, none⟩ = some (.int .u64 V.x2) := hk6.2.2 2 _ rfl
            have s3 : w6.cell? ⟨E, 3, none⟩ = some (.int .u64 V.x3) := hk6.2.2 3 _ rfl
            have s4 : w6.cell? ⟨E, 4, none⟩ = some (.int .u64 V.x4) := hk6.2.2 4 _ rfl
            have s5 : w6.cell? ⟨E, 5, none⟩ = some (.int .u64 V.x5) := hk6.2.2 5 _ rfl
            have s6 : w6.cell? ⟨E, 6, none⟩ = some (.int .u64 V.x6) := hk6.2.2 6 _ rfl
            have s7 : w6.cell? ⟨E, 7, none⟩ = some (.int .u64 V.x7) := hk6.2.2 7 _ rfl
            have s8 : w6.cell? ⟨E, 8, none⟩ = some (.bool V.i) := hk6.2.2 8 _ rfl
            have s9 : w6.cell? ⟨E, 9, none⟩ = some (.int .u64 V.x8) := hk6.2.2 9 _ rfl
            have s10 : w6.cell? ⟨E, 10, none⟩ = some (.int .u64 V.x9) := hk6.2.2 10 _ rfl
            have s11 : w6.cell? ⟨E, 11, none⟩ = some (.int .u64 V.x10) := hk6.2.2 11 _ rfl
            have s12 : w6.cell? ⟨E, 12, none⟩ = some (.int .u64 V.x11) := hk6.2.2 12 _ rfl
            clear hE6 hk6 k1 k2
            go_wp2_with fail
            go_meet
            exact H6.out.call (below_alloc0 (Below.refl _ _) _)
        · as_aux_lemma =>
            have xb0 : (x.X == 0) = false := by rw [e0]; rfl
            have xb1 : (x.X == 1) = true := by rw [e0]; rfl
            clear e0
            obtain ⟨v, V, hC⟩ := HB.out.subs (by have := HX.out.1; have := HS.out.2; omega) x.id x.m HX.out.2.2 HX.out.2.1
            have vv : (v != v) = false := by simp
            have hns := neq_sg V
            go_wp2_with fail
            refine hC.mono ?_
            rintro e w4 ⟨rfl, hk4, hC2⟩
            obtain ⟨W5, hW5⟩ : ∃ W5, W5 = w4.alloc (.cells #[.int .u64 V.x0, .int .u64 V.x1, .int .u64 V.x2, .int .u64 V.x3, .int .u64 V.x4, .int .u64 V.x5, .int .u64 V.x6, .int .u64 V.x7, .bool V.i, .int .u64 V.x8, .int .u64 V.x9, .int .u64 V.x10, .int .u64 V.x11] 38) := ⟨_, rfl⟩
            obtain ⟨E, hE⟩ : ∃ E, E = w4.heap.size := ⟨_, rfl⟩
            have HW5 : Hid (W5 = w4.alloc (.cells #[.int .u64 V.x0, .int .u64 V.x1, .int .u64 V.x2, .int .u64 V.x3, .int .u64 V.x4, .int .u64 V.x5, .int .u64 V.x6, .int .u64 V.x7, .bool V.i, .int .u64 V.x8, .int .u64 V.x9, .int .u64 V.x10, .int .u64 V.x11] 38) ∧ E = w4.heap.size) := ⟨hW5, hE⟩
            have hb5 : Below w4.heap.size w4 W5 := by rw [hW5]; exact below_alloc0 (Below.refl _ _) _
            have KC : Hid (Calls Try.prog 10 #[.pointer (some ⟨r, 0, none⟩), .int .i64 x.id, .string x.m] W5 fun e w'' => e = .returned (.tuple #[.int .i64 v, .agg #[.int .u64 V.x0, .int .u64 V.x1, .int .u64 V.x2, .int .u64 V.x3, .int .u64 V.x4, .int .u64 V.x5, .int .u64 V.x6, .int .u64 V.x7, .bool V.i, .int .u64 V.x8, .int .u64 V.x9, .int .u64 V.x10, .int .u64 V.x11]]) ∧ BE w w'' g g r G (i + 1) (stE x) ∧ Blk w'' E [.int .u64 V.x0, .int .u64 V.x1, .int .u64 V.x2, .int .u64 V.x3, .int .u64 V.x4, .int .u64 V.x5, .int .u64 V.x6, .int .u64 V.x7, .bool V.i, .int .u64 V.x8, .int .u64 V.x9, .int .u64 V.x10, .int .u64 V.x11]) := hC2 E [.int .u64 V.x0, .int .u64 V.x1, .int .u64 V.x2, .int .u64 V.x3, .int .u64 V.x4, .int .u64 V.x5, .int .u64 V.x6, .int .u64 V.x7, .bool V.i, .int .u64 V.x8, .int .u64 V.x9, .int .u64 V.x10, .int .u64 V.x11] W5 hb5 (by rw [hW5, hE]; exact Blk.new w4 [.int .u64 V.x0, .int .u64 V.x1, .int .u64 V.x2, .int .u64 V.x3, .int .u64 V.x4, .int .u64 V.x5, .int .u64 V.x6, .int .u64 V.x7, .bool V.i, .int .u64 V.x8, .int .u64 V.x9, .int .u64 V.x10, .int .u64 V.x11] 38) (by rw [hE]; exact Nat.le_refl _)
            have k1 : W5.cell? ⟨G, 1, none⟩ = some (.int .i64 x.id) := (hk4.call hb5).2.2 1 _ rfl
            have k2 : W5.cell? ⟨G, 2, none⟩ = some (.string x.m) := (hk4.call hb5).2.2 2 _ rfl
            clear hC hk4 hC2 hW5 hE hb5 g0 g1 g2
            go_upto_region 12 with fail
            rw [← HW5.out.1, ← HW5.out.2]
            go_wp2_with fail
            refine KC.out.mono ?_
            rintro e w6 ⟨rfl, hE6, hk6⟩
            have H6 : Hid (BE w w6 g g r G (i + 1) (stE x)) := hE6
            have el : E < w6.heap.size := hk6.1
            have s0 : w6.cell? ⟨E, 0, none⟩ = some (.int .u64 V.x0) := hk6.2.2 0 _ rfl
            have s1 : w6.cell? ⟨E, 1, none⟩ = some (.int .u64 V.x1) := hk6.2.2 1 _ rfl
            have s2 : w6.cell? ⟨E, 2, none⟩ = some (.int .u64 V.x2) := hk6.2.2 2 _ rfl
            have s3 : w6.cell? ⟨E, 3, none⟩ = some (.int .u64 V.x3) := hk6.2.2 3 _ rfl
            have s4 : w6.cell? ⟨E, 4, none⟩ = some (.int .u64 V.x4) := hk6.2.2 4 _ rfl
            have s5 : w6.cell? ⟨E, 5, none⟩ = some (.int .u64 V.x5) := hk6.2.2 5 _ rfl
            have s6 : w6.cell? ⟨E, 6, none⟩ = some (.int .u64 V.x6) := hk6.2.2 6 _ rfl
            have s7 : w6.cell? ⟨E, 7, none⟩ = some (.int .u64 V.x7) := hk6.2.2 7 _ rfl
            have s8 : w6.cell? ⟨E, 8, none⟩ = some (.bool V.i) := hk6.2.2 8 _ rfl
            have s9 : w6.cell? ⟨E, 9, none⟩ = some (.int .u64 V.x8) := hk6.2.2 9 _ rfl
            have s10 : w6.cell? ⟨E, 10, none⟩ = some (.int .u64 V.x9) := hk6.2.2 10 _ rfl
            have s11 : w6.cell? ⟨E, 11, none⟩ = some (.int .u64 V.x10) := hk6.2.2 11 _ rfl
            have s12 : w6.cell? ⟨E, 12, none⟩ = some (.int .u64 V.x11) := hk6.2.2 12 _ rfl
            clear hE6 hk6 k1 k2
            go_wp2_with fail
            go_meet
            exact H6.out.call (below_alloc0 (Below.refl _ _) _)
        · as_aux_lemma =>
            have xb0 : (x.X == 0) = false := by rw [e0]; rfl
            have xb1 : (x.X == 1) = false := by rw [e0]; rfl
            have xb2 : (x.X == 2) = true := by rw [e0]; rfl
            clear e0
            obtain ⟨v, hC⟩ := HB.out.drew.fins (by have := HX.out.1; have := HS.out.2; omega) x.id x.S HX.out.2.2
            have HC : Hid (Calls Try.prog 11 #[.pointer (some ⟨g, 0, none⟩), .int .i64 x.id, .agg #[.int .u64 x.S.x0, .int .u64 x.S.x1, .int .u64 x.S.x2, .int .u64 x.S.x3, .int .u64 x.S.x4, .int .u64 x.S.x5, .int .u64 x.S.x6, .int .u64 x.S.x7, .bool x.S.i, .int .u64 x.S.x8, .int .u64 x.S.x9, .int .u64 x.S.x10, .int .u64 x.S.x11]] W3.drew fun e w' => e = .returned (.int .i64 v) ∧ Blk w' G (stE x) ∧ Calls Try.prog 12 #[.pointer (some ⟨r, 0, none⟩), .int .i64 x.id, .agg #[.int .u64 x.S.x0, .int .u64 x.S.x1, .int .u64 x.S.x2, .int .u64 x.S.x3, .int .u64 x.S.x4, .int .u64 x.S.x5, .int .u64 x.S.x6, .int .u64 x.S.x7, .bool x.S.i, .int .u64 x.S.x8, .int .u64 x.S.x9, .int .u64 x.S.x10, .int .u64 x.S.x11]] w' fun e w'' => e = .returned (.int .i64 v) ∧ BE w w'' g g r G (i + 1) (stE x)) := hC
            have vv : (v != v) = false := by simp
            clear hC
            go_wp2_with fail
            refine wp_region_H (fun w' => Blk w' G (stE x)) 15 rfl (by kernel_rfl) ?_
            refine wpAnyH_take (i := 0) (oi := ?o0f) (v := ?v0f) ?hi0f (by kernel_rfl) (by kernel_rfl) (by kernel_rfl) ?hQ0f ?hy0f HB.out.blk ?more0f
            case hi0f => rw [List.getElem?_toArray]; exact rfl
            case hQ0f => exact fun _ _ _ h => h
            case hy0f =>
              refine Or.inl ⟨by rfl, ?_⟩
              intro w' hSw
              have h1 : w'.cell? ⟨G, 1, none⟩ = some (.int .i64 x.id) := hSw.2.2 1 _ rfl
              have h3 : w'.cell? ⟨G, 3, none⟩ = some (.int .u64 x.S.x0) := hSw.2.2 3 _ rfl
              have h4 : w'.cell? ⟨G, 4, none⟩ = some (.int .u64 x.S.x1) := hSw.2.2 4 _ rfl
              have h5 : w'.cell? ⟨G, 5, none⟩ = some (.int .u64 x.S.x2) := hSw.2.2 5 _ rfl
              have h6 : w'.cell? ⟨G, 6, none⟩ = some (.int .u64 x.S.x3) := hSw.2.2 6 _ rfl
              have h7 : w'.cell? ⟨G, 7, none⟩ = some (.int .u64 x.S.x4) := hSw.2.2 7 _ rfl
              have h8 : w'.cell? ⟨G, 8, none⟩ = some (.int .u64 x.S.x5) := hSw.2.2 8 _ rfl
              have h9 : w'.cell? ⟨G, 9, none⟩ = some (.int .u64 x.S.x6) := hSw.2.2 9 _ rfl
              have h10 : w'.cell? ⟨G, 10, none⟩ = some (.int .u64 x.S.x7) := hSw.2.2 10 _ rfl
              have h11 : w'.cell? ⟨G, 11, none⟩ = some (.bool x.S.i) := hSw.2.2 11 _ rfl
              have h12 : w'.cell? ⟨G, 12, none⟩ = some (.int .u64 x.S.x8) := hSw.2.2 12 _ rfl
              have h13 : w'.cell? ⟨G, 13, none⟩ = some (.int .u64 x.S.x9) := hSw.2.2 13 _ rfl
              have h14 : w'.cell? ⟨G, 14, none⟩ = some (.int .u64 x.S.x10) := hSw.2.2 14 _ rfl
              have h15 : w'.cell? ⟨G, 15, none⟩ = some (.int .u64 x.S.x11) := hSw.2.2 15 _ rfl
              clear hSw
              go_simp
              try with_reducible rfl
            simp only [Act.put, List.setIfInBounds_toArray, List.set_cons_zero, List.set_cons_succ]
            refine wpAnyH_take (i := 1) (oi := ?o1f) (v := ?v1f) ?hi1f (by kernel_rfl) (by kernel_rfl) (by kernel_rfl) ?hQ1f ?hy1f HB.out.blk ?more1f
            case hi1f => rw [List.getElem?_toArray]; exact rfl
            case hQ1f => exact fun _ _ _ h => h
            case hy1f =>
              refine Or.inl ⟨by rfl, ?_⟩
              intro w' hSw
              have h1 : w'.cell? ⟨G, 1, none⟩ = some (.int .i64 x.id) := hSw.2.2 1 _ rfl
              have h3 : w'.cell? ⟨G, 3, none⟩ = some (.int .u64 x.S.x0) := hSw.2.2 3 _ rfl
              have h4 : w'.cell? ⟨G, 4, none⟩ = some (.int .u64 x.S.x1) := hSw.2.2 4 _ rfl
              have h5 : w'.cell? ⟨G, 5, none⟩ = some (.int .u64 x.S.x2) := hSw.2.2 5 _ rfl
              have h6 : w'.cell? ⟨G, 6, none⟩ = some (.int .u64 x.S.x3) := hSw.2.2 6 _ rfl
              have h7 : w'.cell? ⟨G, 7, none⟩ = some (.int .u64 x.S.x4) := hSw.2.2 7 _ rfl
              have h8 : w'.cell? ⟨G, 8, none⟩ = some (.int .u64 x.S.x5) := hSw.2.2 8 _ rfl
              have h9 : w'.cell? ⟨G, 9, none⟩ = some (.int .u64 x.S.x6) := hSw.2.2 9 _ rfl
              have h10 : w'.cell? ⟨G, 10, none⟩ = some (.int .u64 x.S.x7) := hSw.2.2 10 _ rfl
              have h11 : w'.cell? ⟨G, 11, none⟩ = some (.bool x.S.i) := hSw.2.2 11 _ rfl
              have h12 : w'.cell? ⟨G, 12, none⟩ = some (.int .u64 x.S.x8) := hSw.2.2 12 _ rfl
              have h13 : w'.cell? ⟨G, 13, none⟩ = some (.int .u64 x.S.x9) := hSw.2.2 13 _ rfl
              have h14 : w'.cell? ⟨G, 14, none⟩ = some (.int .u64 x.S.x10) := hSw.2.2 14 _ rfl
              have h15 : w'.cell? ⟨G, 15, none⟩ = some (.int .u64 x.S.x11) := hSw.2.2 15 _ rfl
              clear hSw
              go_simp
              try with_reducible rfl
            simp only [Act.put, List.setIfInBounds_toArray, List.set_cons_zero, List.set_cons_succ]
            refine wpAnyH_take (i := 2) (oi := ?o2f) (v := ?v2f) ?hi2f (by kernel_rfl) (by kernel_rfl) (by kernel_rfl) ?hQ2f ?hy2f HB.out.blk ?more2f
            case hi2f => rw [List.getElem?_toArray]; exact rfl
            case hQ2f => exact fun _ _ _ h => h
            case hy2f =>
              refine Or.inl ⟨by rfl, ?_⟩
              intro w' hSw
              have h1 : w'.cell? ⟨G, 1, none⟩ = some (.int .i64 x.id) := hSw.2.2 1 _ rfl
              have h3 : w'.cell? ⟨G, 3, none⟩ = some (.int .u64 x.S.x0) := hSw.2.2 3 _ rfl
              have h4 : w'.cell? ⟨G, 4, none⟩ = some (.int .u64 x.S.x1) := hSw.2.2 4 _ rfl
              have h5 : w'.cell? ⟨G, 5, none⟩ = some (.int .u64 x.S.x2) := hSw.2.2 5 _ rfl
              have h6 : w'.cell? ⟨G, 6, none⟩ = some (.int .u64 x.S.x3) := hSw.2.2 6 _ rfl
              have h7 : w'.cell? ⟨G, 7, none⟩ = some (.int .u64 x.S.x4) := hSw.2.2 7 _ rfl
              have h8 : w'.cell? ⟨G, 8, none⟩ = some (.int .u64 x.S.x5) := hSw.2.2 8 _ rfl
              have h9 : w'.cell? ⟨G, 9, none⟩ = some (.int .u64 x.S.x6) := hSw.2.2 9 _ rfl
              have h10 : w'.cell? ⟨G, 10, none⟩ = some (.int .u64 x.S.x7) := hSw.2.2 10 _ rfl
              have h11 : w'.cell? ⟨G, 11, none⟩ = some (.bool x.S.i) := hSw.2.2 11 _ rfl
              have h12 : w'.cell? ⟨G, 12, none⟩ = some (.int .u64 x.S.x8) := hSw.2.2 12 _ rfl
              have h13 : w'.cell? ⟨G, 13, none⟩ = some (.int .u64 x.S.x9) := hSw.2.2 13 _ rfl
              have h14 : w'.cell? ⟨G, 14, none⟩ = some (.int .u64 x.S.x10) := hSw.2.2 14 _ rfl
              have h15 : w'.cell? ⟨G, 15, none⟩ = some (.int .u64 x.S.x11) := hSw.2.2 15 _ rfl
              clear hSw
              go_simp
              try with_reducible rfl
            simp only [Act.put, List.setIfInBounds_toArray, List.set_cons_zero, List.set_cons_succ]
            refine wpAnyH_take (i := 3) (oi := ?o3f) (v := ?v3f) ?hi3f (by kernel_rfl) (by kernel_rfl) (by kernel_rfl) ?hQ3f ?hy3f HB.out.blk ?more3f
            case hi3f => rw [List.getElem?_toArray]; exact rfl
            case hQ3f => exact fun _ _ _ h => h
            case hy3f =>
              refine Or.inl ⟨by rfl, ?_⟩
              intro w' hSw
              have h1 : w'.cell? ⟨G, 1, none⟩ = some (.int .i64 x.id) := hSw.2.2 1 _ rfl
              have h3 : w'.cell? ⟨G, 3, none⟩ = some (.int .u64 x.S.x0) := hSw.2.2 3 _ rfl
              have h4 : w'.cell? ⟨G, 4, none⟩ = some (.int .u64 x.S.x1) := hSw.2.2 4 _ rfl
              have h5 : w'.cell? ⟨G, 5, none⟩ = some (.int .u64 x.S.x2) := hSw.2.2 5 _ rfl
              have h6 : w'.cell? ⟨G, 6, none⟩ = some (.int .u64 x.S.x3) := hSw.2.2 6 _ rfl
              have h7 : w'.cell? ⟨G, 7, none⟩ = some (.int .u64 x.S.x4) := hSw.2.2 7 _ rfl
              have h8 : w'.cell? ⟨G, 8, none⟩ = some (.int .u64 x.S.x5) := hSw.2.2 8 _ rfl
              have h9 : w'.cell? ⟨G, 9, none⟩ = some (.int .u64 x.S.x6) := hSw.2.2 9 _ rfl
              have h10 : w'.cell? ⟨G, 10, none⟩ = some (.int .u64 x.S.x7) := hSw.2.2 10 _ rfl
              have h11 : w'.cell? ⟨G, 11, none⟩ = some (.bool x.S.i) := hSw.2.2 11 _ rfl
              have h12 : w'.cell? ⟨G, 12, none⟩ = some (.int .u64 x.S.x8) := hSw.2.2 12 _ rfl
              have h13 : w'.cell? ⟨G, 13, none⟩ = some (.int .u64 x.S.x9) := hSw.2.2 13 _ rfl
              have h14 : w'.cell? ⟨G, 14, none⟩ = some (.int .u64 x.S.x10) := hSw.2.2 14 _ rfl
              have h15 : w'.cell? ⟨G, 15, none⟩ = some (.int .u64 x.S.x11) := hSw.2.2 15 _ rfl
              clear hSw
              go_simp
              try with_reducible rfl
            simp only [Act.put, List.setIfInBounds_toArray, List.set_cons_zero, List.set_cons_succ]
            refine wpAnyH_take (i := 4) (oi := ?o4f) (v := ?v4f) ?hi4f (by kernel_rfl) (by kernel_rfl) (by kernel_rfl) ?hQ4f ?hy4f HB.out.blk ?more4f
            case hi4f => rw [List.getElem?_toArray]; exact rfl
            case hQ4f => exact fun _ _ _ h => h
            case hy4f =>
              refine Or.inl ⟨by rfl, ?_⟩
              intro w' hSw
              have h1 : w'.cell? ⟨G, 1, none⟩ = some (.int .i64 x.id) := hSw.2.2 1 _ rfl
              have h3 : w'.cell? ⟨G, 3, none⟩ = some (.int .u64 x.S.x0) := hSw.2.2 3 _ rfl
              have h4 : w'.cell? ⟨G, 4, none⟩ = some (.int .u64 x.S.x1) := hSw.2.2 4 _ rfl
              have h5 : w'.cell? ⟨G, 5, none⟩ = some (.int .u64 x.S.x2) := hSw.2.2 5 _ rfl
              have h6 : w'.cell? ⟨G, 6, none⟩ = some (.int .u64 x.S.x3) := hSw.2.2 6 _ rfl
              have h7 : w'.cell? ⟨G, 7, none⟩ = some (.int .u64 x.S.x4) := hSw.2.2 7 _ rfl
              have h8 : w'.cell? ⟨G, 8, none⟩ = some (.int .u64 x.S.x5) := hSw.2.2 8 _ rfl
              have h9 : w'.cell? ⟨G, 9, none⟩ = some (.int .u64 x.S.x6) := hSw.2.2 9 _ rfl
              have h10 : w'.cell? ⟨G, 10, none⟩ = some (.int .u64 x.S.x7) := hSw.2.2 10 _ rfl
              have h11 : w'.cell? ⟨G, 11, none⟩ = some (.bool x.S.i) := hSw.2.2 11 _ rfl
              have h12 : w'.cell? ⟨G, 12, none⟩ = some (.int .u64 x.S.x8) := hSw.2.2 12 _ rfl
              have h13 : w'.cell? ⟨G, 13, none⟩ = some (.int .u64 x.S.x9) := hSw.2.2 13 _ rfl
              have h14 : w'.cell? ⟨G, 14, none⟩ = some (.int .u64 x.S.x10) := hSw.2.2 14 _ rfl
              have h15 : w'.cell? ⟨G, 15, none⟩ = some (.int .u64 x.S.x11) := hSw.2.2 15 _ rfl
              clear hSw
              go_simp
              try with_reducible rfl
            simp only [Act.put, List.setIfInBounds_toArray, List.set_cons_zero, List.set_cons_succ]
            refine wpAnyH_take (i := 5) (oi := ?o5f) (v := ?v5f) ?hi5f (by kernel_rfl) (by kernel_rfl) (by kernel_rfl) ?hQ5f ?hy5f HB.out.blk ?more5f
            case hi5f => rw [List.getElem?_toArray]; exact rfl
            case hQ5f => exact fun _ _ _ h => h
            case hy5f =>
              refine Or.inl ⟨by rfl, ?_⟩
              intro w' hSw
              have h1 : w'.cell? ⟨G, 1, none⟩ = some (.int .i64 x.id) := hSw.2.2 1 _ rfl
              have h3 : w'.cell? ⟨G, 3, none⟩ = some (.int .u64 x.S.x0) := hSw.2.2 3 _ rfl
              have h4 : w'.cell? ⟨G, 4, none⟩ = some (.int .u64 x.S.x1) := hSw.2.2 4 _ rfl
              have h5 : w'.cell? ⟨G, 5, none⟩ = some (.int .u64 x.S.x2) := hSw.2.2 5 _ rfl
              have h6 : w'.cell? ⟨G, 6, none⟩ = some (.int .u64 x.S.x3) := hSw.2.2 6 _ rfl
              have h7 : w'.cell? ⟨G, 7, none⟩ = some (.int .u64 x.S.x4) := hSw.2.2 7 _ rfl
              have h8 : w'.cell? ⟨G, 8, none⟩ = some (.int .u64 x.S.x5) := hSw.2.2 8 _ rfl
              have h9 : w'.cell? ⟨G, 9, none⟩ = some (.int .u64 x.S.x6) := hSw.2.2 9 _ rfl
              have h10 : w'.cell? ⟨G, 10, none⟩ = some (.int .u64 x.S.x7) := hSw.2.2 10 _ rfl
              have h11 : w'.cell? ⟨G, 11, none⟩ = some (.bool x.S.i) := hSw.2.2 11 _ rfl
              have h12 : w'.cell? ⟨G, 12, none⟩ = some (.int .u64 x.S.x8) := hSw.2.2 12 _ rfl
              have h13 : w'.cell? ⟨G, 13, none⟩ = some (.int .u64 x.S.x9) := hSw.2.2 13 _ rfl
              have h14 : w'.cell? ⟨G, 14, none⟩ = some (.int .u64 x.S.x10) := hSw.2.2 14 _ rfl
              have h15 : w'.cell? ⟨G, 15, none⟩ = some (.int .u64 x.S.x11) := hSw.2.2 15 _ rfl
              clear hSw
              go_simp
              try with_reducible rfl
            simp only [Act.put, List.setIfInBounds_toArray, List.set_cons_zero, List.set_cons_succ]
            refine wpAnyH_take (i := 7) (oi := ?o7f) (v := ?v7f) ?hi7f (by kernel_rfl) (by kernel_rfl) (by kernel_rfl) ?hQ7f ?hy7f HB.out.blk ?more7f
            case hi7f => rw [List.getElem?_toArray]; exact rfl
            case hQ7f => exact fun _ _ _ h => h
            case hy7f =>
              refine Or.inl ⟨by rfl, ?_⟩
              intro w' hSw
              have h1 : w'.cell? ⟨G, 1, none⟩ = some (.int .i64 x.id) := hSw.2.2 1 _ rfl
              have h3 : w'.cell? ⟨G, 3, none⟩ = some (.int .u64 x.S.x0) := hSw.2.2 3 _ rfl
              have h4 : w'.cell? ⟨G, 4, none⟩ = some (.int .u64 x.S.x1) := hSw.2.2 4 _ rfl
              have h5 : w'.cell? ⟨G, 5, none⟩ = some (.int .u64 x.S.x2) := hSw.2.2 5 _ rfl
              have h6 : w'.cell? ⟨G, 6, none⟩ = some (.int .u64 x.S.x3) := hSw.2.2 6 _ rfl
              have h7 : w'.cell? ⟨G, 7, none⟩ = some (.int .u64 x.S.x4) := hSw.2.2 7 _ rfl
              have h8 : w'.cell? ⟨G, 8, none⟩ = some (.int .u64 x.S.x5) := hSw.2.2 8 _ rfl
              have h9 : w'.cell? ⟨G, 9, none⟩ = some (.int .u64 x.S.x6) := hSw.2.2 9 _ rfl
              have h10 : w'.cell? ⟨G, 10, none⟩ = some (.int .u64 x.S.x7) := hSw.2.2 10 _ rfl
              have h11 : w'.cell? ⟨G, 11, none⟩ = some (.bool x.S.i) := hSw.2.2 11 _ rfl
              have h12 : w'.cell? ⟨G, 12, none⟩ = some (.int .u64 x.S.x8) := hSw.2.2 12 _ rfl
              have h13 : w'.cell? ⟨G, 13, none⟩ = some (.int .u64 x.S.x9) := hSw.2.2 13 _ rfl
              have h14 : w'.cell? ⟨G, 14, none⟩ = some (.int .u64 x.S.x10) := hSw.2.2 14 _ rfl
              have h15 : w'.cell? ⟨G, 15, none⟩ = some (.int .u64 x.S.x11) := hSw.2.2 15 _ rfl
              clear hSw
              go_simp
              try with_reducible rfl
            simp only [Act.put, List.setIfInBounds_toArray, List.set_cons_zero, List.set_cons_succ]
            refine wpAnyH_take (i := 8) (oi := ?o8f) (v := ?v8f) ?hi8f (by kernel_rfl) (by kernel_rfl) (by kernel_rfl) ?hQ8f ?hy8f HB.out.blk ?more8f
            case hi8f => rw [List.getElem?_toArray]; exact rfl
            case hQ8f => exact fun _ _ _ h => h
            case hy8f =>
              refine Or.inl ⟨by rfl, ?_⟩
              intro w' hSw
              have h1 : w'.cell? ⟨G, 1, none⟩ = some (.int .i64 x.id) := hSw.2.2 1 _ rfl
              have h3 : w'.cell? ⟨G, 3, none⟩ = some (.int .u64 x.S.x0) := hSw.2.2 3 _ rfl
              have h4 : w'.cell? ⟨G, 4, none⟩ = some (.int .u64 x.S.x1) := hSw.2.2 4 _ rfl
              have h5 : w'.cell? ⟨G, 5, none⟩ = some (.int .u64 x.S.x2) := hSw.2.2 5 _ rfl
              have h6 : w'.cell? ⟨G, 6, none⟩ = some (.int .u64 x.S.x3) := hSw.2.2 6 _ rfl
              have h7 : w'.cell? ⟨G, 7, none⟩ = some (.int .u64 x.S.x4) := hSw.2.2 7 _ rfl
              have h8 : w'.cell? ⟨G, 8, none⟩ = some (.int .u64 x.S.x5) := hSw.2.2 8 _ rfl
              have h9 : w'.cell? ⟨G, 9, none⟩ = some (.int .u64 x.S.x6) := hSw.2.2 9 _ rfl
              have h10 : w'.cell? ⟨G, 10, none⟩ = some (.int .u64 x.S.x7) := hSw.2.2 10 _ rfl
              have h11 : w'.cell? ⟨G, 11, none⟩ = some (.bool x.S.i) := hSw.2.2 11 _ rfl
              have h12 : w'.cell? ⟨G, 12, none⟩ = some (.int .u64 x.S.x8) := hSw.2.2 12 _ rfl
              have h13 : w'.cell? ⟨G, 13, none⟩ = some (.int .u64 x.S.x9) := hSw.2.2 13 _ rfl
              have h14 : w'.cell? ⟨G, 14, none⟩ = some (.int .u64 x.S.x10) := hSw.2.2 14 _ rfl
              have h15 : w'.cell? ⟨G, 15, none⟩ = some (.int .u64 x.S.x11) := hSw.2.2 15 _ rfl
              clear hSw
              go_simp
              try with_reducible rfl
            simp only [Act.put, List.setIfInBounds_toArray, List.set_cons_zero, List.set_cons_succ]
            refine wpAnyH_take (i := 9) (oi := ?o9f) (v := ?v9f) ?hi9f (by kernel_rfl) (by kernel_rfl) (by kernel_rfl) ?hQ9f ?hy9f HB.out.blk ?more9f
            case hi9f => rw [List.getElem?_toArray]; exact rfl
            case hQ9f => exact fun _ _ _ h => h
            case hy9f =>
              refine Or.inl ⟨by rfl, ?_⟩
              intro w' hSw
              have h1 : w'.cell? ⟨G, 1, none⟩ = some (.int .i64 x.id) := hSw.2.2 1 _ rfl
              have h3 : w'.cell? ⟨G, 3, none⟩ = some (.int .u64 x.S.x0) := hSw.2.2 3 _ rfl
              have h4 : w'.cell? ⟨G, 4, none⟩ = some (.int .u64 x.S.x1) := hSw.2.2 4 _ rfl
              have h5 : w'.cell? ⟨G, 5, none⟩ = some (.int .u64 x.S.x2) := hSw.2.2 5 _ rfl
              have h6 : w'.cell? ⟨G, 6, none⟩ = some (.int .u64 x.S.x3) := hSw.2.2 6 _ rfl
              have h7 : w'.cell? ⟨G, 7, none⟩ = some (.int .u64 x.S.x4) := hSw.2.2 7 _ rfl
              have h8 : w'.cell? ⟨G, 8, none⟩ = some (.int .u64 x.S.x5) := hSw.2.2 8 _ rfl
              have h9 : w'.cell? ⟨G, 9, none⟩ = some (.int .u64 x.S.x6) := hSw.2.2 9 _ rfl
              have h10 : w'.cell? ⟨G, 10, none⟩ = some (.int .u64 x.S.x7) := hSw.2.2 10 _ rfl
              have h11 : w'.cell? ⟨G, 11, none⟩ = some (.bool x.S.i) := hSw.2.2 11 _ rfl
              have h12 : w'.cell? ⟨G, 12, none⟩ = some (.int .u64 x.S.x8) := hSw.2.2 12 _ rfl
              have h13 : w'.cell? ⟨G, 13, none⟩ = some (.int .u64 x.S.x9) := hSw.2.2 13 _ rfl
              have h14 : w'.cell? ⟨G, 14, none⟩ = some (.int .u64 x.S.x10) := hSw.2.2 14 _ rfl
              have h15 : w'.cell? ⟨G, 15, none⟩ = some (.int .u64 x.S.x11) := hSw.2.2 15 _ rfl
              clear hSw
              go_simp
              try with_reducible rfl
            simp only [Act.put, List.setIfInBounds_toArray, List.set_cons_zero, List.set_cons_succ]
            refine wpAnyH_take (i := 10) (oi := ?o10f) (v := ?v10f) ?hi10f (by kernel_rfl) (by kernel_rfl) (by kernel_rfl) ?hQ10f ?hy10f HB.out.blk ?more10f
            case hi10f => rw [List.getElem?_toArray]; exact rfl
            case hQ10f => exact fun _ _ _ h => h
            case hy10f =>
              refine Or.inl ⟨by rfl, ?_⟩
              intro w' hSw
              have h1 : w'.cell? ⟨G, 1, none⟩ = some (.int .i64 x.id) := hSw.2.2 1 _ rfl
              have h3 : w'.cell? ⟨G, 3, none⟩ = some (.int .u64 x.S.x0) := hSw.2.2 3 _ rfl
              have h4 : w'.cell? ⟨G, 4, none⟩ = some (.int .u64 x.S.x1) := hSw.2.2 4 _ rfl
              have h5 : w'.cell? ⟨G, 5, none⟩ = some (.int .u64 x.S.x2) := hSw.2.2 5 _ rfl
              have h6 : w'.cell? ⟨G, 6, none⟩ = some (.int .u64 x.S.x3) := hSw.2.2 6 _ rfl
              have h7 : w'.cell? ⟨G, 7, none⟩ = some (.int .u64 x.S.x4) := hSw.2.2 7 _ rfl
              have h8 : w'.cell? ⟨G, 8, none⟩ = some (.int .u64 x.S.x5) := hSw.2.2 8 _ rfl
              have h9 : w'.cell? ⟨G, 9, none⟩ = some (.int .u64 x.S.x6) := hSw.2.2 9 _ rfl
              have h10 : w'.cell? ⟨G, 10, none⟩ = some (.int .u64 x.S.x7) := hSw.2.2 10 _ rfl
              have h11 : w'.cell? ⟨G, 11, none⟩ = some (.bool x.S.i) := hSw.2.2 11 _ rfl
              have h12 : w'.cell? ⟨G, 12, none⟩ = some (.int .u64 x.S.x8) := hSw.2.2 12 _ rfl
              have h13 : w'.cell? ⟨G, 13, none⟩ = some (.int .u64 x.S.x9) := hSw.2.2 13 _ rfl
              have h14 : w'.cell? ⟨G, 14, none⟩ = some (.int .u64 x.S.x10) := hSw.2.2 14 _ rfl
              have h15 : w'.cell? ⟨G, 15, none⟩ = some (.int .u64 x.S.x11) := hSw.2.2 15 _ rfl
              clear hSw
              go_simp
              try with_reducible rfl
            simp only [Act.put, List.setIfInBounds_toArray, List.set_cons_zero, List.set_cons_succ]
            refine wpAnyH_take (i := 11) (oi := ?o11f) (v := ?v11f) ?hi11f (by kernel_rfl) (by kernel_rfl) (by kernel_rfl) ?hQ11f ?hy11f HB.out.blk ?more11f
            case hi11f => rw [List.getElem?_toArray]; exact rfl
            case hQ11f => exact fun _ _ _ h => h
            case hy11f =>
              refine Or.inl ⟨by rfl, ?_⟩
              intro w' hSw
              have h1 : w'.cell? ⟨G, 1, none⟩ = some (.int .i64 x.id) := hSw.2.2 1 _ rfl
              have h3 : w'.cell? ⟨G, 3, none⟩ = some (.int .u64 x.S.x0) := hSw.2.2 3 _ rfl
              have h4 : w'.cell? ⟨G, 4, none⟩ = some (.int .u64 x.S.x1) := hSw.2.2 4 _ rfl
              have h5 : w'.cell? ⟨G, 5, none⟩ = some (.int .u64 x.S.x2) := hSw.2.2 5 _ rfl
              have h6 : w'.cell? ⟨G, 6, none⟩ = some (.int .u64 x.S.x3) := hSw.2.2 6 _ rfl
              have h7 : w'.cell? ⟨G, 7, none⟩ = some (.int .u64 x.S.x4) := hSw.2.2 7 _ rfl
              have h8 : w'.cell? ⟨G, 8, none⟩ = some (.int .u64 x.S.x5) := hSw.2.2 8 _ rfl
              have h9 : w'.cell? ⟨G, 9, none⟩ = some (.int .u64 x.S.x6) := hSw.2.2 9 _ rfl
              have h10 : w'.cell? ⟨G, 10, none⟩ = some (.int .u64 x.S.x7) := hSw.2.2 10 _ rfl
              have h11 : w'.cell? ⟨G, 11, none⟩ = some (.bool x.S.i) := hSw.2.2 11 _ rfl
              have h12 : w'.cell? ⟨G, 12, none⟩ = some (.int .u64 x.S.x8) := hSw.2.2 12 _ rfl
              have h13 : w'.cell? ⟨G, 13, none⟩ = some (.int .u64 x.S.x9) := hSw.2.2 13 _ rfl
              have h14 : w'.cell? ⟨G, 14, none⟩ = some (.int .u64 x.S.x10) := hSw.2.2 14 _ rfl
              have h15 : w'.cell? ⟨G, 15, none⟩ = some (.int .u64 x.S.x11) := hSw.2.2 15 _ rfl
              clear hSw
              go_simp
              try with_reducible rfl
            simp only [Act.put, List.setIfInBounds_toArray, List.set_cons_zero, List.set_cons_succ]
            refine wpAnyH_take (i := 12) (oi := ?o12f) (v := ?v12f) ?hi12f (by kernel_rfl) (by kernel_rfl) (by kernel_rfl) ?hQ12f ?hy12f HB.out.blk ?more12f
            case hi12f => rw [List.getElem?_toArray]; exact rfl
            case hQ12f => exact fun _ _ _ h => h
            case hy12f =>
              refine Or.inl ⟨by rfl, ?_⟩
              intro w' hSw
              have h1 : w'.cell? ⟨G, 1, none⟩ = some (.int .i64 x.id) := hSw.2.2 1 _ rfl
              have h3 : w'.cell? ⟨G, 3, none⟩ = some (.int .u64 x.S.x0) := hSw.2.2 3 _ rfl
              have h4 : w'.cell? ⟨G, 4, none⟩ = some (.int .u64 x.S.x1) := hSw.2.2 4 _ rfl
              have h5 : w'.cell? ⟨G, 5, none⟩ = some (.int .u64 x.S.x2) := hSw.2.2 5 _ rfl
              have h6 : w'.cell? ⟨G, 6, none⟩ = some (.int .u64 x.S.x3) := hSw.2.2 6 _ rfl
              have h7 : w'.cell? ⟨G, 7, none⟩ = some (.int .u64 x.S.x4) := hSw.2.2 7 _ rfl
              have h8 : w'.cell? ⟨G, 8, none⟩ = some (.int .u64 x.S.x5) := hSw.2.2 8 _ rfl
              have h9 : w'.cell? ⟨G, 9, none⟩ = some (.int .u64 x.S.x6) := hSw.2.2 9 _ rfl
              have h10 : w'.cell? ⟨G, 10, none⟩ = some (.int .u64 x.S.x7) := hSw.2.2 10 _ rfl
              have h11 : w'.cell? ⟨G, 11, none⟩ = some (.bool x.S.i) := hSw.2.2 11 _ rfl
              have h12 : w'.cell? ⟨G, 12, none⟩ = some (.int .u64 x.S.x8) := hSw.2.2 12 _ rfl
              have h13 : w'.cell? ⟨G, 13, none⟩ = some (.int .u64 x.S.x9) := hSw.2.2 13 _ rfl
              have h14 : w'.cell? ⟨G, 14, none⟩ = some (.int .u64 x.S.x10) := hSw.2.2 14 _ rfl
              have h15 : w'.cell? ⟨G, 15, none⟩ = some (.int .u64 x.S.x11) := hSw.2.2 15 _ rfl
              clear hSw
              go_simp
              try with_reducible rfl
            simp only [Act.put, List.setIfInBounds_toArray, List.set_cons_zero, List.set_cons_succ]
            refine wpAnyH_one (i := 6) (o := ?o6f) (by kernel_rfl) ?hi6f ?hw6f ?st6f
            case hi6f => rw [List.getElem?_toArray]; exact rfl
            case hw6f => exact rfl
            intro K hK
            have HK6f : Hid _ := hK
            clear hK
            go_simp
            refine HC.out.mono ?_
            rintro e w4 ⟨rfl, hk4, hC2⟩
            have H4 : Hid (Blk w4 G (stE x)) := hk4
            clear hk4
            go_wp2_with fail
            refine HK6f.out _ _ ⟨H4.out, ?_⟩
            clear HK6f K
            try simp only [Act.put, List.setIfInBounds_toArray, List.set_cons_zero, List.set_cons_succ]
            refine wpAnyH_one (i := 13) (o := ?o13f) (by kernel_rfl) ?hi13f ?hw13f ?st13f
            case hi13f => rw [List.getElem?_toArray]; exact rfl
            case hw13f => exact rfl
            intro K hK
            have HK13f : Hid _ := hK
            clear hK
            go_simp
            refine hC2.mono ?_
            rintro e w5 ⟨rfl, h5⟩
            have H5 : Hid (BE w w5 g g r G (i + 1) (stE x)) := h5
            clear h5
            go_wp2_with fail
            refine HK13f.out _ _ ⟨H5.out.blk, ?_⟩
            clear HK13f K
            try simp only [Act.put, List.setIfInBounds_toArray, List.set_cons_zero, List.set_cons_succ]
            refine wpAnyH_take (i := 14) (oi := ?o14f) (v := ?v14f) ?hi14f (by kernel_rfl) (by kernel_rfl) (by kernel_rfl) ?hQ14f ?hy14f H5.out.blk ?more14f
            case hi14f => rw [List.getElem?_toArray]; exact rfl
            case hQ14f => exact fun _ _ _ h => h
            case hy14f =>
              refine Or.inl ⟨by rfl, ?_⟩
              intro w' hSw
              have h1 : w'.cell? ⟨G, 1, none⟩ = some (.int .i64 x.id) := hSw.2.2 1 _ rfl
              have h3 : w'.cell? ⟨G, 3, none⟩ = some (.int .u64 x.S.x0) := hSw.2.2 3 _ rfl
              have h4 : w'.cell? ⟨G, 4, none⟩ = some (.int .u64 x.S.x1) := hSw.2.2 4 _ rfl
              have h5 : w'.cell? ⟨G, 5, none⟩ = some (.int .u64 x.S.x2) := hSw.2.2 5 _ rfl
              have h6 : w'.cell? ⟨G, 6, none⟩ = some (.int .u64 x.S.x3) := hSw.2.2 6 _ rfl
              have h7 : w'.cell? ⟨G, 7, none⟩ = some (.int .u64 x.S.x4) := hSw.2.2 7 _ rfl
              have h8 : w'.cell? ⟨G, 8, none⟩ = some (.int .u64 x.S.x5) := hSw.2.2 8 _ rfl
              have h9 : w'.cell? ⟨G, 9, none⟩ = some (.int .u64 x.S.x6) := hSw.2.2 9 _ rfl
              have h10 : w'.cell? ⟨G, 10, none⟩ = some (.int .u64 x.S.x7) := hSw.2.2 10 _ rfl
              have h11 : w'.cell? ⟨G, 11, none⟩ = some (.bool x.S.i) := hSw.2.2 11 _ rfl
              have h12 : w'.cell? ⟨G, 12, none⟩ = some (.int .u64 x.S.x8) := hSw.2.2 12 _ rfl
              have h13 : w'.cell? ⟨G, 13, none⟩ = some (.int .u64 x.S.x9) := hSw.2.2 13 _ rfl
              have h14 : w'.cell? ⟨G, 14, none⟩ = some (.int .u64 x.S.x10) := hSw.2.2 14 _ rfl
              have h15 : w'.cell? ⟨G, 15, none⟩ = some (.int .u64 x.S.x11) := hSw.2.2 15 _ rfl
              clear hSw
              go_simp
              try with_reducible rfl
            simp only [Act.put, List.setIfInBounds_toArray, List.set_cons_zero, List.set_cons_succ]
            refine wpAnyH_done (by kernel_rfl) ?_ _
            go_wp2_with fail
            go_meet
            exact H5.out
        · have f0 : (x.X == 0) = false := beq_eq_false_iff_ne.2 e0
          have f1 : (x.X == 1) = false := beq_eq_false_iff_ne.2 e1
          have f2 : (x.X == 2) = false := beq_eq_false_iff_ne.2 e2
          go_wp2_with fail
          go_meet
          exact HB.out.up (Nat.le_succ _)
      case rest =>
        rename World => w4
        obtain ⟨L, S, R, h4, hl4⟩ := hcut
        have HLN : Hid (L.length ≤ i + 1) := hl4
        obtain ⟨n, hn⟩ : ∃ n, n = (waitQ L).length := ⟨_, rfl⟩
        obtain ⟨N, hN⟩ : ∃ N, N = L.length := ⟨_, rfl⟩
        have hnN : n ≤ N := by rw [hn, hN]; exact waitQ_len L
        obtain ⟨d, hd⟩ : ∃ d, N = n + d := ⟨N - n, by omega⟩
        have H4 : Hid (BG w w4 g g r L L S R G (stE x) ∧ n = (waitQ L).length ∧ N = L.length ∧ N = n + d ∧ N ≤ 301) := ⟨h4, hn, hN, hd, by have := HX.out.1; have := HS.out.2; omega⟩
        have a1 : (n : Int) + (d : Int) = (N : Nat) := by omega
        have a2 : (N : Int) ≤ 301 := by have := H4.out.2.2.2.2; omega
        have a3 : (n : Int) ≤ 301 := by omega
        have a4 : (d : Int) ≤ 301 := by omega
        have b1 : ((n : Int) != (n : Int)) = false := by simp
        have b2 : ((N : Int) != (N : Int)) = false := by simp
        clear h4 hl4 hn hN hnN hd HB g0 g1 g2
        go_wp2_with fail
        refine (count_in g n d S L w4 H4.out.1.b.q H4.out.2.1 (by rw [← H4.out.2.2.1]; exact H4.out.2.2.2.1) (by have := H4.out.2.2.2.2; have := H4.out.2.2.1; omega)).mono ?_
        rintro e w5 ⟨rfl, hw5⟩
        have H5 : Hid (BG w w5 g g r L L S R G (stE x)) := by rw [hw5]; exact H4.out.1.drew
        clear hw5
        go_wp2_with fail
        refine (waiting_in g S L w5 H5.out.b.q).mono ?_
        rintro e w6 ⟨wa, wn, wc, rfl, hwn, hrow, hb6⟩
        have H6 : Hid (BG w w6 g g r L L S R G (stE x) ∧ wn = (waitQ L).length ∧ RowX rqE 2 w6 (From w5.heap.size) wa (waitQ L) wc) := ⟨H5.out.call hb6, hwn, hrow⟩
        clear hwn hrow hb6
        go_wp2_with fail
        refine (same_in r R L wa wn wc (From w5.heap.size) w6 H6.out.1.b.rq (by have := H4.out.2.2.2.2; have := H4.out.2.2.1; omega) H6.out.2.2 H6.out.2.1).mono ?_
        rintro e w7 ⟨rfl, hb7⟩
        have H7 : Hid (BG w w7 g g r L L S R G (stE x)) := H6.out.1.call hb7
        clear hb7
        go_wp2_with fail
        refine (waits_in r R L w7 H7.out.b.rq (by have := H4.out.2.2.2.2; have := H4.out.2.2.1; omega) n H4.out.2.1).mono ?_
        rintro e w8 ⟨rfl, hb8⟩
        have H8 : Hid (BG w w8 g g r L L S R G (stE x)) := H7.out.call hb8
        obtain ⟨ra, rc, c0, hrr⟩ := H8.out.b.rq.c0
        rw [← H4.out.2.2.1] at c0
        have g1 : w8.cell? ⟨G, 1, none⟩ = some (.int .i64 x.id) := H8.out.k.2.2 1 _ rfl
        have HRR : Hid (RowX oneE 16 w8 (fun k => R k ∧ k ≠ r) ra L rc) := hrr
        clear hb8 hrr
        go_wp2_with fail
        refine (get_in g x.id S L w8 H8.out.b.q HX.out.2.2).mono ?_
        rintro e w9 ⟨rfl, hb9⟩
        obtain ⟨B0, hB0⟩ : ∃ B0, B0 = (lookQ L x.id).isSome := ⟨_, rfl⟩
        obtain ⟨GI, hGI⟩ : ∃ GI, GI = gI (lookQ L x.id) := ⟨_, rfl⟩
        obtain ⟨FM, hFM⟩ : ∃ FM, FM = fm (lookQ L x.id) := ⟨_, rfl⟩
        rw [← hB0, ← hGI, ← hFM]
        obtain ⟨W10, hW10⟩ : ∃ W10, W10 = w9.alloc (.cells #[.int .i64 GI, .string FM] 31) := ⟨_, rfl⟩
        obtain ⟨Q, hQ⟩ : ∃ Q, Q = w9.heap.size := ⟨_, rfl⟩
        have HW10 : Hid (W10 = w9.alloc (.cells #[.int .i64 GI, .string FM] 31) ∧ Q = w9.heap.size) := ⟨hW10, hQ⟩
        have hb10 : Below w8.heap.size w8 W10 := by rw [hW10]; exact hb9.alloc hb9.size _
        have H10 : Hid (BG w W10 g g r L L S R G (stE x) ∧ Blk W10 Q [.int .i64 GI, .string FM] ∧ RowX oneE 16 W10 (fun k => R k ∧ k ≠ r) ra L rc ∧ B0 = (lookQ L x.id).isSome ∧ GI = gI (lookQ L x.id) ∧ FM = fm (lookQ L x.id)) := ⟨H8.out.call hb10, by rw [hW10, hQ]; exact Blk.new w9 [.int .i64 GI, .string FM] 31, HRR.out.call hb10, hB0, hGI, hFM⟩
        have d0 : W10.cell? ⟨r, 0, none⟩ = some (.slice ra N rc) := (hb10.cell (p := ⟨r, 0, none⟩) H8.out.b.rq.rl).trans c0
        clear hb9 hb10 hB0 hGI hFM hW10 hQ c0 g1
        go_upto_region 22 with fail
        rw [← HW10.out.1, ← HW10.out.2]
        clear HW10 HRR
        go_wp2_with fail
        rename_i Kq hKq
        have HKq : Hid _ := hKq
        clear hKq
        go_loopw [15, 127] (fun tv jv wz => ∃ (j : Nat) (T : Bool), j ≤ N ∧ T = (lookQ (L.take j) x.id).isSome ∧ tv = .bool T ∧ jv = .int .i64 (j : Nat) ∧ Below W10.heap.size W10 wz) (fun _ jv _ => N - (Go.RowKit.intOf jv).toNat)
        case atStart => exact ⟨0, false, Nat.zero_le _, rfl, rfl, rfl, Below.refl _ _⟩
        case round =>
          obtain ⟨j, T, hj, hT, rfl, rfl, hb⟩ := hrel
          rename World => wz
          have HJ : Hid (j ≤ N ∧ T = (lookQ (L.take j) x.id).isSome ∧ Below W10.heap.size W10 wz) := ⟨hj, hT, hb⟩
          by_cases hltj : j < N
          · have hlt2 : (j : Int) < (N : Nat) := by omega
            obtain ⟨y, hy⟩ : ∃ y, L[j]? = some y := ⟨_, List.getElem?_eq_getElem (by rw [← H4.out.2.2.1]; exact hltj)⟩
            obtain ⟨rp, ro, rfl, hrc, hrp, -, -⟩ := H10.out.2.2.1.get oneE_len hy
            have hcy : ∀ c u, (oneE y)[c]? = some u → wz.cell? ⟨rp, ro + j * 16 + c, none⟩ = some u := fun c u hu => (hb.cell (p := ⟨rp, _, none⟩) hrp).trans (hrc c u hu)
            have q0 : wz.cell? ⟨rp, ro + j * 16, none⟩ = some (.int .i64 (y.id : Nat)) := hcy 0 _ rfl
            have q1 : wz.cell? ⟨rp, ro + j * 16 + 1, none⟩ = some (.string y.m) := hcy 1 _ rfl
            have q2 : wz.cell? ⟨rp, ro + j * 16 + 2, none⟩ = some (.bool y.d) := hcy 2 _ rfl
            have q3 : wz.cell? ⟨rp, ro + j * 16 + 3, none⟩ = some (.int .u64 y.S.x0) := hcy 3 _ rfl
            have q4 : wz.cell? ⟨rp, ro + j * 16 + 4, none⟩ = some (.int .u64 y.S.x1) := hcy 4 _ rfl
            have q5 : wz.cell? ⟨rp, ro + j * 16 + 5, none⟩ = some (.int .u64 y.S.x2) := hcy 5 _ rfl
            have q6 : wz.cell? ⟨rp, ro + j * 16 + 6, none⟩ = some (.int .u64 y.S.x3) := hcy 6 _ rfl
            have q7 : wz.cell? ⟨rp, ro + j * 16 + 7, none⟩ = some (.int .u64 y.S.x4) := hcy 7 _ rfl
            have q8 : wz.cell? ⟨rp, ro + j * 16 + 8, none⟩ = some (.int .u64 y.S.x5) := hcy 8 _ rfl
            have q9 : wz.cell? ⟨rp, ro + j * 16 + 9, none⟩ = some (.int .u64 y.S.x6) := hcy 9 _ rfl
            have q10 : wz.cell? ⟨rp, ro + j * 16 + 10, none⟩ = some (.int .u64 y.S.x7) := hcy 10 _ rfl
            have q11 : wz.cell? ⟨rp, ro + j * 16 + 11, none⟩ = some (.bool y.S.i) := hcy 11 _ rfl
            have q12 : wz.cell? ⟨rp, ro + j * 16 + 12, none⟩ = some (.int .u64 y.S.x8) := hcy 12 _ rfl
            have q13 : wz.cell? ⟨rp, ro + j * 16 + 13, none⟩ = some (.int .u64 y.S.x9) := hcy 13 _ rfl
            have q14 : wz.cell? ⟨rp, ro + j * 16 + 14, none⟩ = some (.int .u64 y.S.x10) := hcy 14 _ rfl
            have q15 : wz.cell? ⟨rp, ro + j * 16 + 15, none⟩ = some (.int .u64 y.S.x11) := hcy 15 _ rfl
            obtain ⟨W11, hW11⟩ : ∃ W11, W11 = wz.alloc (.cells #[.int .i64 (y.id : Nat), .string y.m, .bool y.d, .int .u64 y.S.x0, .int .u64 y.S.x1, .int .u64 y.S.x2, .int .u64 y.S.x3, .int .u64 y.S.x4, .int .u64 y.S.x5, .int .u64 y.S.x6, .int .u64 y.S.x7, .bool y.S.i, .int .u64 y.S.x8, .int .u64 y.S.x9, .int .u64 y.S.x10, .int .u64 y.S.x11] 56) := ⟨_, rfl⟩
            obtain ⟨Y, hY⟩ : ∃ Y, Y = wz.heap.size := ⟨_, rfl⟩
            have HW11 : Hid (W11 = wz.alloc (.cells #[.int .i64 (y.id : Nat), .string y.m, .bool y.d, .int .u64 y.S.x0, .int .u64 y.S.x1, .int .u64 y.S.x2, .int .u64 y.S.x3, .int .u64 y.S.x4, .int .u64 y.S.x5, .int .u64 y.S.x6, .int .u64 y.S.x7, .bool y.S.i, .int .u64 y.S.x8, .int .u64 y.S.x9, .int .u64 y.S.x10, .int .u64 y.S.x11] 56) ∧ Y = wz.heap.size) := ⟨hW11, hY⟩
            have hb11 : Below wz.heap.size wz W11 := by rw [hW11]; exact below_alloc0 (Below.refl _ _) _
            have hbb : Below W10.heap.size W10 W11 := hb.trans (hb11.mono hb.size)
            have HY : Hid (L[j]? = some y ∧ j < N ∧ Below W10.heap.size W10 W11 ∧ Blk W11 Y [.int .i64 (y.id : Nat), .string y.m, .bool y.d, .int .u64 y.S.x0, .int .u64 y.S.x1, .int .u64 y.S.x2, .int .u64 y.S.x3, .int .u64 y.S.x4, .int .u64 y.S.x5, .int .u64 y.S.x6, .int .u64 y.S.x7, .bool y.S.i, .int .u64 y.S.x8, .int .u64 y.S.x9, .int .u64 y.S.x10, .int .u64 y.S.x11]) := ⟨hy, hltj, hbb, by rw [hW11, hY]; exact Blk.new wz [.int .i64 (y.id : Nat), .string y.m, .bool y.d, .int .u64 y.S.x0, .int .u64 y.S.x1, .int .u64 y.S.x2, .int .u64 y.S.x3, .int .u64 y.S.x4, .int .u64 y.S.x5, .int .u64 y.S.x6, .int .u64 y.S.x7, .bool y.S.i, .int .u64 y.S.x8, .int .u64 y.S.x9, .int .u64 y.S.x10, .int .u64 y.S.x11] 56⟩
            have z0 : W11.cell? ⟨Y, 0, none⟩ = some (.int .i64 (y.id : Nat)) := HY.out.2.2.2.2.2 0 _ rfl
            have z1 : W11.cell? ⟨Y, 1, none⟩ = some (.string y.m) := HY.out.2.2.2.2.2 1 _ rfl
            have z2 : W11.cell? ⟨G, 1, none⟩ = some (.int .i64 x.id) := (H10.out.1.k.call hbb).2.2 1 _ rfl
            have z3 : W11.cell? ⟨Q, 0, none⟩ = some (.int .i64 GI) := (H10.out.2.1.call hbb).2.2 0 _ rfl
            have z4 : W11.cell? ⟨Q, 1, none⟩ = some (.string FM) := (H10.out.2.1.call hbb).2.2 1 _ rfl
            clear hj hT hb hltj hy hrc hrp hcy hW11 hY hb11 hbb HKq
            go_upto_region 26 with fail
            rw [← HW11.out.1, ← HW11.out.2]
            clear HW11 q0 q1 q2 q3 q4 q5 q6 q7 q8 q9 q10 q11 q12 q13 q14 q15
            by_cases hyi : (y.id : Int) = x.id
            · have hl : lookQ L x.id = some y := by rw [← hyi]; exact lookQ_self H10.out.1.b.q.ok.ap (List.mem_of_getElem? HY.out.1)
              have e1 : B0 = true := by rw [H10.out.2.2.2.1, hl]; rfl
              have e2 : GI = (y.id : Nat) := by rw [H10.out.2.2.2.2.1, hl]; rfl
              have e3 : FM = y.m := by rw [H10.out.2.2.2.2.2, hl]; rfl
              have yb : ((y.id : Int) == x.id) = true := by rw [hyi]; simp
              have yb2 : (y.m.toList == y.m.toList) = true := beq_self_eq_true _
              have yb3 : ((y.id : Int) == (y.id : Int)) = true := beq_self_eq_true _
              have HYI : Hid ((y.id : Int) = x.id) := hyi
              subst e1 e2 e3
              clear hyi hl
              go_wp2_with fail
              go_roundw
              case rel => exact ⟨j + 1, true, by have := HY.out.2.1; omega, by rw [look_isSome HY.out.1, decide_eq_true HYI.out, Bool.or_true], (by first | rfl | simp), by first | rfl | (congr 1), HY.out.2.2.1⟩
              case measure => simp [Go.RowKit.intOf]; omega
            · have yb : ((y.id : Int) == x.id) = false := beq_eq_false_iff_ne.2 hyi
              have HYI : Hid (¬ (y.id : Int) = x.id) := hyi
              go_wp2_with fail
              go_roundw
              case rel => exact ⟨j + 1, T, by have := HY.out.2.1; omega, by rw [look_isSome HY.out.1, decide_eq_false HYI.out, Bool.or_false]; exact HJ.out.2.1, rfl, by first | rfl | (congr 1), HY.out.2.2.1⟩
              case measure => simp [Go.RowKit.intOf]; omega
          · have hge : ¬ ((j : Int) < (N : Nat)) := by omega
            have HTB : Hid (T = B0) := by
              have e : L.take j = L := List.take_of_length_le (by rw [← H4.out.2.2.1]; omega)
              have := HJ.out.2.1
              rw [e, ← H10.out.2.2.2.1] at this
              exact this
            have HBB : Hid (BB w wz g g r (i + 1)) := ⟨L, S, R, (H10.out.1.call hb).b, HLN.out⟩
            have tb : (B0 != B0) = false := by simp
            have hTB := HTB.out
            subst hTB
            clear hj hT hb hltj HKr
            go_wp2_with fail
            refine HKq.out _ _ ?_
            clear HKq
            go_wp2_with fail
            go_roundw
            case rel => exact ⟨i + 1, by have := HX.out.1; omega, by first | rfl | (congr 1), HBB.out⟩
            case measure => simp [Go.RowKit.intOf]; omega
    · have hge : ¬ ((i : Int) < (len : Nat)) := by omega
      clear hi hlt hB
      go_wp2_with fail
      refine HKr.out _ _ ?_
      clear HKr
      go_wp2_with fail
      refine (four_any _).mono ?_
      rintro e w9 ⟨rfl, hb9⟩
      have H9 : Hid (Below g w w9) := by
        obtain ⟨L, S, R, h, _⟩ := HB0.out.1
        exact (h.call hb9).hb
      clear hb9
      go_wp2_with fail
      go_ret
      exact ⟨rfl, by rw [← HG.out]; exact H9.out⟩
set_option maxHeartbeats 1000000 in
theorem steps_far (len cl : Nat) (ad : Option Addr) (w : World) (h : 300 < len) : Calls Try.prog 3 #[.slice ad len cl] w fun e w' => e = .returned (.bool true) ∧ Below w.heap.size w w' := by
  have KN : Hid (Calls Try.prog 7 #[] w fun e w' => e = .returned (.pointer (some ⟨w.heap.size, 0, none⟩)) ∧ QI w' (From w.heap.size) w.heap.size [] ∧ Below w.heap.size w w') := qnew_in (From w.heap.size) w (fun k hk => hk)
  have l1 : (300 : Int) < (len : Nat) := by omega
  clear h
  go_enter Try.func3, Try.ntmps3
  go_wp2_with fail
  refine KN.out.mono ?_
  rintro e w1 ⟨rfl, -, hb1⟩
  have H1 : Hid (Below w.heap.size w w1) := hb1
  clear hb1
  go_wp2_with fail
  refine (four_any _).mono ?_
  rintro e w9 ⟨rfl, hb9⟩
  have H9 : Hid (Below w.heap.size w w9) := H1.out.trans (hb9.mono H1.out.size)
  clear hb9
  go_wp2_with fail
  go_ret
  exact ⟨rfl, H9.out⟩
theorem queueSteps_any (len cl : Nat) (ad : Option Addr) (w : World) (hS : StepsQ w ad len) : Calls Try.prog 3 #[.slice ad len cl] w fun e w' => e = .returned (.bool true) ∧ Below w.heap.size w w' := by
  by_cases h : len ≤ 300
  · exact steps_main len cl ad w hS h
  · exact steps_far len cl ad w (by omega)
end Go.Proofs.Ytojpddbdibkojaa
