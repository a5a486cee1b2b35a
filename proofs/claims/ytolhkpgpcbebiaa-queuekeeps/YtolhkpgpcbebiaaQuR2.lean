/- The reference's Submit. -/
import Derived.Test.YtolhkpgpcbebiaaQuR1
import Derived.Test.YtolhkpgpcbebiaaQuD
import Derived.Test.YtolhkpgpcbebiaaHeldN
namespace Go.Proofs.Ytolhkpgpcbebiaa
open Go Go.RowKit Go.Lib
theorem look_at : ∀ {L : List Qe} {i : Nat} {x : Qe} {k : Int}, L[i]? = some x → (x.id : Int) = k → lookQ (L.take i) k = none → lookQ L k = some x
  | [], _, _, _, h, _, _ => by simp at h
  | y :: L, 0, x, k, h, hk, _ => by
    simp at h
    subst h
    rw [lookQ, if_pos hk]
  | y :: L, i + 1, x, k, h, hk, hn => by
    rw [List.getElem?_cons_succ] at h
    rw [List.take_succ_cons, lookQ] at hn
    split at hn
    · cases hn
    · next c => rw [lookQ, if_neg c]; exact look_at h hk hn
theorem look_next {L : List Qe} {i : Nat} {x : Qe} {k : Int} (h : L[i]? = some x) (hk : ¬ (x.id : Int) = k) (hn : lookQ (L.take i) k = none) : lookQ (L.take (i + 1)) k = none := by
  rw [take_snoc h, lookQ_app, hn, if_neg hk]; rfl
theorem put13_RQ {w : World} {Z : Nat → Prop} {r b : Nat} {S : Sg} {L : List Qe} (h : RQ w (fun k => Z k ∧ k ≠ b) r L) : RQ (put13 w b S) Z r L :=
  (h.kept (Nat.le_of_eq (size_setCellsB b _ 0 w).symm) (fun k hk _ => heap_setCells b k hk.2 _ _ _)).mono (fun _ _ hk => hk.1)
theorem rsub_end {w w4 : World} {Z : Nat → Prop} {r F : Nat} {S : Sg} {L : List Qe} (hQ : RQ w4 (fun k => Z k ∧ k ≠ F) r L) (hO : Off Z w w4) (hF : Z F) : RQ (put13 w4 F S) Z r L ∧ Off Z w (put13 w4 F S) := ⟨put13_RQ hQ, put13_off hO hF⟩
theorem RQ.drew {w : World} {Z : Nat → Prop} {r : Nat} {L : List Qe} (h : RQ w Z r L) : RQ w.drew Z r L := h.kept (Nat.le_refl _) (fun _ _ _ => rfl)
theorem rsub_end' {w w4 : World} {Z : Nat → Prop} {r F : Nat} {S : Sg} {L : List Qe} (hQ : RQ w4 (fun k => Z k ∧ k ≠ F) r L) (hO : Off Z w w4) (hF : Z F) : RQ (put13 w4 F S).drew Z r L ∧ Off Z w (put13 w4 F S).drew := ⟨RQ.drew (put13_RQ hQ), off_drew (put13_off hO hF)⟩
theorem RQ.but {w w' : World} {Z : Nat → Prop} {r F : Nat} {L : List Qe} (h : RQ w Z r L) (hF : w.heap.size ≤ F) (hb : Below w.heap.size w w') : RQ w' (fun k => Z k ∧ k ≠ F) r L := (h.mono (Z' := fun k => Z k ∧ k ≠ F) (fun k hk hz => ⟨hz, by omega⟩)).call hb
set_option maxRecDepth 100000 in
set_option maxHeartbeats 4000000 in
theorem rsub_bad (r : Nat) (id : Int) (m : ByteArray) (Z : Nat → Prop) (L : List Qe) (w : World) (hZ : ∀ k, w.heap.size ≤ k → Z k) (hR : RQ w Z r L) (hk : ¬ okQ id m) : Calls Try.prog 10 #[.pointer (some ⟨r, 0, none⟩), .int .i64 id, .string m] w fun e w' => e = .returned (.tuple #[.int .i64 (subR L id m).1, .agg #[.int .u64 (subR L id m).2.1.x0, .int .u64 (subR L id m).2.1.x1, .int .u64 (subR L id m).2.1.x2, .int .u64 (subR L id m).2.1.x3, .int .u64 (subR L id m).2.1.x4, .int .u64 (subR L id m).2.1.x5, .int .u64 (subR L id m).2.1.x6, .int .u64 (subR L id m).2.1.x7, .bool (subR L id m).2.1.i, .int .u64 (subR L id m).2.1.x8, .int .u64 (subR L id m).2.1.x9, .int .u64 (subR L id m).2.1.x10, .int .u64 (subR L id m).2.1.x11]]) ∧ RQ w' Z r (subR L id m).2.2 ∧ Off Z w w' := by
  have hsub : subR L id m = (3, sg0, L) := by unfold subR; rw [if_neg hk]
  rw [hsub]
  have hq : id < 1 ∨ (¬ id < 1 ∧ 1099511627776 < id) ∨ (¬ id < 1 ∧ ¬ 1099511627776 < id ∧ 4096 < m.size) := by unfold okQ at hk; omega
  obtain ⟨W1, hW1⟩ : ∃ W1, W1 = w.alloc (.cells #[.int .u64 0, .int .u64 0, .int .u64 0, .int .u64 0, .int .u64 0, .int .u64 0, .int .u64 0, .int .u64 0, .bool false, .int .u64 0, .int .u64 0, .int .u64 0, .int .u64 0] 38) := ⟨_, rfl⟩
  obtain ⟨E, hE⟩ : ∃ E, E = w.heap.size := ⟨_, rfl⟩
  have HW : Hid (W1 = w.alloc (.cells #[.int .u64 0, .int .u64 0, .int .u64 0, .int .u64 0, .int .u64 0, .int .u64 0, .int .u64 0, .int .u64 0, .bool false, .int .u64 0, .int .u64 0, .int .u64 0, .int .u64 0] 38) ∧ E = w.heap.size) := ⟨hW1, hE⟩
  have hb1 : Below w.heap.size w W1 := by rw [hW1]; exact below_alloc0 (Below.refl _ _) _
  have hbx : Blk W1 E [.int .u64 0, .int .u64 0, .int .u64 0, .int .u64 0, .int .u64 0, .int .u64 0, .int .u64 0, .int .u64 0, .bool false, .int .u64 0, .int .u64 0, .int .u64 0, .int .u64 0] := by rw [hW1, hE]; exact Blk.new w [.int .u64 0, .int .u64 0, .int .u64 0, .int .u64 0, .int .u64 0, .int .u64 0, .int .u64 0, .int .u64 0, .bool false, .int .u64 0, .int .u64 0, .int .u64 0, .int .u64 0] 38
  have HT : Hid ((∀ k, w.heap.size ≤ k → Z k) ∧ RQ W1 (fun k => Z k ∧ k ≠ E) r L ∧ Off Z w W1) := ⟨hZ, hR.but (by omega) hb1, Off.of_below hb1 hZ⟩
  have f0 : W1.cell? ⟨E, 0, none⟩ = some (.int .u64 0) := hbx.2.2 0 _ rfl
  have f1 : W1.cell? ⟨E, 1, none⟩ = some (.int .u64 0) := hbx.2.2 1 _ rfl
  have f2 : W1.cell? ⟨E, 2, none⟩ = some (.int .u64 0) := hbx.2.2 2 _ rfl
  have f3 : W1.cell? ⟨E, 3, none⟩ = some (.int .u64 0) := hbx.2.2 3 _ rfl
  have f4 : W1.cell? ⟨E, 4, none⟩ = some (.int .u64 0) := hbx.2.2 4 _ rfl
  have f5 : W1.cell? ⟨E, 5, none⟩ = some (.int .u64 0) := hbx.2.2 5 _ rfl
  have f6 : W1.cell? ⟨E, 6, none⟩ = some (.int .u64 0) := hbx.2.2 6 _ rfl
  have f7 : W1.cell? ⟨E, 7, none⟩ = some (.int .u64 0) := hbx.2.2 7 _ rfl
  have f8 : W1.cell? ⟨E, 8, none⟩ = some (.bool false) := hbx.2.2 8 _ rfl
  have f9 : W1.cell? ⟨E, 9, none⟩ = some (.int .u64 0) := hbx.2.2 9 _ rfl
  have f10 : W1.cell? ⟨E, 10, none⟩ = some (.int .u64 0) := hbx.2.2 10 _ rfl
  have f11 : W1.cell? ⟨E, 11, none⟩ = some (.int .u64 0) := hbx.2.2 11 _ rfl
  have f12 : W1.cell? ⟨E, 12, none⟩ = some (.int .u64 0) := hbx.2.2 12 _ rfl
  have fz : ∀ o, W1.frozen? ⟨E, o, none⟩ = false := hbx.2.1
  clear hsub hR hk hZ hb1 hbx hW1 hE
  rcases hq with q1 | ⟨q1, q2⟩ | ⟨q1, q2, q3⟩
  · go_enter Try.func10, Try.ntmps10
    go_upto_region 1 with fail
    rw [← HW.out.1, ← HW.out.2]
    go_wp2_with fail
    refine bodyPost_ret (v := .tuple #[.int .i64 3, .agg #[.int .u64 0, .int .u64 0, .int .u64 0, .int .u64 0, .int .u64 0, .int .u64 0, .int .u64 0, .int .u64 0, .bool false, .int .u64 0, .int .u64 0, .int .u64 0, .int .u64 0]]) ?_ rfl ⟨rfl, ?_⟩
    · simp [results, Try.results10, go_sem, *]
    · exact rsub_end (S := sg0) (F := E) HT.out.2.1 HT.out.2.2 (HT.out.1 E (by have := HW.out.2; omega))
  · go_enter Try.func10, Try.ntmps10
    go_upto_region 1 with fail
    rw [← HW.out.1, ← HW.out.2]
    go_wp2_with fail
    refine bodyPost_ret (v := .tuple #[.int .i64 3, .agg #[.int .u64 0, .int .u64 0, .int .u64 0, .int .u64 0, .int .u64 0, .int .u64 0, .int .u64 0, .int .u64 0, .bool false, .int .u64 0, .int .u64 0, .int .u64 0, .int .u64 0]]) ?_ rfl ⟨rfl, ?_⟩
    · simp [results, Try.results10, go_sem, *]
    · exact rsub_end (S := sg0) (F := E) HT.out.2.1 HT.out.2.2 (HT.out.1 E (by have := HW.out.2; omega))
  · have q4 : (4096 : Int) < (m.size : Nat) := by omega
    go_enter Try.func10, Try.ntmps10
    go_upto_region 1 with fail
    rw [← HW.out.1, ← HW.out.2]
    go_wp2_with fail
    refine bodyPost_ret (v := .tuple #[.int .i64 3, .agg #[.int .u64 0, .int .u64 0, .int .u64 0, .int .u64 0, .int .u64 0, .int .u64 0, .int .u64 0, .int .u64 0, .bool false, .int .u64 0, .int .u64 0, .int .u64 0, .int .u64 0]]) ?_ rfl ⟨rfl, ?_⟩
    · simp [results, Try.results10, go_sem, *]
    · exact rsub_end (S := sg0) (F := E) HT.out.2.1 HT.out.2.2 (HT.out.1 E (by have := HW.out.2; omega))
set_option maxRecDepth 100000 in
set_option maxHeartbeats 8000000 in
theorem rsub_ok (r : Nat) (id : Int) (m : ByteArray) (Z : Nat → Prop) (L : List Qe) (w : World) (hZ : ∀ k, w.heap.size ≤ k → Z k) (hR : RQ w Z r L) (hok : QOk L) (hN : L.length < 10000) (hk : okQ id m) : Calls Try.prog 10 #[.pointer (some ⟨r, 0, none⟩), .int .i64 id, .string m] w fun e w' => e = .returned (.tuple #[.int .i64 (subR L id m).1, .agg #[.int .u64 (subR L id m).2.1.x0, .int .u64 (subR L id m).2.1.x1, .int .u64 (subR L id m).2.1.x2, .int .u64 (subR L id m).2.1.x3, .int .u64 (subR L id m).2.1.x4, .int .u64 (subR L id m).2.1.x5, .int .u64 (subR L id m).2.1.x6, .int .u64 (subR L id m).2.1.x7, .bool (subR L id m).2.1.i, .int .u64 (subR L id m).2.1.x8, .int .u64 (subR L id m).2.1.x9, .int .u64 (subR L id m).2.1.x10, .int .u64 (subR L id m).2.1.x11]]) ∧ RQ w' Z r (subR L id m).2.2 ∧ Off Z w w' := by
  obtain ⟨a, cap, c0', hrow⟩ := hR.c0
  obtain ⟨n, hn⟩ : ∃ n, n = L.length := ⟨_, rfl⟩
  rw [← hn] at c0'
  obtain ⟨W1, hW1⟩ : ∃ W1, W1 = w.alloc (.cells #[.int .u64 0, .int .u64 0, .int .u64 0, .int .u64 0, .int .u64 0, .int .u64 0, .int .u64 0, .int .u64 0, .bool false, .int .u64 0, .int .u64 0, .int .u64 0, .int .u64 0] 38) := ⟨_, rfl⟩
  obtain ⟨E, hE⟩ : ∃ E, E = w.heap.size := ⟨_, rfl⟩
  have HW : Hid (W1 = w.alloc (.cells #[.int .u64 0, .int .u64 0, .int .u64 0, .int .u64 0, .int .u64 0, .int .u64 0, .int .u64 0, .int .u64 0, .bool false, .int .u64 0, .int .u64 0, .int .u64 0, .int .u64 0] 38) ∧ E = w.heap.size) := ⟨hW1, hE⟩
  have hb1 : Below w.heap.size w W1 := by rw [hW1]; exact below_alloc0 (Below.refl _ _) _
  have hbx : Blk W1 E [.int .u64 0, .int .u64 0, .int .u64 0, .int .u64 0, .int .u64 0, .int .u64 0, .int .u64 0, .int .u64 0, .bool false, .int .u64 0, .int .u64 0, .int .u64 0, .int .u64 0] := by rw [hW1, hE]; exact Blk.new w [.int .u64 0, .int .u64 0, .int .u64 0, .int .u64 0, .int .u64 0, .int .u64 0, .int .u64 0, .int .u64 0, .bool false, .int .u64 0, .int .u64 0, .int .u64 0, .int .u64 0] 38
  have c0 : W1.cell? ⟨r, 0, none⟩ = some (.slice a n cap) := (hb1.cell (p := ⟨r, 0, none⟩) hR.rl).trans c0'
  have rl : r < W1.heap.size := Nat.lt_of_lt_of_le hR.rl hb1.size
  have n4 : (n : Int) < 10000 := by omega
  have i1 := hk.1
  have i2 := hk.2.1
  have i3 : (m.size : Int) ≤ 4096 := by have := hk.2.2; omega
  have j1 : decide (id < 1) = false := decide_eq_false (by omega)
  have j2 : decide (1099511627776 < id) = false := decide_eq_false (by omega)
  have j3 : decide ((4096 : Int) < (m.size : Nat)) = false := decide_eq_false (by omega)
  have HT : Hid ((∀ k, w.heap.size ≤ k → Z k) ∧ RQ w Z r L ∧ Off Z w W1 ∧ Below w.heap.size w W1 ∧ Blk W1 E [.int .u64 0, .int .u64 0, .int .u64 0, .int .u64 0, .int .u64 0, .int .u64 0, .int .u64 0, .int .u64 0, .bool false, .int .u64 0, .int .u64 0, .int .u64 0, .int .u64 0]) := ⟨hZ, hR, Off.of_below hb1 hZ, hb1, hbx⟩
  have HR : Hid (RQ W1 Z r L ∧ n = L.length ∧ RowX oneE 16 W1 (fun k => Z k ∧ k ≠ r) a L cap ∧ n < 10000 ∧ QOk L ∧ okQ id m) := ⟨hR.call hb1, hn, hrow.call hb1, by omega, hok, hk⟩
  clear hR hok hN hk hZ hb1 hbx hW1 hE c0' hn hrow
  go_enter Try.func10, Try.ntmps10
  go_upto_region 1 with fail
  rw [← HW.out.1, ← HW.out.2]
  go_wp2_with fail
  rename_i Kr hKr
  have HKr : Hid _ := hKr
  clear hKr
  go_loopw [27] (fun iv wr => ∃ i : Nat, i ≤ n ∧ lookQ (L.take i) id = none ∧ iv = .int .i64 (i : Nat) ∧ Below W1.heap.size W1 wr) (fun iv _ => n - (Go.RowKit.intOf iv).toNat)
  case atStart => exact ⟨0, Nat.zero_le _, rfl, rfl, Below.refl _ _⟩
  case round =>
    obtain ⟨i, hi, hno, rfl, hb⟩ := hrel
    rename World => wr
    have HI : Hid (i ≤ n ∧ lookQ (L.take i) id = none ∧ Below W1.heap.size W1 wr) := ⟨hi, hno, hb⟩
    by_cases hlt : i < n
    · skip
      have hlt' : (i : Int) < (n : Nat) := by omega
      obtain ⟨x, hx⟩ : ∃ x, L[i]? = some x := ⟨_, List.getElem?_eq_getElem (by rw [← HR.out.2.1]; exact hlt)⟩
      obtain ⟨p, o, rfl, hc, hp, -, -⟩ := HR.out.2.2.1.get oneE_len hx
      have hcr : ∀ c u, (oneE x)[c]? = some u → wr.cell? ⟨p, o + i * 16 + c, none⟩ = some u := fun c u hu => (hb.cell (p := ⟨p, _, none⟩) hp).trans (hc c u hu)
      have k0 : wr.cell? ⟨p, o + i * 16, none⟩ = some (.int .i64 (x.id : Nat)) := hcr 0 _ rfl
      have k1 : wr.cell? ⟨p, o + i * 16 + 1, none⟩ = some (.string x.m) := hcr 1 _ rfl
      have k2 : wr.cell? ⟨p, o + i * 16 + 2, none⟩ = some (.bool x.d) := hcr 2 _ rfl
      have k3 : wr.cell? ⟨p, o + i * 16 + 3, none⟩ = some (.int .u64 x.S.x0) := hcr 3 _ rfl
      have k4 : wr.cell? ⟨p, o + i * 16 + 4, none⟩ = some (.int .u64 x.S.x1) := hcr 4 _ rfl
      have k5 : wr.cell? ⟨p, o + i * 16 + 5, none⟩ = some (.int .u64 x.S.x2) := hcr 5 _ rfl
      have k6 : wr.cell? ⟨p, o + i * 16 + 6, none⟩ = some (.int .u64 x.S.x3) := hcr 6 _ rfl
      have k7 : wr.cell? ⟨p, o + i * 16 + 7, none⟩ = some (.int .u64 x.S.x4) := hcr 7 _ rfl
      have k8 : wr.cell? ⟨p, o + i * 16 + 8, none⟩ = some (.int .u64 x.S.x5) := hcr 8 _ rfl
      have k9 : wr.cell? ⟨p, o + i * 16 + 9, none⟩ = some (.int .u64 x.S.x6) := hcr 9 _ rfl
      have k10 : wr.cell? ⟨p, o + i * 16 + 10, none⟩ = some (.int .u64 x.S.x7) := hcr 10 _ rfl
      have k11 : wr.cell? ⟨p, o + i * 16 + 11, none⟩ = some (.bool x.S.i) := hcr 11 _ rfl
      have k12 : wr.cell? ⟨p, o + i * 16 + 12, none⟩ = some (.int .u64 x.S.x8) := hcr 12 _ rfl
      have k13 : wr.cell? ⟨p, o + i * 16 + 13, none⟩ = some (.int .u64 x.S.x9) := hcr 13 _ rfl
      have k14 : wr.cell? ⟨p, o + i * 16 + 14, none⟩ = some (.int .u64 x.S.x10) := hcr 14 _ rfl
      have k15 : wr.cell? ⟨p, o + i * 16 + 15, none⟩ = some (.int .u64 x.S.x11) := hcr 15 _ rfl
      obtain ⟨W2, hW2⟩ : ∃ W2, W2 = wr.alloc (.cells #[.int .i64 (x.id : Nat), .string x.m, .bool x.d, .int .u64 x.S.x0, .int .u64 x.S.x1, .int .u64 x.S.x2, .int .u64 x.S.x3, .int .u64 x.S.x4, .int .u64 x.S.x5, .int .u64 x.S.x6, .int .u64 x.S.x7, .bool x.S.i, .int .u64 x.S.x8, .int .u64 x.S.x9, .int .u64 x.S.x10, .int .u64 x.S.x11] 56) := ⟨_, rfl⟩
      obtain ⟨G, hG⟩ : ∃ G, G = wr.heap.size := ⟨_, rfl⟩
      have HW2 : Hid (W2 = wr.alloc (.cells #[.int .i64 (x.id : Nat), .string x.m, .bool x.d, .int .u64 x.S.x0, .int .u64 x.S.x1, .int .u64 x.S.x2, .int .u64 x.S.x3, .int .u64 x.S.x4, .int .u64 x.S.x5, .int .u64 x.S.x6, .int .u64 x.S.x7, .bool x.S.i, .int .u64 x.S.x8, .int .u64 x.S.x9, .int .u64 x.S.x10, .int .u64 x.S.x11] 56) ∧ G = wr.heap.size) := ⟨hW2, hG⟩
      have hb2 : Below wr.heap.size wr W2 := by rw [hW2]; exact below_alloc0 (Below.refl _ _) _
      have hbw : Below w.heap.size w W2 := (HT.out.2.2.2.1.trans (hb.mono HT.out.2.2.2.1.size)).trans (hb2.mono (Nat.le_trans HT.out.2.2.2.1.size hb.size))
      have H2 : Hid (Below W1.heap.size W1 W2 ∧ Blk W2 E [.int .u64 0, .int .u64 0, .int .u64 0, .int .u64 0, .int .u64 0, .int .u64 0, .int .u64 0, .int .u64 0, .bool false, .int .u64 0, .int .u64 0, .int .u64 0, .int .u64 0] ∧ Blk W2 G [.int .i64 (x.id : Nat), .string x.m, .bool x.d, .int .u64 x.S.x0, .int .u64 x.S.x1, .int .u64 x.S.x2, .int .u64 x.S.x3, .int .u64 x.S.x4, .int .u64 x.S.x5, .int .u64 x.S.x6, .int .u64 x.S.x7, .bool x.S.i, .int .u64 x.S.x8, .int .u64 x.S.x9, .int .u64 x.S.x10, .int .u64 x.S.x11] ∧ RQ W2 (fun k => Z k ∧ k ≠ E) r L ∧ Off Z w W2) := ⟨hb.trans (hb2.mono hb.size), (HT.out.2.2.2.2.call hb).call hb2, by rw [hW2, hG]; exact Blk.new wr [.int .i64 (x.id : Nat), .string x.m, .bool x.d, .int .u64 x.S.x0, .int .u64 x.S.x1, .int .u64 x.S.x2, .int .u64 x.S.x3, .int .u64 x.S.x4, .int .u64 x.S.x5, .int .u64 x.S.x6, .int .u64 x.S.x7, .bool x.S.i, .int .u64 x.S.x8, .int .u64 x.S.x9, .int .u64 x.S.x10, .int .u64 x.S.x11] 56, HT.out.2.1.but (by have := HW.out.2; omega) hbw, Off.of_below hbw HT.out.1⟩
      have HX : Hid (L[i]? = some x ∧ i < n) := ⟨hx, hlt⟩
      clear hb hx hc hcr hi hno hlt hp hW2 hG hb2 hbw
      go_upto_region 6 with fail
      rw [← HW2.out.1, ← HW2.out.2]
      clear HW2 k0 k1 k2 k3 k4 k5 k6 k7 k8 k9 k10 k11 k12 k13 k14 k15
      have g0 : W2.cell? ⟨G, 0, none⟩ = some (.int .i64 (x.id : Nat)) := H2.out.2.2.1.2.2 0 _ rfl
      have g1 : W2.cell? ⟨G, 1, none⟩ = some (.string x.m) := H2.out.2.2.1.2.2 1 _ rfl
      by_cases hxi : (x.id : Int) = id
      · have hxb : ((x.id : Int) == id) = true := by rw [hxi]; simp
        have HL : Hid (lookQ L id = some x) := look_at HX.out.1 hxi HI.out.2.1
        clear hxi HKr
        have f0 : W2.cell? ⟨E, 0, none⟩ = some (.int .u64 0) := H2.out.2.1.2.2 0 _ rfl
        have f1 : W2.cell? ⟨E, 1, none⟩ = some (.int .u64 0) := H2.out.2.1.2.2 1 _ rfl
        have f2 : W2.cell? ⟨E, 2, none⟩ = some (.int .u64 0) := H2.out.2.1.2.2 2 _ rfl
        have f3 : W2.cell? ⟨E, 3, none⟩ = some (.int .u64 0) := H2.out.2.1.2.2 3 _ rfl
        have f4 : W2.cell? ⟨E, 4, none⟩ = some (.int .u64 0) := H2.out.2.1.2.2 4 _ rfl
        have f5 : W2.cell? ⟨E, 5, none⟩ = some (.int .u64 0) := H2.out.2.1.2.2 5 _ rfl
        have f6 : W2.cell? ⟨E, 6, none⟩ = some (.int .u64 0) := H2.out.2.1.2.2 6 _ rfl
        have f7 : W2.cell? ⟨E, 7, none⟩ = some (.int .u64 0) := H2.out.2.1.2.2 7 _ rfl
        have f8 : W2.cell? ⟨E, 8, none⟩ = some (.bool false) := H2.out.2.1.2.2 8 _ rfl
        have f9 : W2.cell? ⟨E, 9, none⟩ = some (.int .u64 0) := H2.out.2.1.2.2 9 _ rfl
        have f10 : W2.cell? ⟨E, 10, none⟩ = some (.int .u64 0) := H2.out.2.1.2.2 10 _ rfl
        have f11 : W2.cell? ⟨E, 11, none⟩ = some (.int .u64 0) := H2.out.2.1.2.2 11 _ rfl
        have f12 : W2.cell? ⟨E, 12, none⟩ = some (.int .u64 0) := H2.out.2.1.2.2 12 _ rfl
        have fz : ∀ o, W2.frozen? ⟨E, o, none⟩ = false := H2.out.2.1.2.1
        by_cases hxm : x.m = m
        · have hmb : (x.m.toList == m.toList) = true := by rw [hxm]; exact beq_self_eq_true _
          have hsub : subR L id m = (qa x.d, x.S, L) := by unfold subR; rw [if_pos HR.out.2.2.2.2.2, HL.out]; simp only [if_pos hxm]
          have HSub : Hid (_ = _) := hsub
          clear hsub hxm
          have g2 : W2.cell? ⟨G, 2, none⟩ = some (.bool x.d) := H2.out.2.2.1.2.2 2 _ rfl
          obtain ⟨D, hD⟩ : ∃ D, D = x.d := ⟨_, rfl⟩
          rw [← hD] at g2 H2 HSub
          cases D with
          | true =>
            clear hD
            go_wp2_with fail
            refine wp_region_N (fun w' => Blk w' G [.int .i64 (x.id : Nat), .string x.m, .bool true, .int .u64 x.S.x0, .int .u64 x.S.x1, .int .u64 x.S.x2, .int .u64 x.S.x3, .int .u64 x.S.x4, .int .u64 x.S.x5, .int .u64 x.S.x6, .int .u64 x.S.x7, .bool x.S.i, .int .u64 x.S.x8, .int .u64 x.S.x9, .int .u64 x.S.x10, .int .u64 x.S.x11]) 3 4 rfl (by kernel_rfl) ?_
            refine wpAnyN_take (i := 0) (oi := ?o0) (v := ?v0) ?hi0 (by kernel_rfl) (by kernel_rfl) (by kernel_rfl) (by kernel_rfl) (by decide) (by kernel_rfl) ?hQ0 ?hy0 H2.out.2.2.1 ?more0
            case hi0 => rw [List.getElem?_toArray]; exact rfl
            case hQ0 => exact fun _ _ _ h => h
            case hy0 =>
              refine Or.inl ⟨by rfl, ?_⟩
              intro w' hSw
              have l3 : w'.cell? ⟨G, 3, none⟩ = some (.int .u64 x.S.x0) := hSw.2.2 3 _ rfl
              have l4 : w'.cell? ⟨G, 4, none⟩ = some (.int .u64 x.S.x1) := hSw.2.2 4 _ rfl
              have l5 : w'.cell? ⟨G, 5, none⟩ = some (.int .u64 x.S.x2) := hSw.2.2 5 _ rfl
              have l6 : w'.cell? ⟨G, 6, none⟩ = some (.int .u64 x.S.x3) := hSw.2.2 6 _ rfl
              have l7 : w'.cell? ⟨G, 7, none⟩ = some (.int .u64 x.S.x4) := hSw.2.2 7 _ rfl
              have l8 : w'.cell? ⟨G, 8, none⟩ = some (.int .u64 x.S.x5) := hSw.2.2 8 _ rfl
              have l9 : w'.cell? ⟨G, 9, none⟩ = some (.int .u64 x.S.x6) := hSw.2.2 9 _ rfl
              have l10 : w'.cell? ⟨G, 10, none⟩ = some (.int .u64 x.S.x7) := hSw.2.2 10 _ rfl
              have l11 : w'.cell? ⟨G, 11, none⟩ = some (.bool x.S.i) := hSw.2.2 11 _ rfl
              have l12 : w'.cell? ⟨G, 12, none⟩ = some (.int .u64 x.S.x8) := hSw.2.2 12 _ rfl
              have l13 : w'.cell? ⟨G, 13, none⟩ = some (.int .u64 x.S.x9) := hSw.2.2 13 _ rfl
              have l14 : w'.cell? ⟨G, 14, none⟩ = some (.int .u64 x.S.x10) := hSw.2.2 14 _ rfl
              have l15 : w'.cell? ⟨G, 15, none⟩ = some (.int .u64 x.S.x11) := hSw.2.2 15 _ rfl
              clear hSw
              go_simp
              try with_reducible rfl
            simp only [Act.put, List.setIfInBounds_toArray, List.set_cons_zero, List.set_cons_succ]
            refine wpAnyN_take (i := 1) (oi := ?o1) (v := ?v1) ?hi1 (by kernel_rfl) (by kernel_rfl) (by kernel_rfl) (by kernel_rfl) (by decide) (by kernel_rfl) ?hQ1 ?hy1 H2.out.2.2.1 ?more1
            case hi1 => rw [List.getElem?_toArray]; exact rfl
            case hQ1 => exact fun _ _ _ h => h
            case hy1 =>
              refine Or.inl ⟨by rfl, ?_⟩
              intro w' hSw
              have l3 : w'.cell? ⟨G, 3, none⟩ = some (.int .u64 x.S.x0) := hSw.2.2 3 _ rfl
              have l4 : w'.cell? ⟨G, 4, none⟩ = some (.int .u64 x.S.x1) := hSw.2.2 4 _ rfl
              have l5 : w'.cell? ⟨G, 5, none⟩ = some (.int .u64 x.S.x2) := hSw.2.2 5 _ rfl
              have l6 : w'.cell? ⟨G, 6, none⟩ = some (.int .u64 x.S.x3) := hSw.2.2 6 _ rfl
              have l7 : w'.cell? ⟨G, 7, none⟩ = some (.int .u64 x.S.x4) := hSw.2.2 7 _ rfl
              have l8 : w'.cell? ⟨G, 8, none⟩ = some (.int .u64 x.S.x5) := hSw.2.2 8 _ rfl
              have l9 : w'.cell? ⟨G, 9, none⟩ = some (.int .u64 x.S.x6) := hSw.2.2 9 _ rfl
              have l10 : w'.cell? ⟨G, 10, none⟩ = some (.int .u64 x.S.x7) := hSw.2.2 10 _ rfl
              have l11 : w'.cell? ⟨G, 11, none⟩ = some (.bool x.S.i) := hSw.2.2 11 _ rfl
              have l12 : w'.cell? ⟨G, 12, none⟩ = some (.int .u64 x.S.x8) := hSw.2.2 12 _ rfl
              have l13 : w'.cell? ⟨G, 13, none⟩ = some (.int .u64 x.S.x9) := hSw.2.2 13 _ rfl
              have l14 : w'.cell? ⟨G, 14, none⟩ = some (.int .u64 x.S.x10) := hSw.2.2 14 _ rfl
              have l15 : w'.cell? ⟨G, 15, none⟩ = some (.int .u64 x.S.x11) := hSw.2.2 15 _ rfl
              clear hSw
              go_simp
              try with_reducible rfl
            simp only [Act.put, List.setIfInBounds_toArray, List.set_cons_zero, List.set_cons_succ]
            refine wpAnyN_take (i := 2) (oi := ?o2) (v := ?v2) ?hi2 (by kernel_rfl) (by kernel_rfl) (by kernel_rfl) (by kernel_rfl) (by decide) (by kernel_rfl) ?hQ2 ?hy2 H2.out.2.2.1 ?more2
            case hi2 => rw [List.getElem?_toArray]; exact rfl
            case hQ2 => exact fun _ _ _ h => h
            case hy2 =>
              refine Or.inl ⟨by rfl, ?_⟩
              intro w' hSw
              have l3 : w'.cell? ⟨G, 3, none⟩ = some (.int .u64 x.S.x0) := hSw.2.2 3 _ rfl
              have l4 : w'.cell? ⟨G, 4, none⟩ = some (.int .u64 x.S.x1) := hSw.2.2 4 _ rfl
              have l5 : w'.cell? ⟨G, 5, none⟩ = some (.int .u64 x.S.x2) := hSw.2.2 5 _ rfl
              have l6 : w'.cell? ⟨G, 6, none⟩ = some (.int .u64 x.S.x3) := hSw.2.2 6 _ rfl
              have l7 : w'.cell? ⟨G, 7, none⟩ = some (.int .u64 x.S.x4) := hSw.2.2 7 _ rfl
              have l8 : w'.cell? ⟨G, 8, none⟩ = some (.int .u64 x.S.x5) := hSw.2.2 8 _ rfl
              have l9 : w'.cell? ⟨G, 9, none⟩ = some (.int .u64 x.S.x6) := hSw.2.2 9 _ rfl
              have l10 : w'.cell? ⟨G, 10, none⟩ = some (.int .u64 x.S.x7) := hSw.2.2 10 _ rfl
              have l11 : w'.cell? ⟨G, 11, none⟩ = some (.bool x.S.i) := hSw.2.2 11 _ rfl
              have l12 : w'.cell? ⟨G, 12, none⟩ = some (.int .u64 x.S.x8) := hSw.2.2 12 _ rfl
              have l13 : w'.cell? ⟨G, 13, none⟩ = some (.int .u64 x.S.x9) := hSw.2.2 13 _ rfl
              have l14 : w'.cell? ⟨G, 14, none⟩ = some (.int .u64 x.S.x10) := hSw.2.2 14 _ rfl
              have l15 : w'.cell? ⟨G, 15, none⟩ = some (.int .u64 x.S.x11) := hSw.2.2 15 _ rfl
              clear hSw
              go_simp
              try with_reducible rfl
            simp only [Act.put, List.setIfInBounds_toArray, List.set_cons_zero, List.set_cons_succ]
            refine wpAnyN_one (i := 3) (o := ?o3) (by kernel_rfl) ?hi3 ?hw3 ?st3
            case hi3 => rw [List.getElem?_toArray]; exact rfl
            case hw3 => exact rfl
            intro K hK
            have HK3 : Hid _ := hK
            clear hK
            go_simp
            refine HK3.out _ _ ⟨fun h => absurd h (by decide +kernel), ?_⟩
            clear HK3 K
            try simp only [Act.put, List.setIfInBounds_toArray, List.set_cons_zero, List.set_cons_succ]
            refine wpAnyN_done (by kernel_rfl) ?_ _
            go_wp2_with fail
            refine bodyPost_ret (v := .tuple #[.int .i64 4, .agg #[.int .u64 x.S.x0, .int .u64 x.S.x1, .int .u64 x.S.x2, .int .u64 x.S.x3, .int .u64 x.S.x4, .int .u64 x.S.x5, .int .u64 x.S.x6, .int .u64 x.S.x7, .bool x.S.i, .int .u64 x.S.x8, .int .u64 x.S.x9, .int .u64 x.S.x10, .int .u64 x.S.x11]]) ?_ rfl ⟨?_, ?_⟩
            · simp [results, Try.results10, go_sem, *]
            · rw [HSub.out]; rfl
            · rw [HSub.out]; exact rsub_end' (S := x.S) (F := E) H2.out.2.2.2.1 H2.out.2.2.2.2 (HT.out.1 E (by have := HW.out.2; omega))
          | false =>
            have hz : x.S = sg0 := HR.out.2.2.2.2.1.z x (lookQ_mem HL.out).1 hD.symm
            rw [hz] at H2 HSub
            clear hD hz
            go_wp2_with fail
            refine bodyPost_ret (v := .tuple #[.int .i64 1, .agg #[.int .u64 0, .int .u64 0, .int .u64 0, .int .u64 0, .int .u64 0, .int .u64 0, .int .u64 0, .int .u64 0, .bool false, .int .u64 0, .int .u64 0, .int .u64 0, .int .u64 0]]) ?_ rfl ⟨?_, ?_⟩
            · simp [results, Try.results10, go_sem, *]
            · rw [HSub.out]; rfl
            · rw [HSub.out]; exact rsub_end (S := sg0) (F := E) H2.out.2.2.2.1 H2.out.2.2.2.2 (HT.out.1 E (by have := HW.out.2; omega))
        · have hmb : (x.m.toList == m.toList) = false := str_ne hxm
          have hsub : subR L id m = (3, sg0, L) := by unfold subR; rw [if_pos HR.out.2.2.2.2.2, HL.out]; simp only [if_neg hxm]
          have HSub : Hid (_ = _) := hsub
          clear hsub hxm
          go_wp2_with fail
          refine bodyPost_ret (v := .tuple #[.int .i64 3, .agg #[.int .u64 0, .int .u64 0, .int .u64 0, .int .u64 0, .int .u64 0, .int .u64 0, .int .u64 0, .int .u64 0, .bool false, .int .u64 0, .int .u64 0, .int .u64 0, .int .u64 0]]) ?_ rfl ⟨?_, ?_⟩
          · simp [results, Try.results10, go_sem, *]
          · rw [HSub.out]; rfl
          · rw [HSub.out]; exact rsub_end (S := sg0) (F := E) H2.out.2.2.2.1 H2.out.2.2.2.2 (HT.out.1 E (by have := HW.out.2; omega))
      · have hxb : ((x.id : Int) == id) = false := beq_eq_false_iff_ne.2 hxi
        have HXI : Hid (¬ (x.id : Int) = id) := hxi
        clear HKr
        go_wp2_with fail
        go_roundw
        case rel => exact ⟨i + 1, by have := HX.out.2; omega, look_next HX.out.1 HXI.out HI.out.2.1, by first | rfl | (congr 1), H2.out.1⟩
        case measure => simp [Go.RowKit.intOf]; omega
    · have hge : ¬ ((i : Int) < (n : Nat)) := by omega
      have HL : Hid (lookQ L id = none) := by
        have e : L.take i = L := List.take_of_length_le (by rw [← HR.out.2.1]; omega)
        have := hno
        rw [e] at this
        exact this
      obtain ⟨N, hNN⟩ : ∃ N, N = (waitQ L).length := ⟨_, rfl⟩
      have HN : Hid (N = (waitQ L).length) := hNN
      have N4 : (N : Int) < 10000 := by have := waitQ_len L; have := HR.out.2.1; have := HR.out.2.2.2.1; omega
      have HBB : Hid (Below W1.heap.size W1 wr) := hb
      clear hi hlt hno hNN hb
      go_wp2_with fail
      refine HKr.out _ _ ?_
      clear HKr
      go_wp2_with fail
      refine (waits_in r Z L wr (HR.out.1.call HBB.out) (by have := HR.out.2.2.2.1; have := HR.out.2.1; omega) N HN.out).mono ?_
      rintro e w5 ⟨rfl, hb5⟩
      have hb := HBB.out
      have hbw : Below w.heap.size w w5 := (HT.out.2.2.2.1.trans (hb.mono HT.out.2.2.2.1.size)).trans (hb5.mono (Nat.le_trans HT.out.2.2.2.1.size hb.size))
      have H5 : Hid (Blk w5 E [.int .u64 0, .int .u64 0, .int .u64 0, .int .u64 0, .int .u64 0, .int .u64 0, .int .u64 0, .int .u64 0, .bool false, .int .u64 0, .int .u64 0, .int .u64 0, .int .u64 0] ∧ RQ w5 (fun k => Z k ∧ k ≠ E) r L ∧ Off Z w w5 ∧ Below w.heap.size w w5) := ⟨(HT.out.2.2.2.2.call hb).call hb5, HT.out.2.1.but (by have := HW.out.2; omega) hbw, Off.of_below hbw HT.out.1, hbw⟩
      have d0 : w5.cell? ⟨r, 0, none⟩ = some (.slice a n cap) := (hb5.cell (p := ⟨r, 0, none⟩) (Nat.lt_of_lt_of_le rl hb.size)).trans ((hb.cell (p := ⟨r, 0, none⟩) rl).trans c0)
      clear hb hb5 hbw c0
      by_cases h8 : 8 ≤ N
      · have h8' : (8 : Int) ≤ (N : Nat) := by omega
        have hsub : subR L id m = (2, sg0, L) := by unfold subR; rw [if_pos HR.out.2.2.2.2.2, HL.out]; simp only [if_pos (show 8 ≤ (waitQ L).length by rw [← HN.out]; exact h8)]
        have HSub : Hid (_ = _) := hsub
        clear hsub h8
        have f0 : w5.cell? ⟨E, 0, none⟩ = some (.int .u64 0) := H5.out.1.2.2 0 _ rfl
        have f1 : w5.cell? ⟨E, 1, none⟩ = some (.int .u64 0) := H5.out.1.2.2 1 _ rfl
        have f2 : w5.cell? ⟨E, 2, none⟩ = some (.int .u64 0) := H5.out.1.2.2 2 _ rfl
        have f3 : w5.cell? ⟨E, 3, none⟩ = some (.int .u64 0) := H5.out.1.2.2 3 _ rfl
        have f4 : w5.cell? ⟨E, 4, none⟩ = some (.int .u64 0) := H5.out.1.2.2 4 _ rfl
        have f5 : w5.cell? ⟨E, 5, none⟩ = some (.int .u64 0) := H5.out.1.2.2 5 _ rfl
        have f6 : w5.cell? ⟨E, 6, none⟩ = some (.int .u64 0) := H5.out.1.2.2 6 _ rfl
        have f7 : w5.cell? ⟨E, 7, none⟩ = some (.int .u64 0) := H5.out.1.2.2 7 _ rfl
        have f8 : w5.cell? ⟨E, 8, none⟩ = some (.bool false) := H5.out.1.2.2 8 _ rfl
        have f9 : w5.cell? ⟨E, 9, none⟩ = some (.int .u64 0) := H5.out.1.2.2 9 _ rfl
        have f10 : w5.cell? ⟨E, 10, none⟩ = some (.int .u64 0) := H5.out.1.2.2 10 _ rfl
        have f11 : w5.cell? ⟨E, 11, none⟩ = some (.int .u64 0) := H5.out.1.2.2 11 _ rfl
        have f12 : w5.cell? ⟨E, 12, none⟩ = some (.int .u64 0) := H5.out.1.2.2 12 _ rfl
        have fz : ∀ o, w5.frozen? ⟨E, o, none⟩ = false := H5.out.1.2.1
        go_wp2_with fail
        refine bodyPost_ret (v := .tuple #[.int .i64 2, .agg #[.int .u64 0, .int .u64 0, .int .u64 0, .int .u64 0, .int .u64 0, .int .u64 0, .int .u64 0, .int .u64 0, .bool false, .int .u64 0, .int .u64 0, .int .u64 0, .int .u64 0]]) ?_ rfl ⟨?_, ?_⟩
        · simp [results, Try.results10, go_sem, *]
        · rw [HSub.out]; rfl
        · rw [HSub.out]; exact rsub_end (S := sg0) (F := E) H5.out.2.1 H5.out.2.2.1 (HT.out.1 E (by have := HW.out.2; omega))
      · have h8' : ¬ ((8 : Int) ≤ (N : Nat)) := by omega
        obtain ⟨k, hk⟩ : ∃ k : Nat, id = (k : Nat) := ⟨id.toNat, by omega⟩
        have hsub : subR L id m = (1, sg0, L ++ [(⟨k, m, false, sg0⟩ : Qe)]) := by
          unfold subR
          rw [if_pos HR.out.2.2.2.2.2, HL.out]
          simp only [if_neg (show ¬ 8 ≤ (waitQ L).length by rw [← HN.out]; exact h8)]
          rw [hk]; rfl
        have HSub : Hid (_ = _) := hsub
        clear hsub h8
        have h0 : RowX oneE 16 w (fun j => (Z j ∧ j ≠ r) ∧ j ≠ E) a L cap := by
          obtain ⟨a2, cap2, q0, q1⟩ := HT.out.2.1.c0
          have e := (H5.out.2.2.2.cell (p := ⟨r, 0, none⟩) HT.out.2.1.rl).symm.trans d0
          rw [q0] at e
          injection e with e
          injection e with e1 e2 e3
          subst e1 e3
          exact q1.mono (fun j hj hz => ⟨hz, by have := HW.out.2; omega⟩)
        have hb5a : Below w5.heap.size w5 (w5.alloc (.cells #[.int .i64 id, .string m, .bool false, .int .u64 0, .int .u64 0, .int .u64 0, .int .u64 0, .int .u64 0, .int .u64 0, .int .u64 0, .int .u64 0, .bool false, .int .u64 0, .int .u64 0, .int .u64 0, .int .u64 0] 56)) := below_alloc0 (Below.refl _ _) _
        have hrow2 : RowX oneE 16 (w5.alloc (.cells #[.int .i64 id, .string m, .bool false, .int .u64 0, .int .u64 0, .int .u64 0, .int .u64 0, .int .u64 0, .int .u64 0, .int .u64 0, .int .u64 0, .bool false, .int .u64 0, .int .u64 0, .int .u64 0, .int .u64 0] 56)) (fun j => (Z j ∧ j ≠ r) ∧ j ≠ E) a L cap := ((h0.kept H5.out.2.2.2.size (fun j _ hl => H5.out.2.2.2.block j hl))).call hb5a
        obtain ⟨a', cap', w9, happ, hR9, hO9⟩ := run_append_RowX (ty := 27) (w5.alloc (.cells #[.int .i64 id, .string m, .bool false, .int .u64 0, .int .u64 0, .int .u64 0, .int .u64 0, .int .u64 0, .int .u64 0, .int .u64 0, .int .u64 0, .bool false, .int .u64 0, .int .u64 0, .int .u64 0, .int .u64 0] 56)) (fun j => (Z j ∧ j ≠ r) ∧ j ≠ E) infoO oneE_len oneE_one (by decide) a cap n L (⟨k, m, false, sg0⟩ : Qe) HR.out.2.1 hrow2 (by have := HR.out.2.2.2.1; omega) (by decide) (fun j hj => by
          have h1 : (w5.alloc (.cells #[.int .i64 id, .string m, .bool false, .int .u64 0, .int .u64 0, .int .u64 0, .int .u64 0, .int .u64 0, .int .u64 0, .int .u64 0, .int .u64 0, .bool false, .int .u64 0, .int .u64 0, .int .u64 0, .int .u64 0] 56)).heap.size = w5.heap.size + 1 := by simp
          have h2 := H5.out.2.1.rl
          have h3 := H5.out.1.1
          have h4 := H5.out.2.2.2.size
          exact ⟨⟨HT.out.1 j (by omega), by omega⟩, by omega⟩) ⟨w5.heap.size, 0, none⟩ 1 (fun j u hj => by
          rw [Addr.add_lit, Nat.zero_add, World.cell?_alloc_new, List.getElem?_toArray, hk]; exact hj)
        obtain ⟨n1, hn1⟩ : ∃ n1, n1 = n + 1 := ⟨_, rfl⟩
        rw [← hn1] at happ
        have kr : w9.heap[r]? = w5.heap[r]? := (hO9.block r (fun c => c.1.2 rfl)).trans (hb5a.block r H5.out.2.1.rl)
        have e0 : w9.cell? ⟨r, 0, none⟩ = some (.slice a n cap) := (World.cell?_of_block (w := w5) (a := ⟨r, 0, none⟩) kr).trans d0
        have er : w9.frozen? ⟨r, 0, none⟩ = false := (World.frozen?_of_block (w := w5) (a := ⟨r, 0, none⟩) kr).trans (H5.out.2.1.fr 0)
        obtain ⟨V, hV⟩ : ∃ V, V = w9.setCell ⟨r, 0, none⟩ (.slice a' n1 cap') := ⟨_, rfl⟩
        have hVz : V.heap.size = w9.heap.size := by rw [hV]; exact World.size_setCell ..
        have kV : ∀ b, b ≠ r → V.heap[b]? = w9.heap[b]? := fun b hb => by rw [hV]; exact Below.heap_setCell _ _ _ _ hb
        have hz9 : w5.heap.size ≤ w9.heap.size := Nat.le_trans hb5a.size hO9.size
        have HV : Hid (V = w9.setCell ⟨r, 0, none⟩ (.slice a' n1 cap') ∧ Blk V E [.int .u64 0, .int .u64 0, .int .u64 0, .int .u64 0, .int .u64 0, .int .u64 0, .int .u64 0, .int .u64 0, .bool false, .int .u64 0, .int .u64 0, .int .u64 0, .int .u64 0] ∧ RQ V (fun j => Z j ∧ j ≠ E) r (L ++ [(⟨k, m, false, sg0⟩ : Qe)]) ∧ Off Z w V) := by
          have hEr : E ≠ r := by have := HT.out.2.1.rl; have := HW.out.2; omega
          refine ⟨hV, (H5.out.1.block hz9 ((hO9.block E (fun c => c.2 rfl)).trans (hb5a.block E H5.out.1.1))).block (Nat.le_of_eq hVz.symm) (kV E hEr), ⟨⟨H5.out.2.1.zr.1, H5.out.2.1.zr.2⟩, by rw [hVz]; exact Nat.lt_of_lt_of_le H5.out.2.1.rl hz9, fun o => by rw [hV, World.frozen?_setCell]; exact (World.frozen?_of_block (w := w5) (a := ⟨r, o, none⟩) kr).trans (H5.out.2.1.fr o), a', cap', ?_, ?_⟩, ⟨?_, ?_, ?_, ?_, fun b hb => ?_⟩⟩
          · rw [hV, World.cell?_setCell_same _ _ _ e0, List.length_append, hn1, HR.out.2.1]; rfl
          · exact (hR9.kept (Nat.le_of_eq hVz.symm) (fun j hj _ => kV j hj.1.2)).mono (fun j _ hj => ⟨⟨hj.1.1, hj.2⟩, hj.1.2⟩)
          · rw [hV]; exact hO9.os.trans (hb5a.os.trans H5.out.2.2.1.os)
          · rw [hV]; exact hO9.tape.trans (hb5a.tape.trans H5.out.2.2.1.tape)
          · rw [hV]; exact hO9.output.trans (hb5a.output.trans H5.out.2.2.1.output)
          · rw [hVz]; exact Nat.le_trans H5.out.2.2.1.size hz9
          · by_cases q : b < w5.heap.size
            · exact (((kV b (fun c => hb (by rw [c]; exact H5.out.2.1.zr.1))).trans (hO9.block b (fun c => hb c.1.1))).trans (hb5a.block b q)).trans (H5.out.2.2.1.block b hb)
            · exact absurd (HT.out.1 b (by have := H5.out.2.2.1.size; omega)) hb
        clear h0 hrow2 hR9 hO9 kr hb5a hVz kV hz9 hV hn1 hk
        go_upto_region 16 with (at_builtin; refine wpList_append_run rfl _ _ 27 rfl rfl rfl happ ?_)
        rw [← HV.out.1]
        clear e0 er d0 happ
        have f0 : V.cell? ⟨E, 0, none⟩ = some (.int .u64 0) := HV.out.2.1.2.2 0 _ rfl
        have f1 : V.cell? ⟨E, 1, none⟩ = some (.int .u64 0) := HV.out.2.1.2.2 1 _ rfl
        have f2 : V.cell? ⟨E, 2, none⟩ = some (.int .u64 0) := HV.out.2.1.2.2 2 _ rfl
        have f3 : V.cell? ⟨E, 3, none⟩ = some (.int .u64 0) := HV.out.2.1.2.2 3 _ rfl
        have f4 : V.cell? ⟨E, 4, none⟩ = some (.int .u64 0) := HV.out.2.1.2.2 4 _ rfl
        have f5 : V.cell? ⟨E, 5, none⟩ = some (.int .u64 0) := HV.out.2.1.2.2 5 _ rfl
        have f6 : V.cell? ⟨E, 6, none⟩ = some (.int .u64 0) := HV.out.2.1.2.2 6 _ rfl
        have f7 : V.cell? ⟨E, 7, none⟩ = some (.int .u64 0) := HV.out.2.1.2.2 7 _ rfl
        have f8 : V.cell? ⟨E, 8, none⟩ = some (.bool false) := HV.out.2.1.2.2 8 _ rfl
        have f9 : V.cell? ⟨E, 9, none⟩ = some (.int .u64 0) := HV.out.2.1.2.2 9 _ rfl
        have f10 : V.cell? ⟨E, 10, none⟩ = some (.int .u64 0) := HV.out.2.1.2.2 10 _ rfl
        have f11 : V.cell? ⟨E, 11, none⟩ = some (.int .u64 0) := HV.out.2.1.2.2 11 _ rfl
        have f12 : V.cell? ⟨E, 12, none⟩ = some (.int .u64 0) := HV.out.2.1.2.2 12 _ rfl
        have fz : ∀ o, V.frozen? ⟨E, o, none⟩ = false := HV.out.2.1.2.1
        go_wp2_with fail
        refine bodyPost_ret (v := .tuple #[.int .i64 1, .agg #[.int .u64 0, .int .u64 0, .int .u64 0, .int .u64 0, .int .u64 0, .int .u64 0, .int .u64 0, .int .u64 0, .bool false, .int .u64 0, .int .u64 0, .int .u64 0, .int .u64 0]]) ?_ rfl ⟨?_, ?_⟩
        · simp [results, Try.results10, go_sem, *]
        · rw [HSub.out]; rfl
        · rw [HSub.out]; exact rsub_end (S := sg0) (F := E) HV.out.2.2.1 HV.out.2.2.2 (HT.out.1 E (by have := HW.out.2; omega))
theorem rsubmit_any (r : Nat) (id : Int) (m : ByteArray) (Z : Nat → Prop) (L : List Qe) (w : World) (hZ : ∀ k, w.heap.size ≤ k → Z k) (hR : RQ w Z r L) (hok : QOk L) (hN : L.length < 10000) : Calls Try.prog 10 #[.pointer (some ⟨r, 0, none⟩), .int .i64 id, .string m] w fun e w' => e = .returned (.tuple #[.int .i64 (subR L id m).1, .agg #[.int .u64 (subR L id m).2.1.x0, .int .u64 (subR L id m).2.1.x1, .int .u64 (subR L id m).2.1.x2, .int .u64 (subR L id m).2.1.x3, .int .u64 (subR L id m).2.1.x4, .int .u64 (subR L id m).2.1.x5, .int .u64 (subR L id m).2.1.x6, .int .u64 (subR L id m).2.1.x7, .bool (subR L id m).2.1.i, .int .u64 (subR L id m).2.1.x8, .int .u64 (subR L id m).2.1.x9, .int .u64 (subR L id m).2.1.x10, .int .u64 (subR L id m).2.1.x11]]) ∧ RQ w' Z r (subR L id m).2.2 ∧ Off Z w w' := by
  by_cases hk : okQ id m
  · exact rsub_ok r id m Z L w hZ hR hok hN hk
  · exact rsub_bad r id m Z L w hZ hR hk
end Go.Proofs.Ytolhkpgpcbebiaa
