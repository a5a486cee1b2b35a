/- Package queue: Finish. -/
import Derived.Test.YtolhkpgpcbebiaaQuE1
import Derived.Test.YtolhkpgpcbebiaaQuD
import Derived.Test.YtolhkpgpcbebiaaHeldN
namespace Go.Proofs.Ytolhkpgpcbebiaa
open Go Go.RowKit Go.Lib
theorem QI.toQM {w : World} {Z : Nat → Prop} {g : Nat} {L : List Qe} (h : QI w Z g L) (hL : L ≠ []) : ∃ B a n cap, QM w Z g B a n cap L := by
  obtain ⟨mB, a, cap, h0, h1, h2, h3, h4⟩ := h.body
  cases mB with
  | none => exact absurd (h2 rfl) hL
  | some B =>
    obtain ⟨r1, r2, r3⟩ := h3 B rfl
    exact ⟨B, a, _, cap, h.ok, h.zg, h.gl, h.fg, h0, h1, rfl, r1, r2, r3, h4.mono (fun k _ hk => ⟨hk.1, hk.2.1, fun c => hk.2.2 (by rw [c])⟩)⟩
theorem idsQ_at {L : List Qe} {k : Int} {x : Qe} (hok : QOk L) (hl : lookQ L k = some x) (hd : x.d = false) : ∃ i, (idsQ L)[i]? = some k ∧ (∀ j y, j < i → (idsQ L)[j]? = some y → y ≠ k) ∧ ∀ s, idsQ (doneQ k s L) = (idsQ L).take i ++ (idsQ L).drop (i + 1) := by
  obtain ⟨i, h1, h2, h3⟩ := wait_at hok.ap hl hd
  refine ⟨i, ?_, fun j y hj hy => ?_, fun s => ?_⟩
  · unfold idsQ; rw [List.getElem?_map, h1, Option.map_some, (lookQ_mem hl).2]
  · unfold idsQ at hy
    rw [List.getElem?_map] at hy
    cases e : (waitQ L)[j]? with
    | none => rw [e] at hy; cases hy
    | some z =>
      rw [e] at hy
      rw [← Option.some.inj hy]
      exact h2 j z hj e
  · unfold idsQ; rw [h3 s, List.map_append, List.map_take, List.map_drop]
theorem fin_end {w5 w7 : World} {Z : Nat → Prop} {g B n cap b o i : Nat} {L L' : List Qe} (hn : n = (idsQ L).length) (hi : i < n) (h' : idsQ L' = (idsQ L).take i ++ (idsQ L).drop (i + 1)) (ok : QOk L') (zg : Z g) (zB : Z B) (gB : B ≠ g) (gl : g < w5.heap.size) (hM : MapV w5 B L'.length (fun t => (lookQ L' t).map entV)) (hb : Z b ∧ b ≠ g ∧ b ≠ B)
    (c0 : w5.cell? ⟨g, 0, none⟩ = some (.map (some B))) {v : Value} (c1 : w5.cell? ⟨g, 1, none⟩ = some v) (fg : ∀ o, w5.frozen? ⟨g, o, none⟩ = false) (hR : RowX iE 1 w7 (fun k => Z k ∧ k ≠ g ∧ k ≠ B) (some ⟨b, o, none⟩) ((idsQ L).take i ++ (idsQ L).drop (i + 1)) cap) (hO : Off (fun k => k = b) w5 w7) :
    QI (w7.setCell ⟨g, 1, none⟩ (.slice (some ⟨b, o, none⟩) (n - 1) cap)) Z g L' ∧ Off Z w5 (w7.setCell ⟨g, 1, none⟩ (.slice (some ⟨b, o, none⟩) (n - 1) cap)) ∧ w7.cell? ⟨g, 1, none⟩ = some v ∧ w7.frozen? ⟨g, 1, none⟩ = false := by
  have kg : w7.heap[g]? = w5.heap[g]? := hO.block g (fun c => hb.2.1 c.symm)
  have kB : w7.heap[B]? = w5.heap[B]? := hO.block B (fun c => hb.2.2 c.symm)
  have g1 : w7.cell? ⟨g, 1, none⟩ = some v := (World.cell?_of_block (w := w5) (a := ⟨g, 1, none⟩) kg).trans c1
  have hl : n - 1 = (idsQ L').length := by rw [h', List.length_append, List.length_take, List.length_drop]; omega
  have q : QM (w7.setCell ⟨g, 1, none⟩ (.slice (some ⟨b, o, none⟩) (n - 1) cap)) Z g B (some ⟨b, o, none⟩) (n - 1) cap L' := by
    refine ⟨ok, zg, ?_, fun o => ?_, (World.cell?_setCell_other _ _ _ _ (by intro c; injection c with _ c _; cases c)).trans ((World.cell?_of_block (w := w5) (a := ⟨g, 0, none⟩) kg).trans c0), World.cell?_setCell_same _ _ _ g1, hl, zB, gB, hM.block ((Below.heap_setCell _ _ _ _ gB).trans kB), ?_⟩
    · rw [World.size_setCell]; exact Nat.lt_of_lt_of_le gl hO.size
    · rw [World.frozen?_setCell]; exact (World.frozen?_of_block (w := w5) (a := ⟨g, o, none⟩) kg).trans (fg o)
    · rw [h']; exact hR.kept (by rw [World.size_setCell]; exact Nat.le_refl _) (fun k hk _ => Below.heap_setCell _ _ _ _ hk.2.1)
  refine ⟨q.toQI, ⟨hO.os, hO.tape, hO.output, by rw [World.size_setCell]; exact hO.size, fun k hk => ?_⟩, g1, (World.frozen?_of_block (w := w5) (a := ⟨g, 1, none⟩) kg).trans (fg 1)⟩
  rw [Below.heap_setCell _ _ _ _ (fun (c : k = g) => hk (by rw [c]; exact zg))]
  exact hO.block k (fun c => hk (by rw [c]; exact hb.1))
set_option maxRecDepth 100000 in
set_option maxHeartbeats 4000000 in
theorem finish_none (g : Nat) (id : Int) (s : Sg) (Z : Nat → Prop) (L : List Qe) (w : World) (hZ : ∀ k, w.heap.size ≤ k → Z k) (hQ : QI w Z g L) (hid : -9223372036854775808 ≤ id ∧ id ≤ 9223372036854775807) (hN : L.length < 10000) (hl : lookQ L id = none) :
    Calls Try.prog 11 #[.pointer (some ⟨g, 0, none⟩), .int .i64 id, .agg #[.int .u64 s.x0, .int .u64 s.x1, .int .u64 s.x2, .int .u64 s.x3, .int .u64 s.x4, .int .u64 s.x5, .int .u64 s.x6, .int .u64 s.x7, .bool s.i, .int .u64 s.x8, .int .u64 s.x9, .int .u64 s.x10, .int .u64 s.x11]] w fun e w' => e = .returned (.int .i64 6) ∧ QI w' Z g L ∧ Off Z w w' := by
  have HL : Hid (lookQ L id = none) := hl
  clear hl
  obtain ⟨W1, hW1⟩ : ∃ W1, W1 = w.alloc (.cells #[.int .u64 s.x0, .int .u64 s.x1, .int .u64 s.x2, .int .u64 s.x3, .int .u64 s.x4, .int .u64 s.x5, .int .u64 s.x6, .int .u64 s.x7, .bool s.i, .int .u64 s.x8, .int .u64 s.x9, .int .u64 s.x10, .int .u64 s.x11] 38) := ⟨_, rfl⟩
  have hb1 : Below w.heap.size w W1 := by rw [hW1]; exact below_alloc0 (Below.refl _ _) _
  have hbx : Blk W1 w.heap.size [.int .u64 s.x0, .int .u64 s.x1, .int .u64 s.x2, .int .u64 s.x3, .int .u64 s.x4, .int .u64 s.x5, .int .u64 s.x6, .int .u64 s.x7, .bool s.i, .int .u64 s.x8, .int .u64 s.x9, .int .u64 s.x10, .int .u64 s.x11] := by rw [hW1]; exact Blk.new w [.int .u64 s.x0, .int .u64 s.x1, .int .u64 s.x2, .int .u64 s.x3, .int .u64 s.x4, .int .u64 s.x5, .int .u64 s.x6, .int .u64 s.x7, .bool s.i, .int .u64 s.x8, .int .u64 s.x9, .int .u64 s.x10, .int .u64 s.x11] 38
  have HW : Hid (W1 = w.alloc (.cells #[.int .u64 s.x0, .int .u64 s.x1, .int .u64 s.x2, .int .u64 s.x3, .int .u64 s.x4, .int .u64 s.x5, .int .u64 s.x6, .int .u64 s.x7, .bool s.i, .int .u64 s.x8, .int .u64 s.x9, .int .u64 s.x10, .int .u64 s.x11] 38)) := hW1
  obtain ⟨E, hE⟩ : ∃ E, E = w.heap.size := ⟨_, rfl⟩
  rw [← hE] at hbx
  have HE : Hid (E = w.heap.size) := hE
  have HT : Hid ((∀ k, w.heap.size ≤ k → Z k) ∧ (-9223372036854775808 ≤ id ∧ id ≤ 9223372036854775807) ∧ L.length < 10000) := ⟨hZ, hid, hN⟩
  have H1 : Hid (QI w Z g L ∧ QI W1 Z g L ∧ Below w.heap.size w W1 ∧ Blk W1 E [.int .u64 s.x0, .int .u64 s.x1, .int .u64 s.x2, .int .u64 s.x3, .int .u64 s.x4, .int .u64 s.x5, .int .u64 s.x6, .int .u64 s.x7, .bool s.i, .int .u64 s.x8, .int .u64 s.x9, .int .u64 s.x10, .int .u64 s.x11]) := ⟨hQ, hQ.call hb1, hb1, hbx⟩
  clear hQ hb1 hbx hW1 hZ hid hN hE
  go_enter Try.func11, Try.ntmps11
  go_upto_region 1 with fail
  rw [← HW.out, ← HE.out]
  go_wp2_with fail
  refine (find_in g id HT.out.2.1 Z L W1 H1.out.2.1).mono ?_
  rintro e w2 ⟨rfl, hb2⟩
  rw [HL.out]
  simp only [fm, fa, fs, sg0, Option.isSome_none]
  obtain ⟨W3, hW3⟩ : ∃ W3, W3 = w2.alloc (.cells #[.string ⟨#[]⟩, .int .i64 0, .int .u64 0, .int .u64 0, .int .u64 0, .int .u64 0, .int .u64 0, .int .u64 0, .int .u64 0, .int .u64 0, .bool false, .int .u64 0, .int .u64 0, .int .u64 0, .int .u64 0] 65) := ⟨_, rfl⟩
  have hb3 : Below w2.heap.size w2 W3 := by rw [hW3]; exact below_alloc0 (Below.refl _ _) _
  have hex : Blk W3 w2.heap.size [.string ⟨#[]⟩, .int .i64 0, .int .u64 0, .int .u64 0, .int .u64 0, .int .u64 0, .int .u64 0, .int .u64 0, .int .u64 0, .int .u64 0, .bool false, .int .u64 0, .int .u64 0, .int .u64 0, .int .u64 0] := by rw [hW3]; exact Blk.new w2 [.string ⟨#[]⟩, .int .i64 0, .int .u64 0, .int .u64 0, .int .u64 0, .int .u64 0, .int .u64 0, .int .u64 0, .int .u64 0, .int .u64 0, .bool false, .int .u64 0, .int .u64 0, .int .u64 0, .int .u64 0] 65
  obtain ⟨G, hG⟩ : ∃ G, G = w2.heap.size := ⟨_, rfl⟩
  have HG : Hid (W3 = w2.alloc (.cells #[.string ⟨#[]⟩, .int .i64 0, .int .u64 0, .int .u64 0, .int .u64 0, .int .u64 0, .int .u64 0, .int .u64 0, .int .u64 0, .int .u64 0, .bool false, .int .u64 0, .int .u64 0, .int .u64 0, .int .u64 0] 65) ∧ G = w2.heap.size) := ⟨hW3, hG⟩
  rw [← hG] at hex
  have H3 : Hid (QI W3 Z g L ∧ Below w.heap.size w W3 ∧ Blk W3 E [.int .u64 s.x0, .int .u64 s.x1, .int .u64 s.x2, .int .u64 s.x3, .int .u64 s.x4, .int .u64 s.x5, .int .u64 s.x6, .int .u64 s.x7, .bool s.i, .int .u64 s.x8, .int .u64 s.x9, .int .u64 s.x10, .int .u64 s.x11] ∧ Blk W3 G [.string ⟨#[]⟩, .int .i64 0, .int .u64 0, .int .u64 0, .int .u64 0, .int .u64 0, .int .u64 0, .int .u64 0, .int .u64 0, .int .u64 0, .bool false, .int .u64 0, .int .u64 0, .int .u64 0, .int .u64 0] ∧ w.heap.size ≤ G) := ⟨(H1.out.2.1.call hb2).call hb3, (H1.out.2.2.1.trans (hb2.mono H1.out.2.2.1.size)).trans (hb3.mono (Nat.le_trans H1.out.2.2.1.size hb2.size)), (H1.out.2.2.2.call hb2).call hb3, hex, by rw [hG]; exact Nat.le_trans H1.out.2.2.1.size hb2.size⟩
  clear hb2 hb3 hex hW3 hG
  go_upto_region 2 with fail
  rw [← HG.out.1, ← HG.out.2]
  go_wp2_with fail
  go_ret
  exact ⟨rfl, H3.out.1, Off.of_below H3.out.2.1 HT.out.1⟩
set_option maxRecDepth 100000 in
set_option maxHeartbeats 4000000 in
theorem finish_done (g : Nat) (id : Int) (s : Sg) (Z : Nat → Prop) (L : List Qe) (w : World) (hZ : ∀ k, w.heap.size ≤ k → Z k) (hQ : QI w Z g L) (hid : -9223372036854775808 ≤ id ∧ id ≤ 9223372036854775807) (hN : L.length < 10000) (x : Qe) (hl : lookQ L id = some x) (hd : x.d = true) :
    Calls Try.prog 11 #[.pointer (some ⟨g, 0, none⟩), .int .i64 id, .agg #[.int .u64 s.x0, .int .u64 s.x1, .int .u64 s.x2, .int .u64 s.x3, .int .u64 s.x4, .int .u64 s.x5, .int .u64 s.x6, .int .u64 s.x7, .bool s.i, .int .u64 s.x8, .int .u64 s.x9, .int .u64 s.x10, .int .u64 s.x11]] w fun e w' => e = .returned (.int .i64 6) ∧ QI w' Z g L ∧ Off Z w w' := by
  have HL : Hid (lookQ L id = some x) := hl
  have HA : Hid (qa x.d = 4) := by rw [hd]; rfl
  clear hl hd
  obtain ⟨W1, hW1⟩ : ∃ W1, W1 = w.alloc (.cells #[.int .u64 s.x0, .int .u64 s.x1, .int .u64 s.x2, .int .u64 s.x3, .int .u64 s.x4, .int .u64 s.x5, .int .u64 s.x6, .int .u64 s.x7, .bool s.i, .int .u64 s.x8, .int .u64 s.x9, .int .u64 s.x10, .int .u64 s.x11] 38) := ⟨_, rfl⟩
  have hb1 : Below w.heap.size w W1 := by rw [hW1]; exact below_alloc0 (Below.refl _ _) _
  have hbx : Blk W1 w.heap.size [.int .u64 s.x0, .int .u64 s.x1, .int .u64 s.x2, .int .u64 s.x3, .int .u64 s.x4, .int .u64 s.x5, .int .u64 s.x6, .int .u64 s.x7, .bool s.i, .int .u64 s.x8, .int .u64 s.x9, .int .u64 s.x10, .int .u64 s.x11] := by rw [hW1]; exact Blk.new w [.int .u64 s.x0, .int .u64 s.x1, .int .u64 s.x2, .int .u64 s.x3, .int .u64 s.x4, .int .u64 s.x5, .int .u64 s.x6, .int .u64 s.x7, .bool s.i, .int .u64 s.x8, .int .u64 s.x9, .int .u64 s.x10, .int .u64 s.x11] 38
  have HW : Hid (W1 = w.alloc (.cells #[.int .u64 s.x0, .int .u64 s.x1, .int .u64 s.x2, .int .u64 s.x3, .int .u64 s.x4, .int .u64 s.x5, .int .u64 s.x6, .int .u64 s.x7, .bool s.i, .int .u64 s.x8, .int .u64 s.x9, .int .u64 s.x10, .int .u64 s.x11] 38)) := hW1
  obtain ⟨E, hE⟩ : ∃ E, E = w.heap.size := ⟨_, rfl⟩
  rw [← hE] at hbx
  have HE : Hid (E = w.heap.size) := hE
  have HT : Hid ((∀ k, w.heap.size ≤ k → Z k) ∧ (-9223372036854775808 ≤ id ∧ id ≤ 9223372036854775807) ∧ L.length < 10000) := ⟨hZ, hid, hN⟩
  have H1 : Hid (QI w Z g L ∧ QI W1 Z g L ∧ Below w.heap.size w W1 ∧ Blk W1 E [.int .u64 s.x0, .int .u64 s.x1, .int .u64 s.x2, .int .u64 s.x3, .int .u64 s.x4, .int .u64 s.x5, .int .u64 s.x6, .int .u64 s.x7, .bool s.i, .int .u64 s.x8, .int .u64 s.x9, .int .u64 s.x10, .int .u64 s.x11]) := ⟨hQ, hQ.call hb1, hb1, hbx⟩
  clear hQ hb1 hbx hW1 hZ hid hN hE
  go_enter Try.func11, Try.ntmps11
  go_upto_region 1 with fail
  rw [← HW.out, ← HE.out]
  go_wp2_with fail
  refine (find_in g id HT.out.2.1 Z L W1 H1.out.2.1).mono ?_
  rintro e w2 ⟨rfl, hb2⟩
  rw [HL.out]
  simp only [fm, fa, fs, Option.isSome_some]
  rw [HA.out]
  obtain ⟨W3, hW3⟩ : ∃ W3, W3 = w2.alloc (.cells #[.string x.m, .int .i64 4, .int .u64 x.S.x0, .int .u64 x.S.x1, .int .u64 x.S.x2, .int .u64 x.S.x3, .int .u64 x.S.x4, .int .u64 x.S.x5, .int .u64 x.S.x6, .int .u64 x.S.x7, .bool x.S.i, .int .u64 x.S.x8, .int .u64 x.S.x9, .int .u64 x.S.x10, .int .u64 x.S.x11] 65) := ⟨_, rfl⟩
  have hb3 : Below w2.heap.size w2 W3 := by rw [hW3]; exact below_alloc0 (Below.refl _ _) _
  have hex : Blk W3 w2.heap.size [.string x.m, .int .i64 4, .int .u64 x.S.x0, .int .u64 x.S.x1, .int .u64 x.S.x2, .int .u64 x.S.x3, .int .u64 x.S.x4, .int .u64 x.S.x5, .int .u64 x.S.x6, .int .u64 x.S.x7, .bool x.S.i, .int .u64 x.S.x8, .int .u64 x.S.x9, .int .u64 x.S.x10, .int .u64 x.S.x11] := by rw [hW3]; exact Blk.new w2 [.string x.m, .int .i64 4, .int .u64 x.S.x0, .int .u64 x.S.x1, .int .u64 x.S.x2, .int .u64 x.S.x3, .int .u64 x.S.x4, .int .u64 x.S.x5, .int .u64 x.S.x6, .int .u64 x.S.x7, .bool x.S.i, .int .u64 x.S.x8, .int .u64 x.S.x9, .int .u64 x.S.x10, .int .u64 x.S.x11] 65
  obtain ⟨G, hG⟩ : ∃ G, G = w2.heap.size := ⟨_, rfl⟩
  have HG : Hid (W3 = w2.alloc (.cells #[.string x.m, .int .i64 4, .int .u64 x.S.x0, .int .u64 x.S.x1, .int .u64 x.S.x2, .int .u64 x.S.x3, .int .u64 x.S.x4, .int .u64 x.S.x5, .int .u64 x.S.x6, .int .u64 x.S.x7, .bool x.S.i, .int .u64 x.S.x8, .int .u64 x.S.x9, .int .u64 x.S.x10, .int .u64 x.S.x11] 65) ∧ G = w2.heap.size) := ⟨hW3, hG⟩
  rw [← hG] at hex
  have H3 : Hid (QI W3 Z g L ∧ Below w.heap.size w W3 ∧ Blk W3 E [.int .u64 s.x0, .int .u64 s.x1, .int .u64 s.x2, .int .u64 s.x3, .int .u64 s.x4, .int .u64 s.x5, .int .u64 s.x6, .int .u64 s.x7, .bool s.i, .int .u64 s.x8, .int .u64 s.x9, .int .u64 s.x10, .int .u64 s.x11] ∧ Blk W3 G [.string x.m, .int .i64 4, .int .u64 x.S.x0, .int .u64 x.S.x1, .int .u64 x.S.x2, .int .u64 x.S.x3, .int .u64 x.S.x4, .int .u64 x.S.x5, .int .u64 x.S.x6, .int .u64 x.S.x7, .bool x.S.i, .int .u64 x.S.x8, .int .u64 x.S.x9, .int .u64 x.S.x10, .int .u64 x.S.x11] ∧ w.heap.size ≤ G) := ⟨(H1.out.2.1.call hb2).call hb3, (H1.out.2.2.1.trans (hb2.mono H1.out.2.2.1.size)).trans (hb3.mono (Nat.le_trans H1.out.2.2.1.size hb2.size)), (H1.out.2.2.2.call hb2).call hb3, hex, by rw [hG]; exact Nat.le_trans H1.out.2.2.1.size hb2.size⟩
  clear hb2 hb3 hex hW3 hG
  go_upto_region 2 with fail
  rw [← HG.out.1, ← HG.out.2]
  have e1 : W3.cell? ⟨G, 1, none⟩ = some (.int .i64 4) := H3.out.2.2.2.1.2.2 1 _ rfl
  go_wp2_with fail
  go_ret
  exact ⟨rfl, H3.out.1, Off.of_below H3.out.2.1 HT.out.1⟩
set_option maxRecDepth 100000 in
set_option maxHeartbeats 4000000 in
theorem finish_yes (g : Nat) (id : Int) (s : Sg) (Z : Nat → Prop) (L : List Qe) (w : World) (hZ : ∀ k, w.heap.size ≤ k → Z k) (hQ : QI w Z g L) (hid : -9223372036854775808 ≤ id ∧ id ≤ 9223372036854775807) (hN : L.length < 10000) (x : Qe) (hl : lookQ L id = some x) (hd : x.d = false) :
    Calls Try.prog 11 #[.pointer (some ⟨g, 0, none⟩), .int .i64 id, .agg #[.int .u64 s.x0, .int .u64 s.x1, .int .u64 s.x2, .int .u64 s.x3, .int .u64 s.x4, .int .u64 s.x5, .int .u64 s.x6, .int .u64 s.x7, .bool s.i, .int .u64 s.x8, .int .u64 s.x9, .int .u64 s.x10, .int .u64 s.x11]] w fun e w' => e = .returned (.int .i64 0) ∧ QI w' Z g (doneQ id s L) ∧ Off Z w w' := by
  have HL : Hid (lookQ L id = some x) := hl
  have HA : Hid (qa x.d = 1 ∧ x.d = false ∧ QOk (doneQ id s L)) := ⟨by rw [hd]; rfl, hd, hQ.ok.done id s⟩
  clear hl hd
  obtain ⟨W1, hW1⟩ : ∃ W1, W1 = w.alloc (.cells #[.int .u64 s.x0, .int .u64 s.x1, .int .u64 s.x2, .int .u64 s.x3, .int .u64 s.x4, .int .u64 s.x5, .int .u64 s.x6, .int .u64 s.x7, .bool s.i, .int .u64 s.x8, .int .u64 s.x9, .int .u64 s.x10, .int .u64 s.x11] 38) := ⟨_, rfl⟩
  have hb1 : Below w.heap.size w W1 := by rw [hW1]; exact below_alloc0 (Below.refl _ _) _
  have hbx : Blk W1 w.heap.size [.int .u64 s.x0, .int .u64 s.x1, .int .u64 s.x2, .int .u64 s.x3, .int .u64 s.x4, .int .u64 s.x5, .int .u64 s.x6, .int .u64 s.x7, .bool s.i, .int .u64 s.x8, .int .u64 s.x9, .int .u64 s.x10, .int .u64 s.x11] := by rw [hW1]; exact Blk.new w [.int .u64 s.x0, .int .u64 s.x1, .int .u64 s.x2, .int .u64 s.x3, .int .u64 s.x4, .int .u64 s.x5, .int .u64 s.x6, .int .u64 s.x7, .bool s.i, .int .u64 s.x8, .int .u64 s.x9, .int .u64 s.x10, .int .u64 s.x11] 38
  have HW : Hid (W1 = w.alloc (.cells #[.int .u64 s.x0, .int .u64 s.x1, .int .u64 s.x2, .int .u64 s.x3, .int .u64 s.x4, .int .u64 s.x5, .int .u64 s.x6, .int .u64 s.x7, .bool s.i, .int .u64 s.x8, .int .u64 s.x9, .int .u64 s.x10, .int .u64 s.x11] 38)) := hW1
  obtain ⟨E, hE⟩ : ∃ E, E = w.heap.size := ⟨_, rfl⟩
  rw [← hE] at hbx
  have HE : Hid (E = w.heap.size) := hE
  have HT : Hid ((∀ k, w.heap.size ≤ k → Z k) ∧ (-9223372036854775808 ≤ id ∧ id ≤ 9223372036854775807) ∧ L.length < 10000) := ⟨hZ, hid, hN⟩
  have H1 : Hid (QI w Z g L ∧ QI W1 Z g L ∧ Below w.heap.size w W1 ∧ Blk W1 E [.int .u64 s.x0, .int .u64 s.x1, .int .u64 s.x2, .int .u64 s.x3, .int .u64 s.x4, .int .u64 s.x5, .int .u64 s.x6, .int .u64 s.x7, .bool s.i, .int .u64 s.x8, .int .u64 s.x9, .int .u64 s.x10, .int .u64 s.x11]) := ⟨hQ, hQ.call hb1, hb1, hbx⟩
  clear hQ hb1 hbx hW1 hZ hid hN hE
  go_enter Try.func11, Try.ntmps11
  go_upto_region 1 with fail
  rw [← HW.out, ← HE.out]
  go_wp2_with fail
  refine (find_in g id HT.out.2.1 Z L W1 H1.out.2.1).mono ?_
  rintro e w2 ⟨rfl, hb2⟩
  rw [HL.out]
  simp only [fm, fa, fs, Option.isSome_some]
  rw [HA.out.1]
  obtain ⟨W3, hW3⟩ : ∃ W3, W3 = w2.alloc (.cells #[.string x.m, .int .i64 1, .int .u64 x.S.x0, .int .u64 x.S.x1, .int .u64 x.S.x2, .int .u64 x.S.x3, .int .u64 x.S.x4, .int .u64 x.S.x5, .int .u64 x.S.x6, .int .u64 x.S.x7, .bool x.S.i, .int .u64 x.S.x8, .int .u64 x.S.x9, .int .u64 x.S.x10, .int .u64 x.S.x11] 65) := ⟨_, rfl⟩
  have hb3 : Below w2.heap.size w2 W3 := by rw [hW3]; exact below_alloc0 (Below.refl _ _) _
  have hex : Blk W3 w2.heap.size [.string x.m, .int .i64 1, .int .u64 x.S.x0, .int .u64 x.S.x1, .int .u64 x.S.x2, .int .u64 x.S.x3, .int .u64 x.S.x4, .int .u64 x.S.x5, .int .u64 x.S.x6, .int .u64 x.S.x7, .bool x.S.i, .int .u64 x.S.x8, .int .u64 x.S.x9, .int .u64 x.S.x10, .int .u64 x.S.x11] := by rw [hW3]; exact Blk.new w2 [.string x.m, .int .i64 1, .int .u64 x.S.x0, .int .u64 x.S.x1, .int .u64 x.S.x2, .int .u64 x.S.x3, .int .u64 x.S.x4, .int .u64 x.S.x5, .int .u64 x.S.x6, .int .u64 x.S.x7, .bool x.S.i, .int .u64 x.S.x8, .int .u64 x.S.x9, .int .u64 x.S.x10, .int .u64 x.S.x11] 65
  obtain ⟨G, hG⟩ : ∃ G, G = w2.heap.size := ⟨_, rfl⟩
  have HG : Hid (W3 = w2.alloc (.cells #[.string x.m, .int .i64 1, .int .u64 x.S.x0, .int .u64 x.S.x1, .int .u64 x.S.x2, .int .u64 x.S.x3, .int .u64 x.S.x4, .int .u64 x.S.x5, .int .u64 x.S.x6, .int .u64 x.S.x7, .bool x.S.i, .int .u64 x.S.x8, .int .u64 x.S.x9, .int .u64 x.S.x10, .int .u64 x.S.x11] 65) ∧ G = w2.heap.size) := ⟨hW3, hG⟩
  rw [← hG] at hex
  have H3 : Hid (QI W3 Z g L ∧ Below w.heap.size w W3 ∧ Blk W3 E [.int .u64 s.x0, .int .u64 s.x1, .int .u64 s.x2, .int .u64 s.x3, .int .u64 s.x4, .int .u64 s.x5, .int .u64 s.x6, .int .u64 s.x7, .bool s.i, .int .u64 s.x8, .int .u64 s.x9, .int .u64 s.x10, .int .u64 s.x11] ∧ Blk W3 G [.string x.m, .int .i64 1, .int .u64 x.S.x0, .int .u64 x.S.x1, .int .u64 x.S.x2, .int .u64 x.S.x3, .int .u64 x.S.x4, .int .u64 x.S.x5, .int .u64 x.S.x6, .int .u64 x.S.x7, .bool x.S.i, .int .u64 x.S.x8, .int .u64 x.S.x9, .int .u64 x.S.x10, .int .u64 x.S.x11] ∧ w.heap.size ≤ G) := ⟨(H1.out.2.1.call hb2).call hb3, (H1.out.2.2.1.trans (hb2.mono H1.out.2.2.1.size)).trans (hb3.mono (Nat.le_trans H1.out.2.2.1.size hb2.size)), (H1.out.2.2.2.call hb2).call hb3, hex, by rw [hG]; exact Nat.le_trans H1.out.2.2.1.size hb2.size⟩
  clear hb2 hb3 hex hW3 hG
  go_upto_region 2 with fail
  rw [← HG.out.1, ← HG.out.2]
  have e1 : W3.cell? ⟨G, 1, none⟩ = some (.int .i64 1) := H3.out.2.2.2.1.2.2 1 _ rfl
  obtain ⟨B, a, n, cap, hM3⟩ := H3.out.1.toQM (fun c => by have := (lookQ_mem HL.out).1; rw [c] at this; cases this)
  obtain ⟨i, hi1, hi2, hi3⟩ := idsQ_at hM3.ok HL.out HA.out.2.1
  have hin : i < n := by rw [hM3.hn]; exact (List.getElem?_eq_some_iff.1 hi1).1
  obtain ⟨b, o, rfl, -, -, hbZ, -⟩ := hM3.row.get iE_len hi1
  have hmp : MapV W3.drew B L.length (fun t => (lookQ L t).map entV) := hM3.mp
  obtain ⟨w5, hup, hM5, hT5⟩ := hmp.update (t := id) (v := .agg #[.string x.m, .int .i64 4, .int .u64 s.x0, .int .u64 s.x1, .int .u64 s.x2, .int .u64 s.x3, .int .u64 s.x4, .int .u64 s.x5, .int .u64 s.x6, .int .u64 s.x7, .bool s.i, .int .u64 s.x8, .int .u64 s.x9, .int .u64 s.x10, .int .u64 s.x11]) (by have := HT.out.2.2; omega) HT.out.2.1
  rw [HL.out] at hM5
  have hM5' : MapV w5 B (doneQ id s L).length (fun t => (lookQ (doneQ id s L) t).map entV) := by
    rw [doneQ_len]
    refine hM5.eq (fun t => ?_)
    rw [lookQ_done id s HL.out t]
    unfold updV
    by_cases c : t = id
    · rw [if_pos c, if_pos c]; rfl
    · rw [if_neg c, if_neg c]
  have c0 := hM3.c0
  have c1 := hM3.c1
  have m0 : W3.cell? ⟨G, 0, none⟩ = some (.string x.m) := H3.out.2.2.2.1.2.2 0 _ rfl
  have s0 : W3.cell? ⟨E, 0, none⟩ = some (.int .u64 s.x0) := H3.out.2.2.1.2.2 0 _ rfl
  have s1 : W3.cell? ⟨E, 1, none⟩ = some (.int .u64 s.x1) := H3.out.2.2.1.2.2 1 _ rfl
  have s2 : W3.cell? ⟨E, 2, none⟩ = some (.int .u64 s.x2) := H3.out.2.2.1.2.2 2 _ rfl
  have s3 : W3.cell? ⟨E, 3, none⟩ = some (.int .u64 s.x3) := H3.out.2.2.1.2.2 3 _ rfl
  have s4 : W3.cell? ⟨E, 4, none⟩ = some (.int .u64 s.x4) := H3.out.2.2.1.2.2 4 _ rfl
  have s5 : W3.cell? ⟨E, 5, none⟩ = some (.int .u64 s.x5) := H3.out.2.2.1.2.2 5 _ rfl
  have s6 : W3.cell? ⟨E, 6, none⟩ = some (.int .u64 s.x6) := H3.out.2.2.1.2.2 6 _ rfl
  have s7 : W3.cell? ⟨E, 7, none⟩ = some (.int .u64 s.x7) := H3.out.2.2.1.2.2 7 _ rfl
  have s8 : W3.cell? ⟨E, 8, none⟩ = some (.bool s.i) := H3.out.2.2.1.2.2 8 _ rfl
  have s9 : W3.cell? ⟨E, 9, none⟩ = some (.int .u64 s.x8) := H3.out.2.2.1.2.2 9 _ rfl
  have s10 : W3.cell? ⟨E, 10, none⟩ = some (.int .u64 s.x9) := H3.out.2.2.1.2.2 10 _ rfl
  have s11 : W3.cell? ⟨E, 11, none⟩ = some (.int .u64 s.x10) := H3.out.2.2.1.2.2 11 _ rfl
  have s12 : W3.cell? ⟨E, 12, none⟩ = some (.int .u64 s.x11) := H3.out.2.2.1.2.2 12 _ rfl
  have HM : Hid (QM W3 Z g B (some ⟨b, o, none⟩) n cap L ∧ (idsQ L)[i]? = some id ∧ (∀ j y, j < i → (idsQ L)[j]? = some y → y ≠ id) ∧ idsQ (doneQ id s L) = (idsQ L).take i ++ (idsQ L).drop (i + 1) ∧ i < n ∧ (Z b ∧ b ≠ g ∧ b ≠ B) ∧ MapV w5 B (doneQ id s L).length (fun t => (lookQ (doneQ id s L) t).map entV) ∧ W3.drew.mapTurned w5 B) := ⟨hM3, hi1, hi2, hi3 s, hin, hbZ, hM5', hT5⟩
  have kb5 : ∀ k, k ≠ B → w5.heap[k]? = W3.heap[k]? := fun k hk => mapTurned_block (w := W3.drew) hT5 hk
  have d0 : w5.cell? ⟨g, 0, none⟩ = some (.map (some B)) := (World.cell?_of_block (w := W3) (a := ⟨g, 0, none⟩) (kb5 g hM3.gB.symm)).trans c0
  have d1 : w5.cell? ⟨g, 1, none⟩ = some (.slice (some ⟨b, o, none⟩) n cap) := (World.cell?_of_block (w := W3) (a := ⟨g, 1, none⟩) (kb5 g hM3.gB.symm)).trans c1
  have hR5 : RowX iE 1 w5 (fun k => Z k ∧ k ≠ g ∧ k ≠ B) (some ⟨b, o, none⟩) (idsQ L) cap := hM3.row.kept (Nat.le_of_eq (mapTurned_size (w := W3.drew) hT5).symm) (fun k hk _ => kb5 k hk.2.2)
  have i1 : (i : Int) ≤ 8 := by have := hM3.ok.w8; have := hM3.hn; unfold idsQ at this; rw [List.length_map] at this; omega
  obtain ⟨j, hj⟩ : ∃ j, j = i + 1 := ⟨_, rfl⟩
  have HJ : Hid (j = i + 1) := hj
  have i2 : (i : Int) + 1 = (j : Nat) := by omega
  have i3 : (j : Int) ≤ 9 := by omega
  clear hj
  have HR : Hid (RowX iE 1 w5 (fun k => Z k ∧ k ≠ g ∧ k ≠ B) (some ⟨b, o, none⟩) (idsQ L) cap ∧ n ≤ 8 ∧ g < w5.heap.size ∧ (∀ o, w5.frozen? ⟨g, o, none⟩ = false) ∧ Off Z w w5) := ⟨hR5, by have := hM3.ok.w8; have := hM3.hn; unfold idsQ at this; rw [List.length_map] at this; omega, by rw [mapTurned_size (w := W3.drew) hT5]; exact hM3.gl, fun o => (World.frozen?_of_block (w := W3) (a := ⟨g, o, none⟩) (kb5 g hM3.gB.symm)).trans (hM3.fg o), mapTurned_off (off_drew (Off.of_below H3.out.2.1 HT.out.1)) hT5 hM3.zB⟩
  clear hM3 hi1 hi2 hi3 hin hbZ hmp hM5 hT5 hM5' kb5 hR5
  go_wp2_with fail
  go_region
  go_wp2_with fail
  refine (index_in w5 _ b o cap n i (idsQ L) id HM.out.1.hn HR.out.1 HM.out.2.1 HM.out.2.2.1 (by have := HR.out.2.1; omega)).mono ?_
  rintro e w6 ⟨rfl, hw6⟩
  subst hw6
  clear c0 c1 m0 e1 s0 s1 s2 s3 s4 s5 s6 s7 s8 s9 s10 s11 s12
  go_wp2_with fail
  refine (delete_at _ _ b o cap n i j HJ.out (idsQ L) HM.out.1.hn HR.out.1 HM.out.2.2.2.2.1).mono ?_
  rintro e w7 ⟨rfl, hR7, hO7⟩
  have hEnd := fin_end HM.out.1.hn HM.out.2.2.2.2.1 HM.out.2.2.2.1 HA.out.2.2 HM.out.1.zg HM.out.1.zB HM.out.1.gB HR.out.2.2.1 HM.out.2.2.2.2.2.2.1 HM.out.2.2.2.2.2.1 d0 d1 HR.out.2.2.2.1 hR7 hO7
  have g9 := hEnd.2.2.1
  have z9 := hEnd.2.2.2
  have HE9 : Hid (_ ∧ _) := ⟨hEnd.1, HR.out.2.2.2.2.trans hEnd.2.1⟩
  clear hEnd hR7 hO7 d0 d1
  go_wp2_with fail
  go_ret
  exact ⟨rfl, HE9.out⟩
theorem finish_any (g : Nat) (id : Int) (s : Sg) (Z : Nat → Prop) (L : List Qe) (w : World) (hZ : ∀ k, w.heap.size ≤ k → Z k) (hQ : QI w Z g L) (hid : -9223372036854775808 ≤ id ∧ id ≤ 9223372036854775807) (hN : L.length < 10000) :
    Calls Try.prog 11 #[.pointer (some ⟨g, 0, none⟩), .int .i64 id, .agg #[.int .u64 s.x0, .int .u64 s.x1, .int .u64 s.x2, .int .u64 s.x3, .int .u64 s.x4, .int .u64 s.x5, .int .u64 s.x6, .int .u64 s.x7, .bool s.i, .int .u64 s.x8, .int .u64 s.x9, .int .u64 s.x10, .int .u64 s.x11]] w fun e w' => e = .returned (.int .i64 (finR L id s).1) ∧ QI w' Z g (finR L id s).2 ∧ Off Z w w' := by
  unfold finR
  cases hl : lookQ L id with
  | none => exact finish_none g id s Z L w hZ hQ hid hN hl
  | some x =>
    cases hd : x.d with
    | true => simp only [hd, if_true]; exact finish_done g id s Z L w hZ hQ hid hN x hl hd
    | false => simp only [hd, Bool.false_eq_true, if_false]; exact finish_yes g id s Z L w hZ hQ hid hN x hl hd
end Go.Proofs.Ytolhkpgpcbebiaa
