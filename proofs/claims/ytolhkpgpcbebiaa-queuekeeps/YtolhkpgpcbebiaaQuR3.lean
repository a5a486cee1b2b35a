/- The reference's Finish. -/
import Derived.Test.YtolhkpgpcbebiaaQuR2
namespace Go.Proofs.Ytolhkpgpcbebiaa
open Go Go.RowKit Go.Lib
theorem RowX.set {α : Type} {enc : α → List Value} {k : Nat} {w w' : World} {F : Nat → Prop} {b o cap i : Nat} {X : List α} {x' : α} (hk : ∀ x, (enc x).length = k) (h : RowX enc k w F (some ⟨b, o, none⟩) X cap) (hz : w'.heap.size = w.heap.size) (ho : ∀ c, c < o + i * k ∨ o + i * k + k ≤ c → w'.cell? ⟨b, c, none⟩ = w.cell? ⟨b, c, none⟩) (hin : ∀ c u, (enc x')[c]? = some u → w'.cell? ⟨b, o + i * k + c, none⟩ = some u) (hf : ∀ j, w'.frozen? ⟨b, j, none⟩ = w.frozen? ⟨b, j, none⟩) : RowX enc k w' F (some ⟨b, o, none⟩) (X.set i x') cap := by
  rcases h with ⟨c, _⟩ | ⟨b', o', h1, h2, h3, h4, h5, h6, h7, h8⟩
  · cases c
  · cases h1
    refine .inr ⟨b, o, rfl, h2, by rw [hz]; exact h3, by rw [List.length_set]; exact h4, h5, fun j u hj => ?_, fun j hj => ?_, fun j => (hf j).trans (h8 j)⟩
    · have hjl : j < (X.set i x').length * k := by rw [← flat_len hk]; exact (List.getElem?_eq_some_iff.1 hj).1
      have k0 : 0 < k := by
        rcases Nat.eq_zero_or_pos k with q | q
        · rw [q] at hjl; omega
        · exact q
      have hq : j / k < (X.set i x').length := Nat.div_lt_of_lt_mul (by rw [Nat.mul_comm]; exact hjl)
      have hjd : j = j / k * k + j % k := by rw [Nat.mul_comm]; exact (Nat.div_add_mod j k).symm
      have hc : j % k < k := Nat.mod_lt _ k0
      obtain ⟨y, hy⟩ : ∃ y, (X.set i x')[j / k]? = some y := ⟨_, List.getElem?_eq_getElem hq⟩
      have hu := flat_get hk _ _ (j % k) y hy hc
      rw [← hjd, hj] at hu
      rcases set_get hy with ⟨e, rfl, _⟩ | ⟨e, hy'⟩
      · rw [hjd, ← e, ← Nat.add_assoc]
        exact hin _ _ hu.symm
      · have hw := h6 (j / k * k + j % k) u (by rw [flat_get hk X _ _ y hy' hc]; exact hu.symm)
        rw [← hjd] at hw
        rw [ho _ ?_]
        · exact hw
        · rcases Nat.lt_or_gt_of_ne e with q | q
          · right
            have := Nat.mul_le_mul_right k (show i + 1 ≤ j / k from q)
            rw [Nat.succ_mul] at this
            omega
          · left
            have := Nat.mul_le_mul_right k (show j / k + 1 ≤ i from q)
            rw [Nat.succ_mul] at this
            omega
    · by_cases q : o + j < o + i * k ∨ o + i * k + k ≤ o + j
      · rw [ho _ q]; exact h7 j hj
      · have hl : j - i * k < (enc x').length := by rw [hk]; omega
        have := hin (j - i * k) _ (List.getElem?_eq_getElem hl)
        rw [show o + i * k + (j - i * k) = o + j by omega] at this
        rw [this]; rfl
theorem done_set {s : Sg} : ∀ {L : List Qe} {i : Nat} {x : Qe} {k : Int}, L.Pairwise (fun a b => a.id ≠ b.id) → L[i]? = some x → (x.id : Int) = k → doneQ k s L = L.set i ⟨x.id, x.m, true, s⟩
  | [], _, _, _, _, h, _ => by simp at h
  | y :: L, 0, x, k, _, h, hk => by
    simp at h
    subst h
    rw [doneQ, if_pos hk]; rfl
  | y :: L, i + 1, x, k, ha, h, hk => by
    have ha' := List.pairwise_cons.1 ha
    rw [List.getElem?_cons_succ] at h
    have := ha'.1 x (List.mem_of_getElem? h)
    rw [doneQ, if_neg (by omega), done_set ha'.2 h hk]; rfl
/-- None of these waits by that ID. -/
def NoW (L : List Qe) (k : Int) : Prop := ∀ e ∈ L, (e.id : Int) = k → e.d = true
theorem NoW.next {L : List Qe} {i : Nat} {x : Qe} {k : Int} (h : NoW (L.take i) k) (hx : L[i]? = some x) (h1 : (x.id : Int) = k → x.d = true) : NoW (L.take (i + 1)) k := fun e he => by
  rw [take_snoc hx] at he
  rcases List.mem_append.1 he with he | he
  · exact h e he
  · rw [List.mem_singleton.1 he]; exact h1
theorem fin_none {L : List Qe} {k : Int} {s : Sg} (h : NoW L k) : finR L k s = (6, L) := by
  unfold finR
  cases e : lookQ L k with
  | none => rfl
  | some x => simp only [h x (lookQ_mem e).1 (lookQ_mem e).2, if_true]
theorem fin_some {L : List Qe} {i : Nat} {x : Qe} {k : Int} {s : Sg} (hok : QOk L) (hx : L[i]? = some x) (hk : (x.id : Int) = k) (hd : x.d = false) : finR L k s = (0, L.set i ⟨x.id, x.m, true, s⟩) := by
  have hl : lookQ L k = some x := by rw [← hk]; exact lookQ_self hok.ap (List.mem_of_getElem? hx)
  unfold finR
  rw [hl]
  simp only [hd, Bool.false_eq_true, if_false, done_set hok.ap hx hk]
/-- What is written when a request is done. -/
def putD (w : World) (b off : Nat) (s : Sg) : World := w.setCells b (off + 2) [.bool true, .int .u64 s.x0, .int .u64 s.x1, .int .u64 s.x2, .int .u64 s.x3, .int .u64 s.x4, .int .u64 s.x5, .int .u64 s.x6, .int .u64 s.x7, .bool s.i, .int .u64 s.x8, .int .u64 s.x9, .int .u64 s.x10, .int .u64 s.x11]
theorem putD_end {w w2 : World} {Z : Nat → Prop} {r p o i n cap : Nat} {L : List Qe} {x : Qe} {s : Sg} (hr : RQ w2 Z r L) (hrow : RowX oneE 16 w2 (fun k => Z k ∧ k ≠ r) (some ⟨p, o, none⟩) L cap) (hn : n = L.length) (c0 : w2.cell? ⟨r, 0, none⟩ = some (.slice (some ⟨p, o, none⟩) n cap)) (hx : L[i]? = some x) (hO : Off Z w w2) :
    RQ (putD w2 p (o + i * 16) s) Z r (L.set i ⟨x.id, x.m, true, s⟩) ∧ Off Z w (putD w2 p (o + i * 16) s) := by
  obtain ⟨p', o', e, hc, hp, hF, hfz⟩ := hrow.get oneE_len hx
  cases e
  have hz : (putD w2 p (o + i * 16) s).heap.size = w2.heap.size := size_setCellsB ..
  have kb : ∀ b, b ≠ p → (putD w2 p (o + i * 16) s).heap[b]? = w2.heap[b]? := fun b hb => heap_setCells p b hb _ _ _
  have hin : ∀ j, j < 14 → (w2.cell? ⟨p, o + i * 16 + 2 + j, none⟩).isSome = true := fun j hj => by
    have hl : 2 + j < (oneE x).length := by rw [oneE_len]; omega
    rw [Nat.add_assoc, hc (2 + j) _ (List.getElem?_eq_getElem hl)]; rfl
  have hrow' : RowX oneE 16 (putD w2 p (o + i * 16) s) (fun k => Z k ∧ k ≠ r) (some ⟨p, o, none⟩) (L.set i ⟨x.id, x.m, true, s⟩) cap := by
    refine hrow.set oneE_len hz (fun c hcc => ?_) (fun c u hu => ?_) (fun j => World.frozen?_setCells ..)
    · refine World.cell?_setCells_out p _ _ w2 _ (fun _ _ => ?_)
      rcases hcc with q | q
      · left; show c < _; omega
      · right; show _ + 14 ≤ c; omega
    · have hcl : c < 16 := (List.getElem?_eq_some_iff.1 hu).1
      by_cases q : c < 2
      · have e1 : (putD w2 p (o + i * 16) s).cell? ⟨p, o + i * 16 + c, none⟩ = w2.cell? ⟨p, o + i * 16 + c, none⟩ := World.cell?_setCells_out p _ _ w2 _ (fun _ _ => .inl (by show o + i * 16 + c < _; omega))
        rw [e1]
        refine hc c u ?_
        have : c = 0 ∨ c = 1 := by omega
        rcases this with rfl | rfl
        · exact hu
        · exact hu
      · have k1 := World.cell?_setCells_in p [.bool true, .int .u64 s.x0, .int .u64 s.x1, .int .u64 s.x2, .int .u64 s.x3, .int .u64 s.x4, .int .u64 s.x5, .int .u64 s.x6, .int .u64 s.x7, .bool s.i, .int .u64 s.x8, .int .u64 s.x9, .int .u64 s.x10, .int .u64 s.x11] (o + i * 16 + 2) w2 hin (c - 2) (by show c - 2 < 14; omega)
        rw [show o + i * 16 + 2 + (c - 2) = o + i * 16 + c by omega] at k1
        show (w2.setCells p (o + i * 16 + 2) [.bool true, .int .u64 s.x0, .int .u64 s.x1, .int .u64 s.x2, .int .u64 s.x3, .int .u64 s.x4, .int .u64 s.x5, .int .u64 s.x6, .int .u64 s.x7, .bool s.i, .int .u64 s.x8, .int .u64 s.x9, .int .u64 s.x10, .int .u64 s.x11]).cell? _ = _
        rw [k1, ← hu, ← List.getElem?_eq_getElem]
        show _ = (([.int .i64 (x.id : Nat), .string x.m] : List Value) ++ ([.bool true, .int .u64 s.x0, .int .u64 s.x1, .int .u64 s.x2, .int .u64 s.x3, .int .u64 s.x4, .int .u64 s.x5, .int .u64 s.x6, .int .u64 s.x7, .bool s.i, .int .u64 s.x8, .int .u64 s.x9, .int .u64 s.x10, .int .u64 s.x11] : List Value))[c]?
        rw [List.getElem?_append_right (by show 2 ≤ c; omega)]
        rfl
  obtain ⟨e1, e2, e3⟩ := os_setCells p [.bool true, .int .u64 s.x0, .int .u64 s.x1, .int .u64 s.x2, .int .u64 s.x3, .int .u64 s.x4, .int .u64 s.x5, .int .u64 s.x6, .int .u64 s.x7, .bool s.i, .int .u64 s.x8, .int .u64 s.x9, .int .u64 s.x10, .int .u64 s.x11] (o + i * 16 + 2) w2
  have kr := kb r (fun c => hF.2 c.symm)
  refine ⟨⟨hr.zr, by rw [hz]; exact hr.rl, fun j => (World.frozen?_of_block (w := w2) (a := ⟨r, j, none⟩) kr).trans (hr.fr j), _, cap, ?_, hrow'⟩, ⟨e1.trans hO.os, e2.trans hO.tape, e3.trans hO.output, by rw [hz]; exact hO.size, fun b hb => (kb b (fun c => hb (by rw [c]; exact hF.1))).trans (hO.block b hb)⟩⟩
  rw [List.length_set, ← hn]
  exact (World.cell?_of_block (w := w2) (a := ⟨r, 0, none⟩) kr).trans c0
theorem putD_end' {w w2 : World} {Z : Nat → Prop} {r p o i n cap : Nat} {L : List Qe} {x : Qe} {s : Sg} (hr : RQ w2 Z r L) (hrow : RowX oneE 16 w2 (fun k => Z k ∧ k ≠ r) (some ⟨p, o, none⟩) L cap) (hn : n = L.length) (c0 : w2.cell? ⟨r, 0, none⟩ = some (.slice (some ⟨p, o, none⟩) n cap)) (hx : L[i]? = some x) (hO : Off Z w w2) :
    RQ (putD w2 p (o + i * 16) s).drew Z r (L.set i ⟨x.id, x.m, true, s⟩) ∧ Off Z w (putD w2 p (o + i * 16) s).drew := ⟨RQ.drew (putD_end hr hrow hn c0 hx hO).1, off_drew (putD_end hr hrow hn c0 hx hO).2⟩
set_option maxRecDepth 100000 in
set_option maxHeartbeats 8000000 in
theorem rfinish_any (r : Nat) (id : Int) (s : Sg) (Z : Nat → Prop) (L : List Qe) (w : World) (hZ : ∀ k, w.heap.size ≤ k → Z k) (hR : RQ w Z r L) (hok : QOk L) (hN : L.length < 10000) : Calls Try.prog 12 #[.pointer (some ⟨r, 0, none⟩), .int .i64 id, .agg #[.int .u64 s.x0, .int .u64 s.x1, .int .u64 s.x2, .int .u64 s.x3, .int .u64 s.x4, .int .u64 s.x5, .int .u64 s.x6, .int .u64 s.x7, .bool s.i, .int .u64 s.x8, .int .u64 s.x9, .int .u64 s.x10, .int .u64 s.x11]] w fun e w' => e = .returned (.int .i64 (finR L id s).1) ∧ RQ w' Z r (finR L id s).2 ∧ Off Z w w' := by
  obtain ⟨a, cap, c0', hrow⟩ := hR.c0
  obtain ⟨n, hn⟩ : ∃ n, n = L.length := ⟨_, rfl⟩
  rw [← hn] at c0'
  obtain ⟨W1, hW1⟩ : ∃ W1, W1 = w.alloc (.cells #[.int .u64 s.x0, .int .u64 s.x1, .int .u64 s.x2, .int .u64 s.x3, .int .u64 s.x4, .int .u64 s.x5, .int .u64 s.x6, .int .u64 s.x7, .bool s.i, .int .u64 s.x8, .int .u64 s.x9, .int .u64 s.x10, .int .u64 s.x11] 38) := ⟨_, rfl⟩
  obtain ⟨E, hE⟩ : ∃ E, E = w.heap.size := ⟨_, rfl⟩
  have HW : Hid (W1 = w.alloc (.cells #[.int .u64 s.x0, .int .u64 s.x1, .int .u64 s.x2, .int .u64 s.x3, .int .u64 s.x4, .int .u64 s.x5, .int .u64 s.x6, .int .u64 s.x7, .bool s.i, .int .u64 s.x8, .int .u64 s.x9, .int .u64 s.x10, .int .u64 s.x11] 38) ∧ E = w.heap.size) := ⟨hW1, hE⟩
  have hb1 : Below w.heap.size w W1 := by rw [hW1]; exact below_alloc0 (Below.refl _ _) _
  have hbx : Blk W1 E [.int .u64 s.x0, .int .u64 s.x1, .int .u64 s.x2, .int .u64 s.x3, .int .u64 s.x4, .int .u64 s.x5, .int .u64 s.x6, .int .u64 s.x7, .bool s.i, .int .u64 s.x8, .int .u64 s.x9, .int .u64 s.x10, .int .u64 s.x11] := by rw [hW1, hE]; exact Blk.new w [.int .u64 s.x0, .int .u64 s.x1, .int .u64 s.x2, .int .u64 s.x3, .int .u64 s.x4, .int .u64 s.x5, .int .u64 s.x6, .int .u64 s.x7, .bool s.i, .int .u64 s.x8, .int .u64 s.x9, .int .u64 s.x10, .int .u64 s.x11] 38
  have c0 : W1.cell? ⟨r, 0, none⟩ = some (.slice a n cap) := (hb1.cell (p := ⟨r, 0, none⟩) hR.rl).trans c0'
  have rl : r < W1.heap.size := Nat.lt_of_lt_of_le hR.rl hb1.size
  have n4 : (n : Int) < 10000 := by omega
  have HT : Hid ((∀ k, w.heap.size ≤ k → Z k) ∧ RQ w Z r L ∧ Off Z w W1 ∧ Below w.heap.size w W1 ∧ Blk W1 E [.int .u64 s.x0, .int .u64 s.x1, .int .u64 s.x2, .int .u64 s.x3, .int .u64 s.x4, .int .u64 s.x5, .int .u64 s.x6, .int .u64 s.x7, .bool s.i, .int .u64 s.x8, .int .u64 s.x9, .int .u64 s.x10, .int .u64 s.x11]) := ⟨hZ, hR, Off.of_below hb1 hZ, hb1, hbx⟩
  have HR : Hid (RQ W1 Z r L ∧ n = L.length ∧ RowX oneE 16 W1 (fun k => (Z k ∧ k ≠ r) ∧ k ≠ E) a L cap ∧ n < 10000 ∧ QOk L) := ⟨hR.call hb1, hn, (hrow.mono (Q := fun k => (Z k ∧ k ≠ r) ∧ k ≠ E) (fun k hk hz => ⟨hz, by omega⟩)).call hb1, by omega, hok⟩
  clear hR hok hN hZ hb1 hbx hW1 hE c0' hn hrow
  go_enter Try.func12, Try.ntmps12
  go_upto_region 1 with fail
  rw [← HW.out.1, ← HW.out.2]
  go_wp2_with fail
  rename_i Kr hKr
  have HKr : Hid _ := hKr
  clear hKr
  go_loopw [14] (fun iv wr => ∃ i : Nat, i ≤ n ∧ NoW (L.take i) id ∧ iv = .int .i64 (i : Nat) ∧ Below W1.heap.size W1 wr) (fun iv _ => n - (Go.RowKit.intOf iv).toNat)
  case atStart => exact ⟨0, Nat.zero_le _, fun e he => (by cases he), rfl, Below.refl _ _⟩
  case round =>
    obtain ⟨i, hi, hno, rfl, hb⟩ := hrel
    rename World => wr
    have HI : Hid (i ≤ n ∧ NoW (L.take i) id ∧ Below W1.heap.size W1 wr) := ⟨hi, hno, hb⟩
    by_cases hlt : i < n
    · skip
      have hlt' : (i : Int) < (n : Nat) := by omega
      obtain ⟨x, hx⟩ : ∃ x, L[i]? = some x := ⟨_, List.getElem?_eq_getElem (by rw [← HR.out.2.1]; exact hlt)⟩
      obtain ⟨p, o, rfl, hc, hp, hpF, hpz⟩ := HR.out.2.2.1.get oneE_len hx
      have hcr : ∀ c u, (oneE x)[c]? = some u → wr.cell? ⟨p, o + i * 16 + c, none⟩ = some u := fun c u hu => (hb.cell (p := ⟨p, _, none⟩) hp).trans (hc c u hu)
      have k0 : wr.cell? ⟨p, o + i * 16, none⟩ = some (.int .i64 (x.id : Nat)) := hcr 0 _ rfl
      have k1 : wr.cell? ⟨p, o + i * 16 + 1, none⟩ = some (.string x.m) := hcr 1 _ rfl
      have k2 : wr.cell? ⟨p, o + i * 16 + 2, none⟩ = some (.bool x.d) := hcr 2 _ rfl
      have k3 : wr.cell? ⟨p, o + i * 16 + 3, none⟩ = some (.int .u64 x.S.x0) := hcr 3 _ rfl
      have k4 : wr.cell? ⟨p, o + i * 16 + 4, none⟩ = some (.int .u64 x.S.x1) := hcr 4 _ rfl
      have k5 : wr.cell? ⟨p, o + i * 16 + 5, none⟩ = some (.int .u64 x.S.x2) := hcr 5 _ rfl
      have k6 : wr.cell? ⟨p, o + i * 16 + 6, none⟩ = some (.int .u64 x.S.x3) := hcr 6 _ rfl
      have k7 : wr.cell? ⟨p, o + i * 16 + 7, none⟩ = some (.int .u64 x.S.x4) := hcr 7 _ rfl
      have k8 : wr.cell? ⟨p, o + i * 16 + 8, none⟩ = some (.int .u64 x.S.x5) := hcr 8 _ rfl
      have k9 : wr.cell? ⟨p, o + i * 16 + 9, none⟩ = some (.int .u64 x.S.x6) := hcr 9 _ rfl
      have k10 : wr.cell? ⟨p, o + i * 16 + 10, none⟩ = some (.int .u64 x.S.x7) := hcr 10 _ rfl
      have k11 : wr.cell? ⟨p, o + i * 16 + 11, none⟩ = some (.bool x.S.i) := hcr 11 _ rfl
      have k12 : wr.cell? ⟨p, o + i * 16 + 12, none⟩ = some (.int .u64 x.S.x8) := hcr 12 _ rfl
      have k13 : wr.cell? ⟨p, o + i * 16 + 13, none⟩ = some (.int .u64 x.S.x9) := hcr 13 _ rfl
      have k14 : wr.cell? ⟨p, o + i * 16 + 14, none⟩ = some (.int .u64 x.S.x10) := hcr 14 _ rfl
      have k15 : wr.cell? ⟨p, o + i * 16 + 15, none⟩ = some (.int .u64 x.S.x11) := hcr 15 _ rfl
      obtain ⟨W2, hW2⟩ : ∃ W2, W2 = wr.alloc (.cells #[.int .i64 (x.id : Nat), .string x.m, .bool x.d, .int .u64 x.S.x0, .int .u64 x.S.x1, .int .u64 x.S.x2, .int .u64 x.S.x3, .int .u64 x.S.x4, .int .u64 x.S.x5, .int .u64 x.S.x6, .int .u64 x.S.x7, .bool x.S.i, .int .u64 x.S.x8, .int .u64 x.S.x9, .int .u64 x.S.x10, .int .u64 x.S.x11] 56) := ⟨_, rfl⟩
      obtain ⟨G, hG⟩ : ∃ G, G = wr.heap.size := ⟨_, rfl⟩
      have HW2 : Hid (W2 = wr.alloc (.cells #[.int .i64 (x.id : Nat), .string x.m, .bool x.d, .int .u64 x.S.x0, .int .u64 x.S.x1, .int .u64 x.S.x2, .int .u64 x.S.x3, .int .u64 x.S.x4, .int .u64 x.S.x5, .int .u64 x.S.x6, .int .u64 x.S.x7, .bool x.S.i, .int .u64 x.S.x8, .int .u64 x.S.x9, .int .u64 x.S.x10, .int .u64 x.S.x11] 56) ∧ G = wr.heap.size) := ⟨hW2, hG⟩
      have hb2 : Below wr.heap.size wr W2 := by rw [hW2]; exact below_alloc0 (Below.refl _ _) _
      have hb12 : Below W1.heap.size W1 W2 := hb.trans (hb2.mono hb.size)
      have hbw : Below w.heap.size w W2 := HT.out.2.2.2.1.trans (hb12.mono HT.out.2.2.2.1.size)
      have H2 : Hid (Below W1.heap.size W1 W2 ∧ Blk W2 E [.int .u64 s.x0, .int .u64 s.x1, .int .u64 s.x2, .int .u64 s.x3, .int .u64 s.x4, .int .u64 s.x5, .int .u64 s.x6, .int .u64 s.x7, .bool s.i, .int .u64 s.x8, .int .u64 s.x9, .int .u64 s.x10, .int .u64 s.x11] ∧ Blk W2 G [.int .i64 (x.id : Nat), .string x.m, .bool x.d, .int .u64 x.S.x0, .int .u64 x.S.x1, .int .u64 x.S.x2, .int .u64 x.S.x3, .int .u64 x.S.x4, .int .u64 x.S.x5, .int .u64 x.S.x6, .int .u64 x.S.x7, .bool x.S.i, .int .u64 x.S.x8, .int .u64 x.S.x9, .int .u64 x.S.x10, .int .u64 x.S.x11] ∧ RQ W2 Z r L ∧ Off Z w W2 ∧ RowX oneE 16 W2 (fun k => Z k ∧ k ≠ r) (some ⟨p, o, none⟩) L cap) := ⟨hb12, HT.out.2.2.2.2.call hb12, by rw [hW2, hG]; exact Blk.new wr [.int .i64 (x.id : Nat), .string x.m, .bool x.d, .int .u64 x.S.x0, .int .u64 x.S.x1, .int .u64 x.S.x2, .int .u64 x.S.x3, .int .u64 x.S.x4, .int .u64 x.S.x5, .int .u64 x.S.x6, .int .u64 x.S.x7, .bool x.S.i, .int .u64 x.S.x8, .int .u64 x.S.x9, .int .u64 x.S.x10, .int .u64 x.S.x11] 56, HR.out.1.call hb12, Off.of_below hbw HT.out.1, (HR.out.2.2.1.call hb12).mono (fun k _ hk => hk.1)⟩
      have d0 : W2.cell? ⟨r, 0, none⟩ = some (.slice (some ⟨p, o, none⟩) n cap) := (hb12.cell (p := ⟨r, 0, none⟩) rl).trans c0
      have HX : Hid (L[i]? = some x ∧ i < n) := ⟨hx, hlt⟩
      have zq : ∀ j, W2.frozen? ⟨p, j, none⟩ = false := fun j => (hb12.frozen (p := ⟨p, j, none⟩) hp).trans (hpz j)
      have hcq : ∀ c u, (oneE x)[c]? = some u → W2.cell? ⟨p, o + i * 16 + c, none⟩ = some u := fun c u hu => (hb12.cell (p := ⟨p, _, none⟩) hp).trans (hc c u hu)
      have pr : p ≠ r := hpF.1.2
      have pE : p ≠ E := hpF.2
      clear hb hx hc hcr hi hno hlt hp hW2 hG hb2 hbw hb12 hpF hpz
      go_upto_region 4 with fail
      rw [← HW2.out.1, ← HW2.out.2]
      clear HW2 k0 k1 k2 k3 k4 k5 k6 k7 k8 k9 k10 k11 k12 k13 k14 k15
      have g0 : W2.cell? ⟨G, 0, none⟩ = some (.int .i64 (x.id : Nat)) := H2.out.2.2.1.2.2 0 _ rfl
      have g2 : W2.cell? ⟨G, 2, none⟩ = some (.bool x.d) := H2.out.2.2.1.2.2 2 _ rfl
      by_cases hxi : (x.id : Int) = id
      · have hxb : ((x.id : Int) == id) = true := by rw [hxi]; simp
        obtain ⟨D, hD⟩ : ∃ D, D = x.d := ⟨_, rfl⟩
        rw [← hD] at g2
        have HXI : Hid ((x.id : Int) = id ∧ D = x.d) := ⟨hxi, hD⟩
        clear hxi hD
        cases D with
        | true =>
          clear HKr hcq
          go_wp2_with fail
          go_roundw
          case rel => exact ⟨i + 1, by have := HX.out.2; omega, HI.out.2.1.next HX.out.1 (fun _ => HXI.out.2.symm), by first | rfl | (congr 1), H2.out.1⟩
          case measure => simp [Go.RowKit.intOf]; omega
        | false =>
          have HF : Hid (finR L id s = (0, L.set i ⟨x.id, x.m, true, s⟩)) := fin_some HR.out.2.2.2.2 HX.out.1 HXI.out.1 HXI.out.2.symm
          clear HKr
          have q0 : W2.cell? ⟨p, o + i * 16, none⟩ = some (.int .i64 (x.id : Nat)) := hcq 0 _ rfl
          have q1 : W2.cell? ⟨p, o + i * 16 + 1, none⟩ = some (.string x.m) := hcq 1 _ rfl
          have q2 : W2.cell? ⟨p, o + i * 16 + 2, none⟩ = some (.bool x.d) := hcq 2 _ rfl
          have q3 : W2.cell? ⟨p, o + i * 16 + 3, none⟩ = some (.int .u64 x.S.x0) := hcq 3 _ rfl
          have q4 : W2.cell? ⟨p, o + i * 16 + 4, none⟩ = some (.int .u64 x.S.x1) := hcq 4 _ rfl
          have q5 : W2.cell? ⟨p, o + i * 16 + 5, none⟩ = some (.int .u64 x.S.x2) := hcq 5 _ rfl
          have q6 : W2.cell? ⟨p, o + i * 16 + 6, none⟩ = some (.int .u64 x.S.x3) := hcq 6 _ rfl
          have q7 : W2.cell? ⟨p, o + i * 16 + 7, none⟩ = some (.int .u64 x.S.x4) := hcq 7 _ rfl
          have q8 : W2.cell? ⟨p, o + i * 16 + 8, none⟩ = some (.int .u64 x.S.x5) := hcq 8 _ rfl
          have q9 : W2.cell? ⟨p, o + i * 16 + 9, none⟩ = some (.int .u64 x.S.x6) := hcq 9 _ rfl
          have q10 : W2.cell? ⟨p, o + i * 16 + 10, none⟩ = some (.int .u64 x.S.x7) := hcq 10 _ rfl
          have q11 : W2.cell? ⟨p, o + i * 16 + 11, none⟩ = some (.bool x.S.i) := hcq 11 _ rfl
          have q12 : W2.cell? ⟨p, o + i * 16 + 12, none⟩ = some (.int .u64 x.S.x8) := hcq 12 _ rfl
          have q13 : W2.cell? ⟨p, o + i * 16 + 13, none⟩ = some (.int .u64 x.S.x9) := hcq 13 _ rfl
          have q14 : W2.cell? ⟨p, o + i * 16 + 14, none⟩ = some (.int .u64 x.S.x10) := hcq 14 _ rfl
          have q15 : W2.cell? ⟨p, o + i * 16 + 15, none⟩ = some (.int .u64 x.S.x11) := hcq 15 _ rfl
          have s0 : W2.cell? ⟨E, 0, none⟩ = some (.int .u64 s.x0) := H2.out.2.1.2.2 0 _ rfl
          have s1 : W2.cell? ⟨E, 1, none⟩ = some (.int .u64 s.x1) := H2.out.2.1.2.2 1 _ rfl
          have s2 : W2.cell? ⟨E, 2, none⟩ = some (.int .u64 s.x2) := H2.out.2.1.2.2 2 _ rfl
          have s3 : W2.cell? ⟨E, 3, none⟩ = some (.int .u64 s.x3) := H2.out.2.1.2.2 3 _ rfl
          have s4 : W2.cell? ⟨E, 4, none⟩ = some (.int .u64 s.x4) := H2.out.2.1.2.2 4 _ rfl
          have s5 : W2.cell? ⟨E, 5, none⟩ = some (.int .u64 s.x5) := H2.out.2.1.2.2 5 _ rfl
          have s6 : W2.cell? ⟨E, 6, none⟩ = some (.int .u64 s.x6) := H2.out.2.1.2.2 6 _ rfl
          have s7 : W2.cell? ⟨E, 7, none⟩ = some (.int .u64 s.x7) := H2.out.2.1.2.2 7 _ rfl
          have s8 : W2.cell? ⟨E, 8, none⟩ = some (.bool s.i) := H2.out.2.1.2.2 8 _ rfl
          have s9 : W2.cell? ⟨E, 9, none⟩ = some (.int .u64 s.x8) := H2.out.2.1.2.2 9 _ rfl
          have s10 : W2.cell? ⟨E, 10, none⟩ = some (.int .u64 s.x9) := H2.out.2.1.2.2 10 _ rfl
          have s11 : W2.cell? ⟨E, 11, none⟩ = some (.int .u64 s.x10) := H2.out.2.1.2.2 11 _ rfl
          have s12 : W2.cell? ⟨E, 12, none⟩ = some (.int .u64 s.x11) := H2.out.2.1.2.2 12 _ rfl
          have il : (i : Int) < (n : Nat) := by have := HX.out.2; omega
          have rp : r ≠ p := fun c => pr c.symm
          have Ep : E ≠ p := fun c => pE c.symm
          clear hcq q0 q1
          go_wp2_with fail
          go_region
          go_wp2_with fail
          go_ret
          rw [HF.out]
          refine ⟨rfl, ?_⟩
          exact putD_end' H2.out.2.2.2.1 H2.out.2.2.2.2.2 HR.out.2.1 d0 HX.out.1 H2.out.2.2.2.2.1
      · have hxb : ((x.id : Int) == id) = false := beq_eq_false_iff_ne.2 hxi
        have HXI : Hid (¬ (x.id : Int) = id) := hxi
        clear HKr hcq
        go_wp2_with fail
        go_roundw
        case rel => exact ⟨i + 1, by have := HX.out.2; omega, HI.out.2.1.next HX.out.1 (fun c => absurd c HXI.out), by first | rfl | (congr 1), H2.out.1⟩
        case measure => simp [Go.RowKit.intOf]; omega
    · have hge : ¬ ((i : Int) < (n : Nat)) := by omega
      have HF : Hid (finR L id s = (6, L)) := by
        have e : L.take i = L := List.take_of_length_le (by rw [← HR.out.2.1]; omega)
        have := hno
        rw [e] at this
        exact fin_none this
      have HBB : Hid (Below W1.heap.size W1 wr) := hb
      clear hi hlt hno hb
      go_wp2_with fail
      refine HKr.out _ _ ?_
      clear HKr
      go_wp2_with fail
      go_ret
      rw [HF.out]
      have hbw := HT.out.2.2.2.1.trans (HBB.out.mono HT.out.2.2.2.1.size)
      exact ⟨rfl, HT.out.2.1.call hbw, Off.of_below hbw HT.out.1⟩
end Go.Proofs.Ytolhkpgpcbebiaa
