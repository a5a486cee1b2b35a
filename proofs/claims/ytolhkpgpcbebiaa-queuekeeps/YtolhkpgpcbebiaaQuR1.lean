/- The reference's queue: its rows; Waits, same. -/
import Derived.Test.YtolhkpgpcbebiaaQuF
import Derived.Test.YtolhkpgpcbebiaaHeldR
namespace Go.Proofs.Ytolhkpgpcbebiaa
open Go Go.RowKit Go.Lib
def oneE (e : Qe) : List Value := [.int .i64 (e.id : Nat), .string e.m, .bool e.d, .int .u64 e.S.x0, .int .u64 e.S.x1, .int .u64 e.S.x2, .int .u64 e.S.x3, .int .u64 e.S.x4, .int .u64 e.S.x5, .int .u64 e.S.x6, .int .u64 e.S.x7, .bool e.S.i, .int .u64 e.S.x8, .int .u64 e.S.x9, .int .u64 e.S.x10, .int .u64 e.S.x11]
theorem oneE_len (e : Qe) : (oneE e).length = 16 := rfl
theorem oneE_one (e : Qe) : ∀ u ∈ oneE e, u.oneCell' = true := fun u hu => by
  simp only [oneE, List.mem_cons, List.not_mem_nil, or_false] at hu
  rcases hu with rfl | rfl | rfl | rfl | rfl | rfl | rfl | rfl | rfl | rfl | rfl | rfl | rfl | rfl | rfl | rfl <;> rfl
theorem infoO : InfE Try.prog 27 56 16 136 := by
  refine ⟨Try.underlying27, ?_⟩
  have h : (Try.prog.info? 56).map (fun i => (i.zero, i.size, i.bytes)) = some (some (.agg #[.int .i64 0, .string ⟨#[]⟩, .bool false, .int .u64 0, .int .u64 0, .int .u64 0, .int .u64 0, .int .u64 0, .int .u64 0, .int .u64 0, .int .u64 0, .bool false, .int .u64 0, .int .u64 0, .int .u64 0, .int .u64 0]), 16, 136) := by kernel_rfl
  cases e : Try.prog.info? 56 with
  | none => rw [e] at h; cases h
  | some i =>
    rw [e] at h
    simp only [Option.map_some, Option.some.injEq, Prod.mk.injEq] at h
    exact ⟨i, _, rfl, h.1, rfl, h.2.1, h.2.2⟩
/-- The reference's queue at block r. -/
structure RQ (w : World) (Z : Nat → Prop) (r : Nat) (L : List Qe) : Prop where
  zr : Z r
  rl : r < w.heap.size
  fr : ∀ o, w.frozen? ⟨r, o, none⟩ = false
  c0 : ∃ a cap, w.cell? ⟨r, 0, none⟩ = some (.slice a L.length cap) ∧ RowX oneE 16 w (fun k => Z k ∧ k ≠ r) a L cap
theorem RQ.kept {w w' : World} {Z : Nat → Prop} {r : Nat} {L : List Qe} (h : RQ w Z r L) (hz : w.heap.size ≤ w'.heap.size) (hb : ∀ k, Z k → k < w.heap.size → w'.heap[k]? = w.heap[k]?) : RQ w' Z r L := by
  obtain ⟨a, cap, h0, h1⟩ := h.c0
  have e := hb r h.zr h.rl
  exact ⟨h.zr, Nat.lt_of_lt_of_le h.rl hz, fun o => (World.frozen?_of_block (w := w) (a := ⟨r, o, none⟩) e).trans (h.fr o), a, cap, (World.cell?_of_block (w := w) (a := ⟨r, 0, none⟩) e).trans h0, h1.kept hz (fun k hk hl => hb k hk.1 hl)⟩
theorem RQ.call {w w' : World} {Z : Nat → Prop} {r : Nat} {L : List Qe} (h : RQ w Z r L) (hb : Below w.heap.size w w') : RQ w' Z r L := h.kept hb.size (fun k _ hk => hb.block k hk)
theorem RQ.mono {w : World} {Z Z' : Nat → Prop} {r : Nat} {L : List Qe} (h : RQ w Z r L) (hz : ∀ k, k < w.heap.size → Z k → Z' k) : RQ w Z' r L := by
  obtain ⟨a, cap, h0, h1⟩ := h.c0
  exact ⟨hz r h.rl h.zr, h.rl, h.fr, a, cap, h0, h1.mono (fun k hk hl => ⟨hz k hk hl.1, hl.2⟩)⟩
theorem waitQ_snoc (x : Qe) : ∀ A : List Qe, waitQ (A ++ [x]) = waitQ A ++ (if x.d then [] else [x])
  | [] => by rw [List.nil_append, waitQ, waitQ]; split <;> rfl
  | e :: A => by
    rw [List.cons_append, waitQ, waitQ, waitQ_snoc x A]
    split
    · rfl
    · rfl
theorem wait_d {L : List Qe} {i : Nat} {x : Qe} (h : L[i]? = some x) (hd : x.d = true) : waitQ (L.take (i + 1)) = waitQ (L.take i) := by rw [take_snoc h, waitQ_snoc, if_pos hd, List.append_nil]
theorem wait_n {L : List Qe} {i : Nat} {x : Qe} (h : L[i]? = some x) (hd : x.d = false) : waitQ (L.take (i + 1)) = waitQ (L.take i) ++ [x] := by rw [take_snoc h, waitQ_snoc, if_neg (by rw [hd]; decide)]
theorem waitQ_split (A : List Qe) : ∀ B : List Qe, waitQ (B ++ A) = waitQ B ++ waitQ A
  | [] => rfl
  | e :: B => by
    rw [List.cons_append, waitQ, waitQ, waitQ_split A B]
    split
    · rfl
    · rfl
theorem wait_get {L : List Qe} {i : Nat} {x : Qe} (h : L[i]? = some x) (hd : x.d = false) : (waitQ L)[(waitQ (L.take i)).length]? = some x := by
  have e : L = L.take i ++ x :: L.drop (i + 1) := by
    have hi := (List.getElem?_eq_some_iff.1 h)
    rw [← hi.2]
    simp
  have : waitQ L = waitQ (L.take i) ++ x :: waitQ (L.drop (i + 1)) := by
    conv => lhs; rw [e]
    rw [waitQ_split, waitQ, if_neg (by rw [hd]; decide)]
  rw [this, List.getElem?_append_right (Nat.le_refl _), Nat.sub_self]
  rfl
set_option maxRecDepth 100000 in
set_option maxHeartbeats 4000000 in
theorem waits_in (r : Nat) (Z : Nat → Prop) (L : List Qe) (w : World) (hR : RQ w Z r L) (hN : L.length < 10000) (N : Nat) (hNN : N = (waitQ L).length) : Calls Try.prog 16 #[.pointer (some ⟨r, 0, none⟩)] w fun e w' => e = .returned (.int .i64 (N : Nat)) ∧ Below w.heap.size w w' := by
  have HNN : Hid (N = (waitQ L).length) := hNN
  clear hNN
  obtain ⟨a, cap, c0, hrow⟩ := hR.c0
  obtain ⟨n, hn⟩ : ∃ n, n = L.length := ⟨_, rfl⟩
  rw [← hn] at c0
  have rl := hR.rl
  have n4 : (n : Int) < 10000 := by omega
  have HR : Hid (RQ w Z r L ∧ n = L.length ∧ RowX oneE 16 w (fun k => Z k ∧ k ≠ r) a L cap ∧ n < 10000) := ⟨hR, hn, hrow, by omega⟩
  clear hR hrow hn hN
  go_enter Try.func16, Try.ntmps16
  go_wp2_with fail
  rename_i Kr hKr
  have HKr : Hid _ := hKr
  clear hKr
  go_loopw [3, 11] (fun cv iv wr => ∃ (i c : Nat), i ≤ n ∧ c = (waitQ (L.take i)).length ∧ cv = .int .i64 (c : Nat) ∧ iv = .int .i64 (i : Nat) ∧ Below w.heap.size w wr) (fun _ iv _ => n - (Go.RowKit.intOf iv).toNat)
  case atStart => exact ⟨0, 0, Nat.zero_le _, rfl, rfl, rfl, Below.refl _ _⟩
  case round =>
    obtain ⟨i, c, hi, hc0, rfl, rfl, hb⟩ := hrel
    rename World => wr
    have HI : Hid (i ≤ n ∧ c = (waitQ (L.take i)).length ∧ Below w.heap.size w wr) := ⟨hi, hc0, hb⟩
    have c4 : (c : Int) < 10000 := by have := waitQ_len (L.take i); rw [List.length_take] at this; have := HR.out.2.2.2; omega
    by_cases hlt : i < n
    · skip
      have hlt' : (i : Int) < (n : Nat) := by omega
      obtain ⟨x, hx⟩ : ∃ x, L[i]? = some x := ⟨_, List.getElem?_eq_getElem (by rw [← HR.out.2.1]; exact hlt)⟩
      obtain ⟨p, o, rfl, hc, hp, -, -⟩ := HR.out.2.2.1.get oneE_len hx
      have hcr : ∀ c u, (oneE x)[c]? = some u → wr.cell? ⟨p, o + i * 16 + c, none⟩ = some u := fun c u hu => (hb.cell (p := ⟨p, _, none⟩) hp).trans (hc c u hu)
      have k0 : wr.cell? ⟨p, o + i * 16, none⟩ = some (.int .i64 (x.id : Nat)) := hcr 0 _ rfl
      have k1 : wr.cell? ⟨p, o + i * 16 + 1, none⟩ = some (.string x.m) := hcr 1 _ rfl
      have k2 : wr.cell? ⟨p, o + i * 16 + 2, none⟩ = some (.bool x.d) := hcr 2 _ rfl
      have k3 : wr.cell? ⟨p, o + i * 16 + 3, none⟩ = some (.int .u64 x.S.x0) := hcr 3 _ rfl
      have k4 : wr.cell? ⟨p, o + i * 16 + 4, none⟩ = some (.int .u64 x.S.x1) := hcr 4 _ rfl
      have k5 : wr.cell? ⟨p, o + i * 16 + 5, none⟩ = some (.int .u64 x.S.x2) := hcr 5 _ rfl
      have k6 : wr.cell? ⟨p, o + i * 16 + 6, none⟩ = some (.int .u64 x.S.x3) := hcr 6 _ rfl
      have k7 : wr.cell? ⟨p, o + i * 16 + 7, none⟩ = some (.int .u64 x.S.x4) := hcr 7 _ rfl
      have k8 : wr.cell? ⟨p, o + i * 16 + 8, none⟩ = some (.int .u64 x.S.x5) := hcr 8 _ rfl
      have k9 : wr.cell? ⟨p, o + i * 16 + 9, none⟩ = some (.int .u64 x.S.x6) := hcr 9 _ rfl
      have k10 : wr.cell? ⟨p, o + i * 16 + 10, none⟩ = some (.int .u64 x.S.x7) := hcr 10 _ rfl
      have k11 : wr.cell? ⟨p, o + i * 16 + 11, none⟩ = some (.bool x.S.i) := hcr 11 _ rfl
      have k12 : wr.cell? ⟨p, o + i * 16 + 12, none⟩ = some (.int .u64 x.S.x8) := hcr 12 _ rfl
      have k13 : wr.cell? ⟨p, o + i * 16 + 13, none⟩ = some (.int .u64 x.S.x9) := hcr 13 _ rfl
      have k14 : wr.cell? ⟨p, o + i * 16 + 14, none⟩ = some (.int .u64 x.S.x10) := hcr 14 _ rfl
      have k15 : wr.cell? ⟨p, o + i * 16 + 15, none⟩ = some (.int .u64 x.S.x11) := hcr 15 _ rfl
      have HX : Hid (L[i]? = some x ∧ i < n) := ⟨hx, hlt⟩
      obtain ⟨D, hD⟩ : ∃ D, D = x.d := ⟨_, rfl⟩
      rw [← hD] at k2
      have HD : Hid (D = x.d) := hD
      clear hb hx hc hcr hi hc0 hlt hp hD
      cases D with
      | true =>
        go_wp2_with fail
        go_roundw
        case rel => exact ⟨i + 1, c, by have := HX.out.2; omega, by rw [wait_d HX.out.1 HD.out.symm]; exact HI.out.2.1, rfl, by first | rfl | (congr 1), HI.out.2.2.alloc HI.out.2.2.size _⟩
        case measure => simp [Go.RowKit.intOf]; omega
      | false =>
        obtain ⟨c1, hc1⟩ : ∃ c1, c1 = c + 1 := ⟨_, rfl⟩
        have c5 : (c : Int) + 1 = (c1 : Nat) := by omega
        have c6 : (c1 : Int) < 10001 := by omega
        have HC1 : Hid (c1 = c + 1) := hc1
        clear hc1
        go_wp2_with fail
        go_roundw
        case rel => exact ⟨i + 1, c1, by have := HX.out.2; omega, by rw [wait_n HX.out.1 HD.out.symm, List.length_append, HC1.out, HI.out.2.1]; rfl, by first | rfl | (congr 1), by first | rfl | (congr 1), HI.out.2.2.alloc HI.out.2.2.size _⟩
        case measure => simp [Go.RowKit.intOf]; omega
    · have hge : ¬ ((i : Int) < (n : Nat)) := by omega
      have HE : Hid (c = N) := by
        have e : L.take i = L := List.take_of_length_le (by rw [← HR.out.2.1]; omega)
        have := HI.out.2.1
        rw [e, ← HNN.out] at this
        exact this
      clear hi hc0 hlt hb
      go_wp2_with fail
      refine HKr.out _ _ ?_
      clear HKr
      go_wp2_with fail
      go_ret
      exact ⟨by rw [← HE.out]; rfl, HI.out.2.2⟩
end Go.Proofs.Ytolhkpgpcbebiaa
