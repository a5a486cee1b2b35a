/- The reference's Sum. -/
import Derived.Test.YtienklnigigepaaGreatDoorRef4W
import Derived.Test.YtienklnigigepaaGreatDoorRef4R
namespace Go.Proofs.YtienklnigigepaaGreatDoor
open Go.RowKit

def put8 (w : World) (p : Nat) (r : E8) : World := ((((((((w.setCell ⟨p, 0, none⟩ (.int .i64 (r.a : Nat))).setCell ⟨p, 1, none⟩ (.int .i64 (r.b : Nat))).setCell ⟨p, 2, none⟩ (.int .i64 (r.c : Nat))).setCell ⟨p, 3, none⟩ (.int .i64 (r.d : Nat))).setCell ⟨p, 4, none⟩ (.int .i64 (r.e : Nat))).setCell ⟨p, 5, none⟩ (.int .i64 (r.f : Nat))).setCell ⟨p, 6, none⟩ (.int .i64 (r.g : Nat))).setCell ⟨p, 7, none⟩ (.int .i64 (r.h : Nat)))
def ovr (f : Nat → Nat) (r : E8) (k j : Nat) : Nat := if j < k then r.get j else f j
theorem RowK.step {w : World} {p k v : Nat} {f : Nat → Nat} {r : E8} (h : RowK .i64 w p 8 (ovr f r k)) (hk : k < 8) (hv : v = r.get k) : RowK .i64 (w.setCell ⟨p, k, none⟩ (.int .i64 (v : Nat))) p 8 (ovr f r (k + 1)) :=
  h.set hk (by rw [hv]; unfold ovr; rw [if_pos (Nat.lt_succ_self k)]) (fun j _ hne => by
    unfold ovr
    by_cases c : j < k
    · rw [if_pos c, if_pos (Nat.lt_succ_of_lt c)]
    · rw [if_neg c, if_neg (by omega)])
theorem RowK.put8 {w : World} {p : Nat} {f : Nat → Nat} {r : E8} (h : RowK .i64 w p 8 f) : RowK .i64 (put8 w p r) p 8 r.get := by
  have h0 : RowK .i64 w p 8 (ovr f r 0) := ⟨fun j hj => by rw [h.1 j hj]; unfold ovr; rw [if_neg (Nat.not_lt_zero j)], h.2⟩
  have h8 := (((((((h0.step (v := r.a) (by decide) rfl).step (v := r.b) (by decide) rfl).step (v := r.c) (by decide) rfl).step (v := r.d) (by decide) rfl).step (v := r.e) (by decide) rfl).step (v := r.f) (by decide) rfl).step (v := r.g) (by decide) rfl).step (v := r.h) (by decide) rfl
  exact ⟨fun j hj => (h8.1 j hj).trans (by unfold ovr; rw [if_pos hj]), h8.2⟩
theorem RowK.put8o {K : IntKind} {w : World} {p q n : Nat} {f : Nat → Nat} {r : E8} (h : RowK K w q n f) (hne : p ≠ q) : RowK K (Go.Proofs.YtienklnigigepaaGreatDoor.put8 w p r) q n f :=
  (((((((h.other hne).other hne).other hne).other hne).other hne).other hne).other hne).other hne
theorem IntsAt.other {w : World} {p q o n k : Nat} {v : Value} {f : Nat → Nat} (h : IntsAt w q o n f) (hne : p ≠ q) : IntsAt (w.setCell ⟨p, k, none⟩ v) q o n f :=
  ⟨fun j hj => by rw [World.cell?_setCell_other _ _ _ _ (by intro c; injection c with c1 _ _; exact hne c1)]; exact h.1 j hj, by rw [World.size_setCell]; exact h.2⟩
theorem IntsAt.put8 {w : World} {p q o n : Nat} {f : Nat → Nat} {r : E8} (h : IntsAt w q o n f) (hne : p ≠ q) : IntsAt (Go.Proofs.YtienklnigigepaaGreatDoor.put8 w p r) q o n f :=
  (((((((h.other hne).other hne).other hne).other hne).other hne).other hne).other hne).other hne
theorem below_put8 {B : Nat} {a w : World} {p : Nat} {r : E8} (h : Below B a w) (hp : B ≤ p) : Below B a (put8 w p r) :=
  Below.setCell (p := ⟨p, 7, none⟩) (Below.setCell (p := ⟨p, 6, none⟩) (Below.setCell (p := ⟨p, 5, none⟩) (Below.setCell (p := ⟨p, 4, none⟩) (Below.setCell (p := ⟨p, 3, none⟩) (Below.setCell (p := ⟨p, 2, none⟩) (Below.setCell (p := ⟨p, 1, none⟩) (Below.setCell (p := ⟨p, 0, none⟩) h hp _) hp _) hp _) hp _) hp _) hp _) hp _) hp _
theorem RowK.call {K : IntKind} {W w1 : World} {p n : Nat} {f : Nat → Nat} (h : RowK K W p n f) (hb : Below W.heap.size W w1) : RowK K w1 p n f :=
  ⟨fun j hj => (hb.cell (p := ⟨p, j, none⟩) h.2.2).trans (h.1 j hj), fun o => (hb.frozen (p := ⟨p, o, none⟩) h.2.2).trans (h.2.1 o), Nat.lt_of_lt_of_le h.2.2 hb.size⟩
theorem low_init : Low8 init8 := by unfold Low8 init8; decide
theorem low_rnd {x : E8} (h : Low8 x) (k v : Nat) : Low8 (rnd x k v) := ⟨add32_lt _ _, h.1, h.2.1, h.2.2.1, add32_lt _ _, h.2.2.2.2.1, h.2.2.2.2.2.1, h.2.2.2.2.2.2.1⟩
theorem low_rounds {x : E8} (b : Nat → Nat) (h : Low8 x) (t : Nat) : Low8 (rounds b x t) := by
  induction t with
  | zero => exact h
  | succ t ih => exact low_rnd ih _ _
theorem low_sum (x y : E8) : Low8 (sum8 x y) := ⟨add32_lt _ _, add32_lt _ _, add32_lt _ _, add32_lt _ _, add32_lt _ _, add32_lt _ _, add32_lt _ _, add32_lt _ _⟩
theorem low_hash (T : Nat → Nat) (n : Nat) : Low8 (hashAt T n) := by
  cases n with
  | zero => exact low_init
  | succ n => exact low_sum _ _
theorem cube_lt (j : Nat) : cube j < 4294967296 := by
  unfold cube
  rcases Nat.lt_or_ge j 64 with h | h
  · exact (by decide : ∀ i, i < 64 → cubeL.getD i 0 < 4294967296) j h
  · rw [List.getD_eq_getElem?_getD, List.getElem?_eq_none h]; decide
theorem word4_shift (T : Nat → Nat) (b j : Nat) : word4 T (16 * b + j) = word4 (fun i => T (64 * b + i)) j := by
  unfold word4
  rw [show 4 * (16 * b + j) = 64 * b + 4 * j from by omega]
  rfl
/-- What stays while the blocks are gone through. -/
def SB (w wr : World) (p gl gk M : Nat) (T : Nat → Nat) (x : E8) : Prop := RowK .i64 wr p 8 x.get ∧ IntsAt wr gl 0 M (word4 T) ∧ IntsAt wr gk 0 64 cube ∧ Below w.heap.size w wr ∧ w.heap.size ≤ p ∧ p ≠ gl ∧ p ≠ gk
theorem SB.call {w W w1 : World} {p gl gk M : Nat} {T : Nat → Nat} {x : E8} (h : SB w W p gl gk M T x) (hb : Below W.heap.size W w1) : SB w w1 p gl gk M T x :=
  ⟨h.1.call hb, h.2.1.call hb, h.2.2.1.call hb, below_call0' h.2.2.2.1 hb, h.2.2.2.2⟩
theorem SB.put {w wr : World} {p gl gk M q : Nat} {T : Nat → Nat} {x r : E8} (h : SB w wr p gl gk M T x) (h1 : q ≠ p) (h2 : q ≠ gl) (h3 : q ≠ gk) (h4 : w.heap.size ≤ q) : SB w (put8 wr q r) p gl gk M T x :=
  ⟨h.1.put8o h1, h.2.1.put8 h2, h.2.2.1.put8 h3, below_put8 h.2.2.2.1 h4, h.2.2.2.2⟩
def SY (w wr : World) (p gl gk M : Nat) (T : Nat → Nat) (x : E8) (py gw : Nat) (b : Nat → Nat) (t : Nat) : Prop := SB w wr p gl gk M T x ∧ RowK .i64 wr py 8 (rounds b x t).get ∧ IntsAt wr gw 0 64 (wAt b) ∧ (py ≠ p ∧ py ≠ gl ∧ py ≠ gk ∧ py ≠ gw ∧ w.heap.size ≤ py)
theorem SY.drew {w wr : World} {p gl gk M py gw t : Nat} {T b : Nat → Nat} {x : E8} (h : SY w wr p gl gk M T x py gw b t) : SY w wr.drew p gl gk M T x py gw b t := ⟨⟨h.1.1, h.1.2.1, h.1.2.2.1, h.1.2.2.2.1.drew, h.1.2.2.2.2⟩, h.2⟩
theorem SY.call {w W w1 : World} {p gl gk M py gw t : Nat} {T b : Nat → Nat} {x : E8} (h : SY w W p gl gk M T x py gw b t) (hb : Below W.heap.size W w1) : SY w w1 p gl gk M T x py gw b t := ⟨h.1.call hb, h.2.1.call hb, h.2.2.1.call hb, h.2.2.2⟩
theorem SY.next {w wr : World} {p gl gk M py gw t : Nat} {T b : Nat → Nat} {x : E8} (h : SY w wr p gl gk M T x py gw b t) : SY w (put8 wr py (rounds b x (t + 1))) p gl gk M T x py gw b (t + 1) :=
  ⟨h.1.put h.2.2.2.1 h.2.2.2.2.1 h.2.2.2.2.2.1 h.2.2.2.2.2.2.2, h.2.1.put8, h.2.2.1.put8 h.2.2.2.2.2.2.1, h.2.2.2⟩

theorem put8_far (w : World) (p : Nat) (r : E8) : (put8 w p r).cell? ⟨p, 8, none⟩ = w.cell? ⟨p, 8, none⟩ := by
  unfold put8
  rw [World.cell?_setCell_other _ _ _ _ (by intro c; injection c with _ c _; cases c), World.cell?_setCell_other _ _ _ _ (by intro c; injection c with _ c _; cases c), World.cell?_setCell_other _ _ _ _ (by intro c; injection c with _ c _; cases c), World.cell?_setCell_other _ _ _ _ (by intro c; injection c with _ c _; cases c), World.cell?_setCell_other _ _ _ _ (by intro c; injection c with _ c _; cases c), World.cell?_setCell_other _ _ _ _ (by intro c; injection c with _ c _; cases c), World.cell?_setCell_other _ _ _ _ (by intro c; injection c with _ c _; cases c), World.cell?_setCell_other _ _ _ _ (by intro c; injection c with _ c _; cases c)]
theorem far_ne {W w1 : World} {p q n : Nat} {f : Nat → Nat} (hp : p < W.heap.size) (h8 : W.cell? ⟨p, 8, none⟩ = none) (hb : Below W.heap.size W w1) (h : IntsAt w1 q 0 n f) (hn : 9 ≤ n) : p ≠ q := by
  rintro rfl
  have h1 := h.1 8 (by omega)
  have h2 := hb.cell (p := ⟨p, 8, none⟩) hp
  rw [h8] at h2
  rw [show (0 : Nat) + 8 = 8 from rfl, h2] at h1
  cases h1
theorem block_ints {wr : World} {gl M NB b : Nat} {T : Nat → Nat} (h : IntsAt wr gl 0 M (word4 T)) (hM : M = 16 * NB) (hb : b < NB) : IntsAt wr gl (16 * b) 16 (wAt (fun j => T (64 * b + j))) :=
  ⟨fun j hj => by rw [wAt_low _ _ hj, ← word4_shift, ← h.1 (16 * b + j) (by omega), Nat.zero_add], h.2⟩
theorem blk_facts (b NB M : Nat) (hM : M = 16 * NB) (hM2 : M < 35184372088832) (hb : b < NB) : ((16 * b : Nat) : Int) < (M : Int) ∧ ((16 * b : Nat) : Int) + 16 = ((16 * (b + 1) : Nat) : Int) ∧ 16 * (b + 1) < 9223372036854775808 ∧ 16 * (b + 1) ≤ M ∧ M - 16 * (b + 1) < M - 16 * b ∧ 16 * b < 9223372036854775808 ∧ 16 * b ≤ 16 * (b + 1) ∧ 16 * (b + 1) - 16 * b = 16 := by omega
theorem row_cells {wr : World} {py : Nat} {f : Nat → Nat} {ya yb yc yd ye yf yg yh : Nat} (h : RowK .i64 wr py 8 f) (e : f = (⟨ya, yb, yc, yd, ye, yf, yg, yh⟩ : E8).get) : (wr.cell? ⟨py, 0, none⟩ = some (.int .i64 (ya : Nat)) ∧ wr.cell? ⟨py, 1, none⟩ = some (.int .i64 (yb : Nat)) ∧ wr.cell? ⟨py, 2, none⟩ = some (.int .i64 (yc : Nat)) ∧ wr.cell? ⟨py, 3, none⟩ = some (.int .i64 (yd : Nat)) ∧ wr.cell? ⟨py, 4, none⟩ = some (.int .i64 (ye : Nat)) ∧ wr.cell? ⟨py, 5, none⟩ = some (.int .i64 (yf : Nat)) ∧ wr.cell? ⟨py, 6, none⟩ = some (.int .i64 (yg : Nat)) ∧ wr.cell? ⟨py, 7, none⟩ = some (.int .i64 (yh : Nat))) ∧ (wr.frozen? ⟨py, 0, none⟩ = false ∧ wr.frozen? ⟨py, 1, none⟩ = false ∧ wr.frozen? ⟨py, 2, none⟩ = false ∧ wr.frozen? ⟨py, 3, none⟩ = false ∧ wr.frozen? ⟨py, 4, none⟩ = false ∧ wr.frozen? ⟨py, 5, none⟩ = false ∧ wr.frozen? ⟨py, 6, none⟩ = false ∧ wr.frozen? ⟨py, 7, none⟩ = false) ∧ py < wr.heap.size := by
  subst e
  exact ⟨⟨h.1 0 (by decide), h.1 1 (by decide), h.1 2 (by decide), h.1 3 (by decide), h.1 4 (by decide), h.1 5 (by decide), h.1 6 (by decide), h.1 7 (by decide)⟩, ⟨h.2.1 0, h.2.1 1, h.2.1 2, h.2.1 3, h.2.1 4, h.2.1 5, h.2.1 6, h.2.1 7⟩, h.2.2⟩
theorem SY.facts {w wr : World} {p gl gk M py gw t : Nat} {T b : Nat → Nat} {x : E8} {ya yb yc yd ye yf yg yh kc vw : Nat} (h : SY w wr p gl gk M T x py gw b t) (ht : t < 64) (e : rounds b x t = ⟨ya, yb, yc, yd, ye, yf, yg, yh⟩) (hk : kc = cube t) (hv : vw = wAt b t) : (wr.cell? ⟨py, 0, none⟩ = some (.int .i64 (ya : Nat)) ∧ wr.cell? ⟨py, 1, none⟩ = some (.int .i64 (yb : Nat)) ∧ wr.cell? ⟨py, 2, none⟩ = some (.int .i64 (yc : Nat)) ∧ wr.cell? ⟨py, 3, none⟩ = some (.int .i64 (yd : Nat)) ∧ wr.cell? ⟨py, 4, none⟩ = some (.int .i64 (ye : Nat)) ∧ wr.cell? ⟨py, 5, none⟩ = some (.int .i64 (yf : Nat)) ∧ wr.cell? ⟨py, 6, none⟩ = some (.int .i64 (yg : Nat)) ∧ wr.cell? ⟨py, 7, none⟩ = some (.int .i64 (yh : Nat))) ∧ wr.cell? ⟨gk, t, none⟩ = some (.int .i64 (kc : Nat)) ∧ wr.cell? ⟨gw, t, none⟩ = some (.int .i64 (vw : Nat)) ∧ (wr.frozen? ⟨py, 0, none⟩ = false ∧ wr.frozen? ⟨py, 1, none⟩ = false ∧ wr.frozen? ⟨py, 2, none⟩ = false ∧ wr.frozen? ⟨py, 3, none⟩ = false ∧ wr.frozen? ⟨py, 4, none⟩ = false ∧ wr.frozen? ⟨py, 5, none⟩ = false ∧ wr.frozen? ⟨py, 6, none⟩ = false ∧ wr.frozen? ⟨py, 7, none⟩ = false) ∧ py < wr.heap.size := by
  have h1 := row_cells h.2.1 (by rw [e])
  have h2 := h.1.2.2.1.1 t ht
  have h3 := h.2.2.1.1 t ht
  rw [Nat.zero_add, ← hk] at h2
  rw [Nat.zero_add, ← hv] at h3
  exact ⟨h1.1, h2, h3, h1.2⟩
theorem SY.done {w wr : World} {p gl gk M py gw t : Nat} {T b : Nat → Nat} {x r : E8} (h : SY w wr p gl gk M T x py gw b t) : SB w (put8 wr p r) p gl gk M T r :=
  ⟨h.1.1.put8, h.1.2.1.put8 h.1.2.2.2.2.2.1, h.1.2.2.1.put8 h.1.2.2.2.2.2.2, below_put8 h.1.2.2.2.1 h.1.2.2.2.2.1, h.1.2.2.2.2⟩
def fin (ws : Nat → Nat) (J : Nat) : Nat := ws (J / 4) / 256 ^ (3 - J % 4) % 256
theorem hfL_fin (ws : Nat → Nat) (n J : Nat) (h : J < 4 * n) : (hfL ws n).getD J 0 = fin ws J := by
  induction n with
  | zero => omega
  | succ n ih =>
    show (hfL ws n ++ hfN (ws n)).getD J 0 = _
    rw [List.getD_eq_getElem?_getD, List.getElem?_append, hfL_length]
    by_cases c : J < 4 * n
    · rw [if_pos c, ← List.getD_eq_getElem?_getD, ih c]
    · rw [if_neg c]
      obtain ⟨r, rfl⟩ : ∃ r, J = 4 * n + r := ⟨J - 4 * n, by omega⟩
      have hr : r < 4 := by omega
      have e1 : (4 * n + r) / 4 = n := by omega
      have e2 : (4 * n + r) % 4 = r := by omega
      unfold fin
      rw [e1, e2, Nat.add_sub_cancel_left]
      match r, hr with
      | 0, _ | 1, _ | 2, _ | 3, _ => simp [hfN]
      | r + 4, h => omega
def gO (ws : Nat → Nat) (k m J : Nat) : Nat := if J / 4 < k ∨ (J / 4 = k ∧ 3 - J % 4 < m) then fin ws J else 0
theorem gO_zero (ws : Nat → Nat) (J : Nat) : gO ws 0 0 J = 0 := by unfold gO; rw [if_neg (by omega)]
theorem gO_row (ws : Nat → Nat) (k : Nat) : gO ws k 4 = gO ws (k + 1) 0 := by
  funext J
  unfold gO
  by_cases c : J / 4 < k + 1
  · rw [if_pos (by omega), if_pos (Or.inl c)]
  · rw [if_neg (by omega), if_neg (by omega)]
theorem gO_full (ws : Nat → Nat) (J : Nat) (h : J < 32) : gO ws 8 0 J = (hfL ws 8).getD J 0 := by rw [hfL_fin ws 8 J h]; unfold gO; rw [if_pos (by omega)]
theorem gO_at (ws : Nat → Nat) (k m : Nat) (h : m < 4) : gO ws k (m + 1) (4 * k + (3 - m)) = ws k / 256 ^ m % 256 := by
  have e1 : (4 * k + (3 - m)) / 4 = k := by omega
  have e2 : 3 - (4 * k + (3 - m)) % 4 = m := by omega
  unfold gO fin
  rw [e1, e2, if_pos (Or.inr ⟨rfl, Nat.lt_succ_self m⟩)]
theorem gO_else (ws : Nat → Nat) (k m J : Nat) (h : J ≠ 4 * k + (3 - m)) (hm : m < 4) : gO ws k m J = gO ws k (m + 1) J := by
  unfold gO
  by_cases c : J / 4 < k ∨ (J / 4 = k ∧ 3 - J % 4 < m)
  · rw [if_pos c, if_pos (by omega)]
  · rw [if_neg c, if_neg (by omega)]
def SO (w wv : World) (po ps : Nat) (ws : Nat → Nat) (k m : Nat) : Prop := RowK .u8 wv po 32 (gO ws k m) ∧ IntsAt wv ps 0 8 ws ∧ Below w.heap.size w wv ∧ po ≠ ps ∧ w.heap.size ≤ po
theorem SO.put {w wv : World} {po ps k m : Nat} {ws : Nat → Nat} (h : SO w wv po ps ws k m) (hk : k < 8) (hm : m < 4) {J r : Nat} (hJ : J = 4 * k + (3 - m)) (hr : r = ws k / 256 ^ m % 256) : SO w (wv.setCell ⟨po, J, none⟩ (.int .u8 (r : Nat))) po ps ws k (m + 1) := by
  subst hJ
  exact ⟨h.1.set (by omega) (by rw [hr, gO_at ws k m hm]) (fun j _ hne => (gO_else ws k m j hne hm).symm), h.2.1.other h.2.2.2.1, h.2.2.1.setCell (p := ⟨po, 4 * k + (3 - m), none⟩) h.2.2.2.2 _, h.2.2.2⟩
theorem low_get {x : E8} (h : Low8 x) (j : Nat) (hj : j < 8) : x.get j < 4294967296 := by
  obtain ⟨a, b, c, d, e, f, g, i⟩ := h
  match j, hj with
  | 0, _ => exact a
  | 1, _ => exact b
  | 2, _ => exact c
  | 3, _ => exact d
  | 4, _ => exact e
  | 5, _ => exact f
  | 6, _ => exact g
  | 7, _ => exact i
  | n + 8, h => exact absurd h (by omega)
theorem out_facts (k m : Nat) (hk : k < 8) (hm : m < 4) : (3 : Int) - (m : Int) = ((3 - m : Nat) : Int) ∧ (4 : Int) * (k : Int) = ((4 * k : Nat) : Int) ∧ ((4 * k : Nat) : Int) + ((3 - m : Nat) : Int) = ((4 * k + (3 - m) : Nat) : Int) ∧ 4 * k + (3 - m) < 32 ∧ ((3 - m : Nat) : Int) - 1 = (3 : Int) - ((m + 1 : Nat) : Int) ∧ wrap64 ((3 : Int) - ((m + 1 : Nat) : Int)) = (3 : Int) - ((m + 1 : Nat) : Int) ∧ IntKind.i64.wrap ((3 : Int) - ((m + 1 : Nat) : Int)) = (3 : Int) - ((m + 1 : Nat) : Int) ∧ (0 : Int) ≤ ((3 - m : Nat) : Int) := by
  refine ⟨by omega, by omega, by omega, by omega, by omega, by unfold wrap64; omega, by rw [IntKind.wrap_i64]; omega, by omega⟩
theorem out_measure (m : Nat) (hm : m < 4) : ((3 : Int) - ((m + 1 : Nat) : Int) + 1).toNat < (((3 - m : Nat) : Int) + 1).toNat := by omega
theorem text_row {w : World} {g cap : Nat} {f ws : Nat → Nat} (h : RowK .u8 w g 32 f) (hf : ∀ j, j < 32 → f j = (hfL ws 8).getD j 0) : (convert 95 9 (.slice (some ⟨g, 0, none⟩) 32 cap)).run Tryz.prog w = .ok (.string (strOf (hfL ws 8))) w := by
  obtain ⟨l, hl⟩ : ∃ l, l = hfL ws 8 := ⟨_, rfl⟩
  have ll : l.length = 32 := by rw [hl, hfL_length]
  have hs : B256 l := by rw [hl]; exact hfL_small ws 8
  rw [← hl] at hf ⊢
  have e1 : (l.map fun x => UInt8.ofNat x).length = 32 := by rw [List.length_map, ll]
  have g2 := run_convert_bytes_back (P := Tryz.prog) w 95 9 5 ⟨g, 0, none⟩ cap (l.map fun x => UInt8.ofNat x) Tryz.underlying95 Tryz.underlying5 Tryz.underlying9 (fun j hj => by
    have hj' := hj
    rw [e1] at hj'
    have e2 : (Addr.add ⟨g, 0, none⟩ j) = ⟨g, j, none⟩ := by
      simp only [Addr.add]
      split
      · rename_i h0; have : j = 0 := by simpa using h0
        subst this; rfl
      · simp
    have lt : l[j]'(by omega) < 256 := hs _ (List.getElem_mem _)
    have e3 : ((l.map fun x => UInt8.ofNat x)[j]'hj).toNat = l[j]'(by omega) := by
      rw [List.getElem_map]
      show (UInt8.ofNat _).toNat = _
      rw [UInt8.toNat_ofNat']
      exact Nat.mod_eq_of_lt lt
    rw [e2, e3, h.1 j hj', hf j hj', List.getD_eq_getElem?_getD, List.getElem?_eq_getElem (by omega)]
    rfl)
  rw [e1] at g2
  exact g2
end Go.Proofs.YtienklnigigepaaGreatDoor
