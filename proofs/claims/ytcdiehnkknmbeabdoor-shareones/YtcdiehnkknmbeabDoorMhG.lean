/- Several texts laid together. -/
import Derived.Test.YtcdiehnkknmbeabDoorMhE
import Derived.Test.YtcdiehnkknmbeabDoorMhF
namespace Go.Proofs.YtcdiehnkknmbeabDoor
open Go Go.RowKit Go.Lib

theorem tellI_append (x : Int) : ∀ a b : List (Int × List Int), tellI x (a ++ b) = tellI x a + tellI x b
  | [], b => by simp [tellI]
  | (v, p) :: a, b => by
    have h := tellI_append x a b
    show v * evI p x + tellI x (a ++ b) = v * evI p x + tellI x a + tellI x b
    rw [h, Int.add_assoc]
def nsL (l : List Int) : List Nat := l.map Int.toNat
theorem nsL_nodup {l : List Int} (h : NodesP l) : (nsL l).Nodup := by
  unfold nsL
  rw [List.nodup_iff_pairwise_ne, List.pairwise_map]
  refine (List.nodup_iff_pairwise_ne.1 h.2).imp_of_mem (fun {a b} ha hb hab c => hab ?_)
  have := h.1 a ha
  have := h.1 b hb
  omega
theorem nsL_lt {l : List Int} (h : NodesP l) : ∀ n ∈ nsL l, n < QQ := fun n hn => by
  obtain ⟨a, ha, rfl⟩ := List.mem_map.1 hn
  have := h.1 a ha
  exact Nat.lt_of_le_of_lt (show a.toNat ≤ 10 by omega) (by decide)
theorem oth_fo {l : List Int} (h : NodesP l) {z : Int} (hz : z ∈ l) : othN (nsL l) z.toNat = foI l z := by
  unfold othN nsL foI
  rw [List.filter_map]
  congr 1
  refine List.filter_congr fun a ha => ?_
  have h1 := h.1 a ha
  have h2 := h.1 z hz
  show decide (a.toNat ≠ z.toNat) = decide (a ≠ z)
  refine decide_eq_decide.2 ⟨fun c d => c (by rw [d]), fun c d => c (by omega)⟩
/-- The shares of a polynomial at nodes. -/
def shL (l : List Int) (p : List Nat) : List Nat := l.map fun z => hoN QQ z.toNat p
theorem wAt_cz {l : List Int} (hP : NodesP l) (x : Nat) {k : Nat} (hk : k < l.length) : CZ QQ (wAt l x k : Nat) (wtI QQ (x : Nat) ((l[k]'hk).toNat : Nat) (ints (othN (nsL l) (l[k]'hk).toNat))) := by
  have e : l[k]?.getD 0 = (l[k]'hk) := by rw [List.getElem?_eq_getElem hk]; rfl
  unfold wAt
  rw [e, othI_fo hk hP.2, oth_fo hP (List.getElem_mem hk)]
  exact cwN_cz QQ x _ _ (foI_mem hP)
theorem joK_cz {l : List Int} (hP : NodesP l) (p : List Int) (s : Nat → Nat) (x : Nat) (hs : ∀ i (hi : i < l.length), CZ QQ (s i : Nat) (evI p ((l[i]'hi).toNat : Nat))) : ∀ k, k ≤ l.length → CZ QQ (joK s (wAt l x) k : Nat) (tellI (x : Nat) (tlT QQ p (nsL l) ((nsL l).take k)))
  | 0, _ => CZ.refl _ _
  | k + 1, hk => by
    have ih := joK_cz hP p s x hs k (by omega)
    have hk' : k < l.length := by omega
    have hkn : k < (nsL l).length := by unfold nsL; rw [List.length_map]; exact hk'
    have eg : ((nsL l)[k]'hkn) = (l[k]'hk').toNat := by simp [nsL]
    rw [List.take_succ_eq_append_getElem hkn, eg]
    unfold tlT
    rw [List.map_append, tellI_append]
    show CZ QQ ((joK s (wAt l x) k + s k * wAt l x k % QQ) % QQ : Nat) _
    refine (cz_mod _ QQ).trans ?_
    rw [Int.natCast_add]
    refine ih.add ((cz_mod _ QQ).trans ?_)
    rw [Int.natCast_mul]
    show CZ QQ _ (evI p ((l[k]'hk').toNat : Nat) * evI (bsI QQ ((l[k]'hk').toNat : Nat) (ints (othN (nsL l) (l[k]'hk').toNat))) (x : Nat) + 0)
    rw [Int.add_zero, bsI_eval]
    exact (hs k hk').mul (wAt_cz hP x hk')
theorem joV_tells {l : List Int} (hP : NodesP l) (p : List Nat) (x : Nat) (hl : p.length ≤ l.length) : joV l (shL l p) x = hoN QQ x p := by
  have hn : (nsL l).length = l.length := by unfold nsL; rw [List.length_map]
  refine cz_eq (joK_lt _ _ _) (hoN_lt _ _ QQ_pos _) ?_
  have h1 := joK_cz hP (ints p) (fun i => (shL l p)[i]?.getD 0) x (fun i hi => by
    have e : (shL l p)[i]?.getD 0 = hoN QQ (l[i]'hi).toNat p := by
      unfold shL
      rw [List.getElem?_map, List.getElem?_eq_getElem hi]; rfl
    show CZ QQ (((shL l p)[i]?.getD 0 : Nat) : Int) _
    rw [e]
    exact hoN_cz QQ _ p) l.length (Nat.le_refl _)
  rw [List.take_of_length_le (by omega)] at h1
  have h2 := tell_all prime_Q (ints p) (nsL l) (nsL_nodup hP) (nsL_lt hP) (by rw [hn]; simpa [ints] using hl) (x : Nat)
  exact (h1.trans h2).trans (hoN_cz QQ x p).symm
theorem join_line : joV [1, 2] [8, 11] 0 = 5 := by
  have h := joV_tells (l := [1, 2]) (by decide) [5, 3] 0 (by decide)
  have e1 : shL [1, 2] [5, 3] = [8, 11] := by decide
  have e2 : hoN QQ 0 [5, 3] = 5 := by decide
  rw [e1, e2] at h
  exact h
theorem eval_line : atV [5, 3] 2 = 11 ∧ atE [5, 3] 2 = 0 := by decide
theorem Nums.two (W : World) (x y : Nat) (t : TypeId) (hx : x < M64) (hy : y < M64) : Nums (W.alloc (.cells #[.int .u64 (x : Int), .int .u64 0, .int .u64 0, .int .u64 0, .int .u64 (y : Int), .int .u64 0, .int .u64 0, .int .u64 0] t)) (some ⟨W.heap.size, 0, none⟩) [x, y] := by
  obtain ⟨x0, x1, x2, x3⟩ := limb_small x hx
  obtain ⟨y0, y1, y2, y3⟩ := limb_small y hy
  intro j n hj
  match j, hj with
  | 0, hj =>
    simp at hj
    subst hj
    refine ⟨W.heap.size, 0, rfl, fun i hi => ?_, by simp⟩
    have : i = 0 ∨ i = 1 ∨ i = 2 ∨ i = 3 := by omega
    rcases this with rfl | rfl | rfl | rfl <;> simp [go_sem, x0, x1, x2, x3]
  | 1, hj =>
    simp at hj
    subst hj
    refine ⟨W.heap.size, 0, rfl, fun i hi => ?_, by simp⟩
    have : i = 0 ∨ i = 1 ∨ i = 2 ∨ i = 3 := by omega
    rcases this with rfl | rfl | rfl | rfl <;> simp [go_sem, y0, y1, y2, y3]
  | j + 2, hj => simp at hj
theorem IntsAt.two (W : World) (x y : Int) (t : TypeId) : IntsAt (W.alloc (.cells #[.int .i64 x, .int .i64 y] t)) (some ⟨W.heap.size, 0, none⟩) [x, y] := by
  intro j n hj
  match j, hj with
  | 0, hj => simp at hj; subst hj; exact ⟨W.heap.size, 0, rfl, by simp [go_sem], by simp⟩
  | 1, hj => simp at hj; subst hj; exact ⟨W.heap.size, 0, rfl, by simp [go_sem], by simp⟩
  | j + 2, hj => simp at hj
theorem Nums.two' {W : World} {b : Nat} (x y : Nat) {t : TypeId} (h : b = W.heap.size) (hx : x < M64) (hy : y < M64) : Nums (W.alloc (.cells #[.int .u64 (x : Int), .int .u64 0, .int .u64 0, .int .u64 0, .int .u64 (y : Int), .int .u64 0, .int .u64 0, .int .u64 0] t)) (some ⟨b, 0, none⟩) [x, y] := by
  subst h; exact Nums.two W x y t hx hy
theorem IntsAt.two' {W : World} {b : Nat} (x y : Int) {t : TypeId} (h : b = W.heap.size) : IntsAt (W.alloc (.cells #[.int .i64 x, .int .i64 y] t)) (some ⟨b, 0, none⟩) [x, y] := by
  subst h; exact IntsAt.two W x y t
attribute [local go_sem] run_eq4
set_option maxRecDepth 100000 in
set_option maxHeartbeats 8000000 in
theorem line_any (w : World) (hG : GlobQ w) : Calls Tryd.prog 7 #[] w fun e w' => e = .returned (.bool true) ∧ Below w.heap.size w w' := by
  have K1 : Hid (∀ (b : Option Addr) (w : World), GlobQ w → Nums w b [5, 3] → Calls Tryd.prog 14 #[.slice b 2 2, .int .i64 2] w fun e w' => e = .returned (.tuple #[.agg #[.int .u64 11, .int .u64 0, .int .u64 0, .int .u64 0], .int .i64 0]) ∧ Below w.heap.size w w') := fun b w hG hN => by
    have h := eval_in b [5, 3] 2 2 (by decide) (by decide) (by decide) w hG hN
    obtain ⟨l0, l1, l2, l3⟩ := limb_small 11 (by decide)
    rw [eval_line.1, eval_line.2, l0, l1, l2, l3] at h
    exact h
  have K2 : Hid (∀ (a b : Option Addr) (w : World), GlobQ w → IntsAt w a [1, 2] → Nums w b [8, 11] → Calls Tryd.prog 15 #[.slice a 2 2, .slice b 2 2, .agg #[.int .u64 0, .int .u64 0, .int .u64 0, .int .u64 0]] w fun e w' => e = .returned (.tuple #[.agg #[.int .u64 5, .int .u64 0, .int .u64 0, .int .u64 0], .int .i64 0]) ∧ Below w.heap.size w w') := fun a b w hG hN hS => by
    have h := join_in a b [1, 2] [8, 11] 2 2 0 (by decide) (by decide) (by decide) (by decide) (by decide) w hG hN hS
    obtain ⟨l0, l1, l2, l3⟩ := limb_small 5 (by decide)
    rw [join_line, l0, l1, l2, l3, limb_nought, limb_nought, limb_nought, limb_nought] at h
    exact h
  have H0 : Hid (GlobQ w) := hG
  clear hG
  go_enter Tryd.func7, Tryd.ntmps7
  go_wp2_with fail
  refine (K1.out _ _ (H0.out.call (below_alloc0 (Below.refl _ _) _)) (Nums.two w 5 3 25 (by decide) (by decide))).mono ?_
  rintro e w1 ⟨rfl, hb1⟩
  have H1 : Hid (Below w.heap.size w w1) := below_call0 (below_alloc0 (Below.refl _ _) _) hb1
  clear hb1 K1
  go_wp2_with fail
  refine (K2.out _ _ _ ?_ ?_ ?_).mono ?_
  · exact H0.out.call (below_alloc0 (below_alloc0 (below_alloc0 H1.out _) _) _)
  · exact (IntsAt.two' 1 2 (by simp)).alloc
  · exact Nums.two' 8 11 (by simp) (by decide) (by decide)
  rintro e w2 ⟨rfl, hb2⟩
  have c0 := hb2.cell (p := ⟨w1.heap.size, 0, none⟩) (by simp; omega)
  have c1 := hb2.cell (p := ⟨w1.heap.size, 1, none⟩) (by simp; omega)
  have c2 := hb2.cell (p := ⟨w1.heap.size, 2, none⟩) (by simp; omega)
  have c3 := hb2.cell (p := ⟨w1.heap.size, 3, none⟩) (by simp; omega)
  have cz : w1.heap.size < w2.heap.size := by have := hb2.size; simp at this; omega
  simp [go_sem] at c0 c1 c2 c3
  have H2 : Hid (Below w.heap.size w w2) := below_call0 (below_alloc0 (below_alloc0 (below_alloc0 H1.out _) _) _) hb2
  have e1 : eq4 11 0 0 0 11 0 0 0 = true := by decide
  have e2 : eq4 5 0 0 0 5 0 0 0 = true := by decide
  clear hb2 K2
  go_wp2_with fail
  go_ret
  exact ⟨rfl, below_alloc0 H2.out _⟩
end Go.Proofs.YtcdiehnkknmbeabDoor

namespace Go.Proofs.YtcdiehnkknmbeabDoor
open Go Go.RowKit Go.Lib
attribute [local go_sem] run_eq4

theorem eq4_self (a b c d : Int) : eq4 a b c d a b c d = true := by simp [eq4]
theorem Num4.own (W : World) (n : Nat) (t : TypeId) : Own4 (W.alloc (.cells #[.int .u64 (limb n 0 : Nat), .int .u64 (limb n 1 : Nat), .int .u64 (limb n 2 : Nat), .int .u64 (limb n 3 : Nat)] t)) W.heap.size n := Own4.new W n t
/-- What Join answers. -/
def jnV (l : List Int) (s : List Nat) (x : Nat) : Nat := if nodesOk l = true ∧ x < QQ ∧ s.length = l.length ∧ allQ s = true then joV l s x else 0
def jnE (l : List Int) (s : List Nat) (x : Nat) : Int := if nodesOk l = true then (if x < QQ then (if s.length = l.length then (if allQ s = true then 0 else 20) else 1) else 20) else 1
theorem join_any (a b : Option Addr) (l : List Int) (s : List Nat) (c d x : Nat) (hl : l.length ≤ 17592186044416) (hR : ∀ n ∈ s, n < R256) (hxR : x < R256) (w : World) (hG : GlobQ w) (hN : IntsAt w a l) (hS : Nums w b s) :
    Calls Tryd.prog 15 #[.slice a l.length c, .slice b s.length d, .agg #[.int .u64 (limb (x) 0 : Nat), .int .u64 (limb (x) 1 : Nat), .int .u64 (limb (x) 2 : Nat), .int .u64 (limb (x) 3 : Nat)]] w fun e w' => e = .returned (.tuple #[.agg #[.int .u64 (limb (jnV l s x) 0 : Nat), .int .u64 (limb (jnV l s x) 1 : Nat), .int .u64 (limb (jnV l s x) 2 : Nat), .int .u64 (limb (jnV l s x) 3 : Nat)], .int .i64 (jnE l s x)]) ∧ Below w.heap.size w w' := by
  unfold jnV jnE
  by_cases h1 : nodesOk l = true
  · by_cases h2 : x < QQ
    · by_cases h3 : s.length = l.length
      · by_cases h4 : allQ s = true
        · rw [if_pos ⟨h1, h2, h3, h4⟩, if_pos h1, if_pos h2, if_pos h3, if_pos h4]
          exact join_in a b l s c d x hl h1 h2 h3 h4 w hG hN hS
        · rw [if_neg (fun q => h4 q.2.2.2), if_pos h1, if_pos h2, if_pos h3, if_neg h4, ← z4_num]
          exact join_bad a b l s c d x hl h1 h2 h3 hR (by simpa using h4) w hG hN hS
      · rw [if_neg (fun q => h3 q.2.2.1), if_pos h1, if_pos h2, if_neg h3, ← z4_num]
        exact join_len a b l s c d x hl h1 h2 h3 w hG hN hS
    · rw [if_neg (fun q => h2 q.2.1), if_pos h1, if_neg h2, ← z4_num]
      exact join_err a b l l.length c s.length d x 20 (by decide) (fun w hG hN => weights_x a l c x hl hxR h1 h2 w hG hN) w hG hN
  · rw [if_neg (fun q => h1 q.1), if_neg h1, ← z4_num]
    exact join_err a b l l.length c s.length d x 1 (by decide) (fun w hG hN => weights_bad a l c x hl (by simpa using h1) w hG hN) w hG hN
end Go.Proofs.YtcdiehnkknmbeabDoor
