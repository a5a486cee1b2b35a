/- Several texts laid together. -/
import Derived.Test.YtcdiehnkknmbeaaDoorMhE
import Derived.Test.YtcdiehnkknmbeaaDoorMhF
namespace Go.Proofs.YtcdiehnkknmbeaaDoor
open Go Go.RowKit Go.Lib

theorem tellI_append (x : Int) : ∀ a b : List (Int × List Int), tellI x (a ++ b) = tellI x a + tellI x b
  | [], b => by simp [tellI]
  | (v, p) :: a, b => by
    have h := tellI_append x a b
    show v * evI p x + tellI x (a ++ b) = v * evI p x + tellI x a + tellI x b
    rw [h, Int.add_assoc]
def nsL (l : List Int) : List Nat := l.map Int.toNat
theorem nsL_nodup {l : List Int} (h : NodesP l) : (nsL l).Nodup := by
  unfold nsL
  rw [List.nodup_iff_pairwise_ne, List.pairwise_map]
  refine (List.nodup_iff_pairwise_ne.1 h.2).imp_of_mem (fun {a b} ha hb hab c => hab ?_)
  have := h.1 a ha
  have := h.1 b hb
  omega
theorem nsL_lt {l : List Int} (h : NodesP l) : ∀ n ∈ nsL l, n < QQ := fun n hn => by
  obtain ⟨a, ha, rfl⟩ := List.mem_map.1 hn
  have := h.1 a ha
  exact Nat.lt_of_le_of_lt (show a.toNat ≤ 10 by omega) (by decide)
theorem oth_fo {l : List Int} (h : NodesP l) {z : Int} (hz : z ∈ l) : othN (nsL l) z.toNat = foI l z := by
  unfold othN nsL foI
  rw [List.filter_map]
  congr 1
  refine List.filter_congr fun a ha => ?_
  have h1 := h.1 a ha
  have h2 := h.1 z hz
  show decide (a.toNat ≠ z.toNat) = decide (a ≠ z)
  refine decide_eq_decide.2 ⟨fun c d => c (by rw [d]), fun c d => c (by omega)⟩
/-- The shares of a polynomial at nodes. -/
def shL (l : List Int) (p : List Nat) : List Nat := l.map fun z => hoN QQ z.toNat p
theorem wAt_cz {l : List Int} (hP : NodesP l) (x : Nat) {k : Nat} (hk : k < l.length) : CZ QQ (wAt l x k : Nat) (wtI QQ (x : Nat) ((l[k]'hk).toNat : Nat) (ints (othN (nsL l) (l[k]'hk).toNat))) := by
  have e : l[k]?.getD 0 = (l[k]'hk) := by rw [List.getElem?_eq_getElem hk]; rfl
  unfold wAt
  rw [e, othI_fo hk hP.2, oth_fo hP (List.getElem_mem hk)]
  exact cwN_cz QQ x _ _ (foI_mem hP)
theorem joK_cz {l : List Int} (hP : NodesP l) (p : List Int) (s : Nat → Nat) (x : Nat) (hs : ∀ i (hi : i < l.length), CZ QQ (s i : Nat) (evI p ((l[i]'hi).toNat : Nat))) : ∀ k, k ≤ l.length → CZ QQ (joK s (wAt l x) k : Nat) (tellI (x : Nat) (tlT QQ p (nsL l) ((nsL l).take k)))
  | 0, _ => CZ.refl _ _
  | k + 1, hk => by
    have ih := joK_cz hP p s x hs k (by omega)
    have hk' : k < l.length := by omega
    have hkn : k < (nsL l).length := by unfold nsL; rw [List.length_map]; exact hk'
    have eg : ((nsL l)[k]'hkn) = (l[k]'hk').toNat := by simp [nsL]
    rw [List.take_succ_eq_append_getElem hkn, eg]
    unfold tlT
    rw [List.map_append, tellI_append]
    show CZ QQ ((joK s (wAt l x) k + s k * wAt l x k % QQ) % QQ : Nat) _
    refine (cz_mod _ QQ).trans ?_
    rw [Int.natCast_add]
    refine ih.add ((cz_mod _ QQ).trans ?_)
    rw [Int.natCast_mul]
    show CZ QQ _ (evI p ((l[k]'hk').toNat : Nat) * evI (bsI QQ ((l[k]'hk').toNat : Nat) (ints (othN (nsL l) (l[k]'hk').toNat))) (x : Nat) + 0)
    rw [Int.add_zero, bsI_eval]
    exact (hs k hk').mul (wAt_cz hP x hk')
theorem joV_tells {l : List Int} (hP : NodesP l) (p : List Nat) (x : Nat) (hl : p.length ≤ l.length) : joV l (shL l p) x = hoN QQ x p := by
  have hn : (nsL l).length = l.length := by unfold nsL; rw [List.length_map]
  refine cz_eq (joK_lt _ _ _) (hoN_lt _ _ QQ_pos _) ?_
  have h1 := joK_cz hP (ints p) (fun i => (shL l p)[i]?.getD 0) x (fun i hi => by
    have e : (shL l p)[i]?.getD 0 = hoN QQ (l[i]'hi).toNat p := by
      unfold shL
      rw [List.getElem?_map, List.getElem?_eq_getElem hi]; rfl
    show CZ QQ (((shL l p)[i]?.getD 0 : Nat) : Int) _
    rw [e]
    exact hoN_cz QQ _ p) l.length (Nat.le_refl _)
  rw [List.take_of_length_le (by omega)] at h1
  have h2 := tell_all prime_Q (ints p) (nsL l) (nsL_nodup hP) (nsL_lt hP) (by rw [hn]; simpa [ints] using hl) (x : Nat)
  exact (h1.trans h2).trans (hoN_cz QQ x p).symm
theorem join_line : joV [1, 2] [8, 11] 0 = 5 := by
  have h := joV_tells (l := [1, 2]) (by decide) [5, 3] 0 (by decide)
  have e1 : shL [1, 2] [5, 3] = [8, 11] := by decide
  have e2 : hoN QQ 0 [5, 3] = 5 := by decide
  rw [e1, e2] at h
  exact h
theorem eval_line : atV [5, 3] 2 = 11 ∧ atE [5, 3] 2 = 0 := by decide
theorem Nums.two (W : World) (x y : Nat) (t : TypeId) (hx : x < M64) (hy : y < M64) : Nums (W.alloc (.cells #[.int .u64 (x : Int), .int .u64 0, .int .u64 0, .int .u64 0, .int .u64 (y : Int), .int .u64 0, .int .u64 0, .int .u64 0] t)) (some ⟨W.heap.size, 0, none⟩) [x, y] := by
  obtain ⟨x0, x1, x2, x3⟩ := limb_small x hx
  obtain ⟨y0, y1, y2, y3⟩ := limb_small y hy
  intro j n hj
  match j, hj with
  | 0, hj =>
    simp at hj
    subst hj
    refine ⟨W.heap.size, 0, rfl, fun i hi => ?_, by simp⟩
    have : i = 0 ∨ i = 1 ∨ i = 2 ∨ i = 3 := by omega
    rcases this with rfl | rfl | rfl | rfl <;> simp [go_sem, x0, x1, x2, x3]
  | 1, hj =>
    simp at hj
    subst hj
    refine ⟨W.heap.size, 0, rfl, fun i hi => ?_, by simp⟩
    have : i = 0 ∨ i = 1 ∨ i = 2 ∨ i = 3 := by omega
    rcases this with rfl | rfl | rfl | rfl <;> simp [go_sem, y0, y1, y2, y3]
  | j + 2, hj => simp at hj
theorem IntsAt.two (W : World) (x y : Int) (t : TypeId) : IntsAt (W.alloc (.cells #[.int .i64 x, .int .i64 y] t)) (some ⟨W.heap.size, 0, none⟩) [x, y] := by
  intro j n hj
  match j, hj with
  | 0, hj => simp at hj; subst hj; exact ⟨W.heap.size, 0, rfl, by simp [go_sem], by simp⟩
  | 1, hj => simp at hj; subst hj; exact ⟨W.heap.size, 0, rfl, by simp [go_sem], by simp⟩
  | j + 2, hj => simp at hj
theorem Nums.two' {W : World} {b : Nat} (x y : Nat) {t : TypeId} (h : b = W.heap.size) (hx : x < M64) (hy : y < M64) : Nums (W.alloc (.cells #[.int .u64 (x : Int), .int .u64 0, .int .u64 0, .int .u64 0, .int .u64 (y : Int), .int .u64 0, .int .u64 0, .int .u64 0] t)) (some ⟨b, 0, none⟩) [x, y] := by
  subst h; exact Nums.two W x y t hx hy
theorem IntsAt.two' {W : World} {b : Nat} (x y : Int) {t : TypeId} (h : b = W.heap.size) : IntsAt (W.alloc (.cells #[.int .i64 x, .int .i64 y] t)) (some ⟨b, 0, none⟩) [x, y] := by
  subst h; exact IntsAt.two W x y t
attribute [local go_sem] run_eq4
set_option maxRecDepth 100000 in
set_option maxHeartbeats 8000000 in
theorem line_any (w : World) (hG : GlobQ w) : Calls Tryd.prog 13 #[] w fun e w' => e = .returned (.bool true) ∧ Below w.heap.size w w' := by
  have K1 : Hid (∀ (b : Option Addr) (w : World), GlobQ w → Nums w b [5, 3] → Calls Tryd.prog 11 #[.slice b 2 2, .int .i64 2] w fun e w' => e = .returned (.tuple #[.agg #[.int .u64 11, .int .u64 0, .int .u64 0, .int .u64 0], .int .i64 0]) ∧ Below w.heap.size w w') := fun b w hG hN => by
    have h := eval_in b [5, 3] 2 2 (by decide) (by decide) (by decide) w hG hN
    obtain ⟨l0, l1, l2, l3⟩ := limb_small 11 (by decide)
    rw [eval_line.1, eval_line.2, l0, l1, l2, l3] at h
    exact h
  have K2 : Hid (∀ (a b : Option Addr) (w : World), GlobQ w → IntsAt w a [1, 2] → Nums w b [8, 11] → Calls Tryd.prog 18 #[.slice a 2 2, .slice b 2 2, .agg #[.int .u64 0, .int .u64 0, .int .u64 0, .int .u64 0]] w fun e w' => e = .returned (.tuple #[.agg #[.int .u64 5, .int .u64 0, .int .u64 0, .int .u64 0], .int .i64 0]) ∧ Below w.heap.size w w') := fun a b w hG hN hS => by
    have h := join_in a b [1, 2] [8, 11] 2 2 0 (by decide) (by decide) (by decide) (by decide) (by decide) w hG hN hS
    obtain ⟨l0, l1, l2, l3⟩ := limb_small 5 (by decide)
    rw [join_line, l0, l1, l2, l3, limb_nought, limb_nought, limb_nought, limb_nought] at h
    exact h
  have H0 : Hid (GlobQ w) := hG
  clear hG
  go_enter Tryd.func13, Tryd.ntmps13
  go_wp2_with fail
  refine (K1.out _ _ (H0.out.call (below_alloc0 (Below.refl _ _) _)) (Nums.two w 5 3 25 (by decide) (by decide))).mono ?_
  rintro e w1 ⟨rfl, hb1⟩
  have H1 : Hid (Below w.heap.size w w1) := below_call0 (below_alloc0 (Below.refl _ _) _) hb1
  clear hb1 K1
  go_wp2_with fail
  refine (K2.out _ _ _ ?_ ?_ ?_).mono ?_
  · exact H0.out.call (below_alloc0 (below_alloc0 (below_alloc0 H1.out _) _) _)
  · exact (IntsAt.two' 1 2 (by simp)).alloc
  · exact Nums.two' 8 11 (by simp) (by decide) (by decide)
  rintro e w2 ⟨rfl, hb2⟩
  have c0 := hb2.cell (p := ⟨w1.heap.size, 0, none⟩) (by simp; omega)
  have c1 := hb2.cell (p := ⟨w1.heap.size, 1, none⟩) (by simp; omega)
  have c2 := hb2.cell (p := ⟨w1.heap.size, 2, none⟩) (by simp; omega)
  have c3 := hb2.cell (p := ⟨w1.heap.size, 3, none⟩) (by simp; omega)
  have cz : w1.heap.size < w2.heap.size := by have := hb2.size; simp at this; omega
  simp [go_sem] at c0 c1 c2 c3
  have H2 : Hid (Below w.heap.size w w2) := below_call0 (below_alloc0 (below_alloc0 (below_alloc0 H1.out _) _) _) hb2
  have e1 : eq4 11 0 0 0 11 0 0 0 = true := by decide
  have e2 : eq4 5 0 0 0 5 0 0 0 = true := by decide
  clear hb2 K2
  go_wp2_with fail
  go_ret
  exact ⟨rfl, below_alloc0 H2.out _⟩
end Go.Proofs.YtcdiehnkknmbeaaDoor

namespace Go.Proofs.YtcdiehnkknmbeaaDoor
open Go Go.RowKit Go.Lib
attribute [local go_sem] run_eq4

theorem eq4_self (a b c d : Int) : eq4 a b c d a b c d = true := by simp [eq4]
theorem Num4.own (W : World) (n : Nat) (t : TypeId) : Own4 (W.alloc (.cells #[.int .u64 (limb n 0 : Nat), .int .u64 (limb n 1 : Nat), .int .u64 (limb n 2 : Nat), .int .u64 (limb n 3 : Nat)] t)) W.heap.size n := Own4.new W n t
set_option maxRecDepth 100000 in
set_option maxHeartbeats 8000000 in
theorem shareValues_any (a : Option Addr) (l : List Nat) (c x : Nat) (n : Int) (hR : ∀ n ∈ l, n < R256) (hxR : x < R256) (w : World) (hG : GlobQ w) (hN : Nums w a l) :
    Calls Tryd.prog 3 #[.slice a l.length c, .agg #[.int .u64 (limb (x) 0 : Nat), .int .u64 (limb (x) 1 : Nat), .int .u64 (limb (x) 2 : Nat), .int .u64 (limb (x) 3 : Nat)], .int .i64 n] w fun e w' => e = .returned (.bool true) ∧ Below w.heap.size w w' := by
  obtain ⟨V, hV⟩ : ∃ V, V = atV l x := ⟨_, rfl⟩
  obtain ⟨E, hE⟩ : ∃ V, V = atE l x := ⟨_, rfl⟩
  obtain ⟨U, hU⟩ : ∃ V, V = evV l n := ⟨_, rfl⟩
  obtain ⟨F, hF⟩ : ∃ V, V = evE l n := ⟨_, rfl⟩
  obtain ⟨m, hm⟩ : ∃ V, V = l.length := ⟨_, rfl⟩
  have K1 : Hid (∀ w, GlobQ w → Nums w a l → Calls Tryd.prog 9 #[.slice a m c, .agg #[.int .u64 (limb (x) 0 : Nat), .int .u64 (limb (x) 1 : Nat), .int .u64 (limb (x) 2 : Nat), .int .u64 (limb (x) 3 : Nat)]] w fun e w' => e = .returned (.tuple #[.agg #[.int .u64 (limb (V) 0 : Nat), .int .u64 (limb (V) 1 : Nat), .int .u64 (limb (V) 2 : Nat), .int .u64 (limb (V) 3 : Nat)], .int .i64 E]) ∧ Below w.heap.size w w') := fun w h1 h2 => by rw [hV, hE, hm]; exact at_any a l c x hR hxR w h1 h2
  have K2 : Hid (∀ w, Nums w a l → Calls Tryd.prog 10 #[.slice a m c, .agg #[.int .u64 (limb (x) 0 : Nat), .int .u64 (limb (x) 1 : Nat), .int .u64 (limb (x) 2 : Nat), .int .u64 (limb (x) 3 : Nat)]] w fun e w' => e = .returned (.tuple #[.agg #[.int .u64 (limb (V) 0 : Nat), .int .u64 (limb (V) 1 : Nat), .int .u64 (limb (V) 2 : Nat), .int .u64 (limb (V) 3 : Nat)], .int .i64 E]) ∧ Below w.heap.size w w') := fun w h2 => by rw [hV, hE, hm]; exact ref_at_any a l c x hR hxR w h2
  have K3 : Hid (∀ w, GlobQ w → Nums w a l → Calls Tryd.prog 11 #[.slice a m c, .int .i64 n] w fun e w' => e = .returned (.tuple #[.agg #[.int .u64 (limb (U) 0 : Nat), .int .u64 (limb (U) 1 : Nat), .int .u64 (limb (U) 2 : Nat), .int .u64 (limb (U) 3 : Nat)], .int .i64 F]) ∧ Below w.heap.size w w') := fun w h1 h2 => by rw [hU, hF, hm]; exact eval_all a l c n hR w h1 h2
  have K4 : Hid (∀ w, Nums w a l → Calls Tryd.prog 12 #[.slice a m c, .int .i64 n] w fun e w' => e = .returned (.tuple #[.agg #[.int .u64 (limb (U) 0 : Nat), .int .u64 (limb (U) 1 : Nat), .int .u64 (limb (U) 2 : Nat), .int .u64 (limb (U) 3 : Nat)], .int .i64 F]) ∧ Below w.heap.size w w') := fun w h2 => by rw [hU, hF, hm]; exact ref_eval_all a l c n hR w h2
  have K5 : Hid (∀ w, GlobQ w → Calls Tryd.prog 13 #[] w fun e w' => e = .returned (.bool true) ∧ Below w.heap.size w w') := fun w h => line_any w h
  have H0 : Hid (GlobQ w ∧ Nums w a l) := ⟨hG, hN⟩
  have e1 := eq4_self (limb V 0 : Nat) (limb V 1 : Nat) (limb V 2 : Nat) (limb V 3 : Nat)
  have e2 := eq4_self (limb U 0 : Nat) (limb U 1 : Nat) (limb U 2 : Nat) (limb U 3 : Nat)
  rw [← hm]
  have HB : Hid (Below w.heap.size w (w.alloc (.cells #[.int .u64 (limb x 0 : Nat), .int .u64 (limb x 1 : Nat), .int .u64 (limb x 2 : Nat), .int .u64 (limb x 3 : Nat)] 25)) ∧ Own4 (w.alloc (.cells #[.int .u64 (limb x 0 : Nat), .int .u64 (limb x 1 : Nat), .int .u64 (limb x 2 : Nat), .int .u64 (limb x 3 : Nat)] 25)) w.heap.size x) := ⟨below_alloc0 (Below.refl _ _) _, Own4.new _ _ _⟩
  clear hR hxR hG hN hV hE hU hF hm
  go_enter Tryd.func3, Tryd.ntmps3
  go_wp2_with fail
  refine (K1.out _ (H0.out.1.call HB.out.1) (H0.out.2.call HB.out.1)).mono ?_
  rintro e w1 ⟨rfl, hb1⟩
  have H1 : Hid (Below w.heap.size w (w1.alloc (.cells #[.int .u64 (limb V 0 : Nat), .int .u64 (limb V 1 : Nat), .int .u64 (limb V 2 : Nat), .int .u64 (limb V 3 : Nat)] 25)) ∧ Own4 (w1.alloc (.cells #[.int .u64 (limb V 0 : Nat), .int .u64 (limb V 1 : Nat), .int .u64 (limb V 2 : Nat), .int .u64 (limb V 3 : Nat)] 25)) w1.heap.size V ∧ Own4 (w1.alloc (.cells #[.int .u64 (limb V 0 : Nat), .int .u64 (limb V 1 : Nat), .int .u64 (limb V 2 : Nat), .int .u64 (limb V 3 : Nat)] 25)) w.heap.size x) := ⟨below_alloc0 (below_call0 HB.out.1 hb1) _, Own4.new _ _ _, (HB.out.2.call hb1).alloc⟩
  obtain ⟨⟨x0, x1, x2, x3⟩, _, xz⟩ := (HB.out.2.call hb1).facts
  clear hb1 K1 HB
  go_wp2_with fail
  refine (K2.out _ (H0.out.2.call H1.out.1)).mono ?_
  rintro e w2 ⟨rfl, hb2⟩
  have H2 : Hid (Below w.heap.size w (w2.alloc (.cells #[.int .u64 (limb V 0 : Nat), .int .u64 (limb V 1 : Nat), .int .u64 (limb V 2 : Nat), .int .u64 (limb V 3 : Nat)] 25)) ∧ Own4 (w2.alloc (.cells #[.int .u64 (limb V 0 : Nat), .int .u64 (limb V 1 : Nat), .int .u64 (limb V 2 : Nat), .int .u64 (limb V 3 : Nat)] 25)) w1.heap.size V ∧ Own4 (w2.alloc (.cells #[.int .u64 (limb V 0 : Nat), .int .u64 (limb V 1 : Nat), .int .u64 (limb V 2 : Nat), .int .u64 (limb V 3 : Nat)] 25)) w2.heap.size V) := ⟨below_alloc0 (below_call0 H1.out.1 hb2) _, (H1.out.2.1.call hb2).alloc, Own4.new _ _ _⟩
  clear hb2 K2 H1 x0 x1 x2 x3 xz
  go_wp2_with fail
  refine (K3.out _ (H0.out.1.call H2.out.1) (H0.out.2.call H2.out.1)).mono ?_
  rintro e w3 ⟨rfl, hb3⟩
  have H3 : Hid (Below w.heap.size w (w3.alloc (.cells #[.int .u64 (limb U 0 : Nat), .int .u64 (limb U 1 : Nat), .int .u64 (limb U 2 : Nat), .int .u64 (limb U 3 : Nat)] 25)) ∧ Own4 (w3.alloc (.cells #[.int .u64 (limb U 0 : Nat), .int .u64 (limb U 1 : Nat), .int .u64 (limb U 2 : Nat), .int .u64 (limb U 3 : Nat)] 25)) w1.heap.size V ∧ Own4 (w3.alloc (.cells #[.int .u64 (limb U 0 : Nat), .int .u64 (limb U 1 : Nat), .int .u64 (limb U 2 : Nat), .int .u64 (limb U 3 : Nat)] 25)) w2.heap.size V ∧ Own4 (w3.alloc (.cells #[.int .u64 (limb U 0 : Nat), .int .u64 (limb U 1 : Nat), .int .u64 (limb U 2 : Nat), .int .u64 (limb U 3 : Nat)] 25)) w3.heap.size U) := ⟨below_alloc0 (below_call0 H2.out.1 hb3) _, (H2.out.2.1.call hb3).alloc, (H2.out.2.2.call hb3).alloc, Own4.new _ _ _⟩
  clear hb3 K3 H2
  go_wp2_with fail
  refine (K4.out _ (H0.out.2.call H3.out.1)).mono ?_
  rintro e w4 ⟨rfl, hb4⟩
  obtain ⟨w5, hw5⟩ : ∃ y, y = w4.alloc (.cells #[.int .u64 (limb U 0 : Nat), .int .u64 (limb U 1 : Nat), .int .u64 (limb U 2 : Nat), .int .u64 (limb U 3 : Nat)] 25) := ⟨_, rfl⟩
  have H5 : Hid (Below w.heap.size w w5 ∧ w5 = w4.alloc (.cells #[.int .u64 (limb U 0 : Nat), .int .u64 (limb U 1 : Nat), .int .u64 (limb U 2 : Nat), .int .u64 (limb U 3 : Nat)] 25)) := ⟨by rw [hw5]; exact below_alloc0 (below_call0 H3.out.1 hb4) _, hw5⟩
  obtain ⟨⟨a0, a1, a2, a3⟩, _, az⟩ := (H3.out.2.1.call hb4).facts
  obtain ⟨⟨b0, b1, b2, b3⟩, _, bz⟩ := (H3.out.2.2.1.call hb4).facts
  obtain ⟨⟨c0, c1, c2, c3⟩, _, cz⟩ := (H3.out.2.2.2.call hb4).facts
  clear hb4 hw5 K4
  go_wp2_with fail
  rw [← H5.out.2]
  refine (K5.out _ (H0.out.1.call H5.out.1)).mono ?_
  rintro e w6 ⟨rfl, hb6⟩
  have H6 : Hid (Below w.heap.size w w6) := below_call0 H5.out.1 hb6
  clear hb6 a0 a1 a2 a3 az b0 b1 b2 b3 bz c0 c1 c2 c3 cz
  go_wp2_with fail
  go_ret
  exact ⟨rfl, H6.out⟩
/-- What Join answers. -/
def jnV (l : List Int) (s : List Nat) (x : Nat) : Nat := if nodesOk l = true ∧ x < QQ ∧ s.length = l.length ∧ allQ s = true then joV l s x else 0
def jnE (l : List Int) (s : List Nat) (x : Nat) : Int := if nodesOk l = true then (if x < QQ then (if s.length = l.length then (if allQ s = true then 0 else 20) else 1) else 20) else 1
theorem join_any (a b : Option Addr) (l : List Int) (s : List Nat) (c d x : Nat) (hl : l.length ≤ 17592186044416) (hR : ∀ n ∈ s, n < R256) (hxR : x < R256) (w : World) (hG : GlobQ w) (hN : IntsAt w a l) (hS : Nums w b s) :
    Calls Tryd.prog 18 #[.slice a l.length c, .slice b s.length d, .agg #[.int .u64 (limb (x) 0 : Nat), .int .u64 (limb (x) 1 : Nat), .int .u64 (limb (x) 2 : Nat), .int .u64 (limb (x) 3 : Nat)]] w fun e w' => e = .returned (.tuple #[.agg #[.int .u64 (limb (jnV l s x) 0 : Nat), .int .u64 (limb (jnV l s x) 1 : Nat), .int .u64 (limb (jnV l s x) 2 : Nat), .int .u64 (limb (jnV l s x) 3 : Nat)], .int .i64 (jnE l s x)]) ∧ Below w.heap.size w w' := by
  unfold jnV jnE
  by_cases h1 : nodesOk l = true
  · by_cases h2 : x < QQ
    · by_cases h3 : s.length = l.length
      · by_cases h4 : allQ s = true
        · rw [if_pos ⟨h1, h2, h3, h4⟩, if_pos h1, if_pos h2, if_pos h3, if_pos h4]
          exact join_in a b l s c d x hl h1 h2 h3 h4 w hG hN hS
        · rw [if_neg (fun q => h4 q.2.2.2), if_pos h1, if_pos h2, if_pos h3, if_neg h4, ← z4_num]
          exact join_bad a b l s c d x hl h1 h2 h3 hR (by simpa using h4) w hG hN hS
      · rw [if_neg (fun q => h3 q.2.2.1), if_pos h1, if_pos h2, if_neg h3, ← z4_num]
        exact join_len a b l s c d x hl h1 h2 h3 w hG hN hS
    · rw [if_neg (fun q => h2 q.2.1), if_pos h1, if_neg h2, ← z4_num]
      exact join_err a b l l.length c s.length d x 20 (by decide) (fun w hG hN => weights_x a l c x hl hxR h1 h2 w hG hN) w hG hN
  · rw [if_neg (fun q => h1 q.1), if_neg h1, ← z4_num]
    exact join_err a b l l.length c s.length d x 1 (by decide) (fun w hG hN => weights_bad a l c x hl (by simpa using h1) w hG hN) w hG hN
theorem ref_join_any (a b : Option Addr) (l : List Int) (s : List Nat) (c d x : Nat) (hl : l.length ≤ 17592186044416) (hR : ∀ n ∈ s, n < R256) (hxR : x < R256) (w : World) (hN : IntsAt w a l) (hS : Nums w b s) :
    Calls Tryd.prog 19 #[.slice a l.length c, .slice b s.length d, .agg #[.int .u64 (limb (x) 0 : Nat), .int .u64 (limb (x) 1 : Nat), .int .u64 (limb (x) 2 : Nat), .int .u64 (limb (x) 3 : Nat)]] w fun e w' => e = .returned (.tuple #[.agg #[.int .u64 (limb (jnV l s x) 0 : Nat), .int .u64 (limb (jnV l s x) 1 : Nat), .int .u64 (limb (jnV l s x) 2 : Nat), .int .u64 (limb (jnV l s x) 3 : Nat)], .int .i64 (jnE l s x)]) ∧ Below w.heap.size w w' := by
  unfold jnV jnE
  by_cases h1 : nodesOk l = true
  · by_cases h2 : x < QQ
    · by_cases h3 : s.length = l.length
      · by_cases h4 : allQ s = true
        · rw [if_pos ⟨h1, h2, h3, h4⟩, if_pos h1, if_pos h2, if_pos h3, if_pos h4]
          exact ref_join_in a b l s c d x hl h1 h2 h3 h4 w hN hS
        · rw [if_neg (fun q => h4 q.2.2.2), if_pos h1, if_pos h2, if_pos h3, if_neg h4, ← z4_num]
          exact ref_join_bad a b l s c d x hl h1 h2 h3 hR (by simpa using h4) w hN hS
      · rw [if_neg (fun q => h3 q.2.2.1), if_pos h1, if_pos h2, if_neg h3, ← z4_num]
        exact ref_join_len a b l s c d x hl h1 h2 h3 w hN hS
    · rw [if_neg (fun q => h2 q.2.1), if_pos h1, if_neg h2, ← z4_num]
      exact ref_join_err a b l l.length c s.length d x 20 (by decide) (fun w hN => ref_weights_x a l c x hl hxR h1 h2 w hN) w hN
  · rw [if_neg (fun q => h1 q.1), if_neg h1, ← z4_num]
    exact ref_join_err a b l l.length c s.length d x 1 (by decide) (fun w hN => ref_weights_bad a l c x hl (by simpa using h1) w hN) w hN
set_option maxRecDepth 100000 in
set_option maxHeartbeats 8000000 in
theorem shareJoins_any (a b : Option Addr) (l : List Int) (s : List Nat) (c d x : Nat) (hl : l.length ≤ 17592186044416) (hR : ∀ n ∈ s, n < R256) (hxR : x < R256) (w : World) (hG : GlobQ w) (hN : IntsAt w a l) (hS : Nums w b s) :
    Calls Tryd.prog 5 #[.slice a l.length c, .slice b s.length d, .agg #[.int .u64 (limb (x) 0 : Nat), .int .u64 (limb (x) 1 : Nat), .int .u64 (limb (x) 2 : Nat), .int .u64 (limb (x) 3 : Nat)]] w fun e w' => e = .returned (.bool true) ∧ Below w.heap.size w w' := by
  obtain ⟨V, hV⟩ : ∃ V, V = jnV l s x := ⟨_, rfl⟩
  obtain ⟨E, hE⟩ : ∃ V, V = jnE l s x := ⟨_, rfl⟩
  obtain ⟨m, hm⟩ : ∃ V, V = l.length := ⟨_, rfl⟩
  obtain ⟨k, hk⟩ : ∃ V, V = s.length := ⟨_, rfl⟩
  have K1 : Hid (∀ w, GlobQ w → IntsAt w a l → Nums w b s → Calls Tryd.prog 18 #[.slice a m c, .slice b k d, .agg #[.int .u64 (limb (x) 0 : Nat), .int .u64 (limb (x) 1 : Nat), .int .u64 (limb (x) 2 : Nat), .int .u64 (limb (x) 3 : Nat)]] w fun e w' => e = .returned (.tuple #[.agg #[.int .u64 (limb (V) 0 : Nat), .int .u64 (limb (V) 1 : Nat), .int .u64 (limb (V) 2 : Nat), .int .u64 (limb (V) 3 : Nat)], .int .i64 E]) ∧ Below w.heap.size w w') := fun w h1 h2 h3 => by rw [hV, hE, hm, hk]; exact join_any a b l s c d x hl hR hxR w h1 h2 h3
  have K2 : Hid (∀ w, IntsAt w a l → Nums w b s → Calls Tryd.prog 19 #[.slice a m c, .slice b k d, .agg #[.int .u64 (limb (x) 0 : Nat), .int .u64 (limb (x) 1 : Nat), .int .u64 (limb (x) 2 : Nat), .int .u64 (limb (x) 3 : Nat)]] w fun e w' => e = .returned (.tuple #[.agg #[.int .u64 (limb (V) 0 : Nat), .int .u64 (limb (V) 1 : Nat), .int .u64 (limb (V) 2 : Nat), .int .u64 (limb (V) 3 : Nat)], .int .i64 E]) ∧ Below w.heap.size w w') := fun w h2 h3 => by rw [hV, hE, hm, hk]; exact ref_join_any a b l s c d x hl hR hxR w h2 h3
  have K5 : Hid (∀ w, GlobQ w → Calls Tryd.prog 13 #[] w fun e w' => e = .returned (.bool true) ∧ Below w.heap.size w w') := fun w h => line_any w h
  have H0 : Hid (GlobQ w ∧ IntsAt w a l ∧ Nums w b s) := ⟨hG, hN, hS⟩
  have e1 := eq4_self (limb V 0 : Nat) (limb V 1 : Nat) (limb V 2 : Nat) (limb V 3 : Nat)
  rw [← hm, ← hk]
  have HB : Hid (Below w.heap.size w (w.alloc (.cells #[.int .u64 (limb x 0 : Nat), .int .u64 (limb x 1 : Nat), .int .u64 (limb x 2 : Nat), .int .u64 (limb x 3 : Nat)] 25)) ∧ Own4 (w.alloc (.cells #[.int .u64 (limb x 0 : Nat), .int .u64 (limb x 1 : Nat), .int .u64 (limb x 2 : Nat), .int .u64 (limb x 3 : Nat)] 25)) w.heap.size x) := ⟨below_alloc0 (Below.refl _ _) _, Own4.new _ _ _⟩
  clear hl hR hxR hG hN hS hV hE hm hk
  go_enter Tryd.func5, Tryd.ntmps5
  go_wp2_with fail
  refine (K1.out _ (H0.out.1.call HB.out.1) (H0.out.2.1.call HB.out.1) (H0.out.2.2.call HB.out.1)).mono ?_
  rintro e w1 ⟨rfl, hb1⟩
  have H1 : Hid (Below w.heap.size w (w1.alloc (.cells #[.int .u64 (limb V 0 : Nat), .int .u64 (limb V 1 : Nat), .int .u64 (limb V 2 : Nat), .int .u64 (limb V 3 : Nat)] 25)) ∧ Own4 (w1.alloc (.cells #[.int .u64 (limb V 0 : Nat), .int .u64 (limb V 1 : Nat), .int .u64 (limb V 2 : Nat), .int .u64 (limb V 3 : Nat)] 25)) w1.heap.size V) := ⟨below_alloc0 (below_call0 HB.out.1 hb1) _, Own4.new _ _ _⟩
  obtain ⟨⟨x0, x1, x2, x3⟩, _, xz⟩ := (HB.out.2.call hb1).facts
  clear hb1 K1 HB
  go_wp2_with fail
  refine (K2.out _ (H0.out.2.1.call H1.out.1) (H0.out.2.2.call H1.out.1)).mono ?_
  rintro e w4 ⟨rfl, hb4⟩
  have H5 : Hid (Below w.heap.size w (w4.alloc (.cells #[.int .u64 (limb V 0 : Nat), .int .u64 (limb V 1 : Nat), .int .u64 (limb V 2 : Nat), .int .u64 (limb V 3 : Nat)] 25))) := below_alloc0 (below_call0 H1.out.1 hb4) _
  obtain ⟨⟨a0, a1, a2, a3⟩, _, az⟩ := (H1.out.2.call hb4).facts
  clear hb4 K2 x0 x1 x2 x3 xz
  go_wp2_with fail
  refine (K5.out _ (H0.out.1.call H5.out)).mono ?_
  rintro e w6 ⟨rfl, hb6⟩
  have H6 : Hid (Below w.heap.size w w6) := below_call0 H5.out hb6
  clear hb6 a0 a1 a2 a3 az
  go_wp2_with fail
  go_ret
  exact ⟨rfl, H6.out⟩
end Go.Proofs.YtcdiehnkknmbeaaDoor
