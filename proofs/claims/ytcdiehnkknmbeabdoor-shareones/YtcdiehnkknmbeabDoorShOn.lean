/- The law ShareOnes. -/
import Derived.Test.YtcdiehnkknmbeabDoorShZ
namespace Go.Proofs.YtcdiehnkknmbeabDoor
open Go Go.RowKit Go.Lib
attribute [local go_sem] run_eq4

/-- The sum of weights, as the law reckons it. -/
def suK (w : Nat → Nat) : Nat → Nat
  | 0 => 0
  | k + 1 => (suK w k + w k) % QQ
theorem suK_lt (w : Nat → Nat) (k : Nat) : suK w k < QQ := by
  cases k with
  | zero => exact QQ_pos
  | succ k => exact Nat.mod_lt _ QQ_pos
theorem suK_jo (l : List Int) (x : Nat) : ∀ k, suK (wAt l x) k = joK (fun _ => 1) (wAt l x) k
  | 0 => rfl
  | k + 1 => by
    show (suK (wAt l x) k + wAt l x k) % QQ = (joK (fun _ => 1) (wAt l x) k + 1 * wAt l x k % QQ) % QQ
    rw [suK_jo l x k, Nat.one_mul, Nat.mod_eq_of_lt (wAt_lt l x k)]
theorem sum_ones {l : List Int} (hP : NodesP l) (h1 : 1 ≤ l.length) (x : Nat) : suK (wAt l x) l.length = 1 := by
  have hn : (nsL l).length = l.length := by unfold nsL; rw [List.length_map]
  rw [suK_jo]
  refine cz_eq (joK_lt _ _ _) FM_Q.pos ?_
  have h := joK_cz hP [1] (fun _ => 1) x (fun i hi => by
    have e : evI [1] (((l[i]'hi).toNat : Nat) : Int) = 1 := by simp [evI]
    rw [e]
    exact CZ.refl _ _) l.length (Nat.le_refl _)
  rw [List.take_of_length_le (by omega)] at h
  exact h.trans (tell_ones prime_Q (nsL l) (nsL_nodup hP) (nsL_lt hP) (by omega) (x : Nat))
theorem own_one {l : List Int} (hP : NodesP l) {k : Nat} (hk : k < l.length) : wAt l (l[k]'hk).toNat k = 1 := by
  refine cz_eq (wAt_lt _ _ _) FM_Q.pos ((wAt_cz hP _ hk).trans ?_)
  have hm : (l[k]'hk).toNat ∈ nsL l := List.mem_map.2 ⟨_, List.getElem_mem hk, rfl⟩
  refine wtI_own prime_Q _ _ (fun o ho => ?_)
  obtain ⟨m, hm', rfl⟩ := ints_mem ho
  have h1 := mem_oth.1 hm'
  exact apart_nodes (nsL_lt hP _ hm) (nsL_lt hP _ h1.1) (fun c => h1.2 c.symm)
theorem other_nought {l : List Int} (hP : NodesP l) {i k : Nat} (hi : i < l.length) (hk : k < l.length) (h : i ≠ k) : wAt l (l[i]'hi).toNat k = 0 := by
  refine cz_eq (wAt_lt _ _ _) QQ_pos ((wAt_cz hP _ hk).trans (CZ.of_eq ?_))
  refine wtI_other QQ _ _ _ (mem_ints (mem_oth.2 ⟨List.mem_map.2 ⟨_, List.getElem_mem hi, rfl⟩, fun c => ?_⟩))
  have h1 := hP.1 _ (List.getElem_mem hi)
  have h2 := hP.1 _ (List.getElem_mem hk)
  have h3 := (List.nodup_iff_pairwise_ne.1 hP.2)
  rcases Nat.lt_or_ge i k with c' | c'
  · exact List.pairwise_iff_getElem.1 h3 i k hi hk c' (by omega)
  · exact List.pairwise_iff_getElem.1 h3 k i hk hi (by omega) (by omega)
set_option maxRecDepth 100000 in
set_option maxHeartbeats 16000000 in
theorem so_bad (a : Option Addr) (l : List Int) (c x : Nat) (hl : l.length ≤ 17592186044416) (hxR : x < R256) (hb : nodesOk l = false) (w : World) (hG : GlobQ w) (hN : IntsAt w a l) :
    Calls Tryd.prog 3 #[.slice a l.length c, .agg #[.int .u64 (limb (x) 0 : Nat), .int .u64 (limb (x) 1 : Nat), .int .u64 (limb (x) 2 : Nat), .int .u64 (limb (x) 3 : Nat)]] w fun e w' => e = .returned (.bool true) ∧ Below w.heap.size w w' := by
  obtain ⟨q, hq⟩ : ∃ q, q = QQ := ⟨_, rfl⟩
  obtain ⟨n, hn⟩ : ∃ n, n = l.length := ⟨_, rfl⟩
  obtain ⟨t, ht⟩ : ∃ t, t = x % QQ := ⟨_, rfl⟩
  have KS : Hid (∀ w, Calls Tryd.prog 4 #[] w fun e w' => e = .returned (.agg #[.int .u64 (limb (q) 0 : Nat), .int .u64 (limb (q) 1 : Nat), .int .u64 (limb (q) 2 : Nat), .int .u64 (limb (q) 3 : Nat), .int .u64 (limb (R256 - (q)) 0 : Nat), .int .u64 (limb (R256 - (q)) 1 : Nat), .int .u64 (limb (R256 - (q)) 2 : Nat), .int .u64 (limb (R256 - (q)) 3 : Nat)]) ∧ Below w.heap.size w w') := fun w => by rw [hq]; exact scalars2_any w
  have KD : Hid (∀ w, Calls Tryd.prog 5 #[.agg #[.int .u64 (limb (q) 0 : Nat), .int .u64 (limb (q) 1 : Nat), .int .u64 (limb (q) 2 : Nat), .int .u64 (limb (q) 3 : Nat), .int .u64 (limb (R256 - (q)) 0 : Nat), .int .u64 (limb (R256 - (q)) 1 : Nat), .int .u64 (limb (R256 - (q)) 2 : Nat), .int .u64 (limb (R256 - (q)) 3 : Nat)], .agg #[.int .u64 (limb x 0 : Nat), .int .u64 (limb x 1 : Nat), .int .u64 (limb x 2 : Nat), .int .u64 (limb x 3 : Nat), .int .u64 0, .int .u64 0, .int .u64 0, .int .u64 0]] w fun e w' => e = .returned (.agg #[.int .u64 (limb (t) 0 : Nat), .int .u64 (limb (t) 1 : Nat), .int .u64 (limb (t) 2 : Nat), .int .u64 (limb (t) 3 : Nat)]) ∧ Below w.heap.size w w') := fun w => by rw [hq, ht]; exact reduce4 x hxR w
  have KA : Hid (∀ w, IntsAt w a l → Calls Tryd.prog 6 #[.slice a n c] w fun e w' => e = .returned (.bool false) ∧ Below w.heap.size w w') := fun w h => by rw [hn, ← hb]; exact among_any a l c hl w h
  have KL : Hid (∀ w, GlobQ w → Calls Tryd.prog 7 #[] w fun e w' => e = .returned (.bool true) ∧ Below w.heap.size w w') := fun w h => line_any w h
  have H0 : Hid (GlobQ w ∧ IntsAt w a l ∧ n = l.length ∧ t < QQ ∧ q = QQ ∧ l.length ≤ 17592186044416) := ⟨hG, hN, hn, by rw [ht]; exact Nat.mod_lt _ QQ_pos, hq, hl⟩
  have HB : Hid (Below w.heap.size w (w.alloc (.cells #[.int .u64 (limb x 0 : Nat), .int .u64 (limb x 1 : Nat), .int .u64 (limb x 2 : Nat), .int .u64 (limb x 3 : Nat)] 25)) ∧ Own4 (w.alloc (.cells #[.int .u64 (limb x 0 : Nat), .int .u64 (limb x 1 : Nat), .int .u64 (limb x 2 : Nat), .int .u64 (limb x 3 : Nat)] 25)) w.heap.size x) := ⟨below_alloc0 (Below.refl _ _) _, Own4.new _ _ _⟩
  rw [← hn]
  clear hl hxR hG hN hq hn ht hb
  go_enter Tryd.func3, Tryd.ntmps3
  go_wp2_with fail
  refine (KS.out _).mono ?_
  rintro e w1 ⟨rfl, hb1⟩
  obtain ⟨w2, hw2⟩ : ∃ y, y = w1.alloc (.cells #[.int .u64 (limb q 0 : Nat), .int .u64 (limb q 1 : Nat), .int .u64 (limb q 2 : Nat), .int .u64 (limb q 3 : Nat), .int .u64 (limb (R256 - q) 0 : Nat), .int .u64 (limb (R256 - q) 1 : Nat), .int .u64 (limb (R256 - q) 2 : Nat), .int .u64 (limb (R256 - q) 3 : Nat)] 27) := ⟨_, rfl⟩
  have H2 : Hid (Below w.heap.size w w2 ∧ Own4 w2 w.heap.size x ∧ FieldB w2 w1.heap.size q ∧ w2 = w1.alloc (.cells #[.int .u64 (limb q 0 : Nat), .int .u64 (limb q 1 : Nat), .int .u64 (limb q 2 : Nat), .int .u64 (limb q 3 : Nat), .int .u64 (limb (R256 - q) 0 : Nat), .int .u64 (limb (R256 - q) 1 : Nat), .int .u64 (limb (R256 - q) 2 : Nat), .int .u64 (limb (R256 - q) 3 : Nat)] 27)) := by
    refine ⟨?_, ?_, ?_, hw2⟩
    · rw [hw2]; exact below_alloc0 (below_call0 HB.out.1 hb1) _
    · rw [hw2]; exact (HB.out.2.call hb1).alloc
    · rw [hw2]; exact FieldB.new _ _ _
  clear hb1 hw2 HB KS
  obtain ⟨⟨x0, x1, x2, x3⟩, _, xz⟩ := H2.out.2.1.facts
  obtain ⟨q0, q1, q2, q3⟩ := H2.out.2.2.1.1.facts
  obtain ⟨r0, r1, r2, r3⟩ := H2.out.2.2.1.gap
  have rz := H2.out.2.2.1.2.2
  rw [H2.out.2.2.2] at x0 x1 x2 x3 xz q0 q1 q2 q3 r0 r1 r2 r3 rz
  go_wp2_with fail
  rw [← H2.out.2.2.2]
  refine (KD.out _).mono ?_
  rintro e w3 ⟨rfl, hb3⟩
  have H3 : Hid (Below w.heap.size w (w3.alloc (.cells #[.int .u64 (limb t 0 : Nat), .int .u64 (limb t 1 : Nat), .int .u64 (limb t 2 : Nat), .int .u64 (limb t 3 : Nat)] 25)) ∧ Own4 (w3.alloc (.cells #[.int .u64 (limb t 0 : Nat), .int .u64 (limb t 1 : Nat), .int .u64 (limb t 2 : Nat), .int .u64 (limb t 3 : Nat)] 25)) w3.heap.size t ∧ FieldB (w3.alloc (.cells #[.int .u64 (limb t 0 : Nat), .int .u64 (limb t 1 : Nat), .int .u64 (limb t 2 : Nat), .int .u64 (limb t 3 : Nat)] 25)) w1.heap.size q) := ⟨below_alloc0 (below_call0 H2.out.1 hb3) _, Own4.new _ _ _, (H2.out.2.2.1.call hb3).alloc⟩
  clear hb3 x0 x1 x2 x3 xz q0 q1 q2 q3 r0 r1 r2 r3 rz KD H2
  go_wp2_with fail
  refine (KA.out _ (H0.out.2.1.call H3.out.1)).mono ?_
  rintro e w4 ⟨rfl, hb4⟩
  have H4 : Hid (Below w.heap.size w w4 ∧ Own4 w4 w3.heap.size t ∧ FieldB w4 w1.heap.size q) := ⟨below_call0 H3.out.1 hb4, H3.out.2.1.call hb4, H3.out.2.2.call hb4⟩
  clear hb4 KA H3
  go_wp2_with fail
  refine (KL.out _ (H0.out.1.call H4.out.1)).mono ?_
  rintro e w30 ⟨rfl, hb30⟩
  have H30 : Hid (Below w.heap.size w w30) := below_call0 H4.out.1 hb30
  clear hb30
  go_wp2_with fail
  go_ret
  exact ⟨rfl, H30.out⟩
set_option maxRecDepth 100000 in
set_option maxHeartbeats 16000000 in
theorem so_in (a : Option Addr) (l : List Int) (c x : Nat) (hl : l.length ≤ 17592186044416) (hxR : x < R256) (hb : nodesOk l = true) (w : World) (hG : GlobQ w) (hN : IntsAt w a l) :
    Calls Tryd.prog 3 #[.slice a l.length c, .agg #[.int .u64 (limb (x) 0 : Nat), .int .u64 (limb (x) 1 : Nat), .int .u64 (limb (x) 2 : Nat), .int .u64 (limb (x) 3 : Nat)]] w fun e w' => e = .returned (.bool true) ∧ Below w.heap.size w w' := by
  obtain ⟨q, hq⟩ : ∃ q, q = QQ := ⟨_, rfl⟩
  obtain ⟨n, hn⟩ : ∃ n, n = l.length := ⟨_, rfl⟩
  obtain ⟨t, ht⟩ : ∃ t, t = x % QQ := ⟨_, rfl⟩
  have KS : Hid (∀ w, Calls Tryd.prog 4 #[] w fun e w' => e = .returned (.agg #[.int .u64 (limb (q) 0 : Nat), .int .u64 (limb (q) 1 : Nat), .int .u64 (limb (q) 2 : Nat), .int .u64 (limb (q) 3 : Nat), .int .u64 (limb (R256 - (q)) 0 : Nat), .int .u64 (limb (R256 - (q)) 1 : Nat), .int .u64 (limb (R256 - (q)) 2 : Nat), .int .u64 (limb (R256 - (q)) 3 : Nat)]) ∧ Below w.heap.size w w') := fun w => by rw [hq]; exact scalars2_any w
  have KD : Hid (∀ w, Calls Tryd.prog 5 #[.agg #[.int .u64 (limb (q) 0 : Nat), .int .u64 (limb (q) 1 : Nat), .int .u64 (limb (q) 2 : Nat), .int .u64 (limb (q) 3 : Nat), .int .u64 (limb (R256 - (q)) 0 : Nat), .int .u64 (limb (R256 - (q)) 1 : Nat), .int .u64 (limb (R256 - (q)) 2 : Nat), .int .u64 (limb (R256 - (q)) 3 : Nat)], .agg #[.int .u64 (limb x 0 : Nat), .int .u64 (limb x 1 : Nat), .int .u64 (limb x 2 : Nat), .int .u64 (limb x 3 : Nat), .int .u64 0, .int .u64 0, .int .u64 0, .int .u64 0]] w fun e w' => e = .returned (.agg #[.int .u64 (limb (t) 0 : Nat), .int .u64 (limb (t) 1 : Nat), .int .u64 (limb (t) 2 : Nat), .int .u64 (limb (t) 3 : Nat)]) ∧ Below w.heap.size w w') := fun w => by rw [hq, ht]; exact reduce4 x hxR w
  have KA : Hid (∀ w, IntsAt w a l → Calls Tryd.prog 6 #[.slice a n c] w fun e w' => e = .returned (.bool true) ∧ Below w.heap.size w w') := fun w h => by rw [hn, ← hb]; exact among_any a l c hl w h
  have KL : Hid (∀ w, GlobQ w → Calls Tryd.prog 7 #[] w fun e w' => e = .returned (.bool true) ∧ Below w.heap.size w w') := fun w h => line_any w h
  have H0 : Hid (GlobQ w ∧ IntsAt w a l ∧ n = l.length ∧ t < QQ ∧ q = QQ ∧ l.length ≤ 17592186044416) := ⟨hG, hN, hn, by rw [ht]; exact Nat.mod_lt _ QQ_pos, hq, hl⟩
  have HB : Hid (Below w.heap.size w (w.alloc (.cells #[.int .u64 (limb x 0 : Nat), .int .u64 (limb x 1 : Nat), .int .u64 (limb x 2 : Nat), .int .u64 (limb x 3 : Nat)] 25)) ∧ Own4 (w.alloc (.cells #[.int .u64 (limb x 0 : Nat), .int .u64 (limb x 1 : Nat), .int .u64 (limb x 2 : Nat), .int .u64 (limb x 3 : Nat)] 25)) w.heap.size x) := ⟨below_alloc0 (Below.refl _ _) _, Own4.new _ _ _⟩
  have hP := (nodes_ok hb).1
  have h10 := nodes_short hP
  have h01 := (nodes_ok hb).2
  have hz1 := hP.1 _ (List.getElem_mem h01)
  obtain ⟨y, hy⟩ : ∃ y, y = (l[0]'h01).toNat := ⟨_, rfl⟩
  have hyi : (y : Int) = (l[0]'h01) := by omega
  have y10 : (y : Int) ≤ 10 := by omega
  have yq : y < QQ := Nat.lt_of_le_of_lt (show y ≤ 10 by omega) (by decide)
  have n10 : (n : Int) ≤ 10 := by omega
  have n01 : (1 : Int) ≤ (n : Int) := by omega
  have n0 : 0 < n := by omega
  have e4 : IntKind.u64.wrap (y : Int) = (y : Int) := by rw [IntKind.wrap_u64]; omega
  have HI : Hid (NodesP l ∧ nodesOk l = true ∧ 0 < l.length ∧ (y : Int) = (l[0]'h01) ∧ y = (l[0]'h01).toNat ∧ n ≤ 10) := ⟨hP, hb, h01, hyi, hy, by omega⟩
  have KW : Hid (∀ w, GlobQ w → IntsAt w a l → Calls Tryd.prog 8 #[.slice a n c, .agg #[.int .u64 (limb (t) 0 : Nat), .int .u64 (limb (t) 1 : Nat), .int .u64 (limb (t) 2 : Nat), .int .u64 (limb (t) 3 : Nat)]] w fun e w' => ∃ b, e = .returned (.tuple #[.slice (some ⟨b, 0, none⟩) n n, .int .i64 0]) ∧ Nums w' (some ⟨b, 0, none⟩) (wsL l t) ∧ Below w.heap.size w w') := fun w h1 h2 => by
    rw [hn]
    exact (weights_in a l c t hl hb (by rw [ht]; exact Nat.mod_lt _ QQ_pos) w h1 h2).mono fun e w' ⟨b, h, g, _, k⟩ => ⟨b, h, g, k⟩
  have KY : Hid (∀ w, GlobQ w → IntsAt w a l → Calls Tryd.prog 8 #[.slice a n c, .agg #[.int .u64 (y : Int), .int .u64 0, .int .u64 0, .int .u64 0]] w fun e w' => ∃ b, e = .returned (.tuple #[.slice (some ⟨b, 0, none⟩) n n, .int .i64 0]) ∧ Nums w' (some ⟨b, 0, none⟩) (wsL l y) ∧ Below w.heap.size w w') := fun w h1 h2 => by
    obtain ⟨l0, l1, l2, l3⟩ := limb_small y (Nat.lt_of_le_of_lt (show y ≤ 10 by omega) (by decide))
    have h := weights_in a l c y hl hb yq w h1 h2
    rw [l0, l1, l2, l3] at h
    rw [hn]
    exact h.mono fun e w' ⟨b, h, g, _, k⟩ => ⟨b, h, g, k⟩
  clear hP h10 hz1 hy hyi yq
  rw [← hn]
  clear hl hxR hG hN hq hn ht hb
  go_enter Tryd.func3, Tryd.ntmps3
  go_wp2_with fail
  refine (KS.out _).mono ?_
  rintro e w1 ⟨rfl, hb1⟩
  obtain ⟨w2, hw2⟩ : ∃ y, y = w1.alloc (.cells #[.int .u64 (limb q 0 : Nat), .int .u64 (limb q 1 : Nat), .int .u64 (limb q 2 : Nat), .int .u64 (limb q 3 : Nat), .int .u64 (limb (R256 - q) 0 : Nat), .int .u64 (limb (R256 - q) 1 : Nat), .int .u64 (limb (R256 - q) 2 : Nat), .int .u64 (limb (R256 - q) 3 : Nat)] 27) := ⟨_, rfl⟩
  have H2 : Hid (Below w.heap.size w w2 ∧ Own4 w2 w.heap.size x ∧ FieldB w2 w1.heap.size q ∧ w2 = w1.alloc (.cells #[.int .u64 (limb q 0 : Nat), .int .u64 (limb q 1 : Nat), .int .u64 (limb q 2 : Nat), .int .u64 (limb q 3 : Nat), .int .u64 (limb (R256 - q) 0 : Nat), .int .u64 (limb (R256 - q) 1 : Nat), .int .u64 (limb (R256 - q) 2 : Nat), .int .u64 (limb (R256 - q) 3 : Nat)] 27)) := by
    refine ⟨?_, ?_, ?_, hw2⟩
    · rw [hw2]; exact below_alloc0 (below_call0 HB.out.1 hb1) _
    · rw [hw2]; exact (HB.out.2.call hb1).alloc
    · rw [hw2]; exact FieldB.new _ _ _
  clear hb1 hw2 HB KS
  obtain ⟨⟨x0, x1, x2, x3⟩, _, xz⟩ := H2.out.2.1.facts
  obtain ⟨q0, q1, q2, q3⟩ := H2.out.2.2.1.1.facts
  obtain ⟨r0, r1, r2, r3⟩ := H2.out.2.2.1.gap
  have rz := H2.out.2.2.1.2.2
  rw [H2.out.2.2.2] at x0 x1 x2 x3 xz q0 q1 q2 q3 r0 r1 r2 r3 rz
  go_wp2_with fail
  rw [← H2.out.2.2.2]
  refine (KD.out _).mono ?_
  rintro e w3 ⟨rfl, hb3⟩
  have H3 : Hid (Below w.heap.size w (w3.alloc (.cells #[.int .u64 (limb t 0 : Nat), .int .u64 (limb t 1 : Nat), .int .u64 (limb t 2 : Nat), .int .u64 (limb t 3 : Nat)] 25)) ∧ Own4 (w3.alloc (.cells #[.int .u64 (limb t 0 : Nat), .int .u64 (limb t 1 : Nat), .int .u64 (limb t 2 : Nat), .int .u64 (limb t 3 : Nat)] 25)) w3.heap.size t ∧ FieldB (w3.alloc (.cells #[.int .u64 (limb t 0 : Nat), .int .u64 (limb t 1 : Nat), .int .u64 (limb t 2 : Nat), .int .u64 (limb t 3 : Nat)] 25)) w1.heap.size q) := ⟨below_alloc0 (below_call0 H2.out.1 hb3) _, Own4.new _ _ _, (H2.out.2.2.1.call hb3).alloc⟩
  clear hb3 x0 x1 x2 x3 xz q0 q1 q2 q3 r0 r1 r2 r3 rz KD H2
  go_wp2_with fail
  refine (KA.out _ (H0.out.2.1.call H3.out.1)).mono ?_
  rintro e w4 ⟨rfl, hb4⟩
  have H4 : Hid (Below w.heap.size w w4 ∧ Own4 w4 w3.heap.size t ∧ FieldB w4 w1.heap.size q) := ⟨below_call0 H3.out.1 hb4, H3.out.2.1.call hb4, H3.out.2.2.call hb4⟩
  clear hb4 KA H3
  obtain ⟨⟨t0, t1, t2, t3⟩, _, tz⟩ := H4.out.2.1.facts
  go_wp2_with fail
  refine (KW.out _ (H0.out.1.call H4.out.1) (H0.out.2.1.call H4.out.1)).mono ?_
  rintro e w5 ⟨wb, rfl, hq5, hb5⟩
  have H5 : Hid (Below w.heap.size w w5 ∧ FieldB w5 w1.heap.size q ∧ Nums w5 (some ⟨wb, 0, none⟩) (wsL l t)) := ⟨below_call0 H4.out.1 hb5, H4.out.2.2.call hb5, hq5⟩
  clear hb5 hq5 t0 t1 t2 t3 tz KW H4
  go_wp2_with fail
  obtain ⟨w6, hw6⟩ : ∃ y, y = w5.alloc (.cells #[.int .u64 0, .int .u64 0, .int .u64 0, .int .u64 0] 25) := ⟨_, rfl⟩
  have H6 : Hid (Below w5.heap.size w5 w6 ∧ Own4 w6 w5.heap.size 0) := by
    rw [hw6]
    have h := Own4.new w5 0 25
    rw [limb_nought, limb_nought, limb_nought, limb_nought] at h
    exact ⟨below_alloc0 (Below.refl _ _) _, h⟩
  rw [← hw6]
  clear hw6
  rename_i Kr hKr
  have HKr : Hid _ := hKr
  clear hKr
  go_loopw [50] (fun iv wr => ∃ k : Nat, k ≤ n ∧ iv = .int .i64 (k : Nat) ∧ Own4 wr w5.heap.size (suK (wAt l t) k) ∧ Below w5.heap.size w5 wr) (fun iv _ => n - (Go.RowKit.intOf iv).toNat)
  case atStart => exact ⟨0, Nat.zero_le _, rfl, H6.out.2, H6.out.1⟩
  case round =>
    obtain ⟨k, hk, rfl, hO, hB⟩ := hrel
    rename World => wr
    obtain ⟨v, hv⟩ : ∃ v, v = suK (wAt l t) k := ⟨_, rfl⟩
    rw [← hv] at hO
    have HR : Hid (Own4 wr w5.heap.size v ∧ Below w5.heap.size w5 wr ∧ v = suK (wAt l t) k) := ⟨hO, hB, hv⟩
    clear hO hB hv
    by_cases hlt : k < n
    · clear HKr
      have hkw : k < (wsL l t).length := by rw [wsL_length, ← H0.out.2.2.1]; exact hlt
      have hlt' : (k : Int) < (n : Int) := Int.ofNat_lt.2 hlt
      obtain ⟨p', o', e', ⟨d0, d1, d2, d3⟩, dz⟩ := (H5.out.2.2.call HR.out.2.1).get hkw
      simp only [Option.some.injEq, Addr.mk.injEq, and_true] at e'
      obtain ⟨rfl, rfl⟩ := e'
      rw [Nat.zero_add, wsL_get] at d0 d1 d2 d3
      obtain ⟨m, hm⟩ : ∃ m, m = wAt l t k := ⟨_, rfl⟩
      rw [← hm] at d0 d1 d2 d3
      obtain ⟨u, hu⟩ : ∃ u, u = (v + m) % QQ := ⟨_, rfl⟩
      have KP : Hid (∀ w, Calls Tryd.prog 9 #[.agg #[.int .u64 (limb (q) 0 : Nat), .int .u64 (limb (q) 1 : Nat), .int .u64 (limb (q) 2 : Nat), .int .u64 (limb (q) 3 : Nat), .int .u64 (limb (R256 - (q)) 0 : Nat), .int .u64 (limb (R256 - (q)) 1 : Nat), .int .u64 (limb (R256 - (q)) 2 : Nat), .int .u64 (limb (R256 - (q)) 3 : Nat)], .agg #[.int .u64 (limb (v) 0 : Nat), .int .u64 (limb (v) 1 : Nat), .int .u64 (limb (v) 2 : Nat), .int .u64 (limb (v) 3 : Nat)], .agg #[.int .u64 (limb (m) 0 : Nat), .int .u64 (limb (m) 1 : Nat), .int .u64 (limb (m) 2 : Nat), .int .u64 (limb (m) 3 : Nat)]] w fun e w' => e = .returned (.agg #[.int .u64 (limb (u) 0 : Nat), .int .u64 (limb (u) 1 : Nat), .int .u64 (limb (u) 2 : Nat), .int .u64 (limb (u) 3 : Nat)]) ∧ Below w.heap.size w w') := fun w => by rw [H0.out.2.2.2.2.1, hu]; exact add2_any QQ v m FM_Q.2.1 (by rw [HR.out.2.2]; exact suK_lt _ _) (by rw [hm]; exact wAt_lt _ _ _) w
      have HU : Hid (u = suK (wAt l t) (k + 1)) := by
        show u = (suK (wAt l t) k + wAt l t k) % QQ
        rw [← HR.out.2.2, ← hm]; exact hu
      clear hm hu
      have hF := H5.out.2.1.call HR.out.2.1
      obtain ⟨q0, q1, q2, q3⟩ := hF.1.facts
      obtain ⟨r0, r1, r2, r3⟩ := hF.gap
      have rz := hF.2.2
      obtain ⟨⟨o0, o1, o2, o3⟩, ⟨f0, f1, f2, f3⟩, oz⟩ := HR.out.1.facts
      clear hF
      go_wp2_with fail
      refine (KP.out _).mono ?_
      rintro e w8 ⟨rfl, hb8⟩
      have H8 : Hid (Own4 w8 w5.heap.size v ∧ Below w5.heap.size w5 w8) := ⟨HR.out.1.alloc.call hb8, below_call0 (below_alloc0 HR.out.2.1 _) hb8⟩
      clear hb8 q0 q1 q2 q3 r0 r1 r2 r3 rz o0 o1 o2 o3 f0 f1 f2 f3 oz d0 d1 d2 d3 dz
      obtain ⟨⟨o0, o1, o2, o3⟩, ⟨f0, f1, f2, f3⟩, oz⟩ := H8.out.1.facts
      have HE : Hid (Own4 ((((w8.setCell ⟨w5.heap.size, 0, none⟩ (.int .u64 (limb u 0 : Nat))).setCell ⟨w5.heap.size, 1, none⟩ (.int .u64 (limb u 1 : Nat))).setCell ⟨w5.heap.size, 2, none⟩ (.int .u64 (limb u 2 : Nat))).setCell ⟨w5.heap.size, 3, none⟩ (.int .u64 (limb u 3 : Nat))) w5.heap.size (suK (wAt l t) (k + 1)) ∧ Below w5.heap.size w5 ((((w8.setCell ⟨w5.heap.size, 0, none⟩ (.int .u64 (limb u 0 : Nat))).setCell ⟨w5.heap.size, 1, none⟩ (.int .u64 (limb u 1 : Nat))).setCell ⟨w5.heap.size, 2, none⟩ (.int .u64 (limb u 2 : Nat))).setCell ⟨w5.heap.size, 3, none⟩ (.int .u64 (limb u 3 : Nat)))) := by
        refine ⟨?_, ?_⟩
        · rw [← HU.out]; exact H8.out.1.put
        · exact Below.setCell (Below.setCell (Below.setCell (Below.setCell H8.out.2 (Nat.le_refl _) _) (Nat.le_refl _) _) (Nat.le_refl _) _) (Nat.le_refl _) _
      go_wp2_with fail
      go_roundw
      case rel => first | exact ⟨k + 1, hlt, by go_num, HE.out⟩ | ((repeat apply Exists.intro); exact ⟨⟨k + 1, hlt, by go_num, HE.out⟩, rfl⟩)
      case measure => simp [intOf]; omega
    · obtain rfl : k = n := by omega
      have hnl : ¬ ((k : Int) < (k : Int)) := Int.lt_irrefl _
      have HVV : Hid (v = 1) := by rw [HR.out.2.2, H0.out.2.2.1, sum_ones HI.out.1 HI.out.2.2.1]; rfl
      have HW : Hid (Below w.heap.size w wr) := below_call0 H5.out.1 HR.out.2.1
      obtain ⟨p, o, rfl, c0, pz⟩ := (H0.out.2.1.call HW.out).get HI.out.2.2.1
      rw [← HI.out.2.2.2.1, Nat.add_zero] at c0
      clear hlt hk
      go_wp2_with fail
      refine HKr.out _ _ ?_
      clear HKr
      go_wp2_with fail
      refine (KY.out _ (H0.out.1.call HW.out) (H0.out.2.1.call HW.out)).mono ?_
      rintro e w9 ⟨yb, rfl, hq9, hb9⟩
      have H9 : Hid (Below w.heap.size w w9 ∧ Own4 w9 w5.heap.size v ∧ Nums w9 (some ⟨yb, 0, none⟩) (wsL l y)) := ⟨below_call0 HW.out hb9, HR.out.1.call hb9, hq9⟩
      clear hb9 hq9 c0 pz
      have hkw : 0 < (wsL l y).length := by rw [wsL_length]; exact HI.out.2.2.1
      obtain ⟨⟨o0, o1, o2, o3⟩, _, oz⟩ := H9.out.2.1.facts
      obtain ⟨p', o', e', ⟨d0, d1, d2, d3⟩, dz⟩ := H9.out.2.2.get hkw
      simp only [Option.some.injEq, Addr.mk.injEq, and_true] at e'
      obtain ⟨rfl, rfl⟩ := e'
      rw [wsL_get, HI.out.2.2.2.2.1, own_one HI.out.1 HI.out.2.2.1, Nat.zero_mul, Nat.add_zero] at d0 d1 d2 d3
      rw [HVV.out] at o0 o1 o2 o3
      rw [limb_one.1] at o0 d0
      rw [limb_one.2.1] at o1 d1
      rw [limb_one.2.2.1] at o2 d2
      rw [limb_one.2.2.2] at o3 d3
      have g1 : eq4 1 0 0 0 1 0 0 0 = true := by decide
      clear hkw
      rcases (show k = 1 ∨ ∃ d, k = d + 2 from by rcases k with _ | _ | d; exact absurd n0 (by decide); exact .inl rfl; exact .inr ⟨d, rfl⟩) with rfl | ⟨d, rfl⟩
      · clear o0 o1 o2 o3 oz d0 d1 d2 d3 dz
        obtain ⟨⟨o0, o1, o2, o3⟩, _, oz⟩ := H9.out.2.1.facts
        obtain ⟨p', o', e', ⟨d0, d1, d2, d3⟩, dz⟩ := H9.out.2.2.get (show 0 < (wsL l y).length by rw [wsL_length]; exact HI.out.2.2.1)
        simp only [Option.some.injEq, Addr.mk.injEq, and_true] at e'
        obtain ⟨rfl, rfl⟩ := e'
        rw [wsL_get, HI.out.2.2.2.2.1, own_one HI.out.1 HI.out.2.2.1, Nat.zero_mul, Nat.add_zero] at d0 d1 d2 d3
        rw [HVV.out] at o0 o1 o2 o3
        rw [limb_one.1] at o0 d0
        rw [limb_one.2.1] at o1 d1
        rw [limb_one.2.2.1] at o2 d2
        rw [limb_one.2.2.2] at o3 d3
        go_wp2_with fail
        rename_i Kz hKz
        have HKz : Hid _ := hKz
        clear hKz o0 o1 o2 o3 oz d0 d1 d2 d3 dz g1
        go_loopw [86] (fun iv wz => iv = .int .i64 0 ∧ Below w9.heap.size w9 wz) (fun _ _ => 0)
        case atStart => exact ⟨rfl, Below.refl _ _⟩
        case round =>
          obtain ⟨rfl, hB⟩ := hrel
          rename World => wz
          have HZ : Hid (Below w.heap.size w wz) := below_call0 H9.out.1 hB
          clear hB
          go_wp2_with fail
          refine HKz.out _ _ ?_
          clear HKz
          go_wp2_with fail
          refine (KL.out _ (H0.out.1.call HZ.out)).mono ?_
          rintro e w30 ⟨rfl, hb30⟩
          have H30 : Hid (Below w.heap.size w w30) := below_call0 HZ.out hb30
          clear hb30
          go_wp2_with fail
          go_ret
          exact ⟨rfl, H30.out⟩
      · go_wp2_with fail
        rename_i Kz hKz
        have HKz : Hid _ := hKz
        clear hKz o0 o1 o2 o3 oz d0 d1 d2 d3 dz g1
        have g0 : eq4 0 0 0 0 0 0 0 0 = true := by decide
        go_loopw [86] (fun iv wz => ∃ j : Nat, j ≤ d + 1 ∧ iv = .int .i64 (j : Nat) ∧ Below w9.heap.size w9 wz) (fun iv _ => d + 1 - (Go.RowKit.intOf iv).toNat)
        case atStart => exact ⟨0, Nat.zero_le _, rfl, Below.refl _ _⟩
        case round =>
          obtain ⟨j, hj, rfl, hB⟩ := hrel
          rename World => wz
          have HZ : Hid (Below w.heap.size w wz ∧ Below w9.heap.size w9 wz) := ⟨below_call0 H9.out.1 hB, hB⟩
          clear hB
          by_cases hlt2 : j < d + 1
          · clear HKz
            have hlt2' : (j : Int) < (d : Int) + 1 := by omega
            have hjl : j + 1 < l.length := by rw [← H0.out.2.2.1]; omega
            have hjw : j + 1 < (wsL l y).length := by rw [wsL_length]; exact hjl
            obtain ⟨p', o', e', ⟨d0, d1, d2, d3⟩, dz⟩ := (H9.out.2.2.call HZ.out.2).get hjw
            simp only [Option.some.injEq, Addr.mk.injEq, and_true] at e'
            obtain ⟨rfl, rfl⟩ := e'
            rw [wsL_get, HI.out.2.2.2.2.1, other_nought HI.out.1 HI.out.2.2.1 hjl (by omega), limb_nought, show 0 + (j + 1) * 4 = 4 + j * 4 by omega] at d0 d1 d2 d3
            go_wp2_with fail
            go_roundw
            case rel => first | exact ⟨j + 1, hlt2, by go_num, below_alloc0 HZ.out.2 _⟩ | ((repeat apply Exists.intro); exact ⟨⟨j + 1, hlt2, by go_num, below_alloc0 HZ.out.2 _⟩, rfl⟩)
            case measure => simp [intOf]; omega
          · obtain rfl : j = d + 1 := by omega
            have hnl2 : ¬ (((d + 1 : Nat) : Int) < (d : Int) + 1) := by omega
            clear hlt2 hj
            go_wp2_with fail
            refine HKz.out _ _ ?_
            clear HKz
            go_wp2_with fail
            refine (KL.out _ (H0.out.1.call HZ.out.1)).mono ?_
            rintro e w30 ⟨rfl, hb30⟩
            have H30 : Hid (Below w.heap.size w w30) := below_call0 HZ.out.1 hb30
            clear hb30
            go_wp2_with fail
            go_ret
            exact ⟨rfl, H30.out⟩
theorem shareOnes_any (a : Option Addr) (l : List Int) (c x : Nat) (hl : l.length ≤ 17592186044416) (hxR : x < R256) (w : World) (hG : GlobQ w) (hN : IntsAt w a l) :
    Calls Tryd.prog 3 #[.slice a l.length c, .agg #[.int .u64 (limb (x) 0 : Nat), .int .u64 (limb (x) 1 : Nat), .int .u64 (limb (x) 2 : Nat), .int .u64 (limb (x) 3 : Nat)]] w fun e w' => e = .returned (.bool true) ∧ Below w.heap.size w w' := by
  by_cases hb : nodesOk l = true
  · exact so_in a l c x hl hxR hb w hG hN
  · exact so_bad a l c x hl hxR (by simpa using hb) w hG hN
end Go.Proofs.YtcdiehnkknmbeabDoor
