/- Several texts laid together. -/
import Derived.Test.YtcdiehnkknmbeaaDoorMhD
namespace Go.Proofs.YtcdiehnkknmbeaaDoor
open Go Go.RowKit Go.Lib

/-- The i'th node's weight for x. -/
def wAt (l : List Int) (x i : Nat) : Nat := cwN QQ x (l[i]?.getD 0).toNat (othI l i)
def wsL (l : List Int) (x : Nat) : List Nat := (List.range l.length).map (wAt l x)
theorem wsL_length (l : List Int) (x : Nat) : (wsL l x).length = l.length := by simp [wsL]
theorem wsL_get (l : List Int) (x j : Nat) (hj : j < (wsL l x).length) : ((wsL l x)[j]'hj) = wAt l x j := by simp [wsL]
theorem wAt_lt (l : List Int) (x i : Nat) : wAt l x i < QQ := Nat.mod_lt _ QQ_pos
theorem few_nodes : ∀ (m : Nat) (l : List Int), l.Nodup → (∀ z ∈ l, 1 ≤ z ∧ z ≤ (m : Int)) → l.length ≤ m
  | 0, l, _, h => by
    cases l with
    | nil => exact Nat.le_refl _
    | cons z l => have := h z List.mem_cons_self; omega
  | m + 1, l, hd, h => by
    have h1 := few_nodes m (l.erase ((m + 1 : Nat) : Int)) (hd.erase _) (fun z hz => by
      have h2 := (hd.mem_erase_iff).1 hz
      have h3 := h z h2.2
      have h4 := h2.1
      omega)
    have h5 := List.length_erase (a := ((m + 1 : Nat) : Int)) (l := l)
    split at h5 <;> omega
theorem nodes_short {l : List Int} (h : NodesP l) : l.length ≤ 10 := few_nodes 10 l h.2 (fun z hz => h.1 z hz)
theorem nodes_ok {l : List Int} (h : nodesOk l = true) : NodesP l ∧ 0 < l.length := of_decide_eq_true h
set_option maxRecDepth 100000 in
set_option maxHeartbeats 8000000 in
theorem weights_bad (a : Option Addr) (l : List Int) (c x : Nat) (hl : l.length ≤ 17592186044416) (hb : nodesOk l = false) (w : World) (hG : GlobQ w) (hN : IntsAt w a l) :
    Calls Tryd.prog 14 #[.slice a l.length c, .agg #[.int .u64 (limb (x) 0 : Nat), .int .u64 (limb (x) 1 : Nat), .int .u64 (limb (x) 2 : Nat), .int .u64 (limb (x) 3 : Nat)]] w fun e w' => e = .returned (.tuple #[.slice none 0 0, .int .i64 1]) ∧ Below w.heap.size w w' := by
  have k1 := fun w hN => areNodes_any a l c hl w hN
  rw [hb] at k1
  obtain ⟨n, hn⟩ : ∃ n, n = l.length := ⟨_, rfl⟩
  rw [← hn] at k1
  rw [← hn]
  have K1 : Hid _ := k1
  have H0 : Hid (GlobQ w ∧ IntsAt w a l ∧ n = l.length) := ⟨hG, hN, hn⟩
  have HB : Hid (Below w.heap.size w (w.alloc (.cells #[.int .u64 (limb x 0 : Nat), .int .u64 (limb x 1 : Nat), .int .u64 (limb x 2 : Nat), .int .u64 (limb x 3 : Nat)] 25)) ∧ Own4 (w.alloc (.cells #[.int .u64 (limb x 0 : Nat), .int .u64 (limb x 1 : Nat), .int .u64 (limb x 2 : Nat), .int .u64 (limb x 3 : Nat)] 25)) w.heap.size x) := ⟨below_alloc0 (Below.refl _ _) _, Own4.new _ _ _⟩
  clear hn hl hG hN k1 hb
  go_enter Tryd.func14, Tryd.ntmps14
  go_wp2_with fail
  refine (K1.out _ (H0.out.2.1.call HB.out.1)).mono ?_
  rintro e w1 ⟨rfl, hb1⟩
  have H1 : Hid (Below w.heap.size w w1 ∧ Own4 w1 w.heap.size x) := ⟨below_call0 HB.out.1 hb1, HB.out.2.call hb1⟩
  clear hb1 K1 HB
  go_wp2_with fail
  go_ret2
  exact ⟨rfl, H1.out.1⟩
set_option maxRecDepth 100000 in
set_option maxHeartbeats 8000000 in
theorem weights_x (a : Option Addr) (l : List Int) (c x : Nat) (hl : l.length ≤ 17592186044416) (hxR : x < R256) (hb : nodesOk l = true) (hx : ¬ x < QQ) (w : World) (hG : GlobQ w) (hN : IntsAt w a l) :
    Calls Tryd.prog 14 #[.slice a l.length c, .agg #[.int .u64 (limb (x) 0 : Nat), .int .u64 (limb (x) 1 : Nat), .int .u64 (limb (x) 2 : Nat), .int .u64 (limb (x) 3 : Nat)]] w fun e w' => e = .returned (.tuple #[.slice none 0 0, .int .i64 20]) ∧ Below w.heap.size w w' := by
  have k1 := fun w hN => areNodes_any a l c hl w hN
  rw [hb] at k1
  have K3 : Hid _ := fun (b : Option Addr) (w : World) (hG : GlobQ w) (hN : Nums w b [x]) => check_not b [x] 1 (by simp) (by simpa using hxR) (by rw [allQ_one]; exact decide_eq_false hx) w hG hN
  obtain ⟨n, hn⟩ : ∃ n, n = l.length := ⟨_, rfl⟩
  rw [← hn] at k1
  rw [← hn]
  have K1 : Hid _ := k1
  have H0 : Hid (GlobQ w ∧ IntsAt w a l ∧ n = l.length) := ⟨hG, hN, hn⟩
  have HB : Hid (Below w.heap.size w (w.alloc (.cells #[.int .u64 (limb x 0 : Nat), .int .u64 (limb x 1 : Nat), .int .u64 (limb x 2 : Nat), .int .u64 (limb x 3 : Nat)] 25)) ∧ Own4 (w.alloc (.cells #[.int .u64 (limb x 0 : Nat), .int .u64 (limb x 1 : Nat), .int .u64 (limb x 2 : Nat), .int .u64 (limb x 3 : Nat)] 25)) w.heap.size x) := ⟨below_alloc0 (Below.refl _ _) _, Own4.new _ _ _⟩
  clear hn hl hG hN k1 hb hx hxR
  go_enter Tryd.func14, Tryd.ntmps14
  go_wp2_with fail
  refine (K1.out _ (H0.out.2.1.call HB.out.1)).mono ?_
  rintro e w1 ⟨rfl, hb1⟩
  have H1 : Hid (Below w.heap.size w w1 ∧ Own4 w1 w.heap.size x) := ⟨below_call0 HB.out.1 hb1, HB.out.2.call hb1⟩
  clear hb1 K1 HB
  obtain ⟨⟨p0, p1, p2, p3⟩, ⟨f0, f1, f2, f3⟩, pz⟩ := H1.out.2.facts
  go_wp2_with fail
  refine (K3.out _ _ (H0.out.1.call (below_alloc0 H1.out.1 _)) (Nums.one' rfl)).mono ?_
  rintro e w3 ⟨rfl, hb3⟩
  have H3 : Hid (Below w.heap.size w w3) := below_call0 (below_alloc0 H1.out.1 _) hb3
  clear hb3 p0 p1 p2 p3 f0 f1 f2 f3 pz
  go_wp2_with fail
  go_ret2
  exact ⟨rfl, H3.out⟩
set_option maxRecDepth 100000 in
set_option maxHeartbeats 8000000 in
theorem weights_in (a : Option Addr) (l : List Int) (c x : Nat) (hl : l.length ≤ 17592186044416) (hb : nodesOk l = true) (hx : x < QQ) (w : World) (hG : GlobQ w) (hN : IntsAt w a l) :
    Calls Tryd.prog 14 #[.slice a l.length c, .agg #[.int .u64 (limb (x) 0 : Nat), .int .u64 (limb (x) 1 : Nat), .int .u64 (limb (x) 2 : Nat), .int .u64 (limb (x) 3 : Nat)]] w fun e w' => ∃ b, e = .returned (.tuple #[.slice (some ⟨b, 0, none⟩) l.length l.length, .int .i64 0]) ∧ Nums w' (some ⟨b, 0, none⟩) (wsL l x) ∧ w.heap.size ≤ b ∧ Below w.heap.size w w' := by
  have k1 := fun w hN => areNodes_any a l c hl w hN
  rw [hb] at k1
  have hP := (nodes_ok hb).1
  have h10 := nodes_short hP
  have K3 : Hid _ := fun (b : Option Addr) (w : World) (hG : GlobQ w) (hN : Nums w b [x]) => check_yes b [x] 1 (by simp) (by rw [allQ_one]; exact decide_eq_true hx) w hG hN
  have K4 : Hid _ := fun w h => reckoner_any w h
  have kw : ∀ (g i : Nat) (hi : i < l.length) (w : World), FieldB w g QQ → IntsAt w a l → Calls Tryd.prog 41 #[.agg #[.pointer (some ⟨g, 0, none⟩)], .slice a l.length c, .int .i64 (i : Nat), .agg #[.int .u64 (limb (x) 0 : Nat), .int .u64 (limb (x) 1 : Nat), .int .u64 (limb (x) 2 : Nat), .int .u64 (limb (x) 3 : Nat)]] w fun e w' => e = .returned (.agg #[.int .u64 (limb (wAt l x i) 0 : Nat), .int .u64 (limb (wAt l x i) 1 : Nat), .int .u64 (limb (wAt l x i) 2 : Nat), .int .u64 (limb (wAt l x i) 3 : Nat)]) ∧ Below w.heap.size w w' := fun g i hi w h1 h2 => by
    have hz := hP.1 _ (List.getElem_mem hi)
    have e : l[i]?.getD 0 = (l[i]'hi) := by rw [List.getElem?_eq_getElem hi]; rfl
    unfold wAt
    rw [e]
    exact weight_any g i x a l c _ h10 hi hP (by omega) hx w h1 h2
  obtain ⟨n, hn⟩ : ∃ n, n = l.length := ⟨_, rfl⟩
  rw [← hn] at k1
  rw [← hn]
  have K1 : Hid _ := k1
  have H0 : Hid (GlobQ w ∧ IntsAt w a l ∧ n = l.length) := ⟨hG, hN, hn⟩
  have HB : Hid (Below w.heap.size w (w.alloc (.cells #[.int .u64 (limb x 0 : Nat), .int .u64 (limb x 1 : Nat), .int .u64 (limb x 2 : Nat), .int .u64 (limb x 3 : Nat)] 25)) ∧ Own4 (w.alloc (.cells #[.int .u64 (limb x 0 : Nat), .int .u64 (limb x 1 : Nat), .int .u64 (limb x 2 : Nat), .int .u64 (limb x 3 : Nat)] 25)) w.heap.size x) := ⟨below_alloc0 (Below.refl _ _) _, Own4.new _ _ _⟩
  have hnk : n ≤ 10 := by omega
  have kw' : ∀ (g i : Nat) (_ : i < l.length) (w : World), FieldB w g QQ → IntsAt w a l → Calls Tryd.prog 41 #[.agg #[.pointer (some ⟨g, 0, none⟩)], .slice a n c, .int .i64 (i : Nat), .agg #[.int .u64 (limb (x) 0 : Nat), .int .u64 (limb (x) 1 : Nat), .int .u64 (limb (x) 2 : Nat), .int .u64 (limb (x) 3 : Nat)]] w fun e w' => e = .returned (.agg #[.int .u64 (limb (wAt l x i) 0 : Nat), .int .u64 (limb (wAt l x i) 1 : Nat), .int .u64 (limb (wAt l x i) 2 : Nat), .int .u64 (limb (wAt l x i) 3 : Nat)]) ∧ Below w.heap.size w w' := by rw [hn]; exact kw
  have KW : Hid _ := kw'
  have HMK : Hid (n ≤ 1000000) := by unfold Hid; omega
  have hmk : ∀ w, (Instr.makeSlice 22 (.int .i64 (n : Int)) (.int .i64 (n : Int))).run Tryd.prog w = .ok (.slice (some ⟨w.heap.size, 0, none⟩) n n) (w.alloc (.cells (madeN n) 25)) := fun w => make_run n (by omega) w
  have n10 : (n : Int) ≤ 10 := by omega
  clear hn hl hG hN k1 hb hx hP h10 kw kw' hnk
  go_enter Tryd.func14, Tryd.ntmps14
  go_wp2_with fail
  refine (K1.out _ (H0.out.2.1.call HB.out.1)).mono ?_
  rintro e w1 ⟨rfl, hb1⟩
  have H1 : Hid (Below w.heap.size w w1 ∧ Own4 w1 w.heap.size x) := ⟨below_call0 HB.out.1 hb1, HB.out.2.call hb1⟩
  clear hb1 K1 HB
  obtain ⟨⟨p0, p1, p2, p3⟩, ⟨f0, f1, f2, f3⟩, pz⟩ := H1.out.2.facts
  go_wp2_with fail
  refine (K3.out _ _ (H0.out.1.call (below_alloc0 H1.out.1 _)) (Nums.one' rfl)).mono ?_
  rintro e w3 ⟨rfl, hb3⟩
  have H3 : Hid (Below w.heap.size w w3 ∧ Own4 w3 w.heap.size x) := ⟨below_call0 (below_alloc0 H1.out.1 _) hb3, H1.out.2.call (below_call0 (below_alloc0 (Below.refl _ _) _) hb3)⟩
  clear hb3 p0 p1 p2 p3 f0 f1 f2 f3 pz
  go_wp2_with fail
  refine (K4.out _ (H0.out.1.call H3.out.1)).mono ?_
  rintro e w4 ⟨g, rfl, hFB, hb4⟩
  obtain ⟨w5, hw5⟩ : ∃ y, y = w4.alloc (.cells #[.pointer (some ⟨g, 0, none⟩)] 67) := ⟨_, rfl⟩
  have H5 : Hid (Below w.heap.size w w5 ∧ Own4 w5 w.heap.size x ∧ Ptr1 w5 w4.heap.size g ∧ FieldB w5 g QQ) := by
    rw [hw5]
    exact ⟨below_alloc0 (below_call0 H3.out.1 hb4) _, (H3.out.2.call hb4).alloc, Ptr1.new _ _ _, hFB.alloc⟩
  have HZ5 : Hid (w4.heap.size + 1 = w5.heap.size ∧ w5 = w4.alloc (.cells #[.pointer (some ⟨g, 0, none⟩)] 67)) := ⟨by rw [hw5]; simp, hw5⟩
  clear hb4 hFB H3 hw5
  go_wp2_with fail
  clear hmk
  rw [← HZ5.out.2]
  try rw [HZ5.out.1]
  clear HZ5
  obtain ⟨w6, hw6⟩ : ∃ y, y = w5.alloc (.cells (madeN n) 25) := ⟨_, rfl⟩
  have H6 : Hid (Below w5.heap.size w5 w6 ∧ TabN w6 w5.heap.size n (fun _ => 0)) := by
    rw [hw6]
    exact ⟨below_alloc0 (Below.refl _ _) _, TabN.made _ _ _⟩
  rw [← hw6]
  clear hw6
  rename_i Kr hKr
  have HKr : Hid _ := hKr
  clear hKr
  go_loopw [25] (fun iv wr => ∃ k : Nat, k ≤ n ∧ iv = .int .i64 (k : Nat) ∧ ∃ f : Nat → Nat, TabN wr w5.heap.size n f ∧ (∀ j, j < k → f j = wAt l x j) ∧ Below w5.heap.size w5 wr) (fun iv _ => n - (Go.RowKit.intOf iv).toNat)
  case atStart => exact ⟨0, Nat.zero_le _, rfl, _, H6.out.2, fun j c => absurd c (Nat.not_lt_zero _), H6.out.1⟩
  case round =>
    obtain ⟨k, hk, rfl, f, hT, hf, hB⟩ := hrel
    rename World => wr
    have HR : Hid (TabN wr w5.heap.size n f ∧ (∀ j, j < k → f j = wAt l x j) ∧ Below w5.heap.size w5 wr) := ⟨hT, hf, hB⟩
    clear hT hf hB
    by_cases hlt : k < n
    · clear HKr
      have hkl : k < l.length := by rw [← H0.out.2.2]; exact hlt
      have hlt' : (k : Int) < (n : Int) := Int.ofNat_lt.2 hlt
      obtain ⟨v, hv⟩ : ∃ v, v = wAt l x k := ⟨_, rfl⟩
      have KV : Hid (∀ w, FieldB w g QQ → IntsAt w a l → Calls Tryd.prog 41 #[.agg #[.pointer (some ⟨g, 0, none⟩)], .slice a n c, .int .i64 (k : Nat), .agg #[.int .u64 (limb (x) 0 : Nat), .int .u64 (limb (x) 1 : Nat), .int .u64 (limb (x) 2 : Nat), .int .u64 (limb (x) 3 : Nat)]] w fun e w' => e = .returned (.agg #[.int .u64 (limb (v) 0 : Nat), .int .u64 (limb (v) 1 : Nat), .int .u64 (limb (v) 2 : Nat), .int .u64 (limb (v) 3 : Nat)]) ∧ Below w.heap.size w w') := fun w h1 h2 => by rw [hv]; exact KW.out g k hkl w h1 h2
      have HV : Hid (v = wAt l x k) := hv
      clear hv
      obtain ⟨⟨x0, x1, x2, x3⟩, _, xz⟩ := (H5.out.2.1.call HR.out.2.2).facts
      obtain ⟨r0, rz⟩ := H5.out.2.2.1.call HR.out.2.2
      go_wp2_with fail
      refine (KV.out _ (H5.out.2.2.2.call HR.out.2.2) ((H0.out.2.1.call H5.out.1).call HR.out.2.2)).mono ?_
      rintro e w7 ⟨rfl, hb7⟩
      have H7 : Hid (TabN w7 w5.heap.size n f ∧ Below w5.heap.size w5 w7) := ⟨HR.out.1.call hb7, below_call0 HR.out.2.2 hb7⟩
      clear hb7 x0 x1 x2 x3 xz r0 rz
      obtain ⟨⟨t0, t1, t2, t3⟩, g0, g1, g2, g3⟩ := H7.out.1.at k hlt
      have tz := H7.out.1.2.2
      have HE : Hid (TabN ((((w7.setCell ⟨w5.heap.size, k * 4, none⟩ (.int .u64 (limb v 0 : Nat))).setCell ⟨w5.heap.size, k * 4 + 1, none⟩ (.int .u64 (limb v 1 : Nat))).setCell ⟨w5.heap.size, k * 4 + 2, none⟩ (.int .u64 (limb v 2 : Nat))).setCell ⟨w5.heap.size, k * 4 + 3, none⟩ (.int .u64 (limb v 3 : Nat))) w5.heap.size n (fun j => if j = k then v else f j) ∧ (∀ j, j < k + 1 → (fun j => if j = k then v else f j) j = wAt l x j) ∧ Below w5.heap.size w5 ((((w7.setCell ⟨w5.heap.size, k * 4, none⟩ (.int .u64 (limb v 0 : Nat))).setCell ⟨w5.heap.size, k * 4 + 1, none⟩ (.int .u64 (limb v 1 : Nat))).setCell ⟨w5.heap.size, k * 4 + 2, none⟩ (.int .u64 (limb v 2 : Nat))).setCell ⟨w5.heap.size, k * 4 + 3, none⟩ (.int .u64 (limb v 3 : Nat)))) := by
        refine ⟨H7.out.1.put k v hlt, fun j hj => ?_, Below.setCell (Below.setCell (Below.setCell (Below.setCell H7.out.2 (Nat.le_refl _) _) (Nat.le_refl _) _) (Nat.le_refl _) _) (Nat.le_refl _) _⟩
        show (if j = k then v else f j) = _
        by_cases e : j = k
        · rw [if_pos e, e]; exact HV.out
        · rw [if_neg e]; exact HR.out.2.1 j (by omega)
      go_wp2_with fail
      go_roundw
      case rel => first | exact ⟨k + 1, hlt, by go_num, _, HE.out⟩ | ((repeat apply Exists.intro); exact ⟨⟨k + 1, hlt, by go_num, _, HE.out⟩, rfl⟩)
      case measure => simp [intOf]; omega
    · obtain rfl : k = n := by omega
      have hnl : ¬ ((k : Int) < (k : Int)) := Int.lt_irrefl _
      have HF : Hid (Nums wr (some ⟨w5.heap.size, 0, none⟩) (wsL l x)) := by
        have hT := HR.out.1
        have e : k = (wsL l x).length := by rw [wsL_length]; exact H0.out.2.2
        rw [e] at hT
        refine hT.nums fun j hj => ?_
        rw [wsL_get]
        exact HR.out.2.1 j (by rw [e]; exact hj)
      clear hlt hk
      go_wp2_with fail
      refine HKr.out _ _ ?_
      clear HKr
      go_wp2_with fail
      go_ret2
      exact ⟨_, rfl, HF.out, H5.out.1.size, below_call0 H5.out.1 HR.out.2.2⟩
end Go.Proofs.YtcdiehnkknmbeaaDoor

namespace Go.Proofs.YtcdiehnkknmbeaaDoor
open Go Go.RowKit Go.Lib

def foI (l : List Int) (z : Int) : List Nat := (l.filter fun o => decide (o ≠ z)).map Int.toNat
theorem erase_filter : ∀ (l : List Int) (i : Nat) (hi : i < l.length), l.Nodup → l.eraseIdx i = l.filter fun o => decide (o ≠ (l[i]'hi))
  | [], i, hi, _ => by simp at hi
  | z :: l, 0, _, hd => by
    have hd' := List.nodup_cons.1 hd
    have e : (z :: l).filter (fun o => decide (o ≠ z)) = l.filter (fun o => decide (o ≠ z)) := by rw [List.filter_cons]; simp
    show l = (z :: l).filter fun o => decide (o ≠ z)
    rw [e, List.filter_eq_self.2]
    exact fun a ha => decide_eq_true fun c => hd'.1 (c ▸ ha)
  | z :: l, i + 1, hi, hd => by
    have hd' := List.nodup_cons.1 hd
    have hi' : i < l.length := by simpa using hi
    have ih := erase_filter l i hi' hd'.2
    show z :: l.eraseIdx i = (z :: l).filter fun o => decide (o ≠ (l[i]'hi'))
    have hne : z ≠ (l[i]'hi') := fun c => hd'.1 (by rw [c]; exact List.getElem_mem hi')
    rw [List.filter_cons, if_pos (by simpa using hne), ← ih]
theorem othI_fo {l : List Int} {i : Nat} (hi : i < l.length) (hd : l.Nodup) : othI l i = foI l (l[i]'hi) := by
  unfold othI foI
  rw [erase_filter l i hi hd]
theorem foI_mem {l : List Int} {z : Int} (h : NodesP l) : ∀ o ∈ foI l z, o ≤ QQ := fun o ho => by
  obtain ⟨a, ha, rfl⟩ := List.mem_map.1 ho
  have := h.1 a (List.mem_filter.1 ha).1
  exact Nat.le_trans (show a.toNat ≤ 10 by omega) (by decide)
theorem wAt_ref {l : List Int} {x i : Nat} (hi : i < l.length) (hP : NodesP l) : wAt l x i = rwN QQ x (l[i]'hi).toNat 1 (foI l (l[i]'hi)) := by
  unfold wAt
  have e : l[i]?.getD 0 = (l[i]'hi) := by rw [List.getElem?_eq_getElem hi]; rfl
  rw [e, othI_fo hi hP.2]
  exact weights_same QQ x _ QQ_pos _ (foI_mem hP) FM_Q.pos
def rwF (x n o w : Nat) : Nat := w * (subM QQ x o * (subM QQ n o ^ (QQ - 2) % QQ) % QQ) % QQ
theorem rwN_snoc (x n o : Nat) : ∀ (os : List Nat) (w : Nat), rwN QQ x n w (os ++ [o]) = rwF x n o (rwN QQ x n w os)
  | [], _ => rfl
  | p :: os, w => rwN_snoc x n o os (w * ((x + QQ - p) % QQ * (((n + QQ - p) % QQ) ^ (QQ - 2) % QQ) % QQ) % QQ)
theorem foI_same {l : List Int} {j : Nat} (hj : j < l.length) : foI (l.take (j + 1)) (l[j]'hj) = foI (l.take j) (l[j]'hj) := by
  unfold foI
  rw [List.take_succ_eq_append_getElem hj, List.filter_append]
  simp
theorem foI_other {l : List Int} {j : Nat} {z : Int} (hj : j < l.length) (h : (l[j]'hj) ≠ z) : foI (l.take (j + 1)) z = foI (l.take j) z ++ [(l[j]'hj).toNat] := by
  unfold foI
  rw [List.take_succ_eq_append_getElem hj, List.filter_append, List.map_append]
  simp [h]
theorem rwN_lt (x n : Nat) : ∀ (os : List Nat) (w : Nat), w < QQ → rwN QQ x n w os < QQ
  | [], _, h => h
  | _ :: os, _, _ => rwN_lt x n os _ (Nat.mod_lt _ QQ_pos)
set_option maxRecDepth 100000 in
set_option maxHeartbeats 8000000 in
theorem ref_weights_bad (a : Option Addr) (l : List Int) (c x : Nat) (hl : l.length ≤ 17592186044416) (hb : nodesOk l = false) (w : World) (hN : IntsAt w a l) :
    Calls Tryd.prog 15 #[.slice a l.length c, .agg #[.int .u64 (limb (x) 0 : Nat), .int .u64 (limb (x) 1 : Nat), .int .u64 (limb (x) 2 : Nat), .int .u64 (limb (x) 3 : Nat)]] w fun e w' => e = .returned (.tuple #[.slice none 0 0, .int .i64 1]) ∧ Below w.heap.size w w' := by
  have k2 := fun w hN => among_any a l c hl w hN
  obtain ⟨q, hq⟩ : ∃ q, q = QQ := ⟨_, rfl⟩
  have K1 : Hid (∀ w, Calls Tryd.prog 25 #[] w fun e w' => e = .returned (.agg #[.int .u64 (limb (q) 0 : Nat), .int .u64 (limb (q) 1 : Nat), .int .u64 (limb (q) 2 : Nat), .int .u64 (limb (q) 3 : Nat), .int .u64 (limb (R256 - (q)) 0 : Nat), .int .u64 (limb (R256 - (q)) 1 : Nat), .int .u64 (limb (R256 - (q)) 2 : Nat), .int .u64 (limb (R256 - (q)) 3 : Nat)]) ∧ Below w.heap.size w w') := fun w => by rw [hq]; exact scalars2_any w
  rw [hb] at k2
  obtain ⟨n, hn⟩ : ∃ n, n = l.length := ⟨_, rfl⟩
  rw [← hn] at k2
  rw [← hn]
  have K2 : Hid _ := k2
  have H0 : Hid (IntsAt w a l ∧ n = l.length ∧ q = QQ) := ⟨hN, hn, hq⟩
  have HB : Hid (Below w.heap.size w (w.alloc (.cells #[.int .u64 (limb x 0 : Nat), .int .u64 (limb x 1 : Nat), .int .u64 (limb x 2 : Nat), .int .u64 (limb x 3 : Nat)] 25)) ∧ Own4 (w.alloc (.cells #[.int .u64 (limb x 0 : Nat), .int .u64 (limb x 1 : Nat), .int .u64 (limb x 2 : Nat), .int .u64 (limb x 3 : Nat)] 25)) w.heap.size x) := ⟨below_alloc0 (Below.refl _ _) _, Own4.new _ _ _⟩
  clear hl hb hN k2 hq hn
  go_enter Tryd.func15, Tryd.ntmps15
  go_wp2_with fail
  refine (K1.out _).mono ?_
  rintro e w1 ⟨rfl, hb1⟩
  have H1 : Hid (Below w.heap.size w (w1.alloc (.cells #[.int .u64 (limb q 0 : Nat), .int .u64 (limb q 1 : Nat), .int .u64 (limb q 2 : Nat), .int .u64 (limb q 3 : Nat), .int .u64 (limb (R256 - q) 0 : Nat), .int .u64 (limb (R256 - q) 1 : Nat), .int .u64 (limb (R256 - q) 2 : Nat), .int .u64 (limb (R256 - q) 3 : Nat)] 55)) ∧ Own4 (w1.alloc (.cells #[.int .u64 (limb q 0 : Nat), .int .u64 (limb q 1 : Nat), .int .u64 (limb q 2 : Nat), .int .u64 (limb q 3 : Nat), .int .u64 (limb (R256 - q) 0 : Nat), .int .u64 (limb (R256 - q) 1 : Nat), .int .u64 (limb (R256 - q) 2 : Nat), .int .u64 (limb (R256 - q) 3 : Nat)] 55)) w.heap.size x ∧ FieldB (w1.alloc (.cells #[.int .u64 (limb q 0 : Nat), .int .u64 (limb q 1 : Nat), .int .u64 (limb q 2 : Nat), .int .u64 (limb q 3 : Nat), .int .u64 (limb (R256 - q) 0 : Nat), .int .u64 (limb (R256 - q) 1 : Nat), .int .u64 (limb (R256 - q) 2 : Nat), .int .u64 (limb (R256 - q) 3 : Nat)] 55)) w1.heap.size q) := ⟨below_alloc0 (below_call0 HB.out.1 hb1) _, (HB.out.2.call hb1).alloc, FieldB.new _ _ _⟩
  clear hb1 K1 HB
  go_wp2_with fail
  refine (K2.out _ (H0.out.1.call H1.out.1)).mono ?_
  rintro e w2 ⟨rfl, hb2⟩
  have H2 : Hid (Below w.heap.size w w2 ∧ Own4 w2 w.heap.size x ∧ FieldB w2 w1.heap.size q) := ⟨below_call0 H1.out.1 hb2, H1.out.2.1.call hb2, H1.out.2.2.call hb2⟩
  clear hb2 K2 H1
  go_wp2_with fail
  go_ret2
  exact ⟨rfl, H2.out.1⟩
set_option maxRecDepth 100000 in
set_option maxHeartbeats 8000000 in
theorem ref_weights_x (a : Option Addr) (l : List Int) (c x : Nat) (hl : l.length ≤ 17592186044416) (hxR : x < R256) (hb : nodesOk l = true) (hx : ¬ x < QQ) (w : World) (hN : IntsAt w a l) :
    Calls Tryd.prog 15 #[.slice a l.length c, .agg #[.int .u64 (limb (x) 0 : Nat), .int .u64 (limb (x) 1 : Nat), .int .u64 (limb (x) 2 : Nat), .int .u64 (limb (x) 3 : Nat)]] w fun e w' => e = .returned (.tuple #[.slice none 0 0, .int .i64 20]) ∧ Below w.heap.size w w' := by
  have k2 := fun w hN => among_any a l c hl w hN
  obtain ⟨q, hq⟩ : ∃ q, q = QQ := ⟨_, rfl⟩
  have K1 : Hid (∀ w, Calls Tryd.prog 25 #[] w fun e w' => e = .returned (.agg #[.int .u64 (limb (q) 0 : Nat), .int .u64 (limb (q) 1 : Nat), .int .u64 (limb (q) 2 : Nat), .int .u64 (limb (q) 3 : Nat), .int .u64 (limb (R256 - (q)) 0 : Nat), .int .u64 (limb (R256 - (q)) 1 : Nat), .int .u64 (limb (R256 - (q)) 2 : Nat), .int .u64 (limb (R256 - (q)) 3 : Nat)]) ∧ Below w.heap.size w w') := fun w => by rw [hq]; exact scalars2_any w
  rw [hb] at k2
  have K3 : Hid (∀ w, Calls Tryd.prog 37 #[.agg #[.int .u64 (limb (q) 0 : Nat), .int .u64 (limb (q) 1 : Nat), .int .u64 (limb (q) 2 : Nat), .int .u64 (limb (q) 3 : Nat), .int .u64 (limb (R256 - (q)) 0 : Nat), .int .u64 (limb (R256 - (q)) 1 : Nat), .int .u64 (limb (R256 - (q)) 2 : Nat), .int .u64 (limb (R256 - (q)) 3 : Nat)], .agg #[.int .u64 (limb (x) 0 : Nat), .int .u64 (limb (x) 1 : Nat), .int .u64 (limb (x) 2 : Nat), .int .u64 (limb (x) 3 : Nat)]] w fun e w' => e = .returned (.bool false) ∧ Below w.heap.size w w') := fun w => by rw [hq]; exact has2_b QQ x false FM_Q.2.1 hxR (decide_eq_false hx) w
  obtain ⟨n, hn⟩ : ∃ n, n = l.length := ⟨_, rfl⟩
  rw [← hn] at k2
  rw [← hn]
  have K2 : Hid _ := k2
  have H0 : Hid (IntsAt w a l ∧ n = l.length ∧ q = QQ) := ⟨hN, hn, hq⟩
  have HB : Hid (Below w.heap.size w (w.alloc (.cells #[.int .u64 (limb x 0 : Nat), .int .u64 (limb x 1 : Nat), .int .u64 (limb x 2 : Nat), .int .u64 (limb x 3 : Nat)] 25)) ∧ Own4 (w.alloc (.cells #[.int .u64 (limb x 0 : Nat), .int .u64 (limb x 1 : Nat), .int .u64 (limb x 2 : Nat), .int .u64 (limb x 3 : Nat)] 25)) w.heap.size x) := ⟨below_alloc0 (Below.refl _ _) _, Own4.new _ _ _⟩
  clear hl hb hN k2 hq hn hx hxR
  go_enter Tryd.func15, Tryd.ntmps15
  go_wp2_with fail
  refine (K1.out _).mono ?_
  rintro e w1 ⟨rfl, hb1⟩
  have H1 : Hid (Below w.heap.size w (w1.alloc (.cells #[.int .u64 (limb q 0 : Nat), .int .u64 (limb q 1 : Nat), .int .u64 (limb q 2 : Nat), .int .u64 (limb q 3 : Nat), .int .u64 (limb (R256 - q) 0 : Nat), .int .u64 (limb (R256 - q) 1 : Nat), .int .u64 (limb (R256 - q) 2 : Nat), .int .u64 (limb (R256 - q) 3 : Nat)] 55)) ∧ Own4 (w1.alloc (.cells #[.int .u64 (limb q 0 : Nat), .int .u64 (limb q 1 : Nat), .int .u64 (limb q 2 : Nat), .int .u64 (limb q 3 : Nat), .int .u64 (limb (R256 - q) 0 : Nat), .int .u64 (limb (R256 - q) 1 : Nat), .int .u64 (limb (R256 - q) 2 : Nat), .int .u64 (limb (R256 - q) 3 : Nat)] 55)) w.heap.size x ∧ FieldB (w1.alloc (.cells #[.int .u64 (limb q 0 : Nat), .int .u64 (limb q 1 : Nat), .int .u64 (limb q 2 : Nat), .int .u64 (limb q 3 : Nat), .int .u64 (limb (R256 - q) 0 : Nat), .int .u64 (limb (R256 - q) 1 : Nat), .int .u64 (limb (R256 - q) 2 : Nat), .int .u64 (limb (R256 - q) 3 : Nat)] 55)) w1.heap.size q) := ⟨below_alloc0 (below_call0 HB.out.1 hb1) _, (HB.out.2.call hb1).alloc, FieldB.new _ _ _⟩
  clear hb1 K1 HB
  go_wp2_with fail
  refine (K2.out _ (H0.out.1.call H1.out.1)).mono ?_
  rintro e w2 ⟨rfl, hb2⟩
  have H2 : Hid (Below w.heap.size w w2 ∧ Own4 w2 w.heap.size x ∧ FieldB w2 w1.heap.size q) := ⟨below_call0 H1.out.1 hb2, H1.out.2.1.call hb2, H1.out.2.2.call hb2⟩
  clear hb2 K2 H1
  obtain ⟨⟨p0, p1, p2, p3⟩, ⟨f0, f1, f2, f3⟩, pz⟩ := H2.out.2.1.facts
  obtain ⟨q0, q1, q2, q3⟩ := H2.out.2.2.1.facts
  obtain ⟨r0, r1, r2, r3⟩ := H2.out.2.2.gap
  have rz := H2.out.2.2.2.2
  go_wp2_with fail
  refine (K3.out _).mono ?_
  rintro e w3 ⟨rfl, hb3⟩
  have H3 : Hid (Below w.heap.size w w3 ∧ Own4 w3 w.heap.size x ∧ FieldB w3 w1.heap.size q) := ⟨below_call0 H2.out.1 hb3, H2.out.2.1.call hb3, H2.out.2.2.call hb3⟩
  clear hb3 p0 p1 p2 p3 f0 f1 f2 f3 pz q0 q1 q2 q3 r0 r1 r2 r3 rz H2 K3
  go_wp2_with fail
  go_ret2
  exact ⟨rfl, H3.out.1⟩
set_option maxRecDepth 100000 in
set_option maxHeartbeats 8000000 in
theorem ref_weights_in (a : Option Addr) (l : List Int) (c x : Nat) (hl : l.length ≤ 17592186044416) (hb : nodesOk l = true) (hx : x < QQ) (w : World) (hN : IntsAt w a l) :
    Calls Tryd.prog 15 #[.slice a l.length c, .agg #[.int .u64 (limb (x) 0 : Nat), .int .u64 (limb (x) 1 : Nat), .int .u64 (limb (x) 2 : Nat), .int .u64 (limb (x) 3 : Nat)]] w fun e w' => ∃ a' cap', e = .returned (.tuple #[.slice a' l.length cap', .int .i64 0]) ∧ Nums w' a' (wsL l x) ∧ Below w.heap.size w w' := by
  have k2 := fun w hN => among_any a l c hl w hN
  obtain ⟨q, hq⟩ : ∃ q, q = QQ := ⟨_, rfl⟩
  have K1 : Hid (∀ w, Calls Tryd.prog 25 #[] w fun e w' => e = .returned (.agg #[.int .u64 (limb (q) 0 : Nat), .int .u64 (limb (q) 1 : Nat), .int .u64 (limb (q) 2 : Nat), .int .u64 (limb (q) 3 : Nat), .int .u64 (limb (R256 - (q)) 0 : Nat), .int .u64 (limb (R256 - (q)) 1 : Nat), .int .u64 (limb (R256 - (q)) 2 : Nat), .int .u64 (limb (R256 - (q)) 3 : Nat)]) ∧ Below w.heap.size w w') := fun w => by rw [hq]; exact scalars2_any w
  rw [hb] at k2
  have K3 : Hid (∀ w, Calls Tryd.prog 37 #[.agg #[.int .u64 (limb (q) 0 : Nat), .int .u64 (limb (q) 1 : Nat), .int .u64 (limb (q) 2 : Nat), .int .u64 (limb (q) 3 : Nat), .int .u64 (limb (R256 - (q)) 0 : Nat), .int .u64 (limb (R256 - (q)) 1 : Nat), .int .u64 (limb (R256 - (q)) 2 : Nat), .int .u64 (limb (R256 - (q)) 3 : Nat)], .agg #[.int .u64 (limb (x) 0 : Nat), .int .u64 (limb (x) 1 : Nat), .int .u64 (limb (x) 2 : Nat), .int .u64 (limb (x) 3 : Nat)]] w fun e w' => e = .returned (.bool true) ∧ Below w.heap.size w w') := fun w => by rw [hq]; exact has2_b QQ x true FM_Q.2.1 (Nat.lt_trans hx FM_Q.2.1) (decide_eq_true hx) w
  obtain ⟨n, hn⟩ : ∃ n, n = l.length := ⟨_, rfl⟩
  rw [← hn] at k2
  rw [← hn]
  have K2 : Hid _ := k2
  have H0 : Hid (IntsAt w a l ∧ n = l.length ∧ q = QQ) := ⟨hN, hn, hq⟩
  have HB : Hid (Below w.heap.size w (w.alloc (.cells #[.int .u64 (limb x 0 : Nat), .int .u64 (limb x 1 : Nat), .int .u64 (limb x 2 : Nat), .int .u64 (limb x 3 : Nat)] 25)) ∧ Own4 (w.alloc (.cells #[.int .u64 (limb x 0 : Nat), .int .u64 (limb x 1 : Nat), .int .u64 (limb x 2 : Nat), .int .u64 (limb x 3 : Nat)] 25)) w.heap.size x) := ⟨below_alloc0 (Below.refl _ _) _, Own4.new _ _ _⟩
  have hP := (nodes_ok hb).1
  have n10 : (n : Int) ≤ 10 := by have := nodes_short hP; omega
  have HP : Hid (NodesP l ∧ x < QQ) := ⟨hP, hx⟩
  clear hl hb hN k2 hq hn hx hP
  go_enter Tryd.func15, Tryd.ntmps15
  go_wp2_with fail
  refine (K1.out _).mono ?_
  rintro e w1 ⟨rfl, hb1⟩
  have H1 : Hid (Below w.heap.size w (w1.alloc (.cells #[.int .u64 (limb q 0 : Nat), .int .u64 (limb q 1 : Nat), .int .u64 (limb q 2 : Nat), .int .u64 (limb q 3 : Nat), .int .u64 (limb (R256 - q) 0 : Nat), .int .u64 (limb (R256 - q) 1 : Nat), .int .u64 (limb (R256 - q) 2 : Nat), .int .u64 (limb (R256 - q) 3 : Nat)] 55)) ∧ Own4 (w1.alloc (.cells #[.int .u64 (limb q 0 : Nat), .int .u64 (limb q 1 : Nat), .int .u64 (limb q 2 : Nat), .int .u64 (limb q 3 : Nat), .int .u64 (limb (R256 - q) 0 : Nat), .int .u64 (limb (R256 - q) 1 : Nat), .int .u64 (limb (R256 - q) 2 : Nat), .int .u64 (limb (R256 - q) 3 : Nat)] 55)) w.heap.size x ∧ FieldB (w1.alloc (.cells #[.int .u64 (limb q 0 : Nat), .int .u64 (limb q 1 : Nat), .int .u64 (limb q 2 : Nat), .int .u64 (limb q 3 : Nat), .int .u64 (limb (R256 - q) 0 : Nat), .int .u64 (limb (R256 - q) 1 : Nat), .int .u64 (limb (R256 - q) 2 : Nat), .int .u64 (limb (R256 - q) 3 : Nat)] 55)) w1.heap.size q) := ⟨below_alloc0 (below_call0 HB.out.1 hb1) _, (HB.out.2.call hb1).alloc, FieldB.new _ _ _⟩
  clear hb1 K1 HB
  go_wp2_with fail
  refine (K2.out _ (H0.out.1.call H1.out.1)).mono ?_
  rintro e w2 ⟨rfl, hb2⟩
  have H2 : Hid (Below w.heap.size w w2 ∧ Own4 w2 w.heap.size x ∧ FieldB w2 w1.heap.size q) := ⟨below_call0 H1.out.1 hb2, H1.out.2.1.call hb2, H1.out.2.2.call hb2⟩
  clear hb2 K2 H1
  obtain ⟨⟨p0, p1, p2, p3⟩, ⟨f0, f1, f2, f3⟩, pz⟩ := H2.out.2.1.facts
  obtain ⟨q0, q1, q2, q3⟩ := H2.out.2.2.1.facts
  obtain ⟨r0, r1, r2, r3⟩ := H2.out.2.2.gap
  have rz := H2.out.2.2.2.2
  go_wp2_with fail
  refine (K3.out _).mono ?_
  rintro e w3 ⟨rfl, hb3⟩
  have H3 : Hid (Below w.heap.size w w3 ∧ Own4 w3 w.heap.size x ∧ FieldB w3 w1.heap.size q) := ⟨below_call0 H2.out.1 hb3, H2.out.2.1.call hb3, H2.out.2.2.call hb3⟩
  clear hb3 p0 p1 p2 p3 f0 f1 f2 f3 pz q0 q1 q2 q3 r0 r1 r2 r3 rz H2 K3
  go_wp2_with fail
  rename_i Kr hKr
  have HKr : Hid _ := hKr
  clear hKr
  go_loopw [7, 25] (fun ov iv wr => ∃ k m cap : Nat, ∃ a' : Option Addr, k ≤ n ∧ iv = .int .i64 (k : Nat) ∧ ov = .slice a' m cap ∧ m = ((wsL l x).take k).length ∧ RowN wr w3.heap.size a' ((wsL l x).take k) cap ∧ Below w3.heap.size w3 wr) (fun _ iv _ => n - (Go.RowKit.intOf iv).toNat)
  case atStart => exact ⟨0, 0, 0, none, Nat.zero_le _, rfl, rfl, rfl, RowN.nil _ _, Below.refl _ _⟩
  case round =>
    obtain ⟨k, m, cap, a', hk, rfl, rfl, hm, hR, hB⟩ := hrel
    rename World => wr
    have HR : Hid (m = ((wsL l x).take k).length ∧ RowN wr w3.heap.size a' ((wsL l x).take k) cap ∧ Below w3.heap.size w3 wr) := ⟨hm, hR, hB⟩
    clear hm hR hB
    by_cases hlt : k < n
    · clear HKr
      have hkl : k < l.length := by rw [← H0.out.2.1]; exact hlt
      have hlt' : (k : Int) < (n : Int) := Int.ofNat_lt.2 hlt
      obtain ⟨p, o, rfl, c0, pz⟩ := ((H0.out.1.call H3.out.1).call HR.out.2.2).get hkl
      obtain ⟨z, hz⟩ : ∃ z, z = (l[k]'hkl) := ⟨_, rfl⟩
      have hz1 := HP.out.1.1 _ (List.getElem_mem hkl)
      rw [← hz] at c0 hz1
      obtain ⟨y, rfl⟩ : ∃ y : Nat, z = (y : Int) := ⟨z.toNat, by omega⟩
      have y10 : (y : Int) ≤ 10 := by omega
      have HY : Hid ((y : Int) = (l[k]'hkl) ∧ k < n ∧ y ≤ 10) := ⟨hz, hlt, by omega⟩
      clear hz hz1 hlt
      go_wp2_with fail
      obtain ⟨w5, hw5⟩ : ∃ y, y = wr.alloc (.cells #[.int .u64 1, .int .u64 0, .int .u64 0, .int .u64 0] 25) := ⟨_, rfl⟩
      have H5 : Hid (Below wr.heap.size wr w5 ∧ Own4 w5 wr.heap.size 1) := by
        rw [hw5]
        have h := Own4.new wr 1 25
        rw [limb_one.1, limb_one.2.1, limb_one.2.2.1, limb_one.2.2.2] at h
        exact ⟨below_alloc0 (Below.refl _ _) _, h⟩
      rw [← hw5]
      clear hw5 c0 pz
      rename_i Kq hKq
      have HKq : Hid _ := hKq
      clear hKq
      go_loopw [32] (fun jv wi => ∃ j : Nat, j ≤ n ∧ jv = .int .i64 (j : Nat) ∧ Own4 wi wr.heap.size (rwN QQ x y 1 (foI (l.take j) (y : Int))) ∧ Below wr.heap.size wr wi) (fun jv _ => n - (Go.RowKit.intOf jv).toNat)
      case atStart => exact ⟨0, Nat.zero_le _, rfl, H5.out.2, H5.out.1⟩
      case round =>
        obtain ⟨j, hj, rfl, hO, hB⟩ := hrel
        rename World => wi
        obtain ⟨v, hv⟩ : ∃ v, v = rwN QQ x y 1 (foI (l.take j) (y : Int)) := ⟨_, rfl⟩
        rw [← hv] at hO
        have HI : Hid (Own4 wi wr.heap.size v ∧ Below wr.heap.size wr wi ∧ v = rwN QQ x y 1 (foI (l.take j) (y : Int)) ∧ Below w3.heap.size w3 wi) := ⟨hO, hB, hv, below_call0 HR.out.2.2 hB⟩
        clear hO hB hv
        by_cases hjt : j < n
        · clear HKq
          have hjl : j < l.length := by rw [← H0.out.2.1]; exact hjt
          have hjt' : (j : Int) < (n : Int) := Int.ofNat_lt.2 hjt
          obtain ⟨p', o', e', c0, pz⟩ := ((H0.out.1.call H3.out.1).call HI.out.2.2.2).get hjl
          simp only [Option.some.injEq, Addr.mk.injEq, and_true] at e'
          obtain ⟨rfl, rfl⟩ := e'
          obtain ⟨z, hz⟩ : ∃ z, z = (l[j]'hjl) := ⟨_, rfl⟩
          have hz1 := HP.out.1.1 _ (List.getElem_mem hjl)
          rw [← hz] at c0 hz1
          obtain ⟨t, rfl⟩ : ∃ t : Nat, z = (t : Int) := ⟨z.toNat, by omega⟩
          by_cases hty : t = y
          · subst hty
            have HE : Hid (Own4 wi wr.heap.size (rwN QQ x t 1 (foI (l.take (j + 1)) (t : Int))) ∧ Below wr.heap.size wr wi) := by
              have e := foI_same hjl
              rw [← hz] at e
              rw [e, ← HI.out.2.2.1]
              exact ⟨HI.out.1, HI.out.2.1⟩
            clear hz hz1
            go_wp2_with fail
            go_roundw
            case rel => first | exact ⟨j + 1, hjt, by go_num, HE.out⟩ | ((repeat apply Exists.intro); exact ⟨⟨j + 1, hjt, by go_num, HE.out⟩, rfl⟩)
            case measure => simp [intOf]; omega
          · have e1 : ((t : Int) == (y : Int)) = false := by simp; omega
            have e2 : ¬ ((t : Int) = (y : Int)) := by omega
            have t10 : (t : Int) ≤ 10 := by omega
            have e3 : IntKind.u64.wrap (t : Int) = (t : Int) := by rw [IntKind.wrap_u64]; omega
            have e4 : IntKind.u64.wrap (y : Int) = (y : Int) := by rw [IntKind.wrap_u64]; omega
            have tq : t < QQ := Nat.lt_of_le_of_lt (show t ≤ 10 by omega) (by decide)
            have yq : y < QQ := Nat.lt_of_le_of_lt HY.out.2.2 (by decide)
            obtain ⟨up, hup⟩ : ∃ u, u = subM QQ x t := ⟨_, rfl⟩
            obtain ⟨dn, hdn⟩ : ∃ u, u = subM QQ y t := ⟨_, rfl⟩
            obtain ⟨iv, hiv⟩ : ∃ u, u = dn ^ (QQ - 2) % QQ := ⟨_, rfl⟩
            obtain ⟨f, hf⟩ : ∃ u, u = up * iv % QQ := ⟨_, rfl⟩
            obtain ⟨r, hr⟩ : ∃ u, u = v * f % QQ := ⟨_, rfl⟩
            have hvq : v < QQ := by rw [HI.out.2.2.1]; exact rwN_lt _ _ _ _ FM_Q.pos
            have uq : up < QQ := by rw [hup]; exact Nat.mod_lt _ QQ_pos
            have dq : dn < QQ := by rw [hdn]; exact Nat.mod_lt _ QQ_pos
            have iq : iv < QQ := by rw [hiv]; exact Nat.mod_lt _ QQ_pos
            have fq : f < QQ := by rw [hf]; exact Nat.mod_lt _ QQ_pos
            have R := fun {z : Nat} (h : z < QQ) => Nat.lt_trans h FM_Q.2.1
            obtain ⟨lt0, lt1, lt2, lt3⟩ := limb_small t (Nat.lt_of_le_of_lt (show t ≤ 10 by omega) (by decide))
            obtain ⟨ly0, ly1, ly2, ly3⟩ := limb_small y (Nat.lt_of_le_of_lt HY.out.2.2 (by decide))
            have KU : Hid (∀ w, Calls Tryd.prog 28 #[.agg #[.int .u64 (limb (q) 0 : Nat), .int .u64 (limb (q) 1 : Nat), .int .u64 (limb (q) 2 : Nat), .int .u64 (limb (q) 3 : Nat), .int .u64 (limb (R256 - (q)) 0 : Nat), .int .u64 (limb (R256 - (q)) 1 : Nat), .int .u64 (limb (R256 - (q)) 2 : Nat), .int .u64 (limb (R256 - (q)) 3 : Nat)], .agg #[.int .u64 (limb (x) 0 : Nat), .int .u64 (limb (x) 1 : Nat), .int .u64 (limb (x) 2 : Nat), .int .u64 (limb (x) 3 : Nat)], .agg #[.int .u64 (t : Int), .int .u64 0, .int .u64 0, .int .u64 0]] w fun e w' => e = .returned (.agg #[.int .u64 (limb (up) 0 : Nat), .int .u64 (limb (up) 1 : Nat), .int .u64 (limb (up) 2 : Nat), .int .u64 (limb (up) 3 : Nat)]) ∧ Below w.heap.size w w') := fun w => by
              have h := sub2_any QQ x t FM_Q.2.1 HP.out.2 tq w
              rw [lt0, lt1, lt2, lt3] at h
              rw [H0.out.2.2, hup]; exact h
            have KD : Hid (∀ w, Calls Tryd.prog 28 #[.agg #[.int .u64 (limb (q) 0 : Nat), .int .u64 (limb (q) 1 : Nat), .int .u64 (limb (q) 2 : Nat), .int .u64 (limb (q) 3 : Nat), .int .u64 (limb (R256 - (q)) 0 : Nat), .int .u64 (limb (R256 - (q)) 1 : Nat), .int .u64 (limb (R256 - (q)) 2 : Nat), .int .u64 (limb (R256 - (q)) 3 : Nat)], .agg #[.int .u64 (y : Int), .int .u64 0, .int .u64 0, .int .u64 0], .agg #[.int .u64 (t : Int), .int .u64 0, .int .u64 0, .int .u64 0]] w fun e w' => e = .returned (.agg #[.int .u64 (limb (dn) 0 : Nat), .int .u64 (limb (dn) 1 : Nat), .int .u64 (limb (dn) 2 : Nat), .int .u64 (limb (dn) 3 : Nat)]) ∧ Below w.heap.size w w') := fun w => by
              have h := sub2_any QQ y t FM_Q.2.1 yq tq w
              rw [lt0, lt1, lt2, lt3, ly0, ly1, ly2, ly3] at h
              rw [H0.out.2.2, hdn]; exact h
            have KI : Hid (∀ w, Calls Tryd.prog 30 #[.agg #[.int .u64 (limb (q) 0 : Nat), .int .u64 (limb (q) 1 : Nat), .int .u64 (limb (q) 2 : Nat), .int .u64 (limb (q) 3 : Nat), .int .u64 (limb (R256 - (q)) 0 : Nat), .int .u64 (limb (R256 - (q)) 1 : Nat), .int .u64 (limb (R256 - (q)) 2 : Nat), .int .u64 (limb (R256 - (q)) 3 : Nat)], .agg #[.int .u64 (limb (dn) 0 : Nat), .int .u64 (limb (dn) 1 : Nat), .int .u64 (limb (dn) 2 : Nat), .int .u64 (limb (dn) 3 : Nat)]] w fun e w' => e = .returned (.agg #[.int .u64 (limb (iv) 0 : Nat), .int .u64 (limb (iv) 1 : Nat), .int .u64 (limb (iv) 2 : Nat), .int .u64 (limb (iv) 3 : Nat)]) ∧ Below w.heap.size w w') := fun w => by rw [H0.out.2.2, hiv]; exact inv2_any QQ dn FM_Q FS_Q (R dq) w
            have KF : Hid (∀ w, Calls Tryd.prog 29 #[.agg #[.int .u64 (limb (q) 0 : Nat), .int .u64 (limb (q) 1 : Nat), .int .u64 (limb (q) 2 : Nat), .int .u64 (limb (q) 3 : Nat), .int .u64 (limb (R256 - (q)) 0 : Nat), .int .u64 (limb (R256 - (q)) 1 : Nat), .int .u64 (limb (R256 - (q)) 2 : Nat), .int .u64 (limb (R256 - (q)) 3 : Nat)], .agg #[.int .u64 (limb (up) 0 : Nat), .int .u64 (limb (up) 1 : Nat), .int .u64 (limb (up) 2 : Nat), .int .u64 (limb (up) 3 : Nat)], .agg #[.int .u64 (limb (iv) 0 : Nat), .int .u64 (limb (iv) 1 : Nat), .int .u64 (limb (iv) 2 : Nat), .int .u64 (limb (iv) 3 : Nat)]] w fun e w' => e = .returned (.agg #[.int .u64 (limb (f) 0 : Nat), .int .u64 (limb (f) 1 : Nat), .int .u64 (limb (f) 2 : Nat), .int .u64 (limb (f) 3 : Nat)]) ∧ Below w.heap.size w w') := fun w => by rw [H0.out.2.2, hf]; exact mul2_any QQ up iv FM_Q FS_Q (R uq) (R iq) w
            have KR : Hid (∀ w, Calls Tryd.prog 29 #[.agg #[.int .u64 (limb (q) 0 : Nat), .int .u64 (limb (q) 1 : Nat), .int .u64 (limb (q) 2 : Nat), .int .u64 (limb (q) 3 : Nat), .int .u64 (limb (R256 - (q)) 0 : Nat), .int .u64 (limb (R256 - (q)) 1 : Nat), .int .u64 (limb (R256 - (q)) 2 : Nat), .int .u64 (limb (R256 - (q)) 3 : Nat)], .agg #[.int .u64 (limb (v) 0 : Nat), .int .u64 (limb (v) 1 : Nat), .int .u64 (limb (v) 2 : Nat), .int .u64 (limb (v) 3 : Nat)], .agg #[.int .u64 (limb (f) 0 : Nat), .int .u64 (limb (f) 1 : Nat), .int .u64 (limb (f) 2 : Nat), .int .u64 (limb (f) 3 : Nat)]] w fun e w' => e = .returned (.agg #[.int .u64 (limb (r) 0 : Nat), .int .u64 (limb (r) 1 : Nat), .int .u64 (limb (r) 2 : Nat), .int .u64 (limb (r) 3 : Nat)]) ∧ Below w.heap.size w w') := fun w => by rw [H0.out.2.2, hr]; exact mul2_any QQ v f FM_Q FS_Q (R hvq) (R fq) w
            have HU : Hid (r = rwN QQ x y 1 (foI (l.take (j + 1)) (y : Int))) := by
              rw [foI_other hjl (by rw [← hz]; omega), ← hz, rwN_snoc, ← HI.out.2.2.1]
              show r = v * (subM QQ x t * (subM QQ y t ^ (QQ - 2) % QQ) % QQ) % QQ
              rw [← hup, ← hdn, ← hiv, ← hf]
              exact hr
            clear hz hz1 tq yq hup hdn hiv hf hr hvq uq dq iq fq R lt0 lt1 lt2 lt3 ly0 ly1 ly2 ly3 hty
            obtain ⟨⟨x0, x1, x2, x3⟩, _, xz⟩ := (H3.out.2.1.call HI.out.2.2.2).facts
            have hF := H3.out.2.2.call HI.out.2.2.2
            obtain ⟨q0, q1, q2, q3⟩ := hF.1.facts
            obtain ⟨r0, r1, r2, r3⟩ := hF.gap
            have rz := hF.2.2
            clear hF
            go_wp2_with fail
            refine (KU.out _).mono ?_
            rintro e w6 ⟨rfl, hb6⟩
            obtain ⟨w7, hw7⟩ : ∃ y, y = w6.alloc (.cells #[.int .u64 (limb up 0 : Nat), .int .u64 (limb up 1 : Nat), .int .u64 (limb up 2 : Nat), .int .u64 (limb up 3 : Nat)] 25) := ⟨_, rfl⟩
            have H7 : Hid (Below wi.heap.size wi w7 ∧ Own4 w7 w6.heap.size up ∧ w7 = w6.alloc (.cells #[.int .u64 (limb up 0 : Nat), .int .u64 (limb up 1 : Nat), .int .u64 (limb up 2 : Nat), .int .u64 (limb up 3 : Nat)] 25)) := ⟨by rw [hw7]; exact below_alloc0 hb6 _, by rw [hw7]; exact Own4.new _ _ _, hw7⟩
            clear hb6 hw7 x0 x1 x2 x3 xz q0 q1 q2 q3 r0 r1 r2 r3 rz
            have hF := (H3.out.2.2.call HI.out.2.2.2).call H7.out.1
            obtain ⟨q0, q1, q2, q3⟩ := hF.1.facts
            obtain ⟨r0, r1, r2, r3⟩ := hF.gap
            have rz := hF.2.2
            rw [H7.out.2.2] at q0 q1 q2 q3 r0 r1 r2 r3 rz
            clear hF
            go_wp2_with fail
            rw [← H7.out.2.2]
            refine (KD.out _).mono ?_
            rintro e w8 ⟨rfl, hb8⟩
            clear q0 q1 q2 q3 r0 r1 r2 r3 rz
            go_wp2_with fail
            obtain ⟨w9, hw9⟩ : ∃ y, y = w8.alloc (.cells #[.int .u64 (limb dn 0 : Nat), .int .u64 (limb dn 1 : Nat), .int .u64 (limb dn 2 : Nat), .int .u64 (limb dn 3 : Nat)] 25) := ⟨_, rfl⟩
            have H9 : Hid (Below wi.heap.size wi w9 ∧ Own4 w9 w6.heap.size up ∧ Own4 w9 w8.heap.size dn ∧ Own4 w9 wr.heap.size v ∧ FieldB w9 w1.heap.size q) := by
              have hB : Below wi.heap.size wi w9 := by rw [hw9]; exact below_alloc0 (below_call0 H7.out.1 hb8) _
              refine ⟨hB, ?_, ?_, HI.out.1.call hB, (H3.out.2.2.call HI.out.2.2.2).call hB⟩
              · rw [hw9]; exact (H7.out.2.1.call hb8).alloc
              · rw [hw9]; exact Own4.new _ _ _
            rw [← hw9]
            clear hw9 hb8
            refine wp_region_N (fun w' => Below w9.heap.size w9 w') 9 10 rfl (by kernel_rfl) ?_
            refine wpAnyN_take (i := 0) (oi := ?o0) (v := ?v0) ?hi0 (by kernel_rfl) (by kernel_rfl) (by kernel_rfl) (by kernel_rfl) (by decide) (by kernel_rfl) ?hQ0 ?hy0 (Below.drew (Below.refl _ _)) ?more0
            case hi0 => rw [List.getElem?_toArray]; exact rfl
            case hQ0 => exact fun _ _ _ h => h
            case hy0 =>
              refine Or.inl ⟨by rfl, ?_⟩
              intro w' hSw
              obtain ⟨⟨o0, o1, o2, o3⟩, _, oz⟩ := (H9.out.2.2.2.1.call hSw).facts
              obtain ⟨⟨u0, u1, u2, u3⟩, _, uz⟩ := (H9.out.2.1.call hSw).facts
              obtain ⟨⟨d0, d1, d2, d3⟩, _, dz⟩ := (H9.out.2.2.1.call hSw).facts
              have hF := H9.out.2.2.2.2.call hSw
              obtain ⟨q0, q1, q2, q3⟩ := hF.1.facts
              obtain ⟨r0, r1, r2, r3⟩ := hF.gap
              have rz := hF.2.2
              clear hSw hF
              go_simp
              try with_reducible rfl
            simp only [Act.put, List.setIfInBounds_toArray, List.set_cons_zero, List.set_cons_succ]
            refine wpAnyN_take (i := 1) (oi := ?o1) (v := ?v1) ?hi1 (by kernel_rfl) (by kernel_rfl) (by kernel_rfl) (by kernel_rfl) (by decide) (by kernel_rfl) ?hQ1 ?hy1 (Below.drew (Below.refl _ _)) ?more1
            case hi1 => rw [List.getElem?_toArray]; exact rfl
            case hQ1 => exact fun _ _ _ h => h
            case hy1 =>
              refine Or.inl ⟨by rfl, ?_⟩
              intro w' hSw
              obtain ⟨⟨o0, o1, o2, o3⟩, _, oz⟩ := (H9.out.2.2.2.1.call hSw).facts
              obtain ⟨⟨u0, u1, u2, u3⟩, _, uz⟩ := (H9.out.2.1.call hSw).facts
              obtain ⟨⟨d0, d1, d2, d3⟩, _, dz⟩ := (H9.out.2.2.1.call hSw).facts
              have hF := H9.out.2.2.2.2.call hSw
              obtain ⟨q0, q1, q2, q3⟩ := hF.1.facts
              obtain ⟨r0, r1, r2, r3⟩ := hF.gap
              have rz := hF.2.2
              clear hSw hF
              go_simp
              try with_reducible rfl
            simp only [Act.put, List.setIfInBounds_toArray, List.set_cons_zero, List.set_cons_succ]
            refine wpAnyN_take (i := 2) (oi := ?o2) (v := ?v2) ?hi2 (by kernel_rfl) (by kernel_rfl) (by kernel_rfl) (by kernel_rfl) (by decide) (by kernel_rfl) ?hQ2 ?hy2 (Below.drew (Below.refl _ _)) ?more2
            case hi2 => rw [List.getElem?_toArray]; exact rfl
            case hQ2 => exact fun _ _ _ h => h
            case hy2 =>
              refine Or.inl ⟨by rfl, ?_⟩
              intro w' hSw
              obtain ⟨⟨o0, o1, o2, o3⟩, _, oz⟩ := (H9.out.2.2.2.1.call hSw).facts
              obtain ⟨⟨u0, u1, u2, u3⟩, _, uz⟩ := (H9.out.2.1.call hSw).facts
              obtain ⟨⟨d0, d1, d2, d3⟩, _, dz⟩ := (H9.out.2.2.1.call hSw).facts
              have hF := H9.out.2.2.2.2.call hSw
              obtain ⟨q0, q1, q2, q3⟩ := hF.1.facts
              obtain ⟨r0, r1, r2, r3⟩ := hF.gap
              have rz := hF.2.2
              clear hSw hF
              go_simp
              try with_reducible rfl
            simp only [Act.put, List.setIfInBounds_toArray, List.set_cons_zero, List.set_cons_succ]
            refine wpAnyN_take (i := 3) (oi := ?o3) (v := ?v3) ?hi3 (by kernel_rfl) (by kernel_rfl) (by kernel_rfl) (by kernel_rfl) (by decide) (by kernel_rfl) ?hQ3 ?hy3 (Below.drew (Below.refl _ _)) ?more3
            case hi3 => rw [List.getElem?_toArray]; exact rfl
            case hQ3 => exact fun _ _ _ h => h
            case hy3 =>
              refine Or.inl ⟨by rfl, ?_⟩
              intro w' hSw
              obtain ⟨⟨o0, o1, o2, o3⟩, _, oz⟩ := (H9.out.2.2.2.1.call hSw).facts
              obtain ⟨⟨u0, u1, u2, u3⟩, _, uz⟩ := (H9.out.2.1.call hSw).facts
              obtain ⟨⟨d0, d1, d2, d3⟩, _, dz⟩ := (H9.out.2.2.1.call hSw).facts
              have hF := H9.out.2.2.2.2.call hSw
              obtain ⟨q0, q1, q2, q3⟩ := hF.1.facts
              obtain ⟨r0, r1, r2, r3⟩ := hF.gap
              have rz := hF.2.2
              clear hSw hF
              go_simp
              try with_reducible rfl
            simp only [Act.put, List.setIfInBounds_toArray, List.set_cons_zero, List.set_cons_succ]
            refine wpAnyN_take (i := 4) (oi := ?o4) (v := ?v4) ?hi4 (by kernel_rfl) (by kernel_rfl) (by kernel_rfl) (by kernel_rfl) (by decide) (by kernel_rfl) ?hQ4 ?hy4 (Below.drew (Below.refl _ _)) ?more4
            case hi4 => rw [List.getElem?_toArray]; exact rfl
            case hQ4 => exact fun _ _ _ h => h
            case hy4 =>
              refine Or.inl ⟨by rfl, ?_⟩
              intro w' hSw
              obtain ⟨⟨o0, o1, o2, o3⟩, _, oz⟩ := (H9.out.2.2.2.1.call hSw).facts
              obtain ⟨⟨u0, u1, u2, u3⟩, _, uz⟩ := (H9.out.2.1.call hSw).facts
              obtain ⟨⟨d0, d1, d2, d3⟩, _, dz⟩ := (H9.out.2.2.1.call hSw).facts
              have hF := H9.out.2.2.2.2.call hSw
              obtain ⟨q0, q1, q2, q3⟩ := hF.1.facts
              obtain ⟨r0, r1, r2, r3⟩ := hF.gap
              have rz := hF.2.2
              clear hSw hF
              go_simp
              try with_reducible rfl
            simp only [Act.put, List.setIfInBounds_toArray, List.set_cons_zero, List.set_cons_succ]
            refine wpAnyN_take (i := 5) (oi := ?o5) (v := ?v5) ?hi5 (by kernel_rfl) (by kernel_rfl) (by kernel_rfl) (by kernel_rfl) (by decide) (by kernel_rfl) ?hQ5 ?hy5 (Below.drew (Below.refl _ _)) ?more5
            case hi5 => rw [List.getElem?_toArray]; exact rfl
            case hQ5 => exact fun _ _ _ h => h
            case hy5 =>
              refine Or.inl ⟨by rfl, ?_⟩
              intro w' hSw
              obtain ⟨⟨o0, o1, o2, o3⟩, _, oz⟩ := (H9.out.2.2.2.1.call hSw).facts
              obtain ⟨⟨u0, u1, u2, u3⟩, _, uz⟩ := (H9.out.2.1.call hSw).facts
              obtain ⟨⟨d0, d1, d2, d3⟩, _, dz⟩ := (H9.out.2.2.1.call hSw).facts
              have hF := H9.out.2.2.2.2.call hSw
              obtain ⟨q0, q1, q2, q3⟩ := hF.1.facts
              obtain ⟨r0, r1, r2, r3⟩ := hF.gap
              have rz := hF.2.2
              clear hSw hF
              go_simp
              try with_reducible rfl
            simp only [Act.put, List.setIfInBounds_toArray, List.set_cons_zero, List.set_cons_succ]
            refine wpAnyN_one (i := 6) (o := ?o6) (by kernel_rfl) ?hi6 ?hw6 ?st6
            case hi6 => rw [List.getElem?_toArray]; exact rfl
            case hw6 => exact rfl
            intro K hK
            have HK6 : Hid _ := hK
            clear hK
            go_simp
            refine (KI.out _).mono ?_
            rintro e w10 ⟨rfl, hq⟩
            have H10 : Hid (Below w9.heap.size w9 w10) := below_call0 (Below.drew (Below.refl _ _)) hq
            clear hq
            go_wp2_with fail
            refine HK6.out _ _ ⟨fun _ => H10.out, ?_⟩
            clear HK6 K
            try simp only [Act.put, List.setIfInBounds_toArray, List.set_cons_zero, List.set_cons_succ]
            refine wpAnyN_one (i := 7) (o := ?o7) (by kernel_rfl) ?hi7 ?hw7 ?st7
            case hi7 => rw [List.getElem?_toArray]; exact rfl
            case hw7 => exact rfl
            intro K hK
            have HK7 : Hid _ := hK
            clear hK
            go_simp
            refine (KF.out _).mono ?_
            rintro e w11 ⟨rfl, hq⟩
            have H11 : Hid (Below w9.heap.size w9 w11) := below_call0 H10.out hq
            clear hq
            go_wp2_with fail
            refine HK7.out _ _ ⟨fun _ => H11.out, ?_⟩
            clear HK7 K
            try simp only [Act.put, List.setIfInBounds_toArray, List.set_cons_zero, List.set_cons_succ]
            refine wpAnyN_one (i := 8) (o := ?o8) (by kernel_rfl) ?hi8 ?hw8 ?st8
            case hi8 => rw [List.getElem?_toArray]; exact rfl
            case hw8 => exact rfl
            intro K hK
            have HK8 : Hid _ := hK
            clear hK
            go_simp
            refine (KR.out _).mono ?_
            rintro e w12 ⟨rfl, hq⟩
            have H12 : Hid (Below w9.heap.size w9 w12) := below_call0 H11.out hq
            obtain ⟨⟨o0, o1, o2, o3⟩, ⟨f0, f1, f2, f3⟩, oz⟩ := (H9.out.2.2.2.1.call H12.out).facts
            clear hq
            go_wp2_with fail
            refine HK8.out _ _ ⟨fun _ => H12.out, ?_⟩
            clear HK8 K
            try simp only [Act.put, List.setIfInBounds_toArray, List.set_cons_zero, List.set_cons_succ]
            refine wpAnyN_one (i := 9) (o := ?o9) (by kernel_rfl) ?hi9 ?hw9 ?st9
            case hi9 => rw [List.getElem?_toArray]; exact rfl
            case hw9 => exact rfl
            intro K hK
            have HK9 : Hid _ := hK
            clear hK
            go_simp
            refine HK9.out _ _ ⟨fun h => absurd h (by decide +kernel), ?_⟩
            clear HK9 K
            try simp only [Act.put, List.setIfInBounds_toArray, List.set_cons_zero, List.set_cons_succ]
            refine wpAnyN_done (by kernel_rfl) ?_ _
            have HE : Hid (Own4 ((((w12.setCell ⟨wr.heap.size, 0, none⟩ (.int .u64 (limb r 0 : Nat))).setCell ⟨wr.heap.size, 1, none⟩ (.int .u64 (limb r 1 : Nat))).setCell ⟨wr.heap.size, 2, none⟩ (.int .u64 (limb r 2 : Nat))).setCell ⟨wr.heap.size, 3, none⟩ (.int .u64 (limb r 3 : Nat))) wr.heap.size (rwN QQ x y 1 (foI (l.take (j + 1)) (y : Int))) ∧ Below wr.heap.size wr ((((w12.setCell ⟨wr.heap.size, 0, none⟩ (.int .u64 (limb r 0 : Nat))).setCell ⟨wr.heap.size, 1, none⟩ (.int .u64 (limb r 1 : Nat))).setCell ⟨wr.heap.size, 2, none⟩ (.int .u64 (limb r 2 : Nat))).setCell ⟨wr.heap.size, 3, none⟩ (.int .u64 (limb r 3 : Nat)))) := by
              refine ⟨?_, ?_⟩
              · rw [← HU.out]; exact (H9.out.2.2.2.1.call H12.out).put
              · exact Below.setCell (Below.setCell (Below.setCell (Below.setCell (below_call0 (below_call0 HI.out.2.1 H9.out.1) H12.out) (Nat.le_refl _) _) (Nat.le_refl _) _) (Nat.le_refl _) _) (Nat.le_refl _) _
            clear o0 o1 o2 o3 f0 f1 f2 f3 oz
            go_wp2_with fail
            go_roundw
            case rel => first | exact ⟨j + 1, hjt, by go_num, HE.out⟩ | ((repeat apply Exists.intro); exact ⟨⟨j + 1, hjt, by go_num, HE.out⟩, rfl⟩)
            case measure => simp [intOf]; omega
        · obtain rfl : j = n := by omega
          have hnl : ¬ ((j : Int) < (j : Int)) := Int.lt_irrefl _
          have HVV : Hid ((wsL l x).take (k + 1) = (wsL l x).take k ++ [v]) := by
            have hkw : k < (wsL l x).length := by rw [wsL_length]; exact hkl
            have e1 : l.take j = l := List.take_of_length_le (by rw [← H0.out.2.1]; exact Nat.le_refl _)
            rw [List.take_succ_eq_append_getElem hkw, wsL_get, wAt_ref hkl HP.out.1, ← HY.out.1, HI.out.2.2.1, e1]
            rfl
          have HLN : Hid (((wsL l x).take k).length ≤ 1000000) := by
            have h1 : ((wsL l x).take k).length ≤ k := by rw [List.length_take]; omega
            unfold Hid
            omega
          clear hjt hj
          go_wp2_with fail
          refine HKq.out _ _ ?_
          clear HKq
          obtain ⟨⟨o0, o1, o2, o3⟩, _, oz⟩ := HI.out.1.facts
          have HA : Hid (RowN (wi.alloc (.cells #[.int .u64 (limb v 0 : Nat), .int .u64 (limb v 1 : Nat), .int .u64 (limb v 2 : Nat), .int .u64 (limb v 3 : Nat)] 25)) w3.heap.size a' ((wsL l x).take k) cap ∧ Num4 (wi.alloc (.cells #[.int .u64 (limb v 0 : Nat), .int .u64 (limb v 1 : Nat), .int .u64 (limb v 2 : Nat), .int .u64 (limb v 3 : Nat)] 25)) wi.heap.size v ∧ Below w3.heap.size w3 (wi.alloc (.cells #[.int .u64 (limb v 0 : Nat), .int .u64 (limb v 1 : Nat), .int .u64 (limb v 2 : Nat), .int .u64 (limb v 3 : Nat)] 25))) := ⟨(HR.out.2.1.call HI.out.2.1).alloc, Num4.new _ _ _, below_alloc0 HI.out.2.2.2 _⟩
          go_wp2_with (at_builtin; refine wpList_append_RowN _ rfl (.tmp 63) (.tmp 65) rfl w3.heap.size a' m cap ((wsL l x).take k) v rfl HR.out.1 HA.out.1 HA.out.2.2.size HLN.out wi.heap.size 1 rfl HA.out.2.1 ?_; intro a5 m5 cap5 w5 hm5 hR5 hb5; have H5 : Hid (m5 = m + 1 ∧ RowN w5 w3.heap.size a5 ((wsL l x).take k ++ [v]) cap5 ∧ Below w3.heap.size w3 w5) := ⟨hm5, hR5, HA.out.2.2.trans hb5⟩; clear hm5 hR5 hb5)
          have HG : Hid (m5 = ((wsL l x).take (k + 1)).length ∧ RowN w5 w3.heap.size a5 ((wsL l x).take (k + 1)) cap5 ∧ Below w3.heap.size w3 w5) := by
            rw [HVV.out]
            exact ⟨by rw [H5.out.1, HR.out.1, List.length_append]; rfl, H5.out.2⟩
          go_roundw
          case rel => first | exact ⟨k + 1, m5, cap5, a5, HY.out.2.1, by go_num, rfl, HG.out⟩ | ((repeat apply Exists.intro); exact ⟨⟨k + 1, m5, cap5, a5, HY.out.2.1, by go_num, rfl, HG.out⟩, rfl⟩)
          case measure => simp [intOf]; omega
    · obtain rfl : k = n := by omega
      have hnl : ¬ ((k : Int) < (k : Int)) := Int.lt_irrefl _
      have HF : Hid (m = k ∧ Nums wr a' (wsL l x)) := by
        have e1 : (wsL l x).take k = wsL l x := List.take_of_length_le (by rw [wsL_length, ← H0.out.2.1]; exact Nat.le_refl _)
        have h := HR.out
        rw [e1] at h
        exact ⟨by rw [h.1, wsL_length, ← H0.out.2.1], h.2.1.nums⟩
      clear hlt hk
      go_wp2_with fail
      refine HKr.out _ _ ?_
      clear HKr
      go_wp2_with fail
      go_ret2
      exact ⟨a', cap, by rw [HF.out.1]; rfl, HF.out.2, below_call0 H3.out.1 HR.out.2.2⟩
end Go.Proofs.YtcdiehnkknmbeaaDoor

namespace Go.Proofs.YtcdiehnkknmbeaaDoor
open Go Go.RowKit Go.Lib

/-- The sum of shares times weights, as the code reckons it. -/
def joK (s w : Nat → Nat) : Nat → Nat
  | 0 => 0
  | k + 1 => (joK s w k + s k * w k % QQ) % QQ
theorem joK_lt (s w : Nat → Nat) (k : Nat) : joK s w k < QQ := by
  cases k with
  | zero => exact QQ_pos
  | succ k => exact Nat.mod_lt _ QQ_pos
def joV (l : List Int) (s : List Nat) (x : Nat) : Nat := joK (fun i => s[i]?.getD 0) (wAt l x) l.length
set_option maxRecDepth 100000 in
set_option maxHeartbeats 8000000 in
theorem join_err (a b : Option Addr) (l : List Int) (n c m d x : Nat) (ec : Int) (hec : (ec == 0) = false) (kw : ∀ w, GlobQ w → IntsAt w a l → Calls Tryd.prog 14 #[.slice a n c, .agg #[.int .u64 (limb (x) 0 : Nat), .int .u64 (limb (x) 1 : Nat), .int .u64 (limb (x) 2 : Nat), .int .u64 (limb (x) 3 : Nat)]] w fun e w' => e = .returned (.tuple #[.slice none 0 0, .int .i64 ec]) ∧ Below w.heap.size w w') (w : World) (hG : GlobQ w) (hN : IntsAt w a l) :
    Calls Tryd.prog 18 #[.slice a n c, .slice b m d, .agg #[.int .u64 (limb (x) 0 : Nat), .int .u64 (limb (x) 1 : Nat), .int .u64 (limb (x) 2 : Nat), .int .u64 (limb (x) 3 : Nat)]] w fun e w' => e = .returned (.tuple #[z4, .int .i64 ec]) ∧ Below w.heap.size w w' := by
  have K1 : Hid _ := kw
  have H0 : Hid (GlobQ w ∧ IntsAt w a l) := ⟨hG, hN⟩
  have HB : Hid (Below w.heap.size w ((w.alloc (.cells #[.int .u64 (limb x 0 : Nat), .int .u64 (limb x 1 : Nat), .int .u64 (limb x 2 : Nat), .int .u64 (limb x 3 : Nat)] 25)).alloc (.cells #[.int .u64 0, .int .u64 0, .int .u64 0, .int .u64 0] 25)) ∧ Pend ((w.alloc (.cells #[.int .u64 (limb x 0 : Nat), .int .u64 (limb x 1 : Nat), .int .u64 (limb x 2 : Nat), .int .u64 (limb x 3 : Nat)] 25)).alloc (.cells #[.int .u64 0, .int .u64 0, .int .u64 0, .int .u64 0] 25)) (w.heap.size + 1)) := ⟨below_alloc0 (below_alloc0 (Below.refl _ _) _) _, Pend.new' (by simp)⟩
  clear kw hG hN
  go_enter Tryd.func18, Tryd.ntmps18
  go_wp2_with fail
  refine (K1.out _ (H0.out.1.call HB.out.1) (H0.out.2.call HB.out.1)).mono ?_
  rintro e w1 ⟨rfl, hb1⟩
  obtain ⟨⟨s0, s1, s2, s3⟩, ⟨f0, f1, f2, f3⟩, sz⟩ := (HB.out.2.call hb1).facts
  have HW : Hid (Below w.heap.size w w1) := below_call0 HB.out.1 hb1
  clear hb1 HB K1
  go_wp2_with fail
  refine bodyPost_ret (v := .tuple #[z4, .int .i64 ec]) ?_ rfl ⟨rfl, ?_⟩
  · simp [results, Tryd.results18, go_sem, z4, s0, s1, s2, s3]
  · have HW := HW.out
    ((repeat' (first | with_reducible exact HW | with_reducible exact Below.refl _ _ | exact (And.left (by assumption)) | with_reducible refine Below.setCell ?_ ?_ _ | with_reducible refine below_alloc0 ?_ _ | with_reducible refine below_drewN ?_ _ | with_reducible refine Below.drew ?_ | refine below_call0 ?_ (by assumption))) <;> (first | omega | (simp; done) | (simp; omega)))
set_option maxRecDepth 100000 in
set_option maxHeartbeats 8000000 in
theorem join_len (a b : Option Addr) (l : List Int) (s : List Nat) (c d x : Nat) (hl : l.length ≤ 17592186044416) (hb : nodesOk l = true) (hx : x < QQ) (hm' : s.length ≠ l.length) (w : World) (hG : GlobQ w) (hN : IntsAt w a l) (hS : Nums w b s) :
    Calls Tryd.prog 18 #[.slice a l.length c, .slice b s.length d, .agg #[.int .u64 (limb (x) 0 : Nat), .int .u64 (limb (x) 1 : Nat), .int .u64 (limb (x) 2 : Nat), .int .u64 (limb (x) 3 : Nat)]] w fun e w' => e = .returned (.tuple #[z4, .int .i64 1]) ∧ Below w.heap.size w w' := by
  have k1 := fun w hG hN => weights_in a l c x hl hb hx w hG hN
  obtain ⟨n, hn⟩ : ∃ n, n = l.length := ⟨_, rfl⟩
  obtain ⟨m, hm⟩ : ∃ m, m = s.length := ⟨_, rfl⟩
  rw [← hn] at k1
  have K1 : Hid _ := k1
  rw [← hn, ← hm]
  have H0 : Hid (GlobQ w ∧ IntsAt w a l ∧ Nums w b s ∧ n = l.length ∧ m = s.length) := ⟨hG, hN, hS, hn, hm⟩
  have HB : Hid (Below w.heap.size w ((w.alloc (.cells #[.int .u64 (limb x 0 : Nat), .int .u64 (limb x 1 : Nat), .int .u64 (limb x 2 : Nat), .int .u64 (limb x 3 : Nat)] 25)).alloc (.cells #[.int .u64 0, .int .u64 0, .int .u64 0, .int .u64 0] 25)) ∧ Pend ((w.alloc (.cells #[.int .u64 (limb x 0 : Nat), .int .u64 (limb x 1 : Nat), .int .u64 (limb x 2 : Nat), .int .u64 (limb x 3 : Nat)] 25)).alloc (.cells #[.int .u64 0, .int .u64 0, .int .u64 0, .int .u64 0] 25)) (w.heap.size + 1)) := ⟨below_alloc0 (below_alloc0 (Below.refl _ _) _) _, Pend.new' (by simp)⟩
  have e1 : ((m : Int) == (n : Int)) = false := by simp; omega
  have e2 : ¬ ((m : Int) = (n : Int)) := by omega
  clear hl hb hx hm' hG hN hS k1 hn hm
  go_enter Tryd.func18, Tryd.ntmps18
  go_wp2_with fail
  refine (K1.out _ (H0.out.1.call HB.out.1) (H0.out.2.1.call HB.out.1)).mono ?_
  rintro e w1 ⟨q, rfl, hNu, hq, hb1⟩
  have H1 : Hid (Below w.heap.size w w1 ∧ Pend w1 (w.heap.size + 1) ∧ Nums w1 (some ⟨q, 0, none⟩) (wsL l x)) := ⟨below_call0 HB.out.1 hb1, HB.out.2.call hb1, hNu⟩
  clear hb1 hNu hq HB K1
  obtain ⟨⟨s0, s1, s2, s3⟩, ⟨f0, f1, f2, f3⟩, sz⟩ := (H1.out.2.1).facts
  go_wp2_with fail
  refine bodyPost_ret (v := .tuple #[z4, .int .i64 1]) ?_ rfl ⟨rfl, ?_⟩
  · simp [results, Tryd.results18, go_sem, z4, s0, s1, s2, s3]
  · have HW := H1.out.1
    ((repeat' (first | with_reducible exact HW | with_reducible exact Below.refl _ _ | exact (And.left (by assumption)) | with_reducible refine Below.setCell ?_ ?_ _ | with_reducible refine below_alloc0 ?_ _ | with_reducible refine below_drewN ?_ _ | with_reducible refine Below.drew ?_ | refine below_call0 ?_ (by assumption))) <;> (first | omega | (simp; done) | (simp; omega)))
set_option maxRecDepth 100000 in
set_option maxHeartbeats 8000000 in
theorem join_bad (a b : Option Addr) (l : List Int) (s : List Nat) (c d x : Nat) (hl : l.length ≤ 17592186044416) (hb : nodesOk l = true) (hx : x < QQ) (hm' : s.length = l.length) (hR : ∀ n ∈ s, n < R256) (hq : allQ s = false) (w : World) (hG : GlobQ w) (hN : IntsAt w a l) (hS : Nums w b s) :
    Calls Tryd.prog 18 #[.slice a l.length c, .slice b s.length d, .agg #[.int .u64 (limb (x) 0 : Nat), .int .u64 (limb (x) 1 : Nat), .int .u64 (limb (x) 2 : Nat), .int .u64 (limb (x) 3 : Nat)]] w fun e w' => e = .returned (.tuple #[z4, .int .i64 20]) ∧ Below w.heap.size w w' := by
  have k1 := fun w hG hN => weights_in a l c x hl hb hx w hG hN
  have hs10 : s.length ≤ 10 := by rw [hm']; exact nodes_short (nodes_ok hb).1
  have k2 := fun (w : World) (hG : GlobQ w) (hN : Nums w b s) => check_not b s d (by omega) hR hq w hG hN
  rw [hm'] at k2
  obtain ⟨n, hn⟩ : ∃ n, n = l.length := ⟨_, rfl⟩
  obtain ⟨m, hm⟩ : ∃ m, m = s.length := ⟨_, rfl⟩
  rw [← hn] at k1
  have K1 : Hid _ := k1
  rw [← hn, ← hm]
  have H0 : Hid (GlobQ w ∧ IntsAt w a l ∧ Nums w b s ∧ n = l.length ∧ m = s.length) := ⟨hG, hN, hS, hn, hm⟩
  have HB : Hid (Below w.heap.size w ((w.alloc (.cells #[.int .u64 (limb x 0 : Nat), .int .u64 (limb x 1 : Nat), .int .u64 (limb x 2 : Nat), .int .u64 (limb x 3 : Nat)] 25)).alloc (.cells #[.int .u64 0, .int .u64 0, .int .u64 0, .int .u64 0] 25)) ∧ Pend ((w.alloc (.cells #[.int .u64 (limb x 0 : Nat), .int .u64 (limb x 1 : Nat), .int .u64 (limb x 2 : Nat), .int .u64 (limb x 3 : Nat)] 25)).alloc (.cells #[.int .u64 0, .int .u64 0, .int .u64 0, .int .u64 0] 25)) (w.heap.size + 1)) := ⟨below_alloc0 (below_alloc0 (Below.refl _ _) _) _, Pend.new' (by simp)⟩
  rw [← hn] at k2
  have K2 : Hid _ := k2
  obtain rfl : n = m := by omega
  clear hl hb hx hm' hG hN hS k1 hn hm k2 hs10 hR hq
  go_enter Tryd.func18, Tryd.ntmps18
  go_wp2_with fail
  refine (K1.out _ (H0.out.1.call HB.out.1) (H0.out.2.1.call HB.out.1)).mono ?_
  rintro e w1 ⟨q, rfl, hNu, hq, hb1⟩
  have H1 : Hid (Below w.heap.size w w1 ∧ Pend w1 (w.heap.size + 1) ∧ Nums w1 (some ⟨q, 0, none⟩) (wsL l x)) := ⟨below_call0 HB.out.1 hb1, HB.out.2.call hb1, hNu⟩
  clear hb1 hNu hq HB K1
  go_wp2_with fail
  refine (K2.out _ (H0.out.1.call H1.out.1) (H0.out.2.2.1.call H1.out.1)).mono ?_
  rintro e w2 ⟨rfl, hb2⟩
  have H2 : Hid (Below w.heap.size w w2 ∧ Pend w2 (w.heap.size + 1)) := ⟨below_call0 H1.out.1 hb2, H1.out.2.1.call hb2⟩
  clear hb2
  obtain ⟨⟨s0, s1, s2, s3⟩, ⟨f0, f1, f2, f3⟩, sz⟩ := (H2.out.2).facts
  go_wp2_with fail
  refine bodyPost_ret (v := .tuple #[z4, .int .i64 20]) ?_ rfl ⟨rfl, ?_⟩
  · simp [results, Tryd.results18, go_sem, z4, s0, s1, s2, s3]
  · have HW := H2.out.1
    ((repeat' (first | with_reducible exact HW | with_reducible exact Below.refl _ _ | exact (And.left (by assumption)) | with_reducible refine Below.setCell ?_ ?_ _ | with_reducible refine below_alloc0 ?_ _ | with_reducible refine below_drewN ?_ _ | with_reducible refine Below.drew ?_ | refine below_call0 ?_ (by assumption))) <;> (first | omega | (simp; done) | (simp; omega)))
set_option maxRecDepth 100000 in
set_option maxHeartbeats 8000000 in
theorem join_in (a b : Option Addr) (l : List Int) (s : List Nat) (c d x : Nat) (hl : l.length ≤ 17592186044416) (hb : nodesOk l = true) (hx : x < QQ) (hm' : s.length = l.length) (hq : allQ s = true) (w : World) (hG : GlobQ w) (hN : IntsAt w a l) (hS : Nums w b s) :
    Calls Tryd.prog 18 #[.slice a l.length c, .slice b s.length d, .agg #[.int .u64 (limb (x) 0 : Nat), .int .u64 (limb (x) 1 : Nat), .int .u64 (limb (x) 2 : Nat), .int .u64 (limb (x) 3 : Nat)]] w fun e w' => e = .returned (.tuple #[.agg #[.int .u64 (limb (joV l s x) 0 : Nat), .int .u64 (limb (joV l s x) 1 : Nat), .int .u64 (limb (joV l s x) 2 : Nat), .int .u64 (limb (joV l s x) 3 : Nat)], .int .i64 0]) ∧ Below w.heap.size w w' := by
  have k1 := fun w hG hN => weights_in a l c x hl hb hx w hG hN
  have hs10 : s.length ≤ 10 := by rw [hm']; exact nodes_short (nodes_ok hb).1
  have k2 := fun (w : World) (hG : GlobQ w) (hN : Nums w b s) => check_yes b s d (by omega) hq w hG hN
  rw [hm'] at k2
  obtain ⟨n, hn⟩ : ∃ n, n = l.length := ⟨_, rfl⟩
  obtain ⟨m, hm⟩ : ∃ m, m = s.length := ⟨_, rfl⟩
  rw [← hn] at k1
  have K1 : Hid _ := k1
  rw [← hn, ← hm]
  have H0 : Hid (GlobQ w ∧ IntsAt w a l ∧ Nums w b s ∧ n = l.length ∧ m = s.length) := ⟨hG, hN, hS, hn, hm⟩
  have HB : Hid (Below w.heap.size w ((w.alloc (.cells #[.int .u64 (limb x 0 : Nat), .int .u64 (limb x 1 : Nat), .int .u64 (limb x 2 : Nat), .int .u64 (limb x 3 : Nat)] 25)).alloc (.cells #[.int .u64 0, .int .u64 0, .int .u64 0, .int .u64 0] 25)) ∧ Pend ((w.alloc (.cells #[.int .u64 (limb x 0 : Nat), .int .u64 (limb x 1 : Nat), .int .u64 (limb x 2 : Nat), .int .u64 (limb x 3 : Nat)] 25)).alloc (.cells #[.int .u64 0, .int .u64 0, .int .u64 0, .int .u64 0] 25)) (w.heap.size + 1)) := ⟨below_alloc0 (below_alloc0 (Below.refl _ _) _) _, Pend.new' (by simp)⟩
  rw [← hn] at k2
  have K2 : Hid _ := k2
  have K4 : Hid _ := fun w h => reckoner_any w h
  obtain ⟨V, hV⟩ : ∃ V, V = joV l s x := ⟨_, rfl⟩
  rw [← hV]
  have HV : Hid (V = joV l s x ∧ allQ s = true) := ⟨hV, hq⟩
  obtain rfl : n = m := by omega
  have n10 : (n : Int) ≤ 10 := by omega
  clear hl hb hx hm' hG hN hS k1 hn hm k2 hs10 hq hV
  go_enter Tryd.func18, Tryd.ntmps18
  go_wp2_with fail
  refine (K1.out _ (H0.out.1.call HB.out.1) (H0.out.2.1.call HB.out.1)).mono ?_
  rintro e w1 ⟨q, rfl, hNu, hq, hb1⟩
  have H1 : Hid (Below w.heap.size w w1 ∧ Pend w1 (w.heap.size + 1) ∧ Nums w1 (some ⟨q, 0, none⟩) (wsL l x)) := ⟨below_call0 HB.out.1 hb1, HB.out.2.call hb1, hNu⟩
  clear hb1 hNu hq HB K1
  go_wp2_with fail
  refine (K2.out _ (H0.out.1.call H1.out.1) (H0.out.2.2.1.call H1.out.1)).mono ?_
  rintro e w2 ⟨rfl, hb2⟩
  have H2 : Hid (Below w.heap.size w w2 ∧ Pend w2 (w.heap.size + 1) ∧ Nums w2 (some ⟨q, 0, none⟩) (wsL l x)) := ⟨below_call0 H1.out.1 hb2, H1.out.2.1.call hb2, H1.out.2.2.call hb2⟩
  clear hb2 H1
  go_wp2_with fail
  refine (K4.out _ (H0.out.1.call H2.out.1)).mono ?_
  rintro e w4 ⟨g, rfl, hFB, hb4⟩
  obtain ⟨w5, hw5⟩ : ∃ y, y = w4.alloc (.cells #[.pointer (some ⟨g, 0, none⟩)] 67) := ⟨_, rfl⟩
  have H5 : Hid (Below w.heap.size w w5 ∧ Pend w5 (w.heap.size + 1) ∧ Ptr1 w5 w4.heap.size g ∧ FieldB w5 g QQ ∧ Nums w5 (some ⟨q, 0, none⟩) (wsL l x) ∧ Nums w5 b s) := by
    have hB : Below w.heap.size w w5 := by rw [hw5]; exact below_alloc0 (below_call0 H2.out.1 hb4) _
    refine ⟨hB, ?_, ?_, ?_, ?_, H0.out.2.2.1.call hB⟩
    · rw [hw5]; exact (H2.out.2.1.call hb4).alloc
    · rw [hw5]; exact Ptr1.new _ _ _
    · rw [hw5]; exact hFB.alloc
    · rw [hw5]; exact (H2.out.2.2.call hb4).alloc
  have HZ5 : Hid (w4.heap.size + 1 = w5.heap.size ∧ w5 = w4.alloc (.cells #[.pointer (some ⟨g, 0, none⟩)] 67)) := ⟨by rw [hw5]; simp, hw5⟩
  clear hb4 hFB H2 hw5
  go_wp2_with fail
  rw [← HZ5.out.2]
  try rw [HZ5.out.1]
  clear HZ5
  obtain ⟨w6, hw6⟩ : ∃ y, y = w5.alloc (.cells #[.int .u64 0, .int .u64 0, .int .u64 0, .int .u64 0] 25) := ⟨_, rfl⟩
  have H6 : Hid (Below w5.heap.size w5 w6 ∧ Own4 w6 w5.heap.size 0) := by
    rw [hw6]
    have h := Own4.new w5 0 25
    rw [limb_nought, limb_nought, limb_nought, limb_nought] at h
    exact ⟨below_alloc0 (Below.refl _ _) _, h⟩
  rw [← hw6]
  clear hw6
  rename_i Kr hKr
  have HKr : Hid _ := hKr
  clear hKr
  go_loopw [40] (fun iv wr => ∃ k : Nat, k ≤ n ∧ iv = .int .i64 (k : Nat) ∧ Own4 wr w5.heap.size (joK (fun i => s[i]?.getD 0) (wAt l x) k) ∧ Below w5.heap.size w5 wr) (fun iv _ => n - (Go.RowKit.intOf iv).toNat)
  case atStart => exact ⟨0, Nat.zero_le _, rfl, H6.out.2, H6.out.1⟩
  case round =>
    obtain ⟨k, hk, rfl, hO, hB⟩ := hrel
    rename World => wr
    obtain ⟨v, hv⟩ : ∃ v, v = joK (fun i => s[i]?.getD 0) (wAt l x) k := ⟨_, rfl⟩
    rw [← hv] at hO
    have HR : Hid (Own4 wr w5.heap.size v ∧ Below w5.heap.size w5 wr ∧ v = joK (fun i => s[i]?.getD 0) (wAt l x) k) := ⟨hO, hB, hv⟩
    clear hO hB hv
    by_cases hlt : k < n
    · clear HKr
      have hks : k < s.length := by rw [← H0.out.2.2.2.2]; exact hlt
      have hkw : k < (wsL l x).length := by rw [wsL_length, ← H0.out.2.2.2.1]; exact hlt
      have hlt' : (k : Int) < (n : Int) := Int.ofNat_lt.2 hlt
      obtain ⟨p, o, rfl, ⟨c0, c1, c2, c3⟩, pz⟩ := (H5.out.2.2.2.2.2.call HR.out.2.1).get hks
      obtain ⟨p', o', e', ⟨d0, d1, d2, d3⟩, dz⟩ := (H5.out.2.2.2.2.1.call HR.out.2.1).get hkw
      simp only [Option.some.injEq, Addr.mk.injEq, and_true] at e'
      obtain ⟨rfl, rfl⟩ := e'
      rw [Nat.zero_add] at d0 d1 d2 d3
      obtain ⟨m, hm⟩ : ∃ m, m = (s[k]'hks) := ⟨_, rfl⟩
      rw [← hm] at c0 c1 c2 c3
      rw [wsL_get] at d0 d1 d2 d3
      obtain ⟨y, hy⟩ : ∃ y, y = wAt l x k := ⟨_, rfl⟩
      rw [← hy] at d0 d1 d2 d3
      have hmq : m < QQ := by rw [hm]; exact allQ_get HV.out.2 hks
      have hyq : y < QQ := by rw [hy]; exact wAt_lt _ _ _
      have hvq : v < QQ := by rw [HR.out.2.2]; exact joK_lt _ _ _
      obtain ⟨t, ht⟩ : ∃ t, t = m * y % QQ := ⟨_, rfl⟩
      obtain ⟨u, hu⟩ : ∃ u, u = (v + t) % QQ := ⟨_, rfl⟩
      have htq : t < QQ := by rw [ht]; exact Nat.mod_lt _ QQ_pos
      have KT : Hid (∀ w, FieldB w g QQ → Calls Tryd.prog 35 #[.agg #[.pointer (some ⟨g, 0, none⟩)], .agg #[.int .u64 (limb (m) 0 : Nat), .int .u64 (limb (m) 1 : Nat), .int .u64 (limb (m) 2 : Nat), .int .u64 (limb (m) 3 : Nat)], .agg #[.int .u64 (limb (y) 0 : Nat), .int .u64 (limb (y) 1 : Nat), .int .u64 (limb (y) 2 : Nat), .int .u64 (limb (y) 3 : Nat)]] w fun e w' => e = .returned (.agg #[.int .u64 (limb (t) 0 : Nat), .int .u64 (limb (t) 1 : Nat), .int .u64 (limb (t) 2 : Nat), .int .u64 (limb (t) 3 : Nat)]) ∧ Below w.heap.size w w') := fun w h => by rw [ht]; exact rtimes_any g m y hmq hyq w h
      have KP : Hid (∀ w, FieldB w g QQ → Calls Tryd.prog 34 #[.agg #[.pointer (some ⟨g, 0, none⟩)], .agg #[.int .u64 (limb (v) 0 : Nat), .int .u64 (limb (v) 1 : Nat), .int .u64 (limb (v) 2 : Nat), .int .u64 (limb (v) 3 : Nat)], .agg #[.int .u64 (limb (t) 0 : Nat), .int .u64 (limb (t) 1 : Nat), .int .u64 (limb (t) 2 : Nat), .int .u64 (limb (t) 3 : Nat)]] w fun e w' => e = .returned (.agg #[.int .u64 (limb (u) 0 : Nat), .int .u64 (limb (u) 1 : Nat), .int .u64 (limb (u) 2 : Nat), .int .u64 (limb (u) 3 : Nat)]) ∧ Below w.heap.size w w') := fun w h => by rw [hu]; exact rplus_any g v t hvq htq w h
      have HU : Hid (u = joK (fun i => s[i]?.getD 0) (wAt l x) (k + 1)) := by
        have e1 : s[k]?.getD 0 = m := by rw [List.getElem?_eq_getElem hks, hm]; rfl
        show u = (joK (fun i => s[i]?.getD 0) (wAt l x) k + s[k]?.getD 0 * wAt l x k % QQ) % QQ
        rw [e1, ← HR.out.2.2, ← hy, ← ht]
        exact hu
      have HD : Hid (∀ w', Below wr.heap.size wr w' → (w'.cell? ⟨q, k * 4, none⟩ = some (.int .u64 (limb y 0 : Nat)) ∧ w'.cell? ⟨q, k * 4 + 1, none⟩ = some (.int .u64 (limb y 1 : Nat)) ∧ w'.cell? ⟨q, k * 4 + 2, none⟩ = some (.int .u64 (limb y 2 : Nat)) ∧ w'.cell? ⟨q, k * 4 + 3, none⟩ = some (.int .u64 (limb y 3 : Nat))) ∧ q < w'.heap.size) := fun w' hb => by
        have e := fun j => hb.cell (p := ⟨q, j, none⟩) dz
        exact ⟨⟨(e _).trans d0, (e _).trans d1, (e _).trans d2, (e _).trans d3⟩, Nat.lt_of_lt_of_le dz hb.size⟩
      clear hm hy hmq hyq hvq htq ht hu d0 d1 d2 d3 dz
      go_wp2_with fail
      obtain ⟨w8, hw8⟩ : ∃ z, z = wr.alloc (.cells #[.int .u64 (limb m 0 : Nat), .int .u64 (limb m 1 : Nat), .int .u64 (limb m 2 : Nat), .int .u64 (limb m 3 : Nat)] 25) := ⟨_, rfl⟩
      have H8 : Hid (Own4 w8 w5.heap.size v ∧ Own4 w8 wr.heap.size m ∧ Ptr1 w8 w4.heap.size g ∧ FieldB w8 g QQ ∧ Below w5.heap.size w5 w8 ∧ Below wr.heap.size wr w8) := by
        rw [hw8]
        exact ⟨HR.out.1.alloc, Own4.new _ _ _, (H5.out.2.2.1.call HR.out.2.1).alloc, (H5.out.2.2.2.1.call HR.out.2.1).alloc, below_alloc0 HR.out.2.1 _, below_alloc0 (Below.refl _ _) _⟩
      rw [← hw8]
      clear hw8 c0 c1 c2 c3 pz
      refine wp_region_N (fun w' => Below w8.heap.size w8 w') 10 11 rfl (by kernel_rfl) ?_
      refine wpAnyN_take (i := 0) (oi := ?o0) (v := ?v0) ?hi0 (by kernel_rfl) (by kernel_rfl) (by kernel_rfl) (by kernel_rfl) (by decide) (by kernel_rfl) ?hQ0 ?hy0 (Below.drew (Below.refl _ _)) ?more0
      case hi0 => rw [List.getElem?_toArray]; exact rfl
      case hQ0 => exact fun _ _ _ h => h
      case hy0 =>
        refine Or.inl ⟨by rfl, ?_⟩
        intro w' hSw
        obtain ⟨⟨o0, o1, o2, o3⟩, _, oz⟩ := (H8.out.1.call hSw).facts
        obtain ⟨⟨m0, m1, m2, m3⟩, _, mz⟩ := (H8.out.2.1.call hSw).facts
        obtain ⟨r0, rz⟩ := H8.out.2.2.1.call hSw
        obtain ⟨⟨d0, d1, d2, d3⟩, dz⟩ := HD.out _ (below_call0 H8.out.2.2.2.2.2 hSw)
        clear hSw
        go_simp
        try with_reducible rfl
      simp only [Act.put, List.setIfInBounds_toArray, List.set_cons_zero, List.set_cons_succ]
      refine wpAnyN_take (i := 1) (oi := ?o1) (v := ?v1) ?hi1 (by kernel_rfl) (by kernel_rfl) (by kernel_rfl) (by kernel_rfl) (by decide) (by kernel_rfl) ?hQ1 ?hy1 (Below.drew (Below.refl _ _)) ?more1
      case hi1 => rw [List.getElem?_toArray]; exact rfl
      case hQ1 => exact fun _ _ _ h => h
      case hy1 =>
        refine Or.inl ⟨by rfl, ?_⟩
        intro w' hSw
        obtain ⟨⟨o0, o1, o2, o3⟩, _, oz⟩ := (H8.out.1.call hSw).facts
        obtain ⟨⟨m0, m1, m2, m3⟩, _, mz⟩ := (H8.out.2.1.call hSw).facts
        obtain ⟨r0, rz⟩ := H8.out.2.2.1.call hSw
        obtain ⟨⟨d0, d1, d2, d3⟩, dz⟩ := HD.out _ (below_call0 H8.out.2.2.2.2.2 hSw)
        clear hSw
        go_simp
        try with_reducible rfl
      simp only [Act.put, List.setIfInBounds_toArray, List.set_cons_zero, List.set_cons_succ]
      refine wpAnyN_take (i := 2) (oi := ?o2) (v := ?v2) ?hi2 (by kernel_rfl) (by kernel_rfl) (by kernel_rfl) (by kernel_rfl) (by decide) (by kernel_rfl) ?hQ2 ?hy2 (Below.drew (Below.refl _ _)) ?more2
      case hi2 => rw [List.getElem?_toArray]; exact rfl
      case hQ2 => exact fun _ _ _ h => h
      case hy2 =>
        refine Or.inl ⟨by rfl, ?_⟩
        intro w' hSw
        obtain ⟨⟨o0, o1, o2, o3⟩, _, oz⟩ := (H8.out.1.call hSw).facts
        obtain ⟨⟨m0, m1, m2, m3⟩, _, mz⟩ := (H8.out.2.1.call hSw).facts
        obtain ⟨r0, rz⟩ := H8.out.2.2.1.call hSw
        obtain ⟨⟨d0, d1, d2, d3⟩, dz⟩ := HD.out _ (below_call0 H8.out.2.2.2.2.2 hSw)
        clear hSw
        go_simp
        try with_reducible rfl
      simp only [Act.put, List.setIfInBounds_toArray, List.set_cons_zero, List.set_cons_succ]
      refine wpAnyN_take (i := 3) (oi := ?o3) (v := ?v3) ?hi3 (by kernel_rfl) (by kernel_rfl) (by kernel_rfl) (by kernel_rfl) (by decide) (by kernel_rfl) ?hQ3 ?hy3 (Below.drew (Below.refl _ _)) ?more3
      case hi3 => rw [List.getElem?_toArray]; exact rfl
      case hQ3 => exact fun _ _ _ h => h
      case hy3 =>
        refine Or.inl ⟨by rfl, ?_⟩
        intro w' hSw
        obtain ⟨⟨o0, o1, o2, o3⟩, _, oz⟩ := (H8.out.1.call hSw).facts
        obtain ⟨⟨m0, m1, m2, m3⟩, _, mz⟩ := (H8.out.2.1.call hSw).facts
        obtain ⟨r0, rz⟩ := H8.out.2.2.1.call hSw
        obtain ⟨⟨d0, d1, d2, d3⟩, dz⟩ := HD.out _ (below_call0 H8.out.2.2.2.2.2 hSw)
        clear hSw
        go_simp
        try with_reducible rfl
      simp only [Act.put, List.setIfInBounds_toArray, List.set_cons_zero, List.set_cons_succ]
      refine wpAnyN_takeF (i := 4) (oi := ?o4) (v := ?v4) ?hi4 (by kernel_rfl) (by kernel_rfl) (by kernel_rfl) (by decide) ?hQ4 ?hy4 (Below.drew (Below.refl _ _)) ?more4
      case hi4 => rw [List.getElem?_toArray]; exact rfl
      case hQ4 => exact fun _ _ _ h => h
      case hy4 =>
        refine Or.inl ⟨by rfl, ?_⟩
        intro w' hSw
        clear hSw
        go_simp
        try with_reducible rfl
      simp only [Act.put, List.setIfInBounds_toArray, List.set_cons_zero, List.set_cons_succ]
      refine wpAnyN_takeF (i := 5) (oi := ?o5) (v := ?v5) ?hi5 (by kernel_rfl) (by kernel_rfl) (by kernel_rfl) (by decide) ?hQ5 ?hy5 (Below.drew (Below.refl _ _)) ?more5
      case hi5 => rw [List.getElem?_toArray]; exact rfl
      case hQ5 => exact fun _ _ _ h => h
      case hy5 =>
        refine Or.inl ⟨by rfl, ?_⟩
        intro w' hSw
        clear hSw
        go_simp
        try with_reducible rfl
      simp only [Act.put, List.setIfInBounds_toArray, List.set_cons_zero, List.set_cons_succ]
      refine wpAnyN_takeF (i := 6) (oi := ?o6) (v := ?v6) ?hi6 (by kernel_rfl) (by kernel_rfl) (by kernel_rfl) (by decide) ?hQ6 ?hy6 (Below.drew (Below.refl _ _)) ?more6
      case hi6 => rw [List.getElem?_toArray]; exact rfl
      case hQ6 => exact fun _ _ _ h => h
      case hy6 =>
        refine Or.inl ⟨by rfl, ?_⟩
        intro w' hSw
        clear hSw
        go_simp
        try with_reducible rfl
      simp only [Act.put, List.setIfInBounds_toArray, List.set_cons_zero, List.set_cons_succ]
      refine wpAnyN_take (i := 7) (oi := ?o7) (v := ?v7) ?hi7 (by kernel_rfl) (by kernel_rfl) (by kernel_rfl) (by kernel_rfl) (by decide) (by kernel_rfl) ?hQ7 ?hy7 (Below.drew (Below.refl _ _)) ?more7
      case hi7 => rw [List.getElem?_toArray]; exact rfl
      case hQ7 => exact fun _ _ _ h => h
      case hy7 =>
        refine Or.inl ⟨by rfl, ?_⟩
        intro w' hSw
        obtain ⟨⟨o0, o1, o2, o3⟩, _, oz⟩ := (H8.out.1.call hSw).facts
        obtain ⟨⟨m0, m1, m2, m3⟩, _, mz⟩ := (H8.out.2.1.call hSw).facts
        obtain ⟨r0, rz⟩ := H8.out.2.2.1.call hSw
        obtain ⟨⟨d0, d1, d2, d3⟩, dz⟩ := HD.out _ (below_call0 H8.out.2.2.2.2.2 hSw)
        clear hSw
        go_simp
        try with_reducible rfl
      simp only [Act.put, List.setIfInBounds_toArray, List.set_cons_zero, List.set_cons_succ]
      refine wpAnyN_one (i := 8) (o := ?o8) (by kernel_rfl) ?hi8 ?hw8 ?st8
      case hi8 => rw [List.getElem?_toArray]; exact rfl
      case hw8 => exact rfl
      intro K hK
      have HK8 : Hid _ := hK
      clear hK
      go_simp
      refine (KT.out _ (FieldB.drew H8.out.2.2.2.1)).mono ?_
      rintro e w9 ⟨rfl, hq⟩
      have H9 : Hid (Below w8.heap.size w8 w9) := below_call0 (Below.drew (Below.refl _ _)) hq
      clear hq
      go_wp2_with fail
      refine HK8.out _ _ ⟨fun _ => H9.out, ?_⟩
      clear HK8 K
      try simp only [Act.put, List.setIfInBounds_toArray, List.set_cons_zero, List.set_cons_succ]
      refine wpAnyN_one (i := 9) (o := ?o9) (by kernel_rfl) ?hi9 ?hw9 ?st9
      case hi9 => rw [List.getElem?_toArray]; exact rfl
      case hw9 => exact rfl
      intro K hK
      have HK9 : Hid _ := hK
      clear hK
      go_simp
      refine (KP.out _ (H8.out.2.2.2.1.call H9.out)).mono ?_
      rintro e w10 ⟨rfl, hq⟩
      have H10 : Hid (Below w8.heap.size w8 w10) := below_call0 H9.out hq
      obtain ⟨⟨o0, o1, o2, o3⟩, ⟨f0, f1, f2, f3⟩, oz⟩ := (H8.out.1.call H10.out).facts
      clear hq
      go_wp2_with fail
      refine HK9.out _ _ ⟨fun _ => H10.out, ?_⟩
      clear HK9 K
      try simp only [Act.put, List.setIfInBounds_toArray, List.set_cons_zero, List.set_cons_succ]
      refine wpAnyN_one (i := 10) (o := ?o10) (by kernel_rfl) ?hi10 ?hw10 ?st10
      case hi10 => rw [List.getElem?_toArray]; exact rfl
      case hw10 => exact rfl
      intro K hK
      have HK10 : Hid _ := hK
      clear hK
      go_simp
      refine HK10.out _ _ ⟨fun h => absurd h (by decide +kernel), ?_⟩
      clear HK10 K
      try simp only [Act.put, List.setIfInBounds_toArray, List.set_cons_zero, List.set_cons_succ]
      refine wpAnyN_done (by kernel_rfl) ?_ _
      have HE : Hid (Own4 ((((w10.setCell ⟨w5.heap.size, 0, none⟩ (.int .u64 (limb u 0 : Nat))).setCell ⟨w5.heap.size, 1, none⟩ (.int .u64 (limb u 1 : Nat))).setCell ⟨w5.heap.size, 2, none⟩ (.int .u64 (limb u 2 : Nat))).setCell ⟨w5.heap.size, 3, none⟩ (.int .u64 (limb u 3 : Nat))) w5.heap.size (joK (fun i => s[i]?.getD 0) (wAt l x) (k + 1)) ∧ Below w5.heap.size w5 ((((w10.setCell ⟨w5.heap.size, 0, none⟩ (.int .u64 (limb u 0 : Nat))).setCell ⟨w5.heap.size, 1, none⟩ (.int .u64 (limb u 1 : Nat))).setCell ⟨w5.heap.size, 2, none⟩ (.int .u64 (limb u 2 : Nat))).setCell ⟨w5.heap.size, 3, none⟩ (.int .u64 (limb u 3 : Nat)))) := by
        refine ⟨?_, ?_⟩
        · rw [← HU.out]; exact (H8.out.1.call H10.out).put
        · exact Below.setCell (Below.setCell (Below.setCell (Below.setCell (below_call0 H8.out.2.2.2.2.1 H10.out) (Nat.le_refl _) _) (Nat.le_refl _) _) (Nat.le_refl _) _) (Nat.le_refl _) _
      clear o0 o1 o2 o3 f0 f1 f2 f3 oz
      go_wp2_with fail
      go_roundw
      case rel => first | exact ⟨k + 1, hlt, by go_num, HE.out⟩ | ((repeat apply Exists.intro); exact ⟨⟨k + 1, hlt, by go_num, HE.out⟩, rfl⟩)
      case measure => simp [intOf]; omega
    · obtain rfl : k = n := by omega
      have hnl : ¬ ((k : Int) < (k : Int)) := Int.lt_irrefl _
      have HVV : Hid (v = V) := by rw [HR.out.2.2, HV.out.1]; unfold joV; rw [← H0.out.2.2.2.1]; rfl
      clear hlt hk
      go_wp2_with fail
      refine HKr.out _ _ ?_
      clear HKr
      obtain ⟨⟨o0, o1, o2, o3⟩, _, oz⟩ := HR.out.1.facts
      rw [HVV.out] at o0 o1 o2 o3
      obtain ⟨⟨s0, s1, s2, s3⟩, ⟨t0, t1, t2, t3⟩, sz⟩ := (H5.out.2.1.call HR.out.2.1).facts
      go_wp2_with fail
      refine bodyPost_ret (v := .tuple #[.agg #[.int .u64 (limb (V) 0 : Nat), .int .u64 (limb (V) 1 : Nat), .int .u64 (limb (V) 2 : Nat), .int .u64 (limb (V) 3 : Nat)], .int .i64 0]) ?_ rfl ⟨rfl, ?_⟩
      · simp [results, Tryd.results18, go_sem, s0, s1, s2, s3]
      · have HW := below_call0 H5.out.1 HR.out.2.1
        ((repeat' (first | with_reducible exact HW | with_reducible exact Below.refl _ _ | exact (And.left (by assumption)) | with_reducible refine Below.setCell ?_ ?_ _ | with_reducible refine below_alloc0 ?_ _ | with_reducible refine below_drewN ?_ _ | with_reducible refine Below.drew ?_ | refine below_call0 ?_ (by assumption))) <;> (first | omega | (simp; done) | (simp; omega)))
end Go.Proofs.YtcdiehnkknmbeaaDoor

namespace Go.Proofs.YtcdiehnkknmbeaaDoor
open Go Go.RowKit Go.Lib

theorem joK_comm (s w : Nat → Nat) (k : Nat) : joK s w (k + 1) = (joK s w k + w k * s k % QQ) % QQ := by
  show (joK s w k + s k * w k % QQ) % QQ = _
  rw [Nat.mul_comm]
set_option maxRecDepth 100000 in
set_option maxHeartbeats 8000000 in
theorem ref_join_err (a b : Option Addr) (l : List Int) (n c m d x : Nat) (ec : Int) (hec : (ec == 0) = false) (kw : ∀ w, IntsAt w a l → Calls Tryd.prog 15 #[.slice a n c, .agg #[.int .u64 (limb (x) 0 : Nat), .int .u64 (limb (x) 1 : Nat), .int .u64 (limb (x) 2 : Nat), .int .u64 (limb (x) 3 : Nat)]] w fun e w' => e = .returned (.tuple #[.slice none 0 0, .int .i64 ec]) ∧ Below w.heap.size w w') (w : World) (hN : IntsAt w a l) :
    Calls Tryd.prog 19 #[.slice a n c, .slice b m d, .agg #[.int .u64 (limb (x) 0 : Nat), .int .u64 (limb (x) 1 : Nat), .int .u64 (limb (x) 2 : Nat), .int .u64 (limb (x) 3 : Nat)]] w fun e w' => e = .returned (.tuple #[z4, .int .i64 ec]) ∧ Below w.heap.size w w' := by
  have K1 : Hid _ := kw
  have H0 : Hid (IntsAt w a l) := hN
  have HB : Hid (Below w.heap.size w ((w.alloc (.cells #[.int .u64 (limb x 0 : Nat), .int .u64 (limb x 1 : Nat), .int .u64 (limb x 2 : Nat), .int .u64 (limb x 3 : Nat)] 25)).alloc (.cells #[.int .u64 0, .int .u64 0, .int .u64 0, .int .u64 0] 25)) ∧ Pend ((w.alloc (.cells #[.int .u64 (limb x 0 : Nat), .int .u64 (limb x 1 : Nat), .int .u64 (limb x 2 : Nat), .int .u64 (limb x 3 : Nat)] 25)).alloc (.cells #[.int .u64 0, .int .u64 0, .int .u64 0, .int .u64 0] 25)) (w.heap.size + 1)) := ⟨below_alloc0 (below_alloc0 (Below.refl _ _) _) _, Pend.new' (by simp)⟩
  clear kw hN
  go_enter Tryd.func19, Tryd.ntmps19
  go_wp2_with fail
  refine (K1.out _ (H0.out.call HB.out.1)).mono ?_
  rintro e w1 ⟨rfl, hb1⟩
  obtain ⟨⟨s0, s1, s2, s3⟩, ⟨f0, f1, f2, f3⟩, sz⟩ := (HB.out.2.call hb1).facts
  have HW : Hid (Below w.heap.size w w1) := below_call0 HB.out.1 hb1
  clear hb1 HB K1
  go_wp2_with fail
  refine bodyPost_ret (v := .tuple #[z4, .int .i64 ec]) ?_ rfl ⟨rfl, ?_⟩
  · simp [results, Tryd.results19, go_sem, z4, s0, s1, s2, s3]
  · have HW := HW.out
    ((repeat' (first | with_reducible exact HW | with_reducible exact Below.refl _ _ | exact (And.left (by assumption)) | with_reducible refine Below.setCell ?_ ?_ _ | with_reducible refine below_alloc0 ?_ _ | with_reducible refine below_drewN ?_ _ | with_reducible refine Below.drew ?_ | refine below_call0 ?_ (by assumption))) <;> (first | omega | (simp; done) | (simp; omega)))
set_option maxRecDepth 100000 in
set_option maxHeartbeats 8000000 in
theorem ref_join_len (a b : Option Addr) (l : List Int) (s : List Nat) (c d x : Nat) (hl : l.length ≤ 17592186044416) (hb : nodesOk l = true) (hx : x < QQ) (hm' : s.length ≠ l.length) (w : World) (hN : IntsAt w a l) (hS : Nums w b s) :
    Calls Tryd.prog 19 #[.slice a l.length c, .slice b s.length d, .agg #[.int .u64 (limb (x) 0 : Nat), .int .u64 (limb (x) 1 : Nat), .int .u64 (limb (x) 2 : Nat), .int .u64 (limb (x) 3 : Nat)]] w fun e w' => e = .returned (.tuple #[z4, .int .i64 1]) ∧ Below w.heap.size w w' := by
  have k1 := fun w hN => ref_weights_in a l c x hl hb hx w hN
  obtain ⟨n, hn⟩ : ∃ n, n = l.length := ⟨_, rfl⟩
  obtain ⟨m, hm⟩ : ∃ m, m = s.length := ⟨_, rfl⟩
  rw [← hn] at k1
  have K1 : Hid _ := k1
  rw [← hn, ← hm]
  have H0 : Hid (IntsAt w a l ∧ Nums w b s ∧ n = l.length ∧ m = s.length) := ⟨hN, hS, hn, hm⟩
  have HB : Hid (Below w.heap.size w ((w.alloc (.cells #[.int .u64 (limb x 0 : Nat), .int .u64 (limb x 1 : Nat), .int .u64 (limb x 2 : Nat), .int .u64 (limb x 3 : Nat)] 25)).alloc (.cells #[.int .u64 0, .int .u64 0, .int .u64 0, .int .u64 0] 25)) ∧ Pend ((w.alloc (.cells #[.int .u64 (limb x 0 : Nat), .int .u64 (limb x 1 : Nat), .int .u64 (limb x 2 : Nat), .int .u64 (limb x 3 : Nat)] 25)).alloc (.cells #[.int .u64 0, .int .u64 0, .int .u64 0, .int .u64 0] 25)) (w.heap.size + 1)) := ⟨below_alloc0 (below_alloc0 (Below.refl _ _) _) _, Pend.new' (by simp)⟩
  have e1 : ((m : Int) == (n : Int)) = false := by simp; omega
  have e2 : ¬ ((m : Int) = (n : Int)) := by omega
  clear hl hb hx hm' hN hS k1 hn hm
  go_enter Tryd.func19, Tryd.ntmps19
  go_wp2_with fail
  refine (K1.out _ (H0.out.1.call HB.out.1)).mono ?_
  rintro e w1 ⟨qa, qc, rfl, hNu, hb1⟩
  have H1 : Hid (Below w.heap.size w w1 ∧ Pend w1 (w.heap.size + 1) ∧ Nums w1 qa (wsL l x)) := ⟨below_call0 HB.out.1 hb1, HB.out.2.call hb1, hNu⟩
  clear hb1 hNu HB K1
  obtain ⟨⟨s0, s1, s2, s3⟩, ⟨f0, f1, f2, f3⟩, sz⟩ := (H1.out.2.1).facts
  go_wp2_with fail
  refine bodyPost_ret (v := .tuple #[z4, .int .i64 1]) ?_ rfl ⟨rfl, ?_⟩
  · simp [results, Tryd.results19, go_sem, z4, s0, s1, s2, s3]
  · have HW := H1.out.1
    ((repeat' (first | with_reducible exact HW | with_reducible exact Below.refl _ _ | exact (And.left (by assumption)) | with_reducible refine Below.setCell ?_ ?_ _ | with_reducible refine below_alloc0 ?_ _ | with_reducible refine below_drewN ?_ _ | with_reducible refine Below.drew ?_ | refine below_call0 ?_ (by assumption))) <;> (first | omega | (simp; done) | (simp; omega)))
set_option maxRecDepth 100000 in
set_option maxHeartbeats 8000000 in
theorem ref_join_bad (a b : Option Addr) (l : List Int) (s : List Nat) (c d x : Nat) (hl : l.length ≤ 17592186044416) (hb : nodesOk l = true) (hx : x < QQ) (hm' : s.length = l.length) (hR : ∀ n ∈ s, n < R256) (hq : allQ s = false) (w : World) (hN : IntsAt w a l) (hS : Nums w b s) :
    Calls Tryd.prog 19 #[.slice a l.length c, .slice b s.length d, .agg #[.int .u64 (limb (x) 0 : Nat), .int .u64 (limb (x) 1 : Nat), .int .u64 (limb (x) 2 : Nat), .int .u64 (limb (x) 3 : Nat)]] w fun e w' => e = .returned (.tuple #[z4, .int .i64 20]) ∧ Below w.heap.size w w' := by
  have k1 := fun w hN => ref_weights_in a l c x hl hb hx w hN
  have hs10 : s.length ≤ 10 := by rw [hm']; exact nodes_short (nodes_ok hb).1
  have k2 := fun (w : World) (hN : Nums w b s) => scal2_all b s d (by omega) hR w hN
  rw [hm', hq] at k2
  obtain ⟨n, hn⟩ : ∃ n, n = l.length := ⟨_, rfl⟩
  obtain ⟨m, hm⟩ : ∃ m, m = s.length := ⟨_, rfl⟩
  rw [← hn] at k1
  have K1 : Hid _ := k1
  rw [← hn, ← hm]
  have H0 : Hid (IntsAt w a l ∧ Nums w b s ∧ n = l.length ∧ m = s.length) := ⟨hN, hS, hn, hm⟩
  have HB : Hid (Below w.heap.size w ((w.alloc (.cells #[.int .u64 (limb x 0 : Nat), .int .u64 (limb x 1 : Nat), .int .u64 (limb x 2 : Nat), .int .u64 (limb x 3 : Nat)] 25)).alloc (.cells #[.int .u64 0, .int .u64 0, .int .u64 0, .int .u64 0] 25)) ∧ Pend ((w.alloc (.cells #[.int .u64 (limb x 0 : Nat), .int .u64 (limb x 1 : Nat), .int .u64 (limb x 2 : Nat), .int .u64 (limb x 3 : Nat)] 25)).alloc (.cells #[.int .u64 0, .int .u64 0, .int .u64 0, .int .u64 0] 25)) (w.heap.size + 1)) := ⟨below_alloc0 (below_alloc0 (Below.refl _ _) _) _, Pend.new' (by simp)⟩
  rw [← hn] at k2
  have K2 : Hid _ := k2
  obtain rfl : n = m := by omega
  clear hl hb hx hm' hN hS k1 hn hm k2 hs10 hR hq
  go_enter Tryd.func19, Tryd.ntmps19
  go_wp2_with fail
  refine (K1.out _ (H0.out.1.call HB.out.1)).mono ?_
  rintro e w1 ⟨qa, qc, rfl, hNu, hb1⟩
  have H1 : Hid (Below w.heap.size w w1 ∧ Pend w1 (w.heap.size + 1) ∧ Nums w1 qa (wsL l x)) := ⟨below_call0 HB.out.1 hb1, HB.out.2.call hb1, hNu⟩
  clear hb1 hNu HB K1
  go_wp2_with fail
  refine (K2.out _ (H0.out.2.1.call H1.out.1)).mono ?_
  rintro e w2 ⟨rfl, hb2⟩
  have H2 : Hid (Below w.heap.size w w2 ∧ Pend w2 (w.heap.size + 1)) := ⟨below_call0 H1.out.1 hb2, H1.out.2.1.call hb2⟩
  clear hb2
  obtain ⟨⟨s0, s1, s2, s3⟩, ⟨f0, f1, f2, f3⟩, sz⟩ := (H2.out.2).facts
  go_wp2_with fail
  refine bodyPost_ret (v := .tuple #[z4, .int .i64 20]) ?_ rfl ⟨rfl, ?_⟩
  · simp [results, Tryd.results19, go_sem, z4, s0, s1, s2, s3]
  · have HW := H2.out.1
    ((repeat' (first | with_reducible exact HW | with_reducible exact Below.refl _ _ | exact (And.left (by assumption)) | with_reducible refine Below.setCell ?_ ?_ _ | with_reducible refine below_alloc0 ?_ _ | with_reducible refine below_drewN ?_ _ | with_reducible refine Below.drew ?_ | refine below_call0 ?_ (by assumption))) <;> (first | omega | (simp; done) | (simp; omega)))
set_option maxRecDepth 100000 in
set_option maxHeartbeats 8000000 in
theorem ref_join_in (a b : Option Addr) (l : List Int) (s : List Nat) (c d x : Nat) (hl : l.length ≤ 17592186044416) (hb : nodesOk l = true) (hx : x < QQ) (hm' : s.length = l.length) (hq : allQ s = true) (w : World) (hN : IntsAt w a l) (hS : Nums w b s) :
    Calls Tryd.prog 19 #[.slice a l.length c, .slice b s.length d, .agg #[.int .u64 (limb (x) 0 : Nat), .int .u64 (limb (x) 1 : Nat), .int .u64 (limb (x) 2 : Nat), .int .u64 (limb (x) 3 : Nat)]] w fun e w' => e = .returned (.tuple #[.agg #[.int .u64 (limb (joV l s x) 0 : Nat), .int .u64 (limb (joV l s x) 1 : Nat), .int .u64 (limb (joV l s x) 2 : Nat), .int .u64 (limb (joV l s x) 3 : Nat)], .int .i64 0]) ∧ Below w.heap.size w w' := by
  have k1 := fun w hN => ref_weights_in a l c x hl hb hx w hN
  have hs10 : s.length ≤ 10 := by rw [hm']; exact nodes_short (nodes_ok hb).1
  have k2 := fun (w : World) (hN : Nums w b s) => scal2_all b s d (by omega) (fun n hn => Nat.lt_trans (allQ_mem hq hn) FM_Q.2.1) w hN
  rw [hm', hq] at k2
  obtain ⟨n, hn⟩ : ∃ n, n = l.length := ⟨_, rfl⟩
  obtain ⟨m, hm⟩ : ∃ m, m = s.length := ⟨_, rfl⟩
  rw [← hn] at k1
  have K1 : Hid _ := k1
  rw [← hn, ← hm]
  have H0 : Hid (IntsAt w a l ∧ Nums w b s ∧ n = l.length ∧ m = s.length) := ⟨hN, hS, hn, hm⟩
  have HB : Hid (Below w.heap.size w ((w.alloc (.cells #[.int .u64 (limb x 0 : Nat), .int .u64 (limb x 1 : Nat), .int .u64 (limb x 2 : Nat), .int .u64 (limb x 3 : Nat)] 25)).alloc (.cells #[.int .u64 0, .int .u64 0, .int .u64 0, .int .u64 0] 25)) ∧ Pend ((w.alloc (.cells #[.int .u64 (limb x 0 : Nat), .int .u64 (limb x 1 : Nat), .int .u64 (limb x 2 : Nat), .int .u64 (limb x 3 : Nat)] 25)).alloc (.cells #[.int .u64 0, .int .u64 0, .int .u64 0, .int .u64 0] 25)) (w.heap.size + 1)) := ⟨below_alloc0 (below_alloc0 (Below.refl _ _) _) _, Pend.new' (by simp)⟩
  rw [← hn] at k2
  have K2 : Hid _ := k2
  obtain ⟨q, hq'⟩ : ∃ q, q = QQ := ⟨_, rfl⟩
  have K4 : Hid (∀ w, Calls Tryd.prog 25 #[] w fun e w' => e = .returned (.agg #[.int .u64 (limb (q) 0 : Nat), .int .u64 (limb (q) 1 : Nat), .int .u64 (limb (q) 2 : Nat), .int .u64 (limb (q) 3 : Nat), .int .u64 (limb (R256 - (q)) 0 : Nat), .int .u64 (limb (R256 - (q)) 1 : Nat), .int .u64 (limb (R256 - (q)) 2 : Nat), .int .u64 (limb (R256 - (q)) 3 : Nat)]) ∧ Below w.heap.size w w') := fun w => by rw [hq']; exact scalars2_any w
  obtain ⟨V, hV⟩ : ∃ V, V = joV l s x := ⟨_, rfl⟩
  rw [← hV]
  have HV : Hid (V = joV l s x ∧ allQ s = true ∧ q = QQ) := ⟨hV, hq, hq'⟩
  obtain rfl : n = m := by omega
  have n10 : (n : Int) ≤ 10 := by omega
  clear hl hb hx hm' hN hS k1 hn hm k2 hs10 hq hV hq'
  go_enter Tryd.func19, Tryd.ntmps19
  go_wp2_with fail
  refine (K1.out _ (H0.out.1.call HB.out.1)).mono ?_
  rintro e w1 ⟨qa, qc, rfl, hNu, hb1⟩
  have H1 : Hid (Below w.heap.size w w1 ∧ Pend w1 (w.heap.size + 1) ∧ Nums w1 qa (wsL l x)) := ⟨below_call0 HB.out.1 hb1, HB.out.2.call hb1, hNu⟩
  clear hb1 hNu HB K1
  go_wp2_with fail
  refine (K2.out _ (H0.out.2.1.call H1.out.1)).mono ?_
  rintro e w2 ⟨rfl, hb2⟩
  have H2 : Hid (Below w.heap.size w w2 ∧ Pend w2 (w.heap.size + 1) ∧ Nums w2 qa (wsL l x)) := ⟨below_call0 H1.out.1 hb2, H1.out.2.1.call hb2, H1.out.2.2.call hb2⟩
  clear hb2 H1
  go_wp2_with fail
  refine (K4.out _).mono ?_
  rintro e w4 ⟨rfl, hb4⟩
  obtain ⟨w5, hw5⟩ : ∃ y, y = w4.alloc (.cells #[.int .u64 (limb q 0 : Nat), .int .u64 (limb q 1 : Nat), .int .u64 (limb q 2 : Nat), .int .u64 (limb q 3 : Nat), .int .u64 (limb (R256 - q) 0 : Nat), .int .u64 (limb (R256 - q) 1 : Nat), .int .u64 (limb (R256 - q) 2 : Nat), .int .u64 (limb (R256 - q) 3 : Nat)] 55) := ⟨_, rfl⟩
  have H5 : Hid (Below w.heap.size w w5 ∧ Pend w5 (w.heap.size + 1) ∧ FieldB w5 w4.heap.size q ∧ Nums w5 qa (wsL l x) ∧ Nums w5 b s) := by
    have hB : Below w.heap.size w w5 := by rw [hw5]; exact below_alloc0 (below_call0 H2.out.1 hb4) _
    refine ⟨hB, ?_, ?_, ?_, H0.out.2.1.call hB⟩
    · rw [hw5]; exact (H2.out.2.1.call hb4).alloc
    · rw [hw5]; exact FieldB.new _ _ _
    · rw [hw5]; exact (H2.out.2.2.call hb4).alloc
  have HZ5 : Hid (w4.heap.size + 1 = w5.heap.size ∧ w5 = w4.alloc (.cells #[.int .u64 (limb q 0 : Nat), .int .u64 (limb q 1 : Nat), .int .u64 (limb q 2 : Nat), .int .u64 (limb q 3 : Nat), .int .u64 (limb (R256 - q) 0 : Nat), .int .u64 (limb (R256 - q) 1 : Nat), .int .u64 (limb (R256 - q) 2 : Nat), .int .u64 (limb (R256 - q) 3 : Nat)] 55)) := ⟨by rw [hw5]; simp, hw5⟩
  clear hb4 H2 hw5
  go_wp2_with fail
  rw [← HZ5.out.2]
  try rw [HZ5.out.1]
  clear HZ5
  obtain ⟨w6, hw6⟩ : ∃ y, y = w5.alloc (.cells #[.int .u64 0, .int .u64 0, .int .u64 0, .int .u64 0] 25) := ⟨_, rfl⟩
  have H6 : Hid (Below w5.heap.size w5 w6 ∧ Own4 w6 w5.heap.size 0) := by
    rw [hw6]
    have h := Own4.new w5 0 25
    rw [limb_nought, limb_nought, limb_nought, limb_nought] at h
    exact ⟨below_alloc0 (Below.refl _ _) _, h⟩
  rw [← hw6]
  clear hw6
  rename_i Kr hKr
  have HKr : Hid _ := hKr
  clear hKr
  go_loopw [38] (fun iv wr => ∃ k : Nat, k ≤ n ∧ iv = .int .i64 (k : Nat) ∧ Own4 wr w5.heap.size (joK (fun i => s[i]?.getD 0) (wAt l x) k) ∧ Below w5.heap.size w5 wr) (fun iv _ => n - (Go.RowKit.intOf iv).toNat)
  case atStart => exact ⟨0, Nat.zero_le _, rfl, H6.out.2, H6.out.1⟩
  case round =>
    obtain ⟨k, hk, rfl, hO, hB⟩ := hrel
    rename World => wr
    obtain ⟨v, hv⟩ : ∃ v, v = joK (fun i => s[i]?.getD 0) (wAt l x) k := ⟨_, rfl⟩
    rw [← hv] at hO
    have HR : Hid (Own4 wr w5.heap.size v ∧ Below w5.heap.size w5 wr ∧ v = joK (fun i => s[i]?.getD 0) (wAt l x) k) := ⟨hO, hB, hv⟩
    clear hO hB hv
    by_cases hlt : k < n
    · clear HKr
      have hks : k < s.length := by rw [← H0.out.2.2.2]; exact hlt
      have hkw : k < (wsL l x).length := by rw [wsL_length, ← H0.out.2.2.1]; exact hlt
      have hlt' : (k : Int) < (n : Int) := Int.ofNat_lt.2 hlt
      obtain ⟨p, o, rfl, ⟨c0, c1, c2, c3⟩, pz⟩ := (H5.out.2.2.2.1.call HR.out.2.1).get hkw
      obtain ⟨p', o', rfl, ⟨d0, d1, d2, d3⟩, dz⟩ := (H5.out.2.2.2.2.call HR.out.2.1).get hks
      obtain ⟨m, hm⟩ : ∃ m, m = (s[k]'hks) := ⟨_, rfl⟩
      rw [← hm] at d0 d1 d2 d3
      rw [wsL_get] at c0 c1 c2 c3
      obtain ⟨y, hy⟩ : ∃ y, y = wAt l x k := ⟨_, rfl⟩
      rw [← hy] at c0 c1 c2 c3
      have hmq : m < QQ := by rw [hm]; exact allQ_get HV.out.2.1 hks
      have hyq : y < QQ := by rw [hy]; exact wAt_lt _ _ _
      have hvq : v < QQ := by rw [HR.out.2.2]; exact joK_lt _ _ _
      obtain ⟨t, ht⟩ : ∃ t, t = y * m % QQ := ⟨_, rfl⟩
      obtain ⟨u, hu⟩ : ∃ u, u = (v + t) % QQ := ⟨_, rfl⟩
      have htq : t < QQ := by rw [ht]; exact Nat.mod_lt _ QQ_pos
      have R := fun {z : Nat} (h : z < QQ) => Nat.lt_trans h FM_Q.2.1
      have KT : Hid (∀ w, Calls Tryd.prog 29 #[.agg #[.int .u64 (limb (q) 0 : Nat), .int .u64 (limb (q) 1 : Nat), .int .u64 (limb (q) 2 : Nat), .int .u64 (limb (q) 3 : Nat), .int .u64 (limb (R256 - (q)) 0 : Nat), .int .u64 (limb (R256 - (q)) 1 : Nat), .int .u64 (limb (R256 - (q)) 2 : Nat), .int .u64 (limb (R256 - (q)) 3 : Nat)], .agg #[.int .u64 (limb (y) 0 : Nat), .int .u64 (limb (y) 1 : Nat), .int .u64 (limb (y) 2 : Nat), .int .u64 (limb (y) 3 : Nat)], .agg #[.int .u64 (limb (m) 0 : Nat), .int .u64 (limb (m) 1 : Nat), .int .u64 (limb (m) 2 : Nat), .int .u64 (limb (m) 3 : Nat)]] w fun e w' => e = .returned (.agg #[.int .u64 (limb (t) 0 : Nat), .int .u64 (limb (t) 1 : Nat), .int .u64 (limb (t) 2 : Nat), .int .u64 (limb (t) 3 : Nat)]) ∧ Below w.heap.size w w') := fun w => by rw [HV.out.2.2, ht]; exact mul2_any QQ y m FM_Q FS_Q (R hyq) (R hmq) w
      have KP : Hid (∀ w, Calls Tryd.prog 38 #[.agg #[.int .u64 (limb (q) 0 : Nat), .int .u64 (limb (q) 1 : Nat), .int .u64 (limb (q) 2 : Nat), .int .u64 (limb (q) 3 : Nat), .int .u64 (limb (R256 - (q)) 0 : Nat), .int .u64 (limb (R256 - (q)) 1 : Nat), .int .u64 (limb (R256 - (q)) 2 : Nat), .int .u64 (limb (R256 - (q)) 3 : Nat)], .agg #[.int .u64 (limb (v) 0 : Nat), .int .u64 (limb (v) 1 : Nat), .int .u64 (limb (v) 2 : Nat), .int .u64 (limb (v) 3 : Nat)], .agg #[.int .u64 (limb (t) 0 : Nat), .int .u64 (limb (t) 1 : Nat), .int .u64 (limb (t) 2 : Nat), .int .u64 (limb (t) 3 : Nat)]] w fun e w' => e = .returned (.agg #[.int .u64 (limb (u) 0 : Nat), .int .u64 (limb (u) 1 : Nat), .int .u64 (limb (u) 2 : Nat), .int .u64 (limb (u) 3 : Nat)]) ∧ Below w.heap.size w w') := fun w => by rw [HV.out.2.2, hu]; exact add2_any QQ v t FM_Q.2.1 hvq htq w
      have HU : Hid (u = joK (fun i => s[i]?.getD 0) (wAt l x) (k + 1)) := by
        have e1 : s[k]?.getD 0 = m := by rw [List.getElem?_eq_getElem hks, hm]; rfl
        rw [joK_comm]
        show u = (joK (fun i => s[i]?.getD 0) (wAt l x) k + wAt l x k * s[k]?.getD 0 % QQ) % QQ
        rw [e1, ← HR.out.2.2, ← hy, ← ht]
        exact hu
      have HD : Hid (∀ w', Below wr.heap.size wr w' → (w'.cell? ⟨p', o' + k * 4, none⟩ = some (.int .u64 (limb m 0 : Nat)) ∧ w'.cell? ⟨p', o' + k * 4 + 1, none⟩ = some (.int .u64 (limb m 1 : Nat)) ∧ w'.cell? ⟨p', o' + k * 4 + 2, none⟩ = some (.int .u64 (limb m 2 : Nat)) ∧ w'.cell? ⟨p', o' + k * 4 + 3, none⟩ = some (.int .u64 (limb m 3 : Nat))) ∧ p' < w'.heap.size) := fun w' hb => by
        have e := fun j => hb.cell (p := ⟨p', j, none⟩) dz
        exact ⟨⟨(e _).trans d0, (e _).trans d1, (e _).trans d2, (e _).trans d3⟩, Nat.lt_of_lt_of_le dz hb.size⟩
      clear hm hy hmq hyq hvq htq ht hu d0 d1 d2 d3 dz R
      go_wp2_with fail
      obtain ⟨w8, hw8⟩ : ∃ z, z = wr.alloc (.cells #[.int .u64 (limb y 0 : Nat), .int .u64 (limb y 1 : Nat), .int .u64 (limb y 2 : Nat), .int .u64 (limb y 3 : Nat)] 25) := ⟨_, rfl⟩
      have H8 : Hid (Own4 w8 w5.heap.size v ∧ Own4 w8 wr.heap.size y ∧ FieldB w8 w4.heap.size q ∧ Below w5.heap.size w5 w8 ∧ Below wr.heap.size wr w8) := by
        rw [hw8]
        exact ⟨HR.out.1.alloc, Own4.new _ _ _, (H5.out.2.2.1.call HR.out.2.1).alloc, below_alloc0 HR.out.2.1 _, below_alloc0 (Below.refl _ _) _⟩
      rw [← hw8]
      clear hw8 c0 c1 c2 c3 pz
      refine wp_region_N (fun w' => Below w8.heap.size w8 w') 10 11 rfl (by kernel_rfl) ?_
      refine wpAnyN_take (i := 0) (oi := ?o0) (v := ?v0) ?hi0 (by kernel_rfl) (by kernel_rfl) (by kernel_rfl) (by kernel_rfl) (by decide) (by kernel_rfl) ?hQ0 ?hy0 (Below.drew (Below.refl _ _)) ?more0
      case hi0 => rw [List.getElem?_toArray]; exact rfl
      case hQ0 => exact fun _ _ _ h => h
      case hy0 =>
        refine Or.inl ⟨by rfl, ?_⟩
        intro w' hSw
        obtain ⟨⟨o0, o1, o2, o3⟩, _, oz⟩ := (H8.out.1.call hSw).facts
        obtain ⟨⟨m0, m1, m2, m3⟩, _, mz⟩ := (H8.out.2.1.call hSw).facts
        have hF := H8.out.2.2.1.call hSw
        obtain ⟨q0, q1, q2, q3⟩ := hF.1.facts
        obtain ⟨r0, r1, r2, r3⟩ := hF.gap
        have rz := hF.2.2
        obtain ⟨⟨d0, d1, d2, d3⟩, dz⟩ := HD.out _ (below_call0 H8.out.2.2.2.2 hSw)
        clear hSw hF
        go_simp
        try with_reducible rfl
      simp only [Act.put, List.setIfInBounds_toArray, List.set_cons_zero, List.set_cons_succ]
      refine wpAnyN_take (i := 1) (oi := ?o1) (v := ?v1) ?hi1 (by kernel_rfl) (by kernel_rfl) (by kernel_rfl) (by kernel_rfl) (by decide) (by kernel_rfl) ?hQ1 ?hy1 (Below.drew (Below.refl _ _)) ?more1
      case hi1 => rw [List.getElem?_toArray]; exact rfl
      case hQ1 => exact fun _ _ _ h => h
      case hy1 =>
        refine Or.inl ⟨by rfl, ?_⟩
        intro w' hSw
        obtain ⟨⟨o0, o1, o2, o3⟩, _, oz⟩ := (H8.out.1.call hSw).facts
        obtain ⟨⟨m0, m1, m2, m3⟩, _, mz⟩ := (H8.out.2.1.call hSw).facts
        have hF := H8.out.2.2.1.call hSw
        obtain ⟨q0, q1, q2, q3⟩ := hF.1.facts
        obtain ⟨r0, r1, r2, r3⟩ := hF.gap
        have rz := hF.2.2
        obtain ⟨⟨d0, d1, d2, d3⟩, dz⟩ := HD.out _ (below_call0 H8.out.2.2.2.2 hSw)
        clear hSw hF
        go_simp
        try with_reducible rfl
      simp only [Act.put, List.setIfInBounds_toArray, List.set_cons_zero, List.set_cons_succ]
      refine wpAnyN_take (i := 2) (oi := ?o2) (v := ?v2) ?hi2 (by kernel_rfl) (by kernel_rfl) (by kernel_rfl) (by kernel_rfl) (by decide) (by kernel_rfl) ?hQ2 ?hy2 (Below.drew (Below.refl _ _)) ?more2
      case hi2 => rw [List.getElem?_toArray]; exact rfl
      case hQ2 => exact fun _ _ _ h => h
      case hy2 =>
        refine Or.inl ⟨by rfl, ?_⟩
        intro w' hSw
        obtain ⟨⟨o0, o1, o2, o3⟩, _, oz⟩ := (H8.out.1.call hSw).facts
        obtain ⟨⟨m0, m1, m2, m3⟩, _, mz⟩ := (H8.out.2.1.call hSw).facts
        have hF := H8.out.2.2.1.call hSw
        obtain ⟨q0, q1, q2, q3⟩ := hF.1.facts
        obtain ⟨r0, r1, r2, r3⟩ := hF.gap
        have rz := hF.2.2
        obtain ⟨⟨d0, d1, d2, d3⟩, dz⟩ := HD.out _ (below_call0 H8.out.2.2.2.2 hSw)
        clear hSw hF
        go_simp
        try with_reducible rfl
      simp only [Act.put, List.setIfInBounds_toArray, List.set_cons_zero, List.set_cons_succ]
      refine wpAnyN_take (i := 3) (oi := ?o3) (v := ?v3) ?hi3 (by kernel_rfl) (by kernel_rfl) (by kernel_rfl) (by kernel_rfl) (by decide) (by kernel_rfl) ?hQ3 ?hy3 (Below.drew (Below.refl _ _)) ?more3
      case hi3 => rw [List.getElem?_toArray]; exact rfl
      case hQ3 => exact fun _ _ _ h => h
      case hy3 =>
        refine Or.inl ⟨by rfl, ?_⟩
        intro w' hSw
        obtain ⟨⟨o0, o1, o2, o3⟩, _, oz⟩ := (H8.out.1.call hSw).facts
        obtain ⟨⟨m0, m1, m2, m3⟩, _, mz⟩ := (H8.out.2.1.call hSw).facts
        have hF := H8.out.2.2.1.call hSw
        obtain ⟨q0, q1, q2, q3⟩ := hF.1.facts
        obtain ⟨r0, r1, r2, r3⟩ := hF.gap
        have rz := hF.2.2
        obtain ⟨⟨d0, d1, d2, d3⟩, dz⟩ := HD.out _ (below_call0 H8.out.2.2.2.2 hSw)
        clear hSw hF
        go_simp
        try with_reducible rfl
      simp only [Act.put, List.setIfInBounds_toArray, List.set_cons_zero, List.set_cons_succ]
      refine wpAnyN_takeF (i := 4) (oi := ?o4) (v := ?v4) ?hi4 (by kernel_rfl) (by kernel_rfl) (by kernel_rfl) (by decide) ?hQ4 ?hy4 (Below.drew (Below.refl _ _)) ?more4
      case hi4 => rw [List.getElem?_toArray]; exact rfl
      case hQ4 => exact fun _ _ _ h => h
      case hy4 =>
        refine Or.inl ⟨by rfl, ?_⟩
        intro w' hSw
        clear hSw
        go_simp
        try with_reducible rfl
      simp only [Act.put, List.setIfInBounds_toArray, List.set_cons_zero, List.set_cons_succ]
      refine wpAnyN_takeF (i := 5) (oi := ?o5) (v := ?v5) ?hi5 (by kernel_rfl) (by kernel_rfl) (by kernel_rfl) (by decide) ?hQ5 ?hy5 (Below.drew (Below.refl _ _)) ?more5
      case hi5 => rw [List.getElem?_toArray]; exact rfl
      case hQ5 => exact fun _ _ _ h => h
      case hy5 =>
        refine Or.inl ⟨by rfl, ?_⟩
        intro w' hSw
        clear hSw
        go_simp
        try with_reducible rfl
      simp only [Act.put, List.setIfInBounds_toArray, List.set_cons_zero, List.set_cons_succ]
      refine wpAnyN_takeF (i := 6) (oi := ?o6) (v := ?v6) ?hi6 (by kernel_rfl) (by kernel_rfl) (by kernel_rfl) (by decide) ?hQ6 ?hy6 (Below.drew (Below.refl _ _)) ?more6
      case hi6 => rw [List.getElem?_toArray]; exact rfl
      case hQ6 => exact fun _ _ _ h => h
      case hy6 =>
        refine Or.inl ⟨by rfl, ?_⟩
        intro w' hSw
        clear hSw
        go_simp
        try with_reducible rfl
      simp only [Act.put, List.setIfInBounds_toArray, List.set_cons_zero, List.set_cons_succ]
      refine wpAnyN_take (i := 7) (oi := ?o7) (v := ?v7) ?hi7 (by kernel_rfl) (by kernel_rfl) (by kernel_rfl) (by kernel_rfl) (by decide) (by kernel_rfl) ?hQ7 ?hy7 (Below.drew (Below.refl _ _)) ?more7
      case hi7 => rw [List.getElem?_toArray]; exact rfl
      case hQ7 => exact fun _ _ _ h => h
      case hy7 =>
        refine Or.inl ⟨by rfl, ?_⟩
        intro w' hSw
        obtain ⟨⟨o0, o1, o2, o3⟩, _, oz⟩ := (H8.out.1.call hSw).facts
        obtain ⟨⟨m0, m1, m2, m3⟩, _, mz⟩ := (H8.out.2.1.call hSw).facts
        have hF := H8.out.2.2.1.call hSw
        obtain ⟨q0, q1, q2, q3⟩ := hF.1.facts
        obtain ⟨r0, r1, r2, r3⟩ := hF.gap
        have rz := hF.2.2
        obtain ⟨⟨d0, d1, d2, d3⟩, dz⟩ := HD.out _ (below_call0 H8.out.2.2.2.2 hSw)
        clear hSw hF
        go_simp
        try with_reducible rfl
      simp only [Act.put, List.setIfInBounds_toArray, List.set_cons_zero, List.set_cons_succ]
      refine wpAnyN_one (i := 8) (o := ?o8) (by kernel_rfl) ?hi8 ?hw8 ?st8
      case hi8 => rw [List.getElem?_toArray]; exact rfl
      case hw8 => exact rfl
      intro K hK
      have HK8 : Hid _ := hK
      clear hK
      go_simp
      refine (KT.out _).mono ?_
      rintro e w9 ⟨rfl, hq⟩
      have H9 : Hid (Below w8.heap.size w8 w9) := below_call0 (Below.drew (Below.refl _ _)) hq
      clear hq
      go_wp2_with fail
      refine HK8.out _ _ ⟨fun _ => H9.out, ?_⟩
      clear HK8 K
      try simp only [Act.put, List.setIfInBounds_toArray, List.set_cons_zero, List.set_cons_succ]
      refine wpAnyN_one (i := 9) (o := ?o9) (by kernel_rfl) ?hi9 ?hw9 ?st9
      case hi9 => rw [List.getElem?_toArray]; exact rfl
      case hw9 => exact rfl
      intro K hK
      have HK9 : Hid _ := hK
      clear hK
      go_simp
      refine (KP.out _).mono ?_
      rintro e w10 ⟨rfl, hq⟩
      have H10 : Hid (Below w8.heap.size w8 w10) := below_call0 H9.out hq
      obtain ⟨⟨o0, o1, o2, o3⟩, ⟨f0, f1, f2, f3⟩, oz⟩ := (H8.out.1.call H10.out).facts
      clear hq
      go_wp2_with fail
      refine HK9.out _ _ ⟨fun _ => H10.out, ?_⟩
      clear HK9 K
      try simp only [Act.put, List.setIfInBounds_toArray, List.set_cons_zero, List.set_cons_succ]
      refine wpAnyN_one (i := 10) (o := ?o10) (by kernel_rfl) ?hi10 ?hw10 ?st10
      case hi10 => rw [List.getElem?_toArray]; exact rfl
      case hw10 => exact rfl
      intro K hK
      have HK10 : Hid _ := hK
      clear hK
      go_simp
      refine HK10.out _ _ ⟨fun h => absurd h (by decide +kernel), ?_⟩
      clear HK10 K
      try simp only [Act.put, List.setIfInBounds_toArray, List.set_cons_zero, List.set_cons_succ]
      refine wpAnyN_done (by kernel_rfl) ?_ _
      have HE : Hid (Own4 ((((w10.setCell ⟨w5.heap.size, 0, none⟩ (.int .u64 (limb u 0 : Nat))).setCell ⟨w5.heap.size, 1, none⟩ (.int .u64 (limb u 1 : Nat))).setCell ⟨w5.heap.size, 2, none⟩ (.int .u64 (limb u 2 : Nat))).setCell ⟨w5.heap.size, 3, none⟩ (.int .u64 (limb u 3 : Nat))) w5.heap.size (joK (fun i => s[i]?.getD 0) (wAt l x) (k + 1)) ∧ Below w5.heap.size w5 ((((w10.setCell ⟨w5.heap.size, 0, none⟩ (.int .u64 (limb u 0 : Nat))).setCell ⟨w5.heap.size, 1, none⟩ (.int .u64 (limb u 1 : Nat))).setCell ⟨w5.heap.size, 2, none⟩ (.int .u64 (limb u 2 : Nat))).setCell ⟨w5.heap.size, 3, none⟩ (.int .u64 (limb u 3 : Nat)))) := by
        refine ⟨?_, ?_⟩
        · rw [← HU.out]; exact (H8.out.1.call H10.out).put
        · exact Below.setCell (Below.setCell (Below.setCell (Below.setCell (below_call0 H8.out.2.2.2.1 H10.out) (Nat.le_refl _) _) (Nat.le_refl _) _) (Nat.le_refl _) _) (Nat.le_refl _) _
      clear o0 o1 o2 o3 f0 f1 f2 f3 oz
      go_wp2_with fail
      go_roundw
      case rel => first | exact ⟨k + 1, hlt, by go_num, HE.out⟩ | ((repeat apply Exists.intro); exact ⟨⟨k + 1, hlt, by go_num, HE.out⟩, rfl⟩)
      case measure => simp [intOf]; omega
    · obtain rfl : k = n := by omega
      have hnl : ¬ ((k : Int) < (k : Int)) := Int.lt_irrefl _
      have HVV : Hid (v = V) := by rw [HR.out.2.2, HV.out.1]; unfold joV; rw [← H0.out.2.2.1]; rfl
      clear hlt hk
      go_wp2_with fail
      refine HKr.out _ _ ?_
      clear HKr
      obtain ⟨⟨o0, o1, o2, o3⟩, _, oz⟩ := HR.out.1.facts
      rw [HVV.out] at o0 o1 o2 o3
      obtain ⟨⟨s0, s1, s2, s3⟩, ⟨t0, t1, t2, t3⟩, sz⟩ := (H5.out.2.1.call HR.out.2.1).facts
      go_wp2_with fail
      refine bodyPost_ret (v := .tuple #[.agg #[.int .u64 (limb (V) 0 : Nat), .int .u64 (limb (V) 1 : Nat), .int .u64 (limb (V) 2 : Nat), .int .u64 (limb (V) 3 : Nat)], .int .i64 0]) ?_ rfl ⟨rfl, ?_⟩
      · simp [results, Tryd.results19, go_sem, s0, s1, s2, s3]
      · have HW := below_call0 H5.out.1 HR.out.2.1
        ((repeat' (first | with_reducible exact HW | with_reducible exact Below.refl _ _ | exact (And.left (by assumption)) | with_reducible refine Below.setCell ?_ ?_ _ | with_reducible refine below_alloc0 ?_ _ | with_reducible refine below_drewN ?_ _ | with_reducible refine Below.drew ?_ | refine below_call0 ?_ (by assumption))) <;> (first | omega | (simp; done) | (simp; omega)))
end Go.Proofs.YtcdiehnkknmbeaaDoor
