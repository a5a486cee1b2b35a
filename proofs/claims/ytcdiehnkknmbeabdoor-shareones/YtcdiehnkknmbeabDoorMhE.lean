/- Several texts laid together. -/
import Derived.Test.YtcdiehnkknmbeabDoorMhD
namespace Go.Proofs.YtcdiehnkknmbeabDoor
open Go Go.RowKit Go.Lib

/-- The i'th node's weight for x. -/
def wAt (l : List Int) (x i : Nat) : Nat := cwN QQ x (l[i]?.getD 0).toNat (othI l i)
def wsL (l : List Int) (x : Nat) : List Nat := (List.range l.length).map (wAt l x)
theorem wsL_length (l : List Int) (x : Nat) : (wsL l x).length = l.length := by simp [wsL]
theorem wsL_get (l : List Int) (x j : Nat) (hj : j < (wsL l x).length) : ((wsL l x)[j]'hj) = wAt l x j := by simp [wsL]
theorem wAt_lt (l : List Int) (x i : Nat) : wAt l x i < QQ := Nat.mod_lt _ QQ_pos
theorem few_nodes : ∀ (m : Nat) (l : List Int), l.Nodup → (∀ z ∈ l, 1 ≤ z ∧ z ≤ (m : Int)) → l.length ≤ m
  | 0, l, _, h => by
    cases l with
    | nil => exact Nat.le_refl _
    | cons z l => have := h z List.mem_cons_self; omega
  | m + 1, l, hd, h => by
    have h1 := few_nodes m (l.erase ((m + 1 : Nat) : Int)) (hd.erase _) (fun z hz => by
      have h2 := (hd.mem_erase_iff).1 hz
      have h3 := h z h2.2
      have h4 := h2.1
      omega)
    have h5 := List.length_erase (a := ((m + 1 : Nat) : Int)) (l := l)
    split at h5 <;> omega
theorem nodes_short {l : List Int} (h : NodesP l) : l.length ≤ 10 := few_nodes 10 l h.2 (fun z hz => h.1 z hz)
theorem nodes_ok {l : List Int} (h : nodesOk l = true) : NodesP l ∧ 0 < l.length := of_decide_eq_true h
set_option maxRecDepth 100000 in
set_option maxHeartbeats 8000000 in
theorem weights_bad (a : Option Addr) (l : List Int) (c x : Nat) (hl : l.length ≤ 17592186044416) (hb : nodesOk l = false) (w : World) (hG : GlobQ w) (hN : IntsAt w a l) :
    Calls Tryd.prog 8 #[.slice a l.length c, .agg #[.int .u64 (limb (x) 0 : Nat), .int .u64 (limb (x) 1 : Nat), .int .u64 (limb (x) 2 : Nat), .int .u64 (limb (x) 3 : Nat)]] w fun e w' => e = .returned (.tuple #[.slice none 0 0, .int .i64 1]) ∧ Below w.heap.size w w' := by
  have k1 := fun w hN => areNodes_any a l c hl w hN
  rw [hb] at k1
  obtain ⟨n, hn⟩ : ∃ n, n = l.length := ⟨_, rfl⟩
  rw [← hn] at k1
  rw [← hn]
  have K1 : Hid _ := k1
  have H0 : Hid (GlobQ w ∧ IntsAt w a l ∧ n = l.length) := ⟨hG, hN, hn⟩
  have HB : Hid (Below w.heap.size w (w.alloc (.cells #[.int .u64 (limb x 0 : Nat), .int .u64 (limb x 1 : Nat), .int .u64 (limb x 2 : Nat), .int .u64 (limb x 3 : Nat)] 25)) ∧ Own4 (w.alloc (.cells #[.int .u64 (limb x 0 : Nat), .int .u64 (limb x 1 : Nat), .int .u64 (limb x 2 : Nat), .int .u64 (limb x 3 : Nat)] 25)) w.heap.size x) := ⟨below_alloc0 (Below.refl _ _) _, Own4.new _ _ _⟩
  clear hn hl hG hN k1 hb
  go_enter Tryd.func8, Tryd.ntmps8
  go_wp2_with fail
  refine (K1.out _ (H0.out.2.1.call HB.out.1)).mono ?_
  rintro e w1 ⟨rfl, hb1⟩
  have H1 : Hid (Below w.heap.size w w1 ∧ Own4 w1 w.heap.size x) := ⟨below_call0 HB.out.1 hb1, HB.out.2.call hb1⟩
  clear hb1 K1 HB
  go_wp2_with fail
  go_ret2
  exact ⟨rfl, H1.out.1⟩
set_option maxRecDepth 100000 in
set_option maxHeartbeats 8000000 in
theorem weights_x (a : Option Addr) (l : List Int) (c x : Nat) (hl : l.length ≤ 17592186044416) (hxR : x < R256) (hb : nodesOk l = true) (hx : ¬ x < QQ) (w : World) (hG : GlobQ w) (hN : IntsAt w a l) :
    Calls Tryd.prog 8 #[.slice a l.length c, .agg #[.int .u64 (limb (x) 0 : Nat), .int .u64 (limb (x) 1 : Nat), .int .u64 (limb (x) 2 : Nat), .int .u64 (limb (x) 3 : Nat)]] w fun e w' => e = .returned (.tuple #[.slice none 0 0, .int .i64 20]) ∧ Below w.heap.size w w' := by
  have k1 := fun w hN => areNodes_any a l c hl w hN
  rw [hb] at k1
  have K3 : Hid _ := fun (b : Option Addr) (w : World) (hG : GlobQ w) (hN : Nums w b [x]) => check_not b [x] 1 (by simp) (by simpa using hxR) (by rw [allQ_one]; exact decide_eq_false hx) w hG hN
  obtain ⟨n, hn⟩ : ∃ n, n = l.length := ⟨_, rfl⟩
  rw [← hn] at k1
  rw [← hn]
  have K1 : Hid _ := k1
  have H0 : Hid (GlobQ w ∧ IntsAt w a l ∧ n = l.length) := ⟨hG, hN, hn⟩
  have HB : Hid (Below w.heap.size w (w.alloc (.cells #[.int .u64 (limb x 0 : Nat), .int .u64 (limb x 1 : Nat), .int .u64 (limb x 2 : Nat), .int .u64 (limb x 3 : Nat)] 25)) ∧ Own4 (w.alloc (.cells #[.int .u64 (limb x 0 : Nat), .int .u64 (limb x 1 : Nat), .int .u64 (limb x 2 : Nat), .int .u64 (limb x 3 : Nat)] 25)) w.heap.size x) := ⟨below_alloc0 (Below.refl _ _) _, Own4.new _ _ _⟩
  clear hn hl hG hN k1 hb hx hxR
  go_enter Tryd.func8, Tryd.ntmps8
  go_wp2_with fail
  refine (K1.out _ (H0.out.2.1.call HB.out.1)).mono ?_
  rintro e w1 ⟨rfl, hb1⟩
  have H1 : Hid (Below w.heap.size w w1 ∧ Own4 w1 w.heap.size x) := ⟨below_call0 HB.out.1 hb1, HB.out.2.call hb1⟩
  clear hb1 K1 HB
  obtain ⟨⟨p0, p1, p2, p3⟩, ⟨f0, f1, f2, f3⟩, pz⟩ := H1.out.2.facts
  go_wp2_with fail
  refine (K3.out _ _ (H0.out.1.call (below_alloc0 H1.out.1 _)) (Nums.one' rfl)).mono ?_
  rintro e w3 ⟨rfl, hb3⟩
  have H3 : Hid (Below w.heap.size w w3) := below_call0 (below_alloc0 H1.out.1 _) hb3
  clear hb3 p0 p1 p2 p3 f0 f1 f2 f3 pz
  go_wp2_with fail
  go_ret2
  exact ⟨rfl, H3.out⟩
set_option maxRecDepth 100000 in
set_option maxHeartbeats 8000000 in
theorem weights_in (a : Option Addr) (l : List Int) (c x : Nat) (hl : l.length ≤ 17592186044416) (hb : nodesOk l = true) (hx : x < QQ) (w : World) (hG : GlobQ w) (hN : IntsAt w a l) :
    Calls Tryd.prog 8 #[.slice a l.length c, .agg #[.int .u64 (limb (x) 0 : Nat), .int .u64 (limb (x) 1 : Nat), .int .u64 (limb (x) 2 : Nat), .int .u64 (limb (x) 3 : Nat)]] w fun e w' => ∃ b, e = .returned (.tuple #[.slice (some ⟨b, 0, none⟩) l.length l.length, .int .i64 0]) ∧ Nums w' (some ⟨b, 0, none⟩) (wsL l x) ∧ w.heap.size ≤ b ∧ Below w.heap.size w w' := by
  have k1 := fun w hN => areNodes_any a l c hl w hN
  rw [hb] at k1
  have hP := (nodes_ok hb).1
  have h10 := nodes_short hP
  have K3 : Hid _ := fun (b : Option Addr) (w : World) (hG : GlobQ w) (hN : Nums w b [x]) => check_yes b [x] 1 (by simp) (by rw [allQ_one]; exact decide_eq_true hx) w hG hN
  have K4 : Hid _ := fun w h => reckoner_any w h
  have kw : ∀ (g i : Nat) (hi : i < l.length) (w : World), FieldB w g QQ → IntsAt w a l → Calls Tryd.prog 19 #[.agg #[.pointer (some ⟨g, 0, none⟩)], .slice a l.length c, .int .i64 (i : Nat), .agg #[.int .u64 (limb (x) 0 : Nat), .int .u64 (limb (x) 1 : Nat), .int .u64 (limb (x) 2 : Nat), .int .u64 (limb (x) 3 : Nat)]] w fun e w' => e = .returned (.agg #[.int .u64 (limb (wAt l x i) 0 : Nat), .int .u64 (limb (wAt l x i) 1 : Nat), .int .u64 (limb (wAt l x i) 2 : Nat), .int .u64 (limb (wAt l x i) 3 : Nat)]) ∧ Below w.heap.size w w' := fun g i hi w h1 h2 => by
    have hz := hP.1 _ (List.getElem_mem hi)
    have e : l[i]?.getD 0 = (l[i]'hi) := by rw [List.getElem?_eq_getElem hi]; rfl
    unfold wAt
    rw [e]
    exact weight_any g i x a l c _ h10 hi hP (by omega) hx w h1 h2
  obtain ⟨n, hn⟩ : ∃ n, n = l.length := ⟨_, rfl⟩
  rw [← hn] at k1
  rw [← hn]
  have K1 : Hid _ := k1
  have H0 : Hid (GlobQ w ∧ IntsAt w a l ∧ n = l.length) := ⟨hG, hN, hn⟩
  have HB : Hid (Below w.heap.size w (w.alloc (.cells #[.int .u64 (limb x 0 : Nat), .int .u64 (limb x 1 : Nat), .int .u64 (limb x 2 : Nat), .int .u64 (limb x 3 : Nat)] 25)) ∧ Own4 (w.alloc (.cells #[.int .u64 (limb x 0 : Nat), .int .u64 (limb x 1 : Nat), .int .u64 (limb x 2 : Nat), .int .u64 (limb x 3 : Nat)] 25)) w.heap.size x) := ⟨below_alloc0 (Below.refl _ _) _, Own4.new _ _ _⟩
  have hnk : n ≤ 10 := by omega
  have kw' : ∀ (g i : Nat) (_ : i < l.length) (w : World), FieldB w g QQ → IntsAt w a l → Calls Tryd.prog 19 #[.agg #[.pointer (some ⟨g, 0, none⟩)], .slice a n c, .int .i64 (i : Nat), .agg #[.int .u64 (limb (x) 0 : Nat), .int .u64 (limb (x) 1 : Nat), .int .u64 (limb (x) 2 : Nat), .int .u64 (limb (x) 3 : Nat)]] w fun e w' => e = .returned (.agg #[.int .u64 (limb (wAt l x i) 0 : Nat), .int .u64 (limb (wAt l x i) 1 : Nat), .int .u64 (limb (wAt l x i) 2 : Nat), .int .u64 (limb (wAt l x i) 3 : Nat)]) ∧ Below w.heap.size w w' := by rw [hn]; exact kw
  have KW : Hid _ := kw'
  have HMK : Hid (n ≤ 1000000) := by unfold Hid; omega
  have hmk : ∀ w, (Instr.makeSlice 34 (.int .i64 (n : Int)) (.int .i64 (n : Int))).run Tryd.prog w = .ok (.slice (some ⟨w.heap.size, 0, none⟩) n n) (w.alloc (.cells (madeN n) 25)) := fun w => make_run n (by omega) w
  have n10 : (n : Int) ≤ 10 := by omega
  clear hn hl hG hN k1 hb hx hP h10 kw kw' hnk
  go_enter Tryd.func8, Tryd.ntmps8
  go_wp2_with fail
  refine (K1.out _ (H0.out.2.1.call HB.out.1)).mono ?_
  rintro e w1 ⟨rfl, hb1⟩
  have H1 : Hid (Below w.heap.size w w1 ∧ Own4 w1 w.heap.size x) := ⟨below_call0 HB.out.1 hb1, HB.out.2.call hb1⟩
  clear hb1 K1 HB
  obtain ⟨⟨p0, p1, p2, p3⟩, ⟨f0, f1, f2, f3⟩, pz⟩ := H1.out.2.facts
  go_wp2_with fail
  refine (K3.out _ _ (H0.out.1.call (below_alloc0 H1.out.1 _)) (Nums.one' rfl)).mono ?_
  rintro e w3 ⟨rfl, hb3⟩
  have H3 : Hid (Below w.heap.size w w3 ∧ Own4 w3 w.heap.size x) := ⟨below_call0 (below_alloc0 H1.out.1 _) hb3, H1.out.2.call (below_call0 (below_alloc0 (Below.refl _ _) _) hb3)⟩
  clear hb3 p0 p1 p2 p3 f0 f1 f2 f3 pz
  go_wp2_with fail
  refine (K4.out _ (H0.out.1.call H3.out.1)).mono ?_
  rintro e w4 ⟨g, rfl, hFB, hb4⟩
  obtain ⟨w5, hw5⟩ : ∃ y, y = w4.alloc (.cells #[.pointer (some ⟨g, 0, none⟩)] 50) := ⟨_, rfl⟩
  have H5 : Hid (Below w.heap.size w w5 ∧ Own4 w5 w.heap.size x ∧ Ptr1 w5 w4.heap.size g ∧ FieldB w5 g QQ) := by
    rw [hw5]
    exact ⟨below_alloc0 (below_call0 H3.out.1 hb4) _, (H3.out.2.call hb4).alloc, Ptr1.new _ _ _, hFB.alloc⟩
  have HZ5 : Hid (w4.heap.size + 1 = w5.heap.size ∧ w5 = w4.alloc (.cells #[.pointer (some ⟨g, 0, none⟩)] 50)) := ⟨by rw [hw5]; simp, hw5⟩
  clear hb4 hFB H3 hw5
  go_wp2_with fail
  clear hmk
  rw [← HZ5.out.2]
  try rw [HZ5.out.1]
  clear HZ5
  obtain ⟨w6, hw6⟩ : ∃ y, y = w5.alloc (.cells (madeN n) 25) := ⟨_, rfl⟩
  have H6 : Hid (Below w5.heap.size w5 w6 ∧ TabN w6 w5.heap.size n (fun _ => 0)) := by
    rw [hw6]
    exact ⟨below_alloc0 (Below.refl _ _) _, TabN.made _ _ _⟩
  rw [← hw6]
  clear hw6
  rename_i Kr hKr
  have HKr : Hid _ := hKr
  clear hKr
  go_loopw [25] (fun iv wr => ∃ k : Nat, k ≤ n ∧ iv = .int .i64 (k : Nat) ∧ ∃ f : Nat → Nat, TabN wr w5.heap.size n f ∧ (∀ j, j < k → f j = wAt l x j) ∧ Below w5.heap.size w5 wr) (fun iv _ => n - (Go.RowKit.intOf iv).toNat)
  case atStart => exact ⟨0, Nat.zero_le _, rfl, _, H6.out.2, fun j c => absurd c (Nat.not_lt_zero _), H6.out.1⟩
  case round =>
    obtain ⟨k, hk, rfl, f, hT, hf, hB⟩ := hrel
    rename World => wr
    have HR : Hid (TabN wr w5.heap.size n f ∧ (∀ j, j < k → f j = wAt l x j) ∧ Below w5.heap.size w5 wr) := ⟨hT, hf, hB⟩
    clear hT hf hB
    by_cases hlt : k < n
    · clear HKr
      have hkl : k < l.length := by rw [← H0.out.2.2]; exact hlt
      have hlt' : (k : Int) < (n : Int) := Int.ofNat_lt.2 hlt
      obtain ⟨v, hv⟩ : ∃ v, v = wAt l x k := ⟨_, rfl⟩
      have KV : Hid (∀ w, FieldB w g QQ → IntsAt w a l → Calls Tryd.prog 19 #[.agg #[.pointer (some ⟨g, 0, none⟩)], .slice a n c, .int .i64 (k : Nat), .agg #[.int .u64 (limb (x) 0 : Nat), .int .u64 (limb (x) 1 : Nat), .int .u64 (limb (x) 2 : Nat), .int .u64 (limb (x) 3 : Nat)]] w fun e w' => e = .returned (.agg #[.int .u64 (limb (v) 0 : Nat), .int .u64 (limb (v) 1 : Nat), .int .u64 (limb (v) 2 : Nat), .int .u64 (limb (v) 3 : Nat)]) ∧ Below w.heap.size w w') := fun w h1 h2 => by rw [hv]; exact KW.out g k hkl w h1 h2
      have HV : Hid (v = wAt l x k) := hv
      clear hv
      obtain ⟨⟨x0, x1, x2, x3⟩, _, xz⟩ := (H5.out.2.1.call HR.out.2.2).facts
      obtain ⟨r0, rz⟩ := H5.out.2.2.1.call HR.out.2.2
      go_wp2_with fail
      refine (KV.out _ (H5.out.2.2.2.call HR.out.2.2) ((H0.out.2.1.call H5.out.1).call HR.out.2.2)).mono ?_
      rintro e w7 ⟨rfl, hb7⟩
      have H7 : Hid (TabN w7 w5.heap.size n f ∧ Below w5.heap.size w5 w7) := ⟨HR.out.1.call hb7, below_call0 HR.out.2.2 hb7⟩
      clear hb7 x0 x1 x2 x3 xz r0 rz
      obtain ⟨⟨t0, t1, t2, t3⟩, g0, g1, g2, g3⟩ := H7.out.1.at k hlt
      have tz := H7.out.1.2.2
      have HE : Hid (TabN ((((w7.setCell ⟨w5.heap.size, k * 4, none⟩ (.int .u64 (limb v 0 : Nat))).setCell ⟨w5.heap.size, k * 4 + 1, none⟩ (.int .u64 (limb v 1 : Nat))).setCell ⟨w5.heap.size, k * 4 + 2, none⟩ (.int .u64 (limb v 2 : Nat))).setCell ⟨w5.heap.size, k * 4 + 3, none⟩ (.int .u64 (limb v 3 : Nat))) w5.heap.size n (fun j => if j = k then v else f j) ∧ (∀ j, j < k + 1 → (fun j => if j = k then v else f j) j = wAt l x j) ∧ Below w5.heap.size w5 ((((w7.setCell ⟨w5.heap.size, k * 4, none⟩ (.int .u64 (limb v 0 : Nat))).setCell ⟨w5.heap.size, k * 4 + 1, none⟩ (.int .u64 (limb v 1 : Nat))).setCell ⟨w5.heap.size, k * 4 + 2, none⟩ (.int .u64 (limb v 2 : Nat))).setCell ⟨w5.heap.size, k * 4 + 3, none⟩ (.int .u64 (limb v 3 : Nat)))) := by
        refine ⟨H7.out.1.put k v hlt, fun j hj => ?_, Below.setCell (Below.setCell (Below.setCell (Below.setCell H7.out.2 (Nat.le_refl _) _) (Nat.le_refl _) _) (Nat.le_refl _) _) (Nat.le_refl _) _⟩
        show (if j = k then v else f j) = _
        by_cases e : j = k
        · rw [if_pos e, e]; exact HV.out
        · rw [if_neg e]; exact HR.out.2.1 j (by omega)
      go_wp2_with fail
      go_roundw
      case rel => first | exact ⟨k + 1, hlt, by go_num, _, HE.out⟩ | ((repeat apply Exists.intro); exact ⟨⟨k + 1, hlt, by go_num, _, HE.out⟩, rfl⟩)
      case measure => simp [intOf]; omega
    · obtain rfl : k = n := by omega
      have hnl : ¬ ((k : Int) < (k : Int)) := Int.lt_irrefl _
      have HF : Hid (Nums wr (some ⟨w5.heap.size, 0, none⟩) (wsL l x)) := by
        have hT := HR.out.1
        have e : k = (wsL l x).length := by rw [wsL_length]; exact H0.out.2.2
        rw [e] at hT
        refine hT.nums fun j hj => ?_
        rw [wsL_get]
        exact HR.out.2.1 j (by rw [e]; exact hj)
      clear hlt hk
      go_wp2_with fail
      refine HKr.out _ _ ?_
      clear HKr
      go_wp2_with fail
      go_ret2
      exact ⟨_, rfl, HF.out, H5.out.1.size, below_call0 H5.out.1 HR.out.2.2⟩
end Go.Proofs.YtcdiehnkknmbeabDoor

namespace Go.Proofs.YtcdiehnkknmbeabDoor
open Go Go.RowKit Go.Lib

def foI (l : List Int) (z : Int) : List Nat := (l.filter fun o => decide (o ≠ z)).map Int.toNat
theorem erase_filter : ∀ (l : List Int) (i : Nat) (hi : i < l.length), l.Nodup → l.eraseIdx i = l.filter fun o => decide (o ≠ (l[i]'hi))
  | [], i, hi, _ => by simp at hi
  | z :: l, 0, _, hd => by
    have hd' := List.nodup_cons.1 hd
    have e : (z :: l).filter (fun o => decide (o ≠ z)) = l.filter (fun o => decide (o ≠ z)) := by rw [List.filter_cons]; simp
    show l = (z :: l).filter fun o => decide (o ≠ z)
    rw [e, List.filter_eq_self.2]
    exact fun a ha => decide_eq_true fun c => hd'.1 (c ▸ ha)
  | z :: l, i + 1, hi, hd => by
    have hd' := List.nodup_cons.1 hd
    have hi' : i < l.length := by simpa using hi
    have ih := erase_filter l i hi' hd'.2
    show z :: l.eraseIdx i = (z :: l).filter fun o => decide (o ≠ (l[i]'hi'))
    have hne : z ≠ (l[i]'hi') := fun c => hd'.1 (by rw [c]; exact List.getElem_mem hi')
    rw [List.filter_cons, if_pos (by simpa using hne), ← ih]
theorem othI_fo {l : List Int} {i : Nat} (hi : i < l.length) (hd : l.Nodup) : othI l i = foI l (l[i]'hi) := by
  unfold othI foI
  rw [erase_filter l i hi hd]
theorem foI_mem {l : List Int} {z : Int} (h : NodesP l) : ∀ o ∈ foI l z, o ≤ QQ := fun o ho => by
  obtain ⟨a, ha, rfl⟩ := List.mem_map.1 ho
  have := h.1 a (List.mem_filter.1 ha).1
  exact Nat.le_trans (show a.toNat ≤ 10 by omega) (by decide)
theorem wAt_ref {l : List Int} {x i : Nat} (hi : i < l.length) (hP : NodesP l) : wAt l x i = rwN QQ x (l[i]'hi).toNat 1 (foI l (l[i]'hi)) := by
  unfold wAt
  have e : l[i]?.getD 0 = (l[i]'hi) := by rw [List.getElem?_eq_getElem hi]; rfl
  rw [e, othI_fo hi hP.2]
  exact weights_same QQ x _ QQ_pos _ (foI_mem hP) FM_Q.pos
def rwF (x n o w : Nat) : Nat := w * (subM QQ x o * (subM QQ n o ^ (QQ - 2) % QQ) % QQ) % QQ
theorem rwN_snoc (x n o : Nat) : ∀ (os : List Nat) (w : Nat), rwN QQ x n w (os ++ [o]) = rwF x n o (rwN QQ x n w os)
  | [], _ => rfl
  | p :: os, w => rwN_snoc x n o os (w * ((x + QQ - p) % QQ * (((n + QQ - p) % QQ) ^ (QQ - 2) % QQ) % QQ) % QQ)
theorem foI_same {l : List Int} {j : Nat} (hj : j < l.length) : foI (l.take (j + 1)) (l[j]'hj) = foI (l.take j) (l[j]'hj) := by
  unfold foI
  rw [List.take_succ_eq_append_getElem hj, List.filter_append]
  simp
theorem foI_other {l : List Int} {j : Nat} {z : Int} (hj : j < l.length) (h : (l[j]'hj) ≠ z) : foI (l.take (j + 1)) z = foI (l.take j) z ++ [(l[j]'hj).toNat] := by
  unfold foI
  rw [List.take_succ_eq_append_getElem hj, List.filter_append, List.map_append]
  simp [h]
theorem rwN_lt (x n : Nat) : ∀ (os : List Nat) (w : Nat), w < QQ → rwN QQ x n w os < QQ
  | [], _, h => h
  | _ :: os, _, _ => rwN_lt x n os _ (Nat.mod_lt _ QQ_pos)
end Go.Proofs.YtcdiehnkknmbeabDoor

namespace Go.Proofs.YtcdiehnkknmbeabDoor
open Go Go.RowKit Go.Lib

/-- The sum of shares times weights, as the code reckons it. -/
def joK (s w : Nat → Nat) : Nat → Nat
  | 0 => 0
  | k + 1 => (joK s w k + s k * w k % QQ) % QQ
theorem joK_lt (s w : Nat → Nat) (k : Nat) : joK s w k < QQ := by
  cases k with
  | zero => exact QQ_pos
  | succ k => exact Nat.mod_lt _ QQ_pos
def joV (l : List Int) (s : List Nat) (x : Nat) : Nat := joK (fun i => s[i]?.getD 0) (wAt l x) l.length
set_option maxRecDepth 100000 in
set_option maxHeartbeats 8000000 in
theorem join_err (a b : Option Addr) (l : List Int) (n c m d x : Nat) (ec : Int) (hec : (ec == 0) = false) (kw : ∀ w, GlobQ w → IntsAt w a l → Calls Tryd.prog 8 #[.slice a n c, .agg #[.int .u64 (limb (x) 0 : Nat), .int .u64 (limb (x) 1 : Nat), .int .u64 (limb (x) 2 : Nat), .int .u64 (limb (x) 3 : Nat)]] w fun e w' => e = .returned (.tuple #[.slice none 0 0, .int .i64 ec]) ∧ Below w.heap.size w w') (w : World) (hG : GlobQ w) (hN : IntsAt w a l) :
    Calls Tryd.prog 15 #[.slice a n c, .slice b m d, .agg #[.int .u64 (limb (x) 0 : Nat), .int .u64 (limb (x) 1 : Nat), .int .u64 (limb (x) 2 : Nat), .int .u64 (limb (x) 3 : Nat)]] w fun e w' => e = .returned (.tuple #[z4, .int .i64 ec]) ∧ Below w.heap.size w w' := by
  have K1 : Hid _ := kw
  have H0 : Hid (GlobQ w ∧ IntsAt w a l) := ⟨hG, hN⟩
  have HB : Hid (Below w.heap.size w ((w.alloc (.cells #[.int .u64 (limb x 0 : Nat), .int .u64 (limb x 1 : Nat), .int .u64 (limb x 2 : Nat), .int .u64 (limb x 3 : Nat)] 25)).alloc (.cells #[.int .u64 0, .int .u64 0, .int .u64 0, .int .u64 0] 25)) ∧ Pend ((w.alloc (.cells #[.int .u64 (limb x 0 : Nat), .int .u64 (limb x 1 : Nat), .int .u64 (limb x 2 : Nat), .int .u64 (limb x 3 : Nat)] 25)).alloc (.cells #[.int .u64 0, .int .u64 0, .int .u64 0, .int .u64 0] 25)) (w.heap.size + 1)) := ⟨below_alloc0 (below_alloc0 (Below.refl _ _) _) _, Pend.new' (by simp)⟩
  clear kw hG hN
  go_enter Tryd.func15, Tryd.ntmps15
  go_wp2_with fail
  refine (K1.out _ (H0.out.1.call HB.out.1) (H0.out.2.call HB.out.1)).mono ?_
  rintro e w1 ⟨rfl, hb1⟩
  obtain ⟨⟨s0, s1, s2, s3⟩, ⟨f0, f1, f2, f3⟩, sz⟩ := (HB.out.2.call hb1).facts
  have HW : Hid (Below w.heap.size w w1) := below_call0 HB.out.1 hb1
  clear hb1 HB K1
  go_wp2_with fail
  refine bodyPost_ret (v := .tuple #[z4, .int .i64 ec]) ?_ rfl ⟨rfl, ?_⟩
  · simp [results, Tryd.results15, go_sem, z4, s0, s1, s2, s3]
  · have HW := HW.out
    ((repeat' (first | with_reducible exact HW | with_reducible exact Below.refl _ _ | exact (And.left (by assumption)) | with_reducible refine Below.setCell ?_ ?_ _ | with_reducible refine below_alloc0 ?_ _ | with_reducible refine below_drewN ?_ _ | with_reducible refine Below.drew ?_ | refine below_call0 ?_ (by assumption))) <;> (first | omega | (simp; done) | (simp; omega)))
set_option maxRecDepth 100000 in
set_option maxHeartbeats 8000000 in
theorem join_len (a b : Option Addr) (l : List Int) (s : List Nat) (c d x : Nat) (hl : l.length ≤ 17592186044416) (hb : nodesOk l = true) (hx : x < QQ) (hm' : s.length ≠ l.length) (w : World) (hG : GlobQ w) (hN : IntsAt w a l) (hS : Nums w b s) :
    Calls Tryd.prog 15 #[.slice a l.length c, .slice b s.length d, .agg #[.int .u64 (limb (x) 0 : Nat), .int .u64 (limb (x) 1 : Nat), .int .u64 (limb (x) 2 : Nat), .int .u64 (limb (x) 3 : Nat)]] w fun e w' => e = .returned (.tuple #[z4, .int .i64 1]) ∧ Below w.heap.size w w' := by
  have k1 := fun w hG hN => weights_in a l c x hl hb hx w hG hN
  obtain ⟨n, hn⟩ : ∃ n, n = l.length := ⟨_, rfl⟩
  obtain ⟨m, hm⟩ : ∃ m, m = s.length := ⟨_, rfl⟩
  rw [← hn] at k1
  have K1 : Hid _ := k1
  rw [← hn, ← hm]
  have H0 : Hid (GlobQ w ∧ IntsAt w a l ∧ Nums w b s ∧ n = l.length ∧ m = s.length) := ⟨hG, hN, hS, hn, hm⟩
  have HB : Hid (Below w.heap.size w ((w.alloc (.cells #[.int .u64 (limb x 0 : Nat), .int .u64 (limb x 1 : Nat), .int .u64 (limb x 2 : Nat), .int .u64 (limb x 3 : Nat)] 25)).alloc (.cells #[.int .u64 0, .int .u64 0, .int .u64 0, .int .u64 0] 25)) ∧ Pend ((w.alloc (.cells #[.int .u64 (limb x 0 : Nat), .int .u64 (limb x 1 : Nat), .int .u64 (limb x 2 : Nat), .int .u64 (limb x 3 : Nat)] 25)).alloc (.cells #[.int .u64 0, .int .u64 0, .int .u64 0, .int .u64 0] 25)) (w.heap.size + 1)) := ⟨below_alloc0 (below_alloc0 (Below.refl _ _) _) _, Pend.new' (by simp)⟩
  have e1 : ((m : Int) == (n : Int)) = false := by simp; omega
  have e2 : ¬ ((m : Int) = (n : Int)) := by omega
  clear hl hb hx hm' hG hN hS k1 hn hm
  go_enter Tryd.func15, Tryd.ntmps15
  go_wp2_with fail
  refine (K1.out _ (H0.out.1.call HB.out.1) (H0.out.2.1.call HB.out.1)).mono ?_
  rintro e w1 ⟨q, rfl, hNu, hq, hb1⟩
  have H1 : Hid (Below w.heap.size w w1 ∧ Pend w1 (w.heap.size + 1) ∧ Nums w1 (some ⟨q, 0, none⟩) (wsL l x)) := ⟨below_call0 HB.out.1 hb1, HB.out.2.call hb1, hNu⟩
  clear hb1 hNu hq HB K1
  obtain ⟨⟨s0, s1, s2, s3⟩, ⟨f0, f1, f2, f3⟩, sz⟩ := (H1.out.2.1).facts
  go_wp2_with fail
  refine bodyPost_ret (v := .tuple #[z4, .int .i64 1]) ?_ rfl ⟨rfl, ?_⟩
  · simp [results, Tryd.results15, go_sem, z4, s0, s1, s2, s3]
  · have HW := H1.out.1
    ((repeat' (first | with_reducible exact HW | with_reducible exact Below.refl _ _ | exact (And.left (by assumption)) | with_reducible refine Below.setCell ?_ ?_ _ | with_reducible refine below_alloc0 ?_ _ | with_reducible refine below_drewN ?_ _ | with_reducible refine Below.drew ?_ | refine below_call0 ?_ (by assumption))) <;> (first | omega | (simp; done) | (simp; omega)))
set_option maxRecDepth 100000 in
set_option maxHeartbeats 8000000 in
theorem join_bad (a b : Option Addr) (l : List Int) (s : List Nat) (c d x : Nat) (hl : l.length ≤ 17592186044416) (hb : nodesOk l = true) (hx : x < QQ) (hm' : s.length = l.length) (hR : ∀ n ∈ s, n < R256) (hq : allQ s = false) (w : World) (hG : GlobQ w) (hN : IntsAt w a l) (hS : Nums w b s) :
    Calls Tryd.prog 15 #[.slice a l.length c, .slice b s.length d, .agg #[.int .u64 (limb (x) 0 : Nat), .int .u64 (limb (x) 1 : Nat), .int .u64 (limb (x) 2 : Nat), .int .u64 (limb (x) 3 : Nat)]] w fun e w' => e = .returned (.tuple #[z4, .int .i64 20]) ∧ Below w.heap.size w w' := by
  have k1 := fun w hG hN => weights_in a l c x hl hb hx w hG hN
  have hs10 : s.length ≤ 10 := by rw [hm']; exact nodes_short (nodes_ok hb).1
  have k2 := fun (w : World) (hG : GlobQ w) (hN : Nums w b s) => check_not b s d (by omega) hR hq w hG hN
  rw [hm'] at k2
  obtain ⟨n, hn⟩ : ∃ n, n = l.length := ⟨_, rfl⟩
  obtain ⟨m, hm⟩ : ∃ m, m = s.length := ⟨_, rfl⟩
  rw [← hn] at k1
  have K1 : Hid _ := k1
  rw [← hn, ← hm]
  have H0 : Hid (GlobQ w ∧ IntsAt w a l ∧ Nums w b s ∧ n = l.length ∧ m = s.length) := ⟨hG, hN, hS, hn, hm⟩
  have HB : Hid (Below w.heap.size w ((w.alloc (.cells #[.int .u64 (limb x 0 : Nat), .int .u64 (limb x 1 : Nat), .int .u64 (limb x 2 : Nat), .int .u64 (limb x 3 : Nat)] 25)).alloc (.cells #[.int .u64 0, .int .u64 0, .int .u64 0, .int .u64 0] 25)) ∧ Pend ((w.alloc (.cells #[.int .u64 (limb x 0 : Nat), .int .u64 (limb x 1 : Nat), .int .u64 (limb x 2 : Nat), .int .u64 (limb x 3 : Nat)] 25)).alloc (.cells #[.int .u64 0, .int .u64 0, .int .u64 0, .int .u64 0] 25)) (w.heap.size + 1)) := ⟨below_alloc0 (below_alloc0 (Below.refl _ _) _) _, Pend.new' (by simp)⟩
  rw [← hn] at k2
  have K2 : Hid _ := k2
  obtain rfl : n = m := by omega
  clear hl hb hx hm' hG hN hS k1 hn hm k2 hs10 hR hq
  go_enter Tryd.func15, Tryd.ntmps15
  go_wp2_with fail
  refine (K1.out _ (H0.out.1.call HB.out.1) (H0.out.2.1.call HB.out.1)).mono ?_
  rintro e w1 ⟨q, rfl, hNu, hq, hb1⟩
  have H1 : Hid (Below w.heap.size w w1 ∧ Pend w1 (w.heap.size + 1) ∧ Nums w1 (some ⟨q, 0, none⟩) (wsL l x)) := ⟨below_call0 HB.out.1 hb1, HB.out.2.call hb1, hNu⟩
  clear hb1 hNu hq HB K1
  go_wp2_with fail
  refine (K2.out _ (H0.out.1.call H1.out.1) (H0.out.2.2.1.call H1.out.1)).mono ?_
  rintro e w2 ⟨rfl, hb2⟩
  have H2 : Hid (Below w.heap.size w w2 ∧ Pend w2 (w.heap.size + 1)) := ⟨below_call0 H1.out.1 hb2, H1.out.2.1.call hb2⟩
  clear hb2
  obtain ⟨⟨s0, s1, s2, s3⟩, ⟨f0, f1, f2, f3⟩, sz⟩ := (H2.out.2).facts
  go_wp2_with fail
  refine bodyPost_ret (v := .tuple #[z4, .int .i64 20]) ?_ rfl ⟨rfl, ?_⟩
  · simp [results, Tryd.results15, go_sem, z4, s0, s1, s2, s3]
  · have HW := H2.out.1
    ((repeat' (first | with_reducible exact HW | with_reducible exact Below.refl _ _ | exact (And.left (by assumption)) | with_reducible refine Below.setCell ?_ ?_ _ | with_reducible refine below_alloc0 ?_ _ | with_reducible refine below_drewN ?_ _ | with_reducible refine Below.drew ?_ | refine below_call0 ?_ (by assumption))) <;> (first | omega | (simp; done) | (simp; omega)))
set_option maxRecDepth 100000 in
set_option maxHeartbeats 8000000 in
theorem join_in (a b : Option Addr) (l : List Int) (s : List Nat) (c d x : Nat) (hl : l.length ≤ 17592186044416) (hb : nodesOk l = true) (hx : x < QQ) (hm' : s.length = l.length) (hq : allQ s = true) (w : World) (hG : GlobQ w) (hN : IntsAt w a l) (hS : Nums w b s) :
    Calls Tryd.prog 15 #[.slice a l.length c, .slice b s.length d, .agg #[.int .u64 (limb (x) 0 : Nat), .int .u64 (limb (x) 1 : Nat), .int .u64 (limb (x) 2 : Nat), .int .u64 (limb (x) 3 : Nat)]] w fun e w' => e = .returned (.tuple #[.agg #[.int .u64 (limb (joV l s x) 0 : Nat), .int .u64 (limb (joV l s x) 1 : Nat), .int .u64 (limb (joV l s x) 2 : Nat), .int .u64 (limb (joV l s x) 3 : Nat)], .int .i64 0]) ∧ Below w.heap.size w w' := by
  have k1 := fun w hG hN => weights_in a l c x hl hb hx w hG hN
  have hs10 : s.length ≤ 10 := by rw [hm']; exact nodes_short (nodes_ok hb).1
  have k2 := fun (w : World) (hG : GlobQ w) (hN : Nums w b s) => check_yes b s d (by omega) hq w hG hN
  rw [hm'] at k2
  obtain ⟨n, hn⟩ : ∃ n, n = l.length := ⟨_, rfl⟩
  obtain ⟨m, hm⟩ : ∃ m, m = s.length := ⟨_, rfl⟩
  rw [← hn] at k1
  have K1 : Hid _ := k1
  rw [← hn, ← hm]
  have H0 : Hid (GlobQ w ∧ IntsAt w a l ∧ Nums w b s ∧ n = l.length ∧ m = s.length) := ⟨hG, hN, hS, hn, hm⟩
  have HB : Hid (Below w.heap.size w ((w.alloc (.cells #[.int .u64 (limb x 0 : Nat), .int .u64 (limb x 1 : Nat), .int .u64 (limb x 2 : Nat), .int .u64 (limb x 3 : Nat)] 25)).alloc (.cells #[.int .u64 0, .int .u64 0, .int .u64 0, .int .u64 0] 25)) ∧ Pend ((w.alloc (.cells #[.int .u64 (limb x 0 : Nat), .int .u64 (limb x 1 : Nat), .int .u64 (limb x 2 : Nat), .int .u64 (limb x 3 : Nat)] 25)).alloc (.cells #[.int .u64 0, .int .u64 0, .int .u64 0, .int .u64 0] 25)) (w.heap.size + 1)) := ⟨below_alloc0 (below_alloc0 (Below.refl _ _) _) _, Pend.new' (by simp)⟩
  rw [← hn] at k2
  have K2 : Hid _ := k2
  have K4 : Hid _ := fun w h => reckoner_any w h
  obtain ⟨V, hV⟩ : ∃ V, V = joV l s x := ⟨_, rfl⟩
  rw [← hV]
  have HV : Hid (V = joV l s x ∧ allQ s = true) := ⟨hV, hq⟩
  obtain rfl : n = m := by omega
  have n10 : (n : Int) ≤ 10 := by omega
  clear hl hb hx hm' hG hN hS k1 hn hm k2 hs10 hq hV
  go_enter Tryd.func15, Tryd.ntmps15
  go_wp2_with fail
  refine (K1.out _ (H0.out.1.call HB.out.1) (H0.out.2.1.call HB.out.1)).mono ?_
  rintro e w1 ⟨q, rfl, hNu, hq, hb1⟩
  have H1 : Hid (Below w.heap.size w w1 ∧ Pend w1 (w.heap.size + 1) ∧ Nums w1 (some ⟨q, 0, none⟩) (wsL l x)) := ⟨below_call0 HB.out.1 hb1, HB.out.2.call hb1, hNu⟩
  clear hb1 hNu hq HB K1
  go_wp2_with fail
  refine (K2.out _ (H0.out.1.call H1.out.1) (H0.out.2.2.1.call H1.out.1)).mono ?_
  rintro e w2 ⟨rfl, hb2⟩
  have H2 : Hid (Below w.heap.size w w2 ∧ Pend w2 (w.heap.size + 1) ∧ Nums w2 (some ⟨q, 0, none⟩) (wsL l x)) := ⟨below_call0 H1.out.1 hb2, H1.out.2.1.call hb2, H1.out.2.2.call hb2⟩
  clear hb2 H1
  go_wp2_with fail
  refine (K4.out _ (H0.out.1.call H2.out.1)).mono ?_
  rintro e w4 ⟨g, rfl, hFB, hb4⟩
  obtain ⟨w5, hw5⟩ : ∃ y, y = w4.alloc (.cells #[.pointer (some ⟨g, 0, none⟩)] 50) := ⟨_, rfl⟩
  have H5 : Hid (Below w.heap.size w w5 ∧ Pend w5 (w.heap.size + 1) ∧ Ptr1 w5 w4.heap.size g ∧ FieldB w5 g QQ ∧ Nums w5 (some ⟨q, 0, none⟩) (wsL l x) ∧ Nums w5 b s) := by
    have hB : Below w.heap.size w w5 := by rw [hw5]; exact below_alloc0 (below_call0 H2.out.1 hb4) _
    refine ⟨hB, ?_, ?_, ?_, ?_, H0.out.2.2.1.call hB⟩
    · rw [hw5]; exact (H2.out.2.1.call hb4).alloc
    · rw [hw5]; exact Ptr1.new _ _ _
    · rw [hw5]; exact hFB.alloc
    · rw [hw5]; exact (H2.out.2.2.call hb4).alloc
  have HZ5 : Hid (w4.heap.size + 1 = w5.heap.size ∧ w5 = w4.alloc (.cells #[.pointer (some ⟨g, 0, none⟩)] 50)) := ⟨by rw [hw5]; simp, hw5⟩
  clear hb4 hFB H2 hw5
  go_wp2_with fail
  rw [← HZ5.out.2]
  try rw [HZ5.out.1]
  clear HZ5
  obtain ⟨w6, hw6⟩ : ∃ y, y = w5.alloc (.cells #[.int .u64 0, .int .u64 0, .int .u64 0, .int .u64 0] 25) := ⟨_, rfl⟩
  have H6 : Hid (Below w5.heap.size w5 w6 ∧ Own4 w6 w5.heap.size 0) := by
    rw [hw6]
    have h := Own4.new w5 0 25
    rw [limb_nought, limb_nought, limb_nought, limb_nought] at h
    exact ⟨below_alloc0 (Below.refl _ _) _, h⟩
  rw [← hw6]
  clear hw6
  rename_i Kr hKr
  have HKr : Hid _ := hKr
  clear hKr
  go_loopw [40] (fun iv wr => ∃ k : Nat, k ≤ n ∧ iv = .int .i64 (k : Nat) ∧ Own4 wr w5.heap.size (joK (fun i => s[i]?.getD 0) (wAt l x) k) ∧ Below w5.heap.size w5 wr) (fun iv _ => n - (Go.RowKit.intOf iv).toNat)
  case atStart => exact ⟨0, Nat.zero_le _, rfl, H6.out.2, H6.out.1⟩
  case round =>
    obtain ⟨k, hk, rfl, hO, hB⟩ := hrel
    rename World => wr
    obtain ⟨v, hv⟩ : ∃ v, v = joK (fun i => s[i]?.getD 0) (wAt l x) k := ⟨_, rfl⟩
    rw [← hv] at hO
    have HR : Hid (Own4 wr w5.heap.size v ∧ Below w5.heap.size w5 wr ∧ v = joK (fun i => s[i]?.getD 0) (wAt l x) k) := ⟨hO, hB, hv⟩
    clear hO hB hv
    by_cases hlt : k < n
    · clear HKr
      have hks : k < s.length := by rw [← H0.out.2.2.2.2]; exact hlt
      have hkw : k < (wsL l x).length := by rw [wsL_length, ← H0.out.2.2.2.1]; exact hlt
      have hlt' : (k : Int) < (n : Int) := Int.ofNat_lt.2 hlt
      obtain ⟨p, o, rfl, ⟨c0, c1, c2, c3⟩, pz⟩ := (H5.out.2.2.2.2.2.call HR.out.2.1).get hks
      obtain ⟨p', o', e', ⟨d0, d1, d2, d3⟩, dz⟩ := (H5.out.2.2.2.2.1.call HR.out.2.1).get hkw
      simp only [Option.some.injEq, Addr.mk.injEq, and_true] at e'
      obtain ⟨rfl, rfl⟩ := e'
      rw [Nat.zero_add] at d0 d1 d2 d3
      obtain ⟨m, hm⟩ : ∃ m, m = (s[k]'hks) := ⟨_, rfl⟩
      rw [← hm] at c0 c1 c2 c3
      rw [wsL_get] at d0 d1 d2 d3
      obtain ⟨y, hy⟩ : ∃ y, y = wAt l x k := ⟨_, rfl⟩
      rw [← hy] at d0 d1 d2 d3
      have hmq : m < QQ := by rw [hm]; exact allQ_get HV.out.2 hks
      have hyq : y < QQ := by rw [hy]; exact wAt_lt _ _ _
      have hvq : v < QQ := by rw [HR.out.2.2]; exact joK_lt _ _ _
      obtain ⟨t, ht⟩ : ∃ t, t = m * y % QQ := ⟨_, rfl⟩
      obtain ⟨u, hu⟩ : ∃ u, u = (v + t) % QQ := ⟨_, rfl⟩
      have htq : t < QQ := by rw [ht]; exact Nat.mod_lt _ QQ_pos
      have KT : Hid (∀ w, FieldB w g QQ → Calls Tryd.prog 27 #[.agg #[.pointer (some ⟨g, 0, none⟩)], .agg #[.int .u64 (limb (m) 0 : Nat), .int .u64 (limb (m) 1 : Nat), .int .u64 (limb (m) 2 : Nat), .int .u64 (limb (m) 3 : Nat)], .agg #[.int .u64 (limb (y) 0 : Nat), .int .u64 (limb (y) 1 : Nat), .int .u64 (limb (y) 2 : Nat), .int .u64 (limb (y) 3 : Nat)]] w fun e w' => e = .returned (.agg #[.int .u64 (limb (t) 0 : Nat), .int .u64 (limb (t) 1 : Nat), .int .u64 (limb (t) 2 : Nat), .int .u64 (limb (t) 3 : Nat)]) ∧ Below w.heap.size w w') := fun w h => by rw [ht]; exact rtimes_any g m y hmq hyq w h
      have KP : Hid (∀ w, FieldB w g QQ → Calls Tryd.prog 26 #[.agg #[.pointer (some ⟨g, 0, none⟩)], .agg #[.int .u64 (limb (v) 0 : Nat), .int .u64 (limb (v) 1 : Nat), .int .u64 (limb (v) 2 : Nat), .int .u64 (limb (v) 3 : Nat)], .agg #[.int .u64 (limb (t) 0 : Nat), .int .u64 (limb (t) 1 : Nat), .int .u64 (limb (t) 2 : Nat), .int .u64 (limb (t) 3 : Nat)]] w fun e w' => e = .returned (.agg #[.int .u64 (limb (u) 0 : Nat), .int .u64 (limb (u) 1 : Nat), .int .u64 (limb (u) 2 : Nat), .int .u64 (limb (u) 3 : Nat)]) ∧ Below w.heap.size w w') := fun w h => by rw [hu]; exact rplus_any g v t hvq htq w h
      have HU : Hid (u = joK (fun i => s[i]?.getD 0) (wAt l x) (k + 1)) := by
        have e1 : s[k]?.getD 0 = m := by rw [List.getElem?_eq_getElem hks, hm]; rfl
        show u = (joK (fun i => s[i]?.getD 0) (wAt l x) k + s[k]?.getD 0 * wAt l x k % QQ) % QQ
        rw [e1, ← HR.out.2.2, ← hy, ← ht]
        exact hu
      have HD : Hid (∀ w', Below wr.heap.size wr w' → (w'.cell? ⟨q, k * 4, none⟩ = some (.int .u64 (limb y 0 : Nat)) ∧ w'.cell? ⟨q, k * 4 + 1, none⟩ = some (.int .u64 (limb y 1 : Nat)) ∧ w'.cell? ⟨q, k * 4 + 2, none⟩ = some (.int .u64 (limb y 2 : Nat)) ∧ w'.cell? ⟨q, k * 4 + 3, none⟩ = some (.int .u64 (limb y 3 : Nat))) ∧ q < w'.heap.size) := fun w' hb => by
        have e := fun j => hb.cell (p := ⟨q, j, none⟩) dz
        exact ⟨⟨(e _).trans d0, (e _).trans d1, (e _).trans d2, (e _).trans d3⟩, Nat.lt_of_lt_of_le dz hb.size⟩
      clear hm hy hmq hyq hvq htq ht hu d0 d1 d2 d3 dz
      go_wp2_with fail
      obtain ⟨w8, hw8⟩ : ∃ z, z = wr.alloc (.cells #[.int .u64 (limb m 0 : Nat), .int .u64 (limb m 1 : Nat), .int .u64 (limb m 2 : Nat), .int .u64 (limb m 3 : Nat)] 25) := ⟨_, rfl⟩
      have H8 : Hid (Own4 w8 w5.heap.size v ∧ Own4 w8 wr.heap.size m ∧ Ptr1 w8 w4.heap.size g ∧ FieldB w8 g QQ ∧ Below w5.heap.size w5 w8 ∧ Below wr.heap.size wr w8) := by
        rw [hw8]
        exact ⟨HR.out.1.alloc, Own4.new _ _ _, (H5.out.2.2.1.call HR.out.2.1).alloc, (H5.out.2.2.2.1.call HR.out.2.1).alloc, below_alloc0 HR.out.2.1 _, below_alloc0 (Below.refl _ _) _⟩
      rw [← hw8]
      clear hw8 c0 c1 c2 c3 pz
      refine wp_region_N (fun w' => Below w8.heap.size w8 w') 10 11 rfl (by kernel_rfl) ?_
      refine wpAnyN_take (i := 0) (oi := ?o0) (v := ?v0) ?hi0 (by kernel_rfl) (by kernel_rfl) (by kernel_rfl) (by kernel_rfl) (by decide) (by kernel_rfl) ?hQ0 ?hy0 (Below.drew (Below.refl _ _)) ?more0
      case hi0 => rw [List.getElem?_toArray]; exact rfl
      case hQ0 => exact fun _ _ _ h => h
      case hy0 =>
        refine Or.inl ⟨by rfl, ?_⟩
        intro w' hSw
        obtain ⟨⟨o0, o1, o2, o3⟩, _, oz⟩ := (H8.out.1.call hSw).facts
        obtain ⟨⟨m0, m1, m2, m3⟩, _, mz⟩ := (H8.out.2.1.call hSw).facts
        obtain ⟨r0, rz⟩ := H8.out.2.2.1.call hSw
        obtain ⟨⟨d0, d1, d2, d3⟩, dz⟩ := HD.out _ (below_call0 H8.out.2.2.2.2.2 hSw)
        clear hSw
        go_simp
        try with_reducible rfl
      simp only [Act.put, List.setIfInBounds_toArray, List.set_cons_zero, List.set_cons_succ]
      refine wpAnyN_take (i := 1) (oi := ?o1) (v := ?v1) ?hi1 (by kernel_rfl) (by kernel_rfl) (by kernel_rfl) (by kernel_rfl) (by decide) (by kernel_rfl) ?hQ1 ?hy1 (Below.drew (Below.refl _ _)) ?more1
      case hi1 => rw [List.getElem?_toArray]; exact rfl
      case hQ1 => exact fun _ _ _ h => h
      case hy1 =>
        refine Or.inl ⟨by rfl, ?_⟩
        intro w' hSw
        obtain ⟨⟨o0, o1, o2, o3⟩, _, oz⟩ := (H8.out.1.call hSw).facts
        obtain ⟨⟨m0, m1, m2, m3⟩, _, mz⟩ := (H8.out.2.1.call hSw).facts
        obtain ⟨r0, rz⟩ := H8.out.2.2.1.call hSw
        obtain ⟨⟨d0, d1, d2, d3⟩, dz⟩ := HD.out _ (below_call0 H8.out.2.2.2.2.2 hSw)
        clear hSw
        go_simp
        try with_reducible rfl
      simp only [Act.put, List.setIfInBounds_toArray, List.set_cons_zero, List.set_cons_succ]
      refine wpAnyN_take (i := 2) (oi := ?o2) (v := ?v2) ?hi2 (by kernel_rfl) (by kernel_rfl) (by kernel_rfl) (by kernel_rfl) (by decide) (by kernel_rfl) ?hQ2 ?hy2 (Below.drew (Below.refl _ _)) ?more2
      case hi2 => rw [List.getElem?_toArray]; exact rfl
      case hQ2 => exact fun _ _ _ h => h
      case hy2 =>
        refine Or.inl ⟨by rfl, ?_⟩
        intro w' hSw
        obtain ⟨⟨o0, o1, o2, o3⟩, _, oz⟩ := (H8.out.1.call hSw).facts
        obtain ⟨⟨m0, m1, m2, m3⟩, _, mz⟩ := (H8.out.2.1.call hSw).facts
        obtain ⟨r0, rz⟩ := H8.out.2.2.1.call hSw
        obtain ⟨⟨d0, d1, d2, d3⟩, dz⟩ := HD.out _ (below_call0 H8.out.2.2.2.2.2 hSw)
        clear hSw
        go_simp
        try with_reducible rfl
      simp only [Act.put, List.setIfInBounds_toArray, List.set_cons_zero, List.set_cons_succ]
      refine wpAnyN_take (i := 3) (oi := ?o3) (v := ?v3) ?hi3 (by kernel_rfl) (by kernel_rfl) (by kernel_rfl) (by kernel_rfl) (by decide) (by kernel_rfl) ?hQ3 ?hy3 (Below.drew (Below.refl _ _)) ?more3
      case hi3 => rw [List.getElem?_toArray]; exact rfl
      case hQ3 => exact fun _ _ _ h => h
      case hy3 =>
        refine Or.inl ⟨by rfl, ?_⟩
        intro w' hSw
        obtain ⟨⟨o0, o1, o2, o3⟩, _, oz⟩ := (H8.out.1.call hSw).facts
        obtain ⟨⟨m0, m1, m2, m3⟩, _, mz⟩ := (H8.out.2.1.call hSw).facts
        obtain ⟨r0, rz⟩ := H8.out.2.2.1.call hSw
        obtain ⟨⟨d0, d1, d2, d3⟩, dz⟩ := HD.out _ (below_call0 H8.out.2.2.2.2.2 hSw)
        clear hSw
        go_simp
        try with_reducible rfl
      simp only [Act.put, List.setIfInBounds_toArray, List.set_cons_zero, List.set_cons_succ]
      refine wpAnyN_takeF (i := 4) (oi := ?o4) (v := ?v4) ?hi4 (by kernel_rfl) (by kernel_rfl) (by kernel_rfl) (by decide) ?hQ4 ?hy4 (Below.drew (Below.refl _ _)) ?more4
      case hi4 => rw [List.getElem?_toArray]; exact rfl
      case hQ4 => exact fun _ _ _ h => h
      case hy4 =>
        refine Or.inl ⟨by rfl, ?_⟩
        intro w' hSw
        clear hSw
        go_simp
        try with_reducible rfl
      simp only [Act.put, List.setIfInBounds_toArray, List.set_cons_zero, List.set_cons_succ]
      refine wpAnyN_takeF (i := 5) (oi := ?o5) (v := ?v5) ?hi5 (by kernel_rfl) (by kernel_rfl) (by kernel_rfl) (by decide) ?hQ5 ?hy5 (Below.drew (Below.refl _ _)) ?more5
      case hi5 => rw [List.getElem?_toArray]; exact rfl
      case hQ5 => exact fun _ _ _ h => h
      case hy5 =>
        refine Or.inl ⟨by rfl, ?_⟩
        intro w' hSw
        clear hSw
        go_simp
        try with_reducible rfl
      simp only [Act.put, List.setIfInBounds_toArray, List.set_cons_zero, List.set_cons_succ]
      refine wpAnyN_takeF (i := 6) (oi := ?o6) (v := ?v6) ?hi6 (by kernel_rfl) (by kernel_rfl) (by kernel_rfl) (by decide) ?hQ6 ?hy6 (Below.drew (Below.refl _ _)) ?more6
      case hi6 => rw [List.getElem?_toArray]; exact rfl
      case hQ6 => exact fun _ _ _ h => h
      case hy6 =>
        refine Or.inl ⟨by rfl, ?_⟩
        intro w' hSw
        clear hSw
        go_simp
        try with_reducible rfl
      simp only [Act.put, List.setIfInBounds_toArray, List.set_cons_zero, List.set_cons_succ]
      refine wpAnyN_take (i := 7) (oi := ?o7) (v := ?v7) ?hi7 (by kernel_rfl) (by kernel_rfl) (by kernel_rfl) (by kernel_rfl) (by decide) (by kernel_rfl) ?hQ7 ?hy7 (Below.drew (Below.refl _ _)) ?more7
      case hi7 => rw [List.getElem?_toArray]; exact rfl
      case hQ7 => exact fun _ _ _ h => h
      case hy7 =>
        refine Or.inl ⟨by rfl, ?_⟩
        intro w' hSw
        obtain ⟨⟨o0, o1, o2, o3⟩, _, oz⟩ := (H8.out.1.call hSw).facts
        obtain ⟨⟨m0, m1, m2, m3⟩, _, mz⟩ := (H8.out.2.1.call hSw).facts
        obtain ⟨r0, rz⟩ := H8.out.2.2.1.call hSw
        obtain ⟨⟨d0, d1, d2, d3⟩, dz⟩ := HD.out _ (below_call0 H8.out.2.2.2.2.2 hSw)
        clear hSw
        go_simp
        try with_reducible rfl
      simp only [Act.put, List.setIfInBounds_toArray, List.set_cons_zero, List.set_cons_succ]
      refine wpAnyN_one (i := 8) (o := ?o8) (by kernel_rfl) ?hi8 ?hw8 ?st8
      case hi8 => rw [List.getElem?_toArray]; exact rfl
      case hw8 => exact rfl
      intro K hK
      have HK8 : Hid _ := hK
      clear hK
      go_simp
      refine (KT.out _ (FieldB.drew H8.out.2.2.2.1)).mono ?_
      rintro e w9 ⟨rfl, hq⟩
      have H9 : Hid (Below w8.heap.size w8 w9) := below_call0 (Below.drew (Below.refl _ _)) hq
      clear hq
      go_wp2_with fail
      refine HK8.out _ _ ⟨fun _ => H9.out, ?_⟩
      clear HK8 K
      try simp only [Act.put, List.setIfInBounds_toArray, List.set_cons_zero, List.set_cons_succ]
      refine wpAnyN_one (i := 9) (o := ?o9) (by kernel_rfl) ?hi9 ?hw9 ?st9
      case hi9 => rw [List.getElem?_toArray]; exact rfl
      case hw9 => exact rfl
      intro K hK
      have HK9 : Hid _ := hK
      clear hK
      go_simp
      refine (KP.out _ (H8.out.2.2.2.1.call H9.out)).mono ?_
      rintro e w10 ⟨rfl, hq⟩
      have H10 : Hid (Below w8.heap.size w8 w10) := below_call0 H9.out hq
      obtain ⟨⟨o0, o1, o2, o3⟩, ⟨f0, f1, f2, f3⟩, oz⟩ := (H8.out.1.call H10.out).facts
      clear hq
      go_wp2_with fail
      refine HK9.out _ _ ⟨fun _ => H10.out, ?_⟩
      clear HK9 K
      try simp only [Act.put, List.setIfInBounds_toArray, List.set_cons_zero, List.set_cons_succ]
      refine wpAnyN_one (i := 10) (o := ?o10) (by kernel_rfl) ?hi10 ?hw10 ?st10
      case hi10 => rw [List.getElem?_toArray]; exact rfl
      case hw10 => exact rfl
      intro K hK
      have HK10 : Hid _ := hK
      clear hK
      go_simp
      refine HK10.out _ _ ⟨fun h => absurd h (by decide +kernel), ?_⟩
      clear HK10 K
      try simp only [Act.put, List.setIfInBounds_toArray, List.set_cons_zero, List.set_cons_succ]
      refine wpAnyN_done (by kernel_rfl) ?_ _
      have HE : Hid (Own4 ((((w10.setCell ⟨w5.heap.size, 0, none⟩ (.int .u64 (limb u 0 : Nat))).setCell ⟨w5.heap.size, 1, none⟩ (.int .u64 (limb u 1 : Nat))).setCell ⟨w5.heap.size, 2, none⟩ (.int .u64 (limb u 2 : Nat))).setCell ⟨w5.heap.size, 3, none⟩ (.int .u64 (limb u 3 : Nat))) w5.heap.size (joK (fun i => s[i]?.getD 0) (wAt l x) (k + 1)) ∧ Below w5.heap.size w5 ((((w10.setCell ⟨w5.heap.size, 0, none⟩ (.int .u64 (limb u 0 : Nat))).setCell ⟨w5.heap.size, 1, none⟩ (.int .u64 (limb u 1 : Nat))).setCell ⟨w5.heap.size, 2, none⟩ (.int .u64 (limb u 2 : Nat))).setCell ⟨w5.heap.size, 3, none⟩ (.int .u64 (limb u 3 : Nat)))) := by
        refine ⟨?_, ?_⟩
        · rw [← HU.out]; exact (H8.out.1.call H10.out).put
        · exact Below.setCell (Below.setCell (Below.setCell (Below.setCell (below_call0 H8.out.2.2.2.2.1 H10.out) (Nat.le_refl _) _) (Nat.le_refl _) _) (Nat.le_refl _) _) (Nat.le_refl _) _
      clear o0 o1 o2 o3 f0 f1 f2 f3 oz
      go_wp2_with fail
      go_roundw
      case rel => first | exact ⟨k + 1, hlt, by go_num, HE.out⟩ | ((repeat apply Exists.intro); exact ⟨⟨k + 1, hlt, by go_num, HE.out⟩, rfl⟩)
      case measure => simp [intOf]; omega
    · obtain rfl : k = n := by omega
      have hnl : ¬ ((k : Int) < (k : Int)) := Int.lt_irrefl _
      have HVV : Hid (v = V) := by rw [HR.out.2.2, HV.out.1]; unfold joV; rw [← H0.out.2.2.2.1]; rfl
      clear hlt hk
      go_wp2_with fail
      refine HKr.out _ _ ?_
      clear HKr
      obtain ⟨⟨o0, o1, o2, o3⟩, _, oz⟩ := HR.out.1.facts
      rw [HVV.out] at o0 o1 o2 o3
      obtain ⟨⟨s0, s1, s2, s3⟩, ⟨t0, t1, t2, t3⟩, sz⟩ := (H5.out.2.1.call HR.out.2.1).facts
      go_wp2_with fail
      refine bodyPost_ret (v := .tuple #[.agg #[.int .u64 (limb (V) 0 : Nat), .int .u64 (limb (V) 1 : Nat), .int .u64 (limb (V) 2 : Nat), .int .u64 (limb (V) 3 : Nat)], .int .i64 0]) ?_ rfl ⟨rfl, ?_⟩
      · simp [results, Tryd.results15, go_sem, s0, s1, s2, s3]
      · have HW := below_call0 H5.out.1 HR.out.2.1
        ((repeat' (first | with_reducible exact HW | with_reducible exact Below.refl _ _ | exact (And.left (by assumption)) | with_reducible refine Below.setCell ?_ ?_ _ | with_reducible refine below_alloc0 ?_ _ | with_reducible refine below_drewN ?_ _ | with_reducible refine Below.drew ?_ | refine below_call0 ?_ (by assumption))) <;> (first | omega | (simp; done) | (simp; omega)))
end Go.Proofs.YtcdiehnkknmbeabDoor

namespace Go.Proofs.YtcdiehnkknmbeabDoor
open Go Go.RowKit Go.Lib

theorem joK_comm (s w : Nat → Nat) (k : Nat) : joK s w (k + 1) = (joK s w k + w k * s k % QQ) % QQ := by
  show (joK s w k + s k * w k % QQ) % QQ = _
  rw [Nat.mul_comm]
end Go.Proofs.YtcdiehnkknmbeabDoor
