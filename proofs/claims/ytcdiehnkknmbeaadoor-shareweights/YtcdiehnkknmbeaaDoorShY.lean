/- The law ShareWeights. -/
import Derived.Test.YtcdiehnkknmbeaaDoorShX
namespace Go.Proofs.YtcdiehnkknmbeaaDoor
open Go Go.RowKit Go.Lib
attribute [local go_sem] run_eq4

def wtL (l : List Int) (x : Nat) : List Nat := if nodesOk l = true ∧ x < QQ then wsL l x else []
def wtE (l : List Int) (x : Nat) : Int := if nodesOk l = true then (if x < QQ then 0 else 20) else 1
theorem wtL_in {l : List Int} {x : Nat} (h : nodesOk l = true) (hx : x < QQ) : wtL l x = wsL l x := if_pos ⟨h, hx⟩
theorem wtL_len (l : List Int) (x : Nat) : (wtL l x).length ≤ 10 := by
  unfold wtL
  split
  · next h => rw [wsL_length]; exact nodes_short (nodes_ok h.1).1
  · exact Nat.zero_le _
theorem weights_all (a : Option Addr) (l : List Int) (c x : Nat) (hl : l.length ≤ 17592186044416) (hxR : x < R256) (w : World) (hG : GlobQ w) (hN : IntsAt w a l) :
    Calls Tryd.prog 14 #[.slice a l.length c, .agg #[.int .u64 (limb (x) 0 : Nat), .int .u64 (limb (x) 1 : Nat), .int .u64 (limb (x) 2 : Nat), .int .u64 (limb (x) 3 : Nat)]] w fun e w' => ∃ qa qc, e = .returned (.tuple #[.slice qa (wtL l x).length qc, .int .i64 (wtE l x)]) ∧ Nums w' qa (wtL l x) ∧ Below w.heap.size w w' := by
  unfold wtL wtE
  by_cases h1 : nodesOk l = true
  · by_cases h2 : x < QQ
    · rw [if_pos ⟨h1, h2⟩, if_pos h1, if_pos h2, wsL_length]
      exact (weights_in a l c x hl h1 h2 w hG hN).mono fun e w' ⟨b, h, g, _, k⟩ => ⟨_, _, h, g, k⟩
    · rw [if_neg (fun q => h2 q.2), if_pos h1, if_neg h2]
      exact (weights_x a l c x hl hxR h1 h2 w hG hN).mono fun e w' ⟨h, k⟩ => ⟨none, 0, h, Nums.nil _ _, k⟩
  · rw [if_neg (fun q => h1 q.1), if_neg h1]
    exact (weights_bad a l c x hl (by simpa using h1) w hG hN).mono fun e w' ⟨h, k⟩ => ⟨none, 0, h, Nums.nil _ _, k⟩
theorem ref_weights_all (a : Option Addr) (l : List Int) (c x : Nat) (hl : l.length ≤ 17592186044416) (hxR : x < R256) (w : World) (hN : IntsAt w a l) :
    Calls Tryd.prog 15 #[.slice a l.length c, .agg #[.int .u64 (limb (x) 0 : Nat), .int .u64 (limb (x) 1 : Nat), .int .u64 (limb (x) 2 : Nat), .int .u64 (limb (x) 3 : Nat)]] w fun e w' => ∃ qa qc, e = .returned (.tuple #[.slice qa (wtL l x).length qc, .int .i64 (wtE l x)]) ∧ Nums w' qa (wtL l x) ∧ Below w.heap.size w w' := by
  unfold wtL wtE
  by_cases h1 : nodesOk l = true
  · by_cases h2 : x < QQ
    · rw [if_pos ⟨h1, h2⟩, if_pos h1, if_pos h2, wsL_length]
      exact (ref_weights_in a l c x hl h1 h2 w hN).mono fun e w' ⟨b, d, h, g, k⟩ => ⟨_, _, h, g, k⟩
    · rw [if_neg (fun q => h2 q.2), if_pos h1, if_neg h2]
      exact (ref_weights_x a l c x hl hxR h1 h2 w hN).mono fun e w' ⟨h, k⟩ => ⟨none, 0, h, Nums.nil _ _, k⟩
  · rw [if_neg (fun q => h1 q.1), if_neg h1]
    exact (ref_weights_bad a l c x hl (by simpa using h1) w hN).mono fun e w' ⟨h, k⟩ => ⟨none, 0, h, Nums.nil _ _, k⟩
set_option maxRecDepth 100000 in
set_option maxHeartbeats 8000000 in
theorem sw_bad (a : Option Addr) (l : List Int) (c x : Nat) (z : Int) (hl : l.length ≤ 17592186044416) (hxR : x < R256) (hb : nodesOk l = false) (w : World) (hG : GlobQ w) (hN : IntsAt w a l) :
    Calls Tryd.prog 4 #[.slice a l.length c, .agg #[.int .u64 (limb (x) 0 : Nat), .int .u64 (limb (x) 1 : Nat), .int .u64 (limb (x) 2 : Nat), .int .u64 (limb (x) 3 : Nat)], .int .i64 z] w fun e w' => e = .returned (.bool true) ∧ Below w.heap.size w w' := by
  have kw := fun w (_ : GlobQ w) hN => wone_bad a l c z hl hb w hN
  have he0 : wtE l 0 = 1 := by unfold wtE; rw [hb]; rfl
  obtain ⟨n, hn⟩ : ∃ n, n = l.length := ⟨_, rfl⟩
  obtain ⟨L, hL⟩ : ∃ L, L = (wtL l x).length := ⟨_, rfl⟩
  obtain ⟨E, hE⟩ : ∃ E, E = wtE l x := ⟨_, rfl⟩
  have K1 : Hid (∀ w, GlobQ w → IntsAt w a l → Calls Tryd.prog 14 #[.slice a n c, .agg #[.int .u64 (limb (x) 0 : Nat), .int .u64 (limb (x) 1 : Nat), .int .u64 (limb (x) 2 : Nat), .int .u64 (limb (x) 3 : Nat)]] w fun e w' => ∃ qa qc, e = .returned (.tuple #[.slice qa L qc, .int .i64 E]) ∧ Nums w' qa (wtL l x) ∧ Below w.heap.size w w') := fun w h1 h2 => by rw [hn, hL, hE]; exact weights_all a l c x hl hxR w h1 h2
  have K2 : Hid (∀ w, IntsAt w a l → Calls Tryd.prog 15 #[.slice a n c, .agg #[.int .u64 (limb (x) 0 : Nat), .int .u64 (limb (x) 1 : Nat), .int .u64 (limb (x) 2 : Nat), .int .u64 (limb (x) 3 : Nat)]] w fun e w' => ∃ qa qc, e = .returned (.tuple #[.slice qa L qc, .int .i64 E]) ∧ Nums w' qa (wtL l x) ∧ Below w.heap.size w w') := fun w h2 => by rw [hn, hL, hE]; exact ref_weights_all a l c x hl hxR w h2
  have K3 : Hid (∀ w, GlobQ w → IntsAt w a l → Calls Tryd.prog 16 #[.slice a n c, .int .i64 z] w fun e w' => e = .returned (.tuple #[z4, .int .i64 1]) ∧ Below w.heap.size w w') := fun w h1 h2 => by rw [hn]; exact kw w h1 h2
  have K4 : Hid (∀ (a b : Option Addr) (ca cb : Nat) (w : World), Nums w a (wtL l x) → Nums w b (wtL l x) → Calls Tryd.prog 17 #[.slice a L ca, .slice b L cb] w fun e w' => e = .returned (.bool true) ∧ Below w.heap.size w w') := fun a b ca cb w h1 h2 => by rw [hL]; exact nums_same a b _ ca cb (Nat.le_trans (wtL_len l x) (by decide)) w h1 h2
  have K5 : Hid (∀ w, IntsAt w a l → Calls Tryd.prog 15 #[.slice a n c, .agg #[.int .u64 0, .int .u64 0, .int .u64 0, .int .u64 0]] w fun e w' => ∃ qa qn qc, e = .returned (.tuple #[.slice qa qn qc, .int .i64 1]) ∧ (qn = (wtL l 0).length ∧ Nums w' qa (wtL l 0)) ∧ Below w.heap.size w w') := fun w h2 => by
    have h := ref_weights_all a l c 0 hl (by decide) w h2
    rw [limb_nought, limb_nought, limb_nought, limb_nought, he0] at h
    rw [hn]
    exact h.mono fun e w' ⟨qa, qc, h1, h2, h3⟩ => ⟨qa, _, qc, h1, ⟨rfl, h2⟩, h3⟩
  have K6 : Hid (∀ w, GlobQ w → Calls Tryd.prog 13 #[] w fun e w' => e = .returned (.bool true) ∧ Below w.heap.size w w') := fun w h => line_any w h
  have H0 : Hid (GlobQ w ∧ IntsAt w a l ∧ n = l.length) := ⟨hG, hN, hn⟩
  have n43 : (n : Int) ≤ 17592186044416 := by omega
  have HB : Hid (Below w.heap.size w (w.alloc (.cells #[.int .u64 (limb x 0 : Nat), .int .u64 (limb x 1 : Nat), .int .u64 (limb x 2 : Nat), .int .u64 (limb x 3 : Nat)] 25)) ∧ Own4 (w.alloc (.cells #[.int .u64 (limb x 0 : Nat), .int .u64 (limb x 1 : Nat), .int .u64 (limb x 2 : Nat), .int .u64 (limb x 3 : Nat)] 25)) w.heap.size x) := ⟨below_alloc0 (Below.refl _ _) _, Own4.new _ _ _⟩
  clear hb
  rw [← hn]
  clear hl hxR hG hN hn hL hE kw he0
  go_enter Tryd.func4, Tryd.ntmps4
  go_wp2_with fail
  refine (K1.out _ (H0.out.1.call HB.out.1) (H0.out.2.1.call HB.out.1)).mono ?_
  rintro e w1 ⟨qa, qc, rfl, hq, hb1⟩
  have H1 : Hid (Below w.heap.size w w1 ∧ Own4 w1 w.heap.size x ∧ Nums w1 qa (wtL l x)) := ⟨below_call0 HB.out.1 hb1, HB.out.2.call hb1, hq⟩
  clear hb1 hq HB K1
  obtain ⟨⟨x0, x1, x2, x3⟩, _, xz⟩ := H1.out.2.1.facts
  go_wp2_with fail
  refine (K2.out _ (H0.out.2.1.call H1.out.1)).mono ?_
  rintro e w2 ⟨ra, rc, rfl, hq, hb2⟩
  have H2 : Hid (Below w.heap.size w w2 ∧ Nums w2 qa (wtL l x) ∧ Nums w2 ra (wtL l x)) := ⟨below_call0 H1.out.1 hb2, H1.out.2.2.call hb2, hq⟩
  clear hb2 hq H1 K2 x0 x1 x2 x3 xz
  go_wp2_with fail
  refine (K3.out _ (H0.out.1.call H2.out.1) (H0.out.2.1.call H2.out.1)).mono ?_
  rintro e w3 ⟨rfl, hb3⟩
  have H3 : Hid (Below w.heap.size w (w3.alloc (.cells #[.int .u64 0, .int .u64 0, .int .u64 0, .int .u64 0] 25)) ∧ Nums (w3.alloc (.cells #[.int .u64 0, .int .u64 0, .int .u64 0, .int .u64 0] 25)) qa (wtL l x) ∧ Nums (w3.alloc (.cells #[.int .u64 0, .int .u64 0, .int .u64 0, .int .u64 0] 25)) ra (wtL l x) ∧ Pend (w3.alloc (.cells #[.int .u64 0, .int .u64 0, .int .u64 0, .int .u64 0] 25)) w3.heap.size) := ⟨below_alloc0 (below_call0 H2.out.1 hb3) _, (H2.out.2.1.call hb3).alloc, (H2.out.2.2.call hb3).alloc, Pend.new' rfl⟩
  clear hb3 H2 K3
  go_wp2_with fail
  refine (K4.out _ _ _ _ _ H3.out.2.1 H3.out.2.2.1).mono ?_
  rintro e w5 ⟨rfl, hb5⟩
  have H5 : Hid (Below w.heap.size w w5 ∧ Pend w5 w3.heap.size) := ⟨below_call0 H3.out.1 hb5, H3.out.2.2.2.call hb5⟩
  clear hb5 H3 K4
  go_wp2_with fail
  refine (K5.out _ (H0.out.2.1.call H5.out.1)).mono ?_
  rintro e w6 ⟨sa, sn, sc, rfl, hq, hb6⟩
  have H6 : Hid (Below w.heap.size w w6 ∧ Pend w6 w3.heap.size ∧ sn = (wtL l 0).length ∧ Nums w6 sa (wtL l 0)) := ⟨below_call0 H5.out.1 hb6, H5.out.2.call hb6, hq⟩
  clear hb6 hq H5 K5
  go_wp2_with fail
  rename_i Kr hKr
  have HKr : Hid _ := hKr
  clear hKr
  go_loopw [52] (fun iv wr => ∃ k : Nat, k ≤ n ∧ iv = .int .i64 (k : Nat) ∧ Below w6.heap.size w6 wr) (fun iv _ => n - (Go.RowKit.intOf iv).toNat)
  case atStart => exact ⟨0, Nat.zero_le _, rfl, Below.refl _ _⟩
  case round =>
    obtain ⟨k, hk, rfl, hB⟩ := hrel
    rename World => wr
    have HR : Hid (Below w6.heap.size w6 wr ∧ Below w.heap.size w wr) := ⟨hB, below_call0 H6.out.1 hB⟩
    clear hB
    by_cases hlt : k < n
    · clear HKr
      have hkl : k < l.length := by rw [← H0.out.2.2]; exact hlt
      have hlt' : (k : Int) < (n : Int) := Int.ofNat_lt.2 hlt
      obtain ⟨p, o, rfl, c0, pz⟩ := (H0.out.2.1.call HR.out.2).get hkl
      obtain ⟨y, hy⟩ : ∃ y, y = (l[k]'hkl) := ⟨_, rfl⟩
      rw [← hy] at c0
      clear hy
      go_wp2_with fail
      go_roundw
      case rel => first | exact ⟨k + 1, hlt, by go_num, HR.out.1⟩ | ((repeat apply Exists.intro); exact ⟨⟨k + 1, hlt, by go_num, HR.out.1⟩, rfl⟩)
      case measure => simp [intOf]; omega
    · obtain rfl : k = n := by omega
      have hnl : ¬ ((k : Int) < (k : Int)) := Int.lt_irrefl _
      clear hlt hk
      go_wp2_with fail
      refine HKr.out _ _ ?_
      clear HKr
      obtain ⟨⟨s0, s1, s2, s3⟩, ⟨f0, f1, f2, f3⟩, sz⟩ := (H6.out.2.1.call HR.out.1).facts
      have e1 : eq4 0 0 0 0 0 0 0 0 = true := by decide
      go_wp2_with fail
      refine (K6.out _ (H0.out.1.call HR.out.2)).mono ?_
      rintro e w7 ⟨rfl, hb7⟩
      have H7 : Hid (Below w.heap.size w w7) := below_call0 HR.out.2 hb7
      clear hb7 s0 s1 s2 s3 f0 f1 f2 f3 sz
      go_wp2_with fail
      go_ret
      exact ⟨rfl, H7.out⟩
set_option maxRecDepth 100000 in
set_option maxHeartbeats 8000000 in
theorem sw_none (a : Option Addr) (l : List Int) (c x : Nat) (z : Int) (hl : l.length ≤ 17592186044416) (hxR : x < R256) (hb : nodesOk l = true) (hz : z ∉ l) (w : World) (hG : GlobQ w) (hN : IntsAt w a l) :
    Calls Tryd.prog 4 #[.slice a l.length c, .agg #[.int .u64 (limb (x) 0 : Nat), .int .u64 (limb (x) 1 : Nat), .int .u64 (limb (x) 2 : Nat), .int .u64 (limb (x) 3 : Nat)], .int .i64 z] w fun e w' => e = .returned (.bool true) ∧ Below w.heap.size w w' := by
  have kw := fun w hG hN => wone_none a l c z hl hb hz w hG hN
  have he0 : wtE l 0 = 0 := by unfold wtE; rw [if_pos hb, if_pos QQ_pos]
  obtain ⟨n, hn⟩ : ∃ n, n = l.length := ⟨_, rfl⟩
  obtain ⟨L, hL⟩ : ∃ L, L = (wtL l x).length := ⟨_, rfl⟩
  obtain ⟨E, hE⟩ : ∃ E, E = wtE l x := ⟨_, rfl⟩
  have K1 : Hid (∀ w, GlobQ w → IntsAt w a l → Calls Tryd.prog 14 #[.slice a n c, .agg #[.int .u64 (limb (x) 0 : Nat), .int .u64 (limb (x) 1 : Nat), .int .u64 (limb (x) 2 : Nat), .int .u64 (limb (x) 3 : Nat)]] w fun e w' => ∃ qa qc, e = .returned (.tuple #[.slice qa L qc, .int .i64 E]) ∧ Nums w' qa (wtL l x) ∧ Below w.heap.size w w') := fun w h1 h2 => by rw [hn, hL, hE]; exact weights_all a l c x hl hxR w h1 h2
  have K2 : Hid (∀ w, IntsAt w a l → Calls Tryd.prog 15 #[.slice a n c, .agg #[.int .u64 (limb (x) 0 : Nat), .int .u64 (limb (x) 1 : Nat), .int .u64 (limb (x) 2 : Nat), .int .u64 (limb (x) 3 : Nat)]] w fun e w' => ∃ qa qc, e = .returned (.tuple #[.slice qa L qc, .int .i64 E]) ∧ Nums w' qa (wtL l x) ∧ Below w.heap.size w w') := fun w h2 => by rw [hn, hL, hE]; exact ref_weights_all a l c x hl hxR w h2
  have K3 : Hid (∀ w, GlobQ w → IntsAt w a l → Calls Tryd.prog 16 #[.slice a n c, .int .i64 z] w fun e w' => e = .returned (.tuple #[z4, .int .i64 1]) ∧ Below w.heap.size w w') := fun w h1 h2 => by rw [hn]; exact kw w h1 h2
  have K4 : Hid (∀ (a b : Option Addr) (ca cb : Nat) (w : World), Nums w a (wtL l x) → Nums w b (wtL l x) → Calls Tryd.prog 17 #[.slice a L ca, .slice b L cb] w fun e w' => e = .returned (.bool true) ∧ Below w.heap.size w w') := fun a b ca cb w h1 h2 => by rw [hL]; exact nums_same a b _ ca cb (Nat.le_trans (wtL_len l x) (by decide)) w h1 h2
  have K5 : Hid (∀ w, IntsAt w a l → Calls Tryd.prog 15 #[.slice a n c, .agg #[.int .u64 0, .int .u64 0, .int .u64 0, .int .u64 0]] w fun e w' => ∃ qa qn qc, e = .returned (.tuple #[.slice qa qn qc, .int .i64 0]) ∧ (qn = (wtL l 0).length ∧ Nums w' qa (wtL l 0)) ∧ Below w.heap.size w w') := fun w h2 => by
    have h := ref_weights_all a l c 0 hl (by decide) w h2
    rw [limb_nought, limb_nought, limb_nought, limb_nought, he0] at h
    rw [hn]
    exact h.mono fun e w' ⟨qa, qc, h1, h2, h3⟩ => ⟨qa, _, qc, h1, ⟨rfl, h2⟩, h3⟩
  have K6 : Hid (∀ w, GlobQ w → Calls Tryd.prog 13 #[] w fun e w' => e = .returned (.bool true) ∧ Below w.heap.size w w') := fun w h => line_any w h
  have H0 : Hid (GlobQ w ∧ IntsAt w a l ∧ n = l.length) := ⟨hG, hN, hn⟩
  have n43 : (n : Int) ≤ 17592186044416 := by omega
  have HB : Hid (Below w.heap.size w (w.alloc (.cells #[.int .u64 (limb x 0 : Nat), .int .u64 (limb x 1 : Nat), .int .u64 (limb x 2 : Nat), .int .u64 (limb x 3 : Nat)] 25)) ∧ Own4 (w.alloc (.cells #[.int .u64 (limb x 0 : Nat), .int .u64 (limb x 1 : Nat), .int .u64 (limb x 2 : Nat), .int .u64 (limb x 3 : Nat)] 25)) w.heap.size x) := ⟨below_alloc0 (Below.refl _ _) _, Own4.new _ _ _⟩
  have HI : Hid (z ∉ l) := hz
  clear hb hz
  rw [← hn]
  clear hl hxR hG hN hn hL hE kw he0
  go_enter Tryd.func4, Tryd.ntmps4
  go_wp2_with fail
  refine (K1.out _ (H0.out.1.call HB.out.1) (H0.out.2.1.call HB.out.1)).mono ?_
  rintro e w1 ⟨qa, qc, rfl, hq, hb1⟩
  have H1 : Hid (Below w.heap.size w w1 ∧ Own4 w1 w.heap.size x ∧ Nums w1 qa (wtL l x)) := ⟨below_call0 HB.out.1 hb1, HB.out.2.call hb1, hq⟩
  clear hb1 hq HB K1
  obtain ⟨⟨x0, x1, x2, x3⟩, _, xz⟩ := H1.out.2.1.facts
  go_wp2_with fail
  refine (K2.out _ (H0.out.2.1.call H1.out.1)).mono ?_
  rintro e w2 ⟨ra, rc, rfl, hq, hb2⟩
  have H2 : Hid (Below w.heap.size w w2 ∧ Nums w2 qa (wtL l x) ∧ Nums w2 ra (wtL l x)) := ⟨below_call0 H1.out.1 hb2, H1.out.2.2.call hb2, hq⟩
  clear hb2 hq H1 K2 x0 x1 x2 x3 xz
  go_wp2_with fail
  refine (K3.out _ (H0.out.1.call H2.out.1) (H0.out.2.1.call H2.out.1)).mono ?_
  rintro e w3 ⟨rfl, hb3⟩
  have H3 : Hid (Below w.heap.size w (w3.alloc (.cells #[.int .u64 0, .int .u64 0, .int .u64 0, .int .u64 0] 25)) ∧ Nums (w3.alloc (.cells #[.int .u64 0, .int .u64 0, .int .u64 0, .int .u64 0] 25)) qa (wtL l x) ∧ Nums (w3.alloc (.cells #[.int .u64 0, .int .u64 0, .int .u64 0, .int .u64 0] 25)) ra (wtL l x) ∧ Pend (w3.alloc (.cells #[.int .u64 0, .int .u64 0, .int .u64 0, .int .u64 0] 25)) w3.heap.size) := ⟨below_alloc0 (below_call0 H2.out.1 hb3) _, (H2.out.2.1.call hb3).alloc, (H2.out.2.2.call hb3).alloc, Pend.new' rfl⟩
  clear hb3 H2 K3
  go_wp2_with fail
  refine (K4.out _ _ _ _ _ H3.out.2.1 H3.out.2.2.1).mono ?_
  rintro e w5 ⟨rfl, hb5⟩
  have H5 : Hid (Below w.heap.size w w5 ∧ Pend w5 w3.heap.size) := ⟨below_call0 H3.out.1 hb5, H3.out.2.2.2.call hb5⟩
  clear hb5 H3 K4
  go_wp2_with fail
  refine (K5.out _ (H0.out.2.1.call H5.out.1)).mono ?_
  rintro e w6 ⟨sa, sn, sc, rfl, hq, hb6⟩
  have H6 : Hid (Below w.heap.size w w6 ∧ Pend w6 w3.heap.size ∧ sn = (wtL l 0).length ∧ Nums w6 sa (wtL l 0)) := ⟨below_call0 H5.out.1 hb6, H5.out.2.call hb6, hq⟩
  clear hb6 hq H5 K5
  go_wp2_with fail
  rename_i Kr hKr
  have HKr : Hid _ := hKr
  clear hKr
  go_loopw [52] (fun iv wr => ∃ k : Nat, k ≤ n ∧ iv = .int .i64 (k : Nat) ∧ Below w6.heap.size w6 wr) (fun iv _ => n - (Go.RowKit.intOf iv).toNat)
  case atStart => exact ⟨0, Nat.zero_le _, rfl, Below.refl _ _⟩
  case round =>
    obtain ⟨k, hk, rfl, hB⟩ := hrel
    rename World => wr
    have HR : Hid (Below w6.heap.size w6 wr ∧ Below w.heap.size w wr) := ⟨hB, below_call0 H6.out.1 hB⟩
    clear hB
    by_cases hlt : k < n
    · clear HKr
      have hkl : k < l.length := by rw [← H0.out.2.2]; exact hlt
      have hlt' : (k : Int) < (n : Int) := Int.ofNat_lt.2 hlt
      obtain ⟨p, o, rfl, c0, pz⟩ := (H0.out.2.1.call HR.out.2).get hkl
      obtain ⟨y, hy⟩ : ∃ y, y = (l[k]'hkl) := ⟨_, rfl⟩
      rw [← hy] at c0
      have hne : y ≠ z := fun q => HI.out (by rw [← q, hy]; exact List.getElem_mem hkl)
      have e1 : (y == z) = false := by simpa using hne
      have e2 : ¬ (y = z) := hne
      clear hy
      go_wp2_with fail
      go_roundw
      case rel => first | exact ⟨k + 1, hlt, by go_num, HR.out.1⟩ | ((repeat apply Exists.intro); exact ⟨⟨k + 1, hlt, by go_num, HR.out.1⟩, rfl⟩)
      case measure => simp [intOf]; omega
    · obtain rfl : k = n := by omega
      have hnl : ¬ ((k : Int) < (k : Int)) := Int.lt_irrefl _
      clear hlt hk
      go_wp2_with fail
      refine HKr.out _ _ ?_
      clear HKr
      obtain ⟨⟨s0, s1, s2, s3⟩, ⟨f0, f1, f2, f3⟩, sz⟩ := (H6.out.2.1.call HR.out.1).facts
      have e1 : eq4 0 0 0 0 0 0 0 0 = true := by decide
      go_wp2_with fail
      refine (K6.out _ (H0.out.1.call HR.out.2)).mono ?_
      rintro e w7 ⟨rfl, hb7⟩
      have H7 : Hid (Below w.heap.size w w7) := below_call0 HR.out.2 hb7
      clear hb7 s0 s1 s2 s3 f0 f1 f2 f3 sz
      go_wp2_with fail
      go_ret
      exact ⟨rfl, H7.out⟩
set_option maxRecDepth 100000 in
set_option maxHeartbeats 8000000 in
theorem sw_in (a : Option Addr) (l : List Int) (c x : Nat) (z : Int) (hl : l.length ≤ 17592186044416) (hxR : x < R256) (hb : nodesOk l = true) (i : Nat) (hi : i < l.length) (hz : (l[i]'hi) = z) (w : World) (hG : GlobQ w) (hN : IntsAt w a l) :
    Calls Tryd.prog 4 #[.slice a l.length c, .agg #[.int .u64 (limb (x) 0 : Nat), .int .u64 (limb (x) 1 : Nat), .int .u64 (limb (x) 2 : Nat), .int .u64 (limb (x) 3 : Nat)], .int .i64 z] w fun e w' => e = .returned (.bool true) ∧ Below w.heap.size w w' := by
  have kw := fun w hG hN => wone_in a l c z hl hb i hi hz w hG hN
  have he0 : wtE l 0 = 0 := by unfold wtE; rw [if_pos hb, if_pos QQ_pos]
  obtain ⟨V, hV⟩ : ∃ V, V = wAt l 0 i := ⟨_, rfl⟩
  rw [← hV] at kw
  obtain ⟨n, hn⟩ : ∃ n, n = l.length := ⟨_, rfl⟩
  obtain ⟨L, hL⟩ : ∃ L, L = (wtL l x).length := ⟨_, rfl⟩
  obtain ⟨E, hE⟩ : ∃ E, E = wtE l x := ⟨_, rfl⟩
  have K1 : Hid (∀ w, GlobQ w → IntsAt w a l → Calls Tryd.prog 14 #[.slice a n c, .agg #[.int .u64 (limb (x) 0 : Nat), .int .u64 (limb (x) 1 : Nat), .int .u64 (limb (x) 2 : Nat), .int .u64 (limb (x) 3 : Nat)]] w fun e w' => ∃ qa qc, e = .returned (.tuple #[.slice qa L qc, .int .i64 E]) ∧ Nums w' qa (wtL l x) ∧ Below w.heap.size w w') := fun w h1 h2 => by rw [hn, hL, hE]; exact weights_all a l c x hl hxR w h1 h2
  have K2 : Hid (∀ w, IntsAt w a l → Calls Tryd.prog 15 #[.slice a n c, .agg #[.int .u64 (limb (x) 0 : Nat), .int .u64 (limb (x) 1 : Nat), .int .u64 (limb (x) 2 : Nat), .int .u64 (limb (x) 3 : Nat)]] w fun e w' => ∃ qa qc, e = .returned (.tuple #[.slice qa L qc, .int .i64 E]) ∧ Nums w' qa (wtL l x) ∧ Below w.heap.size w w') := fun w h2 => by rw [hn, hL, hE]; exact ref_weights_all a l c x hl hxR w h2
  have K3 : Hid (∀ w, GlobQ w → IntsAt w a l → Calls Tryd.prog 16 #[.slice a n c, .int .i64 z] w fun e w' => e = .returned (.tuple #[.agg #[.int .u64 (limb (V) 0 : Nat), .int .u64 (limb (V) 1 : Nat), .int .u64 (limb (V) 2 : Nat), .int .u64 (limb (V) 3 : Nat)], .int .i64 0]) ∧ Below w.heap.size w w') := fun w h1 h2 => by rw [hn]; exact kw w h1 h2
  have K4 : Hid (∀ (a b : Option Addr) (ca cb : Nat) (w : World), Nums w a (wtL l x) → Nums w b (wtL l x) → Calls Tryd.prog 17 #[.slice a L ca, .slice b L cb] w fun e w' => e = .returned (.bool true) ∧ Below w.heap.size w w') := fun a b ca cb w h1 h2 => by rw [hL]; exact nums_same a b _ ca cb (Nat.le_trans (wtL_len l x) (by decide)) w h1 h2
  have K5 : Hid (∀ w, IntsAt w a l → Calls Tryd.prog 15 #[.slice a n c, .agg #[.int .u64 0, .int .u64 0, .int .u64 0, .int .u64 0]] w fun e w' => ∃ qa qn qc, e = .returned (.tuple #[.slice qa qn qc, .int .i64 0]) ∧ (qn = (wtL l 0).length ∧ Nums w' qa (wtL l 0)) ∧ Below w.heap.size w w') := fun w h2 => by
    have h := ref_weights_all a l c 0 hl (by decide) w h2
    rw [limb_nought, limb_nought, limb_nought, limb_nought, he0] at h
    rw [hn]
    exact h.mono fun e w' ⟨qa, qc, h1, h2, h3⟩ => ⟨qa, _, qc, h1, ⟨rfl, h2⟩, h3⟩
  have K6 : Hid (∀ w, GlobQ w → Calls Tryd.prog 13 #[] w fun e w' => e = .returned (.bool true) ∧ Below w.heap.size w w') := fun w h => line_any w h
  have H0 : Hid (GlobQ w ∧ IntsAt w a l ∧ n = l.length) := ⟨hG, hN, hn⟩
  have n43 : (n : Int) ≤ 17592186044416 := by omega
  have HB : Hid (Below w.heap.size w (w.alloc (.cells #[.int .u64 (limb x 0 : Nat), .int .u64 (limb x 1 : Nat), .int .u64 (limb x 2 : Nat), .int .u64 (limb x 3 : Nat)] 25)) ∧ Own4 (w.alloc (.cells #[.int .u64 (limb x 0 : Nat), .int .u64 (limb x 1 : Nat), .int .u64 (limb x 2 : Nat), .int .u64 (limb x 3 : Nat)] 25)) w.heap.size x) := ⟨below_alloc0 (Below.refl _ _) _, Own4.new _ _ _⟩
  have HI : Hid (i < l.length ∧ (l[i]'hi) = z ∧ i < n ∧ l.Nodup ∧ nodesOk l = true ∧ V = wAt l 0 i) := ⟨hi, hz, by omega, (nodes_ok hb).1.2, hb, hV⟩
  clear hb hz hV
  rw [← hn]
  clear hl hxR hG hN hn hL hE kw he0
  go_enter Tryd.func4, Tryd.ntmps4
  go_wp2_with fail
  refine (K1.out _ (H0.out.1.call HB.out.1) (H0.out.2.1.call HB.out.1)).mono ?_
  rintro e w1 ⟨qa, qc, rfl, hq, hb1⟩
  have H1 : Hid (Below w.heap.size w w1 ∧ Own4 w1 w.heap.size x ∧ Nums w1 qa (wtL l x)) := ⟨below_call0 HB.out.1 hb1, HB.out.2.call hb1, hq⟩
  clear hb1 hq HB K1
  obtain ⟨⟨x0, x1, x2, x3⟩, _, xz⟩ := H1.out.2.1.facts
  go_wp2_with fail
  refine (K2.out _ (H0.out.2.1.call H1.out.1)).mono ?_
  rintro e w2 ⟨ra, rc, rfl, hq, hb2⟩
  have H2 : Hid (Below w.heap.size w w2 ∧ Nums w2 qa (wtL l x) ∧ Nums w2 ra (wtL l x)) := ⟨below_call0 H1.out.1 hb2, H1.out.2.2.call hb2, hq⟩
  clear hb2 hq H1 K2 x0 x1 x2 x3 xz
  go_wp2_with fail
  refine (K3.out _ (H0.out.1.call H2.out.1) (H0.out.2.1.call H2.out.1)).mono ?_
  rintro e w3 ⟨rfl, hb3⟩
  have H3 : Hid (Below w.heap.size w (w3.alloc (.cells #[.int .u64 (limb V 0 : Nat), .int .u64 (limb V 1 : Nat), .int .u64 (limb V 2 : Nat), .int .u64 (limb V 3 : Nat)] 25)) ∧ Nums (w3.alloc (.cells #[.int .u64 (limb V 0 : Nat), .int .u64 (limb V 1 : Nat), .int .u64 (limb V 2 : Nat), .int .u64 (limb V 3 : Nat)] 25)) qa (wtL l x) ∧ Nums (w3.alloc (.cells #[.int .u64 (limb V 0 : Nat), .int .u64 (limb V 1 : Nat), .int .u64 (limb V 2 : Nat), .int .u64 (limb V 3 : Nat)] 25)) ra (wtL l x) ∧ Own4 (w3.alloc (.cells #[.int .u64 (limb V 0 : Nat), .int .u64 (limb V 1 : Nat), .int .u64 (limb V 2 : Nat), .int .u64 (limb V 3 : Nat)] 25)) w3.heap.size V) := ⟨below_alloc0 (below_call0 H2.out.1 hb3) _, (H2.out.2.1.call hb3).alloc, (H2.out.2.2.call hb3).alloc, Own4.new _ _ _⟩
  clear hb3 H2 K3
  go_wp2_with fail
  refine (K4.out _ _ _ _ _ H3.out.2.1 H3.out.2.2.1).mono ?_
  rintro e w5 ⟨rfl, hb5⟩
  have H5 : Hid (Below w.heap.size w w5 ∧ Own4 w5 w3.heap.size V) := ⟨below_call0 H3.out.1 hb5, H3.out.2.2.2.call hb5⟩
  clear hb5 H3 K4
  go_wp2_with fail
  refine (K5.out _ (H0.out.2.1.call H5.out.1)).mono ?_
  rintro e w6 ⟨sa, sn, sc, rfl, hq, hb6⟩
  have H6 : Hid (Below w.heap.size w w6 ∧ Own4 w6 w3.heap.size V ∧ sn = (wtL l 0).length ∧ Nums w6 sa (wtL l 0)) := ⟨below_call0 H5.out.1 hb6, H5.out.2.call hb6, hq⟩
  clear hb6 hq H5 K5
  go_wp2_with fail
  rename_i Kr hKr
  have HKr : Hid _ := hKr
  clear hKr
  go_loopw [52] (fun iv wr => ∃ k : Nat, k ≤ i ∧ iv = .int .i64 (k : Nat) ∧ Below w6.heap.size w6 wr) (fun iv _ => n - (Go.RowKit.intOf iv).toNat)
  case atStart => exact ⟨0, Nat.zero_le _, rfl, Below.refl _ _⟩
  case round =>
    obtain ⟨k, hk, rfl, hB⟩ := hrel
    rename World => wr
    have HR : Hid (Below w6.heap.size w6 wr ∧ Below w.heap.size w wr) := ⟨hB, below_call0 H6.out.1 hB⟩
    clear hB
    have hkn : k < n := by rw [H0.out.2.2]; exact Nat.lt_of_le_of_lt hk HI.out.1
    have hkl : k < l.length := by rw [← H0.out.2.2]; exact hkn
    have hlt' : (k : Int) < (n : Int) := Int.ofNat_lt.2 hkn
    obtain ⟨p, o, rfl, c0, pz⟩ := (H0.out.2.1.call HR.out.2).get hkl
    obtain ⟨y, hy⟩ : ∃ y, y = (l[k]'hkl) := ⟨_, rfl⟩
    rw [← hy] at c0
    by_cases hlt : k < i
    · clear HKr
      have hne : y ≠ z := fun q => by
        have h1 := List.pairwise_iff_getElem.1 (List.nodup_iff_pairwise_ne.1 HI.out.2.2.2.1) k i hkl HI.out.1 hlt
        exact h1 (by rw [← hy, q]; exact HI.out.2.1.symm)
      have e1 : (y == z) = false := by simpa using hne
      have e2 : ¬ (y = z) := hne
      clear hy
      go_wp2_with fail
      go_roundw
      case rel => first | exact ⟨k + 1, hlt, by go_num, HR.out.1⟩ | ((repeat apply Exists.intro); exact ⟨⟨k + 1, hlt, by go_num, HR.out.1⟩, rfl⟩)
      case measure => simp [intOf]; omega
    · obtain rfl : k = i := by omega
      clear HKr
      obtain rfl : y = z := by rw [hy]; exact HI.out.2.1
      have hkw : k < (wtL l 0).length := by rw [wtL_in HI.out.2.2.2.2.1 QQ_pos, wsL_length]; exact hkl
      have hks : (k : Int) < (sn : Int) := by rw [H6.out.2.2.1]; exact Int.ofNat_lt.2 hkw
      obtain ⟨p', o', rfl, ⟨d0, d1, d2, d3⟩, dz⟩ := (H6.out.2.2.2.call HR.out.1).get hkw
      have ev : ((wtL l 0)[k]'hkw) = V := by
        have e : ∀ (m : List Nat) (hm : k < m.length), m = wsL l 0 → (m[k]'hm) = wAt l 0 k := fun m hm q => by subst q; exact wsL_get l 0 k hm
        rw [e _ hkw (wtL_in HI.out.2.2.2.2.1 QQ_pos), HI.out.2.2.2.2.2]
      rw [ev] at d0 d1 d2 d3
      have HD : Hid (∀ w', Below wr.heap.size wr w' → (w'.cell? ⟨p', o' + k * 4, none⟩ = some (.int .u64 (limb V 0 : Nat)) ∧ w'.cell? ⟨p', o' + k * 4 + 1, none⟩ = some (.int .u64 (limb V 1 : Nat)) ∧ w'.cell? ⟨p', o' + k * 4 + 2, none⟩ = some (.int .u64 (limb V 2 : Nat)) ∧ w'.cell? ⟨p', o' + k * 4 + 3, none⟩ = some (.int .u64 (limb V 3 : Nat))) ∧ p' < w'.heap.size) := fun w' hb => by
        have e := fun j => hb.cell (p := ⟨p', j, none⟩) dz
        exact ⟨⟨(e _).trans d0, (e _).trans d1, (e _).trans d2, (e _).trans d3⟩, Nat.lt_of_lt_of_le dz hb.size⟩
      have HO : Hid (Own4 wr w3.heap.size V) := H6.out.2.1.call HR.out.1
      have e1 := eq4_self' (limb V 0 : Nat) (limb V 1 : Nat) (limb V 2 : Nat) (limb V 3 : Nat)
      clear hy hlt hk d0 d1 d2 d3 dz ev hkw
      go_wp2_with fail
      refine wp_region_N (fun w' => Below wr.heap.size wr w') 13 14 rfl (by kernel_rfl) ?_
      refine wpAnyN_takeF (i := 0) (oi := ?o0) (v := ?v0) ?hi0 (by kernel_rfl) (by kernel_rfl) (by kernel_rfl) (by decide) ?hQ0 ?hy0 (Below.drew (Below.refl _ _)) ?more0
      case hi0 => rw [List.getElem?_toArray]; exact rfl
      case hQ0 => exact fun _ _ _ h => h
      case hy0 =>
        refine Or.inl ⟨by rfl, ?_⟩
        intro w' hSw
        clear hSw
        go_simp
        try with_reducible rfl
      simp only [Act.put, List.setIfInBounds_toArray, List.set_cons_zero, List.set_cons_succ]
      refine wpAnyN_takeF (i := 1) (oi := ?o1) (v := ?v1) ?hi1 (by kernel_rfl) (by kernel_rfl) (by kernel_rfl) (by decide) ?hQ1 ?hy1 (Below.drew (Below.refl _ _)) ?more1
      case hi1 => rw [List.getElem?_toArray]; exact rfl
      case hQ1 => exact fun _ _ _ h => h
      case hy1 =>
        refine Or.inl ⟨by rfl, ?_⟩
        intro w' hSw
        clear hSw
        go_simp
        try with_reducible rfl
      simp only [Act.put, List.setIfInBounds_toArray, List.set_cons_zero, List.set_cons_succ]
      refine wpAnyN_takeF (i := 2) (oi := ?o2) (v := ?v2) ?hi2 (by kernel_rfl) (by kernel_rfl) (by kernel_rfl) (by decide) ?hQ2 ?hy2 (Below.drew (Below.refl _ _)) ?more2
      case hi2 => rw [List.getElem?_toArray]; exact rfl
      case hQ2 => exact fun _ _ _ h => h
      case hy2 =>
        refine Or.inl ⟨by rfl, ?_⟩
        intro w' hSw
        clear hSw
        go_simp
        try with_reducible rfl
      simp only [Act.put, List.setIfInBounds_toArray, List.set_cons_zero, List.set_cons_succ]
      refine wpAnyN_take (i := 3) (oi := ?o3) (v := ?v3) ?hi3 (by kernel_rfl) (by kernel_rfl) (by kernel_rfl) (by kernel_rfl) (by decide) (by kernel_rfl) ?hQ3 ?hy3 (Below.drew (Below.refl _ _)) ?more3
      case hi3 => rw [List.getElem?_toArray]; exact rfl
      case hQ3 => exact fun _ _ _ h => h
      case hy3 =>
        refine Or.inl ⟨by rfl, ?_⟩
        intro w' hSw
        obtain ⟨⟨o0, o1, o2, o3⟩, _, oz⟩ := (HO.out.call hSw).facts
        obtain ⟨⟨d0, d1, d2, d3⟩, dz⟩ := HD.out _ hSw
        clear hSw
        go_simp
        try with_reducible rfl
      simp only [Act.put, List.setIfInBounds_toArray, List.set_cons_zero, List.set_cons_succ]
      refine wpAnyN_takeF (i := 4) (oi := ?o4) (v := ?v4) ?hi4 (by kernel_rfl) (by kernel_rfl) (by kernel_rfl) (by decide) ?hQ4 ?hy4 (Below.drew (Below.refl _ _)) ?more4
      case hi4 => rw [List.getElem?_toArray]; exact rfl
      case hQ4 => exact fun _ _ _ h => h
      case hy4 =>
        refine Or.inl ⟨by rfl, ?_⟩
        intro w' hSw
        clear hSw
        go_simp
        try with_reducible rfl
      simp only [Act.put, List.setIfInBounds_toArray, List.set_cons_zero, List.set_cons_succ]
      refine wpAnyN_takeF (i := 5) (oi := ?o5) (v := ?v5) ?hi5 (by kernel_rfl) (by kernel_rfl) (by kernel_rfl) (by decide) ?hQ5 ?hy5 (Below.drew (Below.refl _ _)) ?more5
      case hi5 => rw [List.getElem?_toArray]; exact rfl
      case hQ5 => exact fun _ _ _ h => h
      case hy5 =>
        refine Or.inl ⟨by rfl, ?_⟩
        intro w' hSw
        clear hSw
        go_simp
        try with_reducible rfl
      simp only [Act.put, List.setIfInBounds_toArray, List.set_cons_zero, List.set_cons_succ]
      refine wpAnyN_takeF (i := 6) (oi := ?o6) (v := ?v6) ?hi6 (by kernel_rfl) (by kernel_rfl) (by kernel_rfl) (by decide) ?hQ6 ?hy6 (Below.drew (Below.refl _ _)) ?more6
      case hi6 => rw [List.getElem?_toArray]; exact rfl
      case hQ6 => exact fun _ _ _ h => h
      case hy6 =>
        refine Or.inl ⟨by rfl, ?_⟩
        intro w' hSw
        clear hSw
        go_simp
        try with_reducible rfl
      simp only [Act.put, List.setIfInBounds_toArray, List.set_cons_zero, List.set_cons_succ]
      refine wpAnyN_take (i := 7) (oi := ?o7) (v := ?v7) ?hi7 (by kernel_rfl) (by kernel_rfl) (by kernel_rfl) (by kernel_rfl) (by decide) (by kernel_rfl) ?hQ7 ?hy7 (Below.drew (Below.refl _ _)) ?more7
      case hi7 => rw [List.getElem?_toArray]; exact rfl
      case hQ7 => exact fun _ _ _ h => h
      case hy7 =>
        refine Or.inl ⟨by rfl, ?_⟩
        intro w' hSw
        obtain ⟨⟨o0, o1, o2, o3⟩, _, oz⟩ := (HO.out.call hSw).facts
        obtain ⟨⟨d0, d1, d2, d3⟩, dz⟩ := HD.out _ hSw
        clear hSw
        go_simp
        try with_reducible rfl
      simp only [Act.put, List.setIfInBounds_toArray, List.set_cons_zero, List.set_cons_succ]
      refine wpAnyN_take (i := 8) (oi := ?o8) (v := ?v8) ?hi8 (by kernel_rfl) (by kernel_rfl) (by kernel_rfl) (by kernel_rfl) (by decide) (by kernel_rfl) ?hQ8 ?hy8 (Below.drew (Below.refl _ _)) ?more8
      case hi8 => rw [List.getElem?_toArray]; exact rfl
      case hQ8 => exact fun _ _ _ h => h
      case hy8 =>
        refine Or.inl ⟨by rfl, ?_⟩
        intro w' hSw
        obtain ⟨⟨o0, o1, o2, o3⟩, _, oz⟩ := (HO.out.call hSw).facts
        obtain ⟨⟨d0, d1, d2, d3⟩, dz⟩ := HD.out _ hSw
        clear hSw
        go_simp
        try with_reducible rfl
      simp only [Act.put, List.setIfInBounds_toArray, List.set_cons_zero, List.set_cons_succ]
      refine wpAnyN_take (i := 9) (oi := ?o9) (v := ?v9) ?hi9 (by kernel_rfl) (by kernel_rfl) (by kernel_rfl) (by kernel_rfl) (by decide) (by kernel_rfl) ?hQ9 ?hy9 (Below.drew (Below.refl _ _)) ?more9
      case hi9 => rw [List.getElem?_toArray]; exact rfl
      case hQ9 => exact fun _ _ _ h => h
      case hy9 =>
        refine Or.inl ⟨by rfl, ?_⟩
        intro w' hSw
        obtain ⟨⟨o0, o1, o2, o3⟩, _, oz⟩ := (HO.out.call hSw).facts
        obtain ⟨⟨d0, d1, d2, d3⟩, dz⟩ := HD.out _ hSw
        clear hSw
        go_simp
        try with_reducible rfl
      simp only [Act.put, List.setIfInBounds_toArray, List.set_cons_zero, List.set_cons_succ]
      refine wpAnyN_take (i := 10) (oi := ?o10) (v := ?v10) ?hi10 (by kernel_rfl) (by kernel_rfl) (by kernel_rfl) (by kernel_rfl) (by decide) (by kernel_rfl) ?hQ10 ?hy10 (Below.drew (Below.refl _ _)) ?more10
      case hi10 => rw [List.getElem?_toArray]; exact rfl
      case hQ10 => exact fun _ _ _ h => h
      case hy10 =>
        refine Or.inl ⟨by rfl, ?_⟩
        intro w' hSw
        obtain ⟨⟨o0, o1, o2, o3⟩, _, oz⟩ := (HO.out.call hSw).facts
        obtain ⟨⟨d0, d1, d2, d3⟩, dz⟩ := HD.out _ hSw
        clear hSw
        go_simp
        try with_reducible rfl
      simp only [Act.put, List.setIfInBounds_toArray, List.set_cons_zero, List.set_cons_succ]
      refine wpAnyN_one (i := 11) (o := ?o11) (by kernel_rfl) ?hi11 ?hw11 ?st11
      case hi11 => rw [List.getElem?_toArray]; exact rfl
      case hw11 => exact rfl
      intro K hK
      have HK11 : Hid _ := hK
      clear hK
      go_simp
      refine (K6.out _ (GlobQ.drew (H0.out.1.call HR.out.2))).mono ?_
      rintro e w7 ⟨rfl, hq⟩
      have H7 : Hid (Below wr.heap.size wr w7) := below_call0 (Below.drew (Below.refl _ _)) hq
      clear hq
      go_wp2_with fail
      refine HK11.out _ _ ⟨fun _ => H7.out, ?_⟩
      clear HK11 K
      try simp only [Act.put, List.setIfInBounds_toArray, List.set_cons_zero, List.set_cons_succ]
      refine wpAnyN_takeF (i := 12) (oi := ?o12) (v := ?v12) ?hi12 (by kernel_rfl) (by kernel_rfl) (by kernel_rfl) (by decide) ?hQ12 ?hy12 H7.out ?more12
      case hi12 => rw [List.getElem?_toArray]; exact rfl
      case hQ12 => exact fun _ _ _ h => h
      case hy12 =>
        refine Or.inl ⟨by rfl, ?_⟩
        intro w' hSw
        clear hSw
        go_simp
        try with_reducible rfl
      simp only [Act.put, List.setIfInBounds_toArray, List.set_cons_zero, List.set_cons_succ]
      refine wpAnyN_one (i := 13) (o := ?o13) (by kernel_rfl) ?hi13 ?hw13 ?st13
      case hi13 => rw [List.getElem?_toArray]; exact rfl
      case hw13 => exact rfl
      intro K hK
      have HK13 : Hid _ := hK
      clear hK
      go_simp
      refine HK13.out _ _ ⟨fun h => absurd h (by decide +kernel), ?_⟩
      clear HK13 K
      try simp only [Act.put, List.setIfInBounds_toArray, List.set_cons_zero, List.set_cons_succ]
      refine wpAnyN_done (by kernel_rfl) ?_ _
      go_wp2_with fail
      go_ret
      exact ⟨rfl, below_call0 HR.out.2 H7.out⟩
theorem shareWeights_any (a : Option Addr) (l : List Int) (c x : Nat) (z : Int) (hl : l.length ≤ 17592186044416) (hxR : x < R256) (w : World) (hG : GlobQ w) (hN : IntsAt w a l) :
    Calls Tryd.prog 4 #[.slice a l.length c, .agg #[.int .u64 (limb (x) 0 : Nat), .int .u64 (limb (x) 1 : Nat), .int .u64 (limb (x) 2 : Nat), .int .u64 (limb (x) 3 : Nat)], .int .i64 z] w fun e w' => e = .returned (.bool true) ∧ Below w.heap.size w w' := by
  by_cases hb : nodesOk l = true
  · by_cases hz : z ∈ l
    · obtain ⟨i, hi, e⟩ := List.getElem_of_mem hz
      exact sw_in a l c x z hl hxR hb i hi e w hG hN
    · exact sw_none a l c x z hl hxR hb hz w hG hN
  · exact sw_bad a l c x z hl hxR (by simpa using hb) w hG hN
end Go.Proofs.YtcdiehnkknmbeaaDoor
