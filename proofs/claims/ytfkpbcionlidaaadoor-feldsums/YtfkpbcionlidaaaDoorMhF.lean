/- Several texts laid together. -/
import Derived.Test.YtfkpbcionlidaaaDoorMhB
namespace Go.Proofs.YtfkpbcionlidaaaDoor
open Go Go.RowKit Go.Lib

/-- What At answers: the value, and the error. -/
def atV (l : List Nat) (x : Nat) : Nat := if 1 ≤ l.length ∧ l.length ≤ 10 ∧ allQ l = true ∧ x < QQ then hoN QQ x l else 0
def atE (l : List Nat) (x : Nat) : Int := if 1 ≤ l.length ∧ l.length ≤ 10 then (if allQ l = true ∧ x < QQ then 0 else 20) else 1
set_option maxRecDepth 100000 in
set_option maxHeartbeats 4000000 in
theorem at_len (a : Option Addr) (l : List Nat) (c x : Nat) (h : ¬ (1 ≤ l.length ∧ l.length ≤ 10)) (w : World) :
  Calls Tryd.prog 28 #[.slice a l.length c, .agg #[.int .u64 (limb (x) 0 : Nat), .int .u64 (limb (x) 1 : Nat), .int .u64 (limb (x) 2 : Nat), .int .u64 (limb (x) 3 : Nat)]] w fun e w' => e = .returned (.tuple #[z4, .int .i64 1]) ∧ Below w.heap.size w w' := by
 have K1 : Hid _ := fun a n c w => isPoly_any a n c w
 have HF : Hid (decide (1 ≤ l.length ∧ l.length ≤ 10) = false) := decide_eq_false h
 obtain ⟨n, hn⟩ : ∃ n, n = l.length := ⟨_, rfl⟩
 rw [← hn] at HF
 rw [← hn]
 clear hn h
 go_enter Tryd.func28, Tryd.ntmps28
 go_wp2_with fail
 refine (K1.out _ _ _ _).mono ?_
 rintro e w1 ⟨rfl, rfl⟩
 rw [HF.out]
 go_wp2_with fail
 refine bodyPost_ret (v := .tuple #[z4, .int .i64 1]) ?_ rfl ⟨rfl, ?_⟩
 ·simp [results, Tryd.results28, go_sem, z4]
 ·((repeat' (first | with_reducible exact Below.refl _ _ | with_reducible refine Below.setCell ?_ ?_ _ | with_reducible refine below_alloc0 ?_ _ | with_reducible refine below_drewN ?_ _ | with_reducible refine Below.drew ?_ | refine below_call0 ?_ (by assumption))) <;> (first | omega | (simp; done) | (simp; omega)))
set_option maxRecDepth 100000 in
set_option maxHeartbeats 4000000 in
theorem at_bad (a : Option Addr) (l : List Nat) (c x : Nat) (h : 1 ≤ l.length ∧ l.length ≤ 10) (hR : ∀ n ∈ l, n < R256) (hb : allQ l = false) (w : World) (hG : GlobQ w) (hN : Nums w a l) :
  Calls Tryd.prog 28 #[.slice a l.length c, .agg #[.int .u64 (limb (x) 0 : Nat), .int .u64 (limb (x) 1 : Nat), .int .u64 (limb (x) 2 : Nat), .int .u64 (limb (x) 3 : Nat)]] w fun e w' => e = .returned (.tuple #[z4, .int .i64 20]) ∧ Below w.heap.size w w' := by
 have K1 : Hid _ := fun a n c w => isPoly_any a n c w
 have HF : Hid (decide (1 ≤ l.length ∧ l.length ≤ 10) = true) := decide_eq_true h
 have k2 := fun (w : World) (hG : GlobQ w) (hN : Nums w a l) => check_not a l c (by omega) hR hb w hG hN
 have H0 : Hid (GlobQ w ∧ Nums w a l) := ⟨hG, hN⟩
 obtain ⟨n, hn⟩ : ∃ n, n = l.length := ⟨_, rfl⟩
 rw [← hn] at HF k2
 have K2 : Hid _ := k2
 rw [← hn]
 clear hn h hR hb hG hN k2
 have HB : Hid (Below w.heap.size w ((w.alloc (.cells #[.int .u64 (limb x 0 : Nat), .int .u64 (limb x 1 : Nat), .int .u64 (limb x 2 : Nat), .int .u64 (limb x 3 : Nat)] 41)).alloc (.cells #[.int .u64 0, .int .u64 0, .int .u64 0, .int .u64 0] 41))) := below_alloc0 (below_alloc0 (Below.refl _ _) _) _
 have HP : Hid (Pend ((w.alloc (.cells #[.int .u64 (limb x 0 : Nat), .int .u64 (limb x 1 : Nat), .int .u64 (limb x 2 : Nat), .int .u64 (limb x 3 : Nat)] 41)).alloc (.cells #[.int .u64 0, .int .u64 0, .int .u64 0, .int .u64 0] 41)) (w.heap.size + 1)) := Pend.new' (by simp)
 go_enter Tryd.func28, Tryd.ntmps28
 go_wp2_with fail
 refine (K1.out _ _ _ _).mono ?_
 rintro e w1 ⟨rfl, rfl⟩
 rw [HF.out]
 go_wp2_with fail
 refine (K2.out _ (H0.out.1.call HB.out) (H0.out.2.call HB.out)).mono ?_
 rintro e w2 ⟨rfl, hb2⟩
 obtain ⟨⟨p0, p1, p2, p3⟩, ⟨f0, f1, f2, f3⟩, pz⟩ := (HP.out.call hb2).facts
 have HW : Hid (Below w.heap.size w w2) := below_call0 HB.out hb2
 clear hb2 HB HP
 go_wp2_with fail
 refine bodyPost_ret (v := .tuple #[z4, .int .i64 20]) ?_ rfl ⟨rfl, ?_⟩
 ·simp [results, Tryd.results28, go_sem, z4, p0, p1, p2, p3]
 ·have HW := HW.out
  ((repeat' (first | with_reducible exact HW | with_reducible exact Below.refl _ _ | exact (And.left (by assumption)) | with_reducible refine Below.setCell ?_ ?_ _ | with_reducible refine below_alloc0 ?_ _ | with_reducible refine below_drewN ?_ _ | with_reducible refine Below.drew ?_ | refine below_call0 ?_ (by assumption))) <;> (first | omega | (simp; done) | (simp; omega)))
set_option maxRecDepth 100000 in
set_option maxHeartbeats 4000000 in
theorem at_xq (a : Option Addr) (l : List Nat) (c x : Nat) (h : 1 ≤ l.length ∧ l.length ≤ 10) (hb : allQ l = true) (hx : ¬ x < QQ) (hxR : x < R256) (w : World) (hG : GlobQ w) (hN : Nums w a l) :
  Calls Tryd.prog 28 #[.slice a l.length c, .agg #[.int .u64 (limb (x) 0 : Nat), .int .u64 (limb (x) 1 : Nat), .int .u64 (limb (x) 2 : Nat), .int .u64 (limb (x) 3 : Nat)]] w fun e w' => e = .returned (.tuple #[z4, .int .i64 20]) ∧ Below w.heap.size w w' := by
 have K1 : Hid _ := fun a n c w => isPoly_any a n c w
 have HF : Hid (decide (1 ≤ l.length ∧ l.length ≤ 10) = true) := decide_eq_true h
 have k2 := fun (w : World) (hG : GlobQ w) (hN : Nums w a l) => check_yes a l c (by omega) hb w hG hN
 have K3 : Hid _ := fun (b : Option Addr) (w : World) (hG : GlobQ w) (hN : Nums w b [x]) => check_not b [x] 1 (by simp) (by simpa using hxR) (by rw [allQ_one]; exact decide_eq_false hx) w hG hN
 have H0 : Hid (GlobQ w ∧ Nums w a l) := ⟨hG, hN⟩
 obtain ⟨n, hn⟩ : ∃ n, n = l.length := ⟨_, rfl⟩
 rw [← hn] at HF k2
 have K2 : Hid _ := k2
 rw [← hn]
 clear hn h hx hxR hb hG hN k2
 have HB : Hid (Below w.heap.size w ((w.alloc (.cells #[.int .u64 (limb x 0 : Nat), .int .u64 (limb x 1 : Nat), .int .u64 (limb x 2 : Nat), .int .u64 (limb x 3 : Nat)] 41)).alloc (.cells #[.int .u64 0, .int .u64 0, .int .u64 0, .int .u64 0] 41))) := below_alloc0 (below_alloc0 (Below.refl _ _) _) _
 have HP : Hid (Pend ((w.alloc (.cells #[.int .u64 (limb x 0 : Nat), .int .u64 (limb x 1 : Nat), .int .u64 (limb x 2 : Nat), .int .u64 (limb x 3 : Nat)] 41)).alloc (.cells #[.int .u64 0, .int .u64 0, .int .u64 0, .int .u64 0] 41)) (w.heap.size + 1) ∧ Own4 ((w.alloc (.cells #[.int .u64 (limb x 0 : Nat), .int .u64 (limb x 1 : Nat), .int .u64 (limb x 2 : Nat), .int .u64 (limb x 3 : Nat)] 41)).alloc (.cells #[.int .u64 0, .int .u64 0, .int .u64 0, .int .u64 0] 41)) w.heap.size x) := ⟨Pend.new' (by simp), (Own4.new _ _ _).alloc⟩
 go_enter Tryd.func28, Tryd.ntmps28
 go_wp2_with fail
 refine (K1.out _ _ _ _).mono ?_
 rintro e w1 ⟨rfl, rfl⟩
 rw [HF.out]
 go_wp2_with fail
 refine (K2.out _ (H0.out.1.call HB.out) (H0.out.2.call HB.out)).mono ?_
 rintro e w2 ⟨rfl, hb2⟩
 have HP2 : Hid (Pend w2 (w.heap.size + 1) ∧ Own4 w2 w.heap.size x ∧ Below w.heap.size w w2) := ⟨HP.out.1.call hb2, HP.out.2.call hb2, below_call0 HB.out hb2⟩
 obtain ⟨⟨p0, p1, p2, p3⟩, ⟨f0, f1, f2, f3⟩, pz⟩ := HP2.out.2.1.facts
 clear hb2 HB HP
 go_wp2_with fail
 refine (K3.out _ _ (H0.out.1.call (below_alloc0 HP2.out.2.2 _)) (Nums.one' rfl)).mono ?_
 rintro e w3 ⟨rfl, hb3⟩
 have HP3 : Hid (Below w.heap.size w w3) := below_call0 (below_alloc0 HP2.out.2.2 _) hb3
 obtain ⟨⟨q0, q1, q2, q3⟩, ⟨g0, g1, g2, g3⟩, qz⟩ := (HP2.out.1.call (below_call0 (below_alloc0 (Below.refl _ _) _) hb3)).facts
 clear hb3 p0 p1 p2 p3 f0 f1 f2 f3 pz
 go_wp2_with fail
 refine bodyPost_ret (v := .tuple #[z4, .int .i64 20]) ?_ rfl ⟨rfl, ?_⟩
 ·simp [results, Tryd.results28, go_sem, z4, q0, q1, q2, q3]
 ·have HW := HP3.out
  ((repeat' (first | with_reducible exact HW | with_reducible exact Below.refl _ _ | exact (And.left (by assumption)) | with_reducible refine Below.setCell ?_ ?_ _ | with_reducible refine below_alloc0 ?_ _ | with_reducible refine below_drewN ?_ _ | with_reducible refine Below.drew ?_ | refine below_call0 ?_ (by assumption))) <;> (first | omega | (simp; done) | (simp; omega)))
set_option maxRecDepth 100000 in
set_option maxHeartbeats 4000000 in
theorem at_in (a : Option Addr) (l : List Nat) (c x : Nat) (h : 1 ≤ l.length ∧ l.length ≤ 10) (hb : allQ l = true) (hx : x < QQ) (w : World) (hG : GlobQ w) (hN : Nums w a l) :
  Calls Tryd.prog 28 #[.slice a l.length c, .agg #[.int .u64 (limb (x) 0 : Nat), .int .u64 (limb (x) 1 : Nat), .int .u64 (limb (x) 2 : Nat), .int .u64 (limb (x) 3 : Nat)]] w fun e w' => e = .returned (.tuple #[.agg #[.int .u64 (limb (hoN QQ x l) 0 : Nat), .int .u64 (limb (hoN QQ x l) 1 : Nat), .int .u64 (limb (hoN QQ x l) 2 : Nat), .int .u64 (limb (hoN QQ x l) 3 : Nat)], .int .i64 0]) ∧ Below w.heap.size w w' := by
 have K1 : Hid _ := fun a n c w => isPoly_any a n c w
 have HF : Hid (decide (1 ≤ l.length ∧ l.length ≤ 10) = true) := decide_eq_true h
 have k2 := fun (w : World) (hG : GlobQ w) (hN : Nums w a l) => check_yes a l c (by omega) hb w hG hN
 have K3 : Hid _ := fun (b : Option Addr) (w : World) (hG : GlobQ w) (hN : Nums w b [x]) => check_yes b [x] 1 (by simp) (by rw [allQ_one]; exact decide_eq_true hx) w hG hN
 have K4 : Hid _ := fun w h => reckoner_any w h
 have H0 : Hid (GlobQ w ∧ Nums w a l ∧ allQ l = true ∧ x < QQ) := ⟨hG, hN, hb, hx⟩
 obtain ⟨n, hn⟩ : ∃ n, n = l.length := ⟨_, rfl⟩
 rw [← hn] at HF k2
 have K2 : Hid _ := k2
 rw [← hn]
 have HL : Hid (n = l.length) := hn
 have n1 : (1 : Int) ≤ (n : Int) := by omega
 have n2 : (n : Int) ≤ 10 := by omega
 obtain ⟨V, hV⟩ : ∃ V, V = hoN QQ x l := ⟨_, rfl⟩
 rw [← hV]
 have HV : Hid (V = hoN QQ x l) := hV
 clear hn h hx hb hG hN k2 hV
 have HB : Hid (Below w.heap.size w ((w.alloc (.cells #[.int .u64 (limb x 0 : Nat), .int .u64 (limb x 1 : Nat), .int .u64 (limb x 2 : Nat), .int .u64 (limb x 3 : Nat)] 41)).alloc (.cells #[.int .u64 0, .int .u64 0, .int .u64 0, .int .u64 0] 41))) := below_alloc0 (below_alloc0 (Below.refl _ _) _) _
 have HP : Hid (Pend ((w.alloc (.cells #[.int .u64 (limb x 0 : Nat), .int .u64 (limb x 1 : Nat), .int .u64 (limb x 2 : Nat), .int .u64 (limb x 3 : Nat)] 41)).alloc (.cells #[.int .u64 0, .int .u64 0, .int .u64 0, .int .u64 0] 41)) (w.heap.size + 1) ∧ Own4 ((w.alloc (.cells #[.int .u64 (limb x 0 : Nat), .int .u64 (limb x 1 : Nat), .int .u64 (limb x 2 : Nat), .int .u64 (limb x 3 : Nat)] 41)).alloc (.cells #[.int .u64 0, .int .u64 0, .int .u64 0, .int .u64 0] 41)) w.heap.size x) := ⟨Pend.new' (by simp), (Own4.new _ _ _).alloc⟩
 go_enter Tryd.func28, Tryd.ntmps28
 go_wp2_with fail
 refine (K1.out _ _ _ _).mono ?_
 rintro e w1 ⟨rfl, rfl⟩
 rw [HF.out]
 go_wp2_with fail
 refine (K2.out _ (H0.out.1.call HB.out) (H0.out.2.1.call HB.out)).mono ?_
 rintro e w2 ⟨rfl, hb2⟩
 have HP2 : Hid (Pend w2 (w.heap.size + 1) ∧ Own4 w2 w.heap.size x ∧ Below w.heap.size w w2) := ⟨HP.out.1.call hb2, HP.out.2.call hb2, below_call0 HB.out hb2⟩
 obtain ⟨⟨p0, p1, p2, p3⟩, ⟨f0, f1, f2, f3⟩, pz⟩ := HP2.out.2.1.facts
 clear hb2 HB HP
 go_wp2_with fail
 refine (K3.out _ _ (H0.out.1.call (below_alloc0 HP2.out.2.2 _)) (Nums.one' rfl)).mono ?_
 rintro e w3 ⟨rfl, hb3⟩
 have HP3 : Hid (Pend w3 (w.heap.size + 1) ∧ Own4 w3 w.heap.size x ∧ Below w.heap.size w w3) := ⟨HP2.out.1.call (below_call0 (below_alloc0 (Below.refl _ _) _) hb3), HP2.out.2.1.call (below_call0 (below_alloc0 (Below.refl _ _) _) hb3), below_call0 (below_alloc0 HP2.out.2.2 _) hb3⟩
 clear hb3 p0 p1 p2 p3 f0 f1 f2 f3 pz
 go_wp2_with fail
 refine (K4.out _ (H0.out.1.call HP3.out.2.2)).mono ?_
 rintro e w4 ⟨g, rfl, hFB, hb4⟩
 have HP4 : Hid (Pend w4 (w.heap.size + 1) ∧ Own4 w4 w.heap.size x ∧ Below w.heap.size w w4 ∧ FieldB w4 g QQ) := ⟨HP3.out.1.call hb4, HP3.out.2.1.call hb4, below_call0 HP3.out.2.2 hb4, hFB⟩
 clear hb4 hFB HP3 HP2
 go_wp2_with fail
 obtain ⟨w5, hw5⟩ : ∃ y, y = (w4.alloc (.cells #[.pointer (some ⟨g, 0, none⟩)] 61)).alloc (.cells #[.int .u64 0, .int .u64 0, .int .u64 0, .int .u64 0] 41) := ⟨_, rfl⟩
 have H5 : Hid (Pend w5 (w.heap.size + 1) ∧ Own4 w5 w.heap.size x ∧ Below w.heap.size w w5 ∧ FieldB w5 g QQ ∧ Ptr1 w5 w4.heap.size g ∧ Own4 w5 (w4.heap.size + 1) 0 ∧ w5.heap.size = w4.heap.size + 2 ∧ g < w4.heap.size ∧ w.heap.size + 1 < w4.heap.size) := by
  have hz : Own4 w5 (w4.heap.size + 1) 0 := by
   rw [hw5]
   have h := Own4.new' (W := w4.alloc (.cells #[.pointer (some ⟨g, 0, none⟩)] 61)) (n := 0) (p := w4.heap.size + 1) (t := 41) (by simp)
   rw [limb_nought, limb_nought, limb_nought, limb_nought] at h
   exact h
  refine ⟨?_, ?_, ?_, ?_, ?_, hz, ?_, HP4.out.2.2.2.2.2, HP4.out.1.2.2⟩
  ·rw [hw5]; exact HP4.out.1.alloc.alloc
  ·rw [hw5]; exact HP4.out.2.1.alloc.alloc
  ·rw [hw5]; exact below_alloc0 (below_alloc0 HP4.out.2.2.1 _) _
  ·rw [hw5]; exact HP4.out.2.2.2.alloc.alloc
  ·rw [hw5]; exact (Ptr1.new _ _ _).alloc
  ·rw [hw5]; simp
 rw [← hw5]
 obtain ⟨R, hR⟩ : ∃ R, R = w4.heap.size := ⟨_, rfl⟩
 rw [← hR] at H5
 rw [← hR]
 clear hR hw5 HP4
 rename_i Kr hKr
 have HKr : Hid _ := hKr
 clear hKr
 go_loopw [10] (fun iv wr => ∃ k : Nat, k ≤ n ∧ iv = .int .i64 ((k : Int) - 1) ∧ Own4 wr (R + 1) (hoN QQ x (l.drop k)) ∧ ButB (R + 1) w5.heap.size w5 wr) (fun iv _ => ((Go.RowKit.intOf iv) + 1).toNat)
 case atStart => first | exact ⟨n, Nat.le_refl _, rfl, by rw [List.drop_of_length_le (by rw [← HL.out]; exact Nat.le_refl _)]; exact H5.out.2.2.2.2.2.1, ButB.refl _ _ _⟩ | exact ⟨n, Nat.le_refl _, by go_num, by rw [List.drop_of_length_le (by rw [← HL.out]; exact Nat.le_refl _)]; exact H5.out.2.2.2.2.2.1, ButB.refl _ _ _⟩
 case round =>
  obtain ⟨k, hk, rfl, hO, hB⟩ := hrel
  rename World => wr
  have hge : w5.heap.size ≤ wr.heap.size := hB.size
  obtain ⟨v, hv⟩ : ∃ v, v = hoN QQ x (l.drop k) := ⟨_, rfl⟩
  rw [← hv] at hO
  have HR : Hid (Own4 wr w.heap.size x ∧ Ptr1 wr R g ∧ Own4 wr (R + 1) v ∧ FieldB wr g QQ ∧ Pend wr (w.heap.size + 1) ∧ Below w.heap.size w wr ∧ ButB (R + 1) w5.heap.size w5 wr ∧ v = hoN QQ x (l.drop k)) := by
   obtain ⟨h1, h2, h3, h4, h5, h6, h7, h8, h9⟩ := H5.out
   refine ⟨hB.own4 h2 (by omega) (by omega), hB.ptr h5 (by omega) (by omega), hO, hB.field h4 (by omega) (by omega), hB.pend h1 (by omega) (by omega), h3.trans (hB.below (by omega) (by omega)), hB, hv⟩
  clear hO hB hge hv
  rcases k with _ | k
  ·have e0 : ((0 : Nat) : Int) - 1 = -1 := by omega
   rw [e0]
   clear hk
   go_wp2_with fail
   refine HKr.out _ _ ?_
   clear HKr
   obtain ⟨⟨q0, q1, q2, q3⟩, ⟨g0, g1, g2, g3⟩, qz⟩ := HR.out.2.2.2.2.1.facts
   obtain ⟨⟨o0, o1, o2, o3⟩, _, oz⟩ := HR.out.2.2.1.facts
   have HVV : Hid (v = V) := by rw [HR.out.2.2.2.2.2.2.2, HV.out]; rfl
   rw [HVV.out] at o0 o1 o2 o3
   go_wp2_with fail
   refine bodyPost_ret (v := .tuple #[.agg #[.int .u64 (limb (V) 0 : Nat), .int .u64 (limb (V) 1 : Nat), .int .u64 (limb (V) 2 : Nat), .int .u64 (limb (V) 3 : Nat)], .int .i64 0]) ?_ rfl ⟨rfl, ?_⟩
   ·simp [results, Tryd.results28, go_sem, q0, q1, q2, q3]
   ·have HW := HR.out.2.2.2.2.2.1
    ((repeat' (first | with_reducible exact HW | with_reducible exact Below.refl _ _ | exact (And.left (by assumption)) | with_reducible refine Below.setCell ?_ ?_ _ | with_reducible refine below_alloc0 ?_ _ | with_reducible refine below_drewN ?_ _ | with_reducible refine Below.drew ?_ | refine below_call0 ?_ (by assumption))) <;> (first | omega | (simp; done) | (simp; omega)))
  ·clear HKr
   have hkl : k < l.length := by rw [← HL.out]; omega
   have e0 : ((k + 1 : Nat) : Int) - 1 = (k : Int) := by omega
   rw [e0]
   have hlt' : (k : Int) < (n : Int) := by omega
   obtain ⟨p, o, rfl, ⟨c0, c1, c2, c3⟩, pz⟩ := (H0.out.2.1.call HR.out.2.2.2.2.2.1).get hkl
   obtain ⟨m, hm⟩ : ∃ m, m = (l[k]'hkl) := ⟨_, rfl⟩
   rw [← hm] at c0 c1 c2 c3
   have HC : Hid (∀ w', Below wr.heap.size wr w' → (w'.cell? ⟨p, o + k * 4, none⟩ = some (.int .u64 (limb m 0 : Nat)) ∧ w'.cell? ⟨p, o + k * 4 + 1, none⟩ = some (.int .u64 (limb m 1 : Nat)) ∧ w'.cell? ⟨p, o + k * 4 + 2, none⟩ = some (.int .u64 (limb m 2 : Nat)) ∧ w'.cell? ⟨p, o + k * 4 + 3, none⟩ = some (.int .u64 (limb m 3 : Nat))) ∧ p < w'.heap.size) := fun w' hb => by
    have e := fun j => hb.cell (p := ⟨p, j, none⟩) pz
    exact ⟨⟨(e _).trans c0, (e _).trans c1, (e _).trans c2, (e _).trans c3⟩, Nat.lt_of_lt_of_le pz hb.size⟩
   have hvq : v < QQ := by rw [HR.out.2.2.2.2.2.2.2]; exact hoN_lt _ _ QQ_pos _
   have hmq : m < QQ := by rw [hm]; exact allQ_get H0.out.2.2.1 hkl
   obtain ⟨t, ht⟩ : ∃ t, t = v * x % QQ := ⟨_, rfl⟩
   obtain ⟨u, hu⟩ : ∃ u, u = (t + m) % QQ := ⟨_, rfl⟩
   have htq : t < QQ := by rw [ht]; exact Nat.mod_lt _ QQ_pos
   have KT : Hid (∀ w, FieldB w g QQ → Calls Tryd.prog 51 #[.agg #[.pointer (some ⟨g, 0, none⟩)], .agg #[.int .u64 (limb (v) 0 : Nat), .int .u64 (limb (v) 1 : Nat), .int .u64 (limb (v) 2 : Nat), .int .u64 (limb (v) 3 : Nat)], .agg #[.int .u64 (limb (x) 0 : Nat), .int .u64 (limb (x) 1 : Nat), .int .u64 (limb (x) 2 : Nat), .int .u64 (limb (x) 3 : Nat)]] w fun e w' => e = .returned (.agg #[.int .u64 (limb (t) 0 : Nat), .int .u64 (limb (t) 1 : Nat), .int .u64 (limb (t) 2 : Nat), .int .u64 (limb (t) 3 : Nat)]) ∧ Below w.heap.size w w') := fun w h => by rw [ht]; exact rtimes_any g v x hvq H0.out.2.2.2 w h
   have KP : Hid (∀ w, FieldB w g QQ → Calls Tryd.prog 25 #[.agg #[.pointer (some ⟨g, 0, none⟩)], .agg #[.int .u64 (limb (t) 0 : Nat), .int .u64 (limb (t) 1 : Nat), .int .u64 (limb (t) 2 : Nat), .int .u64 (limb (t) 3 : Nat)], .agg #[.int .u64 (limb (m) 0 : Nat), .int .u64 (limb (m) 1 : Nat), .int .u64 (limb (m) 2 : Nat), .int .u64 (limb (m) 3 : Nat)]] w fun e w' => e = .returned (.agg #[.int .u64 (limb (u) 0 : Nat), .int .u64 (limb (u) 1 : Nat), .int .u64 (limb (u) 2 : Nat), .int .u64 (limb (u) 3 : Nat)]) ∧ Below w.heap.size w w') := fun w h => by rw [hu]; exact rplus_any g t m htq hmq w h
   have HU : Hid (u = hoN QQ x (l.drop k)) := by rw [hoN_drop QQ x l k hkl, ← hm, ← HR.out.2.2.2.2.2.2.2, ← ht]; exact hu
   clear c0 c1 c2 c3 pz hm hvq hmq htq ht hu e0 hk
   go_wp2_with fail
   refine wp_region_N (fun w' => Below wr.heap.size wr w') 10 11 rfl (by kernel_rfl) ?_
   refine wpAnyN_take (i := 0) (oi := ?o0) (v := ?v0) ?hi0 (by kernel_rfl) (by kernel_rfl) (by kernel_rfl) (by kernel_rfl) (by decide) (by kernel_rfl) ?hQ0 ?hy0 (Below.drew (Below.refl _ _)) ?more0
   case hi0 => rw [List.getElem?_toArray]; exact rfl
   case hQ0 => exact fun _ _ _ h => h
   case hy0 =>
    refine Or.inl ⟨by rfl, ?_⟩
    intro w' hSw
    obtain ⟨⟨x0, x1, x2, x3⟩, _, xz⟩ := (HR.out.1.call hSw).facts
    obtain ⟨r0, rz⟩ := HR.out.2.1.call hSw
    obtain ⟨⟨o0, o1, o2, o3⟩, _, oz⟩ := (HR.out.2.2.1.call hSw).facts
    obtain ⟨⟨c0, c1, c2, c3⟩, cz⟩ := HC.out _ hSw
    clear hSw
    go_simp
    try with_reducible rfl
   simp only [Act.put, List.setIfInBounds_toArray, List.set_cons_zero, List.set_cons_succ]
   refine wpAnyN_take (i := 1) (oi := ?o1) (v := ?v1) ?hi1 (by kernel_rfl) (by kernel_rfl) (by kernel_rfl) (by kernel_rfl) (by decide) (by kernel_rfl) ?hQ1 ?hy1 (Below.drew (Below.refl _ _)) ?more1
   case hi1 => rw [List.getElem?_toArray]; exact rfl
   case hQ1 => exact fun _ _ _ h => h
   case hy1 =>
    refine Or.inl ⟨by rfl, ?_⟩
    intro w' hSw
    obtain ⟨⟨x0, x1, x2, x3⟩, _, xz⟩ := (HR.out.1.call hSw).facts
    obtain ⟨r0, rz⟩ := HR.out.2.1.call hSw
    obtain ⟨⟨o0, o1, o2, o3⟩, _, oz⟩ := (HR.out.2.2.1.call hSw).facts
    obtain ⟨⟨c0, c1, c2, c3⟩, cz⟩ := HC.out _ hSw
    clear hSw
    go_simp
    try with_reducible rfl
   simp only [Act.put, List.setIfInBounds_toArray, List.set_cons_zero, List.set_cons_succ]
   refine wpAnyN_take (i := 2) (oi := ?o2) (v := ?v2) ?hi2 (by kernel_rfl) (by kernel_rfl) (by kernel_rfl) (by kernel_rfl) (by decide) (by kernel_rfl) ?hQ2 ?hy2 (Below.drew (Below.refl _ _)) ?more2
   case hi2 => rw [List.getElem?_toArray]; exact rfl
   case hQ2 => exact fun _ _ _ h => h
   case hy2 =>
    refine Or.inl ⟨by rfl, ?_⟩
    intro w' hSw
    obtain ⟨⟨x0, x1, x2, x3⟩, _, xz⟩ := (HR.out.1.call hSw).facts
    obtain ⟨r0, rz⟩ := HR.out.2.1.call hSw
    obtain ⟨⟨o0, o1, o2, o3⟩, _, oz⟩ := (HR.out.2.2.1.call hSw).facts
    obtain ⟨⟨c0, c1, c2, c3⟩, cz⟩ := HC.out _ hSw
    clear hSw
    go_simp
    try with_reducible rfl
   simp only [Act.put, List.setIfInBounds_toArray, List.set_cons_zero, List.set_cons_succ]
   refine wpAnyN_take (i := 3) (oi := ?o3) (v := ?v3) ?hi3 (by kernel_rfl) (by kernel_rfl) (by kernel_rfl) (by kernel_rfl) (by decide) (by kernel_rfl) ?hQ3 ?hy3 (Below.drew (Below.refl _ _)) ?more3
   case hi3 => rw [List.getElem?_toArray]; exact rfl
   case hQ3 => exact fun _ _ _ h => h
   case hy3 =>
    refine Or.inl ⟨by rfl, ?_⟩
    intro w' hSw
    obtain ⟨⟨x0, x1, x2, x3⟩, _, xz⟩ := (HR.out.1.call hSw).facts
    obtain ⟨r0, rz⟩ := HR.out.2.1.call hSw
    obtain ⟨⟨o0, o1, o2, o3⟩, _, oz⟩ := (HR.out.2.2.1.call hSw).facts
    obtain ⟨⟨c0, c1, c2, c3⟩, cz⟩ := HC.out _ hSw
    clear hSw
    go_simp
    try with_reducible rfl
   simp only [Act.put, List.setIfInBounds_toArray, List.set_cons_zero, List.set_cons_succ]
   refine wpAnyN_takeF (i := 5) (oi := ?o5) (v := ?v5) ?hi5 (by kernel_rfl) (by kernel_rfl) (by kernel_rfl) (by decide) ?hQ5 ?hy5 (Below.drew (Below.refl _ _)) ?more5
   case hi5 => rw [List.getElem?_toArray]; exact rfl
   case hQ5 => exact fun _ _ _ h => h
   case hy5 =>
    refine Or.inl ⟨by rfl, ?_⟩
    intro w' hSw
    clear hSw
    go_simp
    try with_reducible rfl
   simp only [Act.put, List.setIfInBounds_toArray, List.set_cons_zero, List.set_cons_succ]
   refine wpAnyN_takeF (i := 6) (oi := ?o6) (v := ?v6) ?hi6 (by kernel_rfl) (by kernel_rfl) (by kernel_rfl) (by decide) ?hQ6 ?hy6 (Below.drew (Below.refl _ _)) ?more6
   case hi6 => rw [List.getElem?_toArray]; exact rfl
   case hQ6 => exact fun _ _ _ h => h
   case hy6 =>
    refine Or.inl ⟨by rfl, ?_⟩
    intro w' hSw
    clear hSw
    go_simp
    try with_reducible rfl
   simp only [Act.put, List.setIfInBounds_toArray, List.set_cons_zero, List.set_cons_succ]
   refine wpAnyN_take (i := 7) (oi := ?o7) (v := ?v7) ?hi7 (by kernel_rfl) (by kernel_rfl) (by kernel_rfl) (by kernel_rfl) (by decide) (by kernel_rfl) ?hQ7 ?hy7 (Below.drew (Below.refl _ _)) ?more7
   case hi7 => rw [List.getElem?_toArray]; exact rfl
   case hQ7 => exact fun _ _ _ h => h
   case hy7 =>
    refine Or.inl ⟨by rfl, ?_⟩
    intro w' hSw
    obtain ⟨⟨x0, x1, x2, x3⟩, _, xz⟩ := (HR.out.1.call hSw).facts
    obtain ⟨r0, rz⟩ := HR.out.2.1.call hSw
    obtain ⟨⟨o0, o1, o2, o3⟩, _, oz⟩ := (HR.out.2.2.1.call hSw).facts
    obtain ⟨⟨c0, c1, c2, c3⟩, cz⟩ := HC.out _ hSw
    clear hSw
    go_simp
    try with_reducible rfl
   simp only [Act.put, List.setIfInBounds_toArray, List.set_cons_zero, List.set_cons_succ]
   refine wpAnyN_take (i := 8) (oi := ?o8) (v := ?v8) ?hi8 (by kernel_rfl) (by kernel_rfl) (by kernel_rfl) (by kernel_rfl) (by decide) (by kernel_rfl) ?hQ8 ?hy8 (Below.drew (Below.refl _ _)) ?more8
   case hi8 => rw [List.getElem?_toArray]; exact rfl
   case hQ8 => exact fun _ _ _ h => h
   case hy8 =>
    refine Or.inl ⟨by rfl, ?_⟩
    intro w' hSw
    obtain ⟨⟨x0, x1, x2, x3⟩, _, xz⟩ := (HR.out.1.call hSw).facts
    obtain ⟨r0, rz⟩ := HR.out.2.1.call hSw
    obtain ⟨⟨o0, o1, o2, o3⟩, _, oz⟩ := (HR.out.2.2.1.call hSw).facts
    obtain ⟨⟨c0, c1, c2, c3⟩, cz⟩ := HC.out _ hSw
    clear hSw
    go_simp
    try with_reducible rfl
   simp only [Act.put, List.setIfInBounds_toArray, List.set_cons_zero, List.set_cons_succ]
   refine wpAnyN_one (i := 4) (o := ?o4) (by kernel_rfl) ?hi4 ?hw4 ?st4
   case hi4 => rw [List.getElem?_toArray]; exact rfl
   case hw4 => exact rfl
   intro K hK
   have HK4 : Hid _ := hK
   clear hK
   go_simp
   refine (KT.out _ (FieldB.drew HR.out.2.2.2.1)).mono ?_
   rintro e w6 ⟨rfl, hq⟩
   have H6 : Hid (Below wr.heap.size wr w6) := below_call0 (Below.drew (Below.refl _ _)) hq
   clear hq
   go_wp2_with fail
   refine HK4.out _ _ ⟨fun _ => H6.out, ?_⟩
   clear HK4 K
   try simp only [Act.put, List.setIfInBounds_toArray, List.set_cons_zero, List.set_cons_succ]
   refine wpAnyN_one (i := 9) (o := ?o9) (by kernel_rfl) ?hi9 ?hw9 ?st9
   case hi9 => rw [List.getElem?_toArray]; exact rfl
   case hw9 => exact rfl
   intro K hK
   have HK9 : Hid _ := hK
   clear hK
   go_simp
   refine (KP.out _ (HR.out.2.2.2.1.call H6.out)).mono ?_
   rintro e w7 ⟨rfl, hq⟩
   have H7 : Hid (Below wr.heap.size wr w7) := below_call0 H6.out hq
   obtain ⟨⟨o0, o1, o2, o3⟩, ⟨f0, f1, f2, f3⟩, oz⟩ := (HR.out.2.2.1.call H7.out).facts
   clear hq
   go_wp2_with fail
   refine HK9.out _ _ ⟨fun _ => H7.out, ?_⟩
   clear HK9 K
   try simp only [Act.put, List.setIfInBounds_toArray, List.set_cons_zero, List.set_cons_succ]
   refine wpAnyN_one (i := 10) (o := ?o10) (by kernel_rfl) ?hi10 ?hw10 ?st10
   case hi10 => rw [List.getElem?_toArray]; exact rfl
   case hw10 => exact rfl
   intro K hK
   have HK10 : Hid _ := hK
   clear hK
   go_simp
   refine HK10.out _ _ ⟨fun h => absurd h (by decide +kernel), ?_⟩
   clear HK10 K
   try simp only [Act.put, List.setIfInBounds_toArray, List.set_cons_zero, List.set_cons_succ]
   refine wpAnyN_done (by kernel_rfl) ?_ _
   have HE : Hid (Own4 ((((w7.setCell ⟨R + 1, 0, none⟩ (.int .u64 (limb u 0 : Nat))).setCell ⟨R + 1, 1, none⟩ (.int .u64 (limb u 1 : Nat))).setCell ⟨R + 1, 2, none⟩ (.int .u64 (limb u 2 : Nat))).setCell ⟨R + 1, 3, none⟩ (.int .u64 (limb u 3 : Nat))) (R + 1) (hoN QQ x (l.drop k)) ∧ ButB (R + 1) w5.heap.size w5 ((((w7.setCell ⟨R + 1, 0, none⟩ (.int .u64 (limb u 0 : Nat))).setCell ⟨R + 1, 1, none⟩ (.int .u64 (limb u 1 : Nat))).setCell ⟨R + 1, 2, none⟩ (.int .u64 (limb u 2 : Nat))).setCell ⟨R + 1, 3, none⟩ (.int .u64 (limb u 3 : Nat)))) := by
    refine ⟨?_, ?_⟩
    ·rw [← HU.out]; exact (HR.out.2.2.1.call H7.out).put
    ·exact (HR.out.2.2.2.2.2.2.1.call H7.out HR.out.2.2.2.2.2.2.1.size).put4 _ _ _ _
   clear o0 o1 o2 o3 f0 f1 f2 f3 oz
   go_wp2_with fail
   go_roundw
   case rel => first | exact ⟨k, by omega, by go_num, HE.out⟩ | ((repeat apply Exists.intro); exact ⟨⟨k, by omega, by go_num, HE.out⟩, rfl⟩)
   case measure => first | (simp [intOf]; done) | (simp [intOf]; omega)
theorem z4_num : z4 = .agg #[.int .u64 (limb (0) 0 : Nat), .int .u64 (limb (0) 1 : Nat), .int .u64 (limb (0) 2 : Nat), .int .u64 (limb (0) 3 : Nat)] := by rw [limb_nought, limb_nought, limb_nought, limb_nought]; rfl
theorem at_any (a : Option Addr) (l : List Nat) (c x : Nat) (hR : ∀ n ∈ l, n < R256) (hxR : x < R256) (w : World) (hG : GlobQ w) (hN : Nums w a l) :
  Calls Tryd.prog 28 #[.slice a l.length c, .agg #[.int .u64 (limb (x) 0 : Nat), .int .u64 (limb (x) 1 : Nat), .int .u64 (limb (x) 2 : Nat), .int .u64 (limb (x) 3 : Nat)]] w fun e w' => e = .returned (.tuple #[.agg #[.int .u64 (limb (atV l x) 0 : Nat), .int .u64 (limb (atV l x) 1 : Nat), .int .u64 (limb (atV l x) 2 : Nat), .int .u64 (limb (atV l x) 3 : Nat)], .int .i64 (atE l x)]) ∧ Below w.heap.size w w' := by
 by_cases h : 1 ≤ l.length ∧ l.length ≤ 10
 ·have e1 : atE l x = if allQ l = true ∧ x < QQ then 0 else 20 := if_pos h
  by_cases hb : allQ l = true
  ·by_cases hx : x < QQ
   ·have e2 : atV l x = hoN QQ x l := if_pos ⟨h.1, h.2, hb, hx⟩
    rw [e1, e2, if_pos ⟨hb, hx⟩]
    exact at_in a l c x h hb hx w hG hN
   ·have e2 : atV l x = 0 := if_neg fun c => hx c.2.2.2
    rw [e1, e2, if_neg (fun c => hx c.2), ← z4_num]
    exact at_xq a l c x h hb hx hxR w hG hN
  ·have e2 : atV l x = 0 := if_neg fun c => hb c.2.2.1
   rw [e1, e2, if_neg (fun c => hb c.1), ← z4_num]
   exact at_bad a l c x h hR (by simpa using hb) w hG hN
 ·have e1 : atE l x = 1 := if_neg h
  have e2 : atV l x = 0 := if_neg fun c => h ⟨c.1, c.2.1⟩
  rw [e1, e2, ← z4_num]
  exact at_len a l c x h w
end Go.Proofs.YtfkpbcionlidaaaDoor

namespace Go.Proofs.YtfkpbcionlidaaaDoor
open Go Go.RowKit Go.Lib

end Go.Proofs.YtfkpbcionlidaaaDoor

namespace Go.Proofs.YtfkpbcionlidaaaDoor
open Go Go.RowKit Go.Lib

end Go.Proofs.YtfkpbcionlidaaaDoor
