/- The reference's Unpack. -/
import Derived.Test.YtadcjdffjhiniaaPcW
import Derived.Test.YtadcjdffjhiniaaHeldN
namespace Go.Proofs.Ytadcjdffjhiniaa
open Go Go.RowKit Go.Lib

def rupPost (w : World) (s : ByteArray) (e : Ending) (w' : World) : Prop :=
  ∃ a cap, e = .returned (.tuple #[.agg #[.int .i64 (upK s.data.toList), .slice a (upL s.data.toList).length cap], .int .i64 (upE s.data.toList)]) ∧ Strs w' a (upL s.data.toList) ∧ Below w.heap.size w w'
theorem rupPost_no {w w' : World} {s : ByteArray} {e : Int} (h : upE s.data.toList = e) (h0 : e ≠ 0) (hb : Below w.heap.size w w') : rupPost w s (.returned (.tuple #[.agg #[.int .i64 0, .slice none 0 0], .int .i64 e])) w' := by
  obtain ⟨h1, h2, h3⟩ := up_no h h0
  refine ⟨none, 0, ?_, ?_, hb⟩
  · rw [h1, h2, h3]; rfl
  · rw [h2]; intro j s hj; simp at hj
theorem below_set {B : Nat} {a w : World} {b o : Nat} {v : Value} (h : Below B a w) (hb : B ≤ b) : Below B a (w.setCell ⟨b, o, none⟩ v) := h.setCell hb v
/-- The record under way: the answer's block, and the record's. -/
def RecAt (w wr : World) (x : UInt8) (a : Option Addr) (m cap : Nat) (acc : List ByteArray) : Prop :=
  (wr.cell? ⟨w.heap.size, 0, none⟩ = some (.int .i64 0) ∧ wr.cell? ⟨w.heap.size, 1, none⟩ = some (.slice none 0 0)) ∧ (wr.cell? ⟨w.heap.size + 1, 0, none⟩ = some (.int .i64 (x.toNat : Nat)) ∧ wr.cell? ⟨w.heap.size + 1, 1, none⟩ = some (.slice a m cap)) ∧
  (∀ j, wr.frozen? ⟨w.heap.size, j, none⟩ = false) ∧ (∀ j, wr.frozen? ⟨w.heap.size + 1, j, none⟩ = false) ∧ m = acc.length ∧ RowS wr (w.heap.size + 2) a acc cap ∧ w.heap.size + 2 ≤ wr.heap.size ∧ Below w.heap.size w wr
theorem RecAt.drewN {w wr : World} {x : UInt8} {a : Option Addr} {m cap n : Nat} {acc : List ByteArray} (h : RecAt w wr x a m cap acc) : RecAt w (wr.drewN n) x a m cap acc := ⟨h.1, h.2.1, h.2.2.1, h.2.2.2.1, h.2.2.2.2.1, h.2.2.2.2.2.1, h.2.2.2.2.2.2.1, below_drewN h.2.2.2.2.2.2.2 _⟩
theorem RecAt.step {w wq w5 : World} {x : UInt8} {a a5 : Option Addr} {m m5 cap cap5 : Nat} {acc : List ByteArray} {u : ByteArray} (h : RecAt w wq x a m cap acc) (hR : RowS w5 (w.heap.size + 2) a5 (acc ++ [u]) cap5) (hm : m5 = m + 1) (hb : Below (w.heap.size + 2) wq w5) :
    RecAt w (w5.setCell ⟨w.heap.size + 1, 1, none⟩ (.slice a5 m5 cap5)) x a5 m5 cap5 (acc ++ [u]) := by
  obtain ⟨⟨q0, q1⟩, ⟨r0, r1⟩, z0, z1, hm0, hRow, hsz, hB⟩ := h
  have c : ∀ b o, b < w.heap.size + 2 → w5.cell? ⟨b, o, none⟩ = wq.cell? ⟨b, o, none⟩ := fun b o hlt => hb.cell (p := ⟨b, o, none⟩) hlt
  refine ⟨⟨?_, ?_⟩, ⟨?_, ?_⟩, fun j => ?_, fun j => ?_, ?_, ownsRow_setCell_below hR (by show w.heap.size + 1 < w.heap.size + 2; omega) _, ?_, ?_⟩
  · rw [World.cell?_setCell_other _ _ _ _ (by intro k; injection k with k1 _ _; omega), c _ _ (by omega)]; exact q0
  · rw [World.cell?_setCell_other _ _ _ _ (by intro k; injection k with k1 _ _; omega), c _ _ (by omega)]; exact q1
  · rw [World.cell?_setCell_other _ _ _ _ (by intro k; injection k with _ k2 _; omega), c _ _ (by omega)]; exact r0
  · exact World.cell?_setCell_same _ _ _ ((c _ _ (by omega)).trans r1)
  · rw [World.frozen?_setCell]; exact (hb.frozen (p := ⟨w.heap.size, j, none⟩) (by show w.heap.size < w.heap.size + 2; omega)).trans (z0 j)
  · rw [World.frozen?_setCell]; exact (hb.frozen (p := ⟨w.heap.size + 1, j, none⟩) (by show w.heap.size + 1 < w.heap.size + 2; omega)).trans (z1 j)
  · rw [hm, hm0, List.length_append]; rfl
  · rw [World.size_setCell]; exact Nat.le_trans hsz hb.size
  · exact (hB.trans (hb.mono (by omega))).setCell (by show w.heap.size ≤ w.heap.size + 1; omega) _
set_option maxRecDepth 100000 in
set_option maxHeartbeats 4000000 in
theorem runpack_pre (s : ByteArray) (hs : s.size < 140737488351233) (hbad : 20000 < s.size ∨ s.size < 2) (w : World) :
    Calls Try.prog 34 #[.string s] w fun e w' => rupPost w s e w' := by
  have s47 : (s.size : Int) < 140737488351233 := by omega
  by_cases h1 : 20000 < s.size
  · have h1' : (20000 : Int) < (s.size : Int) := by omega
    have HE : Hid (upE s.data.toList = 2) := by
      unfold upE; rw [ba_len, if_pos h1]; exact rfl
    clear h1 hs hbad
    go_enter Try.func34, Try.ntmps34
    go_wp2_with fail
    refine bodyPost_ret (v := .tuple #[.agg #[.int .i64 0, .slice none 0 0], .int .i64 2]) ?_ rfl (rupPost_no HE.out (by decide) ?_)
    · simp [results, Try.results34, go_sem]
    · exact below_alloc0 (Below.refl _ _) _
  have h1' : ¬ ((20000 : Int) < (s.size : Int)) := by omega
  have h2' : (s.size : Int) < 2 := by omega
  have HE : Hid (upE s.data.toList = 90) := by
    unfold upE
    rw [ba_len, if_neg h1]
    have := ba_len s
    match e : s.data.toList with
    | [] => exact rfl
    | [x] => exact rfl
    | x :: y :: r => rw [e] at this; simp at this; omega
  clear h1 hs hbad
  go_enter Try.func34, Try.ntmps34
  go_wp2_with fail
  refine bodyPost_ret (v := .tuple #[.agg #[.int .i64 0, .slice none 0 0], .int .i64 90]) ?_ rfl (rupPost_no HE.out (by decide) ?_)
  · simp [results, Try.results34, go_sem]
  · exact below_alloc0 (Below.refl _ _) _
theorem byte_at {s : ByteArray} {j : Nat} {x : UInt8} {r : List UInt8} (h : s.data.toList.drop j = x :: r) : ∀ q, (s[j]'q) = x := by
  intro q
  have h1 : (s.data.toList.drop j)[0]? = some x := by rw [h]; rfl
  rw [List.getElem?_drop, Nat.add_zero, List.getElem?_eq_getElem (by rw [ba_len]; exact q)] at h1
  exact Option.some.inj h1
theorem runpack_form (s : ByteArray) (x y : UInt8) (r : List UInt8) (hxy : s.data.toList = x :: y :: r) (hs : s.size ≤ 20000) (hbad : kindB (x.toNat : Nat) = false ∨ 40 < y.toNat) (w : World) :
    Calls Try.prog 34 #[.string s] w fun e w' => rupPost w s e w' := by
  have hlen := ba_len s
  rw [hxy] at hlen
  simp only [List.length_cons] at hlen
  have HE : Hid (upE s.data.toList = 4) := by
    rw [hxy, upE_two (by simp only [List.length_cons]; omega)]
    have : (!(kindB (x.toNat : Nat)) || decide (40 < y.toNat)) = true := by
      rcases hbad with h | h
      · rw [h]; rfl
      · rw [decide_eq_true h, Bool.or_true]
    rw [this]; exact rfl
  obtain ⟨b0, b1⟩ := byte0 hxy
  have h1' : ¬ ((20000 : Int) < (s.size : Int)) := by omega
  have h2' : ¬ ((s.size : Int) < 2) := by omega
  have t2 : 2 ≤ s.size := by omega
  have xb : (x.toNat : Int) < 256 := by have := x.toNat_lt; omega
  have yb : (y.toNat : Int) < 256 := by have := y.toNat_lt; omega
  have hc : (x.toNat : Int) < 1 ∨ (63 : Int) < (x.toNat : Int) ∨ (40 : Int) < (y.toNat : Int) := by
    rcases hbad with h | h
    · have : ¬ (1 ≤ ((x.toNat : Nat) : Int) ∧ ((x.toNat : Nat) : Int) ≤ 63) := of_decide_eq_false h
      omega
    · omega
  clear hlen hs hbad hxy
  by_cases c1 : (x.toNat : Int) < 1
  · have c1' : x.toNat = 0 := by omega
    clear hc
    go_enter Try.func34, Try.ntmps34
    go_wp2_with fail
    refine bodyPost_ret (v := .tuple #[.agg #[.int .i64 0, .slice none 0 0], .int .i64 4]) ?_ rfl (rupPost_no HE.out (by decide) ?_)
    · simp [results, Try.results34, go_sem]
    · exact below_alloc0 (Below.refl _ _) _
  by_cases c2 : (63 : Int) < (x.toNat : Int)
  · clear hc
    go_enter Try.func34, Try.ntmps34
    go_wp2_with fail
    refine bodyPost_ret (v := .tuple #[.agg #[.int .i64 0, .slice none 0 0], .int .i64 4]) ?_ rfl (rupPost_no HE.out (by decide) ?_)
    · simp [results, Try.results34, go_sem]
    · exact below_alloc0 (Below.refl _ _) _
  have c3 : (40 : Int) < (y.toNat : Int) := by omega
  clear hc
  go_enter Try.func34, Try.ntmps34
  go_wp2_with fail
  refine bodyPost_ret (v := .tuple #[.agg #[.int .i64 0, .slice none 0 0], .int .i64 4]) ?_ rfl (rupPost_no HE.out (by decide) ?_)
  · simp [results, Try.results34, go_sem]
  · exact below_alloc0 (Below.refl _ _) _
set_option maxRecDepth 100000 in
set_option maxHeartbeats 4000000 in
theorem runpack_main (s : ByteArray) (x y : UInt8) (r : List UInt8) (hxy : s.data.toList = x :: y :: r) (hs : s.size ≤ 20000) (hk : kindB (x.toNat : Nat) = true) (h40 : ¬ 40 < y.toNat) (w : World) :
    Calls Try.prog 34 #[.string s] w fun e w' => rupPost w s e w' := by
  have hlen := ba_len s
  rw [hxy] at hlen
  simp only [List.length_cons] at hlen
  have HX : Hid (s.data.toList = x :: y :: r ∧ upE s.data.toList = (if (splitL y.toNat r).2.2 ≠ 0 then (splitL y.toNat r).2.2 else if (splitL y.toNat r).2.1 ≠ [] then 4 else 0)) := by
    refine ⟨hxy, ?_⟩
    rw [hxy, upE_two (by simp only [List.length_cons]; omega), hk, decide_eq_false h40]; exact rfl
  obtain ⟨b0, b1⟩ := byte0 hxy
  have hk' : 1 ≤ ((x.toNat : Nat) : Int) ∧ ((x.toNat : Nat) : Int) ≤ 63 := of_decide_eq_true hk
  have c1 : ¬ ((x.toNat : Int) < 1) := by omega
  have c2 : ¬ ((63 : Int) < (x.toNat : Int)) := by omega
  have c3 : ¬ ((40 : Int) < (y.toNat : Int)) := by omega
  have h1' : ¬ ((20000 : Int) < (s.size : Int)) := by omega
  have h2' : ¬ ((s.size : Int) < 2) := by omega
  have t2 : 2 ≤ s.size := by omega
  have xb : (x.toNat : Int) < 256 := by omega
  have yb : (y.toNat : Int) < 256 := by omega
  have HN : Hid (s.size ≤ 20000 ∧ y.toNat ≤ 40 ∧ 2 ≤ s.size) := ⟨hs, by omega, by omega⟩
  have HR0 : Hid (RecAt w ((w.alloc (.cells #[.int .i64 0, .slice none 0 0] 83)).alloc (.cells #[.int .i64 (x.toNat : Nat), .slice none 0 0] 83)) x none 0 0 []) := by
    refine ⟨⟨?_, ?_⟩, ⟨?_, ?_⟩, fun j => ?_, fun j => ?_, rfl, RowS.nil _ _, ?_, below_alloc0 (below_alloc0 (Below.refl _ _) _) _⟩ <;> simp [go_sem]
  clear hlen hs hk hk' h40 hxy
  go_enter Try.func34, Try.ntmps34
  go_wp2_with fail
  rename_i Kr hKr
  have HKr : Hid _ := hKr
  clear hKr
  go_loopw [5, 6] (fun pv iv wr => ∃ (i p m cap : Nat) (a : Option Addr) (acc : List ByteArray), i ≤ y.toNat ∧ iv = .int .i64 (i : Nat) ∧ pv = .int .i64 (p : Nat) ∧ 2 ≤ p ∧ p ≤ s.size ∧ acc.length = i ∧ RecAt w wr x a m cap acc ∧ splitL y.toNat r = (acc ++ (splitL (y.toNat - i) (s.data.toList.drop p)).1, (splitL (y.toNat - i) (s.data.toList.drop p)).2))
    (fun _ iv _ => y.toNat - (Go.RowKit.intOf iv).toNat)
  case atStart => exact ⟨0, 2, 0, 0, none, [], Nat.zero_le _, rfl, rfl, Nat.le_refl _, HN.out.2.2, rfl, HR0.out, by rw [HX.out.1]; rfl⟩
  case round =>
    obtain ⟨i, p, m, cap, a, acc, hi', rfl, rfl, hp2, hps, hacc, hR, hsp⟩ := hrel
    rename World => wr
    clear HR0
    have HI : Hid (2 ≤ p ∧ p ≤ s.size ∧ acc.length = i ∧ RecAt w wr x a m cap acc ∧ splitL y.toNat r = (acc ++ (splitL (y.toNat - i) (s.data.toList.drop p)).1, (splitL (y.toNat - i) (s.data.toList.drop p)).2)) := ⟨hp2, hps, hacc, hR, hsp⟩
    obtain ⟨⟨q0, q1⟩, ⟨r0, r1⟩, z0, z1', hm, hRow, hsz, hB⟩ := hR
    have f00 := z0 0
    have f01 := z0 1
    have pb : (p : Int) ≤ (s.size : Int) := by omega
    have p20 : (p : Int) ≤ 20000 := by have := HN.out.1; omega
    have HBL : Hid (Below w.heap.size w wr) := hB
    have z1 := z1' 1
    have HZ1 : Hid (∀ j, wr.frozen? ⟨w.heap.size + 1, j, none⟩ = false) := z1'
    clear hp2 hps hacc hsp z0 z1' hm hRow hsz hB
    clear c1 c2 c3 h1' h2'
    have h1' : (s.size : Int) ≤ 20000 := by have := HN.out.1; omega
    by_cases hlt : i < y.toNat
    · have hlt' : (i : Int) < (y.toNat : Int) := Int.ofNat_lt.2 hlt
      have hdl : (s.data.toList.drop p).length = s.size - p := by rw [List.length_drop, ba_len]
      have ey : y.toNat - i = (y.toNat - i - 1) + 1 := by omega
      by_cases h2 : (s.size : Int) - (p : Int) < 2
      · have HE : Hid (upE s.data.toList = 90) := by
          have h := HI.out.2.2.2.2
          rw [ey, splitL_short _ _ (by rw [hdl]; omega)] at h
          rw [HX.out.2, h]; exact rfl
        clear hlt hdl ey HKr
        go_wp2_with fail
        refine bodyPost_ret (v := .tuple #[.agg #[.int .i64 0, .slice none 0 0], .int .i64 90]) ?_ rfl (rupPost_no HE.out (by decide) ?_)
        · simp [results, Try.results34, go_sem, q0, q1]
        · first | exact HBL.out | exact below_set (below_set HBL.out (Nat.le_refl _)) (Nat.le_refl _)
      obtain ⟨x', y', r', hxy⟩ : ∃ x' y' r', s.data.toList.drop p = x' :: y' :: r' := by
        match e : s.data.toList.drop p with
        | [] => rw [e] at hdl; simp at hdl; omega
        | [x] => rw [e] at hdl; simp at hdl; omega
        | x :: y :: r => exact ⟨x, y, r, rfl⟩
      have hrl : r'.length = s.size - p - 2 := by rw [hxy] at hdl; simp only [List.length_cons] at hdl; omega
      have hsp := HI.out.2.2.2.2
      rw [hxy] at hsp
      have bp : ∀ q, (s[p]'q) = x' := byte_at hxy
      have hxy1 : s.data.toList.drop (p + 1) = y' :: r' := by
        rw [← List.drop_drop, hxy]; rfl
      have hxy2 : s.data.toList.drop (p + 2) = r' := by
        rw [← List.drop_drop, hxy]; rfl
      have bq : ∀ q, (s[p + 1]'q) = y' := byte_at hxy1
      have pl : p < s.size := by omega
      have pl1 : p + 1 < s.size := by omega
      have pl' : (p : Int) < (s.size : Int) := by omega
      have pl1' : (p : Int) + 1 < (s.size : Int) := by omega
      have xb' : (x'.toNat : Int) < 256 := by have := x'.toNat_lt; omega
      have yb' : (y'.toNat : Int) < 256 := by have := y'.toNat_lt; omega
      obtain ⟨N, hN⟩ : ∃ N, N = 256 * x'.toNat + y'.toNat := ⟨_, rfl⟩
      have hor : (256 : Int) * (x'.toNat : Int) + (y'.toNat : Int) = (N : Nat) := by omega
      have HN2 : Hid (N = 256 * x'.toNat + y'.toNat ∧ r'.length = s.size - p - 2) := ⟨hN, hrl⟩
      have e1 : ((p : Int) + 1).toNat = p + 1 := by omega
      clear e1 hxy hxy1 hdl hrl hN
      by_cases h8 : 8000 < N
      · have h8' : (8000 : Int) < (N : Int) := by omega
        have HE : Hid (upE s.data.toList = 2) := by
          rw [ey, splitL_long _ _ _ _ (by rw [← HN2.out.1]; exact h8)] at hsp
          rw [HX.out.2, hsp]; exact rfl
        clear hlt ey HKr hsp h8 hxy2
        go_wp2_with fail
        go_quiet (fail)
        go_wp2_with fail
        refine bodyPost_ret (v := .tuple #[.agg #[.int .i64 0, .slice none 0 0], .int .i64 2]) ?_ rfl (rupPost_no HE.out (by decide) ?_)
        · simp [results, Try.results34, go_sem, q0, q1]
        · first | exact below_drewN HBL.out _ | exact below_set (below_set (below_drewN HBL.out _) (Nat.le_refl _)) (Nat.le_refl _)
      have h8' : ¬ ((8000 : Int) < (N : Int)) := by omega
      by_cases h9 : (s.size : Int) - (p : Int) - 2 < (N : Int)
      · have HE : Hid (upE s.data.toList = 90) := by
          rw [ey, splitL_cut _ _ _ _ (by rw [← HN2.out.1]; exact h8) (by rw [← HN2.out.1, HN2.out.2]; omega)] at hsp
          rw [HX.out.2, hsp]; exact rfl
        clear hlt ey HKr hsp h8 hxy2
        go_wp2_with fail
        go_quiet (fail)
        go_wp2_with fail
        refine bodyPost_ret (v := .tuple #[.agg #[.int .i64 0, .slice none 0 0], .int .i64 90]) ?_ rfl (rupPost_no HE.out (by decide) ?_)
        · simp [results, Try.results34, go_sem, q0, q1]
        · first | exact below_drewN HBL.out _ | exact below_set (below_set (below_drewN HBL.out _) (Nat.le_refl _)) (Nat.le_refl _)
      clear HKr
      have hle : N ≤ s.size - p - 2 := by omega
      obtain ⟨u, hu⟩ : ∃ u, u = ofL (r'.take N) := ⟨_, rfl⟩
      obtain ⟨P2, hP2⟩ : ∃ P2, P2 = p + 2 := ⟨_, rfl⟩
      obtain ⟨P3, hP3⟩ : ∃ P3, P3 = p + 2 + N := ⟨_, rfl⟩
      have x1 : s.extract P2 P3 = u := by
        rw [hu]
        apply ba_ext
        rw [ba_extract, hP2, hxy2, ofL_data, hP3, Nat.add_sub_cancel_left]
      have i2 : (p : Int) + 2 = (P2 : Nat) := by omega
      have i3 : (P2 : Int) + (N : Int) = (P3 : Nat) := by omega
      have i4 : (P2 : Int) ≤ (P3 : Int) := by omega
      have i5 : (P3 : Int) ≤ (s.size : Int) := by omega
      have i6 : P2 ≤ P3 := by omega
      have i7 : P3 ≤ s.size := by omega
      have HE : Hid (splitL y.toNat r = ((acc ++ [u]) ++ (splitL (y.toNat - (i + 1)) (s.data.toList.drop P3)).1, (splitL (y.toNat - (i + 1)) (s.data.toList.drop P3)).2) ∧ 2 ≤ P3 ∧ P3 ≤ s.size) := by
        refine ⟨?_, by omega, i7⟩
        rw [ey, splitL_one _ _ _ _ (by rw [← HN2.out.1]; exact h8) (by rw [← HN2.out.1, HN2.out.2]; omega), ← HN2.out.1] at hsp
        have e3 : s.data.toList.drop P3 = r'.drop N := by rw [hP3, ← List.drop_drop, hxy2]
        rw [hsp, e3, show y.toNat - (i + 1) = y.toNat - i - 1 from by omega, hu]
        exact congrArg (fun z => (z, (splitL (y.toNat - i - 1) (r'.drop N)).2)) (List.append_cons acc _ _)
      have hsz : ∀ w, (Go.sizeOf 9).run Try.prog w = .ok 1 w := fun _ => by kernel_rfl
      have hRA := HI.out.2.2.2.1
      have HR : Hid (m = acc.length ∧ RowS wr (w.heap.size + 2) a acc cap ∧ w.heap.size + 2 ≤ wr.heap.size) := ⟨hRA.2.2.2.2.1, hRA.2.2.2.2.2.1, hRA.2.2.2.2.2.2.1⟩
      have hb0 : Below wr.heap.size wr ((wr.drewN 0).alloc (.cells #[.string u] 9)) := below_alloc0 (below_drewN (Below.refl _ _) 0) _
      clear hb0 hRA ey hsp h8 hxy2 hu hP2 hP3 hle
      go_wp2_with fail
      go_quiet (fail)
      go_wp2_with fail
      obtain ⟨wq, hwq⟩ : ∃ wq, wq = wr.drewN nq := ⟨_, rfl⟩
      rw [← hwq]
      have HQ : Hid (RecAt w wq x a m cap acc) := by rw [hwq]; exact HI.out.2.2.2.1.drewN
      clear hwq q0 q1 r0 r1 f00 f01 z1 HR
      have r1 := HQ.out.2.1.2
      have z1 := HQ.out.2.2.2.1 1
      have w2 : IntKind.i64.wrap (P2 : Int) = (P2 : Int) := by rw [IntKind.wrap_i64]; omega
      have w3 : IntKind.i64.wrap (P3 : Int) = (P3 : Int) := by rw [IntKind.wrap_i64]; omega
      have HR : Hid (m = acc.length) := HQ.out.2.2.2.2.1
      have HQ0 : wq.drew.cell? ⟨w.heap.size + 1, 1, none⟩ = some (.slice a m cap) ∧ Below wq.heap.size wq wq.drew := ⟨r1, (Below.refl _ _).drew⟩
      have HQ2 : (wq.drew.alloc (.cells #[.string u] 9)).cell? ⟨w.heap.size + 1, 1, none⟩ = some (.slice a m cap) ∧ Below wq.heap.size wq (wq.drew.alloc (.cells #[.string u] 9)) := ⟨(World.cell?_alloc_lt wq.drew _ ⟨w.heap.size + 1, 1, none⟩ (by have := HQ.out.2.2.2.2.2.2.1; show w.heap.size + 1 < wq.heap.size; omega)).trans r1, below_alloc0 ((Below.refl _ _).drew) _⟩
      have HA2 : Hid (RowS (wq.drew.alloc (.cells #[.string u] 9)) (w.heap.size + 2) a acc cap ∧ w.heap.size + 2 ≤ (wq.drew.alloc (.cells #[.string u] 9)).heap.size ∧ (wq.drew.alloc (.cells #[.string u] 9)).cell? ⟨wq.heap.size, 0, none⟩ = some (.string u) ∧ acc.length ≤ 1000000 ∧ w.heap.size + 2 ≤ wq.heap.size) :=
        ⟨HQ.out.2.2.2.2.2.1.call HQ2.2, Nat.le_trans HQ.out.2.2.2.2.2.2.1 HQ2.2.size, by simp [go_sem], by have h1 := HI.out.2.2.1; have h2 := HN.out.2.1; omega, HQ.out.2.2.2.2.2.2.1⟩
      refine wp_region_N (fun w' => w'.cell? ⟨w.heap.size + 1, 1, none⟩ = some (.slice a m cap) ∧ Below wq.heap.size wq w') 11 14 rfl (by kernel_rfl) ?_
      refine wpAnyN_takeF (i := 0) (oi := ?o0) (v := ?v0) ?hi0 (by kernel_rfl) (by kernel_rfl) (by kernel_rfl) (by decide) ?hQ0 ?hy0 HQ0 ?more0
      case hi0 => rw [List.getElem?_toArray]; exact rfl
      case hQ0 => exact fun _ _ _ h => h
      case hy0 =>
        refine Or.inl ⟨by rfl, ?_⟩
        intro w' hSw
        clear hSw
        go_simp
        try with_reducible rfl
      simp only [Act.put, List.setIfInBounds_toArray, List.set_cons_zero, List.set_cons_succ]
      refine wpAnyN_takeL (i := 1) (oi := ?o1) (v := ?v1) [11] ?hi1 (by kernel_rfl) (by kernel_rfl) (by kernel_rfl) (by kernel_rfl) (by decide) (by decide) (by kernel_rfl) ?hQ1 ?hy1 HQ0 ?more1
      case hi1 => rw [List.getElem?_toArray]; exact rfl
      case hQ1 => exact fun _ _ _ h => h
      case hy1 =>
        refine Or.inl ⟨by rfl, ?_⟩
        intro w' hSw
        obtain ⟨e0, -⟩ := hSw
        go_simp
        try with_reducible rfl
      simp only [Act.put, List.setIfInBounds_toArray, List.set_cons_zero, List.set_cons_succ]
      refine wpAnyN_takeF (i := 2) (oi := ?o2) (v := ?v2) ?hi2 (by kernel_rfl) (by kernel_rfl) (by kernel_rfl) (by decide) ?hQ2 ?hy2 HQ0 ?more2
      case hi2 => rw [List.getElem?_toArray]; exact rfl
      case hQ2 => exact fun _ _ _ h => h
      case hy2 =>
        refine Or.inl ⟨by rfl, ?_⟩
        intro w' hSw
        clear hSw
        go_simp
        try with_reducible rfl
      simp only [Act.put, List.setIfInBounds_toArray, List.set_cons_zero, List.set_cons_succ]
      refine wpAnyN_takeF (i := 3) (oi := ?o3) (v := ?v3) ?hi3 (by kernel_rfl) (by kernel_rfl) (by kernel_rfl) (by decide) ?hQ3 ?hy3 HQ0 ?more3
      case hi3 => rw [List.getElem?_toArray]; exact rfl
      case hQ3 => exact fun _ _ _ h => h
      case hy3 =>
        refine Or.inl ⟨by rfl, ?_⟩
        intro w' hSw
        clear hSw
        go_simp
        try with_reducible rfl
      simp only [Act.put, List.setIfInBounds_toArray, List.set_cons_zero, List.set_cons_succ]
      refine wpAnyN_takeF (i := 4) (oi := ?o4) (v := ?v4) ?hi4 (by kernel_rfl) (by kernel_rfl) (by kernel_rfl) (by decide) ?hQ4 ?hy4 HQ0 ?more4
      case hi4 => rw [List.getElem?_toArray]; exact rfl
      case hQ4 => exact fun _ _ _ h => h
      case hy4 =>
        refine Or.inl ⟨by rfl, ?_⟩
        intro w' hSw
        clear hSw
        go_simp
        try with_reducible rfl
      simp only [Act.put, List.setIfInBounds_toArray, List.set_cons_zero, List.set_cons_succ]
      refine wpAnyN_takeF (i := 5) (oi := ?o5) (v := ?v5) ?hi5 (by kernel_rfl) (by kernel_rfl) (by kernel_rfl) (by decide) ?hQ5 ?hy5 HQ0 ?more5
      case hi5 => rw [List.getElem?_toArray]; exact rfl
      case hQ5 => exact fun _ _ _ h => h
      case hy5 =>
        refine Or.inl ⟨by rfl, ?_⟩
        intro w' hSw
        clear hSw
        go_simp
        try with_reducible rfl
      simp only [Act.put, List.setIfInBounds_toArray, List.set_cons_zero, List.set_cons_succ]
      refine wpAnyN_takeF (i := 6) (oi := ?o6) (v := ?v6) ?hi6 (by kernel_rfl) (by kernel_rfl) (by kernel_rfl) (by decide) ?hQ6 ?hy6 HQ0 ?more6
      case hi6 => rw [List.getElem?_toArray]; exact rfl
      case hQ6 => exact fun _ _ _ h => h
      case hy6 =>
        refine Or.inl ⟨by rfl, ?_⟩
        intro w' hSw
        clear hSw
        go_simp
        try with_reducible rfl
      simp only [Act.put, List.setIfInBounds_toArray, List.set_cons_zero, List.set_cons_succ]
      refine wpAnyN_takeF (i := 7) (oi := ?o7) (v := ?v7) ?hi7 (by kernel_rfl) (by kernel_rfl) (by kernel_rfl) (by decide) ?hQ7 ?hy7 HQ0 ?more7
      case hi7 => rw [List.getElem?_toArray]; exact rfl
      case hQ7 => exact fun _ _ _ h => h
      case hy7 =>
        refine Or.inl ⟨by rfl, ?_⟩
        intro w' hSw
        clear hSw
        go_simp
        try with_reducible rfl
      simp only [Act.put, List.setIfInBounds_toArray, List.set_cons_zero, List.set_cons_succ]
      refine wpAnyN_takeF (i := 8) (oi := ?o8) (v := ?v8) ?hi8 (by kernel_rfl) (by kernel_rfl) (by kernel_rfl) (by decide) ?hQ8 ?hy8 HQ0 ?more8
      case hi8 => rw [List.getElem?_toArray]; exact rfl
      case hQ8 => exact fun _ _ _ h => h
      case hy8 =>
        refine Or.inl ⟨by rfl, ?_⟩
        intro w' hSw
        clear hSw
        go_simp
        try with_reducible rfl
      simp only [Act.put, List.setIfInBounds_toArray, List.set_cons_zero, List.set_cons_succ]
      refine wpAnyN_takeF (i := 9) (oi := ?o9) (v := ?v9) ?hi9 (by kernel_rfl) (by kernel_rfl) (by kernel_rfl) (by decide) ?hQ9 ?hy9 HQ0 ?more9
      case hi9 => rw [List.getElem?_toArray]; exact rfl
      case hQ9 => exact fun _ _ _ h => h
      case hy9 =>
        refine Or.inl ⟨by rfl, ?_⟩
        intro w' hSw
        clear hSw
        go_simp
        try with_reducible rfl
      simp only [Act.put, List.setIfInBounds_toArray, List.set_cons_zero, List.set_cons_succ]
      refine wpAnyN_one (i := 10) (o := ?o10) (by kernel_rfl) ?hi10 ?hw10 ?st10
      case hi10 => rw [List.getElem?_toArray]; exact rfl
      case hw10 => exact rfl
      intro K hK
      have HK10 : Hid _ := hK
      clear hK
      go_simp
      refine HK10.out _ _ ⟨fun _ => HQ2, ?_⟩
      clear HK10 K
      try simp only [Act.put, List.setIfInBounds_toArray, List.set_cons_zero, List.set_cons_succ]
      refine wpAnyN_one (i := 11) (o := ?o11) (by kernel_rfl) ?hi11 ?hw11 ?st11
      case hi11 => rw [List.getElem?_toArray]; exact rfl
      case hw11 => exact rfl
      intro K hK
      have HK11 : Hid _ := hK
      clear hK
      refine owp_append_RowS _ (.tmp 70) (.tmp 79) rfl (w.heap.size + 2) a m cap acc u rfl HR.out HA2.out.1 HA2.out.2.1 HA2.out.2.2.2.1 ⟨wq.heap.size, 0, none⟩ 1 rfl HA2.out.2.2.1 ?_
      intro a5 m5 cap5 w5 hm5 hR5 hb5
      have H5 : Hid (m5 = m + 1 ∧ RowS w5 (w.heap.size + 2) a5 (acc ++ [u]) cap5 ∧ Below (w.heap.size + 2) wq w5) := ⟨hm5, hR5, (HQ2.2.mono HA2.out.2.2.2.2).trans hb5⟩
      clear hm5 hR5 hb5
      have f0 : w5.cell? ⟨w.heap.size + 1, 1, none⟩ = some (.slice a m cap) := (H5.out.2.2.cell (p := ⟨w.heap.size + 1, 1, none⟩) (Nat.lt_succ_self _)).trans r1
      have f1 : w5.frozen? ⟨w.heap.size + 1, 1, none⟩ = false := (H5.out.2.2.frozen (p := ⟨w.heap.size + 1, 1, none⟩) (Nat.lt_succ_self _)).trans z1
      refine HK11.out _ _ ⟨fun h => absurd h (by decide +kernel), ?_⟩
      clear HK11 K
      try simp only [Act.put, List.setIfInBounds_toArray, List.set_cons_zero, List.set_cons_succ]
      refine wpAnyN_one (i := 12) (o := ?o12) (by kernel_rfl) ?hi12 ?hw12 ?st12
      case hi12 => rw [List.getElem?_toArray]; exact rfl
      case hw12 => exact rfl
      intro K hK
      have HK12 : Hid _ := hK
      clear hK
      go_simp
      refine HK12.out _ _ ⟨fun h => absurd h (by decide +kernel), ?_⟩
      clear HK12 K
      try simp only [Act.put, List.setIfInBounds_toArray, List.set_cons_zero, List.set_cons_succ]
      refine wpAnyN_one (i := 13) (o := ?o13) (by kernel_rfl) ?hi13 ?hw13 ?st13
      case hi13 => rw [List.getElem?_toArray]; exact rfl
      case hw13 => exact rfl
      intro K hK
      have HK13 : Hid _ := hK
      clear hK
      go_simp
      refine HK13.out _ _ ⟨fun h => absurd h (by decide +kernel), ?_⟩
      clear HK13 K
      try simp only [Act.put, List.setIfInBounds_toArray, List.set_cons_zero, List.set_cons_succ]
      refine wpAnyN_done (by kernel_rfl) ?_ _
      clear HQ0 HQ2 HA2 r1 z1 f0 f1
      have H6 : Hid (RecAt w (w5.setCell ⟨w.heap.size + 1, 1, none⟩ (.slice a5 m5 cap5)) x a5 m5 cap5 (acc ++ [u]) ∧ (acc ++ [u]).length = i + 1) := ⟨HQ.out.step H5.out.2.1 H5.out.1 H5.out.2.2, by rw [List.length_append, HI.out.2.2.1]; rfl⟩
      have y40 : (y.toNat : Int) ≤ 40 := by have := HN.out.2.1; omega
      clear H5 HQ
      go_wp2_with fail
      go_roundw
      case rel => first | exact ⟨i + 1, P3, m5, cap5, a5, acc ++ [u], hlt, by go_num, rfl, HE.out.2.1, HE.out.2.2, H6.out.2, H6.out.1, HE.out.1⟩ | ((repeat apply Exists.intro); exact ⟨⟨i + 1, P3, m5, cap5, a5, acc ++ [u], hlt, by go_num, rfl, HE.out.2.1, HE.out.2.2, H6.out.2, H6.out.1, HE.out.1⟩, rfl⟩)
      case measure => simp [Go.RowKit.intOf]; omega
    · obtain rfl : i = y.toNat := by omega
      have hnl : ¬ ((y.toNat : Int) < (y.toNat : Int)) := Int.lt_irrefl _
      have hsp := HI.out.2.2.2.2
      rw [Nat.sub_self, splitL_zero] at hsp
      simp only [List.append_nil] at hsp
      have f10 := HZ1.out 0
      by_cases hps : (p : Int) < (s.size : Int)
      · have HE : Hid (upE s.data.toList = 4) := by
          rw [HX.out.2, hsp]
          have hne : s.data.toList.drop p ≠ [] := by
            intro c
            have := congrArg List.length c
            rw [List.length_drop, ba_len] at this
            simp at this
            omega
          show (if (0 : Int) ≠ 0 then (0 : Int) else if s.data.toList.drop p ≠ [] then 4 else 0) = 4
          rw [if_neg (by decide), if_pos hne]
        clear hlt hi' hsp
        go_wp2_with fail
        refine HKr.out _ _ ?_
        clear HKr
        go_wp2_with fail
        refine bodyPost_ret (v := .tuple #[.agg #[.int .i64 0, .slice none 0 0], .int .i64 4]) ?_ rfl (rupPost_no HE.out (by decide) ?_)
        · simp [results, Try.results34, go_sem, q0, q1]
        · first | exact HBL.out | exact below_set (below_set HBL.out (Nat.le_refl _)) (Nat.le_refl _)
      · have HE : Hid (upE s.data.toList = 0 ∧ upK s.data.toList = (x.toNat : Nat) ∧ upL s.data.toList = acc) := by
          have hnil : s.data.toList.drop p = [] := List.drop_eq_nil_of_le (by rw [ba_len]; omega)
          rw [hnil] at hsp
          have e0 : upE s.data.toList = 0 := by rw [HX.out.2, hsp]; rfl
          refine ⟨e0, ?_, ?_⟩
          · unfold upK; rw [if_pos e0, HX.out.1]; rfl
          · unfold upL
            rw [if_pos e0, HX.out.1]
            show (splitL y.toNat r).1 = acc
            rw [hsp]
        clear hlt hi' hsp
        go_wp2_with fail
        refine HKr.out _ _ ?_
        clear HKr
        go_wp2_with fail
        refine bodyPost_ret (v := .tuple #[.agg #[.int .i64 (x.toNat : Nat), .slice a m cap], .int .i64 0]) ?_ rfl ?_
        · simp [results, Try.results34, go_sem, q0, q1]
        · have hRA := HI.out.2.2.2.1
          refine ⟨a, cap, ?_, ?_, ?_⟩
          · rw [HE.out.1, HE.out.2.1, HE.out.2.2, ← hRA.2.2.2.2.1]
          · rw [HE.out.2.2]
            refine RowS.strs (base := w.heap.size + 2) (cap := cap) ?_
            exact ownsRow_setCell_below (ownsRow_setCell_below hRA.2.2.2.2.2.1 (by show w.heap.size < w.heap.size + 2; omega) _) (by show w.heap.size < w.heap.size + 2; omega) _
          · exact below_set (below_set HBL.out (Nat.le_refl _)) (Nat.le_refl _)
end Go.Proofs.Ytadcjdffjhiniaa
