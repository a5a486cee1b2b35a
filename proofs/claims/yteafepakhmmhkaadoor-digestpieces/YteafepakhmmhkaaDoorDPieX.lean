/- The law DigestPieces: the walk. -/
import Derived.Test.YteafepakhmmhkaaDoorDPieW
namespace Go.Proofs.YteafepakhmmhkaaDoor
open Go.RowKit
def StrsAt (w : World) (p o n : Nat) (ss : Nat → ByteArray) : Prop := (∀ j, j < n → w.cell? ⟨p, o + j, none⟩ = some (.string (ss j)) ∧ (ss j).size < 140737488351233) ∧ p < w.heap.size
set_option maxRecDepth 100000 in
set_option maxHeartbeats 2000000 in
theorem digestPieces_in (p o n cap : Nat) (ss : Nat → ByteArray) (hn : n ≤ 100) (w : World) (hS : StrsAt w p o n ss) (hG : GlobD w) (hz : 1 < w.heap.size) : Calls Tryd.prog 4 #[.slice (some ⟨p, o, none⟩) n cap] w fun e w' => e = .returned (.bool true) ∧ Below w.heap.size w w' := by
  have HG : Hid (GlobD w ∧ 1 < w.heap.size ∧ StrsAt w p o n ss) := ⟨hG, hz, hS⟩
  have K1 : Hid _ := fun (w : World) (h : GlobD w) => new_any w h (padT ByteArray.empty)
  have n1 : ¬ ((100 : Int) < (n : Int)) := by omega
  clear hG hz hS
  go_enter Tryd.func4, Tryd.ntmps4
  go_wp2_with fail
  refine (K1.out _ HG.out.1).mono ?_
  rintro e w1 ⟨rfl, hH1, hB1⟩
  have H1 : Hid (HashT w1 w.heap.size (padT ByteArray.empty) ByteArray.empty.size ∧ Cube w1 ∧ Below w.heap.size w w1) := ⟨hH1, HG.out.1.2.2.call hB1, hB1⟩
  clear hH1 hB1 K1
  go_wp2_with fail
  rename_i Kr hKr
  have HKr : Hid _ := hKr
  clear hKr
  go_loopw [4, 22] (fun av iv wr => ∃ (k : Nat) (a : ByteArray), k ≤ n ∧ av = .string a ∧ iv = .int .i64 (k : Nat) ∧ a.size ≤ 20000 ∧ HashT wr w.heap.size (padT a) a.size ∧ Cube wr ∧ Below w.heap.size w wr)
    (fun _ iv _ => n - (intOf iv).toNat)
  case atStart => exact ⟨0, ByteArray.empty, Nat.zero_le _, rfl, rfl, by decide, H1.out.1, H1.out.2.1, H1.out.2.2⟩
  case round =>
    obtain ⟨k, a, hk, rfl, rfl, hsz, hH, hC, hB⟩ := hrel
    rename World => wr
    clear H1
    have H2 : Hid (HashT wr w.heap.size (padT a) a.size ∧ Cube wr ∧ Below w.heap.size w wr ∧ a.size ≤ 20000) := ⟨hH, hC, hB, hsz⟩
    clear hH hC hB hsz
    by_cases hlt : k < n
    · clear HKr
      obtain ⟨s, hs⟩ : ∃ s, s = ss k := ⟨_, rfl⟩
      obtain ⟨e1, e2⟩ := HG.out.2.2.1 k hlt
      rw [← hs] at e1 e2
      have gc : wr.cell? ⟨p, o + k, none⟩ = some (.string s) := (H2.out.2.2.1.cell (p := ⟨p, o + k, none⟩) HG.out.2.2.2).trans e1
      have gz : p < wr.heap.size := Nat.lt_of_lt_of_le HG.out.2.2.2 H2.out.2.2.1.size
      have hlt' : (k : Int) < (n : Int) := Int.ofNat_lt.2 hlt
      have hd : decide ((k : Int) < (n : Int)) = true := decide_eq_true hlt'
      obtain ⟨q, hq⟩ : ∃ q, q = a.size + s.size := ⟨_, rfl⟩
      have q1 : (a.size : Int) + (s.size : Int) = (q : Nat) := by rw [hq, Int.natCast_add]
      have qb : q < 9223372036854775808 := by have := H2.out.2.2.2; omega
      obtain ⟨q2, q3⟩ := keepS q qb
      have HE : Hid (s.size < 140737488351233 ∧ q = a.size + s.size) := ⟨e2, hq⟩
      clear e1 e2 hs hq qb
      by_cases hbig : 20000 < q
      · have hbig' : (20000 : Int) < (q : Int) := Int.ofNat_lt.2 hbig
        have HG4 : Hid _ := HG.out.1.call H2.out.2.2.1
        go_wp2_with fail
        refine (abc_any _ HG4.out (Nat.lt_of_lt_of_le HG.out.2.1 H2.out.2.2.1.size)).mono ?_
        rintro e w4 ⟨rfl, hb4⟩
        have H4 : Hid (Below w.heap.size w w4) := below_call0' H2.out.2.2.1 hb4
        clear hb4
        go_wp2_with fail
        go_ret
        exact ⟨rfl, H4.out⟩
      · have hbig' : ¬ ((20000 : Int) < (q : Int)) := fun h => hbig (Int.ofNat_lt.1 h)
        go_wp2_with fail
        have hrz : (a ++ s).size = q := by rw [HE.out.2]; exact ByteArray.size_append
        have qs : q ≤ 20000 := Nat.le_of_not_lt hbig
        have K2 : Hid _ := fun (w' : World) (h : HashT w' w.heap.size (padT (a ++ s)) (a ++ s).size) (hC : Cube w') (hz : 1 < w'.heap.size) => hsum_any w.heap.size (a ++ s) (by rw [hrz]; exact Nat.lt_of_le_of_lt qs (by decide)) w' h hC hz
        have K3 : Hid _ := fun (w' : World) => sum4_any (a ++ s) (by rw [hrz]; exact Nat.lt_of_le_of_lt qs (by decide)) w'
        have K4 : Hid _ := fun (w' : World) (h : HashT w' w.heap.size (padT (a ++ s)) (a ++ s).size) => hlen_any w.heap.size (padT (a ++ s)) (a ++ s).size w' h
        have K1 : Hid (a.size + s.size < 1152921504606846976) := by rw [← HE.out.2]; exact Nat.lt_of_le_of_lt qs (by decide)
        obtain ⟨R, hR⟩ : ∃ R, R = shaS (a ++ s) := ⟨_, rfl⟩
        rw [← hR] at K2 K3
        have tb : (R.toList == R.toList) = true := by simp only [BEq.rfl]
        have HQ : Hid (q ≤ 20000 ∧ (a ++ s).size = q) := ⟨qs, hrz⟩
        obtain ⟨ky, hky⟩ : ∃ q, q = k + 1 := ⟨_, rfl⟩
        have y1 : (k : Int) + 1 = (ky : Nat) := by rw [hky]; rfl
        obtain ⟨y2, y3⟩ := keepS ky (by rw [hky]; exact Nat.lt_of_le_of_lt (Nat.le_trans hlt hn) (by decide))
        have HKY : Hid (ky = k + 1) := hky
        clear hR hky
        refine (piece_any w.heap.size a s K1.out wr H2.out.1 H2.out.2.1 HG.out.2.1).mono ?_
        rintro e w3 ⟨rfl, hH3, hC3, hB3⟩
        have H3 : Hid (HashT w3 w.heap.size (padT (a ++ s)) (a ++ s).size ∧ Cube w3 ∧ Below w.heap.size w w3) := ⟨hH3, hC3, H2.out.2.2.1.trans hB3⟩
        clear hH3 hC3 hB3 H2 K1 gc gz
        go_wp2_with fail
        refine (K2.out _ H3.out.1 H3.out.2.1 (Nat.lt_of_lt_of_le HG.out.2.1 H3.out.2.2.size)).mono ?_
        rintro e w4 ⟨rfl, hb4⟩
        have H4 : Hid (HashT w4 w.heap.size (padT (a ++ s)) (a ++ s).size ∧ Cube w4 ∧ Below w.heap.size w w4) := ⟨H3.out.1.call hb4, H3.out.2.1.call hb4, below_call0' H3.out.2.2 hb4⟩
        clear hb4 H3 K2
        go_wp2_with fail
        refine (K3.out _).mono ?_
        rintro e w5 ⟨rfl, hb5⟩
        have H5 : Hid (HashT w5 w.heap.size (padT (a ++ s)) (a ++ s).size ∧ Cube w5 ∧ Below w.heap.size w w5) := ⟨H4.out.1.call hb5, H4.out.2.1.call hb5, below_call0' H4.out.2.2 hb5⟩
        clear hb5 H4 K3
        go_wp2_with fail
        refine (K4.out _ H5.out.1).mono ?_
        rintro e w6 ⟨rfl, hb6⟩
        have H6 : Hid (HashT w6 w.heap.size (padT (a ++ s)) (a ++ s).size ∧ Cube w6 ∧ Below w.heap.size w w6) := ⟨H5.out.1.call hb6, H5.out.2.1.call hb6, below_call0' H5.out.2.2 hb6⟩
        clear hb6 H5 K4
        go_wp2_with fail
        go_roundw
        case rel => first | exact ⟨ky, a ++ s, by rw [HKY.out]; exact hlt, rfl, rfl, by rw [HQ.out.2]; exact HQ.out.1, H6.out⟩ | ((repeat apply Exists.intro); exact ⟨⟨ky, a ++ s, by rw [HKY.out]; exact hlt, rfl, rfl, by rw [HQ.out.2]; exact HQ.out.1, H6.out⟩, rfl⟩)
        case measure =>
          show n - (ky : Int).toNat < n - (k : Int).toNat
          rw [Int.toNat_natCast, Int.toNat_natCast, HKY.out]
          exact Nat.sub_succ_lt_self _ _ hlt
    · obtain rfl : k = n := Nat.le_antisymm hk (Nat.le_of_not_lt hlt)
      have hnl : ¬ ((k : Int) < (k : Int)) := Int.lt_irrefl _
      have K2 : Hid _ := fun (w' : World) (h : HashT w' w.heap.size (padT a) a.size) (hC : Cube w') (hz : 1 < w'.heap.size) => hsum_any w.heap.size a (Nat.lt_of_le_of_lt H2.out.2.2.2 (by decide)) w' h hC hz
      have K3 : Hid _ := fun (w' : World) (hG : GlobD w') (hz : 1 < w'.heap.size) => sum_any a (Nat.lt_of_le_of_lt H2.out.2.2.2 (by decide)) w' hG hz
      obtain ⟨R, hR⟩ : ∃ R, R = shaS a := ⟨_, rfl⟩
      rw [← hR] at K2 K3
      have tb : (R.toList == R.toList) = true := by simp only [BEq.rfl]
      clear hR hlt hk
      go_wp2_with fail
      refine HKr.out _ _ ?_
      clear HKr
      go_wp2_with fail
      refine (K2.out _ H2.out.1 H2.out.2.1 (Nat.lt_of_lt_of_le HG.out.2.1 H2.out.2.2.1.size)).mono ?_
      rintro e w3 ⟨rfl, hb3⟩
      have H3 : Hid (Below w.heap.size w w3) := below_call0' H2.out.2.2.1 hb3
      clear hb3 H2 K2
      go_wp2_with fail
      refine (K3.out _ (HG.out.1.call H3.out) (Nat.lt_of_lt_of_le HG.out.2.1 H3.out.size)).mono ?_
      rintro e w4 ⟨rfl, hb4⟩
      have H4 : Hid (Below w.heap.size w w4) := below_call0' H3.out hb4
      clear hb4 H3 K3
      go_wp2_with fail
      refine (abc_any _ (HG.out.1.call H4.out) (Nat.lt_of_lt_of_le HG.out.2.1 H4.out.size)).mono ?_
      rintro e w5 ⟨rfl, hb5⟩
      have H5 : Hid (Below w.heap.size w w5) := below_call0' H4.out hb5
      clear hb5 H4
      go_wp2_with fail
      go_ret
      exact ⟨rfl, H5.out⟩
end Go.Proofs.YteafepakhmmhkaaDoor
