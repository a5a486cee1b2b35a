/- Share: one node's weight; are two lists of numbers equal? The law ShareWeights. -/
import Derived.Test.YtcdiehnkknmbeaaDoorMhG
namespace Go.Proofs.YtcdiehnkknmbeaaDoor
open Go Go.RowKit Go.Lib
attribute [local go_sem] run_eq4

set_option maxRecDepth 100000 in
set_option maxHeartbeats 4000000 in
theorem wone_bad (a : Option Addr) (l : List Int) (c : Nat) (z : Int) (hl : l.length ≤ 17592186044416) (hb : nodesOk l = false) (w : World) (hN : IntsAt w a l) :
    Calls Tryd.prog 16 #[.slice a l.length c, .int .i64 z] w fun e w' => e = .returned (.tuple #[z4, .int .i64 1]) ∧ Below w.heap.size w w' := by
  have k1 := fun w hN => areNodes_any a l c hl w hN
  rw [hb] at k1
  obtain ⟨n, hn⟩ : ∃ n, n = l.length := ⟨_, rfl⟩
  rw [← hn] at k1
  rw [← hn]
  have K1 : Hid _ := k1
  have H0 : Hid (IntsAt w a l) := hN
  have HB : Hid (Below w.heap.size w (w.alloc (.cells #[.int .u64 0, .int .u64 0, .int .u64 0, .int .u64 0] 25)) ∧ Pend (w.alloc (.cells #[.int .u64 0, .int .u64 0, .int .u64 0, .int .u64 0] 25)) w.heap.size) := ⟨below_alloc0 (Below.refl _ _) _, Pend.new' rfl⟩
  clear hn hl hb hN k1
  go_enter Tryd.func16, Tryd.ntmps16
  go_wp2_with fail
  refine (K1.out _ (H0.out.call HB.out.1)).mono ?_
  rintro e w1 ⟨rfl, hb1⟩
  have H1 : Hid (Below w.heap.size w w1) := below_call0 HB.out.1 hb1
  obtain ⟨⟨s0, s1, s2, s3⟩, ⟨f0, f1, f2, f3⟩, sz⟩ := (HB.out.2.call hb1).facts
  clear hb1
  go_wp2_with fail
  refine bodyPost_ret (v := .tuple #[z4, .int .i64 1]) ?_ rfl ⟨rfl, ?_⟩
  · simp [results, Tryd.results16, go_sem, z4, s0, s1, s2, s3]
  · have HW := H1.out
    ((repeat' (first | with_reducible exact HW | with_reducible exact Below.refl _ _ | exact (And.left (by assumption)) | with_reducible refine Below.setCell ?_ ?_ _ | with_reducible refine below_alloc0 ?_ _ | with_reducible refine below_drewN ?_ _ | with_reducible refine Below.drew ?_ | refine below_call0 ?_ (by assumption))) <;> (first | omega | (simp; done) | (simp; omega)))
set_option maxRecDepth 100000 in
set_option maxHeartbeats 4000000 in
theorem wone_in (a : Option Addr) (l : List Int) (c : Nat) (z : Int) (hl : l.length ≤ 17592186044416) (hb : nodesOk l = true) (i : Nat) (hi : i < l.length) (hz : (l[i]'hi) = z) (w : World) (hG : GlobQ w) (hN : IntsAt w a l) :
    Calls Tryd.prog 16 #[.slice a l.length c, .int .i64 z] w fun e w' => e = .returned (.tuple #[.agg #[.int .u64 (limb (wAt l 0 i) 0 : Nat), .int .u64 (limb (wAt l 0 i) 1 : Nat), .int .u64 (limb (wAt l 0 i) 2 : Nat), .int .u64 (limb (wAt l 0 i) 3 : Nat)], .int .i64 0]) ∧ Below w.heap.size w w' := by
  have k1 := fun w hN => areNodes_any a l c hl w hN
  rw [hb] at k1
  have hP := (nodes_ok hb).1
  have h10 := nodes_short hP
  have kw : ∀ (g : Nat) (w : World), FieldB w g QQ → IntsAt w a l → Calls Tryd.prog 41 #[.agg #[.pointer (some ⟨g, 0, none⟩)], .slice a l.length c, .int .i64 (i : Nat), .agg #[.int .u64 0, .int .u64 0, .int .u64 0, .int .u64 0]] w fun e w' => e = .returned (.agg #[.int .u64 (limb (wAt l 0 i) 0 : Nat), .int .u64 (limb (wAt l 0 i) 1 : Nat), .int .u64 (limb (wAt l 0 i) 2 : Nat), .int .u64 (limb (wAt l 0 i) 3 : Nat)]) ∧ Below w.heap.size w w' := fun g w h1 h2 => by
    have hz := hP.1 _ (List.getElem_mem hi)
    have e : l[i]?.getD 0 = (l[i]'hi) := by rw [List.getElem?_eq_getElem hi]; rfl
    unfold wAt
    rw [e]
    have h := weight_any g i 0 a l c (l[i]'hi).toNat h10 hi hP (by omega) QQ_pos w h1 h2
    rw [limb_nought, limb_nought, limb_nought, limb_nought] at h
    exact h
  have K4 : Hid _ := fun w h => reckoner_any w h
  obtain ⟨V, hV⟩ : ∃ V, V = wAt l 0 i := ⟨_, rfl⟩
  rw [← hV] at kw
  rw [← hV]
  obtain ⟨n, hn⟩ : ∃ n, n = l.length := ⟨_, rfl⟩
  have n10 : (n : Int) ≤ 10 := by omega
  rw [← hn] at k1
  rw [← hn]
  have K1 : Hid _ := k1
  have H0 : Hid (IntsAt w a l ∧ GlobQ w ∧ n = l.length) := ⟨hN, hG, hn⟩
  have HB : Hid (Below w.heap.size w (w.alloc (.cells #[.int .u64 0, .int .u64 0, .int .u64 0, .int .u64 0] 25)) ∧ Pend (w.alloc (.cells #[.int .u64 0, .int .u64 0, .int .u64 0, .int .u64 0] 25)) w.heap.size) := ⟨below_alloc0 (Below.refl _ _) _, Pend.new' rfl⟩
  rw [← hn] at kw
  have KW : Hid _ := kw
  have HI : Hid (i < l.length ∧ (l[i]'hi) = z ∧ i < n ∧ l.Nodup) := ⟨hi, hz, by omega, hP.2⟩
  clear hn hl hb hN hG k1 hP h10 kw hz hV
  go_enter Tryd.func16, Tryd.ntmps16
  go_wp2_with fail
  refine (K1.out _ (H0.out.1.call HB.out.1)).mono ?_
  rintro e w1 ⟨rfl, hb1⟩
  have H1 : Hid (Below w.heap.size w w1 ∧ Pend w1 w.heap.size) := ⟨below_call0 HB.out.1 hb1, HB.out.2.call hb1⟩
  clear hb1 HB K1
  go_wp2_with fail
  rename_i Kr hKr
  have HKr : Hid _ := hKr
  clear hKr
  go_loopw [14] (fun iv wr => ∃ k : Nat, k ≤ i ∧ iv = .int .i64 (k : Nat) ∧ Below w1.heap.size w1 wr) (fun iv _ => n - (Go.RowKit.intOf iv).toNat)
  case atStart => exact ⟨0, Nat.zero_le _, rfl, Below.refl _ _⟩
  case round =>
    obtain ⟨k, hk, rfl, hB⟩ := hrel
    rename World => wr
    have HR : Hid (Below w1.heap.size w1 wr) := hB
    clear hB
    have hkn : k < n := by rw [H0.out.2.2]; exact Nat.lt_of_le_of_lt hk HI.out.1
    have hkl : k < l.length := by rw [← H0.out.2.2]; exact hkn
    have hlt' : (k : Int) < (n : Int) := Int.ofNat_lt.2 hkn
    obtain ⟨p, o, rfl, c0, pz⟩ := ((H0.out.1.call H1.out.1).call HR.out).get hkl
    obtain ⟨y, hy⟩ : ∃ y, y = (l[k]'hkl) := ⟨_, rfl⟩
    rw [← hy] at c0
    by_cases hlt : k < i
    · clear HKr
      have hne : y ≠ z := fun q => by
        have h1 := List.pairwise_iff_getElem.1 (List.nodup_iff_pairwise_ne.1 HI.out.2.2.2) k i hkl HI.out.1 hlt
        exact h1 (by rw [← hy, q]; exact HI.out.2.1.symm)
      have e1 : (y == z) = false := by simpa using hne
      have e2 : ¬ (y = z) := hne
      clear hy
      go_wp2_with fail
      go_roundw
      case rel => first | exact ⟨k + 1, hlt, by go_num, HR.out⟩ | ((repeat apply Exists.intro); exact ⟨⟨k + 1, hlt, by go_num, HR.out⟩, rfl⟩)
      case measure => simp [intOf]; omega
    · obtain rfl : k = i := by omega
      clear HKr
      obtain rfl : y = z := by rw [hy]; exact HI.out.2.1
      clear hy hlt hk
      obtain ⟨⟨s0, s1, s2, s3⟩, ⟨f0, f1, f2, f3⟩, sz⟩ := (H1.out.2.call HR.out).facts
      go_wp2_with fail
      refine (K4.out _ ((H0.out.2.1.call H1.out.1).call HR.out)).mono ?_
      rintro e w4 ⟨g, rfl, hFB, hb4⟩
      have H4 : Hid (FieldB w4 g QQ ∧ Below wr.heap.size wr w4) := ⟨hFB, hb4⟩
      clear hFB hb4 s0 s1 s2 s3 f0 f1 f2 f3 sz
      go_wp2_with fail
      refine (KW.out g _ H4.out.1 (((H0.out.1.call H1.out.1).call HR.out).call H4.out.2)).mono ?_
      rintro e w5 ⟨rfl, hb5⟩
      obtain ⟨⟨s0, s1, s2, s3⟩, ⟨f0, f1, f2, f3⟩, sz⟩ := (((H1.out.2.call HR.out).call H4.out.2).call hb5).facts
      have H5 : Hid (Below w.heap.size w w5) := below_call0 (below_call0 (below_call0 H1.out.1 HR.out) H4.out.2) hb5
      clear hb5
      go_wp2_with fail
      refine bodyPost_ret (v := .tuple #[.agg #[.int .u64 (limb (V) 0 : Nat), .int .u64 (limb (V) 1 : Nat), .int .u64 (limb (V) 2 : Nat), .int .u64 (limb (V) 3 : Nat)], .int .i64 0]) ?_ rfl ⟨rfl, ?_⟩
      · simp [results, Tryd.results16, go_sem, s0, s1, s2, s3]
      · have HW := H5.out
        ((repeat' (first | with_reducible exact HW | with_reducible exact Below.refl _ _ | exact (And.left (by assumption)) | with_reducible refine Below.setCell ?_ ?_ _ | with_reducible refine below_alloc0 ?_ _ | with_reducible refine below_drewN ?_ _ | with_reducible refine Below.drew ?_ | refine below_call0 ?_ (by assumption))) <;> (first | omega | (simp; done) | (simp; omega)))
set_option maxRecDepth 100000 in
set_option maxHeartbeats 4000000 in
theorem wone_none (a : Option Addr) (l : List Int) (c : Nat) (z : Int) (hl : l.length ≤ 17592186044416) (hb : nodesOk l = true) (hz : z ∉ l) (w : World) (hG : GlobQ w) (hN : IntsAt w a l) :
    Calls Tryd.prog 16 #[.slice a l.length c, .int .i64 z] w fun e w' => e = .returned (.tuple #[z4, .int .i64 1]) ∧ Below w.heap.size w w' := by
  have k1 := fun w hN => areNodes_any a l c hl w hN
  rw [hb] at k1
  have hP := (nodes_ok hb).1
  have h10 := nodes_short hP
  obtain ⟨n, hn⟩ : ∃ n, n = l.length := ⟨_, rfl⟩
  have n10 : (n : Int) ≤ 10 := by omega
  rw [← hn] at k1
  rw [← hn]
  have K1 : Hid _ := k1
  have H0 : Hid (IntsAt w a l ∧ GlobQ w ∧ n = l.length) := ⟨hN, hG, hn⟩
  have HB : Hid (Below w.heap.size w (w.alloc (.cells #[.int .u64 0, .int .u64 0, .int .u64 0, .int .u64 0] 25)) ∧ Pend (w.alloc (.cells #[.int .u64 0, .int .u64 0, .int .u64 0, .int .u64 0] 25)) w.heap.size) := ⟨below_alloc0 (Below.refl _ _) _, Pend.new' rfl⟩
  have HI : Hid (z ∉ l) := hz
  clear hn hl hb hN hG k1 hP h10 hz
  go_enter Tryd.func16, Tryd.ntmps16
  go_wp2_with fail
  refine (K1.out _ (H0.out.1.call HB.out.1)).mono ?_
  rintro e w1 ⟨rfl, hb1⟩
  have H1 : Hid (Below w.heap.size w w1 ∧ Pend w1 w.heap.size) := ⟨below_call0 HB.out.1 hb1, HB.out.2.call hb1⟩
  clear hb1 HB K1
  go_wp2_with fail
  rename_i Kr hKr
  have HKr : Hid _ := hKr
  clear hKr
  go_loopw [14] (fun iv wr => ∃ k : Nat, k ≤ n ∧ iv = .int .i64 (k : Nat) ∧ Below w1.heap.size w1 wr) (fun iv _ => n - (Go.RowKit.intOf iv).toNat)
  case atStart => exact ⟨0, Nat.zero_le _, rfl, Below.refl _ _⟩
  case round =>
    obtain ⟨k, hk, rfl, hB⟩ := hrel
    rename World => wr
    have HR : Hid (Below w1.heap.size w1 wr) := hB
    clear hB
    by_cases hlt : k < n
    · clear HKr
      have hkl : k < l.length := by rw [← H0.out.2.2]; exact hlt
      have hlt' : (k : Int) < (n : Int) := Int.ofNat_lt.2 hlt
      obtain ⟨p, o, rfl, c0, pz⟩ := ((H0.out.1.call H1.out.1).call HR.out).get hkl
      obtain ⟨y, hy⟩ : ∃ y, y = (l[k]'hkl) := ⟨_, rfl⟩
      rw [← hy] at c0
      have hne : y ≠ z := fun q => HI.out (by rw [← q, hy]; exact List.getElem_mem hkl)
      have e1 : (y == z) = false := by simpa using hne
      have e2 : ¬ (y = z) := hne
      clear hy
      go_wp2_with fail
      go_roundw
      case rel => first | exact ⟨k + 1, hlt, by go_num, HR.out⟩ | ((repeat apply Exists.intro); exact ⟨⟨k + 1, hlt, by go_num, HR.out⟩, rfl⟩)
      case measure => simp [intOf]; omega
    · obtain rfl : k = n := by omega
      have hnl : ¬ ((k : Int) < (k : Int)) := Int.lt_irrefl _
      clear hlt hk
      go_wp2_with fail
      refine HKr.out _ _ ?_
      clear HKr
      obtain ⟨⟨s0, s1, s2, s3⟩, ⟨f0, f1, f2, f3⟩, sz⟩ := (H1.out.2.call HR.out).facts
      go_wp2_with fail
      refine bodyPost_ret (v := .tuple #[z4, .int .i64 1]) ?_ rfl ⟨rfl, ?_⟩
      · simp [results, Tryd.results16, go_sem, z4, s0, s1, s2, s3]
      · have HW := below_call0 H1.out.1 HR.out
        ((repeat' (first | with_reducible exact HW | with_reducible exact Below.refl _ _ | exact (And.left (by assumption)) | with_reducible refine Below.setCell ?_ ?_ _ | with_reducible refine below_alloc0 ?_ _ | with_reducible refine below_drewN ?_ _ | with_reducible refine Below.drew ?_ | refine below_call0 ?_ (by assumption))) <;> (first | omega | (simp; done) | (simp; omega)))
theorem eq4_self' (a b c d : Int) : eq4 a b c d a b c d = true := by simp [eq4]
set_option maxRecDepth 100000 in
set_option maxHeartbeats 4000000 in
theorem nums_same (a b : Option Addr) (l : List Nat) (ca cb : Nat) (hl : l.length ≤ 1000000) (w : World) (hA : Nums w a l) (hB : Nums w b l) :
    Calls Tryd.prog 17 #[.slice a l.length ca, .slice b l.length cb] w fun e w' => e = .returned (.bool true) ∧ Below w.heap.size w w' := by
  obtain ⟨n, hn⟩ : ∃ n, n = l.length := ⟨_, rfl⟩
  rw [← hn]
  have HL : Hid (n = l.length ∧ Nums w a l ∧ Nums w b l) := ⟨hn, hA, hB⟩
  have n6 : (n : Int) ≤ 1000000 := by omega
  clear hn hl hA hB
  go_enter Tryd.func17, Tryd.ntmps17
  go_wp2_with fail
  rename_i Kr hKr
  have HKr : Hid _ := hKr
  clear hKr
  go_loopw [8] (fun iv wr => ∃ k : Nat, k ≤ n ∧ iv = .int .i64 (k : Nat) ∧ Below w.heap.size w wr) (fun iv _ => n - (Go.RowKit.intOf iv).toNat)
  case atStart => exact ⟨0, Nat.zero_le _, rfl, Below.refl _ _⟩
  case round =>
    obtain ⟨k, hk, rfl, hB⟩ := hrel
    rename World => wr
    have HB : Hid (Below w.heap.size w wr) := hB
    clear hB
    by_cases hlt : k < n
    · clear HKr
      have hkl : k < l.length := by rw [← HL.out.1]; exact hlt
      have hlt' : (k : Int) < (n : Int) := Int.ofNat_lt.2 hlt
      have hge' : ¬ ((n : Int) ≤ (k : Int)) := by omega
      have d1 : decide ((n : Int) ≤ (k : Int)) = false := decide_eq_false hge'
      have d1' : decide (n ≤ k) = false := decide_eq_false (by omega)
      obtain ⟨p, o, rfl, ⟨c0, c1, c2, c3⟩, pz⟩ := (HL.out.2.1.call HB.out).get hkl
      obtain ⟨p', o', rfl, ⟨b0, b1, b2, b3⟩, bz⟩ := (HL.out.2.2.call HB.out).get hkl
      obtain ⟨m, hm⟩ : ∃ m, m = (l[k]'hkl) := ⟨_, rfl⟩
      rw [← hm] at c0 c1 c2 c3 b0 b1 b2 b3
      have e1 := eq4_self' (limb m 0 : Nat) (limb m 1 : Nat) (limb m 2 : Nat) (limb m 3 : Nat)
      clear hm
      go_wp2_with fail
      go_quiet (fail)
      go_wp2_with fail
      go_roundw
      case rel => first | exact ⟨k + 1, hlt, by go_num, below_drewN' HB.out _⟩ | ((repeat apply Exists.intro); exact ⟨⟨k + 1, hlt, by go_num, below_drewN' HB.out _⟩, rfl⟩)
      case measure => simp [intOf]; omega
    · obtain rfl : k = n := by omega
      have hnl : ¬ ((k : Int) < (k : Int)) := Int.lt_irrefl _
      clear hlt hk
      go_wp2_with fail
      refine HKr.out _ _ ?_
      clear HKr
      go_wp2_with fail
      go_ret
      exact ⟨rfl, HB.out⟩
end Go.Proofs.YtcdiehnkknmbeaaDoor
