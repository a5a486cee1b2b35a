/- The reference's curve: Decode. -/
import Derived.Test.YtgmfecncfekjfaaDoorRf3W
import Derived.Test.YtgmfecncfekjfaaDoorFPowersW
namespace Go.Proofs.YtgmfecncfekjfaaDoor
open Go Go.RowKit Go.Lib

set_option maxRecDepth 100000 in
set_option maxHeartbeats 4000000 in
theorem decode_lenR (s : ByteArray) (hs : s.size ≠ 33) (w : World) :
    Calls Tryd.prog 23 #[.string s] w fun e w' => e = .returned (.tuple #[.agg #[.int .u64 0, .int .u64 0, .int .u64 0, .int .u64 0, .int .u64 0, .int .u64 0, .int .u64 0, .int .u64 0, .bool false], .int .i64 4]) ∧ Below w.heap.size w w' := by
  obtain ⟨w0, hw0⟩ : ∃ wq, wq = (w.alloc (.cells #[.int .u64 0, .int .u64 0, .int .u64 0, .int .u64 0, .int .u64 0, .int .u64 0, .int .u64 0, .int .u64 0, .bool false] 26)) := ⟨_, rfl⟩
  have H0 : Hid (OwnC w0 (w.heap.size) zpL) ∧ Hid (Below w.heap.size w w0) := by
    rw [hw0]
    exact ⟨(OwnC.new' rfl), below_alloc0 (Below.refl _ _) _⟩
  obtain ⟨P0_0, W_0⟩ := H0
  have hsz : ¬ ((s.size : Int) = 33) := by omega
  have hsb : ((s.size : Int) == 33) = false := by simpa using hsz
  have hsc : ((s.size : Int) != 33) = true := by simpa using hsz
  clear hs
  go_enter Tryd.func23, Tryd.ntmps23
  go_upto_region 1 with fail
  rw [← hw0]
  clear hw0
  go_upto_region 2 with fail
  obtain ⟨fP0z, fP00, fP01, fP02, fP03, fP04, fP05, fP06, fP07, fP08, fP0f⟩ := (P0_0.out).zp
  go_wp2_with fail
  clear fP0z fP00 fP01 fP02 fP03 fP04 fP05 fP06 fP07 fP08 fP0f
  obtain ⟨wz, hwz⟩ : ∃ wq, wq = (((((((((w0.setCell ⟨w.heap.size, 0, none⟩ (.int .u64 0)).setCell ⟨w.heap.size, 1, none⟩ (.int .u64 0)).setCell ⟨w.heap.size, 2, none⟩ (.int .u64 0)).setCell ⟨w.heap.size, 3, none⟩ (.int .u64 0)).setCell ⟨w.heap.size, 4, none⟩ (.int .u64 0)).setCell ⟨w.heap.size, 5, none⟩ (.int .u64 0)).setCell ⟨w.heap.size, 6, none⟩ (.int .u64 0)).setCell ⟨w.heap.size, 7, none⟩ (.int .u64 0)).setCell ⟨w.heap.size, 8, none⟩ (.bool false)) := ⟨_, rfl⟩
  rw [← hwz]
  have hwy : wz = putL w.heap.size 0 zpL w0 := hwz
  have HZ : OwnC wz w.heap.size zpL ∧ Below w.heap.size w wz := by
    rw [hwy]
    exact ⟨OwnC.put zpL P0_0.out rfl, below_putL (Nat.le_refl _) zpL 0 _ W_0.out⟩
  clear hwz hwy
  obtain ⟨hO, HB⟩ := HZ
  obtain ⟨rz, r0, r1, r2, r3, r4, r5, r6, r7, r8, rf⟩ := hO.zp
  refine bodyPost_ret (v := .tuple #[.agg #[.int .u64 0, .int .u64 0, .int .u64 0, .int .u64 0, .int .u64 0, .int .u64 0, .int .u64 0, .int .u64 0, .bool false], .int .i64 4]) ?_ rfl ⟨rfl, HB⟩
  simp [results, Tryd.results23, go_sem, r0, r1, r2, r3, r4, r5, r6, r7, r8]
set_option maxRecDepth 100000 in
set_option maxHeartbeats 4000000 in
theorem decode_formR (s : ByteArray) (hs : s.size = 33) (c : Nat) (hc : sbyte s 0 = c) (h0 : c ≠ 0 ∧ c ≠ 2 ∧ c ≠ 3) (w : World) :
    Calls Tryd.prog 23 #[.string s] w fun e w' => e = .returned (.tuple #[.agg #[.int .u64 0, .int .u64 0, .int .u64 0, .int .u64 0, .int .u64 0, .int .u64 0, .int .u64 0, .int .u64 0, .bool false], .int .i64 4]) ∧ Below w.heap.size w w' := by
  obtain ⟨w0, hw0⟩ : ∃ wq, wq = (w.alloc (.cells #[.int .u64 0, .int .u64 0, .int .u64 0, .int .u64 0, .int .u64 0, .int .u64 0, .int .u64 0, .int .u64 0, .bool false] 26)) := ⟨_, rfl⟩
  have H0 : Hid (OwnC w0 (w.heap.size) zpL) ∧ Hid (Below w.heap.size w w0) := by
    rw [hw0]
    exact ⟨(OwnC.new' rfl), below_alloc0 (Below.refl _ _) _⟩
  obtain ⟨P0_0, W_0⟩ := H0
  have HS : Hid (s.size = 33) := hs
  have hsz : (s.size : Int) = 33 := by omega
  have hb : ∀ h, (s[0]'h).toNat = c := fun h => by rw [← hc]; exact sbyte_eq s 0 h
  have h0s : 0 < s.size := by omega
  have d0 : ¬ ((c : Int) = 0) := by omega
  have d2 : ¬ ((c : Int) = 2) := by omega
  have d3 : ¬ ((c : Int) = 3) := by omega
  have e0 : ((c : Int) == 0) = false := by simpa using d0
  have e2 : ((c : Int) == 2) = false := by simpa using d2
  have e3 : ((c : Int) == 3) = false := by simpa using d3
  have f0 : ((c : Int) != 0) = true := by simpa using d0
  have f2 : ((c : Int) != 2) = true := by simpa using d2
  have f3 : ((c : Int) != 3) = true := by simpa using d3
  clear h0 hs hc
  go_enter Tryd.func23, Tryd.ntmps23
  go_upto_region 1 with fail
  rw [← hw0]
  clear hw0
  go_upto_region 2 with fail
  obtain ⟨fP0z, fP00, fP01, fP02, fP03, fP04, fP05, fP06, fP07, fP08, fP0f⟩ := (P0_0.out).zp
  go_wp2_with fail
  clear fP0z fP00 fP01 fP02 fP03 fP04 fP05 fP06 fP07 fP08 fP0f
  obtain ⟨wz, hwz⟩ : ∃ wq, wq = (((((((((w0.setCell ⟨w.heap.size, 0, none⟩ (.int .u64 0)).setCell ⟨w.heap.size, 1, none⟩ (.int .u64 0)).setCell ⟨w.heap.size, 2, none⟩ (.int .u64 0)).setCell ⟨w.heap.size, 3, none⟩ (.int .u64 0)).setCell ⟨w.heap.size, 4, none⟩ (.int .u64 0)).setCell ⟨w.heap.size, 5, none⟩ (.int .u64 0)).setCell ⟨w.heap.size, 6, none⟩ (.int .u64 0)).setCell ⟨w.heap.size, 7, none⟩ (.int .u64 0)).setCell ⟨w.heap.size, 8, none⟩ (.bool false)) := ⟨_, rfl⟩
  rw [← hwz]
  have hwy : wz = putL w.heap.size 0 zpL w0 := hwz
  have HZ : OwnC wz w.heap.size zpL ∧ Below w.heap.size w wz := by
    rw [hwy]
    exact ⟨OwnC.put zpL P0_0.out rfl, below_putL (Nat.le_refl _) zpL 0 _ W_0.out⟩
  clear hwz hwy
  obtain ⟨hO, HB⟩ := HZ
  obtain ⟨rz, r0, r1, r2, r3, r4, r5, r6, r7, r8, rf⟩ := hO.zp
  refine bodyPost_ret (v := .tuple #[.agg #[.int .u64 0, .int .u64 0, .int .u64 0, .int .u64 0, .int .u64 0, .int .u64 0, .int .u64 0, .int .u64 0, .bool false], .int .i64 4]) ?_ rfl ⟨rfl, HB⟩
  simp [results, Tryd.results23, go_sem, r0, r1, r2, r3, r4, r5, r6, r7, r8]
set_option maxRecDepth 100000 in
set_option maxHeartbeats 4000000 in
theorem decode_zeroR (s : ByteArray) (hs : s.size = 33) (hz : ∀ j, j < 33 → sbyte s j = 0) (w : World) :
    Calls Tryd.prog 23 #[.string s] w fun e w' => e = .returned (.tuple #[.agg #[.int .u64 0, .int .u64 0, .int .u64 0, .int .u64 0, .int .u64 0, .int .u64 0, .int .u64 0, .int .u64 0, .bool true], .int .i64 0]) ∧ Below w.heap.size w w' := by
  obtain ⟨w0, hw0⟩ : ∃ wq, wq = (w.alloc (.cells #[.int .u64 0, .int .u64 0, .int .u64 0, .int .u64 0, .int .u64 0, .int .u64 0, .int .u64 0, .int .u64 0, .bool false] 26)) := ⟨_, rfl⟩
  have H0 : Hid (OwnC w0 (w.heap.size) zpL) ∧ Hid (Below w.heap.size w w0) := by
    rw [hw0]
    exact ⟨(OwnC.new' rfl), below_alloc0 (Below.refl _ _) _⟩
  obtain ⟨P0_0, W_0⟩ := H0
  have HZ : Hid _ := hz
  have HS : Hid (s.size = 33) := hs
  have hsz : (s.size : Int) = 33 := by omega
  have hb : ∀ h, (s[0]'h).toNat = 0 := fun h => (sbyte_eq s 0 h).trans (hz 0 (by decide))
  have h0s : 0 < s.size := by omega
  clear hs hz
  go_enter Tryd.func23, Tryd.ntmps23
  go_upto_region 1 with fail
  rw [← hw0]
  clear hw0
  go_wp2_with fail
  rename_i Kr hKr
  have HKr : Hid _ := hKr
  clear hKr hb
  go_loopw [4] (fun iv wr => ∃ k : Nat, k ≤ 33 ∧ iv = .int .i64 (k : Nat) ∧ (∀ j, j < k → sbyte s j = 0) ∧ OwnC wr w.heap.size zpL ∧ Below w.heap.size w wr) (fun iv _ => 33 - (Go.RowKit.intOf iv).toNat)
  case atStart => exact ⟨0, Nat.zero_le _, rfl, fun j h => absurd h (Nat.not_lt_zero _), P0_0.out, W_0.out⟩
  case round =>
    clear P0_0 W_0
    obtain ⟨k, hk, rfl, hk0, hO, hB⟩ := hrel
    rename World => w4
    have P0_9 : Hid (OwnC w4 w.heap.size zpL) := hO
    have W_9 : Hid (Below w.heap.size w w4) := hB
    clear hO hB
    by_cases hlt : k < 33
    · have hlt' : (k : Int) < 33 := by omega
      have hkk : k + 1 ≤ 33 := hlt
      have hks : k < s.size := by rw [HS.out]; exact hlt
      obtain ⟨d, hd⟩ : ∃ d, d = sbyte s k := ⟨_, rfl⟩
      have hix : ∀ h, (s[k]'h).toNat = d := fun h => by rw [hd]; exact sbyte_eq s k h
      by_cases hd0 : d = 0
      · subst hd0
        have HN : Hid (∀ j, j < k + 1 → sbyte s j = 0) := fun j hj => by
          by_cases c : j = k
          · rw [c]; exact hd.symm
          · exact hk0 j (by omega)
        clear hk0 hd hk HKr
        go_wp2_with fail
        go_roundw
        case rel => first | exact ⟨k + 1, hkk, by go_num, HN.out, P0_9.out, W_9.out⟩ | ((repeat apply Exists.intro); exact ⟨⟨k + 1, hkk, by go_num, HN.out, P0_9.out, W_9.out⟩, rfl⟩)
        case measure => simp [intOf]; omega
      · exact absurd (hd.trans (HZ.out k hlt)) hd0
    · obtain rfl : k = 33 := by omega
      clear hlt hk hk0
      go_wp2_with fail
      refine HKr.out _ _ ?_
      clear HKr
      go_upto_region 9 with fail
      obtain ⟨fP0z, fP00, fP01, fP02, fP03, fP04, fP05, fP06, fP07, fP08, fP0f⟩ := (P0_9.out).zp
      go_wp2_with fail
      clear fP0z fP00 fP01 fP02 fP03 fP04 fP05 fP06 fP07 fP08 fP0f
      obtain ⟨wz, hwz⟩ : ∃ wq, wq = (((((((((w4.setCell ⟨w.heap.size, 0, none⟩ (.int .u64 0)).setCell ⟨w.heap.size, 1, none⟩ (.int .u64 0)).setCell ⟨w.heap.size, 2, none⟩ (.int .u64 0)).setCell ⟨w.heap.size, 3, none⟩ (.int .u64 0)).setCell ⟨w.heap.size, 4, none⟩ (.int .u64 0)).setCell ⟨w.heap.size, 5, none⟩ (.int .u64 0)).setCell ⟨w.heap.size, 6, none⟩ (.int .u64 0)).setCell ⟨w.heap.size, 7, none⟩ (.int .u64 0)).setCell ⟨w.heap.size, 8, none⟩ (.bool true)) := ⟨_, rfl⟩
      rw [← hwz]
      have hwy : wz = putL w.heap.size 0 ziL w4 := hwz
      have HZ : OwnC wz w.heap.size ziL ∧ Below w.heap.size w wz := by
        rw [hwy]
        exact ⟨OwnC.put ziL P0_9.out rfl, below_putL (Nat.le_refl _) ziL 0 _ W_9.out⟩
      clear hwz hwy
      obtain ⟨hO, HB⟩ := HZ
      obtain ⟨rz, r0, r1, r2, r3, r4, r5, r6, r7, r8, rf⟩ := hO.zi
      refine bodyPost_ret (v := .tuple #[.agg #[.int .u64 0, .int .u64 0, .int .u64 0, .int .u64 0, .int .u64 0, .int .u64 0, .int .u64 0, .int .u64 0, .bool true], .int .i64 0]) ?_ rfl ⟨rfl, HB⟩
      simp [results, Tryd.results23, go_sem, r0, r1, r2, r3, r4, r5, r6, r7, r8]
set_option maxRecDepth 100000 in
set_option maxHeartbeats 4000000 in
theorem decode_mixR (s : ByteArray) (hs : s.size = 33) (hc : sbyte s 0 = 0) (hz : ∃ j, j < 33 ∧ sbyte s j ≠ 0) (w : World) :
    Calls Tryd.prog 23 #[.string s] w fun e w' => e = .returned (.tuple #[.agg #[.int .u64 0, .int .u64 0, .int .u64 0, .int .u64 0, .int .u64 0, .int .u64 0, .int .u64 0, .int .u64 0, .bool false], .int .i64 4]) ∧ Below w.heap.size w w' := by
  obtain ⟨w0, hw0⟩ : ∃ wq, wq = (w.alloc (.cells #[.int .u64 0, .int .u64 0, .int .u64 0, .int .u64 0, .int .u64 0, .int .u64 0, .int .u64 0, .int .u64 0, .bool false] 26)) := ⟨_, rfl⟩
  have H0 : Hid (OwnC w0 (w.heap.size) zpL) ∧ Hid (Below w.heap.size w w0) := by
    rw [hw0]
    exact ⟨(OwnC.new' rfl), below_alloc0 (Below.refl _ _) _⟩
  obtain ⟨P0_0, W_0⟩ := H0
  have HZ : Hid _ := hz
  have HS : Hid (s.size = 33) := hs
  have hsz : (s.size : Int) = 33 := by omega
  have hb : ∀ h, (s[0]'h).toNat = 0 := fun h => (sbyte_eq s 0 h).trans (hc)
  have h0s : 0 < s.size := by omega
  clear hs hz hc
  go_enter Tryd.func23, Tryd.ntmps23
  go_upto_region 1 with fail
  rw [← hw0]
  clear hw0
  go_wp2_with fail
  rename_i Kr hKr
  have HKr : Hid _ := hKr
  clear hKr hb
  go_loopw [4] (fun iv wr => ∃ k : Nat, k ≤ 33 ∧ iv = .int .i64 (k : Nat) ∧ (∀ j, j < k → sbyte s j = 0) ∧ OwnC wr w.heap.size zpL ∧ Below w.heap.size w wr) (fun iv _ => 33 - (Go.RowKit.intOf iv).toNat)
  case atStart => exact ⟨0, Nat.zero_le _, rfl, fun j h => absurd h (Nat.not_lt_zero _), P0_0.out, W_0.out⟩
  case round =>
    clear P0_0 W_0
    obtain ⟨k, hk, rfl, hk0, hO, hB⟩ := hrel
    rename World => w4
    have P0_9 : Hid (OwnC w4 w.heap.size zpL) := hO
    have W_9 : Hid (Below w.heap.size w w4) := hB
    clear hO hB
    by_cases hlt : k < 33
    · have hlt' : (k : Int) < 33 := by omega
      have hkk : k + 1 ≤ 33 := hlt
      have hks : k < s.size := by rw [HS.out]; exact hlt
      obtain ⟨d, hd⟩ : ∃ d, d = sbyte s k := ⟨_, rfl⟩
      have hix : ∀ h, (s[k]'h).toNat = d := fun h => by rw [hd]; exact sbyte_eq s k h
      by_cases hd0 : d = 0
      · subst hd0
        have HN : Hid (∀ j, j < k + 1 → sbyte s j = 0) := fun j hj => by
          by_cases c : j = k
          · rw [c]; exact hd.symm
          · exact hk0 j (by omega)
        clear hk0 hd hk HKr
        go_wp2_with fail
        go_roundw
        case rel => first | exact ⟨k + 1, hkk, by go_num, HN.out, P0_9.out, W_9.out⟩ | ((repeat apply Exists.intro); exact ⟨⟨k + 1, hkk, by go_num, HN.out, P0_9.out, W_9.out⟩, rfl⟩)
        case measure => simp [intOf]; omega
      · have e0 : ¬ ((d : Int) = 0) := by omega
        have e1 : ((d : Int) == 0) = false := by simpa using e0
        have e2 : ((d : Int) != 0) = true := by simpa using e0
        clear hd0 hd hk0 hk HKr
        go_upto_region 8 with fail
        obtain ⟨fP0z, fP00, fP01, fP02, fP03, fP04, fP05, fP06, fP07, fP08, fP0f⟩ := (P0_9.out).zp
        go_wp2_with fail
        clear fP0z fP00 fP01 fP02 fP03 fP04 fP05 fP06 fP07 fP08 fP0f
        obtain ⟨wz, hwz⟩ : ∃ wq, wq = (((((((((w4.setCell ⟨w.heap.size, 0, none⟩ (.int .u64 0)).setCell ⟨w.heap.size, 1, none⟩ (.int .u64 0)).setCell ⟨w.heap.size, 2, none⟩ (.int .u64 0)).setCell ⟨w.heap.size, 3, none⟩ (.int .u64 0)).setCell ⟨w.heap.size, 4, none⟩ (.int .u64 0)).setCell ⟨w.heap.size, 5, none⟩ (.int .u64 0)).setCell ⟨w.heap.size, 6, none⟩ (.int .u64 0)).setCell ⟨w.heap.size, 7, none⟩ (.int .u64 0)).setCell ⟨w.heap.size, 8, none⟩ (.bool false)) := ⟨_, rfl⟩
        rw [← hwz]
        have hwy : wz = putL w.heap.size 0 zpL w4 := hwz
        have HZ : OwnC wz w.heap.size zpL ∧ Below w.heap.size w wz := by
          rw [hwy]
          exact ⟨OwnC.put zpL P0_9.out rfl, below_putL (Nat.le_refl _) zpL 0 _ W_9.out⟩
        clear hwz hwy
        obtain ⟨hO, HB⟩ := HZ
        obtain ⟨rz, r0, r1, r2, r3, r4, r5, r6, r7, r8, rf⟩ := hO.zp
        refine bodyPost_ret (v := .tuple #[.agg #[.int .u64 0, .int .u64 0, .int .u64 0, .int .u64 0, .int .u64 0, .int .u64 0, .int .u64 0, .int .u64 0, .bool false], .int .i64 4]) ?_ rfl ⟨rfl, HB⟩
        simp [results, Tryd.results23, go_sem, r0, r1, r2, r3, r4, r5, r6, r7, r8]
    · obtain rfl : k = 33 := by omega
      obtain ⟨j, hj, hj0⟩ := HZ.out
      exact absurd (hk0 j hj) hj0
set_option maxRecDepth 100000 in
set_option maxHeartbeats 4000000 in
theorem decode_rangeR2 (s : ByteArray) (hs : s.size = 33) (hc : sbyte s 0 = 2) (ht : (s.extract 1 s.size).size = 32) (n : Nat) (hn0 : n = numB (sbyte (s.extract 1 s.size))) (hn : ¬ n < PP) (w : World) :
    Calls Tryd.prog 23 #[.string s] w fun e w' => e = .returned (.tuple #[.agg #[.int .u64 0, .int .u64 0, .int .u64 0, .int .u64 0, .int .u64 0, .int .u64 0, .int .u64 0, .int .u64 0, .bool false], .int .i64 20]) ∧ Below w.heap.size w w' := by
  have nR : n < R256 := by rw [hn0]; exact numB_lt _ (sbyte_lt _)
  have K1 : Hid (∀ w, Calls Tryd.prog 38 #[] w fun e w' => e = .returned (.agg #[.int .u64 (limb (PP) 0 : Nat), .int .u64 (limb (PP) 1 : Nat), .int .u64 (limb (PP) 2 : Nat), .int .u64 (limb (PP) 3 : Nat), .int .u64 (limb (R256 - (PP)) 0 : Nat), .int .u64 (limb (R256 - (PP)) 1 : Nat), .int .u64 (limb (R256 - (PP)) 2 : Nat), .int .u64 (limb (R256 - (PP)) 3 : Nat)]) ∧ Below w.heap.size w w') := fun w => base2_any w
  have K2 : Hid (∀ w, Calls Tryd.prog 54 #[.agg #[.int .u64 (limb (PP) 0 : Nat), .int .u64 (limb (PP) 1 : Nat), .int .u64 (limb (PP) 2 : Nat), .int .u64 (limb (PP) 3 : Nat), .int .u64 (limb (R256 - (PP)) 0 : Nat), .int .u64 (limb (R256 - (PP)) 1 : Nat), .int .u64 (limb (R256 - (PP)) 2 : Nat), .int .u64 (limb (R256 - (PP)) 3 : Nat)], .string (s.extract 1 s.size)] w fun e w' => e = .returned (.tuple #[.agg #[.int .u64 0, .int .u64 0, .int .u64 0, .int .u64 0], .int .i64 20]) ∧ Below w.heap.size w w') := fun w => decode2_no PP n _ (fun w => by have k := from_any_ref (s.extract 1 s.size) ht w; rw [← hn0] at k; exact k) (has2_b PP n false FM_P.2.1 nR (decide_eq_false hn)) w
  obtain ⟨w0, hw0⟩ : ∃ wq, wq = (w.alloc (.cells #[.int .u64 0, .int .u64 0, .int .u64 0, .int .u64 0, .int .u64 0, .int .u64 0, .int .u64 0, .int .u64 0, .bool false] 26)) := ⟨_, rfl⟩
  have H0 : Hid (OwnC w0 (w.heap.size) zpL) ∧ Hid (Below w.heap.size w w0) := by
    rw [hw0]
    exact ⟨(OwnC.new' rfl), below_alloc0 (Below.refl _ _) _⟩
  obtain ⟨P0_0, W_0⟩ := H0
  clear ht hn0 hn nR
  have HS : Hid (s.size = 33) := hs
  have hsz : (s.size : Int) = 33 := by omega
  have hb : ∀ h, (s[0]'h).toNat = 2 := fun h => by rw [← hc]; exact sbyte_eq s 0 h
  have h0s : 0 < s.size := by omega
  clear hs hc
  go_enter Tryd.func23, Tryd.ntmps23
  go_upto_region 1 with fail
  rw [← hw0]
  clear hw0
  go_upto_region 10 with fail
  go_upto_region 10 with fail
  go_cut [5] (fun vq5 wx => ∃ bk5, vq5 = .pointer (some ⟨bk5, 0, none⟩) ∧ w0.heap.size ≤ bk5 ∧ OwnC wx bk5 (fvL PP) ∧ Below w0.heap.size w0 wx)
  case first =>
    go_wp2_with fail
    refine (K1.out _).mono ?_
    rintro e wx0 ⟨rfl, hq0⟩
    go_wp2_with fail
    go_meet
    exact ⟨_, rfl, hq0.size, OwnC.new' rfl, below_alloc0 hq0 _⟩
  case rest =>
    obtain ⟨bk5, rfl, hle, hO, hB⟩ := hcut
    have P0_1 : Hid (OwnC wc (w.heap.size) zpL) := OwnC.call P0_0.out hB
    have W_1 : Hid (Below w.heap.size w wc) := below_call0 W_0.out hB
    have V5_1 : Hid (OwnC wc bk5 (fvL PP)) := hO
    clear hB P0_0 W_0
    clear hO hle
    generalize wc = w1 at P0_1 W_1 V5_1 ⊢
    go_upto_region 11 with fail
    go_cut [6, 7] (fun vq6 vq7 wx => ∃ bk6, vq6 = .pointer (some ⟨bk6, 0, none⟩) ∧ vq7 = .int .i64 20 ∧ w1.heap.size ≤ bk6 ∧ OwnC wx bk6 z4L ∧ Below w1.heap.size w1 wx)
    case first =>
      refine wp_region_K 9 0 7 8 [?v0r11, ?v1r11, ?v2r11, ?v3r11, ?v4r11, ?v5r11, ?v6r11, undef, undef] [some 44, some 45, some 46, some 47, some 43, some 48, some 49, some 6, none] (fun s w b => OwnC w b (cond s z4L z4L)) ?Ar11 ?oar11 ?osr11 (by kernel_rfl) (by kernel_rfl) (by kernel_rfl) rfl ?hAr11 (fun _ _ _ _ h hb => OwnC.call h hb) ?hopr11 ?hoar11 ?hosr11 (by decide) (by decide) ?hswr11 ?halr11 ?hstr11 ?hfinr11
      case hAr11 =>
        intro bq
        simp only [List.set_cons_zero, List.set_cons_succ, List.zip_cons_cons, List.zip_nil_right, fillD, Act.put, List.setIfInBounds_toArray]
        exact rfl
      case hopr11 =>
        refine ⟨?_, ?_, ?_, ?_, ?_, ?_, ?_, fun h => absurd rfl h, fun _ h => absurd rfl h, trivial⟩
        focus (intro _ _ bq wx hS; refine OpTo.yields rfl ?_; obtain ⟨_, _, _, _, _, _, _, _, _, _⟩ := (OwnC.call V5_1.out hS).fv; clear hS; go_simp; try with_reducible rfl)
        iterate 2 focus (intro _ _ bq wx hS; refine OpTo.yields rfl ?_; clear hS; go_simp; try with_reducible rfl)
        focus (intro _ _ bq wx hS; refine OpTo.calls rfl ?_ ?_; rotate_left; intro K hK; go_simp; refine (K2.out _).mono ?_; rintro e w' ⟨rfl, hq⟩; exact hK w' hq; exact rfl)
        iterate 3 focus (intro _ _ bq wx hS; refine OpTo.yields rfl ?_; clear hS; go_simp; try with_reducible rfl)
      case hoar11 =>
        rw [List.getElem?_toArray]
        exact rfl
      case halr11 =>
        intro bq wx hS
        refine OpTo.make (ob := ?obr11) (B := fun w b => OwnC w b z4L) hS rfl ?runr11 ?ownr11
        case runr11 =>
          go_simp
          try with_reducible rfl
        case ownr11 => exact OwnC.new' rfl
      case hosr11 =>
        rw [List.getElem?_toArray]
        exact rfl
      case hswr11 => kernel_rfl
      case hstr11 =>
        intro bq wx hS hB hle
        have hB' : OwnC wx bq z4L := hB
        refine OpTo.stores (w1 := putL bq 0 z4L wx) (R := fun w' => OwnC w' bq (cond true z4L z4L) ∧ Below w1.heap.size w1 w') rfl ?_ rfl ⟨OwnC.put z4L hB' rfl, below_putL hle z4L 0 _ hS⟩
        obtain ⟨gz, g0, g1, g2, g3, gf⟩ := OwnC.z4 hB'
        first | (left; go_simp; done) | (right; exact ⟨_, by go_simp; rfl⟩) | (left; go_simp; rfl)
      case hfinr11 =>
        intro bq wx hS hB hle
        refine tail_at (o := ?ofr11_9) ?hir11_9 ?hwr11_9 ?_
        case hir11_9 => rw [List.getElem?_toArray]; exact rfl
        case hwr11_9 => exact rfl
        go_simp
        refine tail_end ?_
        go_wp2_with fail
        go_meet
        exact ⟨bq, rfl, rfl, hle, hB, hS⟩
    case rest =>
      obtain ⟨bk6, rfl, rfl, hle, hO, hB⟩ := hcut
      rename_i uk ul um un uo up uq ur us ut uu uv uw ux uy uz uA uB uC uD uE uF uG uH uI uJ uK uL uM uN uO uP uQ uR uS uT uU uV uW uX uY uZ va vb vc vd ve vf vg vh vi vj vk vl vm vn vo vp vq vr vs vt vu Kq1 hKq1
      clear uk ul um un uo up uq ur us ut uu uv uw ux uy uz uA uB uC uD uE uF uG uH uI uJ uK uL uM uN uO uP uQ uR uS uT uU uV uW uX uY uZ va vb vc vd ve vf vg vh vi vj vk vl vm vn vo vp vq vr vs vt vu
      have P0_2 : Hid (OwnC wc (w.heap.size) zpL) := OwnC.call P0_1.out hB
      have W_2 : Hid (Below w.heap.size w wc) := below_call0 W_1.out hB
      have V5_2 : Hid (OwnC wc bk5 (fvL PP)) := OwnC.call V5_1.out hB
      have V6_2 : Hid (OwnC wc bk6 z4L) := hO
      clear hB P0_1 W_1 V5_1
      clear hO hle
      generalize wc = w2 at P0_2 W_2 V5_2 V6_2 ⊢
      go_upto_region 13 with fail
      obtain ⟨fP0z, fP00, fP01, fP02, fP03, fP04, fP05, fP06, fP07, fP08, fP0f⟩ := (P0_2.out).zp
      go_wp2_with fail
      clear fP0z fP00 fP01 fP02 fP03 fP04 fP05 fP06 fP07 fP08 fP0f
      obtain ⟨wz, hwz⟩ : ∃ wq, wq = (((((((((w2.setCell ⟨w.heap.size, 0, none⟩ (.int .u64 0)).setCell ⟨w.heap.size, 1, none⟩ (.int .u64 0)).setCell ⟨w.heap.size, 2, none⟩ (.int .u64 0)).setCell ⟨w.heap.size, 3, none⟩ (.int .u64 0)).setCell ⟨w.heap.size, 4, none⟩ (.int .u64 0)).setCell ⟨w.heap.size, 5, none⟩ (.int .u64 0)).setCell ⟨w.heap.size, 6, none⟩ (.int .u64 0)).setCell ⟨w.heap.size, 7, none⟩ (.int .u64 0)).setCell ⟨w.heap.size, 8, none⟩ (.bool false)) := ⟨_, rfl⟩
      rw [← hwz]
      have hwy : wz = putL w.heap.size 0 zpL w2 := hwz
      have HZ : OwnC wz w.heap.size zpL ∧ Below w.heap.size w wz := by
        rw [hwy]
        exact ⟨OwnC.put zpL P0_2.out rfl, below_putL (Nat.le_refl _) zpL 0 _ W_2.out⟩
      clear hwz hwy
      obtain ⟨hO, HB⟩ := HZ
      obtain ⟨rz, r0, r1, r2, r3, r4, r5, r6, r7, r8, rf⟩ := hO.zp
      refine bodyPost_ret (v := .tuple #[.agg #[.int .u64 0, .int .u64 0, .int .u64 0, .int .u64 0, .int .u64 0, .int .u64 0, .int .u64 0, .int .u64 0, .bool false], .int .i64 20]) ?_ rfl ⟨rfl, HB⟩
      simp [results, Tryd.results23, go_sem, r0, r1, r2, r3, r4, r5, r6, r7, r8]
set_option maxRecDepth 100000 in
set_option maxHeartbeats 4000000 in
theorem decode_rangeR3 (s : ByteArray) (hs : s.size = 33) (hc : sbyte s 0 = 3) (ht : (s.extract 1 s.size).size = 32) (n : Nat) (hn0 : n = numB (sbyte (s.extract 1 s.size))) (hn : ¬ n < PP) (w : World) :
    Calls Tryd.prog 23 #[.string s] w fun e w' => e = .returned (.tuple #[.agg #[.int .u64 0, .int .u64 0, .int .u64 0, .int .u64 0, .int .u64 0, .int .u64 0, .int .u64 0, .int .u64 0, .bool false], .int .i64 20]) ∧ Below w.heap.size w w' := by
  have nR : n < R256 := by rw [hn0]; exact numB_lt _ (sbyte_lt _)
  have K1 : Hid (∀ w, Calls Tryd.prog 38 #[] w fun e w' => e = .returned (.agg #[.int .u64 (limb (PP) 0 : Nat), .int .u64 (limb (PP) 1 : Nat), .int .u64 (limb (PP) 2 : Nat), .int .u64 (limb (PP) 3 : Nat), .int .u64 (limb (R256 - (PP)) 0 : Nat), .int .u64 (limb (R256 - (PP)) 1 : Nat), .int .u64 (limb (R256 - (PP)) 2 : Nat), .int .u64 (limb (R256 - (PP)) 3 : Nat)]) ∧ Below w.heap.size w w') := fun w => base2_any w
  have K2 : Hid (∀ w, Calls Tryd.prog 54 #[.agg #[.int .u64 (limb (PP) 0 : Nat), .int .u64 (limb (PP) 1 : Nat), .int .u64 (limb (PP) 2 : Nat), .int .u64 (limb (PP) 3 : Nat), .int .u64 (limb (R256 - (PP)) 0 : Nat), .int .u64 (limb (R256 - (PP)) 1 : Nat), .int .u64 (limb (R256 - (PP)) 2 : Nat), .int .u64 (limb (R256 - (PP)) 3 : Nat)], .string (s.extract 1 s.size)] w fun e w' => e = .returned (.tuple #[.agg #[.int .u64 0, .int .u64 0, .int .u64 0, .int .u64 0], .int .i64 20]) ∧ Below w.heap.size w w') := fun w => decode2_no PP n _ (fun w => by have k := from_any_ref (s.extract 1 s.size) ht w; rw [← hn0] at k; exact k) (has2_b PP n false FM_P.2.1 nR (decide_eq_false hn)) w
  obtain ⟨w0, hw0⟩ : ∃ wq, wq = (w.alloc (.cells #[.int .u64 0, .int .u64 0, .int .u64 0, .int .u64 0, .int .u64 0, .int .u64 0, .int .u64 0, .int .u64 0, .bool false] 26)) := ⟨_, rfl⟩
  have H0 : Hid (OwnC w0 (w.heap.size) zpL) ∧ Hid (Below w.heap.size w w0) := by
    rw [hw0]
    exact ⟨(OwnC.new' rfl), below_alloc0 (Below.refl _ _) _⟩
  obtain ⟨P0_0, W_0⟩ := H0
  clear ht hn0 hn nR
  have HS : Hid (s.size = 33) := hs
  have hsz : (s.size : Int) = 33 := by omega
  have hb : ∀ h, (s[0]'h).toNat = 3 := fun h => by rw [← hc]; exact sbyte_eq s 0 h
  have h0s : 0 < s.size := by omega
  clear hs hc
  go_enter Tryd.func23, Tryd.ntmps23
  go_upto_region 1 with fail
  rw [← hw0]
  clear hw0
  go_upto_region 10 with fail
  go_upto_region 10 with fail
  go_cut [5] (fun vq5 wx => ∃ bk5, vq5 = .pointer (some ⟨bk5, 0, none⟩) ∧ w0.heap.size ≤ bk5 ∧ OwnC wx bk5 (fvL PP) ∧ Below w0.heap.size w0 wx)
  case first =>
    go_wp2_with fail
    refine (K1.out _).mono ?_
    rintro e wx0 ⟨rfl, hq0⟩
    go_wp2_with fail
    go_meet
    exact ⟨_, rfl, hq0.size, OwnC.new' rfl, below_alloc0 hq0 _⟩
  case rest =>
    obtain ⟨bk5, rfl, hle, hO, hB⟩ := hcut
    have P0_1 : Hid (OwnC wc (w.heap.size) zpL) := OwnC.call P0_0.out hB
    have W_1 : Hid (Below w.heap.size w wc) := below_call0 W_0.out hB
    have V5_1 : Hid (OwnC wc bk5 (fvL PP)) := hO
    clear hB P0_0 W_0
    clear hO hle
    generalize wc = w1 at P0_1 W_1 V5_1 ⊢
    go_upto_region 11 with fail
    go_cut [6, 7] (fun vq6 vq7 wx => ∃ bk6, vq6 = .pointer (some ⟨bk6, 0, none⟩) ∧ vq7 = .int .i64 20 ∧ w1.heap.size ≤ bk6 ∧ OwnC wx bk6 z4L ∧ Below w1.heap.size w1 wx)
    case first =>
      refine wp_region_K 9 0 7 8 [?v0r11, ?v1r11, ?v2r11, ?v3r11, ?v4r11, ?v5r11, ?v6r11, undef, undef] [some 44, some 45, some 46, some 47, some 43, some 48, some 49, some 6, none] (fun s w b => OwnC w b (cond s z4L z4L)) ?Ar11 ?oar11 ?osr11 (by kernel_rfl) (by kernel_rfl) (by kernel_rfl) rfl ?hAr11 (fun _ _ _ _ h hb => OwnC.call h hb) ?hopr11 ?hoar11 ?hosr11 (by decide) (by decide) ?hswr11 ?halr11 ?hstr11 ?hfinr11
      case hAr11 =>
        intro bq
        simp only [List.set_cons_zero, List.set_cons_succ, List.zip_cons_cons, List.zip_nil_right, fillD, Act.put, List.setIfInBounds_toArray]
        exact rfl
      case hopr11 =>
        refine ⟨?_, ?_, ?_, ?_, ?_, ?_, ?_, fun h => absurd rfl h, fun _ h => absurd rfl h, trivial⟩
        focus (intro _ _ bq wx hS; refine OpTo.yields rfl ?_; obtain ⟨_, _, _, _, _, _, _, _, _, _⟩ := (OwnC.call V5_1.out hS).fv; clear hS; go_simp; try with_reducible rfl)
        iterate 2 focus (intro _ _ bq wx hS; refine OpTo.yields rfl ?_; clear hS; go_simp; try with_reducible rfl)
        focus (intro _ _ bq wx hS; refine OpTo.calls rfl ?_ ?_; rotate_left; intro K hK; go_simp; refine (K2.out _).mono ?_; rintro e w' ⟨rfl, hq⟩; exact hK w' hq; exact rfl)
        iterate 3 focus (intro _ _ bq wx hS; refine OpTo.yields rfl ?_; clear hS; go_simp; try with_reducible rfl)
      case hoar11 =>
        rw [List.getElem?_toArray]
        exact rfl
      case halr11 =>
        intro bq wx hS
        refine OpTo.make (ob := ?obr11) (B := fun w b => OwnC w b z4L) hS rfl ?runr11 ?ownr11
        case runr11 =>
          go_simp
          try with_reducible rfl
        case ownr11 => exact OwnC.new' rfl
      case hosr11 =>
        rw [List.getElem?_toArray]
        exact rfl
      case hswr11 => kernel_rfl
      case hstr11 =>
        intro bq wx hS hB hle
        have hB' : OwnC wx bq z4L := hB
        refine OpTo.stores (w1 := putL bq 0 z4L wx) (R := fun w' => OwnC w' bq (cond true z4L z4L) ∧ Below w1.heap.size w1 w') rfl ?_ rfl ⟨OwnC.put z4L hB' rfl, below_putL hle z4L 0 _ hS⟩
        obtain ⟨gz, g0, g1, g2, g3, gf⟩ := OwnC.z4 hB'
        first | (left; go_simp; done) | (right; exact ⟨_, by go_simp; rfl⟩) | (left; go_simp; rfl)
      case hfinr11 =>
        intro bq wx hS hB hle
        refine tail_at (o := ?ofr11_9) ?hir11_9 ?hwr11_9 ?_
        case hir11_9 => rw [List.getElem?_toArray]; exact rfl
        case hwr11_9 => exact rfl
        go_simp
        refine tail_end ?_
        go_wp2_with fail
        go_meet
        exact ⟨bq, rfl, rfl, hle, hB, hS⟩
    case rest =>
      obtain ⟨bk6, rfl, rfl, hle, hO, hB⟩ := hcut
      rename_i uk ul um un uo up uq ur us ut uu uv uw ux uy uz uA uB uC uD uE uF uG uH uI uJ uK uL uM uN uO uP uQ uR uS uT uU uV uW uX uY uZ va vb vc vd ve vf vg vh vi vj vk vl vm vn vo vp vq vr vs vt vu Kq1 hKq1
      clear uk ul um un uo up uq ur us ut uu uv uw ux uy uz uA uB uC uD uE uF uG uH uI uJ uK uL uM uN uO uP uQ uR uS uT uU uV uW uX uY uZ va vb vc vd ve vf vg vh vi vj vk vl vm vn vo vp vq vr vs vt vu
      have P0_2 : Hid (OwnC wc (w.heap.size) zpL) := OwnC.call P0_1.out hB
      have W_2 : Hid (Below w.heap.size w wc) := below_call0 W_1.out hB
      have V5_2 : Hid (OwnC wc bk5 (fvL PP)) := OwnC.call V5_1.out hB
      have V6_2 : Hid (OwnC wc bk6 z4L) := hO
      clear hB P0_1 W_1 V5_1
      clear hO hle
      generalize wc = w2 at P0_2 W_2 V5_2 V6_2 ⊢
      go_upto_region 13 with fail
      obtain ⟨fP0z, fP00, fP01, fP02, fP03, fP04, fP05, fP06, fP07, fP08, fP0f⟩ := (P0_2.out).zp
      go_wp2_with fail
      clear fP0z fP00 fP01 fP02 fP03 fP04 fP05 fP06 fP07 fP08 fP0f
      obtain ⟨wz, hwz⟩ : ∃ wq, wq = (((((((((w2.setCell ⟨w.heap.size, 0, none⟩ (.int .u64 0)).setCell ⟨w.heap.size, 1, none⟩ (.int .u64 0)).setCell ⟨w.heap.size, 2, none⟩ (.int .u64 0)).setCell ⟨w.heap.size, 3, none⟩ (.int .u64 0)).setCell ⟨w.heap.size, 4, none⟩ (.int .u64 0)).setCell ⟨w.heap.size, 5, none⟩ (.int .u64 0)).setCell ⟨w.heap.size, 6, none⟩ (.int .u64 0)).setCell ⟨w.heap.size, 7, none⟩ (.int .u64 0)).setCell ⟨w.heap.size, 8, none⟩ (.bool false)) := ⟨_, rfl⟩
      rw [← hwz]
      have hwy : wz = putL w.heap.size 0 zpL w2 := hwz
      have HZ : OwnC wz w.heap.size zpL ∧ Below w.heap.size w wz := by
        rw [hwy]
        exact ⟨OwnC.put zpL P0_2.out rfl, below_putL (Nat.le_refl _) zpL 0 _ W_2.out⟩
      clear hwz hwy
      obtain ⟨hO, HB⟩ := HZ
      obtain ⟨rz, r0, r1, r2, r3, r4, r5, r6, r7, r8, rf⟩ := hO.zp
      refine bodyPost_ret (v := .tuple #[.agg #[.int .u64 0, .int .u64 0, .int .u64 0, .int .u64 0, .int .u64 0, .int .u64 0, .int .u64 0, .int .u64 0, .bool false], .int .i64 20]) ?_ rfl ⟨rfl, HB⟩
      simp [results, Tryd.results23, go_sem, r0, r1, r2, r3, r4, r5, r6, r7, r8]
set_option maxRecDepth 100000 in
set_option maxHeartbeats 4000000 in
theorem decode_curveR2 (s : ByteArray) (hs : s.size = 33) (hc : sbyte s 0 = 2) (ht : (s.extract 1 s.size).size = 32) (n : Nat) (hn0 : n = numB (sbyte (s.extract 1 s.size))) (hn : n < PP) (q r : Nat) (hq : q = sqM n) (hr : r = q ^ rootE % PP) (hb2 : r * r % PP ≠ q) (w : World) :
    Calls Tryd.prog 23 #[.string s] w fun e w' => e = .returned (.tuple #[.agg #[.int .u64 0, .int .u64 0, .int .u64 0, .int .u64 0, .int .u64 0, .int .u64 0, .int .u64 0, .int .u64 0, .bool false], .int .i64 30]) ∧ Below w.heap.size w w' := by
  have K1 : Hid (∀ w, Calls Tryd.prog 38 #[] w fun e w' => e = .returned (.agg #[.int .u64 (limb (PP) 0 : Nat), .int .u64 (limb (PP) 1 : Nat), .int .u64 (limb (PP) 2 : Nat), .int .u64 (limb (PP) 3 : Nat), .int .u64 (limb (R256 - (PP)) 0 : Nat), .int .u64 (limb (R256 - (PP)) 1 : Nat), .int .u64 (limb (R256 - (PP)) 2 : Nat), .int .u64 (limb (R256 - (PP)) 3 : Nat)]) ∧ Below w.heap.size w w') := fun w => base2_any w
  have K2 : Hid (∀ w, Calls Tryd.prog 54 #[.agg #[.int .u64 (limb (PP) 0 : Nat), .int .u64 (limb (PP) 1 : Nat), .int .u64 (limb (PP) 2 : Nat), .int .u64 (limb (PP) 3 : Nat), .int .u64 (limb (R256 - (PP)) 0 : Nat), .int .u64 (limb (R256 - (PP)) 1 : Nat), .int .u64 (limb (R256 - (PP)) 2 : Nat), .int .u64 (limb (R256 - (PP)) 3 : Nat)], .string (s.extract 1 s.size)] w fun e w' => e = .returned (.tuple #[.agg #[.int .u64 (limb (n) 0 : Nat), .int .u64 (limb (n) 1 : Nat), .int .u64 (limb (n) 2 : Nat), .int .u64 (limb (n) 3 : Nat)], .int .i64 0]) ∧ Below w.heap.size w w') := fun w => decode2_go PP n _ (fun w => by have k := from_any_ref (s.extract 1 s.size) ht w; rw [← hn0] at k; exact k) (has2_b PP n true FM_P.2.1 (lt_R hn) (decide_eq_true hn)) w
  have K3 : Hid (∀ w, Calls Tryd.prog 41 #[.agg #[.int .u64 (limb (n) 0 : Nat), .int .u64 (limb (n) 1 : Nat), .int .u64 (limb (n) 2 : Nat), .int .u64 (limb (n) 3 : Nat)]] w fun e w' => e = .returned (.agg #[.int .u64 (limb (q) 0 : Nat), .int .u64 (limb (q) 1 : Nat), .int .u64 (limb (q) 2 : Nat), .int .u64 (limb (q) 3 : Nat)]) ∧ Below w.heap.size w w') := fun w => cubic3_any n q hn hq w
  have K4 : Hid (∀ w, Calls Tryd.prog 55 #[.agg #[.int .u64 (limb (PP) 0 : Nat), .int .u64 (limb (PP) 1 : Nat), .int .u64 (limb (PP) 2 : Nat), .int .u64 (limb (PP) 3 : Nat), .int .u64 (limb (R256 - (PP)) 0 : Nat), .int .u64 (limb (R256 - (PP)) 1 : Nat), .int .u64 (limb (R256 - (PP)) 2 : Nat), .int .u64 (limb (R256 - (PP)) 3 : Nat)], .agg #[.int .u64 (limb (q) 0 : Nat), .int .u64 (limb (q) 1 : Nat), .int .u64 (limb (q) 2 : Nat), .int .u64 (limb (q) 3 : Nat)], .bool true] w fun e w' => e = .returned (.tuple #[.agg #[.int .u64 0, .int .u64 0, .int .u64 0, .int .u64 0], .int .i64 22]) ∧ Below w.heap.size w w') := fun w => sqrt2_P q r _ false (by rw [hq]; exact sqM_lt _) hr (decide_eq_false hb2).symm rfl w
  obtain ⟨w0, hw0⟩ : ∃ wq, wq = (w.alloc (.cells #[.int .u64 0, .int .u64 0, .int .u64 0, .int .u64 0, .int .u64 0, .int .u64 0, .int .u64 0, .int .u64 0, .bool false] 26)) := ⟨_, rfl⟩
  have H0 : Hid (OwnC w0 (w.heap.size) zpL) ∧ Hid (Below w.heap.size w w0) := by
    rw [hw0]
    exact ⟨(OwnC.new' rfl), below_alloc0 (Below.refl _ _) _⟩
  obtain ⟨P0_0, W_0⟩ := H0
  clear ht hn0 hn hq hr hb2
  have HS : Hid (s.size = 33) := hs
  have hsz : (s.size : Int) = 33 := by omega
  have hb : ∀ h, (s[0]'h).toNat = 2 := fun h => by rw [← hc]; exact sbyte_eq s 0 h
  have h0s : 0 < s.size := by omega
  clear hs hc
  go_enter Tryd.func23, Tryd.ntmps23
  go_upto_region 1 with fail
  rw [← hw0]
  clear hw0
  go_upto_region 10 with fail
  go_upto_region 10 with fail
  go_cut [5] (fun vq5 wx => ∃ bk5, vq5 = .pointer (some ⟨bk5, 0, none⟩) ∧ w0.heap.size ≤ bk5 ∧ OwnC wx bk5 (fvL PP) ∧ Below w0.heap.size w0 wx)
  case first =>
    go_wp2_with fail
    refine (K1.out _).mono ?_
    rintro e wx0 ⟨rfl, hq0⟩
    go_wp2_with fail
    go_meet
    exact ⟨_, rfl, hq0.size, OwnC.new' rfl, below_alloc0 hq0 _⟩
  case rest =>
    obtain ⟨bk5, rfl, hle, hO, hB⟩ := hcut
    have P0_1 : Hid (OwnC wc (w.heap.size) zpL) := OwnC.call P0_0.out hB
    have W_1 : Hid (Below w.heap.size w wc) := below_call0 W_0.out hB
    have V5_1 : Hid (OwnC wc bk5 (fvL PP)) := hO
    clear hB P0_0 W_0
    clear hO hle
    generalize wc = w1 at P0_1 W_1 V5_1 ⊢
    go_upto_region 11 with fail
    go_cut [6, 7] (fun vq6 vq7 wx => ∃ bk6, vq6 = .pointer (some ⟨bk6, 0, none⟩) ∧ vq7 = .int .i64 0 ∧ w1.heap.size ≤ bk6 ∧ OwnC wx bk6 (numL n) ∧ Below w1.heap.size w1 wx)
    case first =>
      refine wp_region_K 9 0 7 8 [?v0r11, ?v1r11, ?v2r11, ?v3r11, ?v4r11, ?v5r11, ?v6r11, undef, undef] [some 44, some 45, some 46, some 47, some 43, some 48, some 49, some 6, none] (fun s w b => OwnC w b (cond s (numL n) z4L)) ?Ar11 ?oar11 ?osr11 (by kernel_rfl) (by kernel_rfl) (by kernel_rfl) rfl ?hAr11 (fun _ _ _ _ h hb => OwnC.call h hb) ?hopr11 ?hoar11 ?hosr11 (by decide) (by decide) ?hswr11 ?halr11 ?hstr11 ?hfinr11
      case hAr11 =>
        intro bq
        simp only [List.set_cons_zero, List.set_cons_succ, List.zip_cons_cons, List.zip_nil_right, fillD, Act.put, List.setIfInBounds_toArray]
        exact rfl
      case hopr11 =>
        refine ⟨?_, ?_, ?_, ?_, ?_, ?_, ?_, fun h => absurd rfl h, fun _ h => absurd rfl h, trivial⟩
        focus (intro _ _ bq wx hS; refine OpTo.yields rfl ?_; obtain ⟨_, _, _, _, _, _, _, _, _, _⟩ := (OwnC.call V5_1.out hS).fv; clear hS; go_simp; try with_reducible rfl)
        iterate 2 focus (intro _ _ bq wx hS; refine OpTo.yields rfl ?_; clear hS; go_simp; try with_reducible rfl)
        focus (intro _ _ bq wx hS; refine OpTo.calls rfl ?_ ?_; rotate_left; intro K hK; go_simp; refine (K2.out _).mono ?_; rintro e w' ⟨rfl, hq⟩; exact hK w' hq; exact rfl)
        iterate 3 focus (intro _ _ bq wx hS; refine OpTo.yields rfl ?_; clear hS; go_simp; try with_reducible rfl)
      case hoar11 =>
        rw [List.getElem?_toArray]
        exact rfl
      case halr11 =>
        intro bq wx hS
        refine OpTo.make (ob := ?obr11) (B := fun w b => OwnC w b z4L) hS rfl ?runr11 ?ownr11
        case runr11 =>
          go_simp
          try with_reducible rfl
        case ownr11 => exact OwnC.new' rfl
      case hosr11 =>
        rw [List.getElem?_toArray]
        exact rfl
      case hswr11 => kernel_rfl
      case hstr11 =>
        intro bq wx hS hB hle
        have hB' : OwnC wx bq z4L := hB
        refine OpTo.stores (w1 := putL bq 0 (numL n) wx) (R := fun w' => OwnC w' bq (cond true (numL n) z4L) ∧ Below w1.heap.size w1 w') rfl ?_ rfl ⟨OwnC.put (numL n) hB' rfl, below_putL hle (numL n) 0 _ hS⟩
        obtain ⟨gz, g0, g1, g2, g3, gf⟩ := OwnC.z4 hB'
        first | (left; go_simp; done) | (right; exact ⟨_, by go_simp; rfl⟩) | (left; go_simp; rfl)
      case hfinr11 =>
        intro bq wx hS hB hle
        refine tail_at (o := ?ofr11_9) ?hir11_9 ?hwr11_9 ?_
        case hir11_9 => rw [List.getElem?_toArray]; exact rfl
        case hwr11_9 => exact rfl
        go_simp
        refine tail_end ?_
        go_wp2_with fail
        go_meet
        exact ⟨bq, rfl, rfl, hle, hB, hS⟩
    case rest =>
      obtain ⟨bk6, rfl, rfl, hle, hO, hB⟩ := hcut
      rename_i uk ul um un uo up uq ur us ut uu uv uw ux uy uz uA uB uC uD uE uF uG uH uI uJ uK uL uM uN uO uP uQ uR uS uT uU uV uW uX uY uZ va vb vc vd ve vf vg vh vi vj vk vl vm vn vo vp vq vr vs vt vu Kq1 hKq1
      clear uk ul um un uo up uq ur us ut uu uv uw ux uy uz uA uB uC uD uE uF uG uH uI uJ uK uL uM uN uO uP uQ uR uS uT uU uV uW uX uY uZ va vb vc vd ve vf vg vh vi vj vk vl vm vn vo vp vq vr vs vt vu
      have P0_2 : Hid (OwnC wc (w.heap.size) zpL) := OwnC.call P0_1.out hB
      have W_2 : Hid (Below w.heap.size w wc) := below_call0 W_1.out hB
      have V5_2 : Hid (OwnC wc bk5 (fvL PP)) := OwnC.call V5_1.out hB
      have V6_2 : Hid (OwnC wc bk6 (numL n)) := hO
      clear hB P0_1 W_1 V5_1
      clear hO hle
      generalize wc = w2 at P0_2 W_2 V5_2 V6_2 ⊢
      go_upto_region 14 with fail
      go_upto_region 14 with fail
      go_cut [8, 9] (fun vq8 vq9 wx => ∃ bk8, vq8 = .pointer (some ⟨bk8, 0, none⟩) ∧ vq9 = .int .i64 22 ∧ w2.heap.size ≤ bk8 ∧ OwnC wx bk8 z4L ∧ Below w2.heap.size w2 wx)
      case first =>
        refine wp_region_K 9 0 7 8 [?v0r14, ?v1r14, ?v2r14, ?v3r14, ?v4r14, ?v5r14, ?v6r14, undef, undef] [some 54, some 55, some 56, some 57, some 53, some 58, some 59, some 8, none] (fun s w b => OwnC w b (cond s z4L z4L)) ?Ar14 ?oar14 ?osr14 (by kernel_rfl) (by kernel_rfl) (by kernel_rfl) rfl ?hAr14 (fun _ _ _ _ h hb => OwnC.call h hb) ?hopr14 ?hoar14 ?hosr14 (by decide) (by decide) ?hswr14 ?halr14 ?hstr14 ?hfinr14
        case hAr14 =>
          intro bq
          simp only [List.set_cons_zero, List.set_cons_succ, List.zip_cons_cons, List.zip_nil_right, fillD, Act.put, List.setIfInBounds_toArray]
          exact rfl
        case hopr14 =>
          refine ⟨?_, ?_, ?_, ?_, ?_, ?_, ?_, fun h => absurd rfl h, fun _ h => absurd rfl h, trivial⟩
          focus (intro _ _ bq wx hS; refine OpTo.yields rfl ?_; obtain ⟨_, _, _, _, _, _, _, _, _, _⟩ := (OwnC.call V5_2.out hS).fv; clear hS; go_simp; try with_reducible rfl)
          focus (intro _ _ bq wx hS; refine OpTo.yields rfl ?_; obtain ⟨_, _, _, _, _, _⟩ := (OwnC.call V6_2.out hS).num; clear hS; go_simp; try with_reducible rfl)
          focus (intro _ _ bq wx hS; refine OpTo.calls rfl ?_ ?_; rotate_left; intro K hK; go_simp; refine (K3.out _).mono ?_; rintro e w' ⟨rfl, hq⟩; exact hK w' hq; exact rfl)
          focus (intro _ _ bq wx hS; refine OpTo.calls rfl ?_ ?_; rotate_left; intro K hK; go_simp; refine (K4.out _).mono ?_; rintro e w' ⟨rfl, hq⟩; exact hK w' hq; exact rfl)
          iterate 3 focus (intro _ _ bq wx hS; refine OpTo.yields rfl ?_; clear hS; go_simp; try with_reducible rfl)
        case hoar14 =>
          rw [List.getElem?_toArray]
          exact rfl
        case halr14 =>
          intro bq wx hS
          refine OpTo.make (ob := ?obr14) (B := fun w b => OwnC w b z4L) hS rfl ?runr14 ?ownr14
          case runr14 =>
            go_simp
            try with_reducible rfl
          case ownr14 => exact OwnC.new' rfl
        case hosr14 =>
          rw [List.getElem?_toArray]
          exact rfl
        case hswr14 => kernel_rfl
        case hstr14 =>
          intro bq wx hS hB hle
          have hB' : OwnC wx bq z4L := hB
          refine OpTo.stores (w1 := putL bq 0 z4L wx) (R := fun w' => OwnC w' bq (cond true z4L z4L) ∧ Below w2.heap.size w2 w') rfl ?_ rfl ⟨OwnC.put z4L hB' rfl, below_putL hle z4L 0 _ hS⟩
          obtain ⟨gz, g0, g1, g2, g3, gf⟩ := OwnC.z4 hB'
          first | (left; go_simp; done) | (right; exact ⟨_, by go_simp; rfl⟩) | (left; go_simp; rfl)
        case hfinr14 =>
          intro bq wx hS hB hle
          refine tail_at (o := ?ofr14_9) ?hir14_9 ?hwr14_9 ?_
          case hir14_9 => rw [List.getElem?_toArray]; exact rfl
          case hwr14_9 => exact rfl
          go_simp
          refine tail_end ?_
          go_wp2_with fail
          go_meet
          exact ⟨bq, rfl, rfl, hle, hB, hS⟩
      case rest =>
        obtain ⟨bk8, rfl, rfl, hle, hO, hB⟩ := hcut
        rename_i uk ul um un uo up uq ur us ut uu uv uw ux uy uz uA uB uC uD uE uF uG uH uI uJ uK uL uM uN uO uP uQ uR uS uT uU uV uW uX uY uZ va vb vc vd ve vf vg vh vi vj vk vl vm vn vo vp vq vr vs vt vu Kq2 hKq2
        clear uk ul um un uo up uq ur us ut uu uv uw ux uy uz uA uB uC uD uE uF uG uH uI uJ uK uL uM uN uO uP uQ uR uS uT uU uV uW uX uY uZ va vb vc vd ve vf vg vh vi vj vk vl vm vn vo vp vq vr vs vt vu
        have P0_3 : Hid (OwnC wc (w.heap.size) zpL) := OwnC.call P0_2.out hB
        have W_3 : Hid (Below w.heap.size w wc) := below_call0 W_2.out hB
        have V5_3 : Hid (OwnC wc bk5 (fvL PP)) := OwnC.call V5_2.out hB
        have V6_3 : Hid (OwnC wc bk6 (numL n)) := OwnC.call V6_2.out hB
        have V8_3 : Hid (OwnC wc bk8 z4L) := hO
        clear hB P0_2 W_2 V5_2 V6_2
        clear hO hle
        generalize wc = w3 at P0_3 W_3 V5_3 V6_3 V8_3 ⊢
        go_upto_region 16 with fail
        obtain ⟨fP0z, fP00, fP01, fP02, fP03, fP04, fP05, fP06, fP07, fP08, fP0f⟩ := (P0_3.out).zp
        go_wp2_with fail
        clear fP0z fP00 fP01 fP02 fP03 fP04 fP05 fP06 fP07 fP08 fP0f
        obtain ⟨wz, hwz⟩ : ∃ wq, wq = (((((((((w3.setCell ⟨w.heap.size, 0, none⟩ (.int .u64 0)).setCell ⟨w.heap.size, 1, none⟩ (.int .u64 0)).setCell ⟨w.heap.size, 2, none⟩ (.int .u64 0)).setCell ⟨w.heap.size, 3, none⟩ (.int .u64 0)).setCell ⟨w.heap.size, 4, none⟩ (.int .u64 0)).setCell ⟨w.heap.size, 5, none⟩ (.int .u64 0)).setCell ⟨w.heap.size, 6, none⟩ (.int .u64 0)).setCell ⟨w.heap.size, 7, none⟩ (.int .u64 0)).setCell ⟨w.heap.size, 8, none⟩ (.bool false)) := ⟨_, rfl⟩
        rw [← hwz]
        have hwy : wz = putL w.heap.size 0 zpL w3 := hwz
        have HZ : OwnC wz w.heap.size zpL ∧ Below w.heap.size w wz := by
          rw [hwy]
          exact ⟨OwnC.put zpL P0_3.out rfl, below_putL (Nat.le_refl _) zpL 0 _ W_3.out⟩
        clear hwz hwy
        obtain ⟨hO, HB⟩ := HZ
        obtain ⟨rz, r0, r1, r2, r3, r4, r5, r6, r7, r8, rf⟩ := hO.zp
        refine bodyPost_ret (v := .tuple #[.agg #[.int .u64 0, .int .u64 0, .int .u64 0, .int .u64 0, .int .u64 0, .int .u64 0, .int .u64 0, .int .u64 0, .bool false], .int .i64 30]) ?_ rfl ⟨rfl, HB⟩
        simp [results, Tryd.results23, go_sem, r0, r1, r2, r3, r4, r5, r6, r7, r8]
set_option maxRecDepth 100000 in
set_option maxHeartbeats 4000000 in
theorem decode_curveR3 (s : ByteArray) (hs : s.size = 33) (hc : sbyte s 0 = 3) (ht : (s.extract 1 s.size).size = 32) (n : Nat) (hn0 : n = numB (sbyte (s.extract 1 s.size))) (hn : n < PP) (q r : Nat) (hq : q = sqM n) (hr : r = q ^ rootE % PP) (hb2 : r * r % PP ≠ q) (w : World) :
    Calls Tryd.prog 23 #[.string s] w fun e w' => e = .returned (.tuple #[.agg #[.int .u64 0, .int .u64 0, .int .u64 0, .int .u64 0, .int .u64 0, .int .u64 0, .int .u64 0, .int .u64 0, .bool false], .int .i64 30]) ∧ Below w.heap.size w w' := by
  have K1 : Hid (∀ w, Calls Tryd.prog 38 #[] w fun e w' => e = .returned (.agg #[.int .u64 (limb (PP) 0 : Nat), .int .u64 (limb (PP) 1 : Nat), .int .u64 (limb (PP) 2 : Nat), .int .u64 (limb (PP) 3 : Nat), .int .u64 (limb (R256 - (PP)) 0 : Nat), .int .u64 (limb (R256 - (PP)) 1 : Nat), .int .u64 (limb (R256 - (PP)) 2 : Nat), .int .u64 (limb (R256 - (PP)) 3 : Nat)]) ∧ Below w.heap.size w w') := fun w => base2_any w
  have K2 : Hid (∀ w, Calls Tryd.prog 54 #[.agg #[.int .u64 (limb (PP) 0 : Nat), .int .u64 (limb (PP) 1 : Nat), .int .u64 (limb (PP) 2 : Nat), .int .u64 (limb (PP) 3 : Nat), .int .u64 (limb (R256 - (PP)) 0 : Nat), .int .u64 (limb (R256 - (PP)) 1 : Nat), .int .u64 (limb (R256 - (PP)) 2 : Nat), .int .u64 (limb (R256 - (PP)) 3 : Nat)], .string (s.extract 1 s.size)] w fun e w' => e = .returned (.tuple #[.agg #[.int .u64 (limb (n) 0 : Nat), .int .u64 (limb (n) 1 : Nat), .int .u64 (limb (n) 2 : Nat), .int .u64 (limb (n) 3 : Nat)], .int .i64 0]) ∧ Below w.heap.size w w') := fun w => decode2_go PP n _ (fun w => by have k := from_any_ref (s.extract 1 s.size) ht w; rw [← hn0] at k; exact k) (has2_b PP n true FM_P.2.1 (lt_R hn) (decide_eq_true hn)) w
  have K3 : Hid (∀ w, Calls Tryd.prog 41 #[.agg #[.int .u64 (limb (n) 0 : Nat), .int .u64 (limb (n) 1 : Nat), .int .u64 (limb (n) 2 : Nat), .int .u64 (limb (n) 3 : Nat)]] w fun e w' => e = .returned (.agg #[.int .u64 (limb (q) 0 : Nat), .int .u64 (limb (q) 1 : Nat), .int .u64 (limb (q) 2 : Nat), .int .u64 (limb (q) 3 : Nat)]) ∧ Below w.heap.size w w') := fun w => cubic3_any n q hn hq w
  have K4 : Hid (∀ w, Calls Tryd.prog 55 #[.agg #[.int .u64 (limb (PP) 0 : Nat), .int .u64 (limb (PP) 1 : Nat), .int .u64 (limb (PP) 2 : Nat), .int .u64 (limb (PP) 3 : Nat), .int .u64 (limb (R256 - (PP)) 0 : Nat), .int .u64 (limb (R256 - (PP)) 1 : Nat), .int .u64 (limb (R256 - (PP)) 2 : Nat), .int .u64 (limb (R256 - (PP)) 3 : Nat)], .agg #[.int .u64 (limb (q) 0 : Nat), .int .u64 (limb (q) 1 : Nat), .int .u64 (limb (q) 2 : Nat), .int .u64 (limb (q) 3 : Nat)], .bool true] w fun e w' => e = .returned (.tuple #[.agg #[.int .u64 0, .int .u64 0, .int .u64 0, .int .u64 0], .int .i64 22]) ∧ Below w.heap.size w w') := fun w => sqrt2_P q r _ false (by rw [hq]; exact sqM_lt _) hr (decide_eq_false hb2).symm rfl w
  obtain ⟨w0, hw0⟩ : ∃ wq, wq = (w.alloc (.cells #[.int .u64 0, .int .u64 0, .int .u64 0, .int .u64 0, .int .u64 0, .int .u64 0, .int .u64 0, .int .u64 0, .bool false] 26)) := ⟨_, rfl⟩
  have H0 : Hid (OwnC w0 (w.heap.size) zpL) ∧ Hid (Below w.heap.size w w0) := by
    rw [hw0]
    exact ⟨(OwnC.new' rfl), below_alloc0 (Below.refl _ _) _⟩
  obtain ⟨P0_0, W_0⟩ := H0
  clear ht hn0 hn hq hr hb2
  have HS : Hid (s.size = 33) := hs
  have hsz : (s.size : Int) = 33 := by omega
  have hb : ∀ h, (s[0]'h).toNat = 3 := fun h => by rw [← hc]; exact sbyte_eq s 0 h
  have h0s : 0 < s.size := by omega
  clear hs hc
  go_enter Tryd.func23, Tryd.ntmps23
  go_upto_region 1 with fail
  rw [← hw0]
  clear hw0
  go_upto_region 10 with fail
  go_upto_region 10 with fail
  go_cut [5] (fun vq5 wx => ∃ bk5, vq5 = .pointer (some ⟨bk5, 0, none⟩) ∧ w0.heap.size ≤ bk5 ∧ OwnC wx bk5 (fvL PP) ∧ Below w0.heap.size w0 wx)
  case first =>
    go_wp2_with fail
    refine (K1.out _).mono ?_
    rintro e wx0 ⟨rfl, hq0⟩
    go_wp2_with fail
    go_meet
    exact ⟨_, rfl, hq0.size, OwnC.new' rfl, below_alloc0 hq0 _⟩
  case rest =>
    obtain ⟨bk5, rfl, hle, hO, hB⟩ := hcut
    have P0_1 : Hid (OwnC wc (w.heap.size) zpL) := OwnC.call P0_0.out hB
    have W_1 : Hid (Below w.heap.size w wc) := below_call0 W_0.out hB
    have V5_1 : Hid (OwnC wc bk5 (fvL PP)) := hO
    clear hB P0_0 W_0
    clear hO hle
    generalize wc = w1 at P0_1 W_1 V5_1 ⊢
    go_upto_region 11 with fail
    go_cut [6, 7] (fun vq6 vq7 wx => ∃ bk6, vq6 = .pointer (some ⟨bk6, 0, none⟩) ∧ vq7 = .int .i64 0 ∧ w1.heap.size ≤ bk6 ∧ OwnC wx bk6 (numL n) ∧ Below w1.heap.size w1 wx)
    case first =>
      refine wp_region_K 9 0 7 8 [?v0r11, ?v1r11, ?v2r11, ?v3r11, ?v4r11, ?v5r11, ?v6r11, undef, undef] [some 44, some 45, some 46, some 47, some 43, some 48, some 49, some 6, none] (fun s w b => OwnC w b (cond s (numL n) z4L)) ?Ar11 ?oar11 ?osr11 (by kernel_rfl) (by kernel_rfl) (by kernel_rfl) rfl ?hAr11 (fun _ _ _ _ h hb => OwnC.call h hb) ?hopr11 ?hoar11 ?hosr11 (by decide) (by decide) ?hswr11 ?halr11 ?hstr11 ?hfinr11
      case hAr11 =>
        intro bq
        simp only [List.set_cons_zero, List.set_cons_succ, List.zip_cons_cons, List.zip_nil_right, fillD, Act.put, List.setIfInBounds_toArray]
        exact rfl
      case hopr11 =>
        refine ⟨?_, ?_, ?_, ?_, ?_, ?_, ?_, fun h => absurd rfl h, fun _ h => absurd rfl h, trivial⟩
        focus (intro _ _ bq wx hS; refine OpTo.yields rfl ?_; obtain ⟨_, _, _, _, _, _, _, _, _, _⟩ := (OwnC.call V5_1.out hS).fv; clear hS; go_simp; try with_reducible rfl)
        iterate 2 focus (intro _ _ bq wx hS; refine OpTo.yields rfl ?_; clear hS; go_simp; try with_reducible rfl)
        focus (intro _ _ bq wx hS; refine OpTo.calls rfl ?_ ?_; rotate_left; intro K hK; go_simp; refine (K2.out _).mono ?_; rintro e w' ⟨rfl, hq⟩; exact hK w' hq; exact rfl)
        iterate 3 focus (intro _ _ bq wx hS; refine OpTo.yields rfl ?_; clear hS; go_simp; try with_reducible rfl)
      case hoar11 =>
        rw [List.getElem?_toArray]
        exact rfl
      case halr11 =>
        intro bq wx hS
        refine OpTo.make (ob := ?obr11) (B := fun w b => OwnC w b z4L) hS rfl ?runr11 ?ownr11
        case runr11 =>
          go_simp
          try with_reducible rfl
        case ownr11 => exact OwnC.new' rfl
      case hosr11 =>
        rw [List.getElem?_toArray]
        exact rfl
      case hswr11 => kernel_rfl
      case hstr11 =>
        intro bq wx hS hB hle
        have hB' : OwnC wx bq z4L := hB
        refine OpTo.stores (w1 := putL bq 0 (numL n) wx) (R := fun w' => OwnC w' bq (cond true (numL n) z4L) ∧ Below w1.heap.size w1 w') rfl ?_ rfl ⟨OwnC.put (numL n) hB' rfl, below_putL hle (numL n) 0 _ hS⟩
        obtain ⟨gz, g0, g1, g2, g3, gf⟩ := OwnC.z4 hB'
        first | (left; go_simp; done) | (right; exact ⟨_, by go_simp; rfl⟩) | (left; go_simp; rfl)
      case hfinr11 =>
        intro bq wx hS hB hle
        refine tail_at (o := ?ofr11_9) ?hir11_9 ?hwr11_9 ?_
        case hir11_9 => rw [List.getElem?_toArray]; exact rfl
        case hwr11_9 => exact rfl
        go_simp
        refine tail_end ?_
        go_wp2_with fail
        go_meet
        exact ⟨bq, rfl, rfl, hle, hB, hS⟩
    case rest =>
      obtain ⟨bk6, rfl, rfl, hle, hO, hB⟩ := hcut
      rename_i uk ul um un uo up uq ur us ut uu uv uw ux uy uz uA uB uC uD uE uF uG uH uI uJ uK uL uM uN uO uP uQ uR uS uT uU uV uW uX uY uZ va vb vc vd ve vf vg vh vi vj vk vl vm vn vo vp vq vr vs vt vu Kq1 hKq1
      clear uk ul um un uo up uq ur us ut uu uv uw ux uy uz uA uB uC uD uE uF uG uH uI uJ uK uL uM uN uO uP uQ uR uS uT uU uV uW uX uY uZ va vb vc vd ve vf vg vh vi vj vk vl vm vn vo vp vq vr vs vt vu
      have P0_2 : Hid (OwnC wc (w.heap.size) zpL) := OwnC.call P0_1.out hB
      have W_2 : Hid (Below w.heap.size w wc) := below_call0 W_1.out hB
      have V5_2 : Hid (OwnC wc bk5 (fvL PP)) := OwnC.call V5_1.out hB
      have V6_2 : Hid (OwnC wc bk6 (numL n)) := hO
      clear hB P0_1 W_1 V5_1
      clear hO hle
      generalize wc = w2 at P0_2 W_2 V5_2 V6_2 ⊢
      go_upto_region 14 with fail
      go_upto_region 14 with fail
      go_cut [8, 9] (fun vq8 vq9 wx => ∃ bk8, vq8 = .pointer (some ⟨bk8, 0, none⟩) ∧ vq9 = .int .i64 22 ∧ w2.heap.size ≤ bk8 ∧ OwnC wx bk8 z4L ∧ Below w2.heap.size w2 wx)
      case first =>
        refine wp_region_K 9 0 7 8 [?v0r14, ?v1r14, ?v2r14, ?v3r14, ?v4r14, ?v5r14, ?v6r14, undef, undef] [some 54, some 55, some 56, some 57, some 53, some 58, some 59, some 8, none] (fun s w b => OwnC w b (cond s z4L z4L)) ?Ar14 ?oar14 ?osr14 (by kernel_rfl) (by kernel_rfl) (by kernel_rfl) rfl ?hAr14 (fun _ _ _ _ h hb => OwnC.call h hb) ?hopr14 ?hoar14 ?hosr14 (by decide) (by decide) ?hswr14 ?halr14 ?hstr14 ?hfinr14
        case hAr14 =>
          intro bq
          simp only [List.set_cons_zero, List.set_cons_succ, List.zip_cons_cons, List.zip_nil_right, fillD, Act.put, List.setIfInBounds_toArray]
          exact rfl
        case hopr14 =>
          refine ⟨?_, ?_, ?_, ?_, ?_, ?_, ?_, fun h => absurd rfl h, fun _ h => absurd rfl h, trivial⟩
          focus (intro _ _ bq wx hS; refine OpTo.yields rfl ?_; obtain ⟨_, _, _, _, _, _, _, _, _, _⟩ := (OwnC.call V5_2.out hS).fv; clear hS; go_simp; try with_reducible rfl)
          focus (intro _ _ bq wx hS; refine OpTo.yields rfl ?_; obtain ⟨_, _, _, _, _, _⟩ := (OwnC.call V6_2.out hS).num; clear hS; go_simp; try with_reducible rfl)
          focus (intro _ _ bq wx hS; refine OpTo.calls rfl ?_ ?_; rotate_left; intro K hK; go_simp; refine (K3.out _).mono ?_; rintro e w' ⟨rfl, hq⟩; exact hK w' hq; exact rfl)
          focus (intro _ _ bq wx hS; refine OpTo.calls rfl ?_ ?_; rotate_left; intro K hK; go_simp; refine (K4.out _).mono ?_; rintro e w' ⟨rfl, hq⟩; exact hK w' hq; exact rfl)
          iterate 3 focus (intro _ _ bq wx hS; refine OpTo.yields rfl ?_; clear hS; go_simp; try with_reducible rfl)
        case hoar14 =>
          rw [List.getElem?_toArray]
          exact rfl
        case halr14 =>
          intro bq wx hS
          refine OpTo.make (ob := ?obr14) (B := fun w b => OwnC w b z4L) hS rfl ?runr14 ?ownr14
          case runr14 =>
            go_simp
            try with_reducible rfl
          case ownr14 => exact OwnC.new' rfl
        case hosr14 =>
          rw [List.getElem?_toArray]
          exact rfl
        case hswr14 => kernel_rfl
        case hstr14 =>
          intro bq wx hS hB hle
          have hB' : OwnC wx bq z4L := hB
          refine OpTo.stores (w1 := putL bq 0 z4L wx) (R := fun w' => OwnC w' bq (cond true z4L z4L) ∧ Below w2.heap.size w2 w') rfl ?_ rfl ⟨OwnC.put z4L hB' rfl, below_putL hle z4L 0 _ hS⟩
          obtain ⟨gz, g0, g1, g2, g3, gf⟩ := OwnC.z4 hB'
          first | (left; go_simp; done) | (right; exact ⟨_, by go_simp; rfl⟩) | (left; go_simp; rfl)
        case hfinr14 =>
          intro bq wx hS hB hle
          refine tail_at (o := ?ofr14_9) ?hir14_9 ?hwr14_9 ?_
          case hir14_9 => rw [List.getElem?_toArray]; exact rfl
          case hwr14_9 => exact rfl
          go_simp
          refine tail_end ?_
          go_wp2_with fail
          go_meet
          exact ⟨bq, rfl, rfl, hle, hB, hS⟩
      case rest =>
        obtain ⟨bk8, rfl, rfl, hle, hO, hB⟩ := hcut
        rename_i uk ul um un uo up uq ur us ut uu uv uw ux uy uz uA uB uC uD uE uF uG uH uI uJ uK uL uM uN uO uP uQ uR uS uT uU uV uW uX uY uZ va vb vc vd ve vf vg vh vi vj vk vl vm vn vo vp vq vr vs vt vu Kq2 hKq2
        clear uk ul um un uo up uq ur us ut uu uv uw ux uy uz uA uB uC uD uE uF uG uH uI uJ uK uL uM uN uO uP uQ uR uS uT uU uV uW uX uY uZ va vb vc vd ve vf vg vh vi vj vk vl vm vn vo vp vq vr vs vt vu
        have P0_3 : Hid (OwnC wc (w.heap.size) zpL) := OwnC.call P0_2.out hB
        have W_3 : Hid (Below w.heap.size w wc) := below_call0 W_2.out hB
        have V5_3 : Hid (OwnC wc bk5 (fvL PP)) := OwnC.call V5_2.out hB
        have V6_3 : Hid (OwnC wc bk6 (numL n)) := OwnC.call V6_2.out hB
        have V8_3 : Hid (OwnC wc bk8 z4L) := hO
        clear hB P0_2 W_2 V5_2 V6_2
        clear hO hle
        generalize wc = w3 at P0_3 W_3 V5_3 V6_3 V8_3 ⊢
        go_upto_region 16 with fail
        obtain ⟨fP0z, fP00, fP01, fP02, fP03, fP04, fP05, fP06, fP07, fP08, fP0f⟩ := (P0_3.out).zp
        go_wp2_with fail
        clear fP0z fP00 fP01 fP02 fP03 fP04 fP05 fP06 fP07 fP08 fP0f
        obtain ⟨wz, hwz⟩ : ∃ wq, wq = (((((((((w3.setCell ⟨w.heap.size, 0, none⟩ (.int .u64 0)).setCell ⟨w.heap.size, 1, none⟩ (.int .u64 0)).setCell ⟨w.heap.size, 2, none⟩ (.int .u64 0)).setCell ⟨w.heap.size, 3, none⟩ (.int .u64 0)).setCell ⟨w.heap.size, 4, none⟩ (.int .u64 0)).setCell ⟨w.heap.size, 5, none⟩ (.int .u64 0)).setCell ⟨w.heap.size, 6, none⟩ (.int .u64 0)).setCell ⟨w.heap.size, 7, none⟩ (.int .u64 0)).setCell ⟨w.heap.size, 8, none⟩ (.bool false)) := ⟨_, rfl⟩
        rw [← hwz]
        have hwy : wz = putL w.heap.size 0 zpL w3 := hwz
        have HZ : OwnC wz w.heap.size zpL ∧ Below w.heap.size w wz := by
          rw [hwy]
          exact ⟨OwnC.put zpL P0_3.out rfl, below_putL (Nat.le_refl _) zpL 0 _ W_3.out⟩
        clear hwz hwy
        obtain ⟨hO, HB⟩ := HZ
        obtain ⟨rz, r0, r1, r2, r3, r4, r5, r6, r7, r8, rf⟩ := hO.zp
        refine bodyPost_ret (v := .tuple #[.agg #[.int .u64 0, .int .u64 0, .int .u64 0, .int .u64 0, .int .u64 0, .int .u64 0, .int .u64 0, .int .u64 0, .bool false], .int .i64 30]) ?_ rfl ⟨rfl, HB⟩
        simp [results, Tryd.results23, go_sem, r0, r1, r2, r3, r4, r5, r6, r7, r8]
set_option maxRecDepth 100000 in
set_option maxHeartbeats 4000000 in
theorem decode_2R (s : ByteArray) (hs : s.size = 33) (hc : sbyte s 0 = 2) (ht : (s.extract 1 s.size).size = 32) (n : Nat) (hn0 : n = numB (sbyte (s.extract 1 s.size))) (hn : n < PP) (q r : Nat) (hq : q = sqM n) (hr : r = q ^ rootE % PP) (hb2 : r * r % PP = q) (y : Nat) (hy0 : y = evenR PP r) (w : World) :
    Calls Tryd.prog 23 #[.string s] w fun e w' => e = .returned (.tuple #[.agg #[.int .u64 (limb (n) 0 : Nat), .int .u64 (limb (n) 1 : Nat), .int .u64 (limb (n) 2 : Nat), .int .u64 (limb (n) 3 : Nat), .int .u64 (limb (y) 0 : Nat), .int .u64 (limb (y) 1 : Nat), .int .u64 (limb (y) 2 : Nat), .int .u64 (limb (y) 3 : Nat), .bool false], .int .i64 0]) ∧ Below w.heap.size w w' := by
  have K1 : Hid (∀ w, Calls Tryd.prog 38 #[] w fun e w' => e = .returned (.agg #[.int .u64 (limb (PP) 0 : Nat), .int .u64 (limb (PP) 1 : Nat), .int .u64 (limb (PP) 2 : Nat), .int .u64 (limb (PP) 3 : Nat), .int .u64 (limb (R256 - (PP)) 0 : Nat), .int .u64 (limb (R256 - (PP)) 1 : Nat), .int .u64 (limb (R256 - (PP)) 2 : Nat), .int .u64 (limb (R256 - (PP)) 3 : Nat)]) ∧ Below w.heap.size w w') := fun w => base2_any w
  have K2 : Hid (∀ w, Calls Tryd.prog 54 #[.agg #[.int .u64 (limb (PP) 0 : Nat), .int .u64 (limb (PP) 1 : Nat), .int .u64 (limb (PP) 2 : Nat), .int .u64 (limb (PP) 3 : Nat), .int .u64 (limb (R256 - (PP)) 0 : Nat), .int .u64 (limb (R256 - (PP)) 1 : Nat), .int .u64 (limb (R256 - (PP)) 2 : Nat), .int .u64 (limb (R256 - (PP)) 3 : Nat)], .string (s.extract 1 s.size)] w fun e w' => e = .returned (.tuple #[.agg #[.int .u64 (limb (n) 0 : Nat), .int .u64 (limb (n) 1 : Nat), .int .u64 (limb (n) 2 : Nat), .int .u64 (limb (n) 3 : Nat)], .int .i64 0]) ∧ Below w.heap.size w w') := fun w => decode2_go PP n _ (fun w => by have k := from_any_ref (s.extract 1 s.size) ht w; rw [← hn0] at k; exact k) (has2_b PP n true FM_P.2.1 (lt_R hn) (decide_eq_true hn)) w
  have K3 : Hid (∀ w, Calls Tryd.prog 41 #[.agg #[.int .u64 (limb (n) 0 : Nat), .int .u64 (limb (n) 1 : Nat), .int .u64 (limb (n) 2 : Nat), .int .u64 (limb (n) 3 : Nat)]] w fun e w' => e = .returned (.agg #[.int .u64 (limb (q) 0 : Nat), .int .u64 (limb (q) 1 : Nat), .int .u64 (limb (q) 2 : Nat), .int .u64 (limb (q) 3 : Nat)]) ∧ Below w.heap.size w w') := fun w => cubic3_any n q hn hq w
  have K4 : Hid (∀ w, Calls Tryd.prog 55 #[.agg #[.int .u64 (limb (PP) 0 : Nat), .int .u64 (limb (PP) 1 : Nat), .int .u64 (limb (PP) 2 : Nat), .int .u64 (limb (PP) 3 : Nat), .int .u64 (limb (R256 - (PP)) 0 : Nat), .int .u64 (limb (R256 - (PP)) 1 : Nat), .int .u64 (limb (R256 - (PP)) 2 : Nat), .int .u64 (limb (R256 - (PP)) 3 : Nat)], .agg #[.int .u64 (limb (q) 0 : Nat), .int .u64 (limb (q) 1 : Nat), .int .u64 (limb (q) 2 : Nat), .int .u64 (limb (q) 3 : Nat)], .bool true] w fun e w' => e = .returned (.tuple #[.agg #[.int .u64 (limb (y) 0 : Nat), .int .u64 (limb (y) 1 : Nat), .int .u64 (limb (y) 2 : Nat), .int .u64 (limb (y) 3 : Nat)], .int .i64 0]) ∧ Below w.heap.size w w') := fun w => by have k := sqrt2_P q r _ true (by rw [hq]; exact sqM_lt _) hr (decide_eq_true hb2).symm rfl w; rw [← hy0] at k; exact k
  obtain ⟨w0, hw0⟩ : ∃ wq, wq = (w.alloc (.cells #[.int .u64 0, .int .u64 0, .int .u64 0, .int .u64 0, .int .u64 0, .int .u64 0, .int .u64 0, .int .u64 0, .bool false] 26)) := ⟨_, rfl⟩
  have H0 : Hid (OwnC w0 (w.heap.size) zpL) ∧ Hid (Below w.heap.size w w0) := by
    rw [hw0]
    exact ⟨(OwnC.new' rfl), below_alloc0 (Below.refl _ _) _⟩
  obtain ⟨P0_0, W_0⟩ := H0
  clear ht hn0 hn hq hr hb2 hy0
  have HS : Hid (s.size = 33) := hs
  have hsz : (s.size : Int) = 33 := by omega
  have hb : ∀ h, (s[0]'h).toNat = 2 := fun h => by rw [← hc]; exact sbyte_eq s 0 h
  have h0s : 0 < s.size := by omega
  clear hs hc
  go_enter Tryd.func23, Tryd.ntmps23
  go_upto_region 1 with fail
  rw [← hw0]
  clear hw0
  go_upto_region 10 with fail
  go_upto_region 10 with fail
  go_cut [5] (fun vq5 wx => ∃ bk5, vq5 = .pointer (some ⟨bk5, 0, none⟩) ∧ w0.heap.size ≤ bk5 ∧ OwnC wx bk5 (fvL PP) ∧ Below w0.heap.size w0 wx)
  case first =>
    go_wp2_with fail
    refine (K1.out _).mono ?_
    rintro e wx0 ⟨rfl, hq0⟩
    go_wp2_with fail
    go_meet
    exact ⟨_, rfl, hq0.size, OwnC.new' rfl, below_alloc0 hq0 _⟩
  case rest =>
    obtain ⟨bk5, rfl, hle, hO, hB⟩ := hcut
    have P0_1 : Hid (OwnC wc (w.heap.size) zpL) := OwnC.call P0_0.out hB
    have W_1 : Hid (Below w.heap.size w wc) := below_call0 W_0.out hB
    have V5_1 : Hid (OwnC wc bk5 (fvL PP)) := hO
    clear hB P0_0 W_0
    clear hO hle
    generalize wc = w1 at P0_1 W_1 V5_1 ⊢
    go_upto_region 11 with fail
    go_cut [6, 7] (fun vq6 vq7 wx => ∃ bk6, vq6 = .pointer (some ⟨bk6, 0, none⟩) ∧ vq7 = .int .i64 0 ∧ w1.heap.size ≤ bk6 ∧ OwnC wx bk6 (numL n) ∧ Below w1.heap.size w1 wx)
    case first =>
      refine wp_region_K 9 0 7 8 [?v0r11, ?v1r11, ?v2r11, ?v3r11, ?v4r11, ?v5r11, ?v6r11, undef, undef] [some 44, some 45, some 46, some 47, some 43, some 48, some 49, some 6, none] (fun s w b => OwnC w b (cond s (numL n) z4L)) ?Ar11 ?oar11 ?osr11 (by kernel_rfl) (by kernel_rfl) (by kernel_rfl) rfl ?hAr11 (fun _ _ _ _ h hb => OwnC.call h hb) ?hopr11 ?hoar11 ?hosr11 (by decide) (by decide) ?hswr11 ?halr11 ?hstr11 ?hfinr11
      case hAr11 =>
        intro bq
        simp only [List.set_cons_zero, List.set_cons_succ, List.zip_cons_cons, List.zip_nil_right, fillD, Act.put, List.setIfInBounds_toArray]
        exact rfl
      case hopr11 =>
        refine ⟨?_, ?_, ?_, ?_, ?_, ?_, ?_, fun h => absurd rfl h, fun _ h => absurd rfl h, trivial⟩
        focus (intro _ _ bq wx hS; refine OpTo.yields rfl ?_; obtain ⟨_, _, _, _, _, _, _, _, _, _⟩ := (OwnC.call V5_1.out hS).fv; clear hS; go_simp; try with_reducible rfl)
        iterate 2 focus (intro _ _ bq wx hS; refine OpTo.yields rfl ?_; clear hS; go_simp; try with_reducible rfl)
        focus (intro _ _ bq wx hS; refine OpTo.calls rfl ?_ ?_; rotate_left; intro K hK; go_simp; refine (K2.out _).mono ?_; rintro e w' ⟨rfl, hq⟩; exact hK w' hq; exact rfl)
        iterate 3 focus (intro _ _ bq wx hS; refine OpTo.yields rfl ?_; clear hS; go_simp; try with_reducible rfl)
      case hoar11 =>
        rw [List.getElem?_toArray]
        exact rfl
      case halr11 =>
        intro bq wx hS
        refine OpTo.make (ob := ?obr11) (B := fun w b => OwnC w b z4L) hS rfl ?runr11 ?ownr11
        case runr11 =>
          go_simp
          try with_reducible rfl
        case ownr11 => exact OwnC.new' rfl
      case hosr11 =>
        rw [List.getElem?_toArray]
        exact rfl
      case hswr11 => kernel_rfl
      case hstr11 =>
        intro bq wx hS hB hle
        have hB' : OwnC wx bq z4L := hB
        refine OpTo.stores (w1 := putL bq 0 (numL n) wx) (R := fun w' => OwnC w' bq (cond true (numL n) z4L) ∧ Below w1.heap.size w1 w') rfl ?_ rfl ⟨OwnC.put (numL n) hB' rfl, below_putL hle (numL n) 0 _ hS⟩
        obtain ⟨gz, g0, g1, g2, g3, gf⟩ := OwnC.z4 hB'
        first | (left; go_simp; done) | (right; exact ⟨_, by go_simp; rfl⟩) | (left; go_simp; rfl)
      case hfinr11 =>
        intro bq wx hS hB hle
        refine tail_at (o := ?ofr11_9) ?hir11_9 ?hwr11_9 ?_
        case hir11_9 => rw [List.getElem?_toArray]; exact rfl
        case hwr11_9 => exact rfl
        go_simp
        refine tail_end ?_
        go_wp2_with fail
        go_meet
        exact ⟨bq, rfl, rfl, hle, hB, hS⟩
    case rest =>
      obtain ⟨bk6, rfl, rfl, hle, hO, hB⟩ := hcut
      rename_i uk ul um un uo up uq ur us ut uu uv uw ux uy uz uA uB uC uD uE uF uG uH uI uJ uK uL uM uN uO uP uQ uR uS uT uU uV uW uX uY uZ va vb vc vd ve vf vg vh vi vj vk vl vm vn vo vp vq vr vs vt vu Kq1 hKq1
      clear uk ul um un uo up uq ur us ut uu uv uw ux uy uz uA uB uC uD uE uF uG uH uI uJ uK uL uM uN uO uP uQ uR uS uT uU uV uW uX uY uZ va vb vc vd ve vf vg vh vi vj vk vl vm vn vo vp vq vr vs vt vu
      have P0_2 : Hid (OwnC wc (w.heap.size) zpL) := OwnC.call P0_1.out hB
      have W_2 : Hid (Below w.heap.size w wc) := below_call0 W_1.out hB
      have V5_2 : Hid (OwnC wc bk5 (fvL PP)) := OwnC.call V5_1.out hB
      have V6_2 : Hid (OwnC wc bk6 (numL n)) := hO
      clear hB P0_1 W_1 V5_1
      clear hO hle
      generalize wc = w2 at P0_2 W_2 V5_2 V6_2 ⊢
      go_upto_region 14 with fail
      go_upto_region 14 with fail
      go_cut [8, 9] (fun vq8 vq9 wx => ∃ bk8, vq8 = .pointer (some ⟨bk8, 0, none⟩) ∧ vq9 = .int .i64 0 ∧ w2.heap.size ≤ bk8 ∧ OwnC wx bk8 (numL y) ∧ Below w2.heap.size w2 wx)
      case first =>
        refine wp_region_K 9 0 7 8 [?v0r14, ?v1r14, ?v2r14, ?v3r14, ?v4r14, ?v5r14, ?v6r14, undef, undef] [some 54, some 55, some 56, some 57, some 53, some 58, some 59, some 8, none] (fun s w b => OwnC w b (cond s (numL y) z4L)) ?Ar14 ?oar14 ?osr14 (by kernel_rfl) (by kernel_rfl) (by kernel_rfl) rfl ?hAr14 (fun _ _ _ _ h hb => OwnC.call h hb) ?hopr14 ?hoar14 ?hosr14 (by decide) (by decide) ?hswr14 ?halr14 ?hstr14 ?hfinr14
        case hAr14 =>
          intro bq
          simp only [List.set_cons_zero, List.set_cons_succ, List.zip_cons_cons, List.zip_nil_right, fillD, Act.put, List.setIfInBounds_toArray]
          exact rfl
        case hopr14 =>
          refine ⟨?_, ?_, ?_, ?_, ?_, ?_, ?_, fun h => absurd rfl h, fun _ h => absurd rfl h, trivial⟩
          focus (intro _ _ bq wx hS; refine OpTo.yields rfl ?_; obtain ⟨_, _, _, _, _, _, _, _, _, _⟩ := (OwnC.call V5_2.out hS).fv; clear hS; go_simp; try with_reducible rfl)
          focus (intro _ _ bq wx hS; refine OpTo.yields rfl ?_; obtain ⟨_, _, _, _, _, _⟩ := (OwnC.call V6_2.out hS).num; clear hS; go_simp; try with_reducible rfl)
          focus (intro _ _ bq wx hS; refine OpTo.calls rfl ?_ ?_; rotate_left; intro K hK; go_simp; refine (K3.out _).mono ?_; rintro e w' ⟨rfl, hq⟩; exact hK w' hq; exact rfl)
          focus (intro _ _ bq wx hS; refine OpTo.calls rfl ?_ ?_; rotate_left; intro K hK; go_simp; refine (K4.out _).mono ?_; rintro e w' ⟨rfl, hq⟩; exact hK w' hq; exact rfl)
          iterate 3 focus (intro _ _ bq wx hS; refine OpTo.yields rfl ?_; clear hS; go_simp; try with_reducible rfl)
        case hoar14 =>
          rw [List.getElem?_toArray]
          exact rfl
        case halr14 =>
          intro bq wx hS
          refine OpTo.make (ob := ?obr14) (B := fun w b => OwnC w b z4L) hS rfl ?runr14 ?ownr14
          case runr14 =>
            go_simp
            try with_reducible rfl
          case ownr14 => exact OwnC.new' rfl
        case hosr14 =>
          rw [List.getElem?_toArray]
          exact rfl
        case hswr14 => kernel_rfl
        case hstr14 =>
          intro bq wx hS hB hle
          have hB' : OwnC wx bq z4L := hB
          refine OpTo.stores (w1 := putL bq 0 (numL y) wx) (R := fun w' => OwnC w' bq (cond true (numL y) z4L) ∧ Below w2.heap.size w2 w') rfl ?_ rfl ⟨OwnC.put (numL y) hB' rfl, below_putL hle (numL y) 0 _ hS⟩
          obtain ⟨gz, g0, g1, g2, g3, gf⟩ := OwnC.z4 hB'
          first | (left; go_simp; done) | (right; exact ⟨_, by go_simp; rfl⟩) | (left; go_simp; rfl)
        case hfinr14 =>
          intro bq wx hS hB hle
          refine tail_at (o := ?ofr14_9) ?hir14_9 ?hwr14_9 ?_
          case hir14_9 => rw [List.getElem?_toArray]; exact rfl
          case hwr14_9 => exact rfl
          go_simp
          refine tail_end ?_
          go_wp2_with fail
          go_meet
          exact ⟨bq, rfl, rfl, hle, hB, hS⟩
      case rest =>
        obtain ⟨bk8, rfl, rfl, hle, hO, hB⟩ := hcut
        rename_i uk ul um un uo up uq ur us ut uu uv uw ux uy uz uA uB uC uD uE uF uG uH uI uJ uK uL uM uN uO uP uQ uR uS uT uU uV uW uX uY uZ va vb vc vd ve vf vg vh vi vj vk vl vm vn vo vp vq vr vs vt vu Kq2 hKq2
        clear uk ul um un uo up uq ur us ut uu uv uw ux uy uz uA uB uC uD uE uF uG uH uI uJ uK uL uM uN uO uP uQ uR uS uT uU uV uW uX uY uZ va vb vc vd ve vf vg vh vi vj vk vl vm vn vo vp vq vr vs vt vu
        have P0_3 : Hid (OwnC wc (w.heap.size) zpL) := OwnC.call P0_2.out hB
        have W_3 : Hid (Below w.heap.size w wc) := below_call0 W_2.out hB
        have V5_3 : Hid (OwnC wc bk5 (fvL PP)) := OwnC.call V5_2.out hB
        have V6_3 : Hid (OwnC wc bk6 (numL n)) := OwnC.call V6_2.out hB
        have V8_3 : Hid (OwnC wc bk8 (numL y)) := hO
        clear hB P0_2 W_2 V5_2 V6_2
        clear hO hle
        generalize wc = w3 at P0_3 W_3 V5_3 V6_3 V8_3 ⊢
        go_upto_region 19 with fail
        obtain ⟨fV6z, fV60, fV61, fV62, fV63, fV6f⟩ := (V6_3.out).num
        obtain ⟨fV8z, fV80, fV81, fV82, fV83, fV8f⟩ := (V8_3.out).num
        obtain ⟨fP0z, fP00, fP01, fP02, fP03, fP04, fP05, fP06, fP07, fP08, fP0f⟩ := (P0_3.out).zp
        go_wp2_with fail
        clear fV6z fV60 fV61 fV62 fV63 fV6f fV8z fV80 fV81 fV82 fV83 fV8f fP0z fP00 fP01 fP02 fP03 fP04 fP05 fP06 fP07 fP08 fP0f
        obtain ⟨wz, hwz⟩ : ∃ wq, wq = (((((((((w3.setCell ⟨w.heap.size, 0, none⟩ (.int .u64 (limb (n) 0 : Nat))).setCell ⟨w.heap.size, 1, none⟩ (.int .u64 (limb (n) 1 : Nat))).setCell ⟨w.heap.size, 2, none⟩ (.int .u64 (limb (n) 2 : Nat))).setCell ⟨w.heap.size, 3, none⟩ (.int .u64 (limb (n) 3 : Nat))).setCell ⟨w.heap.size, 4, none⟩ (.int .u64 (limb (y) 0 : Nat))).setCell ⟨w.heap.size, 5, none⟩ (.int .u64 (limb (y) 1 : Nat))).setCell ⟨w.heap.size, 6, none⟩ (.int .u64 (limb (y) 2 : Nat))).setCell ⟨w.heap.size, 7, none⟩ (.int .u64 (limb (y) 3 : Nat))).setCell ⟨w.heap.size, 8, none⟩ (.bool false)) := ⟨_, rfl⟩
        rw [← hwz]
        have hwy : wz = putL w.heap.size 0 (ptL n y false) w3 := hwz
        have HZ : OwnC wz w.heap.size (ptL n y false) ∧ Below w.heap.size w wz := by
          rw [hwy]
          exact ⟨OwnC.put (ptL n y false) P0_3.out rfl, below_putL (Nat.le_refl _) (ptL n y false) 0 _ W_3.out⟩
        clear hwz hwy
        obtain ⟨hO, HB⟩ := HZ
        obtain ⟨rz, r0, r1, r2, r3, r4, r5, r6, r7, r8, rf⟩ := hO.pt
        refine bodyPost_ret (v := .tuple #[.agg #[.int .u64 (limb (n) 0 : Nat), .int .u64 (limb (n) 1 : Nat), .int .u64 (limb (n) 2 : Nat), .int .u64 (limb (n) 3 : Nat), .int .u64 (limb (y) 0 : Nat), .int .u64 (limb (y) 1 : Nat), .int .u64 (limb (y) 2 : Nat), .int .u64 (limb (y) 3 : Nat), .bool false], .int .i64 0]) ?_ rfl ⟨rfl, HB⟩
        simp [results, Tryd.results23, go_sem, r0, r1, r2, r3, r4, r5, r6, r7, r8]
set_option maxRecDepth 100000 in
set_option maxHeartbeats 4000000 in
theorem decode_3R (s : ByteArray) (hs : s.size = 33) (hc : sbyte s 0 = 3) (ht : (s.extract 1 s.size).size = 32) (n : Nat) (hn0 : n = numB (sbyte (s.extract 1 s.size))) (hn : n < PP) (q r : Nat) (hq : q = sqM n) (hr : r = q ^ rootE % PP) (hb2 : r * r % PP = q) (y : Nat) (hy0 : y = evenR PP r) (hy : y < PP) (z : Nat) (hz : z = sM 0 y) (w : World) :
    Calls Tryd.prog 23 #[.string s] w fun e w' => e = .returned (.tuple #[.agg #[.int .u64 (limb (n) 0 : Nat), .int .u64 (limb (n) 1 : Nat), .int .u64 (limb (n) 2 : Nat), .int .u64 (limb (n) 3 : Nat), .int .u64 (limb (z) 0 : Nat), .int .u64 (limb (z) 1 : Nat), .int .u64 (limb (z) 2 : Nat), .int .u64 (limb (z) 3 : Nat), .bool false], .int .i64 0]) ∧ Below w.heap.size w w' := by
  have K1 : Hid (∀ w, Calls Tryd.prog 38 #[] w fun e w' => e = .returned (.agg #[.int .u64 (limb (PP) 0 : Nat), .int .u64 (limb (PP) 1 : Nat), .int .u64 (limb (PP) 2 : Nat), .int .u64 (limb (PP) 3 : Nat), .int .u64 (limb (R256 - (PP)) 0 : Nat), .int .u64 (limb (R256 - (PP)) 1 : Nat), .int .u64 (limb (R256 - (PP)) 2 : Nat), .int .u64 (limb (R256 - (PP)) 3 : Nat)]) ∧ Below w.heap.size w w') := fun w => base2_any w
  have K2 : Hid (∀ w, Calls Tryd.prog 54 #[.agg #[.int .u64 (limb (PP) 0 : Nat), .int .u64 (limb (PP) 1 : Nat), .int .u64 (limb (PP) 2 : Nat), .int .u64 (limb (PP) 3 : Nat), .int .u64 (limb (R256 - (PP)) 0 : Nat), .int .u64 (limb (R256 - (PP)) 1 : Nat), .int .u64 (limb (R256 - (PP)) 2 : Nat), .int .u64 (limb (R256 - (PP)) 3 : Nat)], .string (s.extract 1 s.size)] w fun e w' => e = .returned (.tuple #[.agg #[.int .u64 (limb (n) 0 : Nat), .int .u64 (limb (n) 1 : Nat), .int .u64 (limb (n) 2 : Nat), .int .u64 (limb (n) 3 : Nat)], .int .i64 0]) ∧ Below w.heap.size w w') := fun w => decode2_go PP n _ (fun w => by have k := from_any_ref (s.extract 1 s.size) ht w; rw [← hn0] at k; exact k) (has2_b PP n true FM_P.2.1 (lt_R hn) (decide_eq_true hn)) w
  have K3 : Hid (∀ w, Calls Tryd.prog 41 #[.agg #[.int .u64 (limb (n) 0 : Nat), .int .u64 (limb (n) 1 : Nat), .int .u64 (limb (n) 2 : Nat), .int .u64 (limb (n) 3 : Nat)]] w fun e w' => e = .returned (.agg #[.int .u64 (limb (q) 0 : Nat), .int .u64 (limb (q) 1 : Nat), .int .u64 (limb (q) 2 : Nat), .int .u64 (limb (q) 3 : Nat)]) ∧ Below w.heap.size w w') := fun w => cubic3_any n q hn hq w
  have K4 : Hid (∀ w, Calls Tryd.prog 55 #[.agg #[.int .u64 (limb (PP) 0 : Nat), .int .u64 (limb (PP) 1 : Nat), .int .u64 (limb (PP) 2 : Nat), .int .u64 (limb (PP) 3 : Nat), .int .u64 (limb (R256 - (PP)) 0 : Nat), .int .u64 (limb (R256 - (PP)) 1 : Nat), .int .u64 (limb (R256 - (PP)) 2 : Nat), .int .u64 (limb (R256 - (PP)) 3 : Nat)], .agg #[.int .u64 (limb (q) 0 : Nat), .int .u64 (limb (q) 1 : Nat), .int .u64 (limb (q) 2 : Nat), .int .u64 (limb (q) 3 : Nat)], .bool true] w fun e w' => e = .returned (.tuple #[.agg #[.int .u64 (limb (y) 0 : Nat), .int .u64 (limb (y) 1 : Nat), .int .u64 (limb (y) 2 : Nat), .int .u64 (limb (y) 3 : Nat)], .int .i64 0]) ∧ Below w.heap.size w w') := fun w => by have k := sqrt2_P q r _ true (by rw [hq]; exact sqM_lt _) hr (decide_eq_true hb2).symm rfl w; rw [← hy0] at k; exact k
  have K5 : Hid (∀ w, Calls Tryd.prog 42 #[.agg #[.int .u64 (limb (PP) 0 : Nat), .int .u64 (limb (PP) 1 : Nat), .int .u64 (limb (PP) 2 : Nat), .int .u64 (limb (PP) 3 : Nat), .int .u64 (limb (R256 - (PP)) 0 : Nat), .int .u64 (limb (R256 - (PP)) 1 : Nat), .int .u64 (limb (R256 - (PP)) 2 : Nat), .int .u64 (limb (R256 - (PP)) 3 : Nat)], .agg #[.int .u64 0, .int .u64 0, .int .u64 0, .int .u64 0], .agg #[.int .u64 (limb (y) 0 : Nat), .int .u64 (limb (y) 1 : Nat), .int .u64 (limb (y) 2 : Nat), .int .u64 (limb (y) 3 : Nat)]] w fun e w' => e = .returned (.agg #[.int .u64 (limb (z) 0 : Nat), .int .u64 (limb (z) 1 : Nat), .int .u64 (limb (z) 2 : Nat), .int .u64 (limb (z) 3 : Nat)]) ∧ Below w.heap.size w w') := fun w => by have k := sub2_any PP 0 y FM_P.2.1 PPpos hy w; rw [lit0.1, lit0.2.1, lit0.2.2.1, lit0.2.2.2, show subM PP 0 y = z from hz.symm] at k; exact k
  obtain ⟨w0, hw0⟩ : ∃ wq, wq = (w.alloc (.cells #[.int .u64 0, .int .u64 0, .int .u64 0, .int .u64 0, .int .u64 0, .int .u64 0, .int .u64 0, .int .u64 0, .bool false] 26)) := ⟨_, rfl⟩
  have H0 : Hid (OwnC w0 (w.heap.size) zpL) ∧ Hid (Below w.heap.size w w0) := by
    rw [hw0]
    exact ⟨(OwnC.new' rfl), below_alloc0 (Below.refl _ _) _⟩
  obtain ⟨P0_0, W_0⟩ := H0
  clear ht hn0 hn hq hr hb2 hy0 hy hz
  have HS : Hid (s.size = 33) := hs
  have hsz : (s.size : Int) = 33 := by omega
  have hb : ∀ h, (s[0]'h).toNat = 3 := fun h => by rw [← hc]; exact sbyte_eq s 0 h
  have h0s : 0 < s.size := by omega
  clear hs hc
  go_enter Tryd.func23, Tryd.ntmps23
  go_upto_region 1 with fail
  rw [← hw0]
  clear hw0
  go_upto_region 10 with fail
  go_upto_region 10 with fail
  go_cut [5] (fun vq5 wx => ∃ bk5, vq5 = .pointer (some ⟨bk5, 0, none⟩) ∧ w0.heap.size ≤ bk5 ∧ OwnC wx bk5 (fvL PP) ∧ Below w0.heap.size w0 wx)
  case first =>
    go_wp2_with fail
    refine (K1.out _).mono ?_
    rintro e wx0 ⟨rfl, hq0⟩
    go_wp2_with fail
    go_meet
    exact ⟨_, rfl, hq0.size, OwnC.new' rfl, below_alloc0 hq0 _⟩
  case rest =>
    obtain ⟨bk5, rfl, hle, hO, hB⟩ := hcut
    have P0_1 : Hid (OwnC wc (w.heap.size) zpL) := OwnC.call P0_0.out hB
    have W_1 : Hid (Below w.heap.size w wc) := below_call0 W_0.out hB
    have V5_1 : Hid (OwnC wc bk5 (fvL PP)) := hO
    clear hB P0_0 W_0
    clear hO hle
    generalize wc = w1 at P0_1 W_1 V5_1 ⊢
    go_upto_region 11 with fail
    go_cut [6, 7] (fun vq6 vq7 wx => ∃ bk6, vq6 = .pointer (some ⟨bk6, 0, none⟩) ∧ vq7 = .int .i64 0 ∧ w1.heap.size ≤ bk6 ∧ OwnC wx bk6 (numL n) ∧ Below w1.heap.size w1 wx)
    case first =>
      refine wp_region_K 9 0 7 8 [?v0r11, ?v1r11, ?v2r11, ?v3r11, ?v4r11, ?v5r11, ?v6r11, undef, undef] [some 44, some 45, some 46, some 47, some 43, some 48, some 49, some 6, none] (fun s w b => OwnC w b (cond s (numL n) z4L)) ?Ar11 ?oar11 ?osr11 (by kernel_rfl) (by kernel_rfl) (by kernel_rfl) rfl ?hAr11 (fun _ _ _ _ h hb => OwnC.call h hb) ?hopr11 ?hoar11 ?hosr11 (by decide) (by decide) ?hswr11 ?halr11 ?hstr11 ?hfinr11
      case hAr11 =>
        intro bq
        simp only [List.set_cons_zero, List.set_cons_succ, List.zip_cons_cons, List.zip_nil_right, fillD, Act.put, List.setIfInBounds_toArray]
        exact rfl
      case hopr11 =>
        refine ⟨?_, ?_, ?_, ?_, ?_, ?_, ?_, fun h => absurd rfl h, fun _ h => absurd rfl h, trivial⟩
        focus (intro _ _ bq wx hS; refine OpTo.yields rfl ?_; obtain ⟨_, _, _, _, _, _, _, _, _, _⟩ := (OwnC.call V5_1.out hS).fv; clear hS; go_simp; try with_reducible rfl)
        iterate 2 focus (intro _ _ bq wx hS; refine OpTo.yields rfl ?_; clear hS; go_simp; try with_reducible rfl)
        focus (intro _ _ bq wx hS; refine OpTo.calls rfl ?_ ?_; rotate_left; intro K hK; go_simp; refine (K2.out _).mono ?_; rintro e w' ⟨rfl, hq⟩; exact hK w' hq; exact rfl)
        iterate 3 focus (intro _ _ bq wx hS; refine OpTo.yields rfl ?_; clear hS; go_simp; try with_reducible rfl)
      case hoar11 =>
        rw [List.getElem?_toArray]
        exact rfl
      case halr11 =>
        intro bq wx hS
        refine OpTo.make (ob := ?obr11) (B := fun w b => OwnC w b z4L) hS rfl ?runr11 ?ownr11
        case runr11 =>
          go_simp
          try with_reducible rfl
        case ownr11 => exact OwnC.new' rfl
      case hosr11 =>
        rw [List.getElem?_toArray]
        exact rfl
      case hswr11 => kernel_rfl
      case hstr11 =>
        intro bq wx hS hB hle
        have hB' : OwnC wx bq z4L := hB
        refine OpTo.stores (w1 := putL bq 0 (numL n) wx) (R := fun w' => OwnC w' bq (cond true (numL n) z4L) ∧ Below w1.heap.size w1 w') rfl ?_ rfl ⟨OwnC.put (numL n) hB' rfl, below_putL hle (numL n) 0 _ hS⟩
        obtain ⟨gz, g0, g1, g2, g3, gf⟩ := OwnC.z4 hB'
        first | (left; go_simp; done) | (right; exact ⟨_, by go_simp; rfl⟩) | (left; go_simp; rfl)
      case hfinr11 =>
        intro bq wx hS hB hle
        refine tail_at (o := ?ofr11_9) ?hir11_9 ?hwr11_9 ?_
        case hir11_9 => rw [List.getElem?_toArray]; exact rfl
        case hwr11_9 => exact rfl
        go_simp
        refine tail_end ?_
        go_wp2_with fail
        go_meet
        exact ⟨bq, rfl, rfl, hle, hB, hS⟩
    case rest =>
      obtain ⟨bk6, rfl, rfl, hle, hO, hB⟩ := hcut
      rename_i uk ul um un uo up uq ur us ut uu uv uw ux uy uz uA uB uC uD uE uF uG uH uI uJ uK uL uM uN uO uP uQ uR uS uT uU uV uW uX uY uZ va vb vc vd ve vf vg vh vi vj vk vl vm vn vo vp vq vr vs vt vu Kq1 hKq1
      clear uk ul um un uo up uq ur us ut uu uv uw ux uy uz uA uB uC uD uE uF uG uH uI uJ uK uL uM uN uO uP uQ uR uS uT uU uV uW uX uY uZ va vb vc vd ve vf vg vh vi vj vk vl vm vn vo vp vq vr vs vt vu
      have P0_2 : Hid (OwnC wc (w.heap.size) zpL) := OwnC.call P0_1.out hB
      have W_2 : Hid (Below w.heap.size w wc) := below_call0 W_1.out hB
      have V5_2 : Hid (OwnC wc bk5 (fvL PP)) := OwnC.call V5_1.out hB
      have V6_2 : Hid (OwnC wc bk6 (numL n)) := hO
      clear hB P0_1 W_1 V5_1
      clear hO hle
      generalize wc = w2 at P0_2 W_2 V5_2 V6_2 ⊢
      go_upto_region 14 with fail
      go_upto_region 14 with fail
      go_cut [8, 9] (fun vq8 vq9 wx => ∃ bk8, vq8 = .pointer (some ⟨bk8, 0, none⟩) ∧ vq9 = .int .i64 0 ∧ w2.heap.size ≤ bk8 ∧ OwnC wx bk8 (numL y) ∧ Below w2.heap.size w2 wx)
      case first =>
        refine wp_region_K 9 0 7 8 [?v0r14, ?v1r14, ?v2r14, ?v3r14, ?v4r14, ?v5r14, ?v6r14, undef, undef] [some 54, some 55, some 56, some 57, some 53, some 58, some 59, some 8, none] (fun s w b => OwnC w b (cond s (numL y) z4L)) ?Ar14 ?oar14 ?osr14 (by kernel_rfl) (by kernel_rfl) (by kernel_rfl) rfl ?hAr14 (fun _ _ _ _ h hb => OwnC.call h hb) ?hopr14 ?hoar14 ?hosr14 (by decide) (by decide) ?hswr14 ?halr14 ?hstr14 ?hfinr14
        case hAr14 =>
          intro bq
          simp only [List.set_cons_zero, List.set_cons_succ, List.zip_cons_cons, List.zip_nil_right, fillD, Act.put, List.setIfInBounds_toArray]
          exact rfl
        case hopr14 =>
          refine ⟨?_, ?_, ?_, ?_, ?_, ?_, ?_, fun h => absurd rfl h, fun _ h => absurd rfl h, trivial⟩
          focus (intro _ _ bq wx hS; refine OpTo.yields rfl ?_; obtain ⟨_, _, _, _, _, _, _, _, _, _⟩ := (OwnC.call V5_2.out hS).fv; clear hS; go_simp; try with_reducible rfl)
          focus (intro _ _ bq wx hS; refine OpTo.yields rfl ?_; obtain ⟨_, _, _, _, _, _⟩ := (OwnC.call V6_2.out hS).num; clear hS; go_simp; try with_reducible rfl)
          focus (intro _ _ bq wx hS; refine OpTo.calls rfl ?_ ?_; rotate_left; intro K hK; go_simp; refine (K3.out _).mono ?_; rintro e w' ⟨rfl, hq⟩; exact hK w' hq; exact rfl)
          focus (intro _ _ bq wx hS; refine OpTo.calls rfl ?_ ?_; rotate_left; intro K hK; go_simp; refine (K4.out _).mono ?_; rintro e w' ⟨rfl, hq⟩; exact hK w' hq; exact rfl)
          iterate 3 focus (intro _ _ bq wx hS; refine OpTo.yields rfl ?_; clear hS; go_simp; try with_reducible rfl)
        case hoar14 =>
          rw [List.getElem?_toArray]
          exact rfl
        case halr14 =>
          intro bq wx hS
          refine OpTo.make (ob := ?obr14) (B := fun w b => OwnC w b z4L) hS rfl ?runr14 ?ownr14
          case runr14 =>
            go_simp
            try with_reducible rfl
          case ownr14 => exact OwnC.new' rfl
        case hosr14 =>
          rw [List.getElem?_toArray]
          exact rfl
        case hswr14 => kernel_rfl
        case hstr14 =>
          intro bq wx hS hB hle
          have hB' : OwnC wx bq z4L := hB
          refine OpTo.stores (w1 := putL bq 0 (numL y) wx) (R := fun w' => OwnC w' bq (cond true (numL y) z4L) ∧ Below w2.heap.size w2 w') rfl ?_ rfl ⟨OwnC.put (numL y) hB' rfl, below_putL hle (numL y) 0 _ hS⟩
          obtain ⟨gz, g0, g1, g2, g3, gf⟩ := OwnC.z4 hB'
          first | (left; go_simp; done) | (right; exact ⟨_, by go_simp; rfl⟩) | (left; go_simp; rfl)
        case hfinr14 =>
          intro bq wx hS hB hle
          refine tail_at (o := ?ofr14_9) ?hir14_9 ?hwr14_9 ?_
          case hir14_9 => rw [List.getElem?_toArray]; exact rfl
          case hwr14_9 => exact rfl
          go_simp
          refine tail_end ?_
          go_wp2_with fail
          go_meet
          exact ⟨bq, rfl, rfl, hle, hB, hS⟩
      case rest =>
        obtain ⟨bk8, rfl, rfl, hle, hO, hB⟩ := hcut
        have HNE : Hid (w.heap.size < bk8 ∧ bk6 < bk8) := ⟨Nat.lt_of_lt_of_le P0_2.out.1 hle, Nat.lt_of_lt_of_le V6_2.out.1 hle⟩
        rename_i uk ul um un uo up uq ur us ut uu uv uw ux uy uz uA uB uC uD uE uF uG uH uI uJ uK uL uM uN uO uP uQ uR uS uT uU uV uW uX uY uZ va vb vc vd ve vf vg vh vi vj vk vl vm vn vo vp vq vr vs vt vu Kq2 hKq2
        clear uk ul um un uo up uq ur us ut uu uv uw ux uy uz uA uB uC uD uE uF uG uH uI uJ uK uL uM uN uO uP uQ uR uS uT uU uV uW uX uY uZ va vb vc vd ve vf vg vh vi vj vk vl vm vn vo vp vq vr vs vt vu
        have P0_3 : Hid (OwnC wc (w.heap.size) zpL) := OwnC.call P0_2.out hB
        have W_3 : Hid (Below w.heap.size w wc) := below_call0 W_2.out hB
        have V5_3 : Hid (OwnC wc bk5 (fvL PP)) := OwnC.call V5_2.out hB
        have V6_3 : Hid (OwnC wc bk6 (numL n)) := OwnC.call V6_2.out hB
        have V8_3 : Hid (OwnC wc bk8 (numL y)) := hO
        clear hB P0_2 W_2 V5_2 V6_2
        clear hO hle
        generalize wc = w3 at P0_3 W_3 V5_3 V6_3 V8_3 ⊢
        go_upto_region 18 with fail
        obtain ⟨fV5z, fV50, fV51, fV52, fV53, fV54, fV55, fV56, fV57, fV5f⟩ := (V5_3.out).fv
        obtain ⟨fV8z, fV80, fV81, fV82, fV83, fV8f⟩ := (V8_3.out).num
        go_wp2_with fail
        clear fV5z fV50 fV51 fV52 fV53 fV54 fV55 fV56 fV57 fV5f fV8z fV80 fV81 fV82 fV83 fV8f
        refine (K5.out _).mono ?_
        rintro e w4 ⟨rfl, hq⟩
        have P0_4 : Hid (OwnC w4 (w.heap.size) zpL) := OwnC.call P0_3.out hq
        have W_4 : Hid (Below w.heap.size w w4) := below_call0 W_3.out hq
        have V5_4 : Hid (OwnC w4 bk5 (fvL PP)) := OwnC.call V5_3.out hq
        have V6_4 : Hid (OwnC w4 bk6 (numL n)) := OwnC.call V6_3.out hq
        have V8_4 : Hid (OwnC w4 bk8 (numL y)) := OwnC.call V8_3.out hq
        clear hq P0_3 W_3 V5_3 V6_3 V8_3
        obtain ⟨fV8z, fV80, fV81, fV82, fV83, fV8f⟩ := (V8_4.out).num
        go_upto_region 19 with fail
        clear fV8z fV80 fV81 fV82 fV83 fV8f
        obtain ⟨w5, hwz⟩ : ∃ wq, wq = ((((w4.setCell ⟨bk8, 0, none⟩ (.int .u64 (limb (z) 0 : Nat))).setCell ⟨bk8, 1, none⟩ (.int .u64 (limb (z) 1 : Nat))).setCell ⟨bk8, 2, none⟩ (.int .u64 (limb (z) 2 : Nat))).setCell ⟨bk8, 3, none⟩ (.int .u64 (limb (z) 3 : Nat))) := ⟨_, rfl⟩
        rw [← hwz]
        have P0_5 : Hid (OwnC w5 (w.heap.size) zpL) := by rw [hwz]; exact OwnC.puts (numL z) 0 P0_4.out (Nat.ne_of_lt HNE.out.1)
        have W_5 : Hid (Below w.heap.size w w5) := by rw [hwz]; exact below_putL (Nat.le_of_lt HNE.out.1) (numL z) 0 _ W_4.out
        have V6_5 : Hid (OwnC w5 bk6 (numL n)) := by rw [hwz]; exact OwnC.puts (numL z) 0 V6_4.out (Nat.ne_of_lt HNE.out.2)
        have V8_5 : Hid (OwnC w5 bk8 (numL z)) := by rw [hwz]; exact OwnC.put (numL z) V8_4.out rfl
        clear hwz P0_4 W_4 V5_4 V6_4 V8_4
        obtain ⟨fV6z, fV60, fV61, fV62, fV63, fV6f⟩ := (V6_5.out).num
        obtain ⟨fV8z, fV80, fV81, fV82, fV83, fV8f⟩ := (V8_5.out).num
        obtain ⟨fP0z, fP00, fP01, fP02, fP03, fP04, fP05, fP06, fP07, fP08, fP0f⟩ := (P0_5.out).zp
        go_wp2_with fail
        clear fV6z fV60 fV61 fV62 fV63 fV6f fV8z fV80 fV81 fV82 fV83 fV8f fP0z fP00 fP01 fP02 fP03 fP04 fP05 fP06 fP07 fP08 fP0f
        obtain ⟨wz, hwz⟩ : ∃ wq, wq = (((((((((w5.setCell ⟨w.heap.size, 0, none⟩ (.int .u64 (limb (n) 0 : Nat))).setCell ⟨w.heap.size, 1, none⟩ (.int .u64 (limb (n) 1 : Nat))).setCell ⟨w.heap.size, 2, none⟩ (.int .u64 (limb (n) 2 : Nat))).setCell ⟨w.heap.size, 3, none⟩ (.int .u64 (limb (n) 3 : Nat))).setCell ⟨w.heap.size, 4, none⟩ (.int .u64 (limb (z) 0 : Nat))).setCell ⟨w.heap.size, 5, none⟩ (.int .u64 (limb (z) 1 : Nat))).setCell ⟨w.heap.size, 6, none⟩ (.int .u64 (limb (z) 2 : Nat))).setCell ⟨w.heap.size, 7, none⟩ (.int .u64 (limb (z) 3 : Nat))).setCell ⟨w.heap.size, 8, none⟩ (.bool false)) := ⟨_, rfl⟩
        rw [← hwz]
        have hwy : wz = putL w.heap.size 0 (ptL n z false) w5 := hwz
        have HZ : OwnC wz w.heap.size (ptL n z false) ∧ Below w.heap.size w wz := by
          rw [hwy]
          exact ⟨OwnC.put (ptL n z false) P0_5.out rfl, below_putL (Nat.le_refl _) (ptL n z false) 0 _ W_5.out⟩
        clear hwz hwy
        obtain ⟨hO, HB⟩ := HZ
        obtain ⟨rz, r0, r1, r2, r3, r4, r5, r6, r7, r8, rf⟩ := hO.pt
        refine bodyPost_ret (v := .tuple #[.agg #[.int .u64 (limb (n) 0 : Nat), .int .u64 (limb (n) 1 : Nat), .int .u64 (limb (n) 2 : Nat), .int .u64 (limb (n) 3 : Nat), .int .u64 (limb (z) 0 : Nat), .int .u64 (limb (z) 1 : Nat), .int .u64 (limb (z) 2 : Nat), .int .u64 (limb (z) 3 : Nat), .bool false], .int .i64 0]) ?_ rfl ⟨rfl, HB⟩
        simp [results, Tryd.results23, go_sem, r0, r1, r2, r3, r4, r5, r6, r7, r8]
end Go.Proofs.YtgmfecncfekjfaaDoor
