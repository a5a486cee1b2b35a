/- Package wardmoteplain: Points of two lists that are alike. -/
import Derived.Test.YtfkpbcionlidaaaDoorFtX
import Derived.Test.YtfkpbcionlidaaaDoorHeldR
namespace Go.Proofs.YtfkpbcionlidaaaDoor
open Go Go.RowKit Go.Lib
set_option maxRecDepth 100000 in
set_option maxHeartbeats 4000000 in
theorem points_same (a b : Option Addr) (l : List Pts) (n ca cb : Nat) (hn : n = l.length) (h10 : n ≤ 10) (w : World) (hA : PtsAt w a l) (hB : PtsAt w b l) :
    Calls Tryd.prog 8 #[.slice a n ca, .slice b n cb] w fun e w' => e = .returned (.bool true) ∧ Below w.heap.size w w' := by
  have HL : Hid (n = l.length ∧ n ≤ 10) := ⟨hn, h10⟩
  have n64 : (n : Int) ≤ 64 := by omega
  have HS : Hid (PtsAt w a l ∧ PtsAt w b l) := ⟨hA, hB⟩
  clear hn h10 hA hB
  go_enter Tryd.func8, Tryd.ntmps8
  go_wp2_with fail
  rename_i Kr hKr
  have HKr : Hid _ := hKr
  clear hKr
  go_loopw [8] (fun iv wr => ∃ k : Nat, k ≤ n ∧ iv = .int .i64 (k : Nat) ∧ Below w.heap.size w wr) (fun iv _ => n - (Go.RowKit.intOf iv).toNat)
  case atStart => exact ⟨0, Nat.zero_le _, rfl, Below.refl _ _⟩
  case round =>
    obtain ⟨k, hk, rfl, hB⟩ := hrel
    rename World => wr
    have HB : Hid (Below w.heap.size w wr ∧ k ≤ n) := ⟨hB, hk⟩
    clear hB hk
    by_cases hlt : k < n
    · clear HKr
      have hkl : k < l.length := by rw [← HL.out.1]; exact hlt
      have hlt' : (k : Int) < (n : Int) := Int.ofNat_lt.2 hlt
      have d1 : decide ((n : Int) ≤ (k : Int)) = false := decide_eq_false (by omega)
      have d1' : decide (n ≤ k) = false := decide_eq_false (by omega)
      obtain ⟨p, o, rfl, p1⟩ := HS.out.1.get hkl
      obtain ⟨p', o', rfl, p2⟩ := HS.out.2.get hkl
      obtain ⟨R, hR⟩ : ∃ R, R = l[k]'hkl := ⟨_, rfl⟩
      rw [← hR] at p1 p2
      have HP : Hid (PointB wr p (o + k * 9) (pX R) (pY R) (pI R) ∧ PointB wr p' (o' + k * 9) (pX R) (pY R) (pI R)) := ⟨p1.call HB.out.1, p2.call HB.out.1⟩
      have HQ : Hid (∀ w : World, (Op.equalIn 10000 45 (.agg #[.int .u64 (limb (pX R) 0 : Nat), .int .u64 (limb (pX R) 1 : Nat), .int .u64 (limb (pX R) 2 : Nat), .int .u64 (limb (pX R) 3 : Nat), .int .u64 (limb (pY R) 0 : Nat), .int .u64 (limb (pY R) 1 : Nat), .int .u64 (limb (pY R) 2 : Nat), .int .u64 (limb (pY R) 3 : Nat), .bool (pI R)]) (.agg #[.int .u64 (limb (pX R) 0 : Nat), .int .u64 (limb (pX R) 1 : Nat), .int .u64 (limb (pX R) 2 : Nat), .int .u64 (limb (pX R) 3 : Nat), .int .u64 (limb (pY R) 0 : Nat), .int .u64 (limb (pY R) 1 : Nat), .int .u64 (limb (pY R) 2 : Nat), .int .u64 (limb (pY R) 3 : Nat), .bool (pI R)])).run Tryd.prog w = .ok true w) := fun w => eqPts R R true (by simp) w
      have HI : Hid (k < n) := hlt
      clear p1 p2 hR hkl hlt
      go_upto_region 4 with fail
      have hq := HQ.out
      refine wp_region_H (fun w' => Below wr.heap.size wr w') 15 rfl (by kernel_rfl) ?_
      refine wpAnyH_take (i := 0) (oi := ?o0c) (v := ?v0c) ?hi0c (by kernel_rfl) (by kernel_rfl) (by kernel_rfl) ?hQ0c ?hy0c (Below.drew (Below.refl _ _)) ?more0c
      case hi0c => rw [List.getElem?_toArray]; exact rfl
      case hQ0c => exact fun _ _ _ h => h
      case hy0c =>
        refine Or.inl ⟨by rfl, ?_⟩
        intro w' hSw
        have k1 := HP.out.1.call hSw
        have k2 := HP.out.2.call hSw
        have f0 := k1.x0
        have f1 := k1.x1
        have f2 := k1.x2
        have f3 := k1.x3
        have f4 := k1.y0
        have f5 := k1.y1
        have f6 := k1.y2
        have f7 := k1.y3
        have f8 := k1.i8
        have g0 := k2.x0
        have g1 := k2.x1
        have g2 := k2.x2
        have g3 := k2.x3
        have g4 := k2.y0
        have g5 := k2.y1
        have g6 := k2.y2
        have g7 := k2.y3
        have g8 := k2.i8
        have l1 := k1.lt
        have l2 := k2.lt
        clear k1 k2 hSw
        go_simp
        try with_reducible rfl
      simp only [Act.put, List.setIfInBounds_toArray, List.set_cons_zero, List.set_cons_succ]
      refine wpAnyH_take (i := 1) (oi := ?o1c) (v := ?v1c) ?hi1c (by kernel_rfl) (by kernel_rfl) (by kernel_rfl) ?hQ1c ?hy1c (Below.drew (Below.refl _ _)) ?more1c
      case hi1c => rw [List.getElem?_toArray]; exact rfl
      case hQ1c => exact fun _ _ _ h => h
      case hy1c =>
        refine Or.inl ⟨by rfl, ?_⟩
        intro w' hSw
        have k1 := HP.out.1.call hSw
        have k2 := HP.out.2.call hSw
        have f0 := k1.x0
        have f1 := k1.x1
        have f2 := k1.x2
        have f3 := k1.x3
        have f4 := k1.y0
        have f5 := k1.y1
        have f6 := k1.y2
        have f7 := k1.y3
        have f8 := k1.i8
        have g0 := k2.x0
        have g1 := k2.x1
        have g2 := k2.x2
        have g3 := k2.x3
        have g4 := k2.y0
        have g5 := k2.y1
        have g6 := k2.y2
        have g7 := k2.y3
        have g8 := k2.i8
        have l1 := k1.lt
        have l2 := k2.lt
        clear k1 k2 hSw
        go_simp
        try with_reducible rfl
      simp only [Act.put, List.setIfInBounds_toArray, List.set_cons_zero, List.set_cons_succ]
      refine wpAnyH_take (i := 2) (oi := ?o2c) (v := ?v2c) ?hi2c (by kernel_rfl) (by kernel_rfl) (by kernel_rfl) ?hQ2c ?hy2c (Below.drew (Below.refl _ _)) ?more2c
      case hi2c => rw [List.getElem?_toArray]; exact rfl
      case hQ2c => exact fun _ _ _ h => h
      case hy2c =>
        refine Or.inl ⟨by rfl, ?_⟩
        intro w' hSw
        have k1 := HP.out.1.call hSw
        have k2 := HP.out.2.call hSw
        have f0 := k1.x0
        have f1 := k1.x1
        have f2 := k1.x2
        have f3 := k1.x3
        have f4 := k1.y0
        have f5 := k1.y1
        have f6 := k1.y2
        have f7 := k1.y3
        have f8 := k1.i8
        have g0 := k2.x0
        have g1 := k2.x1
        have g2 := k2.x2
        have g3 := k2.x3
        have g4 := k2.y0
        have g5 := k2.y1
        have g6 := k2.y2
        have g7 := k2.y3
        have g8 := k2.i8
        have l1 := k1.lt
        have l2 := k2.lt
        clear k1 k2 hSw
        go_simp
        try with_reducible rfl
      simp only [Act.put, List.setIfInBounds_toArray, List.set_cons_zero, List.set_cons_succ]
      refine wpAnyH_take (i := 3) (oi := ?o3c) (v := ?v3c) ?hi3c (by kernel_rfl) (by kernel_rfl) (by kernel_rfl) ?hQ3c ?hy3c (Below.drew (Below.refl _ _)) ?more3c
      case hi3c => rw [List.getElem?_toArray]; exact rfl
      case hQ3c => exact fun _ _ _ h => h
      case hy3c =>
        refine Or.inl ⟨by rfl, ?_⟩
        intro w' hSw
        have k1 := HP.out.1.call hSw
        have k2 := HP.out.2.call hSw
        have f0 := k1.x0
        have f1 := k1.x1
        have f2 := k1.x2
        have f3 := k1.x3
        have f4 := k1.y0
        have f5 := k1.y1
        have f6 := k1.y2
        have f7 := k1.y3
        have f8 := k1.i8
        have g0 := k2.x0
        have g1 := k2.x1
        have g2 := k2.x2
        have g3 := k2.x3
        have g4 := k2.y0
        have g5 := k2.y1
        have g6 := k2.y2
        have g7 := k2.y3
        have g8 := k2.i8
        have l1 := k1.lt
        have l2 := k2.lt
        clear k1 k2 hSw
        go_simp
        try with_reducible rfl
      simp only [Act.put, List.setIfInBounds_toArray, List.set_cons_zero, List.set_cons_succ]
      refine wpAnyH_take (i := 4) (oi := ?o4c) (v := ?v4c) ?hi4c (by kernel_rfl) (by kernel_rfl) (by kernel_rfl) ?hQ4c ?hy4c (Below.drew (Below.refl _ _)) ?more4c
      case hi4c => rw [List.getElem?_toArray]; exact rfl
      case hQ4c => exact fun _ _ _ h => h
      case hy4c =>
        refine Or.inl ⟨by rfl, ?_⟩
        intro w' hSw
        have k1 := HP.out.1.call hSw
        have k2 := HP.out.2.call hSw
        have f0 := k1.x0
        have f1 := k1.x1
        have f2 := k1.x2
        have f3 := k1.x3
        have f4 := k1.y0
        have f5 := k1.y1
        have f6 := k1.y2
        have f7 := k1.y3
        have f8 := k1.i8
        have g0 := k2.x0
        have g1 := k2.x1
        have g2 := k2.x2
        have g3 := k2.x3
        have g4 := k2.y0
        have g5 := k2.y1
        have g6 := k2.y2
        have g7 := k2.y3
        have g8 := k2.i8
        have l1 := k1.lt
        have l2 := k2.lt
        clear k1 k2 hSw
        go_simp
        try with_reducible rfl
      simp only [Act.put, List.setIfInBounds_toArray, List.set_cons_zero, List.set_cons_succ]
      refine wpAnyH_take (i := 5) (oi := ?o5c) (v := ?v5c) ?hi5c (by kernel_rfl) (by kernel_rfl) (by kernel_rfl) ?hQ5c ?hy5c (Below.drew (Below.refl _ _)) ?more5c
      case hi5c => rw [List.getElem?_toArray]; exact rfl
      case hQ5c => exact fun _ _ _ h => h
      case hy5c =>
        refine Or.inl ⟨by rfl, ?_⟩
        intro w' hSw
        have k1 := HP.out.1.call hSw
        have k2 := HP.out.2.call hSw
        have f0 := k1.x0
        have f1 := k1.x1
        have f2 := k1.x2
        have f3 := k1.x3
        have f4 := k1.y0
        have f5 := k1.y1
        have f6 := k1.y2
        have f7 := k1.y3
        have f8 := k1.i8
        have g0 := k2.x0
        have g1 := k2.x1
        have g2 := k2.x2
        have g3 := k2.x3
        have g4 := k2.y0
        have g5 := k2.y1
        have g6 := k2.y2
        have g7 := k2.y3
        have g8 := k2.i8
        have l1 := k1.lt
        have l2 := k2.lt
        clear k1 k2 hSw
        go_simp
        try with_reducible rfl
      simp only [Act.put, List.setIfInBounds_toArray, List.set_cons_zero, List.set_cons_succ]
      refine wpAnyH_take (i := 6) (oi := ?o6c) (v := ?v6c) ?hi6c (by kernel_rfl) (by kernel_rfl) (by kernel_rfl) ?hQ6c ?hy6c (Below.drew (Below.refl _ _)) ?more6c
      case hi6c => rw [List.getElem?_toArray]; exact rfl
      case hQ6c => exact fun _ _ _ h => h
      case hy6c =>
        refine Or.inl ⟨by rfl, ?_⟩
        intro w' hSw
        have k1 := HP.out.1.call hSw
        have k2 := HP.out.2.call hSw
        have f0 := k1.x0
        have f1 := k1.x1
        have f2 := k1.x2
        have f3 := k1.x3
        have f4 := k1.y0
        have f5 := k1.y1
        have f6 := k1.y2
        have f7 := k1.y3
        have f8 := k1.i8
        have g0 := k2.x0
        have g1 := k2.x1
        have g2 := k2.x2
        have g3 := k2.x3
        have g4 := k2.y0
        have g5 := k2.y1
        have g6 := k2.y2
        have g7 := k2.y3
        have g8 := k2.i8
        have l1 := k1.lt
        have l2 := k2.lt
        clear k1 k2 hSw
        go_simp
        try with_reducible rfl
      simp only [Act.put, List.setIfInBounds_toArray, List.set_cons_zero, List.set_cons_succ]
      refine wpAnyH_take (i := 7) (oi := ?o7c) (v := ?v7c) ?hi7c (by kernel_rfl) (by kernel_rfl) (by kernel_rfl) ?hQ7c ?hy7c (Below.drew (Below.refl _ _)) ?more7c
      case hi7c => rw [List.getElem?_toArray]; exact rfl
      case hQ7c => exact fun _ _ _ h => h
      case hy7c =>
        refine Or.inl ⟨by rfl, ?_⟩
        intro w' hSw
        have k1 := HP.out.1.call hSw
        have k2 := HP.out.2.call hSw
        have f0 := k1.x0
        have f1 := k1.x1
        have f2 := k1.x2
        have f3 := k1.x3
        have f4 := k1.y0
        have f5 := k1.y1
        have f6 := k1.y2
        have f7 := k1.y3
        have f8 := k1.i8
        have g0 := k2.x0
        have g1 := k2.x1
        have g2 := k2.x2
        have g3 := k2.x3
        have g4 := k2.y0
        have g5 := k2.y1
        have g6 := k2.y2
        have g7 := k2.y3
        have g8 := k2.i8
        have l1 := k1.lt
        have l2 := k2.lt
        clear k1 k2 hSw
        go_simp
        try with_reducible rfl
      simp only [Act.put, List.setIfInBounds_toArray, List.set_cons_zero, List.set_cons_succ]
      refine wpAnyH_take (i := 8) (oi := ?o8c) (v := ?v8c) ?hi8c (by kernel_rfl) (by kernel_rfl) (by kernel_rfl) ?hQ8c ?hy8c (Below.drew (Below.refl _ _)) ?more8c
      case hi8c => rw [List.getElem?_toArray]; exact rfl
      case hQ8c => exact fun _ _ _ h => h
      case hy8c =>
        refine Or.inl ⟨by rfl, ?_⟩
        intro w' hSw
        have k1 := HP.out.1.call hSw
        have k2 := HP.out.2.call hSw
        have f0 := k1.x0
        have f1 := k1.x1
        have f2 := k1.x2
        have f3 := k1.x3
        have f4 := k1.y0
        have f5 := k1.y1
        have f6 := k1.y2
        have f7 := k1.y3
        have f8 := k1.i8
        have g0 := k2.x0
        have g1 := k2.x1
        have g2 := k2.x2
        have g3 := k2.x3
        have g4 := k2.y0
        have g5 := k2.y1
        have g6 := k2.y2
        have g7 := k2.y3
        have g8 := k2.i8
        have l1 := k1.lt
        have l2 := k2.lt
        clear k1 k2 hSw
        go_simp
        try with_reducible rfl
      simp only [Act.put, List.setIfInBounds_toArray, List.set_cons_zero, List.set_cons_succ]
      refine wpAnyH_take (i := 9) (oi := ?o9c) (v := ?v9c) ?hi9c (by kernel_rfl) (by kernel_rfl) (by kernel_rfl) ?hQ9c ?hy9c (Below.drew (Below.refl _ _)) ?more9c
      case hi9c => rw [List.getElem?_toArray]; exact rfl
      case hQ9c => exact fun _ _ _ h => h
      case hy9c =>
        refine Or.inl ⟨by rfl, ?_⟩
        intro w' hSw
        have k1 := HP.out.1.call hSw
        have k2 := HP.out.2.call hSw
        have f0 := k1.x0
        have f1 := k1.x1
        have f2 := k1.x2
        have f3 := k1.x3
        have f4 := k1.y0
        have f5 := k1.y1
        have f6 := k1.y2
        have f7 := k1.y3
        have f8 := k1.i8
        have g0 := k2.x0
        have g1 := k2.x1
        have g2 := k2.x2
        have g3 := k2.x3
        have g4 := k2.y0
        have g5 := k2.y1
        have g6 := k2.y2
        have g7 := k2.y3
        have g8 := k2.i8
        have l1 := k1.lt
        have l2 := k2.lt
        clear k1 k2 hSw
        go_simp
        try with_reducible rfl
      simp only [Act.put, List.setIfInBounds_toArray, List.set_cons_zero, List.set_cons_succ]
      refine wpAnyH_take (i := 10) (oi := ?o10c) (v := ?v10c) ?hi10c (by kernel_rfl) (by kernel_rfl) (by kernel_rfl) ?hQ10c ?hy10c (Below.drew (Below.refl _ _)) ?more10c
      case hi10c => rw [List.getElem?_toArray]; exact rfl
      case hQ10c => exact fun _ _ _ h => h
      case hy10c =>
        refine Or.inl ⟨by rfl, ?_⟩
        intro w' hSw
        have k1 := HP.out.1.call hSw
        have k2 := HP.out.2.call hSw
        have f0 := k1.x0
        have f1 := k1.x1
        have f2 := k1.x2
        have f3 := k1.x3
        have f4 := k1.y0
        have f5 := k1.y1
        have f6 := k1.y2
        have f7 := k1.y3
        have f8 := k1.i8
        have g0 := k2.x0
        have g1 := k2.x1
        have g2 := k2.x2
        have g3 := k2.x3
        have g4 := k2.y0
        have g5 := k2.y1
        have g6 := k2.y2
        have g7 := k2.y3
        have g8 := k2.i8
        have l1 := k1.lt
        have l2 := k2.lt
        clear k1 k2 hSw
        go_simp
        try with_reducible rfl
      simp only [Act.put, List.setIfInBounds_toArray, List.set_cons_zero, List.set_cons_succ]
      refine wpAnyH_take (i := 11) (oi := ?o11c) (v := ?v11c) ?hi11c (by kernel_rfl) (by kernel_rfl) (by kernel_rfl) ?hQ11c ?hy11c (Below.drew (Below.refl _ _)) ?more11c
      case hi11c => rw [List.getElem?_toArray]; exact rfl
      case hQ11c => exact fun _ _ _ h => h
      case hy11c =>
        refine Or.inl ⟨by rfl, ?_⟩
        intro w' hSw
        have k1 := HP.out.1.call hSw
        have k2 := HP.out.2.call hSw
        have f0 := k1.x0
        have f1 := k1.x1
        have f2 := k1.x2
        have f3 := k1.x3
        have f4 := k1.y0
        have f5 := k1.y1
        have f6 := k1.y2
        have f7 := k1.y3
        have f8 := k1.i8
        have g0 := k2.x0
        have g1 := k2.x1
        have g2 := k2.x2
        have g3 := k2.x3
        have g4 := k2.y0
        have g5 := k2.y1
        have g6 := k2.y2
        have g7 := k2.y3
        have g8 := k2.i8
        have l1 := k1.lt
        have l2 := k2.lt
        clear k1 k2 hSw
        go_simp
        try with_reducible rfl
      simp only [Act.put, List.setIfInBounds_toArray, List.set_cons_zero, List.set_cons_succ]
      refine wpAnyH_take (i := 12) (oi := ?o12c) (v := ?v12c) ?hi12c (by kernel_rfl) (by kernel_rfl) (by kernel_rfl) ?hQ12c ?hy12c (Below.drew (Below.refl _ _)) ?more12c
      case hi12c => rw [List.getElem?_toArray]; exact rfl
      case hQ12c => exact fun _ _ _ h => h
      case hy12c =>
        refine Or.inl ⟨by rfl, ?_⟩
        intro w' hSw
        have k1 := HP.out.1.call hSw
        have k2 := HP.out.2.call hSw
        have f0 := k1.x0
        have f1 := k1.x1
        have f2 := k1.x2
        have f3 := k1.x3
        have f4 := k1.y0
        have f5 := k1.y1
        have f6 := k1.y2
        have f7 := k1.y3
        have f8 := k1.i8
        have g0 := k2.x0
        have g1 := k2.x1
        have g2 := k2.x2
        have g3 := k2.x3
        have g4 := k2.y0
        have g5 := k2.y1
        have g6 := k2.y2
        have g7 := k2.y3
        have g8 := k2.i8
        have l1 := k1.lt
        have l2 := k2.lt
        clear k1 k2 hSw
        go_simp
        try with_reducible rfl
      simp only [Act.put, List.setIfInBounds_toArray, List.set_cons_zero, List.set_cons_succ]
      refine wpAnyH_take (i := 13) (oi := ?o13c) (v := ?v13c) ?hi13c (by kernel_rfl) (by kernel_rfl) (by kernel_rfl) ?hQ13c ?hy13c (Below.drew (Below.refl _ _)) ?more13c
      case hi13c => rw [List.getElem?_toArray]; exact rfl
      case hQ13c => exact fun _ _ _ h => h
      case hy13c =>
        refine Or.inl ⟨by rfl, ?_⟩
        intro w' hSw
        have k1 := HP.out.1.call hSw
        have k2 := HP.out.2.call hSw
        have f0 := k1.x0
        have f1 := k1.x1
        have f2 := k1.x2
        have f3 := k1.x3
        have f4 := k1.y0
        have f5 := k1.y1
        have f6 := k1.y2
        have f7 := k1.y3
        have f8 := k1.i8
        have g0 := k2.x0
        have g1 := k2.x1
        have g2 := k2.x2
        have g3 := k2.x3
        have g4 := k2.y0
        have g5 := k2.y1
        have g6 := k2.y2
        have g7 := k2.y3
        have g8 := k2.i8
        have l1 := k1.lt
        have l2 := k2.lt
        clear k1 k2 hSw
        go_simp
        try with_reducible rfl
      simp only [Act.put, List.setIfInBounds_toArray, List.set_cons_zero, List.set_cons_succ]
      refine wpAnyH_take (i := 14) (oi := ?o14c) (v := ?v14c) ?hi14c (by kernel_rfl) (by kernel_rfl) (by kernel_rfl) ?hQ14c ?hy14c (Below.drew (Below.refl _ _)) ?more14c
      case hi14c => rw [List.getElem?_toArray]; exact rfl
      case hQ14c => exact fun _ _ _ h => h
      case hy14c =>
        refine Or.inl ⟨by rfl, ?_⟩
        intro w' hSw
        have k1 := HP.out.1.call hSw
        have k2 := HP.out.2.call hSw
        have f0 := k1.x0
        have f1 := k1.x1
        have f2 := k1.x2
        have f3 := k1.x3
        have f4 := k1.y0
        have f5 := k1.y1
        have f6 := k1.y2
        have f7 := k1.y3
        have f8 := k1.i8
        have g0 := k2.x0
        have g1 := k2.x1
        have g2 := k2.x2
        have g3 := k2.x3
        have g4 := k2.y0
        have g5 := k2.y1
        have g6 := k2.y2
        have g7 := k2.y3
        have g8 := k2.i8
        have l1 := k1.lt
        have l2 := k2.lt
        clear k1 k2 hSw
        go_simp
        try with_reducible rfl
      simp only [Act.put, List.setIfInBounds_toArray, List.set_cons_zero, List.set_cons_succ]
      refine wpAnyH_done (by kernel_rfl) ?_ _
      go_wp2_with fail
      go_roundw
      case rel => first | exact ⟨k + 1, HI.out, by go_num, below_call0 HB.out.1 (Below.drew (Below.refl _ _))⟩ | ((repeat apply Exists.intro); exact ⟨⟨k + 1, HI.out, by go_num, below_call0 HB.out.1 (Below.drew (Below.refl _ _))⟩, rfl⟩)
      case measure => have := HI.out; simp [Go.RowKit.intOf]; omega
    · obtain rfl : k = n := by have := HB.out.2; omega
      have hnl : ¬ ((k : Int) < (k : Int)) := Int.lt_irrefl _
      have hkk : ((k : Int) == (k : Int)) = true := by simp
      clear hlt
      go_wp2_with fail
      refine HKr.out _ _ ?_
      clear HKr
      go_wp2_with fail
      go_ret
      exact ⟨by first | rfl | simp, HB.out.1⟩
end Go.Proofs.YtfkpbcionlidaaaDoor
