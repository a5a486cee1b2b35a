/- Package audit's reference: Distinct. -/
import Derived.Test.YtbpgiijdcagckaaDoorTwT
import Derived.Deep.Cut
namespace Go.Proofs.YtbpgiijdcagckaaDoor
open Go Go.RowKit Go.Lib
set_option maxRecDepth 100000 in
set_option maxHeartbeats 4000000 in
theorem rdistinct_any (a : Option Addr) (n cap : Nat) (ts : Nat → Td) (hn : n ≤ 200) (w : World) (hS : EmsAt w a n ts) : Calls Tryd.prog 10 #[.slice a n cap] w fun e w' => e = .returned (.int .i64 (dsI (Ep ts) n : Nat)) ∧ Below w.heap.size w w' := by
  have HS : Hid (EmsAt w a n ts) := hS
  have n64 : (n : Int) ≤ 200 := by omega
  clear hn hS
  go_enter Tryd.func10, Tryd.ntmps10
  go_wp2_with fail
  rename_i Kr hKr
  have HKr : Hid _ := hKr
  clear hKr
  go_loopw [3, 9] (fun nv iv wr => ∃ k : Nat, k ≤ n ∧ nv = .int .i64 (dsI (Ep ts) k : Nat) ∧ iv = .int .i64 (k : Nat) ∧ Below w.heap.size w wr) (fun _ iv _ => n - (Go.RowKit.intOf iv).toNat)
  case atStart => exact ⟨0, Nat.zero_le _, rfl, rfl, Below.refl _ _⟩
  case round =>
    obtain ⟨k, hk, rfl, rfl, hB⟩ := hrel
    rename World => wr
    have HC : Hid (Below w.heap.size w wr ∧ k ≤ n) := ⟨hB, hk⟩
    clear hB hk
    by_cases hlt : k < n
    · clear HKr
      have hlt' : (k : Int) < (n : Int) := Int.ofNat_lt.2 hlt
      have d64 : (dsI (Ep ts) k : Int) ≤ 200 := by have := dsI_le (Ep ts) k; omega
      have HL : Hid (k < n) := hlt
      obtain ⟨b, o, rfl, hrk, hbl⟩ := HS.out k hlt
      have HB : Hid (w.rangeAt b (o + k * 23) (emV (ts k)) ∧ b < w.heap.size) := ⟨hrk, hbl⟩
      clear hlt hrk hbl
      go_wp2_with fail
      rename_i Kq hKq
      have HKq : Hid _ := hKq
      clear hKq
      go_loopw [5, 6] (fun bv iv wq => ∃ i : Nat, i ≤ k ∧ bv = .bool (fstI (Ep ts) k i).isNone ∧ iv = .int .i64 (i : Nat) ∧ Below w.heap.size w wq) (fun _ iv _ => k - (Go.RowKit.intOf iv).toNat)
      case atStart => exact ⟨0, Nat.zero_le _, rfl, rfl, HC.out.1⟩
      case round =>
        obtain ⟨i, hi, rfl, rfl, hB⟩ := hrel
        rename World => wq
        have HD : Hid (Below w.heap.size w wq) := hB
        have HF : Hid (i ≤ k) := hi
        clear hB hi
        by_cases hik : i < k
        · clear HKq
          have hik' : (i : Int) < (k : Int) := Int.ofNat_lt.2 hik
          have HI : Hid (i < k) := hik
          have hin : i < n := Nat.lt_trans hik HL.out
          have hin' : (i : Int) < (n : Int) := Int.ofNat_lt.2 hin
          obtain ⟨b', o', e', hr, hbl'⟩ := HS.out i hin
          obtain ⟨rfl, rfl⟩ : b = b' ∧ o = o' := by
            injection e' with e'
            injection e' with e1 e2
            exact ⟨e1, e2⟩
          have LI : Hid (∀ w', Below wq.heap.size wq w' → (loadVar 34 ⟨b, o + i * 23, none⟩).run Tryd.prog w' = .ok (.agg (prV (ts i)).toArray) w') := fun w' hb =>
            run_loadVar_mid w' b (o + i * 23) 34 (prV (ts i)) _ (rangeAt_part (rangeAt_below hr hbl' (below_call0 HD.out hb)) 0 (prV (ts i)) (by rfl)) Tryd.underlying34 rfl (by kernel_rfl)
          have LK : Hid (∀ w', Below wq.heap.size wq w' → (loadVar 34 ⟨b, o + k * 23, none⟩).run Tryd.prog w' = .ok (.agg (prV (ts k)).toArray) w') := fun w' hb =>
            run_loadVar_mid w' b (o + k * 23) 34 (prV (ts k)) _ (rangeAt_part (rangeAt_below HB.out.1 HB.out.2 (below_call0 HD.out hb)) 0 (prV (ts k)) (by rfl)) Tryd.underlying34 rfl (by kernel_rfl)
          have HQ : Hid (∀ w : World, (Op.equalIn 10000 34 (.agg (prV (ts i)).toArray) (.agg (prV (ts k)).toArray)).run Tryd.prog w = .ok (Ep ts i k) w) := fun w => run_pr0 _ _ w
          clear hr e' hbl' hin hik
          have HU : Hid (fstI (Ep ts) k (i + 1) = match fstI (Ep ts) k i with
            | some x => some x
            | none => if Ep ts i k = true then some i else none) := fstI_succ _ _ _
          cases hf : fstI (Ep ts) k i
          · cases hE : Ep ts i k
            · have hg : fstI (Ep ts) k (i + 1) = none := by
                have h := HU.out
                rw [hf, hE] at h
                simpa using h
              have HG : Hid _ := hg
              clear HU hg
              go_upto_region 9 with fail
              refine wp_region_H (fun w' => Below wq.heap.size wq w') 15 rfl (by kernel_rfl) ?_
              refine wpAnyH_take (i := 0) (oi := ?o0n9_6) (v := ?v0n9_6) ?hi0n9_6 (by kernel_rfl) (by kernel_rfl) (by kernel_rfl) ?hQ0n9_6 ?hy0n9_6 (Below.drew (Below.refl _ _)) ?more0n9_6
              case hi0n9_6 => rw [List.getElem?_toArray]; exact rfl
              case hQ0n9_6 => exact fun _ _ _ h => h
              case hy0n9_6 =>
                refine Or.inl ⟨by rfl, ?_⟩
                intro w' hSw
                clear hSw
                go_simp
                try with_reducible rfl
              simp only [Act.put, List.setIfInBounds_toArray, List.set_cons_zero, List.set_cons_succ]
              refine wpAnyH_take (i := 1) (oi := ?o1n9_6) (v := ?v1n9_6) ?hi1n9_6 (by kernel_rfl) (by kernel_rfl) (by kernel_rfl) ?hQ1n9_6 ?hy1n9_6 (Below.drew (Below.refl _ _)) ?more1n9_6
              case hi1n9_6 => rw [List.getElem?_toArray]; exact rfl
              case hQ1n9_6 => exact fun _ _ _ h => h
              case hy1n9_6 =>
                refine Or.inl ⟨by rfl, ?_⟩
                intro w' hSw
                clear hSw
                go_simp
                try with_reducible rfl
              simp only [Act.put, List.setIfInBounds_toArray, List.set_cons_zero, List.set_cons_succ]
              refine wpAnyH_take (i := 2) (oi := ?o2n9_6) (v := ?v2n9_6) ?hi2n9_6 (by kernel_rfl) (by kernel_rfl) (by kernel_rfl) ?hQ2n9_6 ?hy2n9_6 (Below.drew (Below.refl _ _)) ?more2n9_6
              case hi2n9_6 => rw [List.getElem?_toArray]; exact rfl
              case hQ2n9_6 => exact fun _ _ _ h => h
              case hy2n9_6 =>
                refine Or.inl ⟨by rfl, ?_⟩
                intro w' hSw
                clear hSw
                go_simp
                try with_reducible rfl
              simp only [Act.put, List.setIfInBounds_toArray, List.set_cons_zero, List.set_cons_succ]
              refine wpAnyH_take (i := 3) (oi := ?o3n9_6) (v := ?v3n9_6) ?hi3n9_6 (by kernel_rfl) (by kernel_rfl) (by kernel_rfl) ?hQ3n9_6 ?hy3n9_6 (Below.drew (Below.refl _ _)) ?more3n9_6
              case hi3n9_6 => rw [List.getElem?_toArray]; exact rfl
              case hQ3n9_6 => exact fun _ _ _ h => h
              case hy3n9_6 =>
                refine Or.inl ⟨by rfl, ?_⟩
                intro w' hSw
                clear hSw
                go_simp
                try with_reducible rfl
              simp only [Act.put, List.setIfInBounds_toArray, List.set_cons_zero, List.set_cons_succ]
              refine wpAnyH_take (i := 4) (oi := ?o4n9_6) (v := ?v4n9_6) ?hi4n9_6 (by kernel_rfl) (by kernel_rfl) (by kernel_rfl) ?hQ4n9_6 ?hy4n9_6 (Below.drew (Below.refl _ _)) ?more4n9_6
              case hi4n9_6 => rw [List.getElem?_toArray]; exact rfl
              case hQ4n9_6 => exact fun _ _ _ h => h
              case hy4n9_6 =>
                refine Or.inl ⟨by rfl, ?_⟩
                intro w' hSw
                clear hSw
                go_simp
                try with_reducible rfl
              simp only [Act.put, List.setIfInBounds_toArray, List.set_cons_zero, List.set_cons_succ]
              refine wpAnyH_take (i := 5) (oi := ?o5n9_6) (v := ?v5n9_6) ?hi5n9_6 (by kernel_rfl) (by kernel_rfl) (by kernel_rfl) ?hQ5n9_6 ?hy5n9_6 (Below.drew (Below.refl _ _)) ?more5n9_6
              case hi5n9_6 => rw [List.getElem?_toArray]; exact rfl
              case hQ5n9_6 => exact fun _ _ _ h => h
              case hy5n9_6 =>
                refine Or.inl ⟨by rfl, ?_⟩
                intro w' hSw
                clear hSw
                go_simp
                try with_reducible rfl
              simp only [Act.put, List.setIfInBounds_toArray, List.set_cons_zero, List.set_cons_succ]
              refine wpAnyH_take (i := 6) (oi := ?o6n9_6) (v := .agg (prV (ts i)).toArray) ?hi6n9_6 (by kernel_rfl) (by kernel_rfl) (by kernel_rfl) ?hQ6n9_6 ?hy6n9_6 (Below.drew (Below.refl _ _)) ?more6n9_6
              case hi6n9_6 => rw [List.getElem?_toArray]; exact rfl
              case hQ6n9_6 => exact fun _ _ _ h => h
              case hy6n9_6 =>
                refine Or.inl ⟨by rfl, ?_⟩
                intro w' hSw
                exact exec_loadK (b := b) (k := o + i * 23) (x := 22) rfl rfl (LI.out _ hSw)
              simp only [Act.put, List.setIfInBounds_toArray, List.set_cons_zero, List.set_cons_succ]
              refine wpAnyH_take (i := 7) (oi := ?o7n9_6) (v := ?v7n9_6) ?hi7n9_6 (by kernel_rfl) (by kernel_rfl) (by kernel_rfl) ?hQ7n9_6 ?hy7n9_6 (Below.drew (Below.refl _ _)) ?more7n9_6
              case hi7n9_6 => rw [List.getElem?_toArray]; exact rfl
              case hQ7n9_6 => exact fun _ _ _ h => h
              case hy7n9_6 =>
                refine Or.inl ⟨by rfl, ?_⟩
                intro w' hSw
                clear hSw
                go_simp
                try with_reducible rfl
              simp only [Act.put, List.setIfInBounds_toArray, List.set_cons_zero, List.set_cons_succ]
              refine wpAnyH_take (i := 8) (oi := ?o8n9_6) (v := ?v8n9_6) ?hi8n9_6 (by kernel_rfl) (by kernel_rfl) (by kernel_rfl) ?hQ8n9_6 ?hy8n9_6 (Below.drew (Below.refl _ _)) ?more8n9_6
              case hi8n9_6 => rw [List.getElem?_toArray]; exact rfl
              case hQ8n9_6 => exact fun _ _ _ h => h
              case hy8n9_6 =>
                refine Or.inl ⟨by rfl, ?_⟩
                intro w' hSw
                clear hSw
                go_simp
                try with_reducible rfl
              simp only [Act.put, List.setIfInBounds_toArray, List.set_cons_zero, List.set_cons_succ]
              refine wpAnyH_take (i := 9) (oi := ?o9n9_6) (v := ?v9n9_6) ?hi9n9_6 (by kernel_rfl) (by kernel_rfl) (by kernel_rfl) ?hQ9n9_6 ?hy9n9_6 (Below.drew (Below.refl _ _)) ?more9n9_6
              case hi9n9_6 => rw [List.getElem?_toArray]; exact rfl
              case hQ9n9_6 => exact fun _ _ _ h => h
              case hy9n9_6 =>
                refine Or.inl ⟨by rfl, ?_⟩
                intro w' hSw
                clear hSw
                go_simp
                try with_reducible rfl
              simp only [Act.put, List.setIfInBounds_toArray, List.set_cons_zero, List.set_cons_succ]
              refine wpAnyH_take (i := 10) (oi := ?o10n9_6) (v := ?v10n9_6) ?hi10n9_6 (by kernel_rfl) (by kernel_rfl) (by kernel_rfl) ?hQ10n9_6 ?hy10n9_6 (Below.drew (Below.refl _ _)) ?more10n9_6
              case hi10n9_6 => rw [List.getElem?_toArray]; exact rfl
              case hQ10n9_6 => exact fun _ _ _ h => h
              case hy10n9_6 =>
                refine Or.inl ⟨by rfl, ?_⟩
                intro w' hSw
                clear hSw
                go_simp
                try with_reducible rfl
              simp only [Act.put, List.setIfInBounds_toArray, List.set_cons_zero, List.set_cons_succ]
              refine wpAnyH_take (i := 11) (oi := ?o11n9_6) (v := .agg (prV (ts k)).toArray) ?hi11n9_6 (by kernel_rfl) (by kernel_rfl) (by kernel_rfl) ?hQ11n9_6 ?hy11n9_6 (Below.drew (Below.refl _ _)) ?more11n9_6
              case hi11n9_6 => rw [List.getElem?_toArray]; exact rfl
              case hQ11n9_6 => exact fun _ _ _ h => h
              case hy11n9_6 =>
                refine Or.inl ⟨by rfl, ?_⟩
                intro w' hSw
                exact exec_loadK (b := b) (k := o + k * 23) (x := 27) rfl rfl (LK.out _ hSw)
              simp only [Act.put, List.setIfInBounds_toArray, List.set_cons_zero, List.set_cons_succ]
              refine wpAnyH_take (i := 12) (oi := ?o12n9_6) (v := ?v12n9_6) ?hi12n9_6 (by kernel_rfl) (by kernel_rfl) (by kernel_rfl) ?hQ12n9_6 ?hy12n9_6 (Below.drew (Below.refl _ _)) ?more12n9_6
              case hi12n9_6 => rw [List.getElem?_toArray]; exact rfl
              case hQ12n9_6 => exact fun _ _ _ h => h
              case hy12n9_6 =>
                refine Or.inl ⟨by rfl, ?_⟩
                intro w' hSw
                clear hSw
                have hq := HQ.out
                rw [hE] at hq
                go_simp
                try with_reducible rfl
              simp only [Act.put, List.setIfInBounds_toArray, List.set_cons_zero, List.set_cons_succ]
              refine wpAnyH_take (i := 13) (oi := ?o13n9_6) (v := ?v13n9_6) ?hi13n9_6 (by kernel_rfl) (by kernel_rfl) (by kernel_rfl) ?hQ13n9_6 ?hy13n9_6 (Below.drew (Below.refl _ _)) ?more13n9_6
              case hi13n9_6 => rw [List.getElem?_toArray]; exact rfl
              case hQ13n9_6 => exact fun _ _ _ h => h
              case hy13n9_6 =>
                refine Or.inl ⟨by rfl, ?_⟩
                intro w' hSw
                clear hSw
                go_simp
                try with_reducible rfl
              simp only [Act.put, List.setIfInBounds_toArray, List.set_cons_zero, List.set_cons_succ]
              refine wpAnyH_take (i := 14) (oi := ?o14n9_6) (v := ?v14n9_6) ?hi14n9_6 (by kernel_rfl) (by kernel_rfl) (by kernel_rfl) ?hQ14n9_6 ?hy14n9_6 (Below.drew (Below.refl _ _)) ?more14n9_6
              case hi14n9_6 => rw [List.getElem?_toArray]; exact rfl
              case hQ14n9_6 => exact fun _ _ _ h => h
              case hy14n9_6 =>
                refine Or.inl ⟨by rfl, ?_⟩
                intro w' hSw
                clear hSw
                go_simp
                try with_reducible rfl
              simp only [Act.put, List.setIfInBounds_toArray, List.set_cons_zero, List.set_cons_succ]
              refine wpAnyH_done (by kernel_rfl) ?_ _
              try rw [← HWdrew]
              have H1 : Hid (Below w.heap.size w wq.drew) := below_call0 HD.out (Below.drew (Below.refl _ _))
              clear HD
              go_wp2_with fail
              go_roundw
              case rel => first | exact ⟨i + 1, HI.out, by rw [HG.out]; rfl, by go_num, H1.out⟩ | ((repeat apply Exists.intro); exact ⟨⟨i + 1, HI.out, by rw [HG.out]; rfl, by go_num, H1.out⟩, rfl⟩)
              case measure => have := HI.out; simp [Go.RowKit.intOf]; omega
            · have hg : fstI (Ep ts) k (i + 1) = some i := by
                have h := HU.out
                rw [hf, hE] at h
                simpa using h
              have HG : Hid _ := hg
              clear HU hg
              go_upto_region 9 with fail
              refine wp_region_H (fun w' => Below wq.heap.size wq w') 15 rfl (by kernel_rfl) ?_
              refine wpAnyH_take (i := 0) (oi := ?o0n9_7) (v := ?v0n9_7) ?hi0n9_7 (by kernel_rfl) (by kernel_rfl) (by kernel_rfl) ?hQ0n9_7 ?hy0n9_7 (Below.drew (Below.refl _ _)) ?more0n9_7
              case hi0n9_7 => rw [List.getElem?_toArray]; exact rfl
              case hQ0n9_7 => exact fun _ _ _ h => h
              case hy0n9_7 =>
                refine Or.inl ⟨by rfl, ?_⟩
                intro w' hSw
                clear hSw
                go_simp
                try with_reducible rfl
              simp only [Act.put, List.setIfInBounds_toArray, List.set_cons_zero, List.set_cons_succ]
              refine wpAnyH_take (i := 1) (oi := ?o1n9_7) (v := ?v1n9_7) ?hi1n9_7 (by kernel_rfl) (by kernel_rfl) (by kernel_rfl) ?hQ1n9_7 ?hy1n9_7 (Below.drew (Below.refl _ _)) ?more1n9_7
              case hi1n9_7 => rw [List.getElem?_toArray]; exact rfl
              case hQ1n9_7 => exact fun _ _ _ h => h
              case hy1n9_7 =>
                refine Or.inl ⟨by rfl, ?_⟩
                intro w' hSw
                clear hSw
                go_simp
                try with_reducible rfl
              simp only [Act.put, List.setIfInBounds_toArray, List.set_cons_zero, List.set_cons_succ]
              refine wpAnyH_take (i := 2) (oi := ?o2n9_7) (v := ?v2n9_7) ?hi2n9_7 (by kernel_rfl) (by kernel_rfl) (by kernel_rfl) ?hQ2n9_7 ?hy2n9_7 (Below.drew (Below.refl _ _)) ?more2n9_7
              case hi2n9_7 => rw [List.getElem?_toArray]; exact rfl
              case hQ2n9_7 => exact fun _ _ _ h => h
              case hy2n9_7 =>
                refine Or.inl ⟨by rfl, ?_⟩
                intro w' hSw
                clear hSw
                go_simp
                try with_reducible rfl
              simp only [Act.put, List.setIfInBounds_toArray, List.set_cons_zero, List.set_cons_succ]
              refine wpAnyH_take (i := 3) (oi := ?o3n9_7) (v := ?v3n9_7) ?hi3n9_7 (by kernel_rfl) (by kernel_rfl) (by kernel_rfl) ?hQ3n9_7 ?hy3n9_7 (Below.drew (Below.refl _ _)) ?more3n9_7
              case hi3n9_7 => rw [List.getElem?_toArray]; exact rfl
              case hQ3n9_7 => exact fun _ _ _ h => h
              case hy3n9_7 =>
                refine Or.inl ⟨by rfl, ?_⟩
                intro w' hSw
                clear hSw
                go_simp
                try with_reducible rfl
              simp only [Act.put, List.setIfInBounds_toArray, List.set_cons_zero, List.set_cons_succ]
              refine wpAnyH_take (i := 4) (oi := ?o4n9_7) (v := ?v4n9_7) ?hi4n9_7 (by kernel_rfl) (by kernel_rfl) (by kernel_rfl) ?hQ4n9_7 ?hy4n9_7 (Below.drew (Below.refl _ _)) ?more4n9_7
              case hi4n9_7 => rw [List.getElem?_toArray]; exact rfl
              case hQ4n9_7 => exact fun _ _ _ h => h
              case hy4n9_7 =>
                refine Or.inl ⟨by rfl, ?_⟩
                intro w' hSw
                clear hSw
                go_simp
                try with_reducible rfl
              simp only [Act.put, List.setIfInBounds_toArray, List.set_cons_zero, List.set_cons_succ]
              refine wpAnyH_take (i := 5) (oi := ?o5n9_7) (v := ?v5n9_7) ?hi5n9_7 (by kernel_rfl) (by kernel_rfl) (by kernel_rfl) ?hQ5n9_7 ?hy5n9_7 (Below.drew (Below.refl _ _)) ?more5n9_7
              case hi5n9_7 => rw [List.getElem?_toArray]; exact rfl
              case hQ5n9_7 => exact fun _ _ _ h => h
              case hy5n9_7 =>
                refine Or.inl ⟨by rfl, ?_⟩
                intro w' hSw
                clear hSw
                go_simp
                try with_reducible rfl
              simp only [Act.put, List.setIfInBounds_toArray, List.set_cons_zero, List.set_cons_succ]
              refine wpAnyH_take (i := 6) (oi := ?o6n9_7) (v := .agg (prV (ts i)).toArray) ?hi6n9_7 (by kernel_rfl) (by kernel_rfl) (by kernel_rfl) ?hQ6n9_7 ?hy6n9_7 (Below.drew (Below.refl _ _)) ?more6n9_7
              case hi6n9_7 => rw [List.getElem?_toArray]; exact rfl
              case hQ6n9_7 => exact fun _ _ _ h => h
              case hy6n9_7 =>
                refine Or.inl ⟨by rfl, ?_⟩
                intro w' hSw
                exact exec_loadK (b := b) (k := o + i * 23) (x := 22) rfl rfl (LI.out _ hSw)
              simp only [Act.put, List.setIfInBounds_toArray, List.set_cons_zero, List.set_cons_succ]
              refine wpAnyH_take (i := 7) (oi := ?o7n9_7) (v := ?v7n9_7) ?hi7n9_7 (by kernel_rfl) (by kernel_rfl) (by kernel_rfl) ?hQ7n9_7 ?hy7n9_7 (Below.drew (Below.refl _ _)) ?more7n9_7
              case hi7n9_7 => rw [List.getElem?_toArray]; exact rfl
              case hQ7n9_7 => exact fun _ _ _ h => h
              case hy7n9_7 =>
                refine Or.inl ⟨by rfl, ?_⟩
                intro w' hSw
                clear hSw
                go_simp
                try with_reducible rfl
              simp only [Act.put, List.setIfInBounds_toArray, List.set_cons_zero, List.set_cons_succ]
              refine wpAnyH_take (i := 8) (oi := ?o8n9_7) (v := ?v8n9_7) ?hi8n9_7 (by kernel_rfl) (by kernel_rfl) (by kernel_rfl) ?hQ8n9_7 ?hy8n9_7 (Below.drew (Below.refl _ _)) ?more8n9_7
              case hi8n9_7 => rw [List.getElem?_toArray]; exact rfl
              case hQ8n9_7 => exact fun _ _ _ h => h
              case hy8n9_7 =>
                refine Or.inl ⟨by rfl, ?_⟩
                intro w' hSw
                clear hSw
                go_simp
                try with_reducible rfl
              simp only [Act.put, List.setIfInBounds_toArray, List.set_cons_zero, List.set_cons_succ]
              refine wpAnyH_take (i := 9) (oi := ?o9n9_7) (v := ?v9n9_7) ?hi9n9_7 (by kernel_rfl) (by kernel_rfl) (by kernel_rfl) ?hQ9n9_7 ?hy9n9_7 (Below.drew (Below.refl _ _)) ?more9n9_7
              case hi9n9_7 => rw [List.getElem?_toArray]; exact rfl
              case hQ9n9_7 => exact fun _ _ _ h => h
              case hy9n9_7 =>
                refine Or.inl ⟨by rfl, ?_⟩
                intro w' hSw
                clear hSw
                go_simp
                try with_reducible rfl
              simp only [Act.put, List.setIfInBounds_toArray, List.set_cons_zero, List.set_cons_succ]
              refine wpAnyH_take (i := 10) (oi := ?o10n9_7) (v := ?v10n9_7) ?hi10n9_7 (by kernel_rfl) (by kernel_rfl) (by kernel_rfl) ?hQ10n9_7 ?hy10n9_7 (Below.drew (Below.refl _ _)) ?more10n9_7
              case hi10n9_7 => rw [List.getElem?_toArray]; exact rfl
              case hQ10n9_7 => exact fun _ _ _ h => h
              case hy10n9_7 =>
                refine Or.inl ⟨by rfl, ?_⟩
                intro w' hSw
                clear hSw
                go_simp
                try with_reducible rfl
              simp only [Act.put, List.setIfInBounds_toArray, List.set_cons_zero, List.set_cons_succ]
              refine wpAnyH_take (i := 11) (oi := ?o11n9_7) (v := .agg (prV (ts k)).toArray) ?hi11n9_7 (by kernel_rfl) (by kernel_rfl) (by kernel_rfl) ?hQ11n9_7 ?hy11n9_7 (Below.drew (Below.refl _ _)) ?more11n9_7
              case hi11n9_7 => rw [List.getElem?_toArray]; exact rfl
              case hQ11n9_7 => exact fun _ _ _ h => h
              case hy11n9_7 =>
                refine Or.inl ⟨by rfl, ?_⟩
                intro w' hSw
                exact exec_loadK (b := b) (k := o + k * 23) (x := 27) rfl rfl (LK.out _ hSw)
              simp only [Act.put, List.setIfInBounds_toArray, List.set_cons_zero, List.set_cons_succ]
              refine wpAnyH_take (i := 12) (oi := ?o12n9_7) (v := ?v12n9_7) ?hi12n9_7 (by kernel_rfl) (by kernel_rfl) (by kernel_rfl) ?hQ12n9_7 ?hy12n9_7 (Below.drew (Below.refl _ _)) ?more12n9_7
              case hi12n9_7 => rw [List.getElem?_toArray]; exact rfl
              case hQ12n9_7 => exact fun _ _ _ h => h
              case hy12n9_7 =>
                refine Or.inl ⟨by rfl, ?_⟩
                intro w' hSw
                clear hSw
                have hq := HQ.out
                rw [hE] at hq
                go_simp
                try with_reducible rfl
              simp only [Act.put, List.setIfInBounds_toArray, List.set_cons_zero, List.set_cons_succ]
              refine wpAnyH_take (i := 13) (oi := ?o13n9_7) (v := ?v13n9_7) ?hi13n9_7 (by kernel_rfl) (by kernel_rfl) (by kernel_rfl) ?hQ13n9_7 ?hy13n9_7 (Below.drew (Below.refl _ _)) ?more13n9_7
              case hi13n9_7 => rw [List.getElem?_toArray]; exact rfl
              case hQ13n9_7 => exact fun _ _ _ h => h
              case hy13n9_7 =>
                refine Or.inl ⟨by rfl, ?_⟩
                intro w' hSw
                clear hSw
                go_simp
                try with_reducible rfl
              simp only [Act.put, List.setIfInBounds_toArray, List.set_cons_zero, List.set_cons_succ]
              refine wpAnyH_take (i := 14) (oi := ?o14n9_7) (v := ?v14n9_7) ?hi14n9_7 (by kernel_rfl) (by kernel_rfl) (by kernel_rfl) ?hQ14n9_7 ?hy14n9_7 (Below.drew (Below.refl _ _)) ?more14n9_7
              case hi14n9_7 => rw [List.getElem?_toArray]; exact rfl
              case hQ14n9_7 => exact fun _ _ _ h => h
              case hy14n9_7 =>
                refine Or.inl ⟨by rfl, ?_⟩
                intro w' hSw
                clear hSw
                go_simp
                try with_reducible rfl
              simp only [Act.put, List.setIfInBounds_toArray, List.set_cons_zero, List.set_cons_succ]
              refine wpAnyH_done (by kernel_rfl) ?_ _
              try rw [← HWdrew]
              have H1 : Hid (Below w.heap.size w wq.drew) := below_call0 HD.out (Below.drew (Below.refl _ _))
              clear HD
              go_wp2_with fail
              go_roundw
              case rel => first | exact ⟨i + 1, HI.out, by rw [HG.out]; rfl, by go_num, H1.out⟩ | ((repeat apply Exists.intro); exact ⟨⟨i + 1, HI.out, by rw [HG.out]; rfl, by go_num, H1.out⟩, rfl⟩)
              case measure => have := HI.out; simp [Go.RowKit.intOf]; omega
          · rename_i x
            have hg : fstI (Ep ts) k (i + 1) = some x := by
              have h := HU.out
              rw [hf] at h
              simpa using h
            have HG : Hid _ := hg
            clear HU hg
            go_upto_region 9 with fail
            refine wp_region_H (fun w' => Below wq.heap.size wq w') 15 rfl (by kernel_rfl) ?_
            refine wpAnyH_take (i := 0) (oi := ?o0n9_8) (v := ?v0n9_8) ?hi0n9_8 (by kernel_rfl) (by kernel_rfl) (by kernel_rfl) ?hQ0n9_8 ?hy0n9_8 (Below.drew (Below.refl _ _)) ?more0n9_8
            case hi0n9_8 => rw [List.getElem?_toArray]; exact rfl
            case hQ0n9_8 => exact fun _ _ _ h => h
            case hy0n9_8 =>
              refine Or.inl ⟨by rfl, ?_⟩
              intro w' hSw
              clear hSw
              go_simp
              try with_reducible rfl
            simp only [Act.put, List.setIfInBounds_toArray, List.set_cons_zero, List.set_cons_succ]
            refine wpAnyH_take (i := 1) (oi := ?o1n9_8) (v := ?v1n9_8) ?hi1n9_8 (by kernel_rfl) (by kernel_rfl) (by kernel_rfl) ?hQ1n9_8 ?hy1n9_8 (Below.drew (Below.refl _ _)) ?more1n9_8
            case hi1n9_8 => rw [List.getElem?_toArray]; exact rfl
            case hQ1n9_8 => exact fun _ _ _ h => h
            case hy1n9_8 =>
              refine Or.inl ⟨by rfl, ?_⟩
              intro w' hSw
              clear hSw
              go_simp
              try with_reducible rfl
            simp only [Act.put, List.setIfInBounds_toArray, List.set_cons_zero, List.set_cons_succ]
            refine wpAnyH_take (i := 2) (oi := ?o2n9_8) (v := undef) ?hi2n9_8 (by kernel_rfl) (by kernel_rfl) (by kernel_rfl) ?hQ2n9_8 ?hy2n9_8 (Below.drew (Below.refl _ _)) ?more2n9_8
            case hi2n9_8 => rw [List.getElem?_toArray]; exact rfl
            case hQ2n9_8 => exact fun _ _ _ h => h
            case hy2n9_8 =>
              exact Or.inr ⟨by rfl, rfl⟩
            simp only [Act.put, List.setIfInBounds_toArray, List.set_cons_zero, List.set_cons_succ]
            refine wpAnyH_take (i := 3) (oi := ?o3n9_8) (v := undef) ?hi3n9_8 (by kernel_rfl) (by kernel_rfl) (by kernel_rfl) ?hQ3n9_8 ?hy3n9_8 (Below.drew (Below.refl _ _)) ?more3n9_8
            case hi3n9_8 => rw [List.getElem?_toArray]; exact rfl
            case hQ3n9_8 => exact fun _ _ _ h => h
            case hy3n9_8 =>
              exact Or.inr ⟨by rfl, rfl⟩
            simp only [Act.put, List.setIfInBounds_toArray, List.set_cons_zero, List.set_cons_succ]
            refine wpAnyH_take (i := 4) (oi := ?o4n9_8) (v := undef) ?hi4n9_8 (by kernel_rfl) (by kernel_rfl) (by kernel_rfl) ?hQ4n9_8 ?hy4n9_8 (Below.drew (Below.refl _ _)) ?more4n9_8
            case hi4n9_8 => rw [List.getElem?_toArray]; exact rfl
            case hQ4n9_8 => exact fun _ _ _ h => h
            case hy4n9_8 =>
              exact Or.inr ⟨by rfl, rfl⟩
            simp only [Act.put, List.setIfInBounds_toArray, List.set_cons_zero, List.set_cons_succ]
            refine wpAnyH_take (i := 5) (oi := ?o5n9_8) (v := undef) ?hi5n9_8 (by kernel_rfl) (by kernel_rfl) (by kernel_rfl) ?hQ5n9_8 ?hy5n9_8 (Below.drew (Below.refl _ _)) ?more5n9_8
            case hi5n9_8 => rw [List.getElem?_toArray]; exact rfl
            case hQ5n9_8 => exact fun _ _ _ h => h
            case hy5n9_8 =>
              exact Or.inr ⟨by rfl, rfl⟩
            simp only [Act.put, List.setIfInBounds_toArray, List.set_cons_zero, List.set_cons_succ]
            refine wpAnyH_take (i := 6) (oi := ?o6n9_8) (v := undef) ?hi6n9_8 (by kernel_rfl) (by kernel_rfl) (by kernel_rfl) ?hQ6n9_8 ?hy6n9_8 (Below.drew (Below.refl _ _)) ?more6n9_8
            case hi6n9_8 => rw [List.getElem?_toArray]; exact rfl
            case hQ6n9_8 => exact fun _ _ _ h => h
            case hy6n9_8 =>
              exact Or.inr ⟨by rfl, rfl⟩
            simp only [Act.put, List.setIfInBounds_toArray, List.set_cons_zero, List.set_cons_succ]
            refine wpAnyH_take (i := 7) (oi := ?o7n9_8) (v := undef) ?hi7n9_8 (by kernel_rfl) (by kernel_rfl) (by kernel_rfl) ?hQ7n9_8 ?hy7n9_8 (Below.drew (Below.refl _ _)) ?more7n9_8
            case hi7n9_8 => rw [List.getElem?_toArray]; exact rfl
            case hQ7n9_8 => exact fun _ _ _ h => h
            case hy7n9_8 =>
              exact Or.inr ⟨by rfl, rfl⟩
            simp only [Act.put, List.setIfInBounds_toArray, List.set_cons_zero, List.set_cons_succ]
            refine wpAnyH_take (i := 8) (oi := ?o8n9_8) (v := undef) ?hi8n9_8 (by kernel_rfl) (by kernel_rfl) (by kernel_rfl) ?hQ8n9_8 ?hy8n9_8 (Below.drew (Below.refl _ _)) ?more8n9_8
            case hi8n9_8 => rw [List.getElem?_toArray]; exact rfl
            case hQ8n9_8 => exact fun _ _ _ h => h
            case hy8n9_8 =>
              exact Or.inr ⟨by rfl, rfl⟩
            simp only [Act.put, List.setIfInBounds_toArray, List.set_cons_zero, List.set_cons_succ]
            refine wpAnyH_take (i := 9) (oi := ?o9n9_8) (v := undef) ?hi9n9_8 (by kernel_rfl) (by kernel_rfl) (by kernel_rfl) ?hQ9n9_8 ?hy9n9_8 (Below.drew (Below.refl _ _)) ?more9n9_8
            case hi9n9_8 => rw [List.getElem?_toArray]; exact rfl
            case hQ9n9_8 => exact fun _ _ _ h => h
            case hy9n9_8 =>
              exact Or.inr ⟨by rfl, rfl⟩
            simp only [Act.put, List.setIfInBounds_toArray, List.set_cons_zero, List.set_cons_succ]
            refine wpAnyH_take (i := 10) (oi := ?o10n9_8) (v := undef) ?hi10n9_8 (by kernel_rfl) (by kernel_rfl) (by kernel_rfl) ?hQ10n9_8 ?hy10n9_8 (Below.drew (Below.refl _ _)) ?more10n9_8
            case hi10n9_8 => rw [List.getElem?_toArray]; exact rfl
            case hQ10n9_8 => exact fun _ _ _ h => h
            case hy10n9_8 =>
              exact Or.inr ⟨by rfl, rfl⟩
            simp only [Act.put, List.setIfInBounds_toArray, List.set_cons_zero, List.set_cons_succ]
            refine wpAnyH_take (i := 11) (oi := ?o11n9_8) (v := undef) ?hi11n9_8 (by kernel_rfl) (by kernel_rfl) (by kernel_rfl) ?hQ11n9_8 ?hy11n9_8 (Below.drew (Below.refl _ _)) ?more11n9_8
            case hi11n9_8 => rw [List.getElem?_toArray]; exact rfl
            case hQ11n9_8 => exact fun _ _ _ h => h
            case hy11n9_8 =>
              exact Or.inr ⟨by rfl, rfl⟩
            simp only [Act.put, List.setIfInBounds_toArray, List.set_cons_zero, List.set_cons_succ]
            refine wpAnyH_take (i := 12) (oi := ?o12n9_8) (v := undef) ?hi12n9_8 (by kernel_rfl) (by kernel_rfl) (by kernel_rfl) ?hQ12n9_8 ?hy12n9_8 (Below.drew (Below.refl _ _)) ?more12n9_8
            case hi12n9_8 => rw [List.getElem?_toArray]; exact rfl
            case hQ12n9_8 => exact fun _ _ _ h => h
            case hy12n9_8 =>
              exact Or.inr ⟨by rfl, rfl⟩
            simp only [Act.put, List.setIfInBounds_toArray, List.set_cons_zero, List.set_cons_succ]
            refine wpAnyH_take (i := 13) (oi := ?o13n9_8) (v := ?v13n9_8) ?hi13n9_8 (by kernel_rfl) (by kernel_rfl) (by kernel_rfl) ?hQ13n9_8 ?hy13n9_8 (Below.drew (Below.refl _ _)) ?more13n9_8
            case hi13n9_8 => rw [List.getElem?_toArray]; exact rfl
            case hQ13n9_8 => exact fun _ _ _ h => h
            case hy13n9_8 =>
              refine Or.inl ⟨by rfl, ?_⟩
              intro w' hSw
              clear hSw
              go_simp
              try with_reducible rfl
            simp only [Act.put, List.setIfInBounds_toArray, List.set_cons_zero, List.set_cons_succ]
            refine wpAnyH_take (i := 14) (oi := ?o14n9_8) (v := ?v14n9_8) ?hi14n9_8 (by kernel_rfl) (by kernel_rfl) (by kernel_rfl) ?hQ14n9_8 ?hy14n9_8 (Below.drew (Below.refl _ _)) ?more14n9_8
            case hi14n9_8 => rw [List.getElem?_toArray]; exact rfl
            case hQ14n9_8 => exact fun _ _ _ h => h
            case hy14n9_8 =>
              refine Or.inl ⟨by rfl, ?_⟩
              intro w' hSw
              clear hSw
              go_simp
              try with_reducible rfl
            simp only [Act.put, List.setIfInBounds_toArray, List.set_cons_zero, List.set_cons_succ]
            refine wpAnyH_done (by kernel_rfl) ?_ _
            try rw [← HWdrew]
            have H1 : Hid (Below w.heap.size w wq.drew) := below_call0 HD.out (Below.drew (Below.refl _ _))
            clear HD
            go_wp2_with fail
            go_roundw
            case rel => first | exact ⟨i + 1, HI.out, by rw [HG.out]; rfl, by go_num, H1.out⟩ | ((repeat apply Exists.intro); exact ⟨⟨i + 1, HI.out, by rw [HG.out]; rfl, by go_num, H1.out⟩, rfl⟩)
            case measure => have := HI.out; simp [Go.RowKit.intOf]; omega
        · obtain rfl : i = k := by have := HF.out; omega
          have hnl : ¬ ((i : Int) < (i : Int)) := Int.lt_irrefl _
          clear hik
          cases hf : fstI (Ep ts) i i
          · have HG : Hid (dsI (Ep ts) (i + 1) = dsI (Ep ts) i + 1) := dsI_new hf
            go_wp2_with fail
            refine HKq.out _ _ ?_
            clear HKq
            go_wp2_with fail
            go_roundw
            case rel => first | exact ⟨i + 1, HL.out, by rw [HG.out]; go_num, by go_num, HD.out⟩ | ((repeat apply Exists.intro); exact ⟨⟨i + 1, HL.out, by rw [HG.out]; go_num, by go_num, HD.out⟩, rfl⟩)
            case measure => have := HL.out; simp [Go.RowKit.intOf]; omega
          · have HG : Hid (dsI (Ep ts) (i + 1) = dsI (Ep ts) i) := dsI_same hf
            go_wp2_with fail
            refine HKq.out _ _ ?_
            clear HKq
            go_wp2_with fail
            go_roundw
            case rel => first | exact ⟨i + 1, HL.out, by rw [HG.out], by go_num, HD.out⟩ | ((repeat apply Exists.intro); exact ⟨⟨i + 1, HL.out, by rw [HG.out], by go_num, HD.out⟩, rfl⟩)
            case measure => have := HL.out; simp [Go.RowKit.intOf]; omega
    · obtain rfl : k = n := by have := HC.out.2; omega
      have hnl : ¬ ((k : Int) < (k : Int)) := Int.lt_irrefl _
      clear hlt
      go_wp2_with fail
      refine HKr.out _ _ ?_
      clear HKr
      go_wp2_with fail
      go_ret
      exact ⟨rfl, HC.out.1⟩
end Go.Proofs.YtbpgiijdcagckaaDoor
