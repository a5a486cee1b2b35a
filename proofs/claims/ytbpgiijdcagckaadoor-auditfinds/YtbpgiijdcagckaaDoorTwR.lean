/- Package audit's reference: Twice. -/
import Derived.Test.YtbpgiijdcagckaaDoorTwT
import Derived.Deep.Cut
namespace Go.Proofs.YtbpgiijdcagckaaDoor
open Go Go.RowKit Go.Lib
/-- What the reference's Twice tells. -/
def twW : Option (Nat × Nat) → Value
  | none => .tuple #[.int .i64 (-1), .int .i64 (-1)]
  | some x => .tuple #[.int .i64 (x.1 : Nat), .int .i64 (x.2 : Nat)]
theorem cf_hit {E C : Nat → Nat → Bool} {i j : Nat} (hij : i < j) (h : fstI (cfI E C) j i = none) (hc : cfI E C i j = true) : fstI (cfI E C) j j = some i :=
  fstI_of_some hij hc fun x hx => fstI_none h x hx
theorem cf_next {E C : Nat → Nat → Bool} {i j : Nat} (h : fstI (cfI E C) j i = none) (hc : cfI E C i j = false) : fstI (cfI E C) j (i + 1) = none := by
  rw [fstI_succ, h]
  simp [hc]
set_option maxRecDepth 100000 in
set_option maxHeartbeats 4000000 in
theorem rtwice_any (a : Option Addr) (n cap : Nat) (ts : Nat → Td) (hn : n ≤ 200) (w : World) (hS : EmsAt w a n ts) : Calls Tryd.prog 8 #[.slice a n cap] w fun e w' => e = .returned (twW (twI (Ep ts) (Cp ts) n)) ∧ Below w.heap.size w w' := by
  have HS : Hid (EmsAt w a n ts) := hS
  have n64 : (n : Int) ≤ 200 := by omega
  clear hn hS
  go_enter Tryd.func8, Tryd.ntmps8
  go_wp2_with fail
  rename_i Kr hKr
  have HKr : Hid _ := hKr
  clear hKr
  go_loopw [8] (fun iv wr => ∃ k : Nat, k ≤ n ∧ iv = .int .i64 (k : Nat) ∧ twI (Ep ts) (Cp ts) k = none ∧ Below w.heap.size w wr) (fun iv _ => n - (Go.RowKit.intOf iv).toNat)
  case atStart => exact ⟨0, Nat.zero_le _, rfl, rfl, Below.refl _ _⟩
  case round =>
    obtain ⟨k, hk, rfl, ht, hB⟩ := hrel
    rename World => wr
    have HC : Hid (twI (Ep ts) (Cp ts) k = none ∧ Below w.heap.size w wr ∧ k ≤ n) := ⟨ht, hB, hk⟩
    clear ht hB hk
    by_cases hlt : k < n
    · clear HKr
      have hlt' : (k : Int) < (n : Int) := Int.ofNat_lt.2 hlt
      have HL : Hid (k < n) := hlt
      obtain ⟨b, o, rfl, hrk, hbl⟩ := HS.out k hlt
      have HB : Hid (w.rangeAt b (o + k * 23) (emV (ts k)) ∧ b < w.heap.size) := ⟨hrk, hbl⟩
      clear hlt hrk hbl
      go_wp2_with fail
      rename_i Kq hKq
      have HKq : Hid _ := hKq
      clear hKq
      go_loopw [5] (fun iv wq => ∃ i : Nat, i ≤ k ∧ iv = .int .i64 (i : Nat) ∧ fstI (cfI (Ep ts) (Cp ts)) k i = none ∧ Below w.heap.size w wq) (fun iv _ => k - (Go.RowKit.intOf iv).toNat)
      case atStart => exact ⟨0, Nat.zero_le _, rfl, rfl, HC.out.2.1⟩
      case round =>
        obtain ⟨i, hi, rfl, hf, hB⟩ := hrel
        rename World => wq
        have HD : Hid (Below w.heap.size w wq) := hB
        have HF : Hid (fstI (cfI (Ep ts) (Cp ts)) k i = none ∧ i ≤ k) := ⟨hf, hi⟩
        clear hf hB hi
        by_cases hik : i < k
        · clear HKq
          have hik' : (i : Int) < (k : Int) := Int.ofNat_lt.2 hik
          have HI : Hid (i < k) := hik
          have hin : i < n := Nat.lt_trans hik HL.out
          have hin' : (i : Int) < (n : Int) := Int.ofNat_lt.2 hin
          obtain ⟨b', o', e', hr, hbl'⟩ := HS.out i hin
          obtain ⟨rfl, rfl⟩ : b = b' ∧ o = o' := by
            injection e' with e'
            injection e' with e1 e2
            exact ⟨e1, e2⟩
          have LI : Hid (∀ w', Below wq.heap.size wq w' → (loadVar 34 ⟨b, o + i * 23, none⟩).run Tryd.prog w' = .ok (.agg (prV (ts i)).toArray) w') := fun w' hb =>
            run_loadVar_mid w' b (o + i * 23) 34 (prV (ts i)) _ (rangeAt_part (rangeAt_below hr hbl' (below_call0 HD.out hb)) 0 (prV (ts i)) (by rfl)) Tryd.underlying34 rfl (by kernel_rfl)
          have LK : Hid (∀ w', Below wq.heap.size wq w' → (loadVar 34 ⟨b, o + k * 23, none⟩).run Tryd.prog w' = .ok (.agg (prV (ts k)).toArray) w') := fun w' hb =>
            run_loadVar_mid w' b (o + k * 23) 34 (prV (ts k)) _ (rangeAt_part (rangeAt_below HB.out.1 HB.out.2 (below_call0 HD.out hb)) 0 (prV (ts k)) (by rfl)) Tryd.underlying34 rfl (by kernel_rfl)
          have MI : Hid (∀ w', Below wq.heap.size wq w' → (loadVar 27 ⟨b, o + i * 23 + 19, none⟩).run Tryd.prog w' = .ok (.agg (nuV (ts i).c).toArray) w') := fun w' hb =>
            run_loadVar_mid w' b (o + i * 23 + 19) 27 (nuV (ts i).c) _ (rangeAt_part (rangeAt_below hr hbl' (below_call0 HD.out hb)) 19 (nuV (ts i).c) (by rfl)) Tryd.underlying27 rfl (by kernel_rfl)
          have MK : Hid (∀ w', Below wq.heap.size wq w' → (loadVar 27 ⟨b, o + k * 23 + 19, none⟩).run Tryd.prog w' = .ok (.agg (nuV (ts k).c).toArray) w') := fun w' hb =>
            run_loadVar_mid w' b (o + k * 23 + 19) 27 (nuV (ts k).c) _ (rangeAt_part (rangeAt_below HB.out.1 HB.out.2 (below_call0 HD.out hb)) 19 (nuV (ts k).c) (by rfl)) Tryd.underlying27 rfl (by kernel_rfl)
          have HQ : Hid (∀ w : World, (Op.equalIn 10000 34 (.agg (prV (ts i)).toArray) (.agg (prV (ts k)).toArray)).run Tryd.prog w = .ok (Ep ts i k) w) := fun w => run_pr0 _ _ w
          have HP : Hid (∀ w : World, (Op.equalIn 10000 27 (.agg (nuV (ts i).c).toArray) (.agg (nuV (ts k).c).toArray)).run Tryd.prog w = .ok (Cp ts i k) w) := fun w => run_num0 _ _ w
          clear hr e' hbl' hin hik
          cases hE : Ep ts i k
          · go_upto_region 7 with fail
            refine wp_region_H (fun w' => Below wq.heap.size wq w') 24 rfl (by kernel_rfl) ?_
            refine wpAnyH_take (i := 0) (oi := ?o0n7_3) (v := ?v0n7_3) ?hi0n7_3 (by kernel_rfl) (by kernel_rfl) (by kernel_rfl) ?hQ0n7_3 ?hy0n7_3 (Below.drew (Below.refl _ _)) ?more0n7_3
            case hi0n7_3 => rw [List.getElem?_toArray]; exact rfl
            case hQ0n7_3 => exact fun _ _ _ h => h
            case hy0n7_3 =>
              refine Or.inl ⟨by rfl, ?_⟩
              intro w' hSw
              clear hSw
              go_simp
              try with_reducible rfl
            simp only [Act.put, List.setIfInBounds_toArray, List.set_cons_zero, List.set_cons_succ]
            refine wpAnyH_take (i := 1) (oi := ?o1n7_3) (v := ?v1n7_3) ?hi1n7_3 (by kernel_rfl) (by kernel_rfl) (by kernel_rfl) ?hQ1n7_3 ?hy1n7_3 (Below.drew (Below.refl _ _)) ?more1n7_3
            case hi1n7_3 => rw [List.getElem?_toArray]; exact rfl
            case hQ1n7_3 => exact fun _ _ _ h => h
            case hy1n7_3 =>
              refine Or.inl ⟨by rfl, ?_⟩
              intro w' hSw
              clear hSw
              go_simp
              try with_reducible rfl
            simp only [Act.put, List.setIfInBounds_toArray, List.set_cons_zero, List.set_cons_succ]
            refine wpAnyH_take (i := 2) (oi := ?o2n7_3) (v := ?v2n7_3) ?hi2n7_3 (by kernel_rfl) (by kernel_rfl) (by kernel_rfl) ?hQ2n7_3 ?hy2n7_3 (Below.drew (Below.refl _ _)) ?more2n7_3
            case hi2n7_3 => rw [List.getElem?_toArray]; exact rfl
            case hQ2n7_3 => exact fun _ _ _ h => h
            case hy2n7_3 =>
              refine Or.inl ⟨by rfl, ?_⟩
              intro w' hSw
              clear hSw
              go_simp
              try with_reducible rfl
            simp only [Act.put, List.setIfInBounds_toArray, List.set_cons_zero, List.set_cons_succ]
            refine wpAnyH_take (i := 3) (oi := ?o3n7_3) (v := ?v3n7_3) ?hi3n7_3 (by kernel_rfl) (by kernel_rfl) (by kernel_rfl) ?hQ3n7_3 ?hy3n7_3 (Below.drew (Below.refl _ _)) ?more3n7_3
            case hi3n7_3 => rw [List.getElem?_toArray]; exact rfl
            case hQ3n7_3 => exact fun _ _ _ h => h
            case hy3n7_3 =>
              refine Or.inl ⟨by rfl, ?_⟩
              intro w' hSw
              clear hSw
              go_simp
              try with_reducible rfl
            simp only [Act.put, List.setIfInBounds_toArray, List.set_cons_zero, List.set_cons_succ]
            refine wpAnyH_take (i := 4) (oi := ?o4n7_3) (v := .agg (prV (ts i)).toArray) ?hi4n7_3 (by kernel_rfl) (by kernel_rfl) (by kernel_rfl) ?hQ4n7_3 ?hy4n7_3 (Below.drew (Below.refl _ _)) ?more4n7_3
            case hi4n7_3 => rw [List.getElem?_toArray]; exact rfl
            case hQ4n7_3 => exact fun _ _ _ h => h
            case hy4n7_3 =>
              refine Or.inl ⟨by rfl, ?_⟩
              intro w' hSw
              exact exec_loadK (b := b) (k := o + i * 23) (x := 19) rfl rfl (LI.out _ hSw)
            simp only [Act.put, List.setIfInBounds_toArray, List.set_cons_zero, List.set_cons_succ]
            refine wpAnyH_take (i := 5) (oi := ?o5n7_3) (v := ?v5n7_3) ?hi5n7_3 (by kernel_rfl) (by kernel_rfl) (by kernel_rfl) ?hQ5n7_3 ?hy5n7_3 (Below.drew (Below.refl _ _)) ?more5n7_3
            case hi5n7_3 => rw [List.getElem?_toArray]; exact rfl
            case hQ5n7_3 => exact fun _ _ _ h => h
            case hy5n7_3 =>
              refine Or.inl ⟨by rfl, ?_⟩
              intro w' hSw
              clear hSw
              go_simp
              try with_reducible rfl
            simp only [Act.put, List.setIfInBounds_toArray, List.set_cons_zero, List.set_cons_succ]
            refine wpAnyH_take (i := 6) (oi := ?o6n7_3) (v := ?v6n7_3) ?hi6n7_3 (by kernel_rfl) (by kernel_rfl) (by kernel_rfl) ?hQ6n7_3 ?hy6n7_3 (Below.drew (Below.refl _ _)) ?more6n7_3
            case hi6n7_3 => rw [List.getElem?_toArray]; exact rfl
            case hQ6n7_3 => exact fun _ _ _ h => h
            case hy6n7_3 =>
              refine Or.inl ⟨by rfl, ?_⟩
              intro w' hSw
              clear hSw
              go_simp
              try with_reducible rfl
            simp only [Act.put, List.setIfInBounds_toArray, List.set_cons_zero, List.set_cons_succ]
            refine wpAnyH_take (i := 7) (oi := ?o7n7_3) (v := ?v7n7_3) ?hi7n7_3 (by kernel_rfl) (by kernel_rfl) (by kernel_rfl) ?hQ7n7_3 ?hy7n7_3 (Below.drew (Below.refl _ _)) ?more7n7_3
            case hi7n7_3 => rw [List.getElem?_toArray]; exact rfl
            case hQ7n7_3 => exact fun _ _ _ h => h
            case hy7n7_3 =>
              refine Or.inl ⟨by rfl, ?_⟩
              intro w' hSw
              clear hSw
              go_simp
              try with_reducible rfl
            simp only [Act.put, List.setIfInBounds_toArray, List.set_cons_zero, List.set_cons_succ]
            refine wpAnyH_take (i := 8) (oi := ?o8n7_3) (v := ?v8n7_3) ?hi8n7_3 (by kernel_rfl) (by kernel_rfl) (by kernel_rfl) ?hQ8n7_3 ?hy8n7_3 (Below.drew (Below.refl _ _)) ?more8n7_3
            case hi8n7_3 => rw [List.getElem?_toArray]; exact rfl
            case hQ8n7_3 => exact fun _ _ _ h => h
            case hy8n7_3 =>
              refine Or.inl ⟨by rfl, ?_⟩
              intro w' hSw
              clear hSw
              go_simp
              try with_reducible rfl
            simp only [Act.put, List.setIfInBounds_toArray, List.set_cons_zero, List.set_cons_succ]
            refine wpAnyH_take (i := 9) (oi := ?o9n7_3) (v := .agg (prV (ts k)).toArray) ?hi9n7_3 (by kernel_rfl) (by kernel_rfl) (by kernel_rfl) ?hQ9n7_3 ?hy9n7_3 (Below.drew (Below.refl _ _)) ?more9n7_3
            case hi9n7_3 => rw [List.getElem?_toArray]; exact rfl
            case hQ9n7_3 => exact fun _ _ _ h => h
            case hy9n7_3 =>
              refine Or.inl ⟨by rfl, ?_⟩
              intro w' hSw
              exact exec_loadK (b := b) (k := o + k * 23) (x := 24) rfl rfl (LK.out _ hSw)
            simp only [Act.put, List.setIfInBounds_toArray, List.set_cons_zero, List.set_cons_succ]
            refine wpAnyH_take (i := 10) (oi := ?o10n7_3) (v := ?v10n7_3) ?hi10n7_3 (by kernel_rfl) (by kernel_rfl) (by kernel_rfl) ?hQ10n7_3 ?hy10n7_3 (Below.drew (Below.refl _ _)) ?more10n7_3
            case hi10n7_3 => rw [List.getElem?_toArray]; exact rfl
            case hQ10n7_3 => exact fun _ _ _ h => h
            case hy10n7_3 =>
              refine Or.inl ⟨by rfl, ?_⟩
              intro w' hSw
              clear hSw
              have hq := HQ.out
              rw [hE] at hq
              go_simp
              try with_reducible rfl
            simp only [Act.put, List.setIfInBounds_toArray, List.set_cons_zero, List.set_cons_succ]
            refine wpAnyH_take (i := 11) (oi := ?o11n7_3) (v := ?v11n7_3) ?hi11n7_3 (by kernel_rfl) (by kernel_rfl) (by kernel_rfl) ?hQ11n7_3 ?hy11n7_3 (Below.drew (Below.refl _ _)) ?more11n7_3
            case hi11n7_3 => rw [List.getElem?_toArray]; exact rfl
            case hQ11n7_3 => exact fun _ _ _ h => h
            case hy11n7_3 =>
              refine Or.inl ⟨by rfl, ?_⟩
              intro w' hSw
              clear hSw
              go_simp
              try with_reducible rfl
            simp only [Act.put, List.setIfInBounds_toArray, List.set_cons_zero, List.set_cons_succ]
            refine wpAnyH_take (i := 12) (oi := ?o12n7_3) (v := undef) ?hi12n7_3 (by kernel_rfl) (by kernel_rfl) (by kernel_rfl) ?hQ12n7_3 ?hy12n7_3 (Below.drew (Below.refl _ _)) ?more12n7_3
            case hi12n7_3 => rw [List.getElem?_toArray]; exact rfl
            case hQ12n7_3 => exact fun _ _ _ h => h
            case hy12n7_3 =>
              exact Or.inr ⟨by rfl, rfl⟩
            simp only [Act.put, List.setIfInBounds_toArray, List.set_cons_zero, List.set_cons_succ]
            refine wpAnyH_take (i := 13) (oi := ?o13n7_3) (v := undef) ?hi13n7_3 (by kernel_rfl) (by kernel_rfl) (by kernel_rfl) ?hQ13n7_3 ?hy13n7_3 (Below.drew (Below.refl _ _)) ?more13n7_3
            case hi13n7_3 => rw [List.getElem?_toArray]; exact rfl
            case hQ13n7_3 => exact fun _ _ _ h => h
            case hy13n7_3 =>
              exact Or.inr ⟨by rfl, rfl⟩
            simp only [Act.put, List.setIfInBounds_toArray, List.set_cons_zero, List.set_cons_succ]
            refine wpAnyH_take (i := 14) (oi := ?o14n7_3) (v := undef) ?hi14n7_3 (by kernel_rfl) (by kernel_rfl) (by kernel_rfl) ?hQ14n7_3 ?hy14n7_3 (Below.drew (Below.refl _ _)) ?more14n7_3
            case hi14n7_3 => rw [List.getElem?_toArray]; exact rfl
            case hQ14n7_3 => exact fun _ _ _ h => h
            case hy14n7_3 =>
              exact Or.inr ⟨by rfl, rfl⟩
            simp only [Act.put, List.setIfInBounds_toArray, List.set_cons_zero, List.set_cons_succ]
            refine wpAnyH_take (i := 15) (oi := ?o15n7_3) (v := undef) ?hi15n7_3 (by kernel_rfl) (by kernel_rfl) (by kernel_rfl) ?hQ15n7_3 ?hy15n7_3 (Below.drew (Below.refl _ _)) ?more15n7_3
            case hi15n7_3 => rw [List.getElem?_toArray]; exact rfl
            case hQ15n7_3 => exact fun _ _ _ h => h
            case hy15n7_3 =>
              exact Or.inr ⟨by rfl, rfl⟩
            simp only [Act.put, List.setIfInBounds_toArray, List.set_cons_zero, List.set_cons_succ]
            refine wpAnyH_take (i := 16) (oi := ?o16n7_3) (v := undef) ?hi16n7_3 (by kernel_rfl) (by kernel_rfl) (by kernel_rfl) ?hQ16n7_3 ?hy16n7_3 (Below.drew (Below.refl _ _)) ?more16n7_3
            case hi16n7_3 => rw [List.getElem?_toArray]; exact rfl
            case hQ16n7_3 => exact fun _ _ _ h => h
            case hy16n7_3 =>
              exact Or.inr ⟨by rfl, rfl⟩
            simp only [Act.put, List.setIfInBounds_toArray, List.set_cons_zero, List.set_cons_succ]
            refine wpAnyH_take (i := 17) (oi := ?o17n7_3) (v := undef) ?hi17n7_3 (by kernel_rfl) (by kernel_rfl) (by kernel_rfl) ?hQ17n7_3 ?hy17n7_3 (Below.drew (Below.refl _ _)) ?more17n7_3
            case hi17n7_3 => rw [List.getElem?_toArray]; exact rfl
            case hQ17n7_3 => exact fun _ _ _ h => h
            case hy17n7_3 =>
              exact Or.inr ⟨by rfl, rfl⟩
            simp only [Act.put, List.setIfInBounds_toArray, List.set_cons_zero, List.set_cons_succ]
            refine wpAnyH_take (i := 18) (oi := ?o18n7_3) (v := undef) ?hi18n7_3 (by kernel_rfl) (by kernel_rfl) (by kernel_rfl) ?hQ18n7_3 ?hy18n7_3 (Below.drew (Below.refl _ _)) ?more18n7_3
            case hi18n7_3 => rw [List.getElem?_toArray]; exact rfl
            case hQ18n7_3 => exact fun _ _ _ h => h
            case hy18n7_3 =>
              exact Or.inr ⟨by rfl, rfl⟩
            simp only [Act.put, List.setIfInBounds_toArray, List.set_cons_zero, List.set_cons_succ]
            refine wpAnyH_take (i := 19) (oi := ?o19n7_3) (v := undef) ?hi19n7_3 (by kernel_rfl) (by kernel_rfl) (by kernel_rfl) ?hQ19n7_3 ?hy19n7_3 (Below.drew (Below.refl _ _)) ?more19n7_3
            case hi19n7_3 => rw [List.getElem?_toArray]; exact rfl
            case hQ19n7_3 => exact fun _ _ _ h => h
            case hy19n7_3 =>
              exact Or.inr ⟨by rfl, rfl⟩
            simp only [Act.put, List.setIfInBounds_toArray, List.set_cons_zero, List.set_cons_succ]
            refine wpAnyH_take (i := 20) (oi := ?o20n7_3) (v := undef) ?hi20n7_3 (by kernel_rfl) (by kernel_rfl) (by kernel_rfl) ?hQ20n7_3 ?hy20n7_3 (Below.drew (Below.refl _ _)) ?more20n7_3
            case hi20n7_3 => rw [List.getElem?_toArray]; exact rfl
            case hQ20n7_3 => exact fun _ _ _ h => h
            case hy20n7_3 =>
              exact Or.inr ⟨by rfl, rfl⟩
            simp only [Act.put, List.setIfInBounds_toArray, List.set_cons_zero, List.set_cons_succ]
            refine wpAnyH_take (i := 21) (oi := ?o21n7_3) (v := undef) ?hi21n7_3 (by kernel_rfl) (by kernel_rfl) (by kernel_rfl) ?hQ21n7_3 ?hy21n7_3 (Below.drew (Below.refl _ _)) ?more21n7_3
            case hi21n7_3 => rw [List.getElem?_toArray]; exact rfl
            case hQ21n7_3 => exact fun _ _ _ h => h
            case hy21n7_3 =>
              exact Or.inr ⟨by rfl, rfl⟩
            simp only [Act.put, List.setIfInBounds_toArray, List.set_cons_zero, List.set_cons_succ]
            refine wpAnyH_take (i := 22) (oi := ?o22n7_3) (v := undef) ?hi22n7_3 (by kernel_rfl) (by kernel_rfl) (by kernel_rfl) ?hQ22n7_3 ?hy22n7_3 (Below.drew (Below.refl _ _)) ?more22n7_3
            case hi22n7_3 => rw [List.getElem?_toArray]; exact rfl
            case hQ22n7_3 => exact fun _ _ _ h => h
            case hy22n7_3 =>
              exact Or.inr ⟨by rfl, rfl⟩
            simp only [Act.put, List.setIfInBounds_toArray, List.set_cons_zero, List.set_cons_succ]
            refine wpAnyH_take (i := 23) (oi := ?o23n7_3) (v := ?v23n7_3) ?hi23n7_3 (by kernel_rfl) (by kernel_rfl) (by kernel_rfl) ?hQ23n7_3 ?hy23n7_3 (Below.drew (Below.refl _ _)) ?more23n7_3
            case hi23n7_3 => rw [List.getElem?_toArray]; exact rfl
            case hQ23n7_3 => exact fun _ _ _ h => h
            case hy23n7_3 =>
              refine Or.inl ⟨by rfl, ?_⟩
              intro w' hSw
              clear hSw
              go_simp
              try with_reducible rfl
            simp only [Act.put, List.setIfInBounds_toArray, List.set_cons_zero, List.set_cons_succ]
            refine wpAnyH_done (by kernel_rfl) ?_ _
            try rw [← HWdrew]
            have H1 : Hid (Below w.heap.size w wq.drew) := below_call0 HD.out (Below.drew (Below.refl _ _))
            clear HD
            go_wp2_with fail
            have HG : Hid (fstI (cfI (Ep ts) (Cp ts)) k (i + 1) = none) := cf_next HF.out.1 (by unfold cfI; rw [hE, Bool.false_and])
            go_roundw
            case rel => first | exact ⟨i + 1, HI.out, by go_num, HG.out, H1.out⟩ | ((repeat apply Exists.intro); exact ⟨⟨i + 1, HI.out, by go_num, HG.out, H1.out⟩, rfl⟩)
            case measure => have := HI.out; simp [Go.RowKit.intOf]; omega
          · go_upto_region 7 with fail
            cases hc : Cp ts i k
            · refine wp_region_H (fun w' => Below wq.heap.size wq w') 24 rfl (by kernel_rfl) ?_
              refine wpAnyH_take (i := 0) (oi := ?o0n7_4) (v := ?v0n7_4) ?hi0n7_4 (by kernel_rfl) (by kernel_rfl) (by kernel_rfl) ?hQ0n7_4 ?hy0n7_4 (Below.drew (Below.refl _ _)) ?more0n7_4
              case hi0n7_4 => rw [List.getElem?_toArray]; exact rfl
              case hQ0n7_4 => exact fun _ _ _ h => h
              case hy0n7_4 =>
                refine Or.inl ⟨by rfl, ?_⟩
                intro w' hSw
                clear hSw
                go_simp
                try with_reducible rfl
              simp only [Act.put, List.setIfInBounds_toArray, List.set_cons_zero, List.set_cons_succ]
              refine wpAnyH_take (i := 1) (oi := ?o1n7_4) (v := ?v1n7_4) ?hi1n7_4 (by kernel_rfl) (by kernel_rfl) (by kernel_rfl) ?hQ1n7_4 ?hy1n7_4 (Below.drew (Below.refl _ _)) ?more1n7_4
              case hi1n7_4 => rw [List.getElem?_toArray]; exact rfl
              case hQ1n7_4 => exact fun _ _ _ h => h
              case hy1n7_4 =>
                refine Or.inl ⟨by rfl, ?_⟩
                intro w' hSw
                clear hSw
                go_simp
                try with_reducible rfl
              simp only [Act.put, List.setIfInBounds_toArray, List.set_cons_zero, List.set_cons_succ]
              refine wpAnyH_take (i := 2) (oi := ?o2n7_4) (v := ?v2n7_4) ?hi2n7_4 (by kernel_rfl) (by kernel_rfl) (by kernel_rfl) ?hQ2n7_4 ?hy2n7_4 (Below.drew (Below.refl _ _)) ?more2n7_4
              case hi2n7_4 => rw [List.getElem?_toArray]; exact rfl
              case hQ2n7_4 => exact fun _ _ _ h => h
              case hy2n7_4 =>
                refine Or.inl ⟨by rfl, ?_⟩
                intro w' hSw
                clear hSw
                go_simp
                try with_reducible rfl
              simp only [Act.put, List.setIfInBounds_toArray, List.set_cons_zero, List.set_cons_succ]
              refine wpAnyH_take (i := 3) (oi := ?o3n7_4) (v := ?v3n7_4) ?hi3n7_4 (by kernel_rfl) (by kernel_rfl) (by kernel_rfl) ?hQ3n7_4 ?hy3n7_4 (Below.drew (Below.refl _ _)) ?more3n7_4
              case hi3n7_4 => rw [List.getElem?_toArray]; exact rfl
              case hQ3n7_4 => exact fun _ _ _ h => h
              case hy3n7_4 =>
                refine Or.inl ⟨by rfl, ?_⟩
                intro w' hSw
                clear hSw
                go_simp
                try with_reducible rfl
              simp only [Act.put, List.setIfInBounds_toArray, List.set_cons_zero, List.set_cons_succ]
              refine wpAnyH_take (i := 4) (oi := ?o4n7_4) (v := .agg (prV (ts i)).toArray) ?hi4n7_4 (by kernel_rfl) (by kernel_rfl) (by kernel_rfl) ?hQ4n7_4 ?hy4n7_4 (Below.drew (Below.refl _ _)) ?more4n7_4
              case hi4n7_4 => rw [List.getElem?_toArray]; exact rfl
              case hQ4n7_4 => exact fun _ _ _ h => h
              case hy4n7_4 =>
                refine Or.inl ⟨by rfl, ?_⟩
                intro w' hSw
                exact exec_loadK (b := b) (k := o + i * 23) (x := 19) rfl rfl (LI.out _ hSw)
              simp only [Act.put, List.setIfInBounds_toArray, List.set_cons_zero, List.set_cons_succ]
              refine wpAnyH_take (i := 5) (oi := ?o5n7_4) (v := ?v5n7_4) ?hi5n7_4 (by kernel_rfl) (by kernel_rfl) (by kernel_rfl) ?hQ5n7_4 ?hy5n7_4 (Below.drew (Below.refl _ _)) ?more5n7_4
              case hi5n7_4 => rw [List.getElem?_toArray]; exact rfl
              case hQ5n7_4 => exact fun _ _ _ h => h
              case hy5n7_4 =>
                refine Or.inl ⟨by rfl, ?_⟩
                intro w' hSw
                clear hSw
                go_simp
                try with_reducible rfl
              simp only [Act.put, List.setIfInBounds_toArray, List.set_cons_zero, List.set_cons_succ]
              refine wpAnyH_take (i := 6) (oi := ?o6n7_4) (v := ?v6n7_4) ?hi6n7_4 (by kernel_rfl) (by kernel_rfl) (by kernel_rfl) ?hQ6n7_4 ?hy6n7_4 (Below.drew (Below.refl _ _)) ?more6n7_4
              case hi6n7_4 => rw [List.getElem?_toArray]; exact rfl
              case hQ6n7_4 => exact fun _ _ _ h => h
              case hy6n7_4 =>
                refine Or.inl ⟨by rfl, ?_⟩
                intro w' hSw
                clear hSw
                go_simp
                try with_reducible rfl
              simp only [Act.put, List.setIfInBounds_toArray, List.set_cons_zero, List.set_cons_succ]
              refine wpAnyH_take (i := 7) (oi := ?o7n7_4) (v := ?v7n7_4) ?hi7n7_4 (by kernel_rfl) (by kernel_rfl) (by kernel_rfl) ?hQ7n7_4 ?hy7n7_4 (Below.drew (Below.refl _ _)) ?more7n7_4
              case hi7n7_4 => rw [List.getElem?_toArray]; exact rfl
              case hQ7n7_4 => exact fun _ _ _ h => h
              case hy7n7_4 =>
                refine Or.inl ⟨by rfl, ?_⟩
                intro w' hSw
                clear hSw
                go_simp
                try with_reducible rfl
              simp only [Act.put, List.setIfInBounds_toArray, List.set_cons_zero, List.set_cons_succ]
              refine wpAnyH_take (i := 8) (oi := ?o8n7_4) (v := ?v8n7_4) ?hi8n7_4 (by kernel_rfl) (by kernel_rfl) (by kernel_rfl) ?hQ8n7_4 ?hy8n7_4 (Below.drew (Below.refl _ _)) ?more8n7_4
              case hi8n7_4 => rw [List.getElem?_toArray]; exact rfl
              case hQ8n7_4 => exact fun _ _ _ h => h
              case hy8n7_4 =>
                refine Or.inl ⟨by rfl, ?_⟩
                intro w' hSw
                clear hSw
                go_simp
                try with_reducible rfl
              simp only [Act.put, List.setIfInBounds_toArray, List.set_cons_zero, List.set_cons_succ]
              refine wpAnyH_take (i := 9) (oi := ?o9n7_4) (v := .agg (prV (ts k)).toArray) ?hi9n7_4 (by kernel_rfl) (by kernel_rfl) (by kernel_rfl) ?hQ9n7_4 ?hy9n7_4 (Below.drew (Below.refl _ _)) ?more9n7_4
              case hi9n7_4 => rw [List.getElem?_toArray]; exact rfl
              case hQ9n7_4 => exact fun _ _ _ h => h
              case hy9n7_4 =>
                refine Or.inl ⟨by rfl, ?_⟩
                intro w' hSw
                exact exec_loadK (b := b) (k := o + k * 23) (x := 24) rfl rfl (LK.out _ hSw)
              simp only [Act.put, List.setIfInBounds_toArray, List.set_cons_zero, List.set_cons_succ]
              refine wpAnyH_take (i := 10) (oi := ?o10n7_4) (v := ?v10n7_4) ?hi10n7_4 (by kernel_rfl) (by kernel_rfl) (by kernel_rfl) ?hQ10n7_4 ?hy10n7_4 (Below.drew (Below.refl _ _)) ?more10n7_4
              case hi10n7_4 => rw [List.getElem?_toArray]; exact rfl
              case hQ10n7_4 => exact fun _ _ _ h => h
              case hy10n7_4 =>
                refine Or.inl ⟨by rfl, ?_⟩
                intro w' hSw
                clear hSw
                have hq := HQ.out
                rw [hE] at hq
                go_simp
                try with_reducible rfl
              simp only [Act.put, List.setIfInBounds_toArray, List.set_cons_zero, List.set_cons_succ]
              refine wpAnyH_take (i := 11) (oi := ?o11n7_4) (v := ?v11n7_4) ?hi11n7_4 (by kernel_rfl) (by kernel_rfl) (by kernel_rfl) ?hQ11n7_4 ?hy11n7_4 (Below.drew (Below.refl _ _)) ?more11n7_4
              case hi11n7_4 => rw [List.getElem?_toArray]; exact rfl
              case hQ11n7_4 => exact fun _ _ _ h => h
              case hy11n7_4 =>
                refine Or.inl ⟨by rfl, ?_⟩
                intro w' hSw
                clear hSw
                go_simp
                try with_reducible rfl
              simp only [Act.put, List.setIfInBounds_toArray, List.set_cons_zero, List.set_cons_succ]
              refine wpAnyH_take (i := 12) (oi := ?o12n7_4) (v := ?v12n7_4) ?hi12n7_4 (by kernel_rfl) (by kernel_rfl) (by kernel_rfl) ?hQ12n7_4 ?hy12n7_4 (Below.drew (Below.refl _ _)) ?more12n7_4
              case hi12n7_4 => rw [List.getElem?_toArray]; exact rfl
              case hQ12n7_4 => exact fun _ _ _ h => h
              case hy12n7_4 =>
                refine Or.inl ⟨by rfl, ?_⟩
                intro w' hSw
                clear hSw
                go_simp
                try with_reducible rfl
              simp only [Act.put, List.setIfInBounds_toArray, List.set_cons_zero, List.set_cons_succ]
              refine wpAnyH_take (i := 13) (oi := ?o13n7_4) (v := ?v13n7_4) ?hi13n7_4 (by kernel_rfl) (by kernel_rfl) (by kernel_rfl) ?hQ13n7_4 ?hy13n7_4 (Below.drew (Below.refl _ _)) ?more13n7_4
              case hi13n7_4 => rw [List.getElem?_toArray]; exact rfl
              case hQ13n7_4 => exact fun _ _ _ h => h
              case hy13n7_4 =>
                refine Or.inl ⟨by rfl, ?_⟩
                intro w' hSw
                clear hSw
                go_simp
                try with_reducible rfl
              simp only [Act.put, List.setIfInBounds_toArray, List.set_cons_zero, List.set_cons_succ]
              refine wpAnyH_take (i := 14) (oi := ?o14n7_4) (v := ?v14n7_4) ?hi14n7_4 (by kernel_rfl) (by kernel_rfl) (by kernel_rfl) ?hQ14n7_4 ?hy14n7_4 (Below.drew (Below.refl _ _)) ?more14n7_4
              case hi14n7_4 => rw [List.getElem?_toArray]; exact rfl
              case hQ14n7_4 => exact fun _ _ _ h => h
              case hy14n7_4 =>
                refine Or.inl ⟨by rfl, ?_⟩
                intro w' hSw
                clear hSw
                go_simp
                try with_reducible rfl
              simp only [Act.put, List.setIfInBounds_toArray, List.set_cons_zero, List.set_cons_succ]
              refine wpAnyH_take (i := 15) (oi := ?o15n7_4) (v := ?v15n7_4) ?hi15n7_4 (by kernel_rfl) (by kernel_rfl) (by kernel_rfl) ?hQ15n7_4 ?hy15n7_4 (Below.drew (Below.refl _ _)) ?more15n7_4
              case hi15n7_4 => rw [List.getElem?_toArray]; exact rfl
              case hQ15n7_4 => exact fun _ _ _ h => h
              case hy15n7_4 =>
                refine Or.inl ⟨by rfl, ?_⟩
                intro w' hSw
                clear hSw
                go_simp
                try with_reducible rfl
              simp only [Act.put, List.setIfInBounds_toArray, List.set_cons_zero, List.set_cons_succ]
              refine wpAnyH_take (i := 16) (oi := ?o16n7_4) (v := .agg (nuV (ts i).c).toArray) ?hi16n7_4 (by kernel_rfl) (by kernel_rfl) (by kernel_rfl) ?hQ16n7_4 ?hy16n7_4 (Below.drew (Below.refl _ _)) ?more16n7_4
              case hi16n7_4 => rw [List.getElem?_toArray]; exact rfl
              case hQ16n7_4 => exact fun _ _ _ h => h
              case hy16n7_4 =>
                refine Or.inl ⟨by rfl, ?_⟩
                intro w' hSw
                exact exec_loadK (b := b) (k := o + i * 23 + 19) (x := 31) rfl rfl (MI.out _ hSw)
              simp only [Act.put, List.setIfInBounds_toArray, List.set_cons_zero, List.set_cons_succ]
              refine wpAnyH_take (i := 17) (oi := ?o17n7_4) (v := ?v17n7_4) ?hi17n7_4 (by kernel_rfl) (by kernel_rfl) (by kernel_rfl) ?hQ17n7_4 ?hy17n7_4 (Below.drew (Below.refl _ _)) ?more17n7_4
              case hi17n7_4 => rw [List.getElem?_toArray]; exact rfl
              case hQ17n7_4 => exact fun _ _ _ h => h
              case hy17n7_4 =>
                refine Or.inl ⟨by rfl, ?_⟩
                intro w' hSw
                clear hSw
                go_simp
                try with_reducible rfl
              simp only [Act.put, List.setIfInBounds_toArray, List.set_cons_zero, List.set_cons_succ]
              refine wpAnyH_take (i := 18) (oi := ?o18n7_4) (v := ?v18n7_4) ?hi18n7_4 (by kernel_rfl) (by kernel_rfl) (by kernel_rfl) ?hQ18n7_4 ?hy18n7_4 (Below.drew (Below.refl _ _)) ?more18n7_4
              case hi18n7_4 => rw [List.getElem?_toArray]; exact rfl
              case hQ18n7_4 => exact fun _ _ _ h => h
              case hy18n7_4 =>
                refine Or.inl ⟨by rfl, ?_⟩
                intro w' hSw
                clear hSw
                go_simp
                try with_reducible rfl
              simp only [Act.put, List.setIfInBounds_toArray, List.set_cons_zero, List.set_cons_succ]
              refine wpAnyH_take (i := 19) (oi := ?o19n7_4) (v := ?v19n7_4) ?hi19n7_4 (by kernel_rfl) (by kernel_rfl) (by kernel_rfl) ?hQ19n7_4 ?hy19n7_4 (Below.drew (Below.refl _ _)) ?more19n7_4
              case hi19n7_4 => rw [List.getElem?_toArray]; exact rfl
              case hQ19n7_4 => exact fun _ _ _ h => h
              case hy19n7_4 =>
                refine Or.inl ⟨by rfl, ?_⟩
                intro w' hSw
                clear hSw
                go_simp
                try with_reducible rfl
              simp only [Act.put, List.setIfInBounds_toArray, List.set_cons_zero, List.set_cons_succ]
              refine wpAnyH_take (i := 20) (oi := ?o20n7_4) (v := ?v20n7_4) ?hi20n7_4 (by kernel_rfl) (by kernel_rfl) (by kernel_rfl) ?hQ20n7_4 ?hy20n7_4 (Below.drew (Below.refl _ _)) ?more20n7_4
              case hi20n7_4 => rw [List.getElem?_toArray]; exact rfl
              case hQ20n7_4 => exact fun _ _ _ h => h
              case hy20n7_4 =>
                refine Or.inl ⟨by rfl, ?_⟩
                intro w' hSw
                clear hSw
                go_simp
                try with_reducible rfl
              simp only [Act.put, List.setIfInBounds_toArray, List.set_cons_zero, List.set_cons_succ]
              refine wpAnyH_take (i := 21) (oi := ?o21n7_4) (v := .agg (nuV (ts k).c).toArray) ?hi21n7_4 (by kernel_rfl) (by kernel_rfl) (by kernel_rfl) ?hQ21n7_4 ?hy21n7_4 (Below.drew (Below.refl _ _)) ?more21n7_4
              case hi21n7_4 => rw [List.getElem?_toArray]; exact rfl
              case hQ21n7_4 => exact fun _ _ _ h => h
              case hy21n7_4 =>
                refine Or.inl ⟨by rfl, ?_⟩
                intro w' hSw
                exact exec_loadK (b := b) (k := o + k * 23 + 19) (x := 36) rfl rfl (MK.out _ hSw)
              simp only [Act.put, List.setIfInBounds_toArray, List.set_cons_zero, List.set_cons_succ]
              refine wpAnyH_take (i := 22) (oi := ?o22n7_4) (v := ?v22n7_4) ?hi22n7_4 (by kernel_rfl) (by kernel_rfl) (by kernel_rfl) ?hQ22n7_4 ?hy22n7_4 (Below.drew (Below.refl _ _)) ?more22n7_4
              case hi22n7_4 => rw [List.getElem?_toArray]; exact rfl
              case hQ22n7_4 => exact fun _ _ _ h => h
              case hy22n7_4 =>
                refine Or.inl ⟨by rfl, ?_⟩
                intro w' hSw
                clear hSw
                have hq := HP.out
                rw [hc] at hq
                go_simp
                try with_reducible rfl
              simp only [Act.put, List.setIfInBounds_toArray, List.set_cons_zero, List.set_cons_succ]
              refine wpAnyH_take (i := 23) (oi := ?o23n7_4) (v := ?v23n7_4) ?hi23n7_4 (by kernel_rfl) (by kernel_rfl) (by kernel_rfl) ?hQ23n7_4 ?hy23n7_4 (Below.drew (Below.refl _ _)) ?more23n7_4
              case hi23n7_4 => rw [List.getElem?_toArray]; exact rfl
              case hQ23n7_4 => exact fun _ _ _ h => h
              case hy23n7_4 =>
                refine Or.inl ⟨by rfl, ?_⟩
                intro w' hSw
                clear hSw
                go_simp
                try with_reducible rfl
              simp only [Act.put, List.setIfInBounds_toArray, List.set_cons_zero, List.set_cons_succ]
              refine wpAnyH_done (by kernel_rfl) ?_ _
              try rw [← HWdrew]
              have H1 : Hid (Below w.heap.size w wq.drew) := below_call0 HD.out (Below.drew (Below.refl _ _))
              clear HD
              go_upto_region 8 with fail
              go_wp2_with fail
              refine bodyPost_ret (v := .tuple #[.int .i64 (i : Nat), .int .i64 (k : Nat)]) ?_ rfl ⟨by rw [twI_some HL.out HC.out.1 (cf_hit HI.out HF.out.1 (by unfold cfI; rw [hE, hc]; rfl))]; rfl, H1.out⟩
              simp [results, Tryd.results8]
            · refine wp_region_H (fun w' => Below wq.heap.size wq w') 24 rfl (by kernel_rfl) ?_
              refine wpAnyH_take (i := 0) (oi := ?o0n7_5) (v := ?v0n7_5) ?hi0n7_5 (by kernel_rfl) (by kernel_rfl) (by kernel_rfl) ?hQ0n7_5 ?hy0n7_5 (Below.drew (Below.refl _ _)) ?more0n7_5
              case hi0n7_5 => rw [List.getElem?_toArray]; exact rfl
              case hQ0n7_5 => exact fun _ _ _ h => h
              case hy0n7_5 =>
                refine Or.inl ⟨by rfl, ?_⟩
                intro w' hSw
                clear hSw
                go_simp
                try with_reducible rfl
              simp only [Act.put, List.setIfInBounds_toArray, List.set_cons_zero, List.set_cons_succ]
              refine wpAnyH_take (i := 1) (oi := ?o1n7_5) (v := ?v1n7_5) ?hi1n7_5 (by kernel_rfl) (by kernel_rfl) (by kernel_rfl) ?hQ1n7_5 ?hy1n7_5 (Below.drew (Below.refl _ _)) ?more1n7_5
              case hi1n7_5 => rw [List.getElem?_toArray]; exact rfl
              case hQ1n7_5 => exact fun _ _ _ h => h
              case hy1n7_5 =>
                refine Or.inl ⟨by rfl, ?_⟩
                intro w' hSw
                clear hSw
                go_simp
                try with_reducible rfl
              simp only [Act.put, List.setIfInBounds_toArray, List.set_cons_zero, List.set_cons_succ]
              refine wpAnyH_take (i := 2) (oi := ?o2n7_5) (v := ?v2n7_5) ?hi2n7_5 (by kernel_rfl) (by kernel_rfl) (by kernel_rfl) ?hQ2n7_5 ?hy2n7_5 (Below.drew (Below.refl _ _)) ?more2n7_5
              case hi2n7_5 => rw [List.getElem?_toArray]; exact rfl
              case hQ2n7_5 => exact fun _ _ _ h => h
              case hy2n7_5 =>
                refine Or.inl ⟨by rfl, ?_⟩
                intro w' hSw
                clear hSw
                go_simp
                try with_reducible rfl
              simp only [Act.put, List.setIfInBounds_toArray, List.set_cons_zero, List.set_cons_succ]
              refine wpAnyH_take (i := 3) (oi := ?o3n7_5) (v := ?v3n7_5) ?hi3n7_5 (by kernel_rfl) (by kernel_rfl) (by kernel_rfl) ?hQ3n7_5 ?hy3n7_5 (Below.drew (Below.refl _ _)) ?more3n7_5
              case hi3n7_5 => rw [List.getElem?_toArray]; exact rfl
              case hQ3n7_5 => exact fun _ _ _ h => h
              case hy3n7_5 =>
                refine Or.inl ⟨by rfl, ?_⟩
                intro w' hSw
                clear hSw
                go_simp
                try with_reducible rfl
              simp only [Act.put, List.setIfInBounds_toArray, List.set_cons_zero, List.set_cons_succ]
              refine wpAnyH_take (i := 4) (oi := ?o4n7_5) (v := .agg (prV (ts i)).toArray) ?hi4n7_5 (by kernel_rfl) (by kernel_rfl) (by kernel_rfl) ?hQ4n7_5 ?hy4n7_5 (Below.drew (Below.refl _ _)) ?more4n7_5
              case hi4n7_5 => rw [List.getElem?_toArray]; exact rfl
              case hQ4n7_5 => exact fun _ _ _ h => h
              case hy4n7_5 =>
                refine Or.inl ⟨by rfl, ?_⟩
                intro w' hSw
                exact exec_loadK (b := b) (k := o + i * 23) (x := 19) rfl rfl (LI.out _ hSw)
              simp only [Act.put, List.setIfInBounds_toArray, List.set_cons_zero, List.set_cons_succ]
              refine wpAnyH_take (i := 5) (oi := ?o5n7_5) (v := ?v5n7_5) ?hi5n7_5 (by kernel_rfl) (by kernel_rfl) (by kernel_rfl) ?hQ5n7_5 ?hy5n7_5 (Below.drew (Below.refl _ _)) ?more5n7_5
              case hi5n7_5 => rw [List.getElem?_toArray]; exact rfl
              case hQ5n7_5 => exact fun _ _ _ h => h
              case hy5n7_5 =>
                refine Or.inl ⟨by rfl, ?_⟩
                intro w' hSw
                clear hSw
                go_simp
                try with_reducible rfl
              simp only [Act.put, List.setIfInBounds_toArray, List.set_cons_zero, List.set_cons_succ]
              refine wpAnyH_take (i := 6) (oi := ?o6n7_5) (v := ?v6n7_5) ?hi6n7_5 (by kernel_rfl) (by kernel_rfl) (by kernel_rfl) ?hQ6n7_5 ?hy6n7_5 (Below.drew (Below.refl _ _)) ?more6n7_5
              case hi6n7_5 => rw [List.getElem?_toArray]; exact rfl
              case hQ6n7_5 => exact fun _ _ _ h => h
              case hy6n7_5 =>
                refine Or.inl ⟨by rfl, ?_⟩
                intro w' hSw
                clear hSw
                go_simp
                try with_reducible rfl
              simp only [Act.put, List.setIfInBounds_toArray, List.set_cons_zero, List.set_cons_succ]
              refine wpAnyH_take (i := 7) (oi := ?o7n7_5) (v := ?v7n7_5) ?hi7n7_5 (by kernel_rfl) (by kernel_rfl) (by kernel_rfl) ?hQ7n7_5 ?hy7n7_5 (Below.drew (Below.refl _ _)) ?more7n7_5
              case hi7n7_5 => rw [List.getElem?_toArray]; exact rfl
              case hQ7n7_5 => exact fun _ _ _ h => h
              case hy7n7_5 =>
                refine Or.inl ⟨by rfl, ?_⟩
                intro w' hSw
                clear hSw
                go_simp
                try with_reducible rfl
              simp only [Act.put, List.setIfInBounds_toArray, List.set_cons_zero, List.set_cons_succ]
              refine wpAnyH_take (i := 8) (oi := ?o8n7_5) (v := ?v8n7_5) ?hi8n7_5 (by kernel_rfl) (by kernel_rfl) (by kernel_rfl) ?hQ8n7_5 ?hy8n7_5 (Below.drew (Below.refl _ _)) ?more8n7_5
              case hi8n7_5 => rw [List.getElem?_toArray]; exact rfl
              case hQ8n7_5 => exact fun _ _ _ h => h
              case hy8n7_5 =>
                refine Or.inl ⟨by rfl, ?_⟩
                intro w' hSw
                clear hSw
                go_simp
                try with_reducible rfl
              simp only [Act.put, List.setIfInBounds_toArray, List.set_cons_zero, List.set_cons_succ]
              refine wpAnyH_take (i := 9) (oi := ?o9n7_5) (v := .agg (prV (ts k)).toArray) ?hi9n7_5 (by kernel_rfl) (by kernel_rfl) (by kernel_rfl) ?hQ9n7_5 ?hy9n7_5 (Below.drew (Below.refl _ _)) ?more9n7_5
              case hi9n7_5 => rw [List.getElem?_toArray]; exact rfl
              case hQ9n7_5 => exact fun _ _ _ h => h
              case hy9n7_5 =>
                refine Or.inl ⟨by rfl, ?_⟩
                intro w' hSw
                exact exec_loadK (b := b) (k := o + k * 23) (x := 24) rfl rfl (LK.out _ hSw)
              simp only [Act.put, List.setIfInBounds_toArray, List.set_cons_zero, List.set_cons_succ]
              refine wpAnyH_take (i := 10) (oi := ?o10n7_5) (v := ?v10n7_5) ?hi10n7_5 (by kernel_rfl) (by kernel_rfl) (by kernel_rfl) ?hQ10n7_5 ?hy10n7_5 (Below.drew (Below.refl _ _)) ?more10n7_5
              case hi10n7_5 => rw [List.getElem?_toArray]; exact rfl
              case hQ10n7_5 => exact fun _ _ _ h => h
              case hy10n7_5 =>
                refine Or.inl ⟨by rfl, ?_⟩
                intro w' hSw
                clear hSw
                have hq := HQ.out
                rw [hE] at hq
                go_simp
                try with_reducible rfl
              simp only [Act.put, List.setIfInBounds_toArray, List.set_cons_zero, List.set_cons_succ]
              refine wpAnyH_take (i := 11) (oi := ?o11n7_5) (v := ?v11n7_5) ?hi11n7_5 (by kernel_rfl) (by kernel_rfl) (by kernel_rfl) ?hQ11n7_5 ?hy11n7_5 (Below.drew (Below.refl _ _)) ?more11n7_5
              case hi11n7_5 => rw [List.getElem?_toArray]; exact rfl
              case hQ11n7_5 => exact fun _ _ _ h => h
              case hy11n7_5 =>
                refine Or.inl ⟨by rfl, ?_⟩
                intro w' hSw
                clear hSw
                go_simp
                try with_reducible rfl
              simp only [Act.put, List.setIfInBounds_toArray, List.set_cons_zero, List.set_cons_succ]
              refine wpAnyH_take (i := 12) (oi := ?o12n7_5) (v := ?v12n7_5) ?hi12n7_5 (by kernel_rfl) (by kernel_rfl) (by kernel_rfl) ?hQ12n7_5 ?hy12n7_5 (Below.drew (Below.refl _ _)) ?more12n7_5
              case hi12n7_5 => rw [List.getElem?_toArray]; exact rfl
              case hQ12n7_5 => exact fun _ _ _ h => h
              case hy12n7_5 =>
                refine Or.inl ⟨by rfl, ?_⟩
                intro w' hSw
                clear hSw
                go_simp
                try with_reducible rfl
              simp only [Act.put, List.setIfInBounds_toArray, List.set_cons_zero, List.set_cons_succ]
              refine wpAnyH_take (i := 13) (oi := ?o13n7_5) (v := ?v13n7_5) ?hi13n7_5 (by kernel_rfl) (by kernel_rfl) (by kernel_rfl) ?hQ13n7_5 ?hy13n7_5 (Below.drew (Below.refl _ _)) ?more13n7_5
              case hi13n7_5 => rw [List.getElem?_toArray]; exact rfl
              case hQ13n7_5 => exact fun _ _ _ h => h
              case hy13n7_5 =>
                refine Or.inl ⟨by rfl, ?_⟩
                intro w' hSw
                clear hSw
                go_simp
                try with_reducible rfl
              simp only [Act.put, List.setIfInBounds_toArray, List.set_cons_zero, List.set_cons_succ]
              refine wpAnyH_take (i := 14) (oi := ?o14n7_5) (v := ?v14n7_5) ?hi14n7_5 (by kernel_rfl) (by kernel_rfl) (by kernel_rfl) ?hQ14n7_5 ?hy14n7_5 (Below.drew (Below.refl _ _)) ?more14n7_5
              case hi14n7_5 => rw [List.getElem?_toArray]; exact rfl
              case hQ14n7_5 => exact fun _ _ _ h => h
              case hy14n7_5 =>
                refine Or.inl ⟨by rfl, ?_⟩
                intro w' hSw
                clear hSw
                go_simp
                try with_reducible rfl
              simp only [Act.put, List.setIfInBounds_toArray, List.set_cons_zero, List.set_cons_succ]
              refine wpAnyH_take (i := 15) (oi := ?o15n7_5) (v := ?v15n7_5) ?hi15n7_5 (by kernel_rfl) (by kernel_rfl) (by kernel_rfl) ?hQ15n7_5 ?hy15n7_5 (Below.drew (Below.refl _ _)) ?more15n7_5
              case hi15n7_5 => rw [List.getElem?_toArray]; exact rfl
              case hQ15n7_5 => exact fun _ _ _ h => h
              case hy15n7_5 =>
                refine Or.inl ⟨by rfl, ?_⟩
                intro w' hSw
                clear hSw
                go_simp
                try with_reducible rfl
              simp only [Act.put, List.setIfInBounds_toArray, List.set_cons_zero, List.set_cons_succ]
              refine wpAnyH_take (i := 16) (oi := ?o16n7_5) (v := .agg (nuV (ts i).c).toArray) ?hi16n7_5 (by kernel_rfl) (by kernel_rfl) (by kernel_rfl) ?hQ16n7_5 ?hy16n7_5 (Below.drew (Below.refl _ _)) ?more16n7_5
              case hi16n7_5 => rw [List.getElem?_toArray]; exact rfl
              case hQ16n7_5 => exact fun _ _ _ h => h
              case hy16n7_5 =>
                refine Or.inl ⟨by rfl, ?_⟩
                intro w' hSw
                exact exec_loadK (b := b) (k := o + i * 23 + 19) (x := 31) rfl rfl (MI.out _ hSw)
              simp only [Act.put, List.setIfInBounds_toArray, List.set_cons_zero, List.set_cons_succ]
              refine wpAnyH_take (i := 17) (oi := ?o17n7_5) (v := ?v17n7_5) ?hi17n7_5 (by kernel_rfl) (by kernel_rfl) (by kernel_rfl) ?hQ17n7_5 ?hy17n7_5 (Below.drew (Below.refl _ _)) ?more17n7_5
              case hi17n7_5 => rw [List.getElem?_toArray]; exact rfl
              case hQ17n7_5 => exact fun _ _ _ h => h
              case hy17n7_5 =>
                refine Or.inl ⟨by rfl, ?_⟩
                intro w' hSw
                clear hSw
                go_simp
                try with_reducible rfl
              simp only [Act.put, List.setIfInBounds_toArray, List.set_cons_zero, List.set_cons_succ]
              refine wpAnyH_take (i := 18) (oi := ?o18n7_5) (v := ?v18n7_5) ?hi18n7_5 (by kernel_rfl) (by kernel_rfl) (by kernel_rfl) ?hQ18n7_5 ?hy18n7_5 (Below.drew (Below.refl _ _)) ?more18n7_5
              case hi18n7_5 => rw [List.getElem?_toArray]; exact rfl
              case hQ18n7_5 => exact fun _ _ _ h => h
              case hy18n7_5 =>
                refine Or.inl ⟨by rfl, ?_⟩
                intro w' hSw
                clear hSw
                go_simp
                try with_reducible rfl
              simp only [Act.put, List.setIfInBounds_toArray, List.set_cons_zero, List.set_cons_succ]
              refine wpAnyH_take (i := 19) (oi := ?o19n7_5) (v := ?v19n7_5) ?hi19n7_5 (by kernel_rfl) (by kernel_rfl) (by kernel_rfl) ?hQ19n7_5 ?hy19n7_5 (Below.drew (Below.refl _ _)) ?more19n7_5
              case hi19n7_5 => rw [List.getElem?_toArray]; exact rfl
              case hQ19n7_5 => exact fun _ _ _ h => h
              case hy19n7_5 =>
                refine Or.inl ⟨by rfl, ?_⟩
                intro w' hSw
                clear hSw
                go_simp
                try with_reducible rfl
              simp only [Act.put, List.setIfInBounds_toArray, List.set_cons_zero, List.set_cons_succ]
              refine wpAnyH_take (i := 20) (oi := ?o20n7_5) (v := ?v20n7_5) ?hi20n7_5 (by kernel_rfl) (by kernel_rfl) (by kernel_rfl) ?hQ20n7_5 ?hy20n7_5 (Below.drew (Below.refl _ _)) ?more20n7_5
              case hi20n7_5 => rw [List.getElem?_toArray]; exact rfl
              case hQ20n7_5 => exact fun _ _ _ h => h
              case hy20n7_5 =>
                refine Or.inl ⟨by rfl, ?_⟩
                intro w' hSw
                clear hSw
                go_simp
                try with_reducible rfl
              simp only [Act.put, List.setIfInBounds_toArray, List.set_cons_zero, List.set_cons_succ]
              refine wpAnyH_take (i := 21) (oi := ?o21n7_5) (v := .agg (nuV (ts k).c).toArray) ?hi21n7_5 (by kernel_rfl) (by kernel_rfl) (by kernel_rfl) ?hQ21n7_5 ?hy21n7_5 (Below.drew (Below.refl _ _)) ?more21n7_5
              case hi21n7_5 => rw [List.getElem?_toArray]; exact rfl
              case hQ21n7_5 => exact fun _ _ _ h => h
              case hy21n7_5 =>
                refine Or.inl ⟨by rfl, ?_⟩
                intro w' hSw
                exact exec_loadK (b := b) (k := o + k * 23 + 19) (x := 36) rfl rfl (MK.out _ hSw)
              simp only [Act.put, List.setIfInBounds_toArray, List.set_cons_zero, List.set_cons_succ]
              refine wpAnyH_take (i := 22) (oi := ?o22n7_5) (v := ?v22n7_5) ?hi22n7_5 (by kernel_rfl) (by kernel_rfl) (by kernel_rfl) ?hQ22n7_5 ?hy22n7_5 (Below.drew (Below.refl _ _)) ?more22n7_5
              case hi22n7_5 => rw [List.getElem?_toArray]; exact rfl
              case hQ22n7_5 => exact fun _ _ _ h => h
              case hy22n7_5 =>
                refine Or.inl ⟨by rfl, ?_⟩
                intro w' hSw
                clear hSw
                have hq := HP.out
                rw [hc] at hq
                go_simp
                try with_reducible rfl
              simp only [Act.put, List.setIfInBounds_toArray, List.set_cons_zero, List.set_cons_succ]
              refine wpAnyH_take (i := 23) (oi := ?o23n7_5) (v := ?v23n7_5) ?hi23n7_5 (by kernel_rfl) (by kernel_rfl) (by kernel_rfl) ?hQ23n7_5 ?hy23n7_5 (Below.drew (Below.refl _ _)) ?more23n7_5
              case hi23n7_5 => rw [List.getElem?_toArray]; exact rfl
              case hQ23n7_5 => exact fun _ _ _ h => h
              case hy23n7_5 =>
                refine Or.inl ⟨by rfl, ?_⟩
                intro w' hSw
                clear hSw
                go_simp
                try with_reducible rfl
              simp only [Act.put, List.setIfInBounds_toArray, List.set_cons_zero, List.set_cons_succ]
              refine wpAnyH_done (by kernel_rfl) ?_ _
              try rw [← HWdrew]
              have H1 : Hid (Below w.heap.size w wq.drew) := below_call0 HD.out (Below.drew (Below.refl _ _))
              clear HD
              go_wp2_with fail
              have HG : Hid (fstI (cfI (Ep ts) (Cp ts)) k (i + 1) = none) := cf_next HF.out.1 (by unfold cfI; rw [hE, hc]; rfl)
              go_roundw
              case rel => first | exact ⟨i + 1, HI.out, by go_num, HG.out, H1.out⟩ | ((repeat apply Exists.intro); exact ⟨⟨i + 1, HI.out, by go_num, HG.out, H1.out⟩, rfl⟩)
              case measure => have := HI.out; simp [Go.RowKit.intOf]; omega
        · obtain rfl : i = k := by have := HF.out.2; omega
          have hnl : ¬ ((i : Int) < (i : Int)) := Int.lt_irrefl _
          have HG : Hid (twI (Ep ts) (Cp ts) (i + 1) = none) := twI_step HC.out.1 HF.out.1
          clear hik
          go_wp2_with fail
          refine HKq.out _ _ ?_
          clear HKq
          go_wp2_with fail
          go_roundw
          case rel => first | exact ⟨i + 1, HL.out, by go_num, HG.out, HD.out⟩ | ((repeat apply Exists.intro); exact ⟨⟨i + 1, HL.out, by go_num, HG.out, HD.out⟩, rfl⟩)
          case measure => have := HL.out; simp [Go.RowKit.intOf]; omega
    · obtain rfl : k = n := by have := HC.out.2.2; omega
      have hnl : ¬ ((k : Int) < (k : Int)) := Int.lt_irrefl _
      clear hlt
      go_wp2_with fail
      refine HKr.out _ _ ?_
      clear HKr
      go_wp2_with fail
      refine bodyPost_ret (v := .tuple #[.int .i64 (-1), .int .i64 (-1)]) ?_ rfl ⟨by rw [HC.out.1]; rfl, HC.out.2.1⟩
      simp [results, Tryd.results8]
end Go.Proofs.YtbpgiijdcagckaaDoor
