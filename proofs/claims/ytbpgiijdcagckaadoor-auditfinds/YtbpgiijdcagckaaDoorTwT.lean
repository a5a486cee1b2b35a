/- Package audit: Twice. -/
import Derived.Test.YtbpgiijdcagckaaDoorTwM
import Derived.Deep.Cut
namespace Go.Proofs.YtbpgiijdcagckaaDoor
open Go Go.RowKit Go.Lib
/-- What Twice tells. -/
def twV (x : Option (Nat × Nat)) : Value := .tuple #[.int .i64 ((x.map (·.1)).getD 0 : Nat), .int .i64 ((x.map (·.2)).getD 0 : Nat), .bool x.isSome]
def pI (E : Nat → Nat → Bool) (k j : Nat) : Option Value := (fstI E j k).map fun i => .int .i64 (i : Nat)
theorem zeroInt (w : World) : (zeroValue 3).run Tryd.prog w = .ok (.int .i64 0) w := by kernel_rfl
theorem dsI_new {E : Nat → Nat → Bool} {k : Nat} (h : fstI E k k = none) : dsI E (k + 1) = dsI E k + 1 := by
  show dsI E k + _ = _
  rw [h]
  rfl
theorem dsI_same {E : Nat → Nat → Bool} {k i : Nat} (h : fstI E k k = some i) : dsI E (k + 1) = dsI E k := by
  show dsI E k + _ = _
  rw [h]
  rfl
theorem dsI_pI {E : Nat → Nat → Bool} {k : Nat} (h : fstI E k k = none) : (if (pI E k k).isSome then dsI E k else dsI E k + 1) = dsI E (k + 1) := by
  have e : pI E k k = none := by
    unfold pI
    rw [h]
    rfl
  rw [e, dsI_new h]
  rfl
theorem pI_step {ts : Nat → Td} {k j : Nat} (h : fstI (Ep ts) k k = none) : pI (Ep ts) (k + 1) j = if eqPr (ts k) (ts j) = true then some (.int .i64 (k : Nat)) else pI (Ep ts) k j := by
  have e := fstI_step (Ep_eqv ts) j k
  rw [h] at e
  unfold pI
  rw [e]
  show (if eqPr (ts k) (ts j) = true then some k else fstI (Ep ts) j k).map (fun i => Value.int .i64 (i : Nat)) = _
  split <;> rfl
theorem pI_same {ts : Nat → Td} {k j i : Nat} (h : fstI (Ep ts) k k = some i) : pI (Ep ts) (k + 1) j = pI (Ep ts) k j := by
  have e := fstI_step (Ep_eqv ts) j k
  rw [h] at e
  unfold pI
  rw [e]
set_option maxRecDepth 100000 in
set_option maxHeartbeats 4000000 in
theorem twice_any (a : Option Addr) (n cap : Nat) (ts : Nat → Td) (hn : n ≤ 200) (hW : ∀ j, j < n → (ts j).W) (w : World) (hS : EmsAt w a n ts) : Calls Tryd.prog 7 #[.slice a n cap] w fun e w' => e = .returned (twV (twI (Ep ts) (Cp ts) n)) ∧ Below w.heap.size w w' := by
  have HW : Hid ((∀ j, j < n → (ts j).W) ∧ n ≤ 200) := ⟨hW, hn⟩
  have HS : Hid (EmsAt w a n ts) := hS
  have n64 : (n : Int) ≤ 200 := by omega
  clear hW hn hS
  have hmk : ∀ w : World, (Instr.makeMap 59 none).run Tryd.prog w = .ok (.map (some w.heap.size)) (w.alloc (.map #[] 0)) := fun w => by kernel_rfl
  go_enter Tryd.func7, Tryd.ntmps7
  go_upto_region 2 with fail
  clear hmk
  obtain ⟨B, hB⟩ : ∃ B, B = w.heap.size := ⟨_, rfl⟩
  obtain ⟨W0, hW0⟩ : ∃ W, W = w.alloc (.map #[] 0) := ⟨_, rfl⟩
  have H0 : Hid (Below w.heap.size w W0 ∧ MapE (.int .i64 0) W0 B 0 n ts (fun _ => none) ∧ w.heap.size ≤ B) := by
    rw [hW0, hB]
    exact ⟨below_alloc0 (Below.refl _ _) _, MapE.made _ _ _ _, Nat.le_refl _⟩
  rw [← hW0, ← hB]
  clear hW0 hB
  go_wp2_with fail
  rename_i Kr hKr
  have HKr : Hid _ := hKr
  clear hKr
  go_loopw [13] (fun iv wr => ∃ k : Nat, k ≤ n ∧ iv = .int .i64 (k : Nat) ∧ twI (Ep ts) (Cp ts) k = none ∧ Below w.heap.size w wr ∧ MapE (.int .i64 0) wr B (dsI (Ep ts) k) n ts (pI (Ep ts) k)) (fun iv _ => n - (Go.RowKit.intOf iv).toNat)
  case atStart => exact ⟨0, Nat.zero_le _, rfl, rfl, H0.out.1, H0.out.2.1⟩
  case round =>
    obtain ⟨k, hk, rfl, ht, hB, hM⟩ := hrel
    rename World => wr
    have HC : Hid (twI (Ep ts) (Cp ts) k = none ∧ k ≤ n) := ⟨ht, hk⟩
    have HR : Hid (Below w.heap.size w wr ∧ MapE (.int .i64 0) wr B (dsI (Ep ts) k) n ts (pI (Ep ts) k)) := ⟨hB, hM⟩
    clear ht hB hM hk
    by_cases hlt : k < n
    · clear HKr
      have hlt' : (k : Int) < (n : Int) := Int.ofNat_lt.2 hlt
      have HL : Hid (k < n) := hlt
      obtain ⟨b, o, rfl, hr, hbl⟩ := HS.out k hlt
      have LE : Hid ((loadVar 33 ⟨b, o + k * 23, none⟩).run Tryd.prog wr = .ok (.agg (emV (ts k)).toArray) wr) :=
        run_loadVar_mid wr b (o + k * 23) 33 (emV (ts k)) _ (rangeAt_below hr hbl HR.out.1) Tryd.underlying33 rfl (by kernel_rfl)
      clear hr hlt
      go_upto_region 4 with fail
      obtain ⟨W1, A1, hA, hS, hb, hB⟩ := Bk.fresh HR.out.1 (Nat.le_refl _) #[.int .i64 0, .int .u64 0, .int .u64 0, .int .u64 0, .int .u64 0, .int .u64 0, .int .u64 0, .int .u64 0, .int .u64 0, .bool false, .int .u64 0, .int .u64 0, .int .u64 0, .int .u64 0, .int .u64 0, .int .u64 0, .int .u64 0, .int .u64 0, .bool false, .int .u64 0, .int .u64 0, .int .u64 0, .int .u64 0] (emV (ts k)) 33 (by kernel_rfl) rfl (by kernel_rfl)
      have HA : Hid (A1 = wr.heap.size) := hA
      have HS : Hid _ := hS
      have HB : Hid (Below wr.heap.size wr W1 ∧ Bk w.heap.size W1 A1 (emV (ts k)) 33) := ⟨hb, hB⟩
      clear hA hS hb hB
      go_upto_region 5 with (first | ((with_reducible refine load_tk (b := b) (k := o + k * 23) (x := 16) ?_ ?_ ?_ LE.out ?_); rfl; rfl; rfl) | ((rw [← HA.out]); ((with_reducible refine store_tk (b := A1) (k := 0) (x := 7) (y := 17) ?_ ?_ ?_ ?_ HS.out ?_); rfl; rfl; rfl; rfl)) | ((with_reducible refine store_tk (b := A1) (k := 0) (x := 7) (y := 17) ?_ ?_ ?_ ?_ HS.out ?_); rfl; rfl; rfl; rfl))
      have H1 : Hid (Below w.heap.size w W1 ∧ MapE (.int .i64 0) W1 B (dsI (Ep ts) k) n ts (pI (Ep ts) k) ∧ Bk w.heap.size W1 A1 (emV (ts k)) 33) := ⟨below_call0 HR.out.1 HB.out.1, HR.out.2.call HB.out.1, HB.out.2⟩
      clear HA HS HB HR
      cases hf : fstI (Ep ts) k k with
      | none =>
        have LK : Hid ((Instr.lookup 59 (.map (some B)) (.agg (prV (ts k)).toArray) true).run Tryd.prog W1 = .ok (.tuple #[.int .i64 0, .bool false]) W1) := by
          have h := H1.out.2.1.look Tryd.underlying59 (zeroInt _) HL.out (HW.out.1 k HL.out)
          unfold pI at h
          rw [hf] at h
          exact h
        have L1 : Hid ((loadVar 31 ⟨A1, 0, none⟩).run Tryd.prog W1 = .ok (.agg (prV (ts k)).toArray) W1) := H1.out.2.2.load 0 (prV (ts k)) (by rfl) Tryd.underlying31 rfl (by kernel_rfl)
        go_upto_region 7 with (first | ((with_reducible refine look_tk (ty := 59) (x := .tmp 19) (i := .tmp 21) (xv := .map (some B)) (iv := .agg (prV (ts k)).toArray) (v := .tuple #[.int .i64 0, .bool false]) ?_ ?_ ?_ ?_ LK.out ?_); rfl; rfl; rfl; rfl) | ((with_reducible refine load_tk (b := A1) (k := 0) (x := 20) ?_ ?_ ?_ L1.out ?_); rfl; rfl; rfl))
        clear L1
        clear LK
        obtain ⟨W2, hU, hM2, hT⟩ := H1.out.2.1.update (v := .int .i64 (k : Nat)) Tryd.underlying59 (by have := dsI_le (Ep ts) k; have := HW.out.2; have := HC.out.2; omega) HL.out HW.out.1
        have HU : Hid _ := hU
        have HN : Hid (Below w.heap.size w W2 ∧ MapE (.int .i64 0) W2 B (dsI (Ep ts) (k + 1)) n ts (pI (Ep ts) (k + 1))) := by
          refine ⟨turned_below H1.out.1 hT H0.out.2.2, ?_⟩
          rw [← dsI_pI hf]
          exact hM2.eq fun j hj => pI_step hf
        clear hU hM2 hT
        have L2 : Hid ((loadVar 31 ⟨A1, 0, none⟩).run Tryd.prog W1 = .ok (.agg (prV (ts k)).toArray) W1) := H1.out.2.2.load 0 (prV (ts k)) (by rfl) Tryd.underlying31 rfl (by kernel_rfl)
        go_wp2_with (first | ((with_reducible refine upd_tk (ty := 59) (m := .tmp 28) (i := .tmp 30) (x := .tmp 31) (mv := .map (some B)) (iv := .agg (prV (ts k)).toArray) (xv := .int .i64 (k : Nat)) ?_ ?_ ?_ ?_ ?_ HU.out ?_); rfl; rfl; rfl; rfl; rfl) | ((with_reducible refine load_tk (b := A1) (k := 0) (x := 29) ?_ ?_ ?_ L2.out ?_); rfl; rfl; rfl))
        clear L2
        go_roundw
        case rel => first | exact ⟨k + 1, HL.out, by go_num, twI_step HC.out.1 (tw_new hf), HN.out.1, HN.out.2⟩ | ((repeat apply Exists.intro); exact ⟨⟨k + 1, HL.out, by go_num, twI_step HC.out.1 (tw_new hf), HN.out.1, HN.out.2⟩, rfl⟩)
        case measure => have := HL.out; simp [Go.RowKit.intOf]; omega
      | some i =>
        have LK : Hid ((Instr.lookup 59 (.map (some B)) (.agg (prV (ts k)).toArray) true).run Tryd.prog W1 = .ok (.tuple #[.int .i64 (i : Nat), .bool true]) W1) := by
          have h := H1.out.2.1.look Tryd.underlying59 (zeroInt _) HL.out (HW.out.1 k HL.out)
          unfold pI at h
          rw [hf] at h
          exact h
        have L1 : Hid ((loadVar 31 ⟨A1, 0, none⟩).run Tryd.prog W1 = .ok (.agg (prV (ts k)).toArray) W1) := H1.out.2.2.load 0 (prV (ts k)) (by rfl) Tryd.underlying31 rfl (by kernel_rfl)
        go_upto_region 8 with (first | ((with_reducible refine look_tk (ty := 59) (x := .tmp 19) (i := .tmp 21) (xv := .map (some B)) (iv := .agg (prV (ts k)).toArray) (v := .tuple #[.int .i64 (i : Nat), .bool true]) ?_ ?_ ?_ ?_ LK.out ?_); rfl; rfl; rfl; rfl) | ((with_reducible refine load_tk (b := A1) (k := 0) (x := 20) ?_ ?_ ?_ L1.out ?_); rfl; rfl; rfl))
        clear L1
        clear LK
        obtain ⟨hik, -, -⟩ := fstI_some hf
        have hin : i < n := Nat.lt_trans hik HL.out
        have hin' : (i : Int) < (n : Int) := Int.ofNat_lt.2 hin
        obtain ⟨b', o', e', hr, hbl'⟩ := HS.out i hin
        obtain ⟨rfl, rfl⟩ : b = b' ∧ o = o' := by
          injection e' with e'
          injection e' with e1 e2
          exact ⟨e1, e2⟩
        have LC : Hid (∀ w', Below W1.heap.size W1 w' → (loadVar 27 ⟨b, o + i * 23 + 19, none⟩).run Tryd.prog w' = .ok (.agg (nuV (ts i).c).toArray) w') := fun w' hb =>
          run_loadVar_mid w' b (o + i * 23 + 19) 27 (nuV (ts i).c) _ (rangeAt_part (rangeAt_below hr hbl' (below_call0 H1.out.1 hb)) 19 (nuV (ts i).c) (by rfl)) Tryd.underlying27 rfl (by kernel_rfl)
        have HQ : Hid (∀ w : World, (Op.equalIn 10000 27 (.agg (nuV (ts i).c).toArray) (.agg (nuV (ts k).c).toArray)).run Tryd.prog w = .ok (Cp ts i k) w) := fun w => run_num0 _ _ w
        clear hr e' hbl' hin hik
        cases hc : Cp ts i k
        · refine wp_region_H (fun w' => Below W1.heap.size W1 w') 9 rfl (by kernel_rfl) ?_
          refine wpAnyH_take (i := 0) (oi := ?o0n8_1) (v := ?v0n8_1) ?hi0n8_1 (by kernel_rfl) (by kernel_rfl) (by kernel_rfl) ?hQ0n8_1 ?hy0n8_1 (Below.drew (Below.refl _ _)) ?more0n8_1
          case hi0n8_1 => rw [List.getElem?_toArray]; exact rfl
          case hQ0n8_1 => exact fun _ _ _ h => h
          case hy0n8_1 =>
            refine Or.inl ⟨by rfl, ?_⟩
            intro w' hSw
            clear hSw
            go_simp
            try with_reducible rfl
          simp only [Act.put, List.setIfInBounds_toArray, List.set_cons_zero, List.set_cons_succ]
          refine wpAnyH_take (i := 1) (oi := ?o1n8_1) (v := ?v1n8_1) ?hi1n8_1 (by kernel_rfl) (by kernel_rfl) (by kernel_rfl) ?hQ1n8_1 ?hy1n8_1 (Below.drew (Below.refl _ _)) ?more1n8_1
          case hi1n8_1 => rw [List.getElem?_toArray]; exact rfl
          case hQ1n8_1 => exact fun _ _ _ h => h
          case hy1n8_1 =>
            refine Or.inl ⟨by rfl, ?_⟩
            intro w' hSw
            clear hSw
            go_simp
            try with_reducible rfl
          simp only [Act.put, List.setIfInBounds_toArray, List.set_cons_zero, List.set_cons_succ]
          refine wpAnyH_take (i := 2) (oi := ?o2n8_1) (v := ?v2n8_1) ?hi2n8_1 (by kernel_rfl) (by kernel_rfl) (by kernel_rfl) ?hQ2n8_1 ?hy2n8_1 (Below.drew (Below.refl _ _)) ?more2n8_1
          case hi2n8_1 => rw [List.getElem?_toArray]; exact rfl
          case hQ2n8_1 => exact fun _ _ _ h => h
          case hy2n8_1 =>
            refine Or.inl ⟨by rfl, ?_⟩
            intro w' hSw
            clear hSw
            go_simp
            try with_reducible rfl
          simp only [Act.put, List.setIfInBounds_toArray, List.set_cons_zero, List.set_cons_succ]
          refine wpAnyH_take (i := 3) (oi := ?o3n8_1) (v := ?v3n8_1) ?hi3n8_1 (by kernel_rfl) (by kernel_rfl) (by kernel_rfl) ?hQ3n8_1 ?hy3n8_1 (Below.drew (Below.refl _ _)) ?more3n8_1
          case hi3n8_1 => rw [List.getElem?_toArray]; exact rfl
          case hQ3n8_1 => exact fun _ _ _ h => h
          case hy3n8_1 =>
            refine Or.inl ⟨by rfl, ?_⟩
            intro w' hSw
            clear hSw
            go_simp
            try with_reducible rfl
          simp only [Act.put, List.setIfInBounds_toArray, List.set_cons_zero, List.set_cons_succ]
          refine wpAnyH_take (i := 4) (oi := ?o4n8_1) (v := .agg (nuV (ts i).c).toArray) ?hi4n8_1 (by kernel_rfl) (by kernel_rfl) (by kernel_rfl) ?hQ4n8_1 ?hy4n8_1 (Below.drew (Below.refl _ _)) ?more4n8_1
          case hi4n8_1 => rw [List.getElem?_toArray]; exact rfl
          case hQ4n8_1 => exact fun _ _ _ h => h
          case hy4n8_1 =>
            refine Or.inl ⟨by rfl, ?_⟩
            intro w' hSw
            exact exec_loadK (b := b) (k := o + i * 23 + 19) (x := 36) rfl rfl (LC.out _ hSw)
          simp only [Act.put, List.setIfInBounds_toArray, List.set_cons_zero, List.set_cons_succ]
          refine wpAnyH_take (i := 5) (oi := ?o5n8_1) (v := ?v5n8_1) ?hi5n8_1 (by kernel_rfl) (by kernel_rfl) (by kernel_rfl) ?hQ5n8_1 ?hy5n8_1 (Below.drew (Below.refl _ _)) ?more5n8_1
          case hi5n8_1 => rw [List.getElem?_toArray]; exact rfl
          case hQ5n8_1 => exact fun _ _ _ h => h
          case hy5n8_1 =>
            refine Or.inl ⟨by rfl, ?_⟩
            intro w' hSw
            clear hSw
            go_simp
            try with_reducible rfl
          simp only [Act.put, List.setIfInBounds_toArray, List.set_cons_zero, List.set_cons_succ]
          refine wpAnyH_take (i := 6) (oi := ?o6n8_1) (v := .agg (nuV (ts k).c).toArray) ?hi6n8_1 (by kernel_rfl) (by kernel_rfl) (by kernel_rfl) ?hQ6n8_1 ?hy6n8_1 (Below.drew (Below.refl _ _)) ?more6n8_1
          case hi6n8_1 => rw [List.getElem?_toArray]; exact rfl
          case hQ6n8_1 => exact fun _ _ _ h => h
          case hy6n8_1 =>
            refine Or.inl ⟨by rfl, ?_⟩
            intro w' hSw
            exact exec_loadK (b := A1) (k := 19) (x := 38) rfl rfl ((H1.out.2.2.call hSw).load 19 (nuV (ts k).c) (by rfl) Tryd.underlying27 rfl (by kernel_rfl))
          simp only [Act.put, List.setIfInBounds_toArray, List.set_cons_zero, List.set_cons_succ]
          refine wpAnyH_take (i := 7) (oi := ?o7n8_1) (v := ?v7n8_1) ?hi7n8_1 (by kernel_rfl) (by kernel_rfl) (by kernel_rfl) ?hQ7n8_1 ?hy7n8_1 (Below.drew (Below.refl _ _)) ?more7n8_1
          case hi7n8_1 => rw [List.getElem?_toArray]; exact rfl
          case hQ7n8_1 => exact fun _ _ _ h => h
          case hy7n8_1 =>
            refine Or.inl ⟨by rfl, ?_⟩
            intro w' hSw
            clear hSw
            have hq := HQ.out
            rw [hc] at hq
            go_simp
            try with_reducible rfl
          simp only [Act.put, List.setIfInBounds_toArray, List.set_cons_zero, List.set_cons_succ]
          refine wpAnyH_take (i := 8) (oi := ?o8n8_1) (v := ?v8n8_1) ?hi8n8_1 (by kernel_rfl) (by kernel_rfl) (by kernel_rfl) ?hQ8n8_1 ?hy8n8_1 (Below.drew (Below.refl _ _)) ?more8n8_1
          case hi8n8_1 => rw [List.getElem?_toArray]; exact rfl
          case hQ8n8_1 => exact fun _ _ _ h => h
          case hy8n8_1 =>
            refine Or.inl ⟨by rfl, ?_⟩
            intro w' hSw
            clear hSw
            go_simp
            try with_reducible rfl
          simp only [Act.put, List.setIfInBounds_toArray, List.set_cons_zero, List.set_cons_succ]
          refine wpAnyH_done (by kernel_rfl) ?_ _
          try rw [← HWdrew]
          have H2 : Hid (Below w.heap.size w W1.drew ∧ MapE (.int .i64 0) W1.drew B (dsI (Ep ts) k) n ts (pI (Ep ts) k) ∧ Bk w.heap.size W1.drew A1 (emV (ts k)) 33) := ⟨below_call0 H1.out.1 (Below.drew (Below.refl _ _)), H1.out.2.1.call (Below.drew (Below.refl _ _)), H1.out.2.2.call (Below.drew (Below.refl _ _))⟩
          clear H1
          go_upto_region 9 with fail
          go_wp2_with fail
          refine bodyPost_ret (v := .tuple #[.int .i64 (i : Nat), .int .i64 (k : Nat), .bool true]) ?_ rfl ⟨by rw [twI_some HL.out HC.out.1 (tw_other hf hc)]; rfl, H2.out.1⟩
          simp [results, Tryd.results7]
        · refine wp_region_H (fun w' => Below W1.heap.size W1 w') 9 rfl (by kernel_rfl) ?_
          refine wpAnyH_take (i := 0) (oi := ?o0n8_2) (v := ?v0n8_2) ?hi0n8_2 (by kernel_rfl) (by kernel_rfl) (by kernel_rfl) ?hQ0n8_2 ?hy0n8_2 (Below.drew (Below.refl _ _)) ?more0n8_2
          case hi0n8_2 => rw [List.getElem?_toArray]; exact rfl
          case hQ0n8_2 => exact fun _ _ _ h => h
          case hy0n8_2 =>
            refine Or.inl ⟨by rfl, ?_⟩
            intro w' hSw
            clear hSw
            go_simp
            try with_reducible rfl
          simp only [Act.put, List.setIfInBounds_toArray, List.set_cons_zero, List.set_cons_succ]
          refine wpAnyH_take (i := 1) (oi := ?o1n8_2) (v := ?v1n8_2) ?hi1n8_2 (by kernel_rfl) (by kernel_rfl) (by kernel_rfl) ?hQ1n8_2 ?hy1n8_2 (Below.drew (Below.refl _ _)) ?more1n8_2
          case hi1n8_2 => rw [List.getElem?_toArray]; exact rfl
          case hQ1n8_2 => exact fun _ _ _ h => h
          case hy1n8_2 =>
            refine Or.inl ⟨by rfl, ?_⟩
            intro w' hSw
            clear hSw
            go_simp
            try with_reducible rfl
          simp only [Act.put, List.setIfInBounds_toArray, List.set_cons_zero, List.set_cons_succ]
          refine wpAnyH_take (i := 2) (oi := ?o2n8_2) (v := ?v2n8_2) ?hi2n8_2 (by kernel_rfl) (by kernel_rfl) (by kernel_rfl) ?hQ2n8_2 ?hy2n8_2 (Below.drew (Below.refl _ _)) ?more2n8_2
          case hi2n8_2 => rw [List.getElem?_toArray]; exact rfl
          case hQ2n8_2 => exact fun _ _ _ h => h
          case hy2n8_2 =>
            refine Or.inl ⟨by rfl, ?_⟩
            intro w' hSw
            clear hSw
            go_simp
            try with_reducible rfl
          simp only [Act.put, List.setIfInBounds_toArray, List.set_cons_zero, List.set_cons_succ]
          refine wpAnyH_take (i := 3) (oi := ?o3n8_2) (v := ?v3n8_2) ?hi3n8_2 (by kernel_rfl) (by kernel_rfl) (by kernel_rfl) ?hQ3n8_2 ?hy3n8_2 (Below.drew (Below.refl _ _)) ?more3n8_2
          case hi3n8_2 => rw [List.getElem?_toArray]; exact rfl
          case hQ3n8_2 => exact fun _ _ _ h => h
          case hy3n8_2 =>
            refine Or.inl ⟨by rfl, ?_⟩
            intro w' hSw
            clear hSw
            go_simp
            try with_reducible rfl
          simp only [Act.put, List.setIfInBounds_toArray, List.set_cons_zero, List.set_cons_succ]
          refine wpAnyH_take (i := 4) (oi := ?o4n8_2) (v := .agg (nuV (ts i).c).toArray) ?hi4n8_2 (by kernel_rfl) (by kernel_rfl) (by kernel_rfl) ?hQ4n8_2 ?hy4n8_2 (Below.drew (Below.refl _ _)) ?more4n8_2
          case hi4n8_2 => rw [List.getElem?_toArray]; exact rfl
          case hQ4n8_2 => exact fun _ _ _ h => h
          case hy4n8_2 =>
            refine Or.inl ⟨by rfl, ?_⟩
            intro w' hSw
            exact exec_loadK (b := b) (k := o + i * 23 + 19) (x := 36) rfl rfl (LC.out _ hSw)
          simp only [Act.put, List.setIfInBounds_toArray, List.set_cons_zero, List.set_cons_succ]
          refine wpAnyH_take (i := 5) (oi := ?o5n8_2) (v := ?v5n8_2) ?hi5n8_2 (by kernel_rfl) (by kernel_rfl) (by kernel_rfl) ?hQ5n8_2 ?hy5n8_2 (Below.drew (Below.refl _ _)) ?more5n8_2
          case hi5n8_2 => rw [List.getElem?_toArray]; exact rfl
          case hQ5n8_2 => exact fun _ _ _ h => h
          case hy5n8_2 =>
            refine Or.inl ⟨by rfl, ?_⟩
            intro w' hSw
            clear hSw
            go_simp
            try with_reducible rfl
          simp only [Act.put, List.setIfInBounds_toArray, List.set_cons_zero, List.set_cons_succ]
          refine wpAnyH_take (i := 6) (oi := ?o6n8_2) (v := .agg (nuV (ts k).c).toArray) ?hi6n8_2 (by kernel_rfl) (by kernel_rfl) (by kernel_rfl) ?hQ6n8_2 ?hy6n8_2 (Below.drew (Below.refl _ _)) ?more6n8_2
          case hi6n8_2 => rw [List.getElem?_toArray]; exact rfl
          case hQ6n8_2 => exact fun _ _ _ h => h
          case hy6n8_2 =>
            refine Or.inl ⟨by rfl, ?_⟩
            intro w' hSw
            exact exec_loadK (b := A1) (k := 19) (x := 38) rfl rfl ((H1.out.2.2.call hSw).load 19 (nuV (ts k).c) (by rfl) Tryd.underlying27 rfl (by kernel_rfl))
          simp only [Act.put, List.setIfInBounds_toArray, List.set_cons_zero, List.set_cons_succ]
          refine wpAnyH_take (i := 7) (oi := ?o7n8_2) (v := ?v7n8_2) ?hi7n8_2 (by kernel_rfl) (by kernel_rfl) (by kernel_rfl) ?hQ7n8_2 ?hy7n8_2 (Below.drew (Below.refl _ _)) ?more7n8_2
          case hi7n8_2 => rw [List.getElem?_toArray]; exact rfl
          case hQ7n8_2 => exact fun _ _ _ h => h
          case hy7n8_2 =>
            refine Or.inl ⟨by rfl, ?_⟩
            intro w' hSw
            clear hSw
            have hq := HQ.out
            rw [hc] at hq
            go_simp
            try with_reducible rfl
          simp only [Act.put, List.setIfInBounds_toArray, List.set_cons_zero, List.set_cons_succ]
          refine wpAnyH_take (i := 8) (oi := ?o8n8_2) (v := ?v8n8_2) ?hi8n8_2 (by kernel_rfl) (by kernel_rfl) (by kernel_rfl) ?hQ8n8_2 ?hy8n8_2 (Below.drew (Below.refl _ _)) ?more8n8_2
          case hi8n8_2 => rw [List.getElem?_toArray]; exact rfl
          case hQ8n8_2 => exact fun _ _ _ h => h
          case hy8n8_2 =>
            refine Or.inl ⟨by rfl, ?_⟩
            intro w' hSw
            clear hSw
            go_simp
            try with_reducible rfl
          simp only [Act.put, List.setIfInBounds_toArray, List.set_cons_zero, List.set_cons_succ]
          refine wpAnyH_done (by kernel_rfl) ?_ _
          try rw [← HWdrew]
          have H2 : Hid (Below w.heap.size w W1.drew ∧ MapE (.int .i64 0) W1.drew B (dsI (Ep ts) k) n ts (pI (Ep ts) k) ∧ Bk w.heap.size W1.drew A1 (emV (ts k)) 33) := ⟨below_call0 H1.out.1 (Below.drew (Below.refl _ _)), H1.out.2.1.call (Below.drew (Below.refl _ _)), H1.out.2.2.call (Below.drew (Below.refl _ _))⟩
          clear H1
          go_wp2_with fail
          have HN : Hid (Below w.heap.size w W1.drew ∧ MapE (.int .i64 0) W1.drew B (dsI (Ep ts) (k + 1)) n ts (pI (Ep ts) (k + 1))) := by
            refine ⟨H2.out.1, ?_⟩
            rw [dsI_same hf]
            exact H2.out.2.1.eq fun j hj => pI_same hf
          go_roundw
          case rel => first | exact ⟨k + 1, HL.out, by go_num, twI_step HC.out.1 (tw_same (Ep_eqv ts) (Cp_eqv ts) HC.out.1 hf hc), HN.out.1, HN.out.2⟩ | ((repeat apply Exists.intro); exact ⟨⟨k + 1, HL.out, by go_num, twI_step HC.out.1 (tw_same (Ep_eqv ts) (Cp_eqv ts) HC.out.1 hf hc), HN.out.1, HN.out.2⟩, rfl⟩)
          case measure => have := HL.out; simp [Go.RowKit.intOf]; omega
    · obtain rfl : k = n := by have := HC.out.2; omega
      have hnl : ¬ ((k : Int) < (k : Int)) := Int.lt_irrefl _
      clear hlt
      go_wp2_with fail
      refine HKr.out _ _ ?_
      clear HKr
      go_wp2_with fail
      refine bodyPost_ret (v := .tuple #[.int .i64 0, .int .i64 0, .bool false]) ?_ rfl ⟨by rw [HC.out.1]; rfl, HR.out.1⟩
      simp [results, Tryd.results7]
end Go.Proofs.YtbpgiijdcagckaaDoor
