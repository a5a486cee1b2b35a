/- Package audit: Find. -/
import Derived.Test.YtbpgiijdcagckaaDoorFnA
import Derived.Test.YtbpgiijdcagckaaDoorTwT
import Derived.Deep.Cut
namespace Go.Proofs.YtbpgiijdcagckaaDoor
open Go Go.RowKit Go.Lib
theorem Bk.turned {b0 b B : Nat} {w w' : World} {vs : List Value} {t : TypeId} (h : Bk b0 w b vs t) (hm : w.mapTurned w' B) (hne : b ≠ B) : Bk b0 w' b vs t := by
  obtain ⟨es, clock, es', clock', hb, rfl⟩ := hm
  exact ⟨h.1, (ChangeMaps.heap_setBlock_other hb _ hne).trans h.2⟩
theorem dnI_skip {ts : Nat → Td} {k : Nat} (h : (ts k).ok = false) : dnI ts (k + 1) = dnI ts k := by
  show dnI ts k + _ = _
  rw [h]
  rfl
theorem dnI_same {ts : Nat → Td} {k i : Nat} (h : fstI (En ts) k k = some i) : dnI ts (k + 1) = dnI ts k := by
  show dnI ts k + _ = _
  rw [h]
  simp
theorem dnI_pI {ts : Nat → Td} {k : Nat} (ho : (ts k).ok = true) (h : fstI (En ts) k k = none) : (if (pI (En ts) k k).isSome then dnI ts k else dnI ts k + 1) = dnI ts (k + 1) := by
  have e : pI (En ts) k k = none := by
    unfold pI
    rw [h]
    rfl
  rw [e]
  show dnI ts k + 1 = dnI ts k + _
  rw [ho, h]
  rfl
theorem pN_skip {ts : Nat → Td} {k j : Nat} (h : (ts k).ok = false) : pI (En ts) (k + 1) j = pI (En ts) k j := by
  unfold pI
  rw [En_skip h]
theorem pN_same {ts : Nat → Td} {k j i : Nat} (ho : (ts k).ok = true) (h : fstI (En ts) k k = some i) : pI (En ts) (k + 1) j = pI (En ts) k j := by
  have e := En_step ho j
  rw [h] at e
  unfold pI
  rw [e]
theorem pN_step {ts : Nat → Td} {k j : Nat} (ho : (ts k).ok = true) (h : fstI (En ts) k k = none) : pI (En ts) (k + 1) j = if eqNo (ts k) (ts j) = true then some (.int .i64 (k : Nat)) else pI (En ts) k j := by
  have e := En_step ho j
  rw [h] at e
  unfold pI
  rw [e]
  show (if eqNo (ts k) (ts j) = true then some k else fstI (En ts) j k).map (fun i => Value.int .i64 (i : Nat)) = _
  split <;> rfl
set_option maxRecDepth 100000 in
set_option maxHeartbeats 4000000 in
theorem find_any (a : Option Addr) (n cap : Nat) (ts : Nat → Td) (A : Int) (X : Nat) (C : Bool) (hn : n ≤ 200) (hW : ∀ j, j < n → (ts j).W ∧ (ts j).R) (hA : A = fA ts (twI (En ts) (Cn ts) n)) (hX : X = fB ts (twI (En ts) (Cn ts) n)) (hC : C = (twI (En ts) (Cn ts) n).isSome) (w : World) (hG : GlobQ w) (hS : TdsAt w a n ts) : Calls Tryd.prog 11 #[.slice a n cap] w fun e w' => e = .returned (.tuple #[.int .i64 A, .agg (nuV X).toArray, .bool C]) ∧ Below w.heap.size w w' := by
  have HW : Hid ((∀ j, j < n → (ts j).W ∧ (ts j).R) ∧ n ≤ 200) := ⟨hW, hn⟩
  have HS : Hid (TdsAt w a n ts ∧ GlobQ w) := ⟨hS, hG⟩
  have HA : Hid (A = fA ts (twI (En ts) (Cn ts) n) ∧ X = fB ts (twI (En ts) (Cn ts) n) ∧ C = (twI (En ts) (Cn ts) n).isSome) := ⟨hA, hX, hC⟩
  have n64 : (n : Int) ≤ 200 := by omega
  clear hW hn hS hG hA hX hC
  have hmk : ∀ w : World, (Instr.makeMap 63 none).run Tryd.prog w = .ok (.map (some w.heap.size)) (w.alloc (.map #[] 0)) := fun w => by kernel_rfl
  obtain ⟨N, hN⟩ : ∃ N, N = w.heap.size := ⟨_, rfl⟩
  obtain ⟨W0, hW0⟩ : ∃ W, W = w.alloc (.cells #[.int .u64 0, .int .u64 0, .int .u64 0, .int .u64 0] 27) := ⟨_, rfl⟩
  have H0 : Hid (Below w.heap.size w W0 ∧ Bk w.heap.size W0 N [.int .u64 0, .int .u64 0, .int .u64 0, .int .u64 0] 27) := by
    have hb : Below w.heap.size w W0 := by
      rw [hW0]
      exact below_alloc0 (Below.refl _ _) _
    have e0 := Bk.mk0 (w) [.int .u64 0, .int .u64 0, .int .u64 0, .int .u64 0] 27
    have a0 : Below (w).heap.size (w) (w.alloc (.cells #[.int .u64 0, .int .u64 0, .int .u64 0, .int .u64 0] 27)) := below_alloc0 (Below.refl _ _) _
    refine ⟨hb, ⟨?_, ?_⟩⟩
    · exact Nat.le_of_eq hN.symm
    · rw [hW0, hN]
      exact e0.2
  have HW : Hid (W0 = w.alloc (.cells #[.int .u64 0, .int .u64 0, .int .u64 0, .int .u64 0] 27) ∧ N = w.heap.size) := ⟨hW0, hN⟩
  clear hW0 hN 
  go_enter Tryd.func11, Tryd.ntmps11
  go_upto_region 1 with fail
  rw [← HW.out.1, ← HW.out.2]
  clear HW
  go_upto_region 2 with fail
  clear hmk
  obtain ⟨B, hB⟩ : ∃ B, B = W0.heap.size := ⟨_, rfl⟩
  obtain ⟨W1, hW1⟩ : ∃ W, W = W0.alloc (.map #[] 0) := ⟨_, rfl⟩
  have H1 : Hid (Below w.heap.size w W1 ∧ MapN (.int .i64 0) W1 B 0 n ts (fun _ => none) ∧ Bk w.heap.size W1 N [.int .u64 0, .int .u64 0, .int .u64 0, .int .u64 0] 27 ∧ w.heap.size ≤ B ∧ N ≠ B) := by
    have hb : Below W0.heap.size W0 W1 := by
      rw [hW1]
      exact below_alloc0 (Below.refl _ _) _
    refine ⟨below_call0 H0.out.1 hb, ?_, H0.out.2.call hb, ?_, ?_⟩
    · rw [hW1, hB]
      exact MapN.made _ _ _ _
    · rw [hB]
      exact H0.out.1.size
    · rw [hB]
      exact Nat.ne_of_lt H0.out.2.lt
  rw [← hW1, ← hB]
  clear hW1 hB H0
  go_wp2_with fail
  rename_i Kr hKr
  have HKr : Hid _ := hKr
  clear hKr
  go_loopw [15] (fun iv wr => ∃ k : Nat, k ≤ n ∧ iv = .int .i64 (k : Nat) ∧ twI (En ts) (Cn ts) k = none ∧ Below w.heap.size w wr ∧ MapN (.int .i64 0) wr B (dnI ts k) n ts (pI (En ts) k) ∧ Bk w.heap.size wr N [.int .u64 0, .int .u64 0, .int .u64 0, .int .u64 0] 27) (fun iv _ => n - (Go.RowKit.intOf iv).toNat)
  case atStart => exact ⟨0, Nat.zero_le _, rfl, rfl, H1.out.1, H1.out.2.1, H1.out.2.2.1⟩
  case round =>
    obtain ⟨k, hk, rfl, ht, hB, hM, hN⟩ := hrel
    rename World => wr
    have HC : Hid (twI (En ts) (Cn ts) k = none ∧ k ≤ n) := ⟨ht, hk⟩
    have HR : Hid (Below w.heap.size w wr ∧ MapN (.int .i64 0) wr B (dnI ts k) n ts (pI (En ts) k) ∧ Bk w.heap.size wr N [.int .u64 0, .int .u64 0, .int .u64 0, .int .u64 0] 27 ∧ GlobQ wr) := ⟨hB, hM, hN, HS.out.2.call hB⟩
    clear ht hB hM hk hN
    by_cases hlt : k < n
    · clear HKr
      have hlt' : (k : Int) < (n : Int) := Int.ofNat_lt.2 hlt
      have HL : Hid (k < n) := hlt
      obtain ⟨b, o, rfl, hr, hbl⟩ := HS.out.1 k hlt
      have HI : Hid (w.heap.size ≤ B ∧ N ≠ B) := H1.out.2.2.2
      have LE : Hid ((loadVar 54 ⟨b, o + k * 35, none⟩).run Tryd.prog wr = .ok (.agg (tdV (ts k)).toArray) wr) :=
        run_loadVar_mid wr b (o + k * 35) 54 (tdV (ts k)) _ (rangeAt_below hr hbl HR.out.1) Tryd.underlying54 rfl (by kernel_rfl)
      clear hr hlt H1
      go_upto_region 4 with fail
      obtain ⟨W1, A1, hA, hS, hb, hB⟩ := Bk.fresh HR.out.1 (Nat.le_refl _) #[.int .i64 0, .int .u64 0, .int .u64 0, .int .u64 0, .int .u64 0, .int .u64 0, .int .u64 0, .int .u64 0, .int .u64 0, .bool false, .int .u64 0, .int .u64 0, .int .u64 0, .int .u64 0, .int .u64 0, .int .u64 0, .int .u64 0, .int .u64 0, .bool false, .int .u64 0, .int .u64 0, .int .u64 0, .int .u64 0, .int .u64 0, .int .u64 0, .int .u64 0, .int .u64 0, .int .u64 0, .int .u64 0, .int .u64 0, .int .u64 0, .int .u64 0, .int .u64 0, .int .u64 0, .int .u64 0] (tdV (ts k)) 54 (by kernel_rfl) rfl (by kernel_rfl)
      have HA : Hid (A1 = wr.heap.size) := hA
      have HS : Hid _ := hS
      have HB : Hid (Below wr.heap.size wr W1 ∧ Bk w.heap.size W1 A1 (tdV (ts k)) 54) := ⟨hb, hB⟩
      clear hA hS hb hB
      go_upto_region 5 with (first | ((with_reducible refine load_tk (b := b) (k := o + k * 35) (x := 18) ?_ ?_ ?_ LE.out ?_); rfl; rfl; rfl) | ((rw [← HA.out]); ((with_reducible refine store_tk (b := A1) (k := 0) (x := 7) (y := 19) ?_ ?_ ?_ ?_ HS.out ?_); rfl; rfl; rfl; rfl)) | ((with_reducible refine store_tk (b := A1) (k := 0) (x := 7) (y := 19) ?_ ?_ ?_ ?_ HS.out ?_); rfl; rfl; rfl; rfl))
      have H1 : Hid (Below w.heap.size w W1 ∧ MapN (.int .i64 0) W1 B (dnI ts k) n ts (pI (En ts) k) ∧ Bk w.heap.size W1 N [.int .u64 0, .int .u64 0, .int .u64 0, .int .u64 0] 27 ∧ GlobQ W1 ∧ Bk w.heap.size W1 A1 (tdV (ts k)) 54) := ⟨below_call0 HR.out.1 HB.out.1, HR.out.2.1.call HB.out.1, HR.out.2.2.1.call HB.out.1, HR.out.2.2.2.call HB.out.1, HB.out.2⟩
      clear HA HS HB HR
      clear LE
      have KN : Hid (∀ w, Calls Tryd.prog 16 #[.agg (tdV (ts k)).toArray] w fun e w' => e = .returned (.agg (noV (ts k)).toArray) ∧ Below w.heap.size w w') := fun w => nonce_any (ts k) w
      cases ho : (ts k).ok with
      | false =>
        have KS : Hid (∀ w, GlobQ w → Calls Tryd.prog 15 #[.agg (tdV (ts k)).toArray] w fun e w' => e = .returned (.bool false) ∧ Below w.heap.size w w') := fun w h => by
          have q := isOf_any (ts k) (HW.out.1 k HL.out).2 w h
          rw [ho] at q
          exact q
        have L1 : Hid ((loadVar 54 ⟨A1, 0, none⟩).run Tryd.prog W1 = .ok (.agg (tdV (ts k)).toArray) W1) := H1.out.2.2.2.2.load 0 (tdV (ts k)) (by rfl) Tryd.underlying54 rfl (by kernel_rfl)
        go_wp2_with ((with_reducible refine load_tk (b := A1) (k := 0) (x := 7) ?_ ?_ ?_ L1.out ?_); rfl; rfl; rfl)
        refine (KS.out _ H1.out.2.2.2.1).mono ?_
        rintro e w2 ⟨rfl, hb2⟩
        have H2 : Hid (Below w.heap.size w w2 ∧ MapN (.int .i64 0) w2 B (dnI ts k) n ts (pI (En ts) k) ∧ Bk w.heap.size w2 N [.int .u64 0, .int .u64 0, .int .u64 0, .int .u64 0] 27 ∧ GlobQ w2 ∧ Bk w.heap.size w2 A1 (tdV (ts k)) 54) := ⟨below_call0 H1.out.1 hb2, H1.out.2.1.call hb2, H1.out.2.2.1.call hb2, H1.out.2.2.2.1.call hb2, H1.out.2.2.2.2.call hb2⟩
        clear hb2 L1 H1
        go_wp2_with fail
        have HN : Hid (Below w.heap.size w w2 ∧ MapN (.int .i64 0) w2 B (dnI ts (k + 1)) n ts (pI (En ts) (k + 1)) ∧ Bk w.heap.size w2 N [.int .u64 0, .int .u64 0, .int .u64 0, .int .u64 0] 27) := by
          refine ⟨H2.out.1, ?_, H2.out.2.2.1⟩
          rw [dnI_skip ho]
          exact H2.out.2.1.eq fun j hj => pN_skip ho
        go_roundw
        case rel => first | exact ⟨k + 1, HL.out, by go_num, twI_step HC.out.1 (tw_skip ho), HN.out.1, HN.out.2.1, HN.out.2.2⟩ | ((repeat apply Exists.intro); exact ⟨⟨k + 1, HL.out, by go_num, twI_step HC.out.1 (tw_skip ho), HN.out.1, HN.out.2.1, HN.out.2.2⟩, rfl⟩)
        case measure => have := HL.out; simp [Go.RowKit.intOf]; omega
      | true =>
        have KS : Hid (∀ w, GlobQ w → Calls Tryd.prog 15 #[.agg (tdV (ts k)).toArray] w fun e w' => e = .returned (.bool true) ∧ Below w.heap.size w w') := fun w h => by
          have q := isOf_any (ts k) (HW.out.1 k HL.out).2 w h
          rw [ho] at q
          exact q
        have L1 : Hid ((loadVar 54 ⟨A1, 0, none⟩).run Tryd.prog W1 = .ok (.agg (tdV (ts k)).toArray) W1) := H1.out.2.2.2.2.load 0 (tdV (ts k)) (by rfl) Tryd.underlying54 rfl (by kernel_rfl)
        go_wp2_with ((with_reducible refine load_tk (b := A1) (k := 0) (x := 7) ?_ ?_ ?_ L1.out ?_); rfl; rfl; rfl)
        refine (KS.out _ H1.out.2.2.2.1).mono ?_
        rintro e w2 ⟨rfl, hb2⟩
        have H2 : Hid (Below w.heap.size w w2 ∧ MapN (.int .i64 0) w2 B (dnI ts k) n ts (pI (En ts) k) ∧ Bk w.heap.size w2 N [.int .u64 0, .int .u64 0, .int .u64 0, .int .u64 0] 27 ∧ GlobQ w2 ∧ Bk w.heap.size w2 A1 (tdV (ts k)) 54) := ⟨below_call0 H1.out.1 hb2, H1.out.2.1.call hb2, H1.out.2.2.1.call hb2, H1.out.2.2.2.1.call hb2, H1.out.2.2.2.2.call hb2⟩
        clear hb2 L1 H1
        go_upto_region 6 with fail
        clear KS
        have L2 : Hid ((loadVar 54 ⟨A1, 0, none⟩).run Tryd.prog w2 = .ok (.agg (tdV (ts k)).toArray) w2) := H2.out.2.2.2.2.load 0 (tdV (ts k)) (by rfl) Tryd.underlying54 rfl (by kernel_rfl)
        go_wp2_with ((with_reducible refine load_tk (b := A1) (k := 0) (x := 7) ?_ ?_ ?_ L2.out ?_); rfl; rfl; rfl)
        refine (KN.out _).mono ?_
        rintro e w3 ⟨rfl, hb3⟩
        have H3 : Hid (Below w.heap.size w w3 ∧ MapN (.int .i64 0) w3 B (dnI ts k) n ts (pI (En ts) k) ∧ Bk w.heap.size w3 N [.int .u64 0, .int .u64 0, .int .u64 0, .int .u64 0] 27 ∧ GlobQ w3 ∧ Bk w.heap.size w3 A1 (tdV (ts k)) 54) := ⟨below_call0 H2.out.1 hb3, H2.out.2.1.call hb3, H2.out.2.2.1.call hb3, H2.out.2.2.2.1.call hb3, H2.out.2.2.2.2.call hb3⟩
        clear hb3 L2 H2
        cases hf : fstI (En ts) k k with
        | none =>
          have LK : Hid ((Instr.lookup 63 (.map (some B)) (.agg (noV (ts k)).toArray) true).run Tryd.prog w3 = .ok (.tuple #[.int .i64 0, .bool false]) w3) := by
            have h := H3.out.2.1.look Tryd.underlying63 (zeroInt _) HL.out (HW.out.1 k HL.out).1
            unfold pI at h
            rw [hf] at h
            exact h
          go_upto_region 8 with ((with_reducible refine look_tk (ty := 63) (x := .tmp 24) (i := .tmp 26) (xv := .map (some B)) (iv := .agg (noV (ts k)).toArray) (v := .tuple #[.int .i64 0, .bool false]) ?_ ?_ ?_ ?_ LK.out ?_); rfl; rfl; rfl; rfl)
          clear LK
          have L3 : Hid ((loadVar 54 ⟨A1, 0, none⟩).run Tryd.prog w3 = .ok (.agg (tdV (ts k)).toArray) w3) := H3.out.2.2.2.2.load 0 (tdV (ts k)) (by rfl) Tryd.underlying54 rfl (by kernel_rfl)
          go_wp2_with ((with_reducible refine load_tk (b := A1) (k := 0) (x := 7) ?_ ?_ ?_ L3.out ?_); rfl; rfl; rfl)
          refine (KN.out _).mono ?_
          rintro e w4 ⟨rfl, hb4⟩
          have H4 : Hid (Below w.heap.size w w4 ∧ MapN (.int .i64 0) w4 B (dnI ts k) n ts (pI (En ts) k) ∧ Bk w.heap.size w4 N [.int .u64 0, .int .u64 0, .int .u64 0, .int .u64 0] 27 ∧ GlobQ w4 ∧ Bk w.heap.size w4 A1 (tdV (ts k)) 54) := ⟨below_call0 H3.out.1 hb4, H3.out.2.1.call hb4, H3.out.2.2.1.call hb4, H3.out.2.2.2.1.call hb4, H3.out.2.2.2.2.call hb4⟩
          clear hb4 L3 H3
          obtain ⟨W2, hU, hM2, hT⟩ := H4.out.2.1.update (v := .int .i64 (k : Nat)) Tryd.underlying63 (by have := dnI_le ts k; have := HW.out.2; have := HC.out.2; omega) HL.out (fun j hj => (HW.out.1 j hj).1)
          have HU : Hid _ := hU
          have HN : Hid (Below w.heap.size w W2 ∧ MapN (.int .i64 0) W2 B (dnI ts (k + 1)) n ts (pI (En ts) (k + 1)) ∧ Bk w.heap.size W2 N [.int .u64 0, .int .u64 0, .int .u64 0, .int .u64 0] 27) := by
            refine ⟨turned_below H4.out.1 hT HI.out.1, ?_, H4.out.2.2.1.turned hT HI.out.2⟩
            rw [← dnI_pI ho hf]
            exact hM2.eq fun j hj => pN_step ho hf
          clear hU hM2 hT
          go_wp2_with ((with_reducible refine upd_tk (ty := 63) (m := .tmp 32) (i := .tmp 34) (x := .tmp 35) (mv := .map (some B)) (iv := .agg (noV (ts k)).toArray) (xv := .int .i64 (k : Nat)) ?_ ?_ ?_ ?_ ?_ HU.out ?_); rfl; rfl; rfl; rfl; rfl)
          go_roundw
          case rel => first | exact ⟨k + 1, HL.out, by go_num, twI_step HC.out.1 (tw_new hf), HN.out.1, HN.out.2.1, HN.out.2.2⟩ | ((repeat apply Exists.intro); exact ⟨⟨k + 1, HL.out, by go_num, twI_step HC.out.1 (tw_new hf), HN.out.1, HN.out.2.1, HN.out.2.2⟩, rfl⟩)
          case measure => have := HL.out; simp [Go.RowKit.intOf]; omega
        | some i =>
          have LK : Hid ((Instr.lookup 63 (.map (some B)) (.agg (noV (ts k)).toArray) true).run Tryd.prog w3 = .ok (.tuple #[.int .i64 (i : Nat), .bool true]) w3) := by
            have h := H3.out.2.1.look Tryd.underlying63 (zeroInt _) HL.out (HW.out.1 k HL.out).1
            unfold pI at h
            rw [hf] at h
            exact h
          go_upto_region 9 with ((with_reducible refine look_tk (ty := 63) (x := .tmp 24) (i := .tmp 26) (xv := .map (some B)) (iv := .agg (noV (ts k)).toArray) (v := .tuple #[.int .i64 (i : Nat), .bool true]) ?_ ?_ ?_ ?_ LK.out ?_); rfl; rfl; rfl; rfl)
          clear LK
          obtain ⟨hik, -, -⟩ := fstI_some hf
          have hin : i < n := Nat.lt_trans hik HL.out
          have hin' : (i : Int) < (n : Int) := Int.ofNat_lt.2 hin
          have HJ : Hid (i < n) := hin
          obtain ⟨b', o', e', hr, hbl'⟩ := HS.out.1 i hin
          obtain ⟨rfl, rfl⟩ : b = b' ∧ o = o' := by
            injection e' with e'
            injection e' with e1 e2
            exact ⟨e1, e2⟩
          have LC : Hid (∀ w', Below w3.heap.size w3 w' → (loadVar 54 ⟨b, o + i * 35, none⟩).run Tryd.prog w' = .ok (.agg (tdV (ts i)).toArray) w') := fun w' hb =>
            run_loadVar_mid w' b (o + i * 35) 54 (tdV (ts i)) _ (rangeAt_below hr hbl' (below_call0 H3.out.1 hb)) Tryd.underlying54 rfl (by kernel_rfl)
          clear hr e' hbl' hin hik
          cases hc : Cn ts i k
          · have hcf : cfI (En ts) (Cn ts) i k = true := by
              unfold cfI
              rw [(fstI_some hf).2.1, hc]
              rfl
            have htw : twI (En ts) (Cn ts) n = some (i, k) := twI_some HL.out HC.out.1 (tw_other hf hc)
            obtain rfl : A = (ts k).n := by rw [HA.out.1, htw]; rfl
            obtain rfl : C = true := by rw [HA.out.2.2, htw]; rfl
            have KL : Hid (∀ w, GlobQ w → Calls Tryd.prog 14 #[.agg (tdV (ts i)).toArray, .agg (tdV (ts k)).toArray] w fun e w' => e = .returned (.tuple #[.agg (nuV X).toArray, .int .i64 0]) ∧ Below w.heap.size w w') := fun w h => leak_any (ts i) (ts k) X 0 (HW.out.1 i HJ.out).2 (HW.out.1 k HL.out).2 (lk_hit hcf).symm (by rw [HA.out.2.1, htw]; rfl) w h
            clear htw hcf
            refine wp_region_S 11 0 10 (OwL [isV (.slice (some ⟨b, o, none⟩) n cap), isV (.int .i64 (i : Nat)), isV (.pointer (some ⟨b, o + i * 35, none⟩)), isV (.agg (tdV (ts i)).toArray), isV (.agg (tdV (ts k)).toArray), isV (.tuple #[.agg (nuV X).toArray, .int .i64 0]), isV (.tuple #[.agg (nuV X).toArray, .int .i64 0]), isV (.agg (nuV X).toArray), isV (.int .i64 0), isB (w3.heap.size) [.int .u64 0, .int .u64 0, .int .u64 0, .int .u64 0] (nuV X) 27, isT]) [some 37, some 38, some 39, some 40, some 41, some 42, some 36, some 43, some 44, some 10, none] [0, 1, 2, 3, 4, 5, 6, 7, 8, 9, 10] ?Ag9_9 ?osg9_9 (by kernel_rfl) (by kernel_rfl) (by kernel_rfl) (by kernel_rfl) ?hosg9_9 (by decide) ?hAg9_9 (OwL.call (pers_cons (pers_V _) (pers_cons (pers_V _) (pers_cons (pers_V _) (pers_cons (pers_V _) (pers_cons (pers_V _) (pers_cons (pers_V _) (pers_cons (pers_V _) (pers_cons (pers_V _) (pers_cons (pers_V _) (pers_cons (pers_B _ _ _ _) (pers_cons (pers_T) (pers_nil))))))))))))) ?hopg9_9 ?hstg9_9 ?hfing9_9
            case hosg9_9 =>
              rw [List.getElem?_toArray]
              exact rfl
            case hAg9_9 =>
              intro v
              simp only [List.map_cons, List.map_nil, List.zip_cons_cons, List.zip_nil_right, fillD, Act.put, List.setIfInBounds_toArray, List.set_cons_zero, List.set_cons_succ]
              exact rfl
            case hopg9_9 =>
              refine ⟨?_, ?_, ?_, ?_, ?_, ?_, ?_, ?_, ?_, ?_, fun _ h => absurd rfl h, fun h => absurd h (by decide), trivial⟩
              focus (intro _ _ s v wx hs hS hd; refine OpTo.does rfl ?_ rfl (Below.refl _ _); clear hd hs hS; go_simp; try with_reducible rfl)
              focus (intro _ _ s v wx hs hS hd; refine OpTo.does rfl ?_ rfl (Below.refl _ _); clear hd hs hS; go_simp; try with_reducible rfl)
              focus (intro _ _ s v wx hs hS hd; refine OpTo.does rfl ?_ rfl (Below.refl _ _); have d0 : v 0 = .slice (some ⟨b, o, none⟩) n cap := hd 0 (by kernel_rfl); have d1 : v 1 = .int .i64 (i : Nat) := hd 1 (by kernel_rfl); simp only [d0, d1]; clear hd hs hS; go_simp; try with_reducible rfl)
              focus (intro _ _ s v wx hs hS hd; exact OpTo.does rfl (exec_loadK (b := b) (k := o + i * 35) (x := 39) rfl (hd 2 (by kernel_rfl)) (LC.out _ hS)) rfl (Below.refl _ _))
              focus (intro _ _ s v wx hs hS hd; exact OpTo.does rfl (exec_loadK (b := A1) (k := 0) (x := 7) rfl (rfl) ((H3.out.2.2.2.2.call hS).load 0 (tdV (ts k)) (by rfl) Tryd.underlying54 rfl (by kernel_rfl))) rfl (Below.refl _ _))
              focus (intro _ _ s v wx hs hS hd; obtain rfl := hs (by kernel_rfl); refine OpTo.asks rfl (fun _ => rfl) (fun K hK => ?_); have d3 : v 3 = .agg (tdV (ts i)).toArray := hd 3 (by kernel_rfl); have d4 : v 4 = .agg (tdV (ts k)).toArray := hd 4 (by kernel_rfl); simp only [d3, d4] at hK ⊢; go_simp; refine (KL.out _ (H3.out.2.2.2.1.call hS)).mono ?_; rintro e w' ⟨rfl, hq⟩; exact hK _ w' (rfl) hq)
              focus (intro _ _ s v wx hs hS hd; refine OpTo.does rfl ?_ rfl (Below.refl _ _); have d5 : v 5 = .tuple #[.agg (nuV X).toArray, .int .i64 0] := hd 5 (by kernel_rfl); simp only [d5]; clear hd hs hS; go_simp; try with_reducible rfl)
              focus (intro _ _ s v wx hs hS hd; refine OpTo.does rfl ?_ rfl (Below.refl _ _); have d6 : v 6 = .tuple #[.agg (nuV X).toArray, .int .i64 0] := hd 6 (by kernel_rfl); simp only [d6]; clear hd hs hS; go_simp; try with_reducible rfl)
              focus (intro _ _ s v wx hs hS hd; refine OpTo.does rfl ?_ rfl (Below.refl _ _); have d6 : v 6 = .tuple #[.agg (nuV X).toArray, .int .i64 0] := hd 6 (by kernel_rfl); simp only [d6]; clear hd hs hS; go_simp; try with_reducible rfl)
              focus (intro _ _ s v wx hs hS hd; refine OpTo.does (y := .pointer (some ⟨wx.heap.size, 0, none⟩)) (w1 := wx.alloc (.cells ([.int .u64 0, .int .u64 0, .int .u64 0, .int .u64 0] : List Value).toArray 27)) rfl ?_ ⟨_, rfl, hS.size, ?_⟩ (below_alloc0 (Below.refl _ _) _); (focus (go_simp; try rfl)); (rw [hs (by kernel_rfl)]; exact heap_alloc_last wx _))
            case hstg9_9 =>
              intro v wx hS hd
              have dy : v 7 = .agg (nuV X).toArray := hd 7 (by kernel_rfl)
              obtain ⟨b, e0, hz, hB⟩ := hd 9 (by kernel_rfl)
              refine OpTo.imp (OpTo.stores (w1 := wx.setRow b (nuV X).toArray) (v := undef) (R := fun w' => w' = wx.setRow b (nuV X).toArray) rfl (exec_storeK (b := b) (x := 10) (y := 43) rfl (by exact e0) (by exact dy) (run_storeVar_row wx b 27 27 _ (nuV X).toArray hB (by kernel_rfl) rfl (by kernel_rfl))) rfl rfl) ?_
              rintro x w' ⟨hx, rfl⟩
              refine ⟨undef, hx, trivial, below_setRowK hz _ hS, fun j hj => ?_⟩
              match j, hj with
              | 0, h => exact h
              | 1, h => exact h
              | 2, h => exact h
              | 3, h => exact h
              | 4, h => exact h
              | 5, h => exact h
              | 6, h => exact h
              | 7, h => exact h
              | 8, h => exact h
              | 9, _ => exact ⟨b, e0, hz, setRow_heap wx b _ _ _ _ hB⟩
              | 10, h => exact h
              | _ + 11, _ => exact trivial
            intro v w4 hS hd
            have d8 : v 8 = .int .i64 0 := hd 8 (by decide)
            obtain ⟨A4, e0, hz, hB⟩ := hd 9 (by decide)
            simp only [d8, e0]
            refine tail_at (o := ?otg9_911) ?hitg9_911 ?hwtg9_911 ?_
            case hitg9_911 => rw [List.getElem?_toArray]; exact rfl
            case hwtg9_911 => exact rfl
            go_simp
            refine tail_end ?_
            have H4 : Hid (Below w.heap.size w w4 ∧ MapN (.int .i64 0) w4 B (dnI ts k) n ts (pI (En ts) k) ∧ Bk w.heap.size w4 N [.int .u64 0, .int .u64 0, .int .u64 0, .int .u64 0] 27 ∧ GlobQ w4 ∧ Bk w.heap.size w4 A1 (tdV (ts k)) 54 ∧ Bk w.heap.size w4 A4 (nuV X) 27) := ⟨below_call0 H3.out.1 hS, H3.out.2.1.call hS, H3.out.2.2.1.call hS, H3.out.2.2.2.1.call hS, H3.out.2.2.2.2.call hS, ⟨Nat.le_trans H3.out.1.size hz, hB⟩⟩
            clear hS hd hB hz d8 e0 H3
            go_upto_region 10 with fail
            go_upto_region 11 with fail
            refine wp_region_P 5 1 (OwL [isV (.pointer (some ⟨A1, 0, none⟩)), isV (.pointer (some ⟨A1, 0, none⟩)), isV (.int .i64 (ts k).n), isV (.agg (nuV X).toArray), isV (.int .i64 (ts k).n)] false) [some 47, some 48, some 49, some 50, some 2] [0, 1, 2, 3, 4] ?Ag11_10 (by kernel_rfl) (by kernel_rfl) (by kernel_rfl) (by decide) ?hAg11_10 (OwL.call (pers_cons (pers_V _) (pers_cons (pers_V _) (pers_cons (pers_V _) (pers_cons (pers_V _) (pers_cons (pers_V _) (pers_nil)))))) false) ?hopg11_10 ?hfing11_10
            case hAg11_10 =>
              intro v
              simp only [List.map_cons, List.map_nil, List.zip_cons_cons, List.zip_nil_right, fillD, Act.put, List.setIfInBounds_toArray, List.set_cons_zero, List.set_cons_succ]
              exact rfl
            case hopg11_10 =>
              refine ⟨?_, ?_, ?_, ?_, ?_, fun h => absurd h (by decide), fun h => absurd h (by decide), trivial⟩
              focus (intro _ v wx hS hd; refine OpTo.does rfl ?_ rfl (Below.refl _ _); clear hd hS; go_simp; try with_reducible rfl)
              focus (intro _ v wx hS hd; refine OpTo.does rfl ?_ rfl (Below.refl _ _); have d0 : v 0 = .pointer (some ⟨A1, 0, none⟩) := hd 0 (by kernel_rfl); simp only [d0]; clear hd hS; go_simp; try with_reducible rfl)
              focus (intro _ v wx hS hd; have c0 := (H4.out.2.2.2.2.1.call hS).cell 0 _ rfl; refine OpTo.does rfl ?_ rfl (Below.refl _ _); have d1 : v 1 = .pointer (some ⟨A1, 0, none⟩) := hd 1 (by kernel_rfl); simp only [d1]; clear hd hS; go_simp; try with_reducible rfl)
              focus (intro _ v wx hS hd; exact OpTo.does rfl (exec_loadK (b := A4) (k := 0) (x := 10) rfl (rfl) ((H4.out.2.2.2.2.2.call hS).load 0 (nuV X) (by rfl) Tryd.underlying27 rfl (by kernel_rfl))) rfl (Below.refl _ _))
              focus (intro _ v wx hS hd; refine OpTo.does rfl ?_ rfl (Below.refl _ _); have d2 : v 2 = .int .i64 (ts k).n := hd 2 (by kernel_rfl); simp only [d2]; clear hd hS; go_simp; try with_reducible rfl)
            intro v w5 hS hd
            have d3 : v 3 = .agg (nuV X).toArray := hd 3 (by decide)
            have d4 : v 4 = .int .i64 (ts k).n := hd 4 (by decide)
            simp only [d3, d4]
            obtain ⟨W6, hT, hb2, hB2⟩ := Bk.put (H4.out.2.2.1.call hS) (below_call0 H4.out.1 hS) (nuV X) (by kernel_rfl) rfl (by kernel_rfl)
            refine tail_at (o := ?ozg11_10) ?hizg11_10 ?hwzg11_10 ?_
            case hizg11_10 => rw [List.getElem?_toArray]; exact rfl
            case hwzg11_10 => exact rfl
            refine act_storeK (b := N) (k := 0) (x := 3) (y := 50) rfl rfl rfl hT ?_
            try simp only [Act.put]
            refine tail_at (o := ?otg11_106) ?hitg11_106 ?hwtg11_106 ?_
            case hitg11_106 => rw [List.getElem?_toArray]; exact rfl
            case hwtg11_106 => exact rfl
            go_simp
            refine tail_end ?_
            have H5 : Hid (Below w.heap.size w W6 ∧ Bk w.heap.size W6 N (nuV X) 27) := ⟨hb2, hB2⟩
            clear hS hd hT hb2 hB2 d3 d4 H4
            go_wp2_with fail
            have hld1 : (loadVar 27 ⟨N, 0, none⟩).run Tryd.prog W6 = .ok (.agg (nuV X).toArray) W6 := H5.out.2.load 0 (nuV X) (by rfl) Tryd.underlying27 rfl (by kernel_rfl)
            refine bodyPost_ret (v := .tuple #[.int .i64 (ts k).n, .agg (nuV X).toArray, .bool true]) ?_ rfl ⟨rfl, H5.out.1⟩
            simp [results, Tryd.results11, asAddr, hld1]
          · have hcf : cfI (En ts) (Cn ts) i k = false := by
              unfold cfI
              rw [hc]
              simp
            obtain ⟨E, hE⟩ : ∃ E, E = lkE (ts i) (ts k) := ⟨_, rfl⟩
            obtain ⟨r, hr⟩ : ∃ r, r = lkN (ts i) (ts k) := ⟨_, rfl⟩
            have hne : ¬ E = 0 := by
              rw [hE]
              exact lk_not hcf
            have KL : Hid (∀ w, GlobQ w → Calls Tryd.prog 14 #[.agg (tdV (ts i)).toArray, .agg (tdV (ts k)).toArray] w fun e w' => e = .returned (.tuple #[.agg (nuV r).toArray, .int .i64 E]) ∧ Below w.heap.size w w') := fun w h => leak_any (ts i) (ts k) r E (HW.out.1 i HJ.out).2 (HW.out.1 k HL.out).2 hE hr w h
            clear hcf hE hr
            refine wp_region_S 11 0 10 (OwL [isV (.slice (some ⟨b, o, none⟩) n cap), isV (.int .i64 (i : Nat)), isV (.pointer (some ⟨b, o + i * 35, none⟩)), isV (.agg (tdV (ts i)).toArray), isV (.agg (tdV (ts k)).toArray), isV (.tuple #[.agg (nuV r).toArray, .int .i64 E]), isV (.tuple #[.agg (nuV r).toArray, .int .i64 E]), isV (.agg (nuV r).toArray), isV (.int .i64 E), isB (w3.heap.size) [.int .u64 0, .int .u64 0, .int .u64 0, .int .u64 0] (nuV r) 27, isT]) [some 37, some 38, some 39, some 40, some 41, some 42, some 36, some 43, some 44, some 10, none] [0, 1, 2, 3, 4, 5, 6, 7, 8, 9, 10] ?Ag9_11 ?osg9_11 (by kernel_rfl) (by kernel_rfl) (by kernel_rfl) (by kernel_rfl) ?hosg9_11 (by decide) ?hAg9_11 (OwL.call (pers_cons (pers_V _) (pers_cons (pers_V _) (pers_cons (pers_V _) (pers_cons (pers_V _) (pers_cons (pers_V _) (pers_cons (pers_V _) (pers_cons (pers_V _) (pers_cons (pers_V _) (pers_cons (pers_V _) (pers_cons (pers_B _ _ _ _) (pers_cons (pers_T) (pers_nil))))))))))))) ?hopg9_11 ?hstg9_11 ?hfing9_11
            case hosg9_11 =>
              rw [List.getElem?_toArray]
              exact rfl
            case hAg9_11 =>
              intro v
              simp only [List.map_cons, List.map_nil, List.zip_cons_cons, List.zip_nil_right, fillD, Act.put, List.setIfInBounds_toArray, List.set_cons_zero, List.set_cons_succ]
              exact rfl
            case hopg9_11 =>
              refine ⟨?_, ?_, ?_, ?_, ?_, ?_, ?_, ?_, ?_, ?_, fun _ h => absurd rfl h, fun h => absurd h (by decide), trivial⟩
              focus (intro _ _ s v wx hs hS hd; refine OpTo.does rfl ?_ rfl (Below.refl _ _); clear hd hs hS; go_simp; try with_reducible rfl)
              focus (intro _ _ s v wx hs hS hd; refine OpTo.does rfl ?_ rfl (Below.refl _ _); clear hd hs hS; go_simp; try with_reducible rfl)
              focus (intro _ _ s v wx hs hS hd; refine OpTo.does rfl ?_ rfl (Below.refl _ _); have d0 : v 0 = .slice (some ⟨b, o, none⟩) n cap := hd 0 (by kernel_rfl); have d1 : v 1 = .int .i64 (i : Nat) := hd 1 (by kernel_rfl); simp only [d0, d1]; clear hd hs hS; go_simp; try with_reducible rfl)
              focus (intro _ _ s v wx hs hS hd; exact OpTo.does rfl (exec_loadK (b := b) (k := o + i * 35) (x := 39) rfl (hd 2 (by kernel_rfl)) (LC.out _ hS)) rfl (Below.refl _ _))
              focus (intro _ _ s v wx hs hS hd; exact OpTo.does rfl (exec_loadK (b := A1) (k := 0) (x := 7) rfl (rfl) ((H3.out.2.2.2.2.call hS).load 0 (tdV (ts k)) (by rfl) Tryd.underlying54 rfl (by kernel_rfl))) rfl (Below.refl _ _))
              focus (intro _ _ s v wx hs hS hd; obtain rfl := hs (by kernel_rfl); refine OpTo.asks rfl (fun _ => rfl) (fun K hK => ?_); have d3 : v 3 = .agg (tdV (ts i)).toArray := hd 3 (by kernel_rfl); have d4 : v 4 = .agg (tdV (ts k)).toArray := hd 4 (by kernel_rfl); simp only [d3, d4] at hK ⊢; go_simp; refine (KL.out _ (H3.out.2.2.2.1.call hS)).mono ?_; rintro e w' ⟨rfl, hq⟩; exact hK _ w' (rfl) hq)
              focus (intro _ _ s v wx hs hS hd; refine OpTo.does rfl ?_ rfl (Below.refl _ _); have d5 : v 5 = .tuple #[.agg (nuV r).toArray, .int .i64 E] := hd 5 (by kernel_rfl); simp only [d5]; clear hd hs hS; go_simp; try with_reducible rfl)
              focus (intro _ _ s v wx hs hS hd; refine OpTo.does rfl ?_ rfl (Below.refl _ _); have d6 : v 6 = .tuple #[.agg (nuV r).toArray, .int .i64 E] := hd 6 (by kernel_rfl); simp only [d6]; clear hd hs hS; go_simp; try with_reducible rfl)
              focus (intro _ _ s v wx hs hS hd; refine OpTo.does rfl ?_ rfl (Below.refl _ _); have d6 : v 6 = .tuple #[.agg (nuV r).toArray, .int .i64 E] := hd 6 (by kernel_rfl); simp only [d6]; clear hd hs hS; go_simp; try with_reducible rfl)
              focus (intro _ _ s v wx hs hS hd; refine OpTo.does (y := .pointer (some ⟨wx.heap.size, 0, none⟩)) (w1 := wx.alloc (.cells ([.int .u64 0, .int .u64 0, .int .u64 0, .int .u64 0] : List Value).toArray 27)) rfl ?_ ⟨_, rfl, hS.size, ?_⟩ (below_alloc0 (Below.refl _ _) _); (focus (go_simp; try rfl)); (rw [hs (by kernel_rfl)]; exact heap_alloc_last wx _))
            case hstg9_11 =>
              intro v wx hS hd
              have dy : v 7 = .agg (nuV r).toArray := hd 7 (by kernel_rfl)
              obtain ⟨b, e0, hz, hB⟩ := hd 9 (by kernel_rfl)
              refine OpTo.imp (OpTo.stores (w1 := wx.setRow b (nuV r).toArray) (v := undef) (R := fun w' => w' = wx.setRow b (nuV r).toArray) rfl (exec_storeK (b := b) (x := 10) (y := 43) rfl (by exact e0) (by exact dy) (run_storeVar_row wx b 27 27 _ (nuV r).toArray hB (by kernel_rfl) rfl (by kernel_rfl))) rfl rfl) ?_
              rintro x w' ⟨hx, rfl⟩
              refine ⟨undef, hx, trivial, below_setRowK hz _ hS, fun j hj => ?_⟩
              match j, hj with
              | 0, h => exact h
              | 1, h => exact h
              | 2, h => exact h
              | 3, h => exact h
              | 4, h => exact h
              | 5, h => exact h
              | 6, h => exact h
              | 7, h => exact h
              | 8, h => exact h
              | 9, _ => exact ⟨b, e0, hz, setRow_heap wx b _ _ _ _ hB⟩
              | 10, h => exact h
              | _ + 11, _ => exact trivial
            intro v w4 hS hd
            have d8 : v 8 = .int .i64 E := hd 8 (by decide)
            obtain ⟨A4, e0, hz, hB⟩ := hd 9 (by decide)
            simp only [d8, e0]
            refine tail_at (o := ?otg9_1111) ?hitg9_1111 ?hwtg9_1111 ?_
            case hitg9_1111 => rw [List.getElem?_toArray]; exact rfl
            case hwtg9_1111 => exact rfl
            go_simp
            refine tail_end ?_
            have H4 : Hid (Below w.heap.size w w4 ∧ MapN (.int .i64 0) w4 B (dnI ts k) n ts (pI (En ts) k) ∧ Bk w.heap.size w4 N [.int .u64 0, .int .u64 0, .int .u64 0, .int .u64 0] 27 ∧ GlobQ w4 ∧ Bk w.heap.size w4 A1 (tdV (ts k)) 54 ∧ Bk w.heap.size w4 A4 (nuV r) 27) := ⟨below_call0 H3.out.1 hS, H3.out.2.1.call hS, H3.out.2.2.1.call hS, H3.out.2.2.2.1.call hS, H3.out.2.2.2.2.call hS, ⟨Nat.le_trans H3.out.1.size hz, hB⟩⟩
            clear hS hd hB hz d8 e0 H3
            go_upto_region 10 with fail
            go_wp2_with fail
            have HN : Hid (Below w.heap.size w w4 ∧ MapN (.int .i64 0) w4 B (dnI ts (k + 1)) n ts (pI (En ts) (k + 1)) ∧ Bk w.heap.size w4 N [.int .u64 0, .int .u64 0, .int .u64 0, .int .u64 0] 27) := by
              refine ⟨H4.out.1, ?_, H4.out.2.2.1⟩
              rw [dnI_same hf]
              exact H4.out.2.1.eq fun j hj => pN_same ho hf
            go_roundw
            case rel => first | exact ⟨k + 1, HL.out, by go_num, twI_step HC.out.1 (tw_sameO HC.out.1 hf hc), HN.out.1, HN.out.2.1, HN.out.2.2⟩ | ((repeat apply Exists.intro); exact ⟨⟨k + 1, HL.out, by go_num, twI_step HC.out.1 (tw_sameO HC.out.1 hf hc), HN.out.1, HN.out.2.1, HN.out.2.2⟩, rfl⟩)
            case measure => have := HL.out; simp [Go.RowKit.intOf]; omega
    · obtain rfl : k = n := by have := HC.out.2; omega
      have hnl : ¬ ((k : Int) < (k : Int)) := Int.lt_irrefl _
      clear hlt
      obtain rfl : A = 0 := by rw [HA.out.1, HC.out.1]; rfl
      obtain rfl : X = 0 := by rw [HA.out.2.1, HC.out.1]; rfl
      obtain rfl : C = false := by rw [HA.out.2.2, HC.out.1]; rfl
      go_wp2_with fail
      refine HKr.out _ _ ?_
      clear HKr
      go_upto_region 13 with fail
      have Q1 : Hid (∀ w, (Instr.build 27 #[]).run Tryd.prog w = .ok (.agg (nuV 0).toArray) w) := fun _ => by kernel_rfl
      obtain ⟨W1, hS, hb, hB⟩ := HR.out.2.2.1.put HR.out.1 (nuV 0) (by kernel_rfl) rfl (by kernel_rfl)
      have HS : Hid _ := hS
      have HB : Hid (Below w.heap.size w W1 ∧ Bk w.heap.size W1 N (nuV 0) 27) := ⟨hb, hB⟩
      clear hS hb hB
      go_wp2_with (first | ((with_reducible refine build_tk (ty := 27) (parts := #[]) (ps := #[]) (vs := (nuV 0).toArray) ?_ ?_ ?_ (Q1.out _) ?_); rfl; rfl; (simp only [List.map_toArray, List.map_nil]; rfl)) | ((with_reducible refine store_tk (b := N) (k := 0) (x := 3) (y := 52) ?_ ?_ ?_ ?_ HS.out ?_); rfl; rfl; rfl; rfl))
      have H1 : Hid (Below w.heap.size w W1 ∧ Bk w.heap.size W1 N (nuV 0) 27) := ⟨HB.out.1, HB.out.2⟩
      clear HS HB Q1 HR
      have hld1 : (loadVar 27 ⟨N, 0, none⟩).run Tryd.prog W1 = .ok (.agg (nuV 0).toArray) W1 := H1.out.2.load 0 (nuV 0) (by rfl) Tryd.underlying27 rfl (by kernel_rfl)
      refine bodyPost_ret (v := .tuple #[.int .i64 0, .agg (nuV 0).toArray, .bool false]) ?_ rfl ⟨rfl, H1.out.1⟩
      simp [results, Tryd.results11, asAddr, hld1]
end Go.Proofs.YtbpgiijdcagckaaDoor
