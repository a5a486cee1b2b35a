/- Package audit: Distinct. -/
import Derived.Test.YtbpgiijdcagckaaDoorTwT
import Derived.Deep.Cut
namespace Go.Proofs.YtbpgiijdcagckaaDoor
open Go Go.RowKit Go.Lib
def pS (E : Nat → Nat → Bool) (k j : Nat) : Option Value := (fstI E j k).map fun _ => .agg #[]
theorem zeroUnit (w : World) : (zeroValue 62).run Tryd.prog w = .ok (.agg #[]) w := by kernel_rfl
theorem pS_step (ts : Nat → Td) (k j : Nat) : pS (Ep ts) (k + 1) j = if eqPr (ts k) (ts j) = true then some (.agg #[]) else pS (Ep ts) k j := by
  unfold pS
  rw [fstI_succ]
  cases fstI (Ep ts) j k with
  | some i =>
    show some (Value.agg #[]) = if eqPr (ts k) (ts j) = true then some (.agg #[]) else some (.agg #[])
    split <;> rfl
  | none =>
    show (if eqPr (ts k) (ts j) = true then some k else none).map (fun _ => Value.agg #[]) = if eqPr (ts k) (ts j) = true then some (.agg #[]) else none
    split <;> rfl
theorem dsI_pS (E : Nat → Nat → Bool) (k : Nat) : (if (pS E k k).isSome then dsI E k else dsI E k + 1) = dsI E (k + 1) := by
  cases h : fstI E k k with
  | none =>
    have e : pS E k k = none := by
      unfold pS
      rw [h]
      rfl
    rw [e, dsI_new h]
    rfl
  | some i =>
    have e : pS E k k = some (.agg #[]) := by
      unfold pS
      rw [h]
      rfl
    rw [e, dsI_same h]
    rfl
set_option maxRecDepth 100000 in
set_option maxHeartbeats 4000000 in
theorem distinct_any (a : Option Addr) (n cap : Nat) (ts : Nat → Td) (hn : n ≤ 200) (hW : ∀ j, j < n → (ts j).W) (w : World) (hS : EmsAt w a n ts) : Calls Tryd.prog 9 #[.slice a n cap] w fun e w' => e = .returned (.int .i64 (dsI (Ep ts) n : Nat)) ∧ Below w.heap.size w w' := by
  have HW : Hid ((∀ j, j < n → (ts j).W) ∧ n ≤ 200) := ⟨hW, hn⟩
  have HS : Hid (EmsAt w a n ts) := hS
  have n64 : (n : Int) ≤ 200 := by omega
  clear hW hn hS
  have hmk : ∀ w : World, (Instr.makeMap 61 none).run Tryd.prog w = .ok (.map (some w.heap.size)) (w.alloc (.map #[] 0)) := fun w => by kernel_rfl
  go_enter Tryd.func9, Tryd.ntmps9
  go_upto_region 2 with fail
  clear hmk
  obtain ⟨B, hB⟩ : ∃ B, B = w.heap.size := ⟨_, rfl⟩
  obtain ⟨W0, hW0⟩ : ∃ W, W = w.alloc (.map #[] 0) := ⟨_, rfl⟩
  have H0 : Hid (Below w.heap.size w W0 ∧ MapE (.agg #[]) W0 B 0 n ts (fun _ => none) ∧ w.heap.size ≤ B) := by
    rw [hW0, hB]
    exact ⟨below_alloc0 (Below.refl _ _) _, MapE.made _ _ _ _, Nat.le_refl _⟩
  rw [← hW0, ← hB]
  clear hW0 hB
  go_wp2_with fail
  rename_i Kr hKr
  have HKr : Hid _ := hKr
  clear hKr
  go_loopw [9] (fun iv wr => ∃ k : Nat, k ≤ n ∧ iv = .int .i64 (k : Nat) ∧ Below w.heap.size w wr ∧ MapE (.agg #[]) wr B (dsI (Ep ts) k) n ts (pS (Ep ts) k)) (fun iv _ => n - (Go.RowKit.intOf iv).toNat)
  case atStart => exact ⟨0, Nat.zero_le _, rfl, H0.out.1, H0.out.2.1⟩
  case round =>
    obtain ⟨k, hk, rfl, hB, hM⟩ := hrel
    rename World => wr
    have HC : Hid (k ≤ n) := hk
    have HR : Hid (Below w.heap.size w wr ∧ MapE (.agg #[]) wr B (dsI (Ep ts) k) n ts (pS (Ep ts) k)) := ⟨hB, hM⟩
    clear hB hM hk
    by_cases hlt : k < n
    · clear HKr
      have hlt' : (k : Int) < (n : Int) := Int.ofNat_lt.2 hlt
      have HL : Hid (k < n) := hlt
      obtain ⟨b, o, rfl, hr, hbl⟩ := HS.out k hlt
      have LE : Hid ((loadVar 33 ⟨b, o + k * 23, none⟩).run Tryd.prog wr = .ok (.agg (emV (ts k)).toArray) wr) :=
        run_loadVar_mid wr b (o + k * 23) 33 (emV (ts k)) _ (rangeAt_below hr hbl HR.out.1) Tryd.underlying33 rfl (by kernel_rfl)
      clear hr hlt
      go_upto_region 4 with fail
      obtain ⟨W1, A1, hA, hS, hb, hB⟩ := Bk.fresh HR.out.1 (Nat.le_refl _) #[.int .i64 0, .int .u64 0, .int .u64 0, .int .u64 0, .int .u64 0, .int .u64 0, .int .u64 0, .int .u64 0, .int .u64 0, .bool false, .int .u64 0, .int .u64 0, .int .u64 0, .int .u64 0, .int .u64 0, .int .u64 0, .int .u64 0, .int .u64 0, .bool false, .int .u64 0, .int .u64 0, .int .u64 0, .int .u64 0] (emV (ts k)) 33 (by kernel_rfl) rfl (by kernel_rfl)
      have HA : Hid (A1 = wr.heap.size) := hA
      have HS : Hid _ := hS
      have HB : Hid (Below wr.heap.size wr W1 ∧ Bk w.heap.size W1 A1 (emV (ts k)) 33) := ⟨hb, hB⟩
      clear hA hS hb hB
      go_upto_region 5 with (first | ((with_reducible refine load_tk (b := b) (k := o + k * 23) (x := 11) ?_ ?_ ?_ LE.out ?_); rfl; rfl; rfl) | ((rw [← HA.out]); ((with_reducible refine store_tk (b := A1) (k := 0) (x := 5) (y := 12) ?_ ?_ ?_ ?_ HS.out ?_); rfl; rfl; rfl; rfl)) | ((with_reducible refine store_tk (b := A1) (k := 0) (x := 5) (y := 12) ?_ ?_ ?_ ?_ HS.out ?_); rfl; rfl; rfl; rfl))
      have H1 : Hid (Below w.heap.size w W1 ∧ MapE (.agg #[]) W1 B (dsI (Ep ts) k) n ts (pS (Ep ts) k) ∧ Bk w.heap.size W1 A1 (emV (ts k)) 33) := ⟨below_call0 HR.out.1 HB.out.1, HR.out.2.call HB.out.1, HB.out.2⟩
      clear HA HS HB HR
      obtain ⟨W2, hU, hM2, hT⟩ := H1.out.2.1.update (v := .agg #[]) Tryd.underlying61 (by have := dsI_le (Ep ts) k; have := HW.out.2; have := HC.out; omega) HL.out HW.out.1
      have HU : Hid _ := hU
      have HN : Hid (Below w.heap.size w W2 ∧ MapE (.agg #[]) W2 B (dsI (Ep ts) (k + 1)) n ts (pS (Ep ts) (k + 1))) := by
        refine ⟨turned_below H1.out.1 hT H0.out.2.2, ?_⟩
        rw [← dsI_pS (Ep ts) k]
        exact hM2.eq fun j hj => pS_step ts k j
      clear hU hM2 hT
      have L1 : Hid ((loadVar 31 ⟨A1, 0, none⟩).run Tryd.prog W1 = .ok (.agg (prV (ts k)).toArray) W1) := H1.out.2.2.load 0 (prV (ts k)) (by rfl) Tryd.underlying31 rfl (by kernel_rfl)
      go_wp2_with (first | ((with_reducible refine upd_tk (ty := 61) (m := .tmp 13) (i := .tmp 15) (x := .tmp 16) (mv := .map (some B)) (iv := .agg (prV (ts k)).toArray) (xv := .agg #[]) ?_ ?_ ?_ ?_ ?_ HU.out ?_); rfl; rfl; rfl; rfl; rfl) | ((with_reducible refine load_tk (b := A1) (k := 0) (x := 14) ?_ ?_ ?_ L1.out ?_); rfl; rfl; rfl))
      clear L1
      go_roundw
      case rel => first | exact ⟨k + 1, HL.out, by go_num, HN.out.1, HN.out.2⟩ | ((repeat apply Exists.intro); exact ⟨⟨k + 1, HL.out, by go_num, HN.out.1, HN.out.2⟩, rfl⟩)
      case measure => have := HL.out; simp [Go.RowKit.intOf]; omega
    · obtain rfl : k = n := by have := HC.out; omega
      have hnl : ¬ ((k : Int) < (k : Int)) := Int.lt_irrefl _
      have hlen : ∀ ty, (Builtin.len_ #[61] ty #[.map (some B)]).run Tryd.prog wr = .ok (.int .i64 (dsI (Ep ts) k : Nat)) wr := fun ty => HR.out.2.len Tryd.underlying61 ty
      clear hlt
      go_wp2_with fail
      refine HKr.out _ _ ?_
      clear HKr
      go_wp2_with fail
      go_ret
      exact ⟨rfl, HR.out.1⟩
end Go.Proofs.YtbpgiijdcagckaaDoor
