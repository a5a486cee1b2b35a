/- Package signer: one that is none, or has issued nothing: Issue, Sign, Spent, Issued. -/
import Derived.Test.YtgkaeinkplcgnaaGreatDoorCmD
import Derived.Test.YtgkaeinkplcgnaaGreatDoorFdB
import Derived.Test.YtgkaeinkplcgnaaGreatDoorAgP
import Derived.Test.YtgkaeinkplcgnaaGreatDoorHeldR
import Derived.Deep.WholeRow
namespace Go.Proofs.YtgkaeinkplcgnaaGreatDoor
open Go Go.RowKit Go.Lib
theorem isNone_nil (w : World) : Calls Tryz.prog 9 #[.pointer none] w fun e w' => e = .returned (.bool true) ∧ w' = w := by
  go_enter Tryz.func9, Tryz.ntmps9
  go_wp2_with fail
  go_ret
  exact ⟨rfl, rfl⟩
theorem issued_nil (w : World) : Calls Tryz.prog 7 #[.pointer none] w fun e w' => e = .returned (.int .i64 0) ∧ w' = w := by
  have KN : Hid _ := isNone_nil
  go_enter Tryz.func7, Tryz.ntmps7
  go_wp2_with fail
  refine (KN.out _).mono ?_
  rintro e w1 ⟨rfl, rfl⟩
  go_wp2_with fail
  go_ret
  exact ⟨rfl, rfl⟩
theorem spent_nil (n : Int) (w : World) : Calls Tryz.prog 6 #[.pointer none, .int .i64 n] w fun e w' => e = .returned (.bool false) ∧ w' = w := by
  have KI : Hid _ := issued_nil
  by_cases h : 1 ≤ n
  · have h2 : ¬ (n ≤ 0) := by omega
    go_enter Tryz.func6, Tryz.ntmps6
    go_wp2_with fail
    refine (KI.out _).mono ?_
    rintro e w1 ⟨rfl, rfl⟩
    go_wp2_with fail
    go_ret
    exact ⟨rfl, rfl⟩
  · go_enter Tryz.func6, Tryz.ntmps6
    go_wp2_with fail
    go_ret
    exact ⟨rfl, rfl⟩
/-- What checkNonce answers where nothing is issued. -/
theorem chk0 (q : Option Addr) (n : Int) (w : World) (K : Calls Tryz.prog 7 #[.pointer q] w fun e w' => e = .returned (.int .i64 0) ∧ w' = w) :
    Calls Tryz.prog 20 #[.pointer q, .int .i64 n] w fun e w' => e = .returned (.int .i64 (if n < 1 then 1 else 6)) ∧ w' = w := by
  have KI : Hid _ := K
  clear K
  by_cases h : n < 1
  · rw [if_pos h]
    go_enter Tryz.func20, Tryz.ntmps20
    go_wp2_with fail
    go_ret
    exact ⟨rfl, rfl⟩
  · rw [if_neg h]
    have h2 : (0 : Int) < n := by omega
    go_enter Tryz.func20, Tryz.ntmps20
    go_wp2_with fail
    refine Calls.mono KI.out ?_
    rintro e w1 ⟨rfl, rfl⟩
    go_wp2_with fail
    go_ret
    exact ⟨rfl, rfl⟩
theorem store_eq {ops : Array Oper} {rest : List Oper} {o : Oper} {a : Act} {w : World} {Q : Exit → Act → World → Prop} {b x y : Nat} {ty : TypeId} {vs : Array Value} (hgd : o.guard = none) (ho : o.op = .store ty (.tmp x) (.tmp y))
    (hx : a.eval (.tmp x) = .pointer (some ⟨b, 0, none⟩)) (hy : a.eval (.tmp y) = .agg vs) (hs : (storeVar ty ⟨b, 0, none⟩ (.agg vs)).run Tryz.prog w = .ok () w)
    (h : wpList Tryz.prog ops Q rest (a.put o.dst undef) w) : wpList Tryz.prog ops Q (o :: rest) a w :=
  wpList_plain hgd fun _ hK => by
    unfold Oper.wp execOp
    simp only [ho, hx, hy, Instr.storeAt, Instr.sureAddr, Sem.run_bind, Sem.run_pure, Result.andThen_ok, hs]
    exact hK _ _ h
theorem store_pr {ops : Array Oper} {rest : List Oper} {o : Oper} {a : Act} {w : World} {Q : Exit → Act → World → Prop} {b : Nat} (hgd : o.guard = none) (ho : o.op = .store 29 (.tmp 3) (.tmp 14))
    (hx : a.eval (.tmp 3) = .pointer (some ⟨b, 0, none⟩)) (hy : a.eval (.tmp 14) = .agg #[.int .i64 0, .int .u64 0, .int .u64 0, .int .u64 0, .int .u64 0, .int .u64 0, .int .u64 0, .int .u64 0, .int .u64 0, .bool false, .int .u64 0, .int .u64 0, .int .u64 0, .int .u64 0, .int .u64 0, .int .u64 0, .int .u64 0, .int .u64 0, .bool false]) (hs : (storeVar 29 ⟨b, 0, none⟩ (.agg #[.int .i64 0, .int .u64 0, .int .u64 0, .int .u64 0, .int .u64 0, .int .u64 0, .int .u64 0, .int .u64 0, .int .u64 0, .bool false, .int .u64 0, .int .u64 0, .int .u64 0, .int .u64 0, .int .u64 0, .int .u64 0, .int .u64 0, .int .u64 0, .bool false])).run Tryz.prog w = .ok () w)
    (h : wpList Tryz.prog ops Q rest (a.put o.dst undef) w) : wpList Tryz.prog ops Q (o :: rest) a w :=
  wpList_plain hgd fun _ hK => by
    unfold Oper.wp execOp
    simp only [ho, hx, hy, Instr.storeAt, Instr.sureAddr, Sem.run_bind, Sem.run_pure, Result.andThen_ok, hs]
    exact hK _ _ h
set_option maxRecDepth 100000 in
set_option maxHeartbeats 4000000 in
theorem Issue_nil (w : World) : Calls Tryz.prog 4 #[.pointer none] w fun e w' => e = .returned (.tuple #[.int .i64 0, .agg #[.int .i64 0, .int .u64 0, .int .u64 0, .int .u64 0, .int .u64 0, .int .u64 0, .int .u64 0, .int .u64 0, .int .u64 0, .bool false, .int .u64 0, .int .u64 0, .int .u64 0, .int .u64 0, .int .u64 0, .int .u64 0, .int .u64 0, .int .u64 0, .bool false], .int .i64 5]) ∧ Below w.heap.size w w' := by
  have KN : Hid _ := isNone_nil
  obtain ⟨w0, hw0⟩ : ∃ wq, wq = w.alloc (.cells #[.int .i64 0, .int .u64 0, .int .u64 0, .int .u64 0, .int .u64 0, .int .u64 0, .int .u64 0, .int .u64 0, .int .u64 0, .bool false, .int .u64 0, .int .u64 0, .int .u64 0, .int .u64 0, .int .u64 0, .int .u64 0, .int .u64 0, .int .u64 0, .bool false] 29) := ⟨_, rfl⟩
  have hst : Hid ((storeVar 29 ⟨w.heap.size, 0, none⟩ (.agg #[.int .i64 0, .int .u64 0, .int .u64 0, .int .u64 0, .int .u64 0, .int .u64 0, .int .u64 0, .int .u64 0, .int .u64 0, .bool false, .int .u64 0, .int .u64 0, .int .u64 0, .int .u64 0, .int .u64 0, .int .u64 0, .int .u64 0, .int .u64 0, .bool false])).run Tryz.prog w0 = .ok () w0) := by
    rw [hw0]
    exact run_storeVar_new w 29 #[.int .i64 0, .int .u64 0, .int .u64 0, .int .u64 0, .int .u64 0, .int .u64 0, .int .u64 0, .int .u64 0, .int .u64 0, .bool false, .int .u64 0, .int .u64 0, .int .u64 0, .int .u64 0, .int .u64 0, .int .u64 0, .int .u64 0, .int .u64 0, .bool false] #[.int .i64 0, .int .u64 0, .int .u64 0, .int .u64 0, .int .u64 0, .int .u64 0, .int .u64 0, .int .u64 0, .int .u64 0, .bool false, .int .u64 0, .int .u64 0, .int .u64 0, .int .u64 0, .int .u64 0, .int .u64 0, .int .u64 0, .int .u64 0, .bool false] (by kernel_rfl) rfl (by kernel_rfl)
  have HL : Hid ((loadVar 29 ⟨w.heap.size, 0, none⟩).run Tryz.prog w0 = .ok (.agg #[.int .i64 0, .int .u64 0, .int .u64 0, .int .u64 0, .int .u64 0, .int .u64 0, .int .u64 0, .int .u64 0, .int .u64 0, .bool false, .int .u64 0, .int .u64 0, .int .u64 0, .int .u64 0, .int .u64 0, .int .u64 0, .int .u64 0, .int .u64 0, .bool false]) w0) := by
    rw [hw0]
    exact run_loadVar_row (P := Tryz.prog) _ _ _ _ _ _ _ (heap_alloc_last w _) Tryz.underlying29 rfl (by kernel_rfl)
  have H0 : Hid (OwnC w0 w.heap.size [.int .i64 0, .int .u64 0, .int .u64 0, .int .u64 0, .int .u64 0, .int .u64 0, .int .u64 0, .int .u64 0, .int .u64 0, .bool false, .int .u64 0, .int .u64 0, .int .u64 0, .int .u64 0, .int .u64 0, .int .u64 0, .int .u64 0, .int .u64 0, .bool false] ∧ Below w.heap.size w w0) := by
    rw [hw0]
    exact ⟨OwnC.new' rfl, below_alloc0 (Below.refl _ _) _⟩
  go_enter Tryz.func4, Tryz.ntmps4
  go_upto_region 1 with fail
  rw [← hw0]
  clear hw0
  go_wp2_with fail
  refine (KN.out _).mono ?_
  rintro e w1 ⟨rfl, rfl⟩
  go_wp2_with ((with_reducible refine store_pr (b := w.heap.size) ?_ ?_ ?_ ?_ hst.out ?_); rfl; rfl; rfl; rfl)
  have hld := HL.out
  refine bodyPost_ret (v := .tuple #[.int .i64 0, .agg #[.int .i64 0, .int .u64 0, .int .u64 0, .int .u64 0, .int .u64 0, .int .u64 0, .int .u64 0, .int .u64 0, .int .u64 0, .bool false, .int .u64 0, .int .u64 0, .int .u64 0, .int .u64 0, .int .u64 0, .int .u64 0, .int .u64 0, .int .u64 0, .bool false], .int .i64 5]) ?_ rfl ⟨rfl, H0.out.2⟩
  simp [results, Tryz.results4, asAddr, hld]
set_option maxRecDepth 100000 in
set_option maxHeartbeats 4000000 in
theorem sign0 (q : Option Addr) (fv : Value) (n : Int) (m : ByteArray) (w : World) (K : ∀ w', Below w.heap.size w w' → Calls Tryz.prog 7 #[.pointer q] w' fun e w'' => e = .returned (.int .i64 0) ∧ w'' = w') :
    Calls Tryz.prog 12 #[.pointer q, fv, .int .i64 n, .string m, .slice none 0 0] w fun e w' => e = .returned (.tuple #[.agg #[.int .u64 0, .int .u64 0, .int .u64 0, .int .u64 0], .int .i64 (if n < 1 then 1 else 6)]) ∧ Below w.heap.size w w' := by
  obtain ⟨c, hc⟩ : ∃ c : Int, c = if n < 1 then 1 else 6 := ⟨_, rfl⟩
  have KN : Hid (∀ w', Below w.heap.size w w' → Calls Tryz.prog 20 #[.pointer q, .int .i64 n] w' fun e w'' => e = .returned (.int .i64 c) ∧ w'' = w') := fun w' hb => by rw [hc]; exact chk0 q n w' (K w' hb)
  have hz : (c == 0) = false := by rw [hc]; split <;> rfl
  rw [← hc]
  clear K hc
  obtain ⟨w0, hw0⟩ : ∃ wq, wq = w.alloc (.cells #[.int .u64 0, .int .u64 0, .int .u64 0, .int .u64 0] 25) := ⟨_, rfl⟩
  have H0 : Hid (OwnC w0 w.heap.size [.int .u64 0, .int .u64 0, .int .u64 0, .int .u64 0] ∧ Below w.heap.size w w0) := by
    rw [hw0]
    exact ⟨OwnC.new' rfl, below_alloc0 (Below.refl _ _) _⟩
  go_enter Tryz.func12, Tryz.ntmps12
  go_upto_region 1 with fail
  rw [← hw0]
  clear hw0
  go_wp2_with fail
  refine (KN.out _ H0.out.2).mono ?_
  rintro e w1 ⟨rfl, rfl⟩
  have f0 := H0.out.1.2.2 0 _ rfl
  have f1 := H0.out.1.2.2 1 _ rfl
  have f2 := H0.out.1.2.2 2 _ rfl
  have f3 := H0.out.1.2.2 3 _ rfl
  have fz := H0.out.1.2.1
  go_wp2_with fail
  clear f0 f1 f2 f3 fz
  obtain ⟨wz, hwz⟩ : ∃ wq, wq = ((((w1.setCell ⟨w.heap.size, 0, none⟩ (.int .u64 0)).setCell ⟨w.heap.size, 1, none⟩ (.int .u64 0)).setCell ⟨w.heap.size, 2, none⟩ (.int .u64 0)).setCell ⟨w.heap.size, 3, none⟩ (.int .u64 0)) := ⟨_, rfl⟩
  rw [← hwz]
  have HZ : OwnC wz w.heap.size [.int .u64 0, .int .u64 0, .int .u64 0, .int .u64 0] ∧ Below w.heap.size w wz := by
    rw [hwz]
    exact ⟨OwnC.put [.int .u64 0, .int .u64 0, .int .u64 0, .int .u64 0] H0.out.1 rfl, below_putL (Nat.le_refl _) [.int .u64 0, .int .u64 0, .int .u64 0, .int .u64 0] 0 _ H0.out.2⟩
  clear hwz
  obtain ⟨hO, HB⟩ := HZ
  have r0 := hO.2.2 0 _ rfl
  have r1 := hO.2.2 1 _ rfl
  have r2 := hO.2.2 2 _ rfl
  have r3 := hO.2.2 3 _ rfl
  refine bodyPost_ret (v := .tuple #[.agg #[.int .u64 0, .int .u64 0, .int .u64 0, .int .u64 0], .int .i64 c]) ?_ rfl ⟨rfl, HB⟩
  simp [results, Tryz.results12, go_sem, r0, r1, r2, r3]
set_option maxRecDepth 100000 in
set_option maxHeartbeats 4000000 in
theorem Sign0 (q : Option Addr) (n : Int) (m : ByteArray) (w : World) (K : ∀ w', Below w.heap.size w w' → Calls Tryz.prog 7 #[.pointer q] w' fun e w'' => e = .returned (.int .i64 0) ∧ w'' = w') :
    Calls Tryz.prog 5 #[.pointer q, .int .i64 n, .string m, .slice none 0 0] w fun e w' => e = .returned (.tuple #[.agg #[.int .u64 0, .int .u64 0, .int .u64 0, .int .u64 0], .int .i64 (if n < 1 then 1 else 6)]) ∧ Below w.heap.size w w' := by
  obtain ⟨c, hc⟩ : ∃ c : Int, c = if n < 1 then 1 else 6 := ⟨_, rfl⟩
  have KN : Hid (∀ w' fv, Below w.heap.size w w' → Calls Tryz.prog 12 #[.pointer q, fv, .int .i64 n, .string m, .slice none 0 0] w' fun e w'' => e = .returned (.tuple #[.agg #[.int .u64 0, .int .u64 0, .int .u64 0, .int .u64 0], .int .i64 c]) ∧ Below w'.heap.size w' w'') := fun w' fv hb => by rw [hc]; exact sign0 q fv n m w' (fun w'' hb2 => K w'' (hb.trans (hb2.mono hb.size)))
  rw [← hc]
  clear K hc
  obtain ⟨w0, hw0⟩ : ∃ wq, wq = w.alloc (.cells #[.int .u64 0, .int .u64 0, .int .u64 0, .int .u64 0] 25) := ⟨_, rfl⟩
  have H0 : Hid (OwnC w0 w.heap.size [.int .u64 0, .int .u64 0, .int .u64 0, .int .u64 0] ∧ Below w.heap.size w w0) := by
    rw [hw0]
    exact ⟨OwnC.new' rfl, below_alloc0 (Below.refl _ _) _⟩
  go_enter Tryz.func5, Tryz.ntmps5
  go_upto_region 1 with fail
  rw [← hw0]
  clear hw0
  go_wp2_with fail
  refine (KN.out _ _ H0.out.2).mono ?_
  rintro e w1 ⟨rfl, hb1⟩
  have H1 : Hid (OwnC w1 w.heap.size [.int .u64 0, .int .u64 0, .int .u64 0, .int .u64 0] ∧ Below w.heap.size w w1) := ⟨H0.out.1.call hb1, H0.out.2.trans (hb1.mono H0.out.2.size)⟩
  clear hb1 H0 KN
  have f0 := H1.out.1.2.2 0 _ rfl
  have f1 := H1.out.1.2.2 1 _ rfl
  have f2 := H1.out.1.2.2 2 _ rfl
  have f3 := H1.out.1.2.2 3 _ rfl
  have fz := H1.out.1.2.1
  go_wp2_with fail
  clear f0 f1 f2 f3 fz
  obtain ⟨wz, hwz⟩ : ∃ wq, wq = ((((w1.setCell ⟨w.heap.size, 0, none⟩ (.int .u64 0)).setCell ⟨w.heap.size, 1, none⟩ (.int .u64 0)).setCell ⟨w.heap.size, 2, none⟩ (.int .u64 0)).setCell ⟨w.heap.size, 3, none⟩ (.int .u64 0)) := ⟨_, rfl⟩
  rw [← hwz]
  have HZ : OwnC wz w.heap.size [.int .u64 0, .int .u64 0, .int .u64 0, .int .u64 0] ∧ Below w.heap.size w wz := by
    rw [hwz]
    exact ⟨OwnC.put [.int .u64 0, .int .u64 0, .int .u64 0, .int .u64 0] H1.out.1 rfl, below_putL (Nat.le_refl _) [.int .u64 0, .int .u64 0, .int .u64 0, .int .u64 0] 0 _ H1.out.2⟩
  clear hwz
  obtain ⟨hO, HB⟩ := HZ
  have r0 := hO.2.2 0 _ rfl
  have r1 := hO.2.2 1 _ rfl
  have r2 := hO.2.2 2 _ rfl
  have r3 := hO.2.2 3 _ rfl
  refine bodyPost_ret (v := .tuple #[.agg #[.int .u64 0, .int .u64 0, .int .u64 0, .int .u64 0], .int .i64 c]) ?_ rfl ⟨rfl, HB⟩
  simp [results, Tryz.results5, go_sem, r0, r1, r2, r3]
end Go.Proofs.YtgkaeinkplcgnaaGreatDoor
