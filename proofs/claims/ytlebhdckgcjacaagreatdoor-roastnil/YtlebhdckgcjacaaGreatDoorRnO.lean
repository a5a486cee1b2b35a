/- Package wardmotelaw21: RoastNil's walk. -/
import Derived.Test.YtlebhdckgcjacaaGreatDoorRnN
namespace Go.Proofs.YtlebhdckgcjacaaGreatDoor
open Go Go.RowKit Go.Lib
theorem load_at {ops : Array Oper} {rest : List Oper} {o : Oper} {a : Act} {w : World} {Q : Exit → Act → World → Prop} {b k x : Nat} {ty : TypeId} {vs : Array Value} (hw : Region.wanted o (yielded ops a.tmps) = true) (ho : o.op = .load ty (.tmp x))
    (hx : a.eval (.tmp x) = .pointer (some ⟨b, k, none⟩)) (hs : (loadVar ty ⟨b, k, none⟩).run Tryz.prog w = .ok (.agg vs) w)
    (h : wpList Tryz.prog ops Q rest (a.put o.dst (.agg vs)) w) : wpList Tryz.prog ops Q (o :: rest) a w :=
  BigFrame.wpList_want hw fun _ hK => by
    unfold Oper.wp execOp
    simp only [ho, hx, Instr.loadAt, Instr.sureAddr, Sem.run_bind, Sem.run_pure, Result.andThen_ok, hs]
    exact hK _ _ h
theorem part_at {w : World} {b k n : Nat} {C : Array Value} {t ty : TypeId} {d : TypeDesc} (hb : w.heap[b]? = some (.cells C t)) (hu : Tryz.prog.underlying ty = some d) (hd : d.isRow = true) (hn : k + n ≤ C.size) (hi : (Tryz.prog.info? ty).map (·.size) = some n) : (loadVar ty ⟨b, k, none⟩).run Tryz.prog w = .ok (.agg (C.extract k (k + n))) w := by
  have h := run_loadVar_mid (P := Tryz.prog) w b k ty (C.extract k (k + n)).toList d (World.rangeAt_of_block hb k n) hu hd (by rw [hi]; simp; omega)
  rw [Array.toArray_toList] at h
  exact h
set_option maxRecDepth 100000 in
set_option maxHeartbeats 4000000 in
theorem roastNil_in (cs zs ps : Array Value) (s n : Int) (w : World) (hP : GlobP w) (hsz : cs.size = 26) (h1 : cs[1]? = some (.int .i64 s)) (h2 : cs[2]? = some (.int .i64 n)) (hz : zs = cs.extract 3 7) (hp : ps = cs.extract 7 26) : Calls Tryz.prog 3 #[.agg cs] w fun e w' => e = .returned (.bool true) ∧ Below w.heap.size w w' := by
  have KB : Hid _ := Begin_nil ps
  have KS : Hid _ := Share_nil s n zs ps
  have KF : Hid _ := Fail_nil n
  have KD : Hid _ := Done_nil
  have K1 : Hid _ := Bad_nil
  have K2 : Hid _ := Busy_nil
  have K3 : Hid _ := Sessions_nil
  have KA : Hid (∀ w', Below w.heap.size w w' → Calls Tryz.prog 11 #[] w' fun e w'' => e = .returned (.bool true) ∧ Below w'.heap.size w' w'') := fun w' hb => begins_any w' (hP.call hb)
  have HC : Hid (∀ (wx : World), wx.heap[w.heap.size]? = some (.cells cs 30) → wx.cell? ⟨w.heap.size, 1, none⟩ = some (.int .i64 s) ∧ wx.cell? ⟨w.heap.size, 2, none⟩ = some (.int .i64 n) ∧ (loadVar 24 ⟨w.heap.size, 3, none⟩).run Tryz.prog wx = .ok (.agg zs) wx ∧ (loadVar 28 ⟨w.heap.size, 7, none⟩).run Tryz.prog wx = .ok (.agg ps) wx) := fun wx hx => by
    refine ⟨by simp [World.cell?, hx, h1], by simp [World.cell?, hx, h2], ?_, ?_⟩
    · rw [hz]
      exact part_at (k := 3) (n := 4) hx Tryz.underlying24 rfl (by omega) (by kernel_rfl)
    · rw [hp]
      exact part_at (k := 7) (n := 19) hx Tryz.underlying28 rfl (by omega) (by kernel_rfl)
  obtain ⟨W1, hW1⟩ : ∃ W1, W1 = w.alloc (.cells cs 30) := ⟨_, rfl⟩
  have H1 : Hid (Below w.heap.size w W1 ∧ W1.heap[w.heap.size]? = some (.cells cs 30) ∧ w.heap.size < W1.heap.size) := by
    rw [hW1]
    exact ⟨below_alloc0 (Below.refl _ _) _, heap_alloc_last w _, by simp⟩
  have HW : Hid (W1 = w.alloc (.cells cs 30)) := hW1
  clear hW1 hP hsz h1 h2 hz hp
  go_enter Tryz.func3, Tryz.ntmps3
  go_upto_region 2 with fail
  rw [← HW.out]
  clear HW
  go_wp2_with ((with_reducible refine load_at (b := w.heap.size) (k := 7) (x := 16) ?_ ?_ ?_ (HC.out _ H1.out.2.1).2.2.2 ?_); rfl; rfl; rfl)
  refine (KB.out _).mono ?_
  rintro e w2 ⟨rfl, hb2⟩
  clear KB
  obtain ⟨W3, hW3⟩ : ∃ W3, W3 = w2.alloc (.cells #[.int .i64 0, .slice none 0 0] 34) := ⟨_, rfl⟩
  have H3 : Hid (Below w.heap.size w W3 ∧ W3.heap[w.heap.size]? = some (.cells cs 30) ∧ w.heap.size < W3.heap.size) := by
    have hb : Below W1.heap.size W1 W3 := by
      rw [hW3]
      exact below_alloc0 hb2 _
    exact ⟨below_call0 H1.out.1 hb, (hb.block _ H1.out.2.2).trans H1.out.2.1, Nat.lt_of_lt_of_le H1.out.2.2 hb.size⟩
  have HW : Hid (W3 = w2.alloc (.cells #[.int .i64 0, .slice none 0 0] 34)) := hW3
  clear hW3 hb2 H1
  go_upto_region 3 with fail
  rw [← HW.out]
  clear HW
  obtain ⟨c1, c2, -, -⟩ := HC.out _ H3.out.2.1
  go_wp2_with (first | ((with_reducible refine load_at (b := w.heap.size) (k := 3) (x := 28) ?_ ?_ ?_ (HC.out _ H3.out.2.1).2.2.1 ?_); rfl; rfl; rfl) | ((with_reducible refine load_at (b := w.heap.size) (k := 7) (x := 30) ?_ ?_ ?_ (HC.out _ H3.out.2.1).2.2.2 ?_); rfl; rfl; rfl))
  refine (KS.out _).mono ?_
  rintro e w4 ⟨rfl, hb4⟩
  clear KS c1 c2
  obtain ⟨W5, hW5⟩ : ∃ W5, W5 = w4.alloc (.cells #[.int .i64 0, .slice none 0 0] 34) := ⟨_, rfl⟩
  have H5 : Hid (Below w.heap.size w W5 ∧ W5.heap[w.heap.size]? = some (.cells cs 30)) := by
    have hb : Below W3.heap.size W3 W5 := by
      rw [hW5]
      exact below_alloc0 hb4 _
    exact ⟨below_call0 H3.out.1 hb, (hb.block _ H3.out.2.2).trans H3.out.2.1⟩
  have HW : Hid (W5 = w4.alloc (.cells #[.int .i64 0, .slice none 0 0] 34)) := hW5
  clear hW5 hb4 H3
  go_upto_region 4 with fail
  rw [← HW.out]
  clear HW
  obtain ⟨-, c2, -, -⟩ := HC.out _ H5.out.2
  go_wp2_with fail
  refine (KF.out _).mono ?_
  rintro e w6 ⟨rfl, h6⟩
  obtain rfl : W5 = w6 := h6.symm
  clear KF c2 HC
  go_wp2_with fail
  refine (KD.out _).mono ?_
  rintro e w7 ⟨rfl, hb7⟩
  obtain ⟨W8, hW8⟩ : ∃ W8, W8 = w7.alloc (.cells #[.int .u64 0, .int .u64 0, .int .u64 0, .int .u64 0, .int .u64 0, .int .u64 0, .int .u64 0, .int .u64 0, .bool false, .int .u64 0, .int .u64 0, .int .u64 0, .int .u64 0] 42) := ⟨_, rfl⟩
  have H8 : Hid (Below w.heap.size w W8) := by
    rw [hW8]
    exact below_alloc0 (below_call0 H5.out.1 hb7) _
  have HW : Hid (W8 = w7.alloc (.cells #[.int .u64 0, .int .u64 0, .int .u64 0, .int .u64 0, .int .u64 0, .int .u64 0, .int .u64 0, .int .u64 0, .bool false, .int .u64 0, .int .u64 0, .int .u64 0, .int .u64 0] 42)) := hW8
  clear hW8 hb7 H5 KD
  go_upto_region 6 with fail
  rw [← HW.out]
  clear HW
  go_wp2_with fail
  refine (K1.out _).mono ?_
  rintro e w9 ⟨rfl, h9⟩
  obtain rfl : W8 = w9 := h9.symm
  go_wp2_with fail
  refine (K2.out _).mono ?_
  rintro e w9 ⟨rfl, h9⟩
  obtain rfl : W8 = w9 := h9.symm
  go_wp2_with fail
  refine (K3.out _).mono ?_
  rintro e w9 ⟨rfl, h9⟩
  obtain rfl : W8 = w9 := h9.symm
  go_wp2_with fail
  refine (KA.out _ H8.out).mono ?_
  rintro e w10 ⟨rfl, hb10⟩
  have H10 : Hid (Below w.heap.size w w10) := below_call0 H8.out hb10
  clear hb10
  go_wp2_with fail
  go_ret
  exact ⟨rfl, H10.out⟩
end Go.Proofs.YtlebhdckgcjacaaGreatDoor
