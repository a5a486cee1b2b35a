/- The law SignerNil. -/
import Derived.Test.YtgkaeinkplcgnaaGreatDoorSnC
import Derived.BigFrame
namespace Go.Proofs.YtgkaeinkplcgnaaGreatDoor
open Go Go.RowKit Go.Lib
set_option maxRecDepth 100000 in
set_option maxHeartbeats 4000000 in
theorem alone_any (w : World) (hP : GlobP w) (hQ : GlobQ w) : Calls Tryz.prog 8 #[] w fun e w' => e = .returned (.bool true) ∧ Below w.heap.size w w' := by
  have KG : Hid _ := G3_lit
  have KN : Hid (∀ (b : Nat) (w : World), GlobP w → GlobQ w → OwnC w b [.int .u64 6481385041966929816, .int .u64 188021827762530521, .int .u64 6170039885052185351, .int .u64 8772561819708210092, .int .u64 11261198710074299576, .int .u64 18237243440184513561, .int .u64 6747795201694173352, .int .u64 5204712524664259685, .bool false] → Calls Tryz.prog 15 #[.agg #[.int .i64 1, .int .i64 0, .int .i64 1, .int .u64 1, .int .u64 0, .int .u64 0, .int .u64 0, .int .u64 6481385041966929816, .int .u64 188021827762530521, .int .u64 6170039885052185351, .int .u64 8772561819708210092, .int .u64 11261198710074299576, .int .u64 18237243440184513561, .int .u64 6747795201694173352, .int .u64 5204712524664259685, .bool false, .slice (some ⟨b, 0, none⟩) 1 1, .slice none 0 0], .string ⟨#[115]⟩, .int .i64 0] w fun e w' => ∃ s, e = .returned (.tuple #[.pointer (some ⟨s, 0, none⟩), .int .i64 0]) ∧ SG w' s ∧ Below w.heap.size w w') := fun b w h1 h2 h3 => new_1 b w h1 h2 h3
  have KS : Hid (∀ (s : Nat) (w : World), SG w s → Calls Tryz.prog 5 #[.pointer (some ⟨s, 0, none⟩), .int .i64 1, .string ⟨#[109]⟩, .slice none 0 0] w fun e w' => e = .returned (.tuple #[.agg #[.int .u64 0, .int .u64 0, .int .u64 0, .int .u64 0], .int .i64 6]) ∧ Below w.heap.size w w') := fun s w h => Sign0 (some ⟨s, 0, none⟩) 1 ⟨#[109]⟩ w (fun w' hb => issued_0 s w' (h.call hb))
  have KI : Hid _ := issued_0
  have hsz : ∀ w, (Go.sizeOf 27).run Tryz.prog w = .ok 9 w := fun _ => by kernel_rfl
  have H0 : Hid (GlobP w ∧ GlobQ w) := ⟨hP, hQ⟩
  clear hP hQ
  go_enter Tryz.func8, Tryz.ntmps8
  go_wp2_with fail
  refine (KG.out _).mono ?_
  rintro e w1 ⟨rfl, hb1⟩
  have H1 : Hid (Below w.heap.size w w1) := hb1
  clear hb1
  go_wp2_with fail
  refine (KG.out _).mono ?_
  rintro e w2 ⟨rfl, hb2⟩
  have H2 : Hid (Below w.heap.size w w2) := H1.out.trans (hb2.mono H1.out.size)
  obtain ⟨w3, hw3⟩ : ∃ w3, w3 = w2.alloc (.cells #[.int .u64 6481385041966929816, .int .u64 188021827762530521, .int .u64 6170039885052185351, .int .u64 8772561819708210092, .int .u64 11261198710074299576, .int .u64 18237243440184513561, .int .u64 6747795201694173352, .int .u64 5204712524664259685, .bool false] 27) := ⟨_, rfl⟩
  obtain ⟨b, hb⟩ : ∃ b, b = w2.heap.size := ⟨_, rfl⟩
  have HW : Hid (w3 = w2.alloc (.cells #[.int .u64 6481385041966929816, .int .u64 188021827762530521, .int .u64 6170039885052185351, .int .u64 8772561819708210092, .int .u64 11261198710074299576, .int .u64 18237243440184513561, .int .u64 6747795201694173352, .int .u64 5204712524664259685, .bool false] 27) ∧ b = w2.heap.size) := ⟨hw3, hb⟩
  have H3 : Hid (Below w.heap.size w w3 ∧ OwnC w3 b [.int .u64 6481385041966929816, .int .u64 188021827762530521, .int .u64 6170039885052185351, .int .u64 8772561819708210092, .int .u64 11261198710074299576, .int .u64 18237243440184513561, .int .u64 6747795201694173352, .int .u64 5204712524664259685, .bool false]) := by
    rw [hw3, hb]
    exact ⟨below_alloc0 H2.out _, OwnC.new' rfl⟩
  clear hb2 hw3 hb
  go_wp2_with fail
  rw [← HW.out.1, ← HW.out.2]
  clear HW
  refine (KN.out b w3 (H0.out.1.call H3.out.1) (H0.out.2.call H3.out.1) H3.out.2).mono ?_
  rintro e w4 ⟨s, rfl, hS, hb4⟩
  have H4 : Hid (SG w4 s ∧ Below w.heap.size w w4) := ⟨hS, H3.out.1.trans (hb4.mono H3.out.1.size)⟩
  clear hS hb4
  go_wp2_with fail
  refine (KS.out s w4 H4.out.1).mono ?_
  rintro e w5 ⟨rfl, hb5⟩
  have H5 : Hid (SG w5 s ∧ Below w.heap.size w w5) := ⟨H4.out.1.call hb5, H4.out.2.trans (hb5.mono H4.out.2.size)⟩
  clear hb5
  go_wp2_with fail
  refine (KI.out s _ (H5.out.1.call (below_alloc0 (Below.refl _ _) _))).mono ?_
  rintro e w6 ⟨rfl, rfl⟩
  go_wp2_with fail
  go_ret
  exact ⟨rfl, below_alloc0 H5.out.2 _⟩
theorem eq_pr0 (w : World) : Sem.run Tryz.prog (binOp .eql 29 (.agg #[.int .i64 0, .int .u64 0, .int .u64 0, .int .u64 0, .int .u64 0, .int .u64 0, .int .u64 0, .int .u64 0, .int .u64 0, .bool false, .int .u64 0, .int .u64 0, .int .u64 0, .int .u64 0, .int .u64 0, .int .u64 0, .int .u64 0, .int .u64 0, .bool false]) (.agg #[.int .i64 0, .int .u64 0, .int .u64 0, .int .u64 0, .int .u64 0, .int .u64 0, .int .u64 0, .int .u64 0, .int .u64 0, .bool false, .int .u64 0, .int .u64 0, .int .u64 0, .int .u64 0, .int .u64 0, .int .u64 0, .int .u64 0, .int .u64 0, .bool false])) w = .ok (.bool true) w := by kernel_rfl
theorem load_eq {ops : Array Oper} {rest : List Oper} {o : Oper} {a : Act} {w : World} {Q : Exit → Act → World → Prop} {b x : Nat} {ty : TypeId} {vs : Array Value} (hw : Region.wanted o (yielded ops a.tmps) = true) (ho : o.op = .load ty (.tmp x))
    (hx : a.eval (.tmp x) = .pointer (some ⟨b, 0, none⟩)) (hs : (loadVar ty ⟨b, 0, none⟩).run Tryz.prog w = .ok (.agg vs) w)
    (h : wpList Tryz.prog ops Q rest (a.put o.dst (.agg vs)) w) : wpList Tryz.prog ops Q (o :: rest) a w :=
  BigFrame.wpList_want hw fun _ hK => by
    unfold Oper.wp execOp
    simp only [ho, hx, Instr.loadAt, Instr.sureAddr, Sem.run_bind, Sem.run_pure, Result.andThen_ok, hs]
    exact hK _ _ h
set_option maxRecDepth 100000 in
set_option maxHeartbeats 4000000 in
theorem signerNil_in (n c : Int) (w : World) (hP : GlobP w) (hQ : GlobQ w) (hc : c = if n < 1 then 1 else 6) (hn : (n < 1 ∧ c = 1) ∨ (¬ n < 1 ∧ c = 6)) : Calls Tryz.prog 3 #[.int .i64 n] w fun e w' => e = .returned (.bool true) ∧ Below w.heap.size w w' := by
  have KI : Hid _ := Issue_nil
  have KS : Hid (∀ w, Calls Tryz.prog 5 #[.pointer none, .int .i64 n, .string ⟨#[]⟩, .slice none 0 0] w fun e w' => e = .returned (.tuple #[.agg #[.int .u64 0, .int .u64 0, .int .u64 0, .int .u64 0], .int .i64 c]) ∧ Below w.heap.size w w') := fun w => by rw [hc]; exact Sign0 none n ⟨#[]⟩ w (fun w' _ => issued_nil w')
  have KP : Hid _ := spent_nil n
  have KJ : Hid _ := issued_nil
  have KA : Hid (∀ w', Below w.heap.size w w' → Calls Tryz.prog 8 #[] w' fun e w'' => e = .returned (.bool true) ∧ Below w'.heap.size w' w'') := fun w' hb => alone_any w' (hP.call hb) (hQ.call hb)
  have heq := eq_pr0
  clear hP hQ hc
  go_enter Tryz.func3, Tryz.ntmps3
  go_wp2_with fail
  refine (KI.out _).mono ?_
  rintro e w1 ⟨rfl, hb1⟩
  obtain ⟨w2, hw2⟩ : ∃ w2, w2 = w1.alloc (.cells #[.int .i64 0, .int .u64 0, .int .u64 0, .int .u64 0, .int .u64 0, .int .u64 0, .int .u64 0, .int .u64 0, .int .u64 0, .bool false, .int .u64 0, .int .u64 0, .int .u64 0, .int .u64 0, .int .u64 0, .int .u64 0, .int .u64 0, .int .u64 0, .bool false] 29) := ⟨_, rfl⟩
  obtain ⟨E, hE⟩ : ∃ E, E = w1.heap.size := ⟨_, rfl⟩
  have HW : Hid (w2 = w1.alloc (.cells #[.int .i64 0, .int .u64 0, .int .u64 0, .int .u64 0, .int .u64 0, .int .u64 0, .int .u64 0, .int .u64 0, .int .u64 0, .bool false, .int .u64 0, .int .u64 0, .int .u64 0, .int .u64 0, .int .u64 0, .int .u64 0, .int .u64 0, .int .u64 0, .bool false] 29) ∧ E = w1.heap.size) := ⟨hw2, hE⟩
  have H2 : Hid (Below w.heap.size w w2 ∧ w2.heap[E]? = some (.cells #[.int .i64 0, .int .u64 0, .int .u64 0, .int .u64 0, .int .u64 0, .int .u64 0, .int .u64 0, .int .u64 0, .int .u64 0, .bool false, .int .u64 0, .int .u64 0, .int .u64 0, .int .u64 0, .int .u64 0, .int .u64 0, .int .u64 0, .int .u64 0, .bool false] 29) ∧ E < w2.heap.size) := by
    rw [hw2, hE]
    exact ⟨below_alloc0 hb1 _, heap_alloc_last w1 _, by simp⟩
  have hst : Hid ((storeVar 29 ⟨w1.heap.size, 0, none⟩ (.agg #[.int .i64 0, .int .u64 0, .int .u64 0, .int .u64 0, .int .u64 0, .int .u64 0, .int .u64 0, .int .u64 0, .int .u64 0, .bool false, .int .u64 0, .int .u64 0, .int .u64 0, .int .u64 0, .int .u64 0, .int .u64 0, .int .u64 0, .int .u64 0, .bool false])).run Tryz.prog (w1.alloc (.cells #[.int .i64 0, .int .u64 0, .int .u64 0, .int .u64 0, .int .u64 0, .int .u64 0, .int .u64 0, .int .u64 0, .int .u64 0, .bool false, .int .u64 0, .int .u64 0, .int .u64 0, .int .u64 0, .int .u64 0, .int .u64 0, .int .u64 0, .int .u64 0, .bool false] 29)) = .ok () (w1.alloc (.cells #[.int .i64 0, .int .u64 0, .int .u64 0, .int .u64 0, .int .u64 0, .int .u64 0, .int .u64 0, .int .u64 0, .int .u64 0, .bool false, .int .u64 0, .int .u64 0, .int .u64 0, .int .u64 0, .int .u64 0, .int .u64 0, .int .u64 0, .int .u64 0, .bool false] 29))) := run_storeVar_new w1 29 #[.int .i64 0, .int .u64 0, .int .u64 0, .int .u64 0, .int .u64 0, .int .u64 0, .int .u64 0, .int .u64 0, .int .u64 0, .bool false, .int .u64 0, .int .u64 0, .int .u64 0, .int .u64 0, .int .u64 0, .int .u64 0, .int .u64 0, .int .u64 0, .bool false] #[.int .i64 0, .int .u64 0, .int .u64 0, .int .u64 0, .int .u64 0, .int .u64 0, .int .u64 0, .int .u64 0, .int .u64 0, .bool false, .int .u64 0, .int .u64 0, .int .u64 0, .int .u64 0, .int .u64 0, .int .u64 0, .int .u64 0, .int .u64 0, .bool false] (by kernel_rfl) rfl (by kernel_rfl)
  clear hb1 hw2 hE
  go_upto_region 3 with ((with_reducible refine store_eq (b := w1.heap.size) (x := 5) (y := 14) ?_ ?_ ?_ ?_ hst.out ?_); rfl; rfl; rfl; rfl)
  rw [← HW.out.1, ← HW.out.2]
  clear HW hst
  go_wp2_with fail
  refine (KS.out _).mono ?_
  rintro e w3 ⟨rfl, hb3⟩
  obtain ⟨w4, hw4⟩ : ∃ w4, w4 = w3.alloc (.cells #[.int .u64 0, .int .u64 0, .int .u64 0, .int .u64 0] 25) := ⟨_, rfl⟩
  have HW4 : Hid (w4 = w3.alloc (.cells #[.int .u64 0, .int .u64 0, .int .u64 0, .int .u64 0] 25)) := hw4
  have H4 : Hid (Below w.heap.size w w4 ∧ w4.heap[E]? = some (.cells #[.int .i64 0, .int .u64 0, .int .u64 0, .int .u64 0, .int .u64 0, .int .u64 0, .int .u64 0, .int .u64 0, .int .u64 0, .bool false, .int .u64 0, .int .u64 0, .int .u64 0, .int .u64 0, .int .u64 0, .int .u64 0, .int .u64 0, .int .u64 0, .bool false] 29)) := by
    rw [hw4]
    have hb4 : Below w2.heap.size w2 (w3.alloc (.cells #[.int .u64 0, .int .u64 0, .int .u64 0, .int .u64 0] 25)) := below_alloc0 hb3 _
    exact ⟨below_alloc0 (H2.out.1.trans (hb3.mono H2.out.1.size)) _, (hb4.block E H2.out.2.2).trans H2.out.2.1⟩
  clear hb3 hw4
  go_upto_region 4 with fail
  rw [← HW4.out]
  clear HW4
  have HLD : Hid ((loadVar 29 ⟨E, 0, none⟩).run Tryz.prog w4 = .ok (.agg #[.int .i64 0, .int .u64 0, .int .u64 0, .int .u64 0, .int .u64 0, .int .u64 0, .int .u64 0, .int .u64 0, .int .u64 0, .bool false, .int .u64 0, .int .u64 0, .int .u64 0, .int .u64 0, .int .u64 0, .int .u64 0, .int .u64 0, .int .u64 0, .bool false]) w4) := run_loadVar_row (P := Tryz.prog) _ _ _ _ _ _ _ H4.out.2 Tryz.underlying29 rfl (by kernel_rfl)
  rcases hn with ⟨h1, rfl⟩ | ⟨h1, rfl⟩
  · as_aux_lemma =>
    go_wp2_with ((with_reducible refine load_eq (b := E) (x := 5) ?_ ?_ ?_ HLD.out ?_); rfl; rfl; rfl)
    refine (KP.out _).mono ?_
    rintro e w5 ⟨rfl, rfl⟩
    go_wp2_with fail
    refine (KJ.out _).mono ?_
    rintro e w6 ⟨rfl, rfl⟩
    go_wp2_with fail
    refine (KA.out _ H4.out.1).mono ?_
    rintro e w7 ⟨rfl, hb7⟩
    have H7 : Hid (Below w.heap.size w w7) := H4.out.1.trans (hb7.mono H4.out.1.size)
    clear hb7
    go_wp2_with fail
    go_ret
    exact ⟨rfl, H7.out⟩
  · as_aux_lemma =>
    go_wp2_with ((with_reducible refine load_eq (b := E) (x := 5) ?_ ?_ ?_ HLD.out ?_); rfl; rfl; rfl)
    refine (KP.out _).mono ?_
    rintro e w5 ⟨rfl, rfl⟩
    go_wp2_with fail
    refine (KJ.out _).mono ?_
    rintro e w6 ⟨rfl, rfl⟩
    go_wp2_with fail
    refine (KA.out _ H4.out.1).mono ?_
    rintro e w7 ⟨rfl, hb7⟩
    have H7 : Hid (Below w.heap.size w w7) := H4.out.1.trans (hb7.mono H4.out.1.size)
    clear hb7
    go_wp2_with fail
    go_ret
    exact ⟨rfl, H7.out⟩
theorem signerNil_any (n : Int) (w : World) (hP : GlobP w) (hQ : GlobQ w) : Calls Tryz.prog 3 #[.int .i64 n] w fun e w' => e = .returned (.bool true) ∧ Below w.heap.size w w' := by
  by_cases h : n < 1
  · exact signerNil_in n 1 w hP hQ (by rw [if_pos h]) (.inl ⟨h, rfl⟩)
  · exact signerNil_in n 6 w hP hQ (by rw [if_neg h]) (.inr ⟨h, rfl⟩)
end Go.Proofs.YtgkaeinkplcgnaaGreatDoor
