/- Package bind: Check of one pair. -/
import Derived.Test.YtlebhdckgcjacaaGreatDoorRnH
namespace Go.Proofs.YtlebhdckgcjacaaGreatDoor
open Go Go.RowKit Go.Lib Go.Shelf
attribute [local go_sem] Oper.semAt_some
set_option maxRecDepth 100000 in
set_option maxHeartbeats 4000000 in
theorem Check_1 (GP : World → Prop) (Gc : ∀ (w w' : World), GP w → Below w.heap.size w w' → GP w') (K0 : ∀ w, GP w → Calls Tryz.prog 46 #[.agg #[.int .u64 6481385041966929816, .int .u64 188021827762530521, .int .u64 6170039885052185351, .int .u64 8772561819708210092, .int .u64 11261198710074299576, .int .u64 18237243440184513561, .int .u64 6747795201694173352, .int .u64 5204712524664259685, .bool false]] w fun e w' => e = .returned (.int .i64 0) ∧ Below w.heap.size w w')
    (b : Nat) (w : World) (hG : GP w) (hlb : b < w.heap.size) (hb : w.heap[b]? = some (.cells #[.int .i64 1, .int .u64 6481385041966929816, .int .u64 188021827762530521, .int .u64 6170039885052185351, .int .u64 8772561819708210092, .int .u64 11261198710074299576, .int .u64 18237243440184513561, .int .u64 6747795201694173352, .int .u64 5204712524664259685, .bool false, .int .u64 6481385041966929816, .int .u64 188021827762530521, .int .u64 6170039885052185351, .int .u64 8772561819708210092, .int .u64 11261198710074299576, .int .u64 18237243440184513561, .int .u64 6747795201694173352, .int .u64 5204712524664259685, .bool false] 28)) :
    Calls Tryz.prog 21 #[.slice (some ⟨b, 0, none⟩) 1 1] w fun e w' => e = .returned (.int .i64 0) ∧ Below w.heap.size w w' := by
  have KF : Hid _ := finite_G GP Gc K0
  have KG : Hid _ := Gc
  have H0 : Hid (GP w ∧ b < w.heap.size ∧ w.heap[b]? = some (.cells #[.int .i64 1, .int .u64 6481385041966929816, .int .u64 188021827762530521, .int .u64 6170039885052185351, .int .u64 8772561819708210092, .int .u64 11261198710074299576, .int .u64 18237243440184513561, .int .u64 6747795201694173352, .int .u64 5204712524664259685, .bool false, .int .u64 6481385041966929816, .int .u64 188021827762530521, .int .u64 6170039885052185351, .int .u64 8772561819708210092, .int .u64 11261198710074299576, .int .u64 18237243440184513561, .int .u64 6747795201694173352, .int .u64 5204712524664259685, .bool false] 28)) := ⟨hG, hlb, hb⟩
  clear hG hlb hb K0
  refine (callsIn_wide (n := 3)).1 ?_
  refine callsIn_of_wp_marks Tryz.func21 rfl trivial ?_
  simp only [Tryz.ntmps21, List.size_toArray, List.length_cons, List.length_nil, Nat.reduceAdd, Nat.reduceSub, Array.replicate_succ, Array.replicate_zero, List.push_toArray, List.append_toArray, List.nil_append, List.cons_append]
  gi_upto_region 1 with fail
  obtain ⟨W1, hW1⟩ : ∃ W1, W1 = w.alloc (.cells #[.int .i64 0] 35) := ⟨_, rfl⟩
  have H1 : Hid (W1.cell? ⟨w.heap.size, 0, none⟩ = some (.int .i64 0) ∧ Below w.heap.size w W1 ∧ W1.heap.size = w.heap.size + 1 ∧ W1.frozen? ⟨w.heap.size, 0, none⟩ = false) := by
    rw [hW1]
    exact ⟨by simp [go_sem], below_alloc0 (Below.refl _ _) _, by simp, by simp [go_sem]⟩
  rw [← hW1]
  have hbk : W1.heap[b]? = some (.cells #[.int .i64 1, .int .u64 6481385041966929816, .int .u64 188021827762530521, .int .u64 6170039885052185351, .int .u64 8772561819708210092, .int .u64 11261198710074299576, .int .u64 18237243440184513561, .int .u64 6747795201694173352, .int .u64 5204712524664259685, .bool false, .int .u64 6481385041966929816, .int .u64 188021827762530521, .int .u64 6170039885052185351, .int .u64 8772561819708210092, .int .u64 11261198710074299576, .int .u64 18237243440184513561, .int .u64 6747795201694173352, .int .u64 5204712524664259685, .bool false] 28) := (H1.out.2.1.block b H0.out.2.1).trans H0.out.2.2
  have hlk : b < W1.heap.size := Nat.lt_of_lt_of_le H0.out.2.1 H1.out.2.1.size
  have HX : Hid (Boxed W1 w.heap.size 35 (.int .i64 0)) := by
    rw [hW1]
    exact Boxed.new w _ _
  have KN : Hid _ := areNodes_1 b W1 hbk hlk
  have KP : Hid _ := points_any (some ⟨b, 0, none⟩) 1 1
  have HK : Hid (W1.heap[b]? = some (.cells #[.int .i64 1, .int .u64 6481385041966929816, .int .u64 188021827762530521, .int .u64 6170039885052185351, .int .u64 8772561819708210092, .int .u64 11261198710074299576, .int .u64 18237243440184513561, .int .u64 6747795201694173352, .int .u64 5204712524664259685, .bool false, .int .u64 6481385041966929816, .int .u64 188021827762530521, .int .u64 6170039885052185351, .int .u64 8772561819708210092, .int .u64 11261198710074299576, .int .u64 18237243440184513561, .int .u64 6747795201694173352, .int .u64 5204712524664259685, .bool false] 28) ∧ b < W1.heap.size) := ⟨hbk, hlk⟩
  clear hW1 hbk hlk
  gi_wp2_with (first | (refine ⟨trivial, ?_⟩; gi_at_call 34; refine (callsIn_wide.2 KN.out).mono ?_; rintro e w2 ⟨rfl, hb2⟩; have H2 : Hid (Below W1.heap.size W1 w2) := hb2; clear hb2 KN) | (refine ⟨trivial, ?_⟩; gi_at_call 35; refine (callsIn_wide.2 (KP.out w2)).mono ?_; rintro e w3 ⟨rfl, hw3⟩; clear KP))
  obtain ⟨W4, hW4⟩ : ∃ W4, W4 = w2.alloc (.cells #[.slice (some ⟨b, 0, none⟩) 1 1] 32) := ⟨_, rfl⟩
  obtain ⟨C, hC⟩ : ∃ C, C = w2.heap.size := ⟨_, rfl⟩
  have H4 : Hid (Below w.heap.size w W4 ∧ W4.cell? ⟨C, 0, none⟩ = some (.slice (some ⟨b, 0, none⟩) 1 1) ∧ C < W4.heap.size ∧ W4.heap[b]? = some (.cells #[.int .i64 1, .int .u64 6481385041966929816, .int .u64 188021827762530521, .int .u64 6170039885052185351, .int .u64 8772561819708210092, .int .u64 11261198710074299576, .int .u64 18237243440184513561, .int .u64 6747795201694173352, .int .u64 5204712524664259685, .bool false, .int .u64 6481385041966929816, .int .u64 188021827762530521, .int .u64 6170039885052185351, .int .u64 8772561819708210092, .int .u64 11261198710074299576, .int .u64 18237243440184513561, .int .u64 6747795201694173352, .int .u64 5204712524664259685, .bool false] 28) ∧ b < W4.heap.size ∧ Boxed W4 w.heap.size 35 (.int .i64 0)) := by
    have hb4 : Below W1.heap.size W1 W4 := by
      rw [hW4]
      exact below_alloc0 H2.out _
    rw [show C = w2.heap.size from hC]
    refine ⟨H1.out.2.1.trans (hb4.mono H1.out.2.1.size), ?_, ?_, (hb4.block b HK.out.2).trans HK.out.1, Nat.lt_of_lt_of_le HK.out.2 hb4.size, (hb4.block _ (by rw [H1.out.2.2.1]; omega)).trans HX.out⟩
    · rw [hW4]
      exact World.cell?_alloc_new ..
    · rw [hW4]
      simp
  rw [← hW4, ← hC]
  clear hw3 w3 hW4 hC H2 HX HK H1
  refine wpIn_rangeFunc_ownH rfl (by decide) (gf := 50) (lb := #[.pointer (some ⟨C, 0, none⟩)]) rfl trivial (enters_of Tryz.func50 (by kernel_rfl) rfl)
    (points1_stops Fence.wide 2 trivial rfl (by decide) C b W4 H4.out.2.2.1 H4.out.2.2.2.2.1 H4.out.2.1 H4.out.2.2.2.1) (fun h k => KpC.trans h k) (KpC.put (w := W4)) (Below.refl _ _) (fun _ => rfl)
    (fun _ W => Boxed W w.heap.size 35 (.int .i64 0) ∧ Below w.heap.size w W) (fun _ _ _ => False)
    (OwnFrom.and (Own.from (boxed_own _ _ (fun _ => .int .i64 0)) _) (ownFrom_below (Nat.le_refl _) H4.out.1.size))
    (fun _ _ _ _ _ hs _ _ => hs)
    ⟨H4.out.2.2.2.2.2, H4.out.1⟩
    (fun _ a' W => ∃ Bx, w.heap.size < Bx ∧ W.heap[Bx]? = some (.cells #[.int .u64 6481385041966929816, .int .u64 188021827762530521, .int .u64 6170039885052185351, .int .u64 8772561819708210092, .int .u64 11261198710074299576, .int .u64 18237243440184513561, .int .u64 6747795201694173352, .int .u64 5204712524664259685, .bool false] 26) ∧ a' = { tmps := #[.slice (some ⟨b, 0, none⟩) 1 1, undef, .pointer (some ⟨w.heap.size, 0, none⟩), .pointer (some ⟨Bx, 0, none⟩), undef, .slice (some ⟨b, 0, none⟩) 1 1, .bool true, .bool false, .slice (some ⟨b, 0, none⟩) 1 1, .func (.func 50) #[] #[.pointer (some ⟨C, 0, none⟩)], .agg #[.int .u64 6481385041966929816, .int .u64 188021827762530521, .int .u64 6170039885052185351, .int .u64 8772561819708210092, .int .u64 11261198710074299576, .int .u64 18237243440184513561, .int .u64 6747795201694173352, .int .u64 5204712524664259685, .bool false], undef, undef, undef, undef, undef], defers := [] })
    (fun x a' _ X Y row hs hg hr => by
      obtain ⟨Bx, h1, h2, h3⟩ := hs
      refine ⟨Bx, h1, (hg.block Bx (Array.getElem?_eq_some_iff.1 h2).1 (fun e => ?_)).trans h2, h3⟩
      obtain ⟨o, ho, hc⟩ := (hr Bx e.symm).2
      rw [h2] at ho
      cases ho
      cases hc)
    ?assign ?body ?done ?stop
  case assign =>
    rintro l pre x W K ⟨hx1, hB1⟩ hK
    have HS : Hid ((storeVar 26 ⟨W.heap.size, 0, none⟩ (.agg #[.int .u64 6481385041966929816, .int .u64 188021827762530521, .int .u64 6170039885052185351, .int .u64 8772561819708210092, .int .u64 11261198710074299576, .int .u64 18237243440184513561, .int .u64 6747795201694173352, .int .u64 5204712524664259685, .bool false])).run Tryz.prog (W.alloc (.cells #[.int .u64 0, .int .u64 0, .int .u64 0, .int .u64 0, .int .u64 0, .int .u64 0, .int .u64 0, .int .u64 0, .bool false] 26)) = .ok () (W.alloc (.cells #[.int .u64 6481385041966929816, .int .u64 188021827762530521, .int .u64 6170039885052185351, .int .u64 8772561819708210092, .int .u64 11261198710074299576, .int .u64 18237243440184513561, .int .u64 6747795201694173352, .int .u64 5204712524664259685, .bool false] 26))) := run_storeVar_new W 26 #[.int .u64 0, .int .u64 0, .int .u64 0, .int .u64 0, .int .u64 0, .int .u64 0, .int .u64 0, .int .u64 0, .bool false] #[.int .u64 6481385041966929816, .int .u64 188021827762530521, .int .u64 6170039885052185351, .int .u64 8772561819708210092, .int .u64 11261198710074299576, .int .u64 18237243440184513561, .int .u64 6747795201694173352, .int .u64 5204712524664259685, .bool false] (by kernel_rfl) rfl (by kernel_rfl)
    gi_wp2_with ((with_reducible refine store_in (b := W.heap.size) (x := 3) (y := 10) ?_ ?_ ?_ ?_ HS.out ?_); rfl; rfl; rfl; rfl)
    exact hK _ _ ((KeepsOthers.alloc _ _).from _) (KpC.of_below (below_alloc0 (Below.refl _ _) _)) ⟨hx1.alloc _, below_alloc0 hB1 _⟩ ⟨W.heap.size, hx1.lt, heap_alloc_last W _, rfl⟩
  case body =>
    rintro l pre x a' W hl ⟨r, hr⟩ ⟨hx1, hB1⟩ ⟨Bx, hBx, bX, rfl⟩ hlt
    have HL : Hid ((loadVar 26 ⟨Bx, 0, none⟩).run Tryz.prog W = .ok (.agg #[.int .u64 6481385041966929816, .int .u64 188021827762530521, .int .u64 6170039885052185351, .int .u64 8772561819708210092, .int .u64 11261198710074299576, .int .u64 18237243440184513561, .int .u64 6747795201694173352, .int .u64 5204712524664259685, .bool false]) W) := run_loadVar_row (P := Tryz.prog) _ _ _ _ _ _ _ bX Tryz.underlying26 rfl (by kernel_rfl)
    have KW : Hid _ := KF.out W (KG.out _ _ H0.out.1 hB1)
    have HI : Hid (Boxed W w.heap.size 35 (.int .i64 0) ∧ Below w.heap.size w W) := ⟨hx1, hB1⟩
    clear hx1 hB1 hr
    gi_wp2_with (first | ((with_reducible refine load_in (b := Bx) (x := 3) ?_ ?_ ?_ HL.out ?_); rfl; rfl; rfl) | (refine ⟨trivial, ?_⟩; gi_at_call 36; refine (CallsIn.inRound l (callsIn_wide.2 KW.out)).mono ?_; rintro e w5 ⟨rfl, hb5⟩; have H5 : Hid (Below W.heap.size W w5) := hb5; clear hb5))
    exact ⟨⟨H5.out.size, fun k o _ hk _ => (H5.out.block k (Array.getElem?_eq_some_iff.1 hk).1).trans hk⟩, KpC.of_below H5.out, (H5.out.block _ HI.out.1.lt).trans HI.out.1, below_call0 HI.out.2 H5.out⟩
  case done =>
    rintro D zs W hD rfl ⟨hx1, hB1⟩ hK
    have c0 := hx1.cell
    have z0 := hx1.frozen
    gi_wp2
    have bX := hx1.set (.int .i64 0)
    have hK2 : (W.setCell ⟨w.heap.size, 0, none⟩ (.int .i64 0)).heap[D]? = some (.deferred (some [])) := (KeepsOthers.setCell _ _ _).same D _ hK rfl
    refine ⟨by simp, .inl ⟨_, _, rfl, run_takeDeferred hK2, ?_⟩⟩
    have hc5 := cell_kept bX.cell (grownBy_putObj' _ D (.deferred none)) (fun r e => by cases e; exact ⟨_, hK2, rfl⟩)
    refine ⟨.int .i64 0, ?_, rfl, (hB1.setCell (p := ⟨w.heap.size, 0, none⟩) (Nat.le_refl _) _).trans (belowK_b (w := w) (Nat.le_refl _) _ D _ _ (Nat.le_trans H4.out.1.size hD) hK2 rfl rfl)⟩
    simp [results, Tryz.results21, go_sem, hc5]
  case stop =>
    rintro D c pre W _ _ h _
    exact h.elim
end Go.Proofs.YtlebhdckgcjacaaGreatDoor
