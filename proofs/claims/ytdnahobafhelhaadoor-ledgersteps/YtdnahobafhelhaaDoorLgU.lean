/- Package ledger: a drawn region in a round; told; Read. -/
import Derived.Test.YtdnahobafhelhaaDoorLgT
import Derived.Test.YtdnahobafhelhaaDoorPcC
import Derived.Test.YtdnahobafhelhaaDoorRowV
namespace Go.Proofs.YtdnahobafhelhaaDoor
open Go Go.RowKit Go.Lib Go.Shelf
attribute [local go_sem] Oper.semAt_some

theorem owpIn_round {P : Program} {o : Oper} {a : Act} {w : World} {K : Act → World → Prop} {Q : Exit → Act → World → Prop} {l m : Nat} (hd : ∀ c, o.op ≠ .defer c) (h : Oper.wp P o a w K Q) : Oper.wpIn (Fence.wide.inRound l) m P o a w K Q := by
  refine ⟨fun f _ => trivial, ?_⟩
  rw [Oper.semAt_eq _ _ _ hd]
  unfold Oper.wp at h
  generalize (execOp a.eval o).run P w = r at h
  cases r with
  | ok x w' =>
    cases x with
    | value v => exact h
    | skip => exact h
    | defer d => exact h
    | enter f args => exact ⟨fun q => (by cases q), CallsIn.inRound l (callsIn_wide.2 h)⟩
    | row row args => exact ⟨fun q => (by cases q), fun c cs _ => let ⟨v, w', r, s⟩ := h c cs; ⟨v, w', r, stepsIn_wide.2 s⟩⟩
    | _ => exact h.elim
  | halt x w' => cases x <;> exact h
def noDefer (ops : Array Oper) : Bool := ops.toList.all fun o => match o.op with | .defer _ => false | _ => true
theorem wpAnyIn_round {P : Program} {ops : Array Oper} {Q : Exit → Act → World → Prop} {md : Region.Mode} {l m : Nat} (hd : noDefer ops = true) (hL : ¬ LetsOut Q) : ∀ (fuel : Nat) (listed : Array Bool) (a : Act) (w : World), wpAny P md ops Q fuel listed a w → wpAnyIn (Fence.wide.inRound l) m P md ops Q fuel listed a w
  | 0, _, _, _, h => h
  | fuel + 1, listed, a, w, h => ⟨h.1, fun i hi => by
      have h2 := h.2 i hi
      unfold wpOp at h2
      unfold wpOpIn
      cases e : ops[i]? with
      | none => simp only [e] at h2; exact wpAnyIn_round hd hL fuel _ _ _ h2
      | some o =>
        have hdo : ∀ c, o.op ≠ .defer c := fun c hc => by
          have := List.all_eq_true.1 hd o (by rw [Array.mem_toList_iff]; exact Array.mem_of_getElem? e)
          rw [hc] at this
          cases this
        simp only [e] at h2
        by_cases hw : Region.wanted o (yielded ops a.tmps) = true
        · simp only [hw, if_true]
          have h3 : Oper.wp P o a w (wpAny P md ops Q fuel (listed.setIfInBounds i true)) Q := by
            simp only [hw, if_true] at h2
            exact h2.resolve_right (fun q => hL q.2)
          exact owpIn_round hdo (Oper.wp_mono (fun a' w' q => wpAnyIn_round hd hL fuel _ a' w' q) h3)
        · simp only [hw]
          have h3 : wpAny P md ops Q fuel (listed.setIfInBounds i true) (a.put o.dst undef) w := by simpa [hw] using h2
          exact ⟨fun f _ => trivial, wpAnyIn_round hd hL fuel _ _ _ h3⟩⟩
theorem wpIn_region_R {P : Program} {ops : Array Oper} {Q : Exit → Act → World → Prop} {l m id : Nat} {a : Act} {w : World} (S : World → Prop) (n N : Nat) (hN : ops.size = N) (hm : P.follows .mixedOrders = true) (hd : noDefer ops = true) (hL : ¬ LetsOut Q)
    (h : wpAnyN P .any ops Q S n N (Array.replicate N false) a w.drew) : (Code.region id ops true).wpIn (Fence.wide.inRound l) m P Q a w := by
  subst hN
  exact wpIn_region_any hm (wpAnyIn_round hd hL _ _ _ _ (wpAny_of_N _ _ _ _ h))
theorem told_box (b : ByteArray) (w : World) : Calls Tryd.prog 24 #[.string b] w fun e w' => e = .returned (.func (.func 33) #[] #[.pointer (some ⟨w.heap.size, 0, none⟩)]) ∧ w' = w.alloc (.cells #[.string b] 9) := by
  go_enter Tryd.func24, Tryd.ntmps24
  go_wp2
  go_ret
  exact ⟨rfl, rfl⟩
end Go.Proofs.YtdnahobafhelhaaDoor
