/- The statement SchnorrHolds' walk. -/
import Derived.Test.YtchphekaonnfeaaDoorScJ
import Derived.Test.YtchphekaonnfeaaDoorMgF
namespace Go.Proofs.YtchphekaonnfeaaDoor
open Go Go.RowKit Go.Lib
theorem zsig_eq (w : World) : (Op.equalIn 10000 30 (.agg #[.int .u64 0, .int .u64 0, .int .u64 0, .int .u64 0, .int .u64 0, .int .u64 0, .int .u64 0, .int .u64 0, .bool false, .int .u64 0, .int .u64 0, .int .u64 0, .int .u64 0]) (.agg #[.int .u64 0, .int .u64 0, .int .u64 0, .int .u64 0, .int .u64 0, .int .u64 0, .int .u64 0, .int .u64 0, .bool false, .int .u64 0, .int .u64 0, .int .u64 0, .int .u64 0])).run Tryd.prog w = .ok true w := by kernel_rfl
theorem Bl.setCell {w : World} {b o : Nat} {vs : List Value} {t : TypeId} (h : Bl w b vs t) (v : Value) : Bl (w.setCell ⟨b, o, none⟩ v) b (vs.set o v) t := by
  have h' : w.heap[b]? = some (.cells vs.toArray t) := h
  show (w.setCell ⟨b, o, none⟩ v).heap[b]? = some (.cells (vs.set o v).toArray t)
  simp [World.setCell, Array.getElem?_modify, h']
def setL : List Value → Nat → List Value → List Value
  | vs, _, [] => vs
  | vs, o, v :: r => setL (vs.set o v) (o + 1) r
theorem Bl.setCells {b : Nat} {t : TypeId} : ∀ (us : List Value) (o : Nat) (vs : List Value) (w : World), Bl w b vs t → Bl (w.setCells b o us) b (setL vs o us) t
  | [], _, _, _, h => h
  | v :: r, o, vs, w, h => Bl.setCells r (o + 1) (vs.set o v) (w.setCell ⟨b, o, none⟩ v) (h.setCell v)
theorem below_cellsK {B b : Nat} {a : World} (hb : B ≤ b) : ∀ (vs : List Value) (o : Nat) (w : World), Below B a w → Below B a (w.setCells b o vs)
  | [], _, _, h => h
  | v :: r, o, _, h => below_cellsK hb r (o + 1) _ (h.setCell (p := ⟨b, o, none⟩) hb v)
theorem Bl.storeAt {w : World} {b : Nat} {vs : List Value} {t ty : TypeId} (h : Bl w b vs t) (k : Nat) (us : List Value) (hl : k + us.length ≤ vs.length) (hi : (Tryd.prog.info? ty).map (·.size) = some us.length) (h1 : us.toArray.all (·.oneCell') = true) : (storeVar ty ⟨b, k, none⟩ (.agg us.toArray)).run Tryd.prog w = .ok () (w.setCells b k us) :=
  run_storeVar_mid w b k ty us.toArray (fun j hj => by
    have hj' : j < us.length := by simpa using hj
    have hlt : k + j < vs.length := by omega
    have c : w.cell? ⟨b, k + j, none⟩ = some (vs[k + j]'hlt) := h.cells (k + j) _ (List.getElem?_eq_getElem hlt)
    have h' : w.heap[b]? = some (.cells vs.toArray t) := h
    exact ⟨by rw [c]; rfl, by simp [World.frozen?, h']⟩) (by simpa using hi) h1
set_option maxRecDepth 100000 in
set_option maxHeartbeats 4000000 in
theorem holds_err (x k u : Nat) (m : ByteArray) (E : Int) (hx : x < R256) (hk : k < R256) (hE : E = fErr [scE x, scE k, nzE x, nzE k, shE m]) (hne : E ≠ 0) (w : World) (hG : GS w) :
    Calls Tryd.prog 3 #[.agg #[.int .u64 (limb x 0 : Nat), .int .u64 (limb x 1 : Nat), .int .u64 (limb x 2 : Nat), .int .u64 (limb x 3 : Nat), .int .u64 (limb k 0 : Nat), .int .u64 (limb k 1 : Nat), .int .u64 (limb k 2 : Nat), .int .u64 (limb k 3 : Nat)], .agg #[.int .u64 (limb u 0 : Nat), .int .u64 (limb u 1 : Nat), .int .u64 (limb u 2 : Nat), .int .u64 (limb u 3 : Nat)], .string m] w fun e w' => e = .returned (.bool true) ∧ Below w.heap.size w w' := by
  have KS : Hid (∀ w, GS w → Calls Tryd.prog 5 #[.agg #[.int .u64 (limb x 0 : Nat), .int .u64 (limb x 1 : Nat), .int .u64 (limb x 2 : Nat), .int .u64 (limb x 3 : Nat)], .agg #[.int .u64 (limb k 0 : Nat), .int .u64 (limb k 1 : Nat), .int .u64 (limb k 2 : Nat), .int .u64 (limb k 3 : Nat)], .string m] w fun e w' => e = .returned (.tuple #[.agg #[.int .u64 0, .int .u64 0, .int .u64 0, .int .u64 0, .int .u64 0, .int .u64 0, .int .u64 0, .int .u64 0, .bool false, .int .u64 0, .int .u64 0, .int .u64 0, .int .u64 0], .int .i64 E]) ∧ Below w.heap.size w w') := fun w h => sign_bad x k m E hx hk hE hne w h
  obtain ⟨a, b, i, f, KP⟩ : ∃ (a b : Nat) (i : Bool) (f : Int), Hid (∀ w, GS w → Calls Tryd.prog 6 #[.agg #[.int .u64 (limb x 0 : Nat), .int .u64 (limb x 1 : Nat), .int .u64 (limb x 2 : Nat), .int .u64 (limb x 3 : Nat)]] w fun e w' => e = .returned (.tuple #[.agg #[.int .u64 (limb a 0 : Nat), .int .u64 (limb a 1 : Nat), .int .u64 (limb a 2 : Nat), .int .u64 (limb a 3 : Nat), .int .u64 (limb b 0 : Nat), .int .u64 (limb b 1 : Nat), .int .u64 (limb b 2 : Nat), .int .u64 (limb b 3 : Nat), .bool i], .int .i64 f]) ∧ Below w.heap.size w w') := by
    by_cases c : fErr [scE x, nzE x] = 0
    · have c1 : x < QQ := by
        by_cases d : x < QQ
        · exact d
        · have e : scE x = 20 := if_neg d
          rw [e] at c
          have e2 : fErr [20, nzE x] = 20 := by
            show (if (20 : Int) = 0 then _ else (20 : Int)) = 20
            exact if_neg (by decide)
          rw [e2] at c
          exact absurd c (by decide)
      have c2 : 0 < x := by
        by_cases d : x = 0
        · have e : scE x = 0 := scE_in c1
          have e' : nzE x = 21 := if_pos d
          rw [e, e'] at c
          exact absurd c (by decide)
        · omega
      exact ⟨_, _, _, _, fun w h => pub_ok x _ c2 c1 rfl w h.1⟩
    · refine ⟨0, 0, false, fErr [scE x, nzE x], fun w h => ?_⟩
      rw [show ((limb 0 0 : Nat) : Int) = 0 by kernel_rfl, show ((limb 0 1 : Nat) : Int) = 0 by kernel_rfl, show ((limb 0 2 : Nat) : Int) = 0 by kernel_rfl, show ((limb 0 3 : Nat) : Int) = 0 by kernel_rfl]
      exact pub_bad x _ hx rfl c w h.1
  have KA : Hid _ := abc_ok
  have e1 : (E != 0) = true := by simpa using hne
  have e2 : (E == 0) = false := by simpa using hne
  have e3 : decide (E = 0) = false := decide_eq_false hne
  have hqs : ∀ w : World, (Op.equalIn 10000 30 (.agg #[.int .u64 0, .int .u64 0, .int .u64 0, .int .u64 0, .int .u64 0, .int .u64 0, .int .u64 0, .int .u64 0, .bool false, .int .u64 0, .int .u64 0, .int .u64 0, .int .u64 0]) (.agg #[.int .u64 0, .int .u64 0, .int .u64 0, .int .u64 0, .int .u64 0, .int .u64 0, .int .u64 0, .int .u64 0, .bool false, .int .u64 0, .int .u64 0, .int .u64 0, .int .u64 0])).run Tryd.prog w = .ok true w := fun w => zsig_eq w
  have HQ : Hid _ := hqs
  clear hqs hx hk hE hne
  obtain ⟨N, hN⟩ : ∃ N, N = w.heap.size := ⟨_, rfl⟩
  obtain ⟨W0, hW0⟩ : ∃ W, W = (w.alloc (.cells #[.int .u64 (limb x 0 : Nat), .int .u64 (limb x 1 : Nat), .int .u64 (limb x 2 : Nat), .int .u64 (limb x 3 : Nat), .int .u64 (limb k 0 : Nat), .int .u64 (limb k 1 : Nat), .int .u64 (limb k 2 : Nat), .int .u64 (limb k 3 : Nat)] 26)).alloc (.cells #[.int .u64 (limb u 0 : Nat), .int .u64 (limb u 1 : Nat), .int .u64 (limb u 2 : Nat), .int .u64 (limb u 3 : Nat)] 24) := ⟨_, rfl⟩
  have H0 : Hid (Below w.heap.size w W0 ∧ Bl W0 N [.int .u64 (limb x 0 : Nat), .int .u64 (limb x 1 : Nat), .int .u64 (limb x 2 : Nat), .int .u64 (limb x 3 : Nat), .int .u64 (limb k 0 : Nat), .int .u64 (limb k 1 : Nat), .int .u64 (limb k 2 : Nat), .int .u64 (limb k 3 : Nat)] 26 ∧ Bl W0 (N + 1) [.int .u64 (limb u 0 : Nat), .int .u64 (limb u 1 : Nat), .int .u64 (limb u 2 : Nat), .int .u64 (limb u 3 : Nat)] 24 ∧ GS W0) := by
    have hb : Below w.heap.size w W0 := by
      rw [hW0]
      exact below_alloc0 (below_alloc0 (Below.refl _ _) _) _
    have e0 := Bl.new (w) [.int .u64 (limb x 0 : Nat), .int .u64 (limb x 1 : Nat), .int .u64 (limb x 2 : Nat), .int .u64 (limb x 3 : Nat), .int .u64 (limb k 0 : Nat), .int .u64 (limb k 1 : Nat), .int .u64 (limb k 2 : Nat), .int .u64 (limb k 3 : Nat)] 26
    have a0 : Below (w).heap.size (w) ((w).alloc (.cells [.int .u64 (limb x 0 : Nat), .int .u64 (limb x 1 : Nat), .int .u64 (limb x 2 : Nat), .int .u64 (limb x 3 : Nat), .int .u64 (limb k 0 : Nat), .int .u64 (limb k 1 : Nat), .int .u64 (limb k 2 : Nat), .int .u64 (limb k 3 : Nat)].toArray 26)) := below_alloc0 (Below.refl _ _) _
    have e1 := Bl.new ((w).alloc (.cells [.int .u64 (limb x 0 : Nat), .int .u64 (limb x 1 : Nat), .int .u64 (limb x 2 : Nat), .int .u64 (limb x 3 : Nat), .int .u64 (limb k 0 : Nat), .int .u64 (limb k 1 : Nat), .int .u64 (limb k 2 : Nat), .int .u64 (limb k 3 : Nat)].toArray 26)) [.int .u64 (limb u 0 : Nat), .int .u64 (limb u 1 : Nat), .int .u64 (limb u 2 : Nat), .int .u64 (limb u 3 : Nat)] 24
    have a1 : Below ((w).alloc (.cells [.int .u64 (limb x 0 : Nat), .int .u64 (limb x 1 : Nat), .int .u64 (limb x 2 : Nat), .int .u64 (limb x 3 : Nat), .int .u64 (limb k 0 : Nat), .int .u64 (limb k 1 : Nat), .int .u64 (limb k 2 : Nat), .int .u64 (limb k 3 : Nat)].toArray 26)).heap.size ((w).alloc (.cells [.int .u64 (limb x 0 : Nat), .int .u64 (limb x 1 : Nat), .int .u64 (limb x 2 : Nat), .int .u64 (limb x 3 : Nat), .int .u64 (limb k 0 : Nat), .int .u64 (limb k 1 : Nat), .int .u64 (limb k 2 : Nat), .int .u64 (limb k 3 : Nat)].toArray 26)) (((w).alloc (.cells [.int .u64 (limb x 0 : Nat), .int .u64 (limb x 1 : Nat), .int .u64 (limb x 2 : Nat), .int .u64 (limb x 3 : Nat), .int .u64 (limb k 0 : Nat), .int .u64 (limb k 1 : Nat), .int .u64 (limb k 2 : Nat), .int .u64 (limb k 3 : Nat)].toArray 26)).alloc (.cells [.int .u64 (limb u 0 : Nat), .int .u64 (limb u 1 : Nat), .int .u64 (limb u 2 : Nat), .int .u64 (limb u 3 : Nat)].toArray 24)) := below_alloc0 (Below.refl _ _) _
    rw [World.size_alloc] at e1
    refine ⟨hb, ?_, ?_, hG.call hb⟩
    · rw [hW0, hN]
      exact (e0.call a1)
    · rw [hW0, hN]
      exact e1
  have HW : Hid (W0 = (w.alloc (.cells #[.int .u64 (limb x 0 : Nat), .int .u64 (limb x 1 : Nat), .int .u64 (limb x 2 : Nat), .int .u64 (limb x 3 : Nat), .int .u64 (limb k 0 : Nat), .int .u64 (limb k 1 : Nat), .int .u64 (limb k 2 : Nat), .int .u64 (limb k 3 : Nat)] 26)).alloc (.cells #[.int .u64 (limb u 0 : Nat), .int .u64 (limb u 1 : Nat), .int .u64 (limb u 2 : Nat), .int .u64 (limb u 3 : Nat)] 24) ∧ N = w.heap.size) := ⟨hW0, hN⟩
  clear hW0 hN hG 
  go_enter Tryd.func3, Tryd.ntmps3
  go_upto_region 1 with fail
  rw [← HW.out.1, ← HW.out.2]
  clear HW
  have L1 : Hid ((loadVar 24 ⟨N, 0, none⟩).run Tryd.prog W0 = .ok (.agg #[.int .u64 (limb x 0 : Nat), .int .u64 (limb x 1 : Nat), .int .u64 (limb x 2 : Nat), .int .u64 (limb x 3 : Nat)]) W0) := H0.out.2.1.loadAt 0 [.int .u64 (limb x 0 : Nat), .int .u64 (limb x 1 : Nat), .int .u64 (limb x 2 : Nat), .int .u64 (limb x 3 : Nat)] ⟨rfl, rfl⟩ Tryd.underlying24 rfl (by kernel_rfl)
  have L2 : Hid ((loadVar 24 ⟨N, 4, none⟩).run Tryd.prog W0 = .ok (.agg #[.int .u64 (limb k 0 : Nat), .int .u64 (limb k 1 : Nat), .int .u64 (limb k 2 : Nat), .int .u64 (limb k 3 : Nat)]) W0) := H0.out.2.1.loadAt 4 [.int .u64 (limb k 0 : Nat), .int .u64 (limb k 1 : Nat), .int .u64 (limb k 2 : Nat), .int .u64 (limb k 3 : Nat)] ⟨rfl, rfl⟩ Tryd.underlying24 rfl (by kernel_rfl)
  go_wp2_with (first | ((with_reducible refine load_to (b := N) (k := 0) (x := 14) ?_ ?_ ?_ L1.out ?_); rfl; rfl; rfl) | ((with_reducible refine load_to (b := N) (k := 4) (x := 16) ?_ ?_ ?_ L2.out ?_); rfl; rfl; rfl))
  refine (KS.out _ H0.out.2.2.2).mono ?_
  rintro e w1 ⟨rfl, hb1⟩
  have I1 : Hid (Below w.heap.size w w1 ∧ Bl w1 N [.int .u64 (limb x 0 : Nat), .int .u64 (limb x 1 : Nat), .int .u64 (limb x 2 : Nat), .int .u64 (limb x 3 : Nat), .int .u64 (limb k 0 : Nat), .int .u64 (limb k 1 : Nat), .int .u64 (limb k 2 : Nat), .int .u64 (limb k 3 : Nat)] 26 ∧ GS w1) := ⟨below_call0 H0.out.1 hb1, H0.out.2.1.call hb1, H0.out.2.2.2.call hb1⟩
  clear hb1 KS L1 L2 H0
  obtain ⟨A, hA⟩ : ∃ b, b = w1.heap.size := ⟨_, rfl⟩
  have HS : Hid ((storeVar 30 ⟨A, 0, none⟩ (.agg #[.int .u64 0, .int .u64 0, .int .u64 0, .int .u64 0, .int .u64 0, .int .u64 0, .int .u64 0, .int .u64 0, .bool false, .int .u64 0, .int .u64 0, .int .u64 0, .int .u64 0])).run Tryd.prog (w1.alloc (.cells #[.int .u64 0, .int .u64 0, .int .u64 0, .int .u64 0, .int .u64 0, .int .u64 0, .int .u64 0, .int .u64 0, .bool false, .int .u64 0, .int .u64 0, .int .u64 0, .int .u64 0] 30)) = .ok () ((w1.alloc (.cells #[.int .u64 0, .int .u64 0, .int .u64 0, .int .u64 0, .int .u64 0, .int .u64 0, .int .u64 0, .int .u64 0, .bool false, .int .u64 0, .int .u64 0, .int .u64 0, .int .u64 0] 30)).setRow A #[.int .u64 0, .int .u64 0, .int .u64 0, .int .u64 0, .int .u64 0, .int .u64 0, .int .u64 0, .int .u64 0, .bool false, .int .u64 0, .int .u64 0, .int .u64 0, .int .u64 0])) := by
    rw [hA]
    exact (Bl.new w1 [.int .u64 0, .int .u64 0, .int .u64 0, .int .u64 0, .int .u64 0, .int .u64 0, .int .u64 0, .int .u64 0, .bool false, .int .u64 0, .int .u64 0, .int .u64 0, .int .u64 0] 30).store (us := [.int .u64 0, .int .u64 0, .int .u64 0, .int .u64 0, .int .u64 0, .int .u64 0, .int .u64 0, .int .u64 0, .bool false, .int .u64 0, .int .u64 0, .int .u64 0, .int .u64 0]) (by kernel_rfl) rfl (by kernel_rfl)
  have HA : Hid (A = w1.heap.size) := hA
  clear hA
  go_upto_region 2 with (first | ((rw [← HA.out]); (with_reducible refine store_to (b := A) (k := 0) (x := 7) (y := 20) ?_ ?_ ?_ ?_ HS.out ?_); rfl; rfl; rfl; rfl) | ((with_reducible refine store_to (b := A) (k := 0) (x := 7) (y := 20) ?_ ?_ ?_ ?_ HS.out ?_); rfl; rfl; rfl; rfl))
  obtain ⟨W1, hW1⟩ : ∃ W, W = (w1.alloc (.cells #[.int .u64 0, .int .u64 0, .int .u64 0, .int .u64 0, .int .u64 0, .int .u64 0, .int .u64 0, .int .u64 0, .bool false, .int .u64 0, .int .u64 0, .int .u64 0, .int .u64 0] 30)).setRow A #[.int .u64 0, .int .u64 0, .int .u64 0, .int .u64 0, .int .u64 0, .int .u64 0, .int .u64 0, .int .u64 0, .bool false, .int .u64 0, .int .u64 0, .int .u64 0, .int .u64 0] := ⟨_, rfl⟩
  have BW1 : Hid (Below w1.heap.size w1 W1 ∧ Bl W1 A [.int .u64 0, .int .u64 0, .int .u64 0, .int .u64 0, .int .u64 0, .int .u64 0, .int .u64 0, .int .u64 0, .bool false, .int .u64 0, .int .u64 0, .int .u64 0, .int .u64 0] 30) := by
    rw [hW1, HA.out]
    exact ⟨below_setRow (Nat.le_refl _) _ (below_alloc0 (Below.refl _ _) _), (Bl.new w1 [.int .u64 0, .int .u64 0, .int .u64 0, .int .u64 0, .int .u64 0, .int .u64 0, .int .u64 0, .int .u64 0, .bool false, .int .u64 0, .int .u64 0, .int .u64 0, .int .u64 0] 30).put [.int .u64 0, .int .u64 0, .int .u64 0, .int .u64 0, .int .u64 0, .int .u64 0, .int .u64 0, .int .u64 0, .bool false, .int .u64 0, .int .u64 0, .int .u64 0, .int .u64 0]⟩
  rw [← hW1]
  clear hW1 HS
  have H1 : Hid (Below w.heap.size w W1 ∧ Bl W1 N [.int .u64 (limb x 0 : Nat), .int .u64 (limb x 1 : Nat), .int .u64 (limb x 2 : Nat), .int .u64 (limb x 3 : Nat), .int .u64 (limb k 0 : Nat), .int .u64 (limb k 1 : Nat), .int .u64 (limb k 2 : Nat), .int .u64 (limb k 3 : Nat)] 26 ∧ GS W1 ∧ Bl W1 A [.int .u64 0, .int .u64 0, .int .u64 0, .int .u64 0, .int .u64 0, .int .u64 0, .int .u64 0, .int .u64 0, .bool false, .int .u64 0, .int .u64 0, .int .u64 0, .int .u64 0] 30) := ⟨below_call0 I1.out.1 BW1.out.1, I1.out.2.1.call BW1.out.1, I1.out.2.2.call BW1.out.1, BW1.out.2⟩
  clear I1 BW1 HA
  have L1 : Hid ((loadVar 24 ⟨N, 0, none⟩).run Tryd.prog W1 = .ok (.agg #[.int .u64 (limb x 0 : Nat), .int .u64 (limb x 1 : Nat), .int .u64 (limb x 2 : Nat), .int .u64 (limb x 3 : Nat)]) W1) := H1.out.2.1.loadAt 0 [.int .u64 (limb x 0 : Nat), .int .u64 (limb x 1 : Nat), .int .u64 (limb x 2 : Nat), .int .u64 (limb x 3 : Nat)] ⟨rfl, rfl⟩ Tryd.underlying24 rfl (by kernel_rfl)
  go_wp2_with ((with_reducible refine load_to (b := N) (k := 0) (x := 23) ?_ ?_ ?_ L1.out ?_); rfl; rfl; rfl)
  refine (KP.out _ H1.out.2.2.1).mono ?_
  rintro e w2 ⟨rfl, hb2⟩
  have I2 : Hid (Below w.heap.size w w2 ∧ GS w2 ∧ Bl w2 A [.int .u64 0, .int .u64 0, .int .u64 0, .int .u64 0, .int .u64 0, .int .u64 0, .int .u64 0, .int .u64 0, .bool false, .int .u64 0, .int .u64 0, .int .u64 0, .int .u64 0] 30) := ⟨below_call0 H1.out.1 hb2, H1.out.2.2.1.call hb2, H1.out.2.2.2.call hb2⟩
  clear hb2 KP L1 H1
  obtain ⟨B, hB⟩ : ∃ b, b = w2.heap.size := ⟨_, rfl⟩
  have HS : Hid ((storeVar 28 ⟨B, 0, none⟩ (.agg #[.int .u64 (limb a 0 : Nat), .int .u64 (limb a 1 : Nat), .int .u64 (limb a 2 : Nat), .int .u64 (limb a 3 : Nat), .int .u64 (limb b 0 : Nat), .int .u64 (limb b 1 : Nat), .int .u64 (limb b 2 : Nat), .int .u64 (limb b 3 : Nat), .bool i])).run Tryd.prog (w2.alloc (.cells #[.int .u64 0, .int .u64 0, .int .u64 0, .int .u64 0, .int .u64 0, .int .u64 0, .int .u64 0, .int .u64 0, .bool false] 28)) = .ok () ((w2.alloc (.cells #[.int .u64 0, .int .u64 0, .int .u64 0, .int .u64 0, .int .u64 0, .int .u64 0, .int .u64 0, .int .u64 0, .bool false] 28)).setRow B #[.int .u64 (limb a 0 : Nat), .int .u64 (limb a 1 : Nat), .int .u64 (limb a 2 : Nat), .int .u64 (limb a 3 : Nat), .int .u64 (limb b 0 : Nat), .int .u64 (limb b 1 : Nat), .int .u64 (limb b 2 : Nat), .int .u64 (limb b 3 : Nat), .bool i])) := by
    rw [hB]
    exact (Bl.new w2 [.int .u64 0, .int .u64 0, .int .u64 0, .int .u64 0, .int .u64 0, .int .u64 0, .int .u64 0, .int .u64 0, .bool false] 28).store (us := [.int .u64 (limb a 0 : Nat), .int .u64 (limb a 1 : Nat), .int .u64 (limb a 2 : Nat), .int .u64 (limb a 3 : Nat), .int .u64 (limb b 0 : Nat), .int .u64 (limb b 1 : Nat), .int .u64 (limb b 2 : Nat), .int .u64 (limb b 3 : Nat), .bool i]) (by kernel_rfl) rfl (by kernel_rfl)
  have HA : Hid (B = w2.heap.size) := hB
  clear hB
  go_upto_region 3 with (first | ((rw [← HA.out]); (with_reducible refine store_to (b := B) (k := 0) (x := 9) (y := 26) ?_ ?_ ?_ ?_ HS.out ?_); rfl; rfl; rfl; rfl) | ((with_reducible refine store_to (b := B) (k := 0) (x := 9) (y := 26) ?_ ?_ ?_ ?_ HS.out ?_); rfl; rfl; rfl; rfl))
  obtain ⟨W2, hW2⟩ : ∃ W, W = (w2.alloc (.cells #[.int .u64 0, .int .u64 0, .int .u64 0, .int .u64 0, .int .u64 0, .int .u64 0, .int .u64 0, .int .u64 0, .bool false] 28)).setRow B #[.int .u64 (limb a 0 : Nat), .int .u64 (limb a 1 : Nat), .int .u64 (limb a 2 : Nat), .int .u64 (limb a 3 : Nat), .int .u64 (limb b 0 : Nat), .int .u64 (limb b 1 : Nat), .int .u64 (limb b 2 : Nat), .int .u64 (limb b 3 : Nat), .bool i] := ⟨_, rfl⟩
  have BW2 : Hid (Below w2.heap.size w2 W2 ∧ Bl W2 B [.int .u64 (limb a 0 : Nat), .int .u64 (limb a 1 : Nat), .int .u64 (limb a 2 : Nat), .int .u64 (limb a 3 : Nat), .int .u64 (limb b 0 : Nat), .int .u64 (limb b 1 : Nat), .int .u64 (limb b 2 : Nat), .int .u64 (limb b 3 : Nat), .bool i] 28) := by
    rw [hW2, HA.out]
    exact ⟨below_setRow (Nat.le_refl _) _ (below_alloc0 (Below.refl _ _) _), (Bl.new w2 [.int .u64 0, .int .u64 0, .int .u64 0, .int .u64 0, .int .u64 0, .int .u64 0, .int .u64 0, .int .u64 0, .bool false] 28).put [.int .u64 (limb a 0 : Nat), .int .u64 (limb a 1 : Nat), .int .u64 (limb a 2 : Nat), .int .u64 (limb a 3 : Nat), .int .u64 (limb b 0 : Nat), .int .u64 (limb b 1 : Nat), .int .u64 (limb b 2 : Nat), .int .u64 (limb b 3 : Nat), .bool i]⟩
  rw [← hW2]
  clear hW2 HS
  have H2 : Hid (Below w.heap.size w W2 ∧ GS W2 ∧ Bl W2 A [.int .u64 0, .int .u64 0, .int .u64 0, .int .u64 0, .int .u64 0, .int .u64 0, .int .u64 0, .int .u64 0, .bool false, .int .u64 0, .int .u64 0, .int .u64 0, .int .u64 0] 30) := ⟨below_call0 I2.out.1 BW2.out.1, I2.out.2.1.call BW2.out.1, I2.out.2.2.call BW2.out.1⟩
  clear I2 BW2 HA
  go_upto_region 4 with fail
  have L1 : Hid ((loadVar 30 ⟨A, 0, none⟩).run Tryd.prog W2 = .ok (.agg #[.int .u64 0, .int .u64 0, .int .u64 0, .int .u64 0, .int .u64 0, .int .u64 0, .int .u64 0, .int .u64 0, .bool false, .int .u64 0, .int .u64 0, .int .u64 0, .int .u64 0]) W2) := H2.out.2.2.load Tryd.underlying30 rfl (by kernel_rfl)
  have hqs := HQ.out
  go_wp2_with ((with_reducible refine load_to (b := A) (k := 0) (x := 7) ?_ ?_ ?_ L1.out ?_); rfl; rfl; rfl)
  refine (KA.out _ H2.out.2.1).mono ?_
  rintro e w3 ⟨rfl, hb3⟩
  have H3 : Hid (Below w.heap.size w w3) := below_call0 H2.out.1 hb3
  clear hb3 H2 L1 KA hqs
  go_wp2_with fail
  go_ret
  exact ⟨rfl, H3.out⟩
end Go.Proofs.YtchphekaonnfeaaDoor
