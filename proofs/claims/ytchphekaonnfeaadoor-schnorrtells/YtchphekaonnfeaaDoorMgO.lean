/- Several texts laid together. -/
import Derived.Test.YtchphekaonnfeaaDoorMgN
import Derived.Test.YtchphekaonnfeaaDoorMgC
import Derived.Test.YtchphekaonnfeaaDoorMgG
namespace Go.Proofs.YtchphekaonnfeaaDoor
open Go Go.RowKit Go.Lib
/-- A point's bytes. -/
def encS (a : Pts) : ByteArray := if pI a = true then z33 else encF (if pY a % 2 = 1 then 3 else 2) (pX a)
theorem encS_inf {a : Pts} (h : pI a = true) : encS a = z33 := if_pos h
theorem encS_even {a : Pts} (h : pI a = false) (p : pY a % 2 = 0) : encS a = encF 2 (pX a) := by
  unfold encS
  rw [if_neg (by rw [h]; decide), if_neg (by omega)]
theorem encS_odd {a : Pts} (h : pI a = false) (p : pY a % 2 = 1) : encS a = encF 3 (pX a) := by
  unfold encS
  rw [if_neg (by rw [h]; decide), if_pos p]
theorem enc_C (a : Pts) (w : World) (hG : GlobP w) : Calls Tryd.prog 36 #[.agg #[.int .u64 (limb (pX (a)) 0 : Nat), .int .u64 (limb (pX (a)) 1 : Nat), .int .u64 (limb (pX (a)) 2 : Nat), .int .u64 (limb (pX (a)) 3 : Nat), .int .u64 (limb (pY (a)) 0 : Nat), .int .u64 (limb (pY (a)) 1 : Nat), .int .u64 (limb (pY (a)) 2 : Nat), .int .u64 (limb (pY (a)) 3 : Nat), .bool (pI (a))]] w fun e w' => e = .returned (.tuple #[.string (encS a), .int .i64 0]) ∧ Below w.heap.size w w' := by
  have ok := pts_ok a
  have hx := lt_R (pX_lt a)
  have hy := lt_R (pY_lt a)
  cases hI : pI a with
  | true =>
    rw [hI] at ok
    rw [encS_inf hI]
    exact encode_infC _ _ hx hy ok w hG
  | false =>
    rw [hI] at ok
    rcases (show pY a % 2 = 0 ∨ pY a % 2 = 1 by omega) with p | p
    · rw [encS_even hI p]; exact encode_evenC _ _ hx hy ok p w hG
    · rw [encS_odd hI p]; exact encode_oddC _ _ hx hy ok p w hG
def tagC : ByteArray := ⟨#[119, 97, 114, 100, 109, 111, 116, 101, 47, 99, 104, 97, 108, 108, 101, 110, 103, 101]⟩
/-- The challenge of two points and a message. -/
def chN (R Y : Pts) (m : ByteArray) : Nat := scN (hashB tagC [encS R, encS Y, m])
theorem chN_lt (R Y : Pts) (m : ByteArray) : chN R Y m < QQ := Nat.mod_lt _ (of_decide_eq_true (by kernel_rfl))
theorem encS_33 (a : Pts) : (encS a).size = 33 := by
  have k : ∀ (c : UInt8) (x : Nat), (encF c x).size = 33 := fun c x => by
    unfold encF
    rw [ByteArray.size_append]
    show 1 + (bytesL x 32).toArray.size = 33
    rw [List.size_toArray, bytesL_length]
  unfold encS
  split
  · rfl
  · exact k _ _
/-- What the laid variables say. -/
def GS (w : World) : Prop := GA w ∧ GlobD w ∧ 6 < w.heap.size
theorem GS.call {w w' : World} (h : GS w) (hb : Below w.heap.size w w') : GS w' := ⟨h.1.call hb, h.2.1.call hb, Nat.lt_of_lt_of_le h.2.2 hb.size⟩
theorem strs_three {w : World} (x y z : ByteArray) (t : TypeId) : Strs (w.alloc (.cells #[.string x, .string y, .string z] t)) (some ⟨w.heap.size, 0, none⟩) [x, y, z] := fun j s hj => by
  match j, hj with
  | 0, hj =>
    simp at hj
    subst hj
    exact ⟨w.heap.size, 0, rfl, by simp [go_sem], by simp⟩
  | 1, hj =>
    simp at hj
    subst hj
    exact ⟨w.heap.size, 0, rfl, by simp [go_sem], by simp⟩
  | 2, hj =>
    simp at hj
    subst hj
    exact ⟨w.heap.size, 0, rfl, by simp [go_sem], by simp⟩
  | j + 3, hj => simp at hj
set_option maxRecDepth 100000 in
set_option maxHeartbeats 4000000 in
theorem chal_ok (R Y : Pts) (m : ByteArray) (c : Nat) (hm : m.size ≤ 4096) (hc : c = chN R Y m) (w : World) (hG : GS w) :
    Calls Tryd.prog 22 #[.agg #[.int .u64 (limb (pX R) 0 : Nat), .int .u64 (limb (pX R) 1 : Nat), .int .u64 (limb (pX R) 2 : Nat), .int .u64 (limb (pX R) 3 : Nat), .int .u64 (limb (pY R) 0 : Nat), .int .u64 (limb (pY R) 1 : Nat), .int .u64 (limb (pY R) 2 : Nat), .int .u64 (limb (pY R) 3 : Nat), .bool (pI R)], .agg #[.int .u64 (limb (pX Y) 0 : Nat), .int .u64 (limb (pX Y) 1 : Nat), .int .u64 (limb (pX Y) 2 : Nat), .int .u64 (limb (pX Y) 3 : Nat), .int .u64 (limb (pY Y) 0 : Nat), .int .u64 (limb (pY Y) 1 : Nat), .int .u64 (limb (pY Y) 2 : Nat), .int .u64 (limb (pY Y) 3 : Nat), .bool (pI Y)], .string m] w fun e w' => e = .returned (.agg #[.int .u64 (limb c 0 : Nat), .int .u64 (limb c 1 : Nat), .int .u64 (limb c 2 : Nat), .int .u64 (limb c 3 : Nat)]) ∧ Below w.heap.size w w' := by
  have KE : Hid (∀ (a : Pts) (w : World), GS w → Calls Tryd.prog 36 #[.agg #[.int .u64 (limb (pX a) 0 : Nat), .int .u64 (limb (pX a) 1 : Nat), .int .u64 (limb (pX a) 2 : Nat), .int .u64 (limb (pX a) 3 : Nat), .int .u64 (limb (pY a) 0 : Nat), .int .u64 (limb (pY a) 1 : Nat), .int .u64 (limb (pY a) 2 : Nat), .int .u64 (limb (pY a) 3 : Nat), .bool (pI a)]] w fun e w' => e = .returned (.tuple #[.string (encS a), .int .i64 0]) ∧ Below w.heap.size w w') := fun a w h => enc_C a w h.1.1
  have KD : Hid (∀ (b : Nat) (w : World), GS w → Strs w (some ⟨b, 0, none⟩) [encS R, encS Y, m] → Calls Tryd.prog 37 #[.string ⟨#[119, 97, 114, 100, 109, 111, 116, 101, 47, 99, 104, 97, 108, 108, 101, 110, 103, 101]⟩, .slice (some ⟨b, 0, none⟩) 3 3] w fun e w' => e = .returned (.tuple #[.agg #[.int .u64 (limb c 0 : Nat), .int .u64 (limb c 1 : Nat), .int .u64 (limb c 2 : Nat), .int .u64 (limb c 3 : Nat)], .int .i64 0]) ∧ Below w.heap.size w w') := fun b w h hs => by
    rw [hc]
    exact dscalar_in tagC (some ⟨b, 0, none⟩) [encS R, encS Y, m] 3 (by kernel_rfl) (by
      rw [hashB_size]
      have e : bytesN [encS R, encS Y, m] = 33 + (33 + (m.size + 0)) := by
        show (encS R).size + ((encS Y).size + (m.size + 0)) = _
        rw [encS_33, encS_33]
      have et : tagC.size = 18 := rfl
      rw [e, et]
      show 1 + (1 + 18 + 4 * 3 + _) < _
      omega) w hs h.2.1 h.2.2 h.1.2.1
  obtain ⟨N, hN⟩ : ∃ N, N = w.heap.size := ⟨_, rfl⟩
  obtain ⟨W1, hW1⟩ : ∃ W1, W1 = ((w.alloc (.cells #[.int .u64 (limb (pX R) 0 : Nat), .int .u64 (limb (pX R) 1 : Nat), .int .u64 (limb (pX R) 2 : Nat), .int .u64 (limb (pX R) 3 : Nat), .int .u64 (limb (pY R) 0 : Nat), .int .u64 (limb (pY R) 1 : Nat), .int .u64 (limb (pY R) 2 : Nat), .int .u64 (limb (pY R) 3 : Nat), .bool (pI R)] 28)).alloc (.cells #[.int .u64 (limb (pX Y) 0 : Nat), .int .u64 (limb (pX Y) 1 : Nat), .int .u64 (limb (pX Y) 2 : Nat), .int .u64 (limb (pX Y) 3 : Nat), .int .u64 (limb (pY Y) 0 : Nat), .int .u64 (limb (pY Y) 1 : Nat), .int .u64 (limb (pY Y) 2 : Nat), .int .u64 (limb (pY Y) 3 : Nat), .bool (pI Y)] 28)).alloc (.cells #[.int .u64 0, .int .u64 0, .int .u64 0, .int .u64 0] 24) := ⟨_, rfl⟩
  have H1 : Hid (Below w.heap.size w W1 ∧ Bl W1 N (ptsV R) 28 ∧ Bl W1 (N + 1) (ptsV Y) 28 ∧ Bl W1 (N + 1 + 1) [.int .u64 0, .int .u64 0, .int .u64 0, .int .u64 0] 24 ∧ GS W1 ∧ N = w.heap.size) := by
    have e1 := Bl.new w (ptsV R) 28
    have e2 := Bl.new (w.alloc (.cells (ptsV R).toArray 28)) (ptsV Y) 28
    have e3 := Bl.new ((w.alloc (.cells (ptsV R).toArray 28)).alloc (.cells (ptsV Y).toArray 28)) [.int .u64 0, .int .u64 0, .int .u64 0, .int .u64 0] 24
    have a2 : Below (w.alloc (.cells (ptsV R).toArray 28)).heap.size (w.alloc (.cells (ptsV R).toArray 28)) ((w.alloc (.cells (ptsV R).toArray 28)).alloc (.cells (ptsV Y).toArray 28)) := below_alloc0 (Below.refl _ _) _
    have a3 : Below ((w.alloc (.cells (ptsV R).toArray 28)).alloc (.cells (ptsV Y).toArray 28)).heap.size ((w.alloc (.cells (ptsV R).toArray 28)).alloc (.cells (ptsV Y).toArray 28)) (((w.alloc (.cells (ptsV R).toArray 28)).alloc (.cells (ptsV Y).toArray 28)).alloc (.cells [.int .u64 0, .int .u64 0, .int .u64 0, .int .u64 0].toArray 24)) := below_alloc0 (Below.refl _ _) _
    have hb : Below w.heap.size w W1 := by
      rw [hW1]
      exact below_alloc0 (below_alloc0 (below_alloc0 (Below.refl _ _) _) _) _
    rw [World.size_alloc] at e2
    rw [World.size_alloc, World.size_alloc] at e3
    refine ⟨hb, ?_, ?_, ?_, hG.call hb, hN⟩
    · rw [hW1, hN]
      exact (e1.call a2).call a3
    · rw [hW1, hN]
      exact e2.call a3
    · rw [hW1, hN]
      exact e3
  have HW : Hid (W1 = ((w.alloc (.cells #[.int .u64 (limb (pX R) 0 : Nat), .int .u64 (limb (pX R) 1 : Nat), .int .u64 (limb (pX R) 2 : Nat), .int .u64 (limb (pX R) 3 : Nat), .int .u64 (limb (pY R) 0 : Nat), .int .u64 (limb (pY R) 1 : Nat), .int .u64 (limb (pY R) 2 : Nat), .int .u64 (limb (pY R) 3 : Nat), .bool (pI R)] 28)).alloc (.cells #[.int .u64 (limb (pX Y) 0 : Nat), .int .u64 (limb (pX Y) 1 : Nat), .int .u64 (limb (pX Y) 2 : Nat), .int .u64 (limb (pX Y) 3 : Nat), .int .u64 (limb (pY Y) 0 : Nat), .int .u64 (limb (pY Y) 1 : Nat), .int .u64 (limb (pY Y) 2 : Nat), .int .u64 (limb (pY Y) 3 : Nat), .bool (pI Y)] 28)).alloc (.cells #[.int .u64 0, .int .u64 0, .int .u64 0, .int .u64 0] 24) ∧ N = w.heap.size) := ⟨hW1, hN⟩
  clear hW1 hG hc hm hN
  go_enter Tryd.func22, Tryd.ntmps22
  go_upto_region 1 with fail
  rw [← HW.out.1, ← HW.out.2]
  clear HW
  have L1 : Hid ((loadVar 28 ⟨N, 0, none⟩).run Tryd.prog W1 = .ok (.agg #[.int .u64 (limb (pX R) 0 : Nat), .int .u64 (limb (pX R) 1 : Nat), .int .u64 (limb (pX R) 2 : Nat), .int .u64 (limb (pX R) 3 : Nat), .int .u64 (limb (pY R) 0 : Nat), .int .u64 (limb (pY R) 1 : Nat), .int .u64 (limb (pY R) 2 : Nat), .int .u64 (limb (pY R) 3 : Nat), .bool (pI R)]) W1) := H1.out.2.1.load Tryd.underlying28 rfl (by kernel_rfl)
  go_wp2_with ((with_reducible refine load_to (b := N) (k := 0) (x := 3) ?_ ?_ ?_ L1.out ?_); rfl; rfl; rfl)
  refine (KE.out R _ H1.out.2.2.2.2.1).mono ?_
  rintro e w2 ⟨rfl, hb2⟩
  have H2 : Hid (Below w.heap.size w w2 ∧ Bl w2 (N + 1) (ptsV Y) 28 ∧ Bl w2 (N + 1 + 1) [.int .u64 0, .int .u64 0, .int .u64 0, .int .u64 0] 24 ∧ GS w2 ∧ N = w.heap.size) := ⟨below_call0 H1.out.1 hb2, H1.out.2.2.1.call hb2, H1.out.2.2.2.1.call hb2, H1.out.2.2.2.2.1.call hb2, H1.out.2.2.2.2.2⟩
  clear hb2 H1 L1
  go_upto_region 2 with fail
  have L2 : Hid ((loadVar 28 ⟨N + 1, 0, none⟩).run Tryd.prog w2 = .ok (.agg #[.int .u64 (limb (pX Y) 0 : Nat), .int .u64 (limb (pX Y) 1 : Nat), .int .u64 (limb (pX Y) 2 : Nat), .int .u64 (limb (pX Y) 3 : Nat), .int .u64 (limb (pY Y) 0 : Nat), .int .u64 (limb (pY Y) 1 : Nat), .int .u64 (limb (pY Y) 2 : Nat), .int .u64 (limb (pY Y) 3 : Nat), .bool (pI Y)]) w2) := H2.out.2.1.load Tryd.underlying28 rfl (by kernel_rfl)
  go_wp2_with ((with_reducible refine load_to (b := N + 1) (k := 0) (x := 4) ?_ ?_ ?_ L2.out ?_); rfl; rfl; rfl)
  refine (KE.out Y _ H2.out.2.2.2.1).mono ?_
  rintro e w3 ⟨rfl, hb3⟩
  have H3 : Hid (Below w.heap.size w w3 ∧ Bl w3 (N + 1 + 1) [.int .u64 0, .int .u64 0, .int .u64 0, .int .u64 0] 24 ∧ GS w3 ∧ N = w.heap.size) := ⟨below_call0 H2.out.1 hb3, H2.out.2.2.1.call hb3, H2.out.2.2.2.1.call hb3, H2.out.2.2.2.2⟩
  clear hb3 H2 L2 KE
  go_upto_region 3 with fail
  obtain ⟨sR, hsR⟩ : ∃ s, s = encS R := ⟨_, rfl⟩
  obtain ⟨sY, hsY⟩ : ∃ s, s = encS Y := ⟨_, rfl⟩
  rw [← hsR, ← hsY] at KD ⊢
  clear hsR hsY
  go_wp2_with fail
  refine (KD.out _ _ (H3.out.2.2.1.call (below_alloc0 (Below.refl _ _) _)) (strs_three sR sY m _)).mono ?_
  rintro e w4 ⟨rfl, hb4⟩
  have H4 : Hid (Below w.heap.size w w4 ∧ Bl w4 (N + 1 + 1) [.int .u64 0, .int .u64 0, .int .u64 0, .int .u64 0] 24 ∧ N = w.heap.size) := ⟨below_call0 H3.out.1 (below_call0 (below_alloc0 (Below.refl _ _) _) hb4), H3.out.2.1.call (below_call0 (below_alloc0 (Below.refl _ _) _) hb4), H3.out.2.2.2⟩
  clear hb4 H3 KD
  go_upto_region 4 with fail
  obtain ⟨D, hD⟩ : ∃ D, D = w4.heap.size := ⟨_, rfl⟩
  obtain ⟨W5, hW5⟩ : ∃ W5, W5 = w4.alloc (.cells #[.int .u64 (limb c 0 : Nat), .int .u64 (limb c 1 : Nat), .int .u64 (limb c 2 : Nat), .int .u64 (limb c 3 : Nat)] 24) := ⟨_, rfl⟩
  have H5 : Hid (Below w.heap.size w W5 ∧ Bl W5 (N + 1 + 1) [.int .u64 0, .int .u64 0, .int .u64 0, .int .u64 0] 24 ∧ Bl W5 D (numV c) 24 ∧ N = w.heap.size) := by
    have hb : Below w4.heap.size w4 W5 := by
      rw [hW5]
      exact below_alloc0 (Below.refl _ _) _
    refine ⟨below_call0 H4.out.1 hb, H4.out.2.1.call hb, ?_, H4.out.2.2⟩
    rw [hW5, hD]
    exact Bl.new w4 (numV c) _
  rw [← hW5, ← hD]
  clear hW5 hD H4
  have L5 : Hid ((loadVar 24 ⟨D, 0, none⟩).run Tryd.prog W5 = .ok (.agg #[.int .u64 (limb c 0 : Nat), .int .u64 (limb c 1 : Nat), .int .u64 (limb c 2 : Nat), .int .u64 (limb c 3 : Nat)]) W5) := H5.out.2.2.1.load Tryd.underlying24 rfl (by kernel_rfl)
  have HS : Hid ((storeVar 24 ⟨N + 1 + 1, 0, none⟩ (.agg #[.int .u64 (limb c 0 : Nat), .int .u64 (limb c 1 : Nat), .int .u64 (limb c 2 : Nat), .int .u64 (limb c 3 : Nat)])).run Tryd.prog W5 = .ok () (W5.setRow (N + 1 + 1) #[.int .u64 (limb c 0 : Nat), .int .u64 (limb c 1 : Nat), .int .u64 (limb c 2 : Nat), .int .u64 (limb c 3 : Nat)])) := H5.out.2.1.store (us := [.int .u64 (limb c 0 : Nat), .int .u64 (limb c 1 : Nat), .int .u64 (limb c 2 : Nat), .int .u64 (limb c 3 : Nat)]) (by kernel_rfl) rfl (by kernel_rfl)
  go_wp2_with (first | ((with_reducible refine load_to (b := D) (k := 0) (x := 11) ?_ ?_ ?_ L5.out ?_); rfl; rfl; rfl) | ((with_reducible refine store_to (b := N + 1 + 1) (k := 0) (x := 6) (y := 31) ?_ ?_ ?_ ?_ HS.out ?_); rfl; rfl; rfl; rfl))
  have hld : (loadVar 24 ⟨N + 1 + 1, 0, none⟩).run Tryd.prog (W5.setRow (N + 1 + 1) #[.int .u64 (limb c 0 : Nat), .int .u64 (limb c 1 : Nat), .int .u64 (limb c 2 : Nat), .int .u64 (limb c 3 : Nat)]) = .ok (.agg #[.int .u64 (limb c 0 : Nat), .int .u64 (limb c 1 : Nat), .int .u64 (limb c 2 : Nat), .int .u64 (limb c 3 : Nat)]) (W5.setRow (N + 1 + 1) #[.int .u64 (limb c 0 : Nat), .int .u64 (limb c 1 : Nat), .int .u64 (limb c 2 : Nat), .int .u64 (limb c 3 : Nat)]) := (H5.out.2.1.put [.int .u64 (limb c 0 : Nat), .int .u64 (limb c 1 : Nat), .int .u64 (limb c 2 : Nat), .int .u64 (limb c 3 : Nat)]).load Tryd.underlying24 rfl (by kernel_rfl)
  refine bodyPost_ret (v := .agg #[.int .u64 (limb c 0 : Nat), .int .u64 (limb c 1 : Nat), .int .u64 (limb c 2 : Nat), .int .u64 (limb c 3 : Nat)]) ?_ rfl ⟨rfl, below_setRow (by have := H5.out.2.2.2; omega) _ H5.out.1⟩
  simp [results, Tryd.results22, Act.put, asAddr, hld]
end Go.Proofs.YtchphekaonnfeaaDoor

namespace Go.Proofs.YtchphekaonnfeaaDoor
open Go Go.RowKit Go.Lib
theorem act_store {op : Oper} {a : Act} {w w' : World} {K : Act → World → Prop} {Q : Exit → Act → World → Prop} {b k x y : Nat} {ty : TypeId} {vs : Array Value} (ho : op.op = .store ty (.tmp x) (.tmp y))
    (hx : a.eval (.tmp x) = .pointer (some ⟨b, k, none⟩)) (hy : a.eval (.tmp y) = .agg vs) (hs : (storeVar ty ⟨b, k, none⟩ (.agg vs)).run Tryd.prog w = .ok () w') (h : K (a.put op.dst undef) w') : op.wp Tryd.prog a w K Q := by
  unfold Oper.wp execOp
  simp only [ho, hx, hy, Instr.storeAt, Instr.sureAddr, Sem.run_bind, Sem.run_pure, Result.andThen_ok, hs]
  exact h
theorem QQ_R {x : Nat} (h : x < QQ) : x < R256 := Nat.lt_trans h FM_Q.2.1
theorem scE_in {x : Nat} (h : x < QQ) : scE x = 0 := if_pos h
theorem nzE_in {x : Nat} (h : 0 < x) : nzE x = 0 := if_neg (by omega)
theorem shE_in {m : ByteArray} (h : m.size ≤ 4096) : shE m = 0 := if_pos h
set_option maxRecDepth 100000 in
set_option maxHeartbeats 4000000 in
theorem pub_ok (x : Nat) (R : Pts) (h0 : 0 < x) (hx : x < QQ) (hR : R = gr.mul x gG) (w : World) (hG : GA w) :
    Calls Tryd.prog 6 #[.agg #[.int .u64 (limb x 0 : Nat), .int .u64 (limb x 1 : Nat), .int .u64 (limb x 2 : Nat), .int .u64 (limb x 3 : Nat)]] w fun e w' => e = .returned (.tuple #[.agg #[.int .u64 (limb (pX R) 0 : Nat), .int .u64 (limb (pX R) 1 : Nat), .int .u64 (limb (pX R) 2 : Nat), .int .u64 (limb (pX R) 3 : Nat), .int .u64 (limb (pY R) 0 : Nat), .int .u64 (limb (pY R) 1 : Nat), .int .u64 (limb (pY R) 2 : Nat), .int .u64 (limb (pY R) 3 : Nat), .bool (pI R)], .int .i64 0]) ∧ Below w.heap.size w w' := by
  have KF : Hid (∀ (b : Nat) (w : World), GA w → b < w.heap.size → w.cell? ⟨b, 0, none⟩ = some (.func (.func 17) #[.agg #[.int .u64 (limb x 0 : Nat), .int .u64 (limb x 1 : Nat), .int .u64 (limb x 2 : Nat), .int .u64 (limb x 3 : Nat)]] #[]) → w.cell? ⟨b, 1, none⟩ = some (.func (.func 18) #[.agg #[.int .u64 (limb x 0 : Nat), .int .u64 (limb x 1 : Nat), .int .u64 (limb x 2 : Nat), .int .u64 (limb x 3 : Nat)]] #[]) →
      Calls Tryd.prog 16 #[.slice (some ⟨b, 0, none⟩) 2 2] w fun e w' => e = .returned (.int .i64 0) ∧ Below w.heap.size w w') := fun b w hG hb h1 h2 => by
    refine first_any 2 b (fun j => if j = 0 then 17 else 18) (fun _ => #[.agg #[.int .u64 (limb x 0 : Nat), .int .u64 (limb x 1 : Nat), .int .u64 (limb x 2 : Nat), .int .u64 (limb x 3 : Nat)]]) (fun _ => 0) 0 GA (fun w w' h hb => h.call hb) (fun j hj _ w hG => ?_) (fun j hj => ?_) (by decide) rfl w hG ⟨hb, fun j hj => ?_⟩
    · match j, hj with
      | 0, _ => exact q_scalar x 0 (QQ_R hx) (scE_in hx).symm w hG.2.1
      | 1, _ => exact q_zero x 0 (QQ_R hx) (nzE_in h0).symm w
    · match j, hj with
      | 0, _ => exact enters_of Tryd.func17 (by kernel_rfl) rfl
      | 1, _ => exact enters_of Tryd.func18 (by kernel_rfl) rfl
    · match j, hj with
      | 0, _ => exact h1
      | 1, _ => exact h2
  have KG : Hid _ := G_A
  have KM : Hid (∀ w, GA w → Calls Tryd.prog 20 #[.agg #[.int .u64 (limb x 0 : Nat), .int .u64 (limb x 1 : Nat), .int .u64 (limb x 2 : Nat), .int .u64 (limb x 3 : Nat)], .agg #[.int .u64 (limb (pX gG) 0 : Nat), .int .u64 (limb (pX gG) 1 : Nat), .int .u64 (limb (pX gG) 2 : Nat), .int .u64 (limb (pX gG) 3 : Nat), .int .u64 (limb (pY gG) 0 : Nat), .int .u64 (limb (pY gG) 1 : Nat), .int .u64 (limb (pY gG) 2 : Nat), .int .u64 (limb (pY gG) 3 : Nat), .bool (pI gG)]] w fun e w' => e = .returned (.tuple #[.agg #[.int .u64 (limb (pX R) 0 : Nat), .int .u64 (limb (pX R) 1 : Nat), .int .u64 (limb (pX R) 2 : Nat), .int .u64 (limb (pX R) 3 : Nat), .int .u64 (limb (pY R) 0 : Nat), .int .u64 (limb (pY R) 1 : Nat), .int .u64 (limb (pY R) 2 : Nat), .int .u64 (limb (pY R) 3 : Nat), .bool (pI R)], .int .i64 0]) ∧ Below w.heap.size w w') := fun w h => by
    rw [hR]
    exact Mul_ok x gG hx w h.1 h.2.1 h.2.2.1
  obtain ⟨N, hN⟩ : ∃ N, N = w.heap.size := ⟨_, rfl⟩
  obtain ⟨W1, hW1⟩ : ∃ W1, W1 = (w.alloc (.cells #[.int .u64 (limb x 0 : Nat), .int .u64 (limb x 1 : Nat), .int .u64 (limb x 2 : Nat), .int .u64 (limb x 3 : Nat)] 24)).alloc (.cells #[.int .u64 0, .int .u64 0, .int .u64 0, .int .u64 0, .int .u64 0, .int .u64 0, .int .u64 0, .int .u64 0, .bool false] 28) := ⟨_, rfl⟩
  have H1 : Hid (Below w.heap.size w W1 ∧ Bl W1 N (numV x) 24 ∧ Bl W1 (N + 1) [.int .u64 0, .int .u64 0, .int .u64 0, .int .u64 0, .int .u64 0, .int .u64 0, .int .u64 0, .int .u64 0, .bool false] 28 ∧ GA W1 ∧ N = w.heap.size) := by
    have e1 := Bl.new w (numV x) 24
    have e2 := Bl.new (w.alloc (.cells (numV x).toArray 24)) [.int .u64 0, .int .u64 0, .int .u64 0, .int .u64 0, .int .u64 0, .int .u64 0, .int .u64 0, .int .u64 0, .bool false] 28
    have a2 : Below (w.alloc (.cells (numV x).toArray 24)).heap.size (w.alloc (.cells (numV x).toArray 24)) ((w.alloc (.cells (numV x).toArray 24)).alloc (.cells [.int .u64 0, .int .u64 0, .int .u64 0, .int .u64 0, .int .u64 0, .int .u64 0, .int .u64 0, .int .u64 0, .bool false].toArray 28)) := below_alloc0 (Below.refl _ _) _
    have hb : Below w.heap.size w W1 := by
      rw [hW1]
      exact below_alloc0 (below_alloc0 (Below.refl _ _) _) _
    rw [World.size_alloc] at e2
    refine ⟨hb, ?_, ?_, hG.call hb, hN⟩
    · rw [hW1, hN]
      exact e1.call a2
    · rw [hW1, hN]
      exact e2
  have HW : Hid (W1 = (w.alloc (.cells #[.int .u64 (limb x 0 : Nat), .int .u64 (limb x 1 : Nat), .int .u64 (limb x 2 : Nat), .int .u64 (limb x 3 : Nat)] 24)).alloc (.cells #[.int .u64 0, .int .u64 0, .int .u64 0, .int .u64 0, .int .u64 0, .int .u64 0, .int .u64 0, .int .u64 0, .bool false] 28) ∧ N = w.heap.size) := ⟨hW1, hN⟩
  clear hW1 hG h0 hx hR hN
  have hmf : ∀ (fn : Fn) (first cap : Array Value) (w : World), (Instr.makeFunc fn first cap).run Tryd.prog w = .ok (.func fn first cap) w := fun _ _ _ _ => rfl
  go_enter Tryd.func6, Tryd.ntmps6
  go_upto_region 1 with fail
  rw [← HW.out.1, ← HW.out.2]
  clear HW
  have L1 : Hid ((loadVar 24 ⟨N, 0, none⟩).run Tryd.prog W1 = .ok (.agg #[.int .u64 (limb x 0 : Nat), .int .u64 (limb x 1 : Nat), .int .u64 (limb x 2 : Nat), .int .u64 (limb x 3 : Nat)]) W1) := H1.out.2.1.load Tryd.underlying24 rfl (by kernel_rfl)
  go_wp2_with ((with_reducible refine load_to (b := N) (k := 0) (x := 1) ?_ ?_ ?_ L1.out ?_); rfl; rfl; rfl)
  clear L1
  have HA : Hid (∀ b, Below W1.heap.size W1 (W1.alloc b)) := fun b => below_alloc0 (Below.refl _ _) b
  refine (KF.out _ _ (H1.out.2.2.2.1.call (HA.out _)) (by simp) (by simp [go_sem]) (by simp [go_sem])).mono ?_
  rintro e w2 ⟨rfl, hb2⟩
  have H2 : Hid (Below w.heap.size w w2 ∧ Bl w2 N (numV x) 24 ∧ Bl w2 (N + 1) [.int .u64 0, .int .u64 0, .int .u64 0, .int .u64 0, .int .u64 0, .int .u64 0, .int .u64 0, .int .u64 0, .bool false] 28 ∧ GA w2 ∧ N = w.heap.size) := by
    have hb := below_call0 (HA.out _) hb2
    exact ⟨below_call0 H1.out.1 hb, H1.out.2.1.call hb, H1.out.2.2.1.call hb, H1.out.2.2.2.1.call hb, H1.out.2.2.2.2⟩
  clear hb2 H1 HA KF hmf
  go_upto_region 4 with fail
  refine wp_region_N (fun w' => Below w2.heap.size w2 w') 5 7 rfl (by kernel_rfl) ?_
  refine wpAnyN_take (i := 0) (oi := ?o0) (v := ?v0) ?hi0 (by kernel_rfl) (by kernel_rfl) (by kernel_rfl) (by kernel_rfl) (by decide) (by kernel_rfl) ?hQ0 ?hy0 (Below.drew (Below.refl _ _)) ?more0
  case hi0 => rw [List.getElem?_toArray]; exact rfl
  case hQ0 => exact fun _ _ _ h => h
  case hy0 =>
    refine Or.inl ⟨by rfl, ?_⟩
    intro w' hSw
    have q0 := (H2.out.2.1.call hSw).cells 0 _ rfl
    have q1 := (H2.out.2.1.call hSw).cells 1 _ rfl
    have q2 := (H2.out.2.1.call hSw).cells 2 _ rfl
    have q3 := (H2.out.2.1.call hSw).cells 3 _ rfl
    clear hSw
    go_simp
    try with_reducible rfl
  simp only [Act.put, List.setIfInBounds_toArray, List.set_cons_zero, List.set_cons_succ]
  refine wpAnyN_one (i := 1) (o := ?o1) (by kernel_rfl) ?hi1 ?hw1 ?st1
  case hi1 => rw [List.getElem?_toArray]; exact rfl
  case hw1 => exact rfl
  intro K hK
  have HK1 : Hid _ := hK
  clear hK
  go_simp
  refine (KG.out _ (H2.out.2.2.2.1.call (Below.drew (Below.refl _ _))).2.2.2).mono ?_
  rintro e w3 ⟨rfl, hb3⟩
  have I3 : Hid (Below w2.heap.size w2 w3) := below_call0 (Below.drew (Below.refl _ _)) hb3
  clear hb3 KG
  go_wp2_with fail
  refine HK1.out _ _ ⟨fun _ => I3.out, ?_⟩
  clear HK1 K
  try simp only [Act.put, List.setIfInBounds_toArray, List.set_cons_zero, List.set_cons_succ]
  refine wpAnyN_one (i := 2) (o := ?o2) (by kernel_rfl) ?hi2 ?hw2 ?st2
  case hi2 => rw [List.getElem?_toArray]; exact rfl
  case hw2 => exact rfl
  intro K hK
  have HK2 : Hid _ := hK
  clear hK
  go_simp
  refine (KM.out _ (H2.out.2.2.2.1.call I3.out)).mono ?_
  rintro e w4 ⟨rfl, hb4⟩
  have I4 : Hid (Below w2.heap.size w2 w4) := below_call0 I3.out hb4
  clear hb4 KM I3
  go_wp2_with fail
  refine HK2.out _ _ ⟨fun _ => I4.out, ?_⟩
  clear HK2 K
  try simp only [Act.put, List.setIfInBounds_toArray, List.set_cons_zero, List.set_cons_succ]
  refine wpAnyN_takeF (i := 3) (oi := ?o3) (v := ?v3) ?hi3 (by kernel_rfl) (by kernel_rfl) (by kernel_rfl) (by decide) ?hQ3 ?hy3 I4.out ?more3
  case hi3 => rw [List.getElem?_toArray]; exact rfl
  case hQ3 => exact fun _ _ _ h => h
  case hy3 =>
    refine Or.inl ⟨by rfl, ?_⟩
    intro w' hSw
    clear hSw
    go_simp
    try with_reducible rfl
  simp only [Act.put, List.setIfInBounds_toArray, List.set_cons_zero, List.set_cons_succ]
  refine wpAnyN_takeF (i := 4) (oi := ?o4) (v := ?v4) ?hi4 (by kernel_rfl) (by kernel_rfl) (by kernel_rfl) (by decide) ?hQ4 ?hy4 I4.out ?more4
  case hi4 => rw [List.getElem?_toArray]; exact rfl
  case hQ4 => exact fun _ _ _ h => h
  case hy4 =>
    refine Or.inl ⟨by rfl, ?_⟩
    intro w' hSw
    clear hSw
    go_simp
    try with_reducible rfl
  simp only [Act.put, List.setIfInBounds_toArray, List.set_cons_zero, List.set_cons_succ]
  refine wpAnyN_one (i := 5) (o := ?o5) (by kernel_rfl) ?hi5 ?hw5 ?st5
  case hi5 => rw [List.getElem?_toArray]; exact rfl
  case hw5 => exact rfl
  intro K hK
  have HK5 : Hid _ := hK
  clear hK
  refine act_store (b := N + 1) (k := 0) (x := 2) (y := 18) rfl rfl rfl ((H2.out.2.2.1.call I4.out).store (us := [.int .u64 (limb (pX R) 0 : Nat), .int .u64 (limb (pX R) 1 : Nat), .int .u64 (limb (pX R) 2 : Nat), .int .u64 (limb (pX R) 3 : Nat), .int .u64 (limb (pY R) 0 : Nat), .int .u64 (limb (pY R) 1 : Nat), .int .u64 (limb (pY R) 2 : Nat), .int .u64 (limb (pY R) 3 : Nat), .bool (pI R)]) (by kernel_rfl) rfl (by kernel_rfl)) ?_
  refine HK5.out _ _ ⟨fun h => absurd h (by decide +kernel), ?_⟩
  clear HK5 K
  simp only [Act.put]
  refine wpAnyN_one (i := 6) (o := ?o6) (by kernel_rfl) ?hi6 ?hw6 ?st6
  case hi6 => rw [List.getElem?_toArray]; exact rfl
  case hw6 => exact rfl
  intro K hK
  have HK6 : Hid _ := hK
  clear hK
  go_simp
  refine HK6.out _ _ ⟨fun h => absurd h (by decide +kernel), ?_⟩
  clear HK6 K
  try simp only [Act.put, List.setIfInBounds_toArray, List.set_cons_zero, List.set_cons_succ]
  refine wpAnyN_done (by kernel_rfl) ?_ _
  have H4 : Hid (Bl w4 (N + 1) [.int .u64 0, .int .u64 0, .int .u64 0, .int .u64 0, .int .u64 0, .int .u64 0, .int .u64 0, .int .u64 0, .bool false] 28 ∧ Below w.heap.size w w4 ∧ N = w.heap.size) := ⟨H2.out.2.2.1.call I4.out, below_call0 H2.out.1 I4.out, H2.out.2.2.2.2⟩
  clear I4 H2
  have hld : (loadVar 28 ⟨N + 1, 0, none⟩).run Tryd.prog (w4.setRow (N + 1) #[.int .u64 (limb (pX R) 0 : Nat), .int .u64 (limb (pX R) 1 : Nat), .int .u64 (limb (pX R) 2 : Nat), .int .u64 (limb (pX R) 3 : Nat), .int .u64 (limb (pY R) 0 : Nat), .int .u64 (limb (pY R) 1 : Nat), .int .u64 (limb (pY R) 2 : Nat), .int .u64 (limb (pY R) 3 : Nat), .bool (pI R)]) = .ok (.agg #[.int .u64 (limb (pX R) 0 : Nat), .int .u64 (limb (pX R) 1 : Nat), .int .u64 (limb (pX R) 2 : Nat), .int .u64 (limb (pX R) 3 : Nat), .int .u64 (limb (pY R) 0 : Nat), .int .u64 (limb (pY R) 1 : Nat), .int .u64 (limb (pY R) 2 : Nat), .int .u64 (limb (pY R) 3 : Nat), .bool (pI R)]) (w4.setRow (N + 1) #[.int .u64 (limb (pX R) 0 : Nat), .int .u64 (limb (pX R) 1 : Nat), .int .u64 (limb (pX R) 2 : Nat), .int .u64 (limb (pX R) 3 : Nat), .int .u64 (limb (pY R) 0 : Nat), .int .u64 (limb (pY R) 1 : Nat), .int .u64 (limb (pY R) 2 : Nat), .int .u64 (limb (pY R) 3 : Nat), .bool (pI R)]) := (H4.out.1.put [.int .u64 (limb (pX R) 0 : Nat), .int .u64 (limb (pX R) 1 : Nat), .int .u64 (limb (pX R) 2 : Nat), .int .u64 (limb (pX R) 3 : Nat), .int .u64 (limb (pY R) 0 : Nat), .int .u64 (limb (pY R) 1 : Nat), .int .u64 (limb (pY R) 2 : Nat), .int .u64 (limb (pY R) 3 : Nat), .bool (pI R)]).load Tryd.underlying28 rfl (by kernel_rfl)
  go_wp2_with fail
  refine bodyPost_ret (v := .tuple #[.agg #[.int .u64 (limb (pX R) 0 : Nat), .int .u64 (limb (pX R) 1 : Nat), .int .u64 (limb (pX R) 2 : Nat), .int .u64 (limb (pX R) 3 : Nat), .int .u64 (limb (pY R) 0 : Nat), .int .u64 (limb (pY R) 1 : Nat), .int .u64 (limb (pY R) 2 : Nat), .int .u64 (limb (pY R) 3 : Nat), .bool (pI R)], .int .i64 0]) ?_ rfl ⟨rfl, below_setRow (by have := H4.out.2.2; omega) _ H4.out.2.1⟩
  simp [results, Tryd.results6, asAddr, hld]
end Go.Proofs.YtchphekaonnfeaaDoor
