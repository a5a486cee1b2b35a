/- Several texts laid together. -/
import Derived.Test.YtgmfecncfekjfaaDoorFrame
import Derived.LaidMore
import Derived.Stop.Joined
import Derived.Test.YtgmfecncfekjfaaDoorLw3A
import Derived.Test.YtgmfecncfekjfaaDoorLw3J
import Derived.Test.YtgmfecncfekjfaaDoorTie
import Derived.Test.YtgmfecncfekjfaaDoorCards
import Derived.SevenTiedAt
import Derived.SizedLaws
import Derived.ProofKit
namespace Go.Proofs.YtgmfecncfekjfaaDoor
open Go Go.ChangeShapes Go.WideShapes Go.ChangeAt Go.RowKit

theorem cellsPt : Tryd.prog.cellsOf 26 = 9 := by kernel_rfl
theorem cellsBool : Tryd.prog.cellsOf 4 = 1 := by kernel_rfl
theorem trod_numP {H : Type} {enc : TypeId × Value → H} {W : World} {base fuel : Nat} {spare : Nat → Bool} {held : Bool} {c0 c1 c2 c3 : Value} {x : DataW H × List MemPlace}
    (hf : DataW.trod enc Tryd.prog W base spare held fuel 24 [c0, c1, c2, c3] = some x) :
    ∃ n : Nat, n < R256 ∧ c0 = .int .u64 (limb n 0 : Nat) ∧ c1 = .int .u64 (limb n 1 : Nat) ∧ c2 = .int .u64 (limb n 2 : Nat) ∧ c3 = .int .u64 (limb n 3 : Nat) ∧ x = (.agg [.lit (.int .u64 (limb n 0 : Nat)), .lit (.int .u64 (limb n 1 : Nat)), .lit (.int .u64 (limb n 2 : Nat)), .lit (.int .u64 (limb n 3 : Nat))], []) := by
  obtain ⟨xs, m, _, hx, _, hl, hall⟩ := DataW.trod_array Tryd.underlying24 hf
  have i0 := hall 0 (by omega)
  have i1 := hall 1 (by omega)
  have i2 := hall 2 (by omega)
  have i3 := hall 3 (by omega)
  match xs, hl with
  | [y0, y1, y2, y3], _ =>
    simp [cellsLimb] at i0 i1 i2 i3
    obtain ⟨x0, e0, rfl, w0⟩ := DataW.trod_int Tryd.underlying22 i0
    obtain ⟨x1, e1, rfl, w1⟩ := DataW.trod_int Tryd.underlying22 i1
    obtain ⟨x2, e2, rfl, w2⟩ := DataW.trod_int Tryd.underlying22 i2
    obtain ⟨x3, e3, rfl, w3⟩ := DataW.trod_int Tryd.underlying22 i3
    simp at e0 e1 e2 e3
    subst e0 e1 e2 e3
    obtain ⟨n0, rfl, h0⟩ := word_of_wf w0
    obtain ⟨n1, rfl, h1⟩ := word_of_wf w1
    obtain ⟨n2, rfl, h2⟩ := word_of_wf w2
    obtain ⟨n3, rfl, h3⟩ := word_of_wf w3
    refine ⟨join4 n0 n1 n2 n3, join4_lt _ _ _ _ h0 h1 h2 h3, ?_⟩
    rw [limb_join0 _ _ _ _ h0, limb_join1 _ _ _ _ h0 h1, limb_join2 _ _ _ _ h0 h1 h2, limb_join3 _ _ _ _ h0 h1 h2 h3]
    exact ⟨rfl, rfl, rfl, rfl, hx⟩
set_option maxRecDepth 100000 in
theorem open_pt {H : Type} {enc : TypeId × Value → H} {W : World} {base b0 : Nat} {spare : Nat → Bool} {held : Bool} {r : Reach} {v : Value} {d : DataW H} {p : List MemPlace}
    (hv : Value.okWide Tryd.prog W r b0 26 v) (h : DataW.Trod enc Tryd.prog W base spare held 26 v d p) :
    ∃ (x y : Nat) (i : Bool), x < R256 ∧ y < R256 ∧ v = .agg #[.int .u64 (limb (x) 0 : Nat), .int .u64 (limb (x) 1 : Nat), .int .u64 (limb (x) 2 : Nat), .int .u64 (limb (x) 3 : Nat), .int .u64 (limb (y) 0 : Nat), .int .u64 (limb (y) 1 : Nat), .int .u64 (limb (y) 2 : Nat), .int .u64 (limb (y) 3 : Nat), .bool (i)] := by
  simp only [Value.okWide, Tryd.underlying26] at hv
  obtain ⟨cs, rfl, hsz, _⟩ := hv
  rw [cellsPt] at hsz
  obtain ⟨fuel, hf⟩ := h
  obtain ⟨xs, m, _, hx, _, hl, hall⟩ := DataW.trod_struct Tryd.underlying26 hf
  have i0 := hall 0 _ rfl
  have i1 := hall 1 _ rfl
  have i2 := hall 2 _ rfl
  obtain ⟨l⟩ := cs
  match l, hsz, xs, hl with
  | [c0, c1, c2, c3, d0, d1, d2, d3, e0], _, [y0, y1, y2], _ =>
    simp [Value.cells, cellsNum, cellsBool] at i0 i1 i2
    obtain ⟨x, hx1, rfl, rfl, rfl, rfl, rfl⟩ := trod_numP i0
    obtain ⟨y, hy1, rfl, rfl, rfl, rfl, rfl⟩ := trod_numP i1
    obtain ⟨b, e, rfl⟩ := DataW.trod_bool Tryd.underlying4 i2
    simp at e
    subst e
    exact ⟨x, y, b, hx1, hy1, rfl⟩
end Go.Proofs.YtgmfecncfekjfaaDoor

namespace Go.Proofs.YtgmfecncfekjfaaDoor
open Go Go.ChangeShapes Go.WideShapes Go.ChangeAt Go.RowKit

set_option maxRecDepth 100000 in
theorem laid_num {H : Type} {enc : TypeId × Value → H} {W : World} {n : String} {g base fuel : Nat} {spare : Nat → Bool} {held : Bool} {cs : Array Value} {a0 a1 a2 a3 : Int} {q : List MemPlace}
    (hg : Tryd.prog.globalNamed n = some g) (hv : W.var? Tryd.prog n = some cs)
    (hd : DataW.trod enc Tryd.prog W base spare held fuel 24 cs.toList = some (.agg [.lit (.int .u64 a0), .lit (.int .u64 a1), .lit (.int .u64 a2), .lit (.int .u64 a3)], q)) :
    W.cell? ⟨g, 0, none⟩ = some (.int .u64 a0) ∧ W.cell? ⟨g, 1, none⟩ = some (.int .u64 a1) ∧ W.cell? ⟨g, 2, none⟩ = some (.int .u64 a2) ∧ W.cell? ⟨g, 3, none⟩ = some (.int .u64 a3) := by
  have c := World.var?_cell hg hv
  obtain ⟨xs, m, _, hx, hlen, hl, hall⟩ := DataW.trod_array Tryd.underlying24 hd
  have i0 := hall 0 (by omega)
  have i1 := hall 1 (by omega)
  have i2 := hall 2 (by omega)
  have i3 := hall 3 (by omega)
  rw [cellsNum] at hlen
  obtain ⟨l⟩ := cs
  match l, hlen, xs, hl with
  | [c0, c1, c2, c3], _, [y0, y1, y2, y3], _ =>
    simp [cellsLimb] at i0 i1 i2 i3
    obtain ⟨x0, e0, rfl, w0⟩ := DataW.trod_int Tryd.underlying22 i0
    obtain ⟨x1, e1, rfl, w1⟩ := DataW.trod_int Tryd.underlying22 i1
    obtain ⟨x2, e2, rfl, w2⟩ := DataW.trod_int Tryd.underlying22 i2
    obtain ⟨x3, e3, rfl, w3⟩ := DataW.trod_int Tryd.underlying22 i3
    simp at hx e0 e1 e2 e3
    obtain ⟨⟨rfl, rfl, rfl, rfl⟩, _⟩ := hx
    subst e0 e1 e2 e3
    exact ⟨c 0, c 1, c 2, c 3⟩
theorem num4_of {W : World} {g n : Nat} {a0 a1 a2 a3 : Int} (h : W.cell? ⟨g, 0, none⟩ = some (.int .u64 a0) ∧ W.cell? ⟨g, 1, none⟩ = some (.int .u64 a1) ∧ W.cell? ⟨g, 2, none⟩ = some (.int .u64 a2) ∧ W.cell? ⟨g, 3, none⟩ = some (.int .u64 a3))
    (e0 : a0 = (limb n 0 : Nat)) (e1 : a1 = (limb n 1 : Nat)) (e2 : a2 = (limb n 2 : Nat)) (e3 : a3 = (limb n 3 : Nat)) : Num4 W g n := by
  subst e0 e1 e2 e3
  exact limbs4 _ h.1 h.2.1 h.2.2.1 h.2.2.2
theorem size_of_cell {W : World} {g : Nat} {v : Value} (h : W.cell? ⟨g, 0, none⟩ = some v) : g < W.heap.size := by
  rcases Nat.lt_or_ge g W.heap.size with l | l
  · exact l
  · have : W.cell? ⟨g, 0, none⟩ = none := by simp [World.cell?, Array.getElem?_eq_none l]
    rw [this] at h
    cases h
theorem glob_CurveBytes {W : World} (h : laidMetH Tryd.prog Rows.curveBytesRow.laid W) : GlobP W ∧ GTH W ∧ GG W ∧ Glob W := by
  rw [MakeChecks.laidMetH_plain _ _ _ (by kernel_rfl)] at h
  obtain ⟨ps, ⟨g0, t0, cs0, f0, p0, q0, hg0, ht0, hv0, hd0, ⟨g1, t1, cs1, f1, p1, q1, hg1, ht1, hv1, hd1, ⟨g2, t2, cs2, f2, p2, q2, hg2, ht2, hv2, hd2, ⟨g3, t3, cs3, f3, p3, q3, hg3, ht3, hv3, hd3, ⟨g4, t4, cs4, f4, p4, q4, hg4, ht4, hv4, hd4, _, _⟩, _⟩, _⟩, _⟩, _⟩, _, _⟩ := h
  have e0 : some g0 = some 4 := hg0.symm.trans (by kernel_rfl)
  cases e0
  have u0 : some t0 = some 24 := ht0.symm.trans (by kernel_rfl)
  cases u0
  have c0 := laid_num hg0 hv0 hd0
  have n0 : Num4 W 4 PP := num4_of c0 (by kernel_rfl) (by kernel_rfl) (by kernel_rfl) (by kernel_rfl)
  have s0 := size_of_cell c0.1
  have e1 : some g1 = some 5 := hg1.symm.trans (by kernel_rfl)
  cases e1
  have u1 : some t1 = some 24 := ht1.symm.trans (by kernel_rfl)
  cases u1
  have c1 := laid_num hg1 hv1 hd1
  have n1 : Num4 W 5 rootE := num4_of c1 (by kernel_rfl) (by kernel_rfl) (by kernel_rfl) (by kernel_rfl)
  have s1 := size_of_cell c1.1
  have e2 : some g2 = some 1 := hg2.symm.trans (by kernel_rfl)
  cases e2
  have u2 : some t2 = some 24 := ht2.symm.trans (by kernel_rfl)
  cases u2
  have c2 := laid_num hg2 hv2 hd2
  have n2 : Num4 W 1 GX := num4_of c2 (by kernel_rfl) (by kernel_rfl) (by kernel_rfl) (by kernel_rfl)
  have s2 := size_of_cell c2.1
  have e3 : some g3 = some 2 := hg3.symm.trans (by kernel_rfl)
  cases e3
  have u3 : some t3 = some 24 := ht3.symm.trans (by kernel_rfl)
  cases u3
  have c3 := laid_num hg3 hv3 hd3
  have n3 : Num4 W 2 GY := num4_of c3 (by kernel_rfl) (by kernel_rfl) (by kernel_rfl) (by kernel_rfl)
  have s3 := size_of_cell c3.1
  have e4 : some g4 = some 3 := hg4.symm.trans (by kernel_rfl)
  cases e4
  have u4 : some t4 = some 24 := ht4.symm.trans (by kernel_rfl)
  cases u4
  have c4 := laid_num hg4 hv4 hd4
  have n4 : Num4 W 3 TH := num4_of c4 (by kernel_rfl) (by kernel_rfl) (by kernel_rfl) (by kernel_rfl)
  have s4 := size_of_cell c4.1
  exact ⟨⟨n0, s0⟩, ⟨n4, s4⟩, ⟨n2, n3, s2, s3⟩, ⟨n0, n1, s0, s1⟩⟩
end Go.Proofs.YtgmfecncfekjfaaDoor

namespace Go.Proofs.YtgmfecncfekjfaaDoor
open Go Go.ChangeShapes Go.WideShapes Go.ChangeAt Go.RowKit
open Go.ChangeMaps (open_string shut_string)

theorem curveBytes_door (os : Os) (args : Array Value) : laidMetH Tryd.prog Rows.curveBytesRow.laid ((World.doorLaid Tryd.prog 400 os).forCall (fun _ _ => 0) ⟨#[], args, []⟩).memory :=
  laidMetH_of_parts3 (fuel := 8) (laidMet_of_run' 8 (by kernel_rfl) (by kernel_rfl)) (by kernel_rfl) (by kernel_rfl)
set_option maxRecDepth 100000 in
theorem curveBytes_lifted (os : Os) (started : os.Started) (H : Type) (enc : TypeId × Value → H) :
    ReturnsInHanded {} Tryd.checked os 6 .any (fun w args => (Rows.curveBytesSpec.pre enc Tryd.prog Tryd.f6 [] false w args ∧ laidMetH Tryd.prog Rows.curveBytesRow.laid w) ∧ sizedMet enc Tryd.prog Tryd.f6 (OpenSpec.ofChange Rows.curveBytesSpec) false w args)
      (Rows.curveBytesSpec.post enc Tryd.prog Tryd.f6 false true false false) := by
  refine returnsInHanded_of_change_and (C := Tryd.checked) (X := fun w _ => laidMetH Tryd.prog Rows.curveBytesRow.laid w) (fun _ _ _ hh h => h.of_heap hh) Tryd.own started (by kernel_rfl) Tryd.func6
    (ChangeSpec.witness_shaped (enc := enc) (C := Tryd.checked) (os := os) (X := fun w _ => laidMetH Tryd.prog Rows.curveBytesRow.laid w) false (World.doorLaid Tryd.prog 400 os) #[.agg #[.int .u64 0, .int .u64 0, .int .u64 0, .int .u64 0, .int .u64 0, .int .u64 0, .int .u64 0, .int .u64 0, .bool false], .string ByteArray.empty] 8 rfl (World.shaped_of_RefB (by kernel_rfl) (by kernel_rfl)) (by kernel_rfl) (by kernel_rfl) (by kernel_rfl) (curveBytes_door os _)) ?_
  intro W base args ds gs before hval0 hW _ hsz0 hL _
  have hsz : (DataW.weightsEach Tryd.prog (Tryd.f6.params.toList ++ Rows.curveBytesSpec.plain.varTypes Tryd.prog) (ds ++ gs)).all (· ≤ reachBytes) = true := hsz0
  clear hsz0
  have hval : ∀ (j : Nat) t v, Tryd.f6.params[j]? = some t → args[j]? = some v → Value.okWide Tryd.prog W .any base t v := hval0
  have hW' := hW
  obtain ⟨p, q, hA0, hV, rfl, hfz, hnd⟩ := hW
  have hA : DataW.TrodAll enc Tryd.prog W 0 (fun _ => true) true Tryd.f6.params.toList args.toList ds p := hA0
  rw [Tryd.params6] at hA hval hsz
  obtain ⟨v0, v1, d0, d1, p0, p1, rfl, rfl, rfl, h0, h1⟩ := trodAll_two hA
  obtain ⟨rfl, rfl⟩ := trodVars_none hV
  have k0 := h0
  have k1 := h1
  simp only [List.append_nil] at hW'
  have hlt : ∀ x ∈ p0 ++ p1, x.block < W.heap.size := fun x hx => by simpa using hW'.lt x hx
  have r0 : ∀ (W' : World), Below W.heap.size W W' → DataW.Trod enc Tryd.prog W' 0 (fun b => decide (b < W.heap.size)) true 26 v0 d0 p0 :=
    fun W' hn => Below.trod (by kernel_rfl) (by kernel_rfl) (of_decide_eq_true (by kernel_rfl)) k0 hn (fun x hx => hlt x (List.mem_append.2 (.inl hx)))
  have r1 : ∀ (W' : World), Below W.heap.size W W' → DataW.Trod enc Tryd.prog W' 0 (fun b => decide (b < W.heap.size)) true 9 v1 d1 p1 :=
    fun W' hn => Below.trod (by kernel_rfl) (by kernel_rfl) (of_decide_eq_true (by kernel_rfl)) k1 hn (fun x hx => hlt x (List.mem_append.2 (.inr hx)))
  clear hlt
  obtain ⟨x0, y0, i0, hx0, hy0, rfl⟩ := open_pt (hval 0 26 v0 rfl rfl) h0
  obtain ⟨x1, rfl, rfl, rfl, h1x⟩ := open_string Tryd.underlying9 (hval 1 9 v1 rfl rfl) h1
  have hG := glob_CurveBytes hL
  clear hA0 hval0 hL
  refine (bytes_law x0 y0 i0 x1 hx0 hy0 W hG.1 hG.2.1 hG.2.2.1 hG.2.2.2).mono fun e W' ⟨he, hg⟩ => ?_
  subst he
  exact ⟨_, rfl, _, _, _, [], _, [], hW', trodAll_mk1 (shut_bool Tryd.underlying4 _), trodAll_mk2 (r0 _ hg) (r1 _ hg), by first | rfl | simp, hg.frame _, fun h => by cases h⟩

theorem curveBytes_row : Rows.CurveBytesSaid :=
  OpenClaim.holds_of_wide 6 Tryd.f6 rfl rfl rfl rfl rfl rfl rfl ⟨rfl, rfl, rfl, rfl, rfl⟩ rfl rfl rfl rfl rfl (by kernel_rfl) Tryd.func6 (by kernel_rfl)
    (of_decide_eq_true (by kernel_rfl)) (by unfold Func.isWrapper; first | (rw [if_pos (by decide +kernel)]; kernel_rfl) | (rw [if_neg (by decide +kernel)]; exact ⟨rfl, rfl⟩))
    (fun os started H enc _ => curveBytes_lifted os started H enc)
theorem curveBytes_holds : Rows.CurveBytesCardSaid :=
  Claim7.holds_tied_plain_at .later [] [.data, .data, .data, .data, .data] true (true, "6f3a6a3fb173d1a4b973427514be2b0ef6a4d1d86e3f8f1ed0df752cc36d3a74") false
    curveBytes_row (fun _ h => by cases h) (by kernel_rfl) (fun _ h => by cases h) curveBytes_row_tie rfl ⟨rfl, rfl⟩ (by kernel_rfl) rfl
    (fun f fn hf hfn => by
      have e : some f = some 6 := hf.symm.trans (by kernel_rfl)
      cases e
      obtain rfl : fn = Tryd.f6 := (Option.some.inj (Tryd.func6.symm.trans hfn)).symm
      exact ⟨by kernel_rfl, fun j t ht => by
        rw [Tryd.params6] at ht
        have hm : t ∈ [26, 9] := by simpa using Array.mem_of_getElem? ht
        have hall : ([26, 9].all fun u => !Tryd.prog.wantsStandIn u) = true := by kernel_rfl
        exact (show Tryd.prog.wantsStandIn t = false by simpa using List.all_eq_true.1 hall t hm)⟩)
    (by kernel_rfl)
end Go.Proofs.YtgmfecncfekjfaaDoor
