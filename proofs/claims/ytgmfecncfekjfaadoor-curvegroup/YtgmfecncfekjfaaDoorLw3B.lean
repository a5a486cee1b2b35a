/- Curve: sums of points are a group's: the law's walk. -/
import Derived.Test.YtgmfecncfekjfaaDoorLw3A
namespace Go.Proofs.YtgmfecncfekjfaaDoor
open Go Go.RowKit Go.Lib
attribute [local go_sem] run_eqP run_eq49 eq4_same beqB_same

set_option maxRecDepth 100000 in
set_option maxHeartbeats 4000000 in
theorem group_ok (a b c : Pts) (w : World) (hG : GlobP w) (hT : GTH w) (hQ : GG w) : Calls Tryd.prog 7 #[.agg #[.int .u64 (limb (pX a) 0 : Nat), .int .u64 (limb (pX a) 1 : Nat), .int .u64 (limb (pX a) 2 : Nat), .int .u64 (limb (pX a) 3 : Nat), .int .u64 (limb (pY a) 0 : Nat), .int .u64 (limb (pY a) 1 : Nat), .int .u64 (limb (pY a) 2 : Nat), .int .u64 (limb (pY a) 3 : Nat), .bool (pI a)], .agg #[.int .u64 (limb (pX b) 0 : Nat), .int .u64 (limb (pX b) 1 : Nat), .int .u64 (limb (pX b) 2 : Nat), .int .u64 (limb (pX b) 3 : Nat), .int .u64 (limb (pY b) 0 : Nat), .int .u64 (limb (pY b) 1 : Nat), .int .u64 (limb (pY b) 2 : Nat), .int .u64 (limb (pY b) 3 : Nat), .bool (pI b)], .agg #[.int .u64 (limb (pX c) 0 : Nat), .int .u64 (limb (pX c) 1 : Nat), .int .u64 (limb (pX c) 2 : Nat), .int .u64 (limb (pX c) 3 : Nat), .int .u64 (limb (pY c) 0 : Nat), .int .u64 (limb (pY c) 1 : Nat), .int .u64 (limb (pY c) 2 : Nat), .int .u64 (limb (pY c) 3 : Nat), .bool (pI c)]] w fun e w' => e = .returned (.bool true) ∧ Below w.heap.size w w' := by
  obtain ⟨p1, ep1⟩ : ∃ uq, uq = gr.add a b := ⟨_, rfl⟩
  have K1 : Hid (∀ w, GlobP w → GTH w → Calls Tryd.prog 9 #[.agg #[.int .u64 (limb (pX a) 0 : Nat), .int .u64 (limb (pX a) 1 : Nat), .int .u64 (limb (pX a) 2 : Nat), .int .u64 (limb (pX a) 3 : Nat), .int .u64 (limb (pY a) 0 : Nat), .int .u64 (limb (pY a) 1 : Nat), .int .u64 (limb (pY a) 2 : Nat), .int .u64 (limb (pY a) 3 : Nat), .bool (pI a)], .agg #[.int .u64 (limb (pX b) 0 : Nat), .int .u64 (limb (pX b) 1 : Nat), .int .u64 (limb (pX b) 2 : Nat), .int .u64 (limb (pX b) 3 : Nat), .int .u64 (limb (pY b) 0 : Nat), .int .u64 (limb (pY b) 1 : Nat), .int .u64 (limb (pY b) 2 : Nat), .int .u64 (limb (pY b) 3 : Nat), .bool (pI b)]] w fun e w' => e = .returned (.tuple #[.agg #[.int .u64 (limb (pX p1) 0 : Nat), .int .u64 (limb (pX p1) 1 : Nat), .int .u64 (limb (pX p1) 2 : Nat), .int .u64 (limb (pX p1) 3 : Nat), .int .u64 (limb (pY p1) 0 : Nat), .int .u64 (limb (pY p1) 1 : Nat), .int .u64 (limb (pY p1) 2 : Nat), .int .u64 (limb (pY p1) 3 : Nat), .bool (pI p1)], .int .i64 0]) ∧ Below w.heap.size w w') := fun w hG hT => by have k := Add_A a b w hG hT; rw [show gr.add a b = p1 from ep1.symm] at k; exact k
  have K2 : Hid (∀ w, GlobP w → GTH w → Calls Tryd.prog 9 #[.agg #[.int .u64 (limb (pX b) 0 : Nat), .int .u64 (limb (pX b) 1 : Nat), .int .u64 (limb (pX b) 2 : Nat), .int .u64 (limb (pX b) 3 : Nat), .int .u64 (limb (pY b) 0 : Nat), .int .u64 (limb (pY b) 1 : Nat), .int .u64 (limb (pY b) 2 : Nat), .int .u64 (limb (pY b) 3 : Nat), .bool (pI b)], .agg #[.int .u64 (limb (pX a) 0 : Nat), .int .u64 (limb (pX a) 1 : Nat), .int .u64 (limb (pX a) 2 : Nat), .int .u64 (limb (pX a) 3 : Nat), .int .u64 (limb (pY a) 0 : Nat), .int .u64 (limb (pY a) 1 : Nat), .int .u64 (limb (pY a) 2 : Nat), .int .u64 (limb (pY a) 3 : Nat), .bool (pI a)]] w fun e w' => e = .returned (.tuple #[.agg #[.int .u64 (limb (pX p1) 0 : Nat), .int .u64 (limb (pX p1) 1 : Nat), .int .u64 (limb (pX p1) 2 : Nat), .int .u64 (limb (pX p1) 3 : Nat), .int .u64 (limb (pY p1) 0 : Nat), .int .u64 (limb (pY p1) 1 : Nat), .int .u64 (limb (pY p1) 2 : Nat), .int .u64 (limb (pY p1) 3 : Nat), .bool (pI p1)], .int .i64 0]) ∧ Below w.heap.size w w') := fun w hG hT => by have k := Add_A b a w hG hT; rw [show gr.add b a = p1 from by rw [ep1]; exact gr.comm b a] at k; exact k
  obtain ⟨p2, ep2⟩ : ∃ uq, uq = gr.add b c := ⟨_, rfl⟩
  have K3 : Hid (∀ w, GlobP w → GTH w → Calls Tryd.prog 9 #[.agg #[.int .u64 (limb (pX b) 0 : Nat), .int .u64 (limb (pX b) 1 : Nat), .int .u64 (limb (pX b) 2 : Nat), .int .u64 (limb (pX b) 3 : Nat), .int .u64 (limb (pY b) 0 : Nat), .int .u64 (limb (pY b) 1 : Nat), .int .u64 (limb (pY b) 2 : Nat), .int .u64 (limb (pY b) 3 : Nat), .bool (pI b)], .agg #[.int .u64 (limb (pX c) 0 : Nat), .int .u64 (limb (pX c) 1 : Nat), .int .u64 (limb (pX c) 2 : Nat), .int .u64 (limb (pX c) 3 : Nat), .int .u64 (limb (pY c) 0 : Nat), .int .u64 (limb (pY c) 1 : Nat), .int .u64 (limb (pY c) 2 : Nat), .int .u64 (limb (pY c) 3 : Nat), .bool (pI c)]] w fun e w' => e = .returned (.tuple #[.agg #[.int .u64 (limb (pX p2) 0 : Nat), .int .u64 (limb (pX p2) 1 : Nat), .int .u64 (limb (pX p2) 2 : Nat), .int .u64 (limb (pX p2) 3 : Nat), .int .u64 (limb (pY p2) 0 : Nat), .int .u64 (limb (pY p2) 1 : Nat), .int .u64 (limb (pY p2) 2 : Nat), .int .u64 (limb (pY p2) 3 : Nat), .bool (pI p2)], .int .i64 0]) ∧ Below w.heap.size w w') := fun w hG hT => by have k := Add_A b c w hG hT; rw [show gr.add b c = p2 from ep2.symm] at k; exact k
  obtain ⟨p3, ep3⟩ : ∃ uq, uq = gr.add p1 c := ⟨_, rfl⟩
  have K4 : Hid (∀ w, GlobP w → GTH w → Calls Tryd.prog 9 #[.agg #[.int .u64 (limb (pX p1) 0 : Nat), .int .u64 (limb (pX p1) 1 : Nat), .int .u64 (limb (pX p1) 2 : Nat), .int .u64 (limb (pX p1) 3 : Nat), .int .u64 (limb (pY p1) 0 : Nat), .int .u64 (limb (pY p1) 1 : Nat), .int .u64 (limb (pY p1) 2 : Nat), .int .u64 (limb (pY p1) 3 : Nat), .bool (pI p1)], .agg #[.int .u64 (limb (pX c) 0 : Nat), .int .u64 (limb (pX c) 1 : Nat), .int .u64 (limb (pX c) 2 : Nat), .int .u64 (limb (pX c) 3 : Nat), .int .u64 (limb (pY c) 0 : Nat), .int .u64 (limb (pY c) 1 : Nat), .int .u64 (limb (pY c) 2 : Nat), .int .u64 (limb (pY c) 3 : Nat), .bool (pI c)]] w fun e w' => e = .returned (.tuple #[.agg #[.int .u64 (limb (pX p3) 0 : Nat), .int .u64 (limb (pX p3) 1 : Nat), .int .u64 (limb (pX p3) 2 : Nat), .int .u64 (limb (pX p3) 3 : Nat), .int .u64 (limb (pY p3) 0 : Nat), .int .u64 (limb (pY p3) 1 : Nat), .int .u64 (limb (pY p3) 2 : Nat), .int .u64 (limb (pY p3) 3 : Nat), .bool (pI p3)], .int .i64 0]) ∧ Below w.heap.size w w') := fun w hG hT => by have k := Add_A p1 c w hG hT; rw [show gr.add p1 c = p3 from ep3.symm] at k; exact k
  have K5 : Hid (∀ w, GlobP w → GTH w → Calls Tryd.prog 9 #[.agg #[.int .u64 (limb (pX a) 0 : Nat), .int .u64 (limb (pX a) 1 : Nat), .int .u64 (limb (pX a) 2 : Nat), .int .u64 (limb (pX a) 3 : Nat), .int .u64 (limb (pY a) 0 : Nat), .int .u64 (limb (pY a) 1 : Nat), .int .u64 (limb (pY a) 2 : Nat), .int .u64 (limb (pY a) 3 : Nat), .bool (pI a)], .agg #[.int .u64 (limb (pX p2) 0 : Nat), .int .u64 (limb (pX p2) 1 : Nat), .int .u64 (limb (pX p2) 2 : Nat), .int .u64 (limb (pX p2) 3 : Nat), .int .u64 (limb (pY p2) 0 : Nat), .int .u64 (limb (pY p2) 1 : Nat), .int .u64 (limb (pY p2) 2 : Nat), .int .u64 (limb (pY p2) 3 : Nat), .bool (pI p2)]] w fun e w' => e = .returned (.tuple #[.agg #[.int .u64 (limb (pX p3) 0 : Nat), .int .u64 (limb (pX p3) 1 : Nat), .int .u64 (limb (pX p3) 2 : Nat), .int .u64 (limb (pX p3) 3 : Nat), .int .u64 (limb (pY p3) 0 : Nat), .int .u64 (limb (pY p3) 1 : Nat), .int .u64 (limb (pY p3) 2 : Nat), .int .u64 (limb (pY p3) 3 : Nat), .bool (pI p3)], .int .i64 0]) ∧ Below w.heap.size w w') := fun w hG hT => by have k := Add_A a p2 w hG hT; rw [show gr.add a p2 = p3 from by rw [ep3, ep2, ep1]; exact (gr.assoc a b c).symm] at k; exact k
  have K6 : Hid (∀ w, GlobP w → GTH w → Calls Tryd.prog 9 #[.agg #[.int .u64 (limb (pX a) 0 : Nat), .int .u64 (limb (pX a) 1 : Nat), .int .u64 (limb (pX a) 2 : Nat), .int .u64 (limb (pX a) 3 : Nat), .int .u64 (limb (pY a) 0 : Nat), .int .u64 (limb (pY a) 1 : Nat), .int .u64 (limb (pY a) 2 : Nat), .int .u64 (limb (pY a) 3 : Nat), .bool (pI a)], .agg #[.int .u64 0, .int .u64 0, .int .u64 0, .int .u64 0, .int .u64 0, .int .u64 0, .int .u64 0, .int .u64 0, .bool true]] w fun e w' => e = .returned (.tuple #[.agg #[.int .u64 (limb (pX a) 0 : Nat), .int .u64 (limb (pX a) 1 : Nat), .int .u64 (limb (pX a) 2 : Nat), .int .u64 (limb (pX a) 3 : Nat), .int .u64 (limb (pY a) 0 : Nat), .int .u64 (limb (pY a) 1 : Nat), .int .u64 (limb (pY a) 2 : Nat), .int .u64 (limb (pY a) 3 : Nat), .bool (pI a)], .int .i64 0]) ∧ Below w.heap.size w w') := fun w hG hT => by have k := Add_A a gr.z w hG hT; rw [show gr.add a gr.z = a from gr.zero a] at k; rw [ziV] at k; exact k
  have K7 : Hid (∀ w, Calls Tryd.prog 12 #[.agg #[.int .u64 (limb (pX p3) 0 : Nat), .int .u64 (limb (pX p3) 1 : Nat), .int .u64 (limb (pX p3) 2 : Nat), .int .u64 (limb (pX p3) 3 : Nat), .int .u64 (limb (pY p3) 0 : Nat), .int .u64 (limb (pY p3) 1 : Nat), .int .u64 (limb (pY p3) 2 : Nat), .int .u64 (limb (pY p3) 3 : Nat), .bool (pI p3)]] w fun e w' => e = .returned (.bool true) ∧ Below w.heap.size w w') := fun w => by have k := is3_A p3 w; exact k
  have K8 : Hid (∀ w, GlobP w → GTH w → GG w → Calls Tryd.prog 15 #[] w fun e w' => e = .returned (.bool true) ∧ Below w.heap.size w w') := fun w h1 h2 h3 => g3_any w h1 h2 h3
  obtain ⟨w0, hw0⟩ : ∃ wq, wq = (((w.alloc (.cells #[.int .u64 (limb (pX a) 0 : Nat), .int .u64 (limb (pX a) 1 : Nat), .int .u64 (limb (pX a) 2 : Nat), .int .u64 (limb (pX a) 3 : Nat), .int .u64 (limb (pY a) 0 : Nat), .int .u64 (limb (pY a) 1 : Nat), .int .u64 (limb (pY a) 2 : Nat), .int .u64 (limb (pY a) 3 : Nat), .bool (pI a)] 26)).alloc (.cells #[.int .u64 (limb (pX b) 0 : Nat), .int .u64 (limb (pX b) 1 : Nat), .int .u64 (limb (pX b) 2 : Nat), .int .u64 (limb (pX b) 3 : Nat), .int .u64 (limb (pY b) 0 : Nat), .int .u64 (limb (pY b) 1 : Nat), .int .u64 (limb (pY b) 2 : Nat), .int .u64 (limb (pY b) 3 : Nat), .bool (pI b)] 26)).alloc (.cells #[.int .u64 (limb (pX c) 0 : Nat), .int .u64 (limb (pX c) 1 : Nat), .int .u64 (limb (pX c) 2 : Nat), .int .u64 (limb (pX c) 3 : Nat), .int .u64 (limb (pY c) 0 : Nat), .int .u64 (limb (pY c) 1 : Nat), .int .u64 (limb (pY c) 2 : Nat), .int .u64 (limb (pY c) 3 : Nat), .bool (pI c)] 26)) := ⟨_, rfl⟩
  have H0 : Hid (OwnC w0 (w.heap.size) (ptL (pX a) (pY a) (pI a))) ∧ Hid (OwnC w0 (w.heap.size + 1) (ptL (pX b) (pY b) (pI b))) ∧ Hid (OwnC w0 (w.heap.size + 1 + 1) (ptL (pX c) (pY c) (pI c))) ∧ Hid (Below w.heap.size w w0) ∧ Hid (GlobP w0) ∧ Hid (GTH w0) ∧ Hid (GG w0) := by
    rw [hw0]
    exact ⟨(OwnC.new' rfl).alloc.alloc, (OwnC.new' (by simp only [World.size_alloc])).alloc, (OwnC.new' (by simp only [World.size_alloc])), below_alloc0 (below_alloc0 (below_alloc0 (Below.refl _ _) _) _) _, (hG).call (below_alloc0 (below_alloc0 (below_alloc0 (Below.refl _ _) _) _) _), (hT).call (below_alloc0 (below_alloc0 (below_alloc0 (Below.refl _ _) _) _) _), (hQ).call (below_alloc0 (below_alloc0 (below_alloc0 (Below.refl _ _) _) _) _)⟩
  obtain ⟨P0_0, P1_0, P2_0, W_0, G_0, T_0, Q_0⟩ := H0
  clear ep1 ep2 ep3 hG hT hQ
  go_enter Tryd.func7, Tryd.ntmps7
  go_upto_region 1 with fail
  rw [← hw0]
  clear hw0
  go_upto_region 1 with fail
  go_cut [7, 8] (fun vq7 vq8 wx => ∃ bk7, vq7 = .pointer (some ⟨bk7, 0, none⟩) ∧ vq8 = .int .i64 0 ∧ w0.heap.size ≤ bk7 ∧ OwnC wx bk7 (ptL (pX p1) (pY p1) (pI p1)) ∧ Below w0.heap.size w0 wx)
  case first =>
    obtain ⟨fP0z, fP00, fP01, fP02, fP03, fP04, fP05, fP06, fP07, fP08, fP0f⟩ := (P0_0.out).pt
    obtain ⟨fP1z, fP10, fP11, fP12, fP13, fP14, fP15, fP16, fP17, fP18, fP1f⟩ := (P1_0.out).pt
    go_wp2_with fail
    clear fP0z fP00 fP01 fP02 fP03 fP04 fP05 fP06 fP07 fP08 fP0f fP1z fP10 fP11 fP12 fP13 fP14 fP15 fP16 fP17 fP18 fP1f
    refine (K1.out _ (G_0.out) (T_0.out)).mono ?_
    rintro e wx0 ⟨rfl, hq0⟩
    go_wp2_with fail
    go_meet
    exact ⟨_, rfl, rfl, hq0.size, OwnC.new' rfl, below_alloc0 hq0 _⟩
  case rest =>
    obtain ⟨bk7, rfl, rfl, hle, hO, hB⟩ := hcut
    have P0_1 : Hid (OwnC wc (w.heap.size) (ptL (pX a) (pY a) (pI a))) := OwnC.call P0_0.out hB
    have P1_1 : Hid (OwnC wc (w.heap.size + 1) (ptL (pX b) (pY b) (pI b))) := OwnC.call P1_0.out hB
    have P2_1 : Hid (OwnC wc (w.heap.size + 1 + 1) (ptL (pX c) (pY c) (pI c))) := OwnC.call P2_0.out hB
    have W_1 : Hid (Below w.heap.size w wc) := below_call0 W_0.out hB
    have G_1 : Hid (GlobP wc) := G_0.out.call hB
    have T_1 : Hid (GTH wc) := T_0.out.call hB
    have Q_1 : Hid (GG wc) := Q_0.out.call hB
    have V7_1 : Hid (OwnC wc bk7 (ptL (pX p1) (pY p1) (pI p1))) := hO
    clear hB P0_0 P1_0 P2_0 W_0 G_0 T_0 Q_0
    clear hO hle
    generalize wc = w1 at P0_1 P1_1 P2_1 W_1 G_1 T_1 Q_1 V7_1 ⊢
    go_upto_region 2 with fail
    go_cut [9, 10] (fun vq9 vq10 wx => ∃ bk9, vq9 = .pointer (some ⟨bk9, 0, none⟩) ∧ vq10 = .int .i64 0 ∧ w1.heap.size ≤ bk9 ∧ OwnC wx bk9 (ptL (pX p1) (pY p1) (pI p1)) ∧ Below w1.heap.size w1 wx)
    case first =>
      obtain ⟨fP0z, fP00, fP01, fP02, fP03, fP04, fP05, fP06, fP07, fP08, fP0f⟩ := (P0_1.out).pt
      obtain ⟨fP1z, fP10, fP11, fP12, fP13, fP14, fP15, fP16, fP17, fP18, fP1f⟩ := (P1_1.out).pt
      go_wp2_with fail
      clear fP0z fP00 fP01 fP02 fP03 fP04 fP05 fP06 fP07 fP08 fP0f fP1z fP10 fP11 fP12 fP13 fP14 fP15 fP16 fP17 fP18 fP1f
      refine (K2.out _ (G_1.out) (T_1.out)).mono ?_
      rintro e wx0 ⟨rfl, hq0⟩
      go_wp2_with fail
      go_meet
      exact ⟨_, rfl, rfl, hq0.size, OwnC.new' rfl, below_alloc0 hq0 _⟩
    case rest =>
      obtain ⟨bk9, rfl, rfl, hle, hO, hB⟩ := hcut
      rename_i vv19 vv20 vv21 vv22 vv23 vv24 vv25 vv26 vv27 vv28 vv29 vv30 vv31 vv32 vv33 vv34 vv35 vv36 vv37 vv38 vv39 vv40 vv41 vv42 vv43 vv44 vv45 vv46 vv47 vv48 vv49 vv50 vv51 vv52 vv53 vv54 vv55 vv56 vv57 vv58 vv59 vv60 vv61 vv62 vv63 vv64 vv65 vv66 vv67 vv68 vv69 vv70 vv71 vv72 vv73 vv74 vv75 vv76 vv77 vv78 vv79 vv80 vv81 vv82 vv83 vv84 vv85 vv86 vv87 vv88 vv89 vv90 vv91 vv92 vv93 Kq1 hKq1
      clear vv19 vv20 vv21 vv22 vv23 vv24 vv25 vv26 vv27 vv28 vv29 vv30 vv31 vv32 vv33 vv34 vv35 vv36 vv37 vv38 vv39 vv40 vv41 vv42 vv43 vv44 vv45 vv46 vv47 vv48 vv49 vv50 vv51 vv52 vv53 vv54 vv55 vv56 vv57 vv58 vv59 vv60 vv61 vv62 vv63 vv64 vv65 vv66 vv67 vv68 vv69 vv70 vv71 vv72 vv73 vv74 vv75 vv76 vv77 vv78 vv79 vv80 vv81 vv82 vv83 vv84 vv85 vv86 vv87 vv88 vv89 vv90 vv91 vv92 vv93
      have P0_2 : Hid (OwnC wc (w.heap.size) (ptL (pX a) (pY a) (pI a))) := OwnC.call P0_1.out hB
      have P1_2 : Hid (OwnC wc (w.heap.size + 1) (ptL (pX b) (pY b) (pI b))) := OwnC.call P1_1.out hB
      have P2_2 : Hid (OwnC wc (w.heap.size + 1 + 1) (ptL (pX c) (pY c) (pI c))) := OwnC.call P2_1.out hB
      have W_2 : Hid (Below w.heap.size w wc) := below_call0 W_1.out hB
      have G_2 : Hid (GlobP wc) := G_1.out.call hB
      have T_2 : Hid (GTH wc) := T_1.out.call hB
      have Q_2 : Hid (GG wc) := Q_1.out.call hB
      have V7_2 : Hid (OwnC wc bk7 (ptL (pX p1) (pY p1) (pI p1))) := OwnC.call V7_1.out hB
      have V9_2 : Hid (OwnC wc bk9 (ptL (pX p1) (pY p1) (pI p1))) := hO
      clear hB P0_1 P1_1 P2_1 W_1 G_1 T_1 Q_1 V7_1
      clear hO hle
      generalize wc = w2 at P0_2 P1_2 P2_2 W_2 G_2 T_2 Q_2 V7_2 V9_2 ⊢
      go_upto_region 3 with fail
      go_cut [11, 12] (fun vq11 vq12 wx => ∃ bk11, vq11 = .pointer (some ⟨bk11, 0, none⟩) ∧ vq12 = .int .i64 0 ∧ w2.heap.size ≤ bk11 ∧ OwnC wx bk11 (ptL (pX p2) (pY p2) (pI p2)) ∧ Below w2.heap.size w2 wx)
      case first =>
        obtain ⟨fP1z, fP10, fP11, fP12, fP13, fP14, fP15, fP16, fP17, fP18, fP1f⟩ := (P1_2.out).pt
        obtain ⟨fP2z, fP20, fP21, fP22, fP23, fP24, fP25, fP26, fP27, fP28, fP2f⟩ := (P2_2.out).pt
        go_wp2_with fail
        clear fP1z fP10 fP11 fP12 fP13 fP14 fP15 fP16 fP17 fP18 fP1f fP2z fP20 fP21 fP22 fP23 fP24 fP25 fP26 fP27 fP28 fP2f
        refine (K3.out _ (G_2.out) (T_2.out)).mono ?_
        rintro e wx0 ⟨rfl, hq0⟩
        go_wp2_with fail
        go_meet
        exact ⟨_, rfl, rfl, hq0.size, OwnC.new' rfl, below_alloc0 hq0 _⟩
      case rest =>
        obtain ⟨bk11, rfl, rfl, hle, hO, hB⟩ := hcut
        rename_i vv19 vv20 vv21 vv22 vv23 vv24 vv25 vv26 vv27 vv28 vv29 vv30 vv31 vv32 vv33 vv34 vv35 vv36 vv37 vv38 vv39 vv40 vv41 vv42 vv43 vv44 vv45 vv46 vv47 vv48 vv49 vv50 vv51 vv52 vv53 vv54 vv55 vv56 vv57 vv58 vv59 vv60 vv61 vv62 vv63 vv64 vv65 vv66 vv67 vv68 vv69 vv70 vv71 vv72 vv73 vv74 vv75 vv76 vv77 vv78 vv79 vv80 vv81 vv82 vv83 vv84 vv85 vv86 vv87 vv88 vv89 vv90 vv91 vv92 vv93 Kq2 hKq2
        clear vv19 vv20 vv21 vv22 vv23 vv24 vv25 vv26 vv27 vv28 vv29 vv30 vv31 vv32 vv33 vv34 vv35 vv36 vv37 vv38 vv39 vv40 vv41 vv42 vv43 vv44 vv45 vv46 vv47 vv48 vv49 vv50 vv51 vv52 vv53 vv54 vv55 vv56 vv57 vv58 vv59 vv60 vv61 vv62 vv63 vv64 vv65 vv66 vv67 vv68 vv69 vv70 vv71 vv72 vv73 vv74 vv75 vv76 vv77 vv78 vv79 vv80 vv81 vv82 vv83 vv84 vv85 vv86 vv87 vv88 vv89 vv90 vv91 vv92 vv93
        have P0_3 : Hid (OwnC wc (w.heap.size) (ptL (pX a) (pY a) (pI a))) := OwnC.call P0_2.out hB
        have P1_3 : Hid (OwnC wc (w.heap.size + 1) (ptL (pX b) (pY b) (pI b))) := OwnC.call P1_2.out hB
        have P2_3 : Hid (OwnC wc (w.heap.size + 1 + 1) (ptL (pX c) (pY c) (pI c))) := OwnC.call P2_2.out hB
        have W_3 : Hid (Below w.heap.size w wc) := below_call0 W_2.out hB
        have G_3 : Hid (GlobP wc) := G_2.out.call hB
        have T_3 : Hid (GTH wc) := T_2.out.call hB
        have Q_3 : Hid (GG wc) := Q_2.out.call hB
        have V7_3 : Hid (OwnC wc bk7 (ptL (pX p1) (pY p1) (pI p1))) := OwnC.call V7_2.out hB
        have V9_3 : Hid (OwnC wc bk9 (ptL (pX p1) (pY p1) (pI p1))) := OwnC.call V9_2.out hB
        have V11_3 : Hid (OwnC wc bk11 (ptL (pX p2) (pY p2) (pI p2))) := hO
        clear hB P0_2 P1_2 P2_2 W_2 G_2 T_2 Q_2 V7_2 V9_2
        clear hO hle
        generalize wc = w3 at P0_3 P1_3 P2_3 W_3 G_3 T_3 Q_3 V7_3 V9_3 V11_3 ⊢
        go_upto_region 6 with fail
        go_cut [13, 14] (fun vq13 vq14 wx => ∃ bk13, vq13 = .pointer (some ⟨bk13, 0, none⟩) ∧ vq14 = .int .i64 0 ∧ w3.heap.size ≤ bk13 ∧ OwnC wx bk13 (ptL (pX p3) (pY p3) (pI p3)) ∧ Below w3.heap.size w3 wx)
        case first =>
          obtain ⟨fP2z, fP20, fP21, fP22, fP23, fP24, fP25, fP26, fP27, fP28, fP2f⟩ := (P2_3.out).pt
          obtain ⟨fV7z, fV70, fV71, fV72, fV73, fV74, fV75, fV76, fV77, fV78, fV7f⟩ := (V7_3.out).pt
          go_wp2_with fail
          clear fP2z fP20 fP21 fP22 fP23 fP24 fP25 fP26 fP27 fP28 fP2f fV7z fV70 fV71 fV72 fV73 fV74 fV75 fV76 fV77 fV78 fV7f
          refine (K4.out _ (G_3.out) (T_3.out)).mono ?_
          rintro e wx0 ⟨rfl, hq0⟩
          go_wp2_with fail
          go_meet
          exact ⟨_, rfl, rfl, hq0.size, OwnC.new' rfl, below_alloc0 hq0 _⟩
        case rest =>
          obtain ⟨bk13, rfl, rfl, hle, hO, hB⟩ := hcut
          rename_i vv19 vv20 vv21 vv22 vv23 vv24 vv25 vv26 vv27 vv28 vv29 vv30 vv31 vv32 vv33 vv34 vv35 vv36 vv37 vv38 vv39 vv40 vv41 vv42 vv43 vv44 vv45 vv46 vv47 vv48 vv49 vv50 vv51 vv52 vv53 vv54 vv55 vv56 vv57 vv58 vv59 vv60 vv61 vv62 vv63 vv64 vv65 vv66 vv67 vv68 vv69 vv70 vv71 vv72 vv73 vv74 vv75 vv76 vv77 vv78 vv79 vv80 vv81 vv82 vv83 vv84 vv85 vv86 vv87 vv88 vv89 vv90 vv91 vv92 vv93 Kq3 hKq3
          clear vv19 vv20 vv21 vv22 vv23 vv24 vv25 vv26 vv27 vv28 vv29 vv30 vv31 vv32 vv33 vv34 vv35 vv36 vv37 vv38 vv39 vv40 vv41 vv42 vv43 vv44 vv45 vv46 vv47 vv48 vv49 vv50 vv51 vv52 vv53 vv54 vv55 vv56 vv57 vv58 vv59 vv60 vv61 vv62 vv63 vv64 vv65 vv66 vv67 vv68 vv69 vv70 vv71 vv72 vv73 vv74 vv75 vv76 vv77 vv78 vv79 vv80 vv81 vv82 vv83 vv84 vv85 vv86 vv87 vv88 vv89 vv90 vv91 vv92 vv93
          have P0_4 : Hid (OwnC wc (w.heap.size) (ptL (pX a) (pY a) (pI a))) := OwnC.call P0_3.out hB
          have P1_4 : Hid (OwnC wc (w.heap.size + 1) (ptL (pX b) (pY b) (pI b))) := OwnC.call P1_3.out hB
          have P2_4 : Hid (OwnC wc (w.heap.size + 1 + 1) (ptL (pX c) (pY c) (pI c))) := OwnC.call P2_3.out hB
          have W_4 : Hid (Below w.heap.size w wc) := below_call0 W_3.out hB
          have G_4 : Hid (GlobP wc) := G_3.out.call hB
          have T_4 : Hid (GTH wc) := T_3.out.call hB
          have Q_4 : Hid (GG wc) := Q_3.out.call hB
          have V7_4 : Hid (OwnC wc bk7 (ptL (pX p1) (pY p1) (pI p1))) := OwnC.call V7_3.out hB
          have V9_4 : Hid (OwnC wc bk9 (ptL (pX p1) (pY p1) (pI p1))) := OwnC.call V9_3.out hB
          have V11_4 : Hid (OwnC wc bk11 (ptL (pX p2) (pY p2) (pI p2))) := OwnC.call V11_3.out hB
          have V13_4 : Hid (OwnC wc bk13 (ptL (pX p3) (pY p3) (pI p3))) := hO
          clear hB P0_3 P1_3 P2_3 W_3 G_3 T_3 Q_3 V7_3 V9_3 V11_3
          clear hO hle
          generalize wc = w4 at P0_4 P1_4 P2_4 W_4 G_4 T_4 Q_4 V7_4 V9_4 V11_4 V13_4 ⊢
          go_upto_region 7 with fail
          go_cut [15, 16] (fun vq15 vq16 wx => ∃ bk15, vq15 = .pointer (some ⟨bk15, 0, none⟩) ∧ vq16 = .int .i64 0 ∧ w4.heap.size ≤ bk15 ∧ OwnC wx bk15 (ptL (pX p3) (pY p3) (pI p3)) ∧ Below w4.heap.size w4 wx)
          case first =>
            obtain ⟨fP0z, fP00, fP01, fP02, fP03, fP04, fP05, fP06, fP07, fP08, fP0f⟩ := (P0_4.out).pt
            obtain ⟨fV11z, fV110, fV111, fV112, fV113, fV114, fV115, fV116, fV117, fV118, fV11f⟩ := (V11_4.out).pt
            go_wp2_with fail
            clear fP0z fP00 fP01 fP02 fP03 fP04 fP05 fP06 fP07 fP08 fP0f fV11z fV110 fV111 fV112 fV113 fV114 fV115 fV116 fV117 fV118 fV11f
            refine (K5.out _ (G_4.out) (T_4.out)).mono ?_
            rintro e wx0 ⟨rfl, hq0⟩
            go_wp2_with fail
            go_meet
            exact ⟨_, rfl, rfl, hq0.size, OwnC.new' rfl, below_alloc0 hq0 _⟩
          case rest =>
            obtain ⟨bk15, rfl, rfl, hle, hO, hB⟩ := hcut
            rename_i vv19 vv20 vv21 vv22 vv23 vv24 vv25 vv26 vv27 vv28 vv29 vv30 vv31 vv32 vv33 vv34 vv35 vv36 vv37 vv38 vv39 vv40 vv41 vv42 vv43 vv44 vv45 vv46 vv47 vv48 vv49 vv50 vv51 vv52 vv53 vv54 vv55 vv56 vv57 vv58 vv59 vv60 vv61 vv62 vv63 vv64 vv65 vv66 vv67 vv68 vv69 vv70 vv71 vv72 vv73 vv74 vv75 vv76 vv77 vv78 vv79 vv80 vv81 vv82 vv83 vv84 vv85 vv86 vv87 vv88 vv89 vv90 vv91 vv92 vv93 Kq4 hKq4
            clear vv19 vv20 vv21 vv22 vv23 vv24 vv25 vv26 vv27 vv28 vv29 vv30 vv31 vv32 vv33 vv34 vv35 vv36 vv37 vv38 vv39 vv40 vv41 vv42 vv43 vv44 vv45 vv46 vv47 vv48 vv49 vv50 vv51 vv52 vv53 vv54 vv55 vv56 vv57 vv58 vv59 vv60 vv61 vv62 vv63 vv64 vv65 vv66 vv67 vv68 vv69 vv70 vv71 vv72 vv73 vv74 vv75 vv76 vv77 vv78 vv79 vv80 vv81 vv82 vv83 vv84 vv85 vv86 vv87 vv88 vv89 vv90 vv91 vv92 vv93
            have P0_5 : Hid (OwnC wc (w.heap.size) (ptL (pX a) (pY a) (pI a))) := OwnC.call P0_4.out hB
            have P1_5 : Hid (OwnC wc (w.heap.size + 1) (ptL (pX b) (pY b) (pI b))) := OwnC.call P1_4.out hB
            have P2_5 : Hid (OwnC wc (w.heap.size + 1 + 1) (ptL (pX c) (pY c) (pI c))) := OwnC.call P2_4.out hB
            have W_5 : Hid (Below w.heap.size w wc) := below_call0 W_4.out hB
            have G_5 : Hid (GlobP wc) := G_4.out.call hB
            have T_5 : Hid (GTH wc) := T_4.out.call hB
            have Q_5 : Hid (GG wc) := Q_4.out.call hB
            have V7_5 : Hid (OwnC wc bk7 (ptL (pX p1) (pY p1) (pI p1))) := OwnC.call V7_4.out hB
            have V9_5 : Hid (OwnC wc bk9 (ptL (pX p1) (pY p1) (pI p1))) := OwnC.call V9_4.out hB
            have V11_5 : Hid (OwnC wc bk11 (ptL (pX p2) (pY p2) (pI p2))) := OwnC.call V11_4.out hB
            have V13_5 : Hid (OwnC wc bk13 (ptL (pX p3) (pY p3) (pI p3))) := OwnC.call V13_4.out hB
            have V15_5 : Hid (OwnC wc bk15 (ptL (pX p3) (pY p3) (pI p3))) := hO
            clear hB P0_4 P1_4 P2_4 W_4 G_4 T_4 Q_4 V7_4 V9_4 V11_4 V13_4
            clear hO hle
            generalize wc = w5 at P0_5 P1_5 P2_5 W_5 G_5 T_5 Q_5 V7_5 V9_5 V11_5 V13_5 V15_5 ⊢
            go_upto_region 8 with fail
            go_cut [17, 18] (fun vq17 vq18 wx => ∃ bk17, vq17 = .pointer (some ⟨bk17, 0, none⟩) ∧ vq18 = .int .i64 0 ∧ w5.heap.size ≤ bk17 ∧ OwnC wx bk17 (ptL (pX a) (pY a) (pI a)) ∧ Below w5.heap.size w5 wx)
            case first =>
              obtain ⟨fP0z, fP00, fP01, fP02, fP03, fP04, fP05, fP06, fP07, fP08, fP0f⟩ := (P0_5.out).pt
              go_wp2_with fail
              clear fP0z fP00 fP01 fP02 fP03 fP04 fP05 fP06 fP07 fP08 fP0f
              refine (K6.out _ (G_5.out) (T_5.out)).mono ?_
              rintro e wx0 ⟨rfl, hq0⟩
              go_wp2_with fail
              go_meet
              exact ⟨_, rfl, rfl, hq0.size, OwnC.new' rfl, below_alloc0 hq0 _⟩
            case rest =>
              obtain ⟨bk17, rfl, rfl, hle, hO, hB⟩ := hcut
              rename_i vv19 vv20 vv21 vv22 vv23 vv24 vv25 vv26 vv27 vv28 vv29 vv30 vv31 vv32 vv33 vv34 vv35 vv36 vv37 vv38 vv39 vv40 vv41 vv42 vv43 vv44 vv45 vv46 vv47 vv48 vv49 vv50 vv51 vv52 vv53 vv54 vv55 vv56 vv57 vv58 vv59 vv60 vv61 vv62 vv63 vv64 vv65 vv66 vv67 vv68 vv69 vv70 vv71 vv72 vv73 vv74 vv75 vv76 vv77 vv78 vv79 vv80 vv81 vv82 vv83 vv84 vv85 vv86 vv87 vv88 vv89 vv90 vv91 vv92 vv93 Kq5 hKq5
              clear vv19 vv20 vv21 vv22 vv23 vv24 vv25 vv26 vv27 vv28 vv29 vv30 vv31 vv32 vv33 vv34 vv35 vv36 vv37 vv38 vv39 vv40 vv41 vv42 vv43 vv44 vv45 vv46 vv47 vv48 vv49 vv50 vv51 vv52 vv53 vv54 vv55 vv56 vv57 vv58 vv59 vv60 vv61 vv62 vv63 vv64 vv65 vv66 vv67 vv68 vv69 vv70 vv71 vv72 vv73 vv74 vv75 vv76 vv77 vv78 vv79 vv80 vv81 vv82 vv83 vv84 vv85 vv86 vv87 vv88 vv89 vv90 vv91 vv92 vv93
              have P0_6 : Hid (OwnC wc (w.heap.size) (ptL (pX a) (pY a) (pI a))) := OwnC.call P0_5.out hB
              have P1_6 : Hid (OwnC wc (w.heap.size + 1) (ptL (pX b) (pY b) (pI b))) := OwnC.call P1_5.out hB
              have P2_6 : Hid (OwnC wc (w.heap.size + 1 + 1) (ptL (pX c) (pY c) (pI c))) := OwnC.call P2_5.out hB
              have W_6 : Hid (Below w.heap.size w wc) := below_call0 W_5.out hB
              have G_6 : Hid (GlobP wc) := G_5.out.call hB
              have T_6 : Hid (GTH wc) := T_5.out.call hB
              have Q_6 : Hid (GG wc) := Q_5.out.call hB
              have V7_6 : Hid (OwnC wc bk7 (ptL (pX p1) (pY p1) (pI p1))) := OwnC.call V7_5.out hB
              have V9_6 : Hid (OwnC wc bk9 (ptL (pX p1) (pY p1) (pI p1))) := OwnC.call V9_5.out hB
              have V11_6 : Hid (OwnC wc bk11 (ptL (pX p2) (pY p2) (pI p2))) := OwnC.call V11_5.out hB
              have V13_6 : Hid (OwnC wc bk13 (ptL (pX p3) (pY p3) (pI p3))) := OwnC.call V13_5.out hB
              have V15_6 : Hid (OwnC wc bk15 (ptL (pX p3) (pY p3) (pI p3))) := OwnC.call V15_5.out hB
              have V17_6 : Hid (OwnC wc bk17 (ptL (pX a) (pY a) (pI a))) := hO
              clear hB P0_5 P1_5 P2_5 W_5 G_5 T_5 Q_5 V7_5 V9_5 V11_5 V13_5 V15_5
              clear hO hle
              generalize wc = w6 at P0_6 P1_6 P2_6 W_6 G_6 T_6 Q_6 V7_6 V9_6 V11_6 V13_6 V15_6 V17_6 ⊢
              go_upto_region 9 with fail
              obtain ⟨fP0z, fP00, fP01, fP02, fP03, fP04, fP05, fP06, fP07, fP08, fP0f⟩ := (P0_6.out).pt
              obtain ⟨fV13z, fV130, fV131, fV132, fV133, fV134, fV135, fV136, fV137, fV138, fV13f⟩ := (V13_6.out).pt
              obtain ⟨fV15z, fV150, fV151, fV152, fV153, fV154, fV155, fV156, fV157, fV158, fV15f⟩ := (V15_6.out).pt
              obtain ⟨fV17z, fV170, fV171, fV172, fV173, fV174, fV175, fV176, fV177, fV178, fV17f⟩ := (V17_6.out).pt
              obtain ⟨fV7z, fV70, fV71, fV72, fV73, fV74, fV75, fV76, fV77, fV78, fV7f⟩ := (V7_6.out).pt
              obtain ⟨fV9z, fV90, fV91, fV92, fV93, fV94, fV95, fV96, fV97, fV98, fV9f⟩ := (V9_6.out).pt
              go_wp2_with fail
              clear fP0z fP00 fP01 fP02 fP03 fP04 fP05 fP06 fP07 fP08 fP0f fV13z fV130 fV131 fV132 fV133 fV134 fV135 fV136 fV137 fV138 fV13f fV15z fV150 fV151 fV152 fV153 fV154 fV155 fV156 fV157 fV158 fV15f fV17z fV170 fV171 fV172 fV173 fV174 fV175 fV176 fV177 fV178 fV17f fV7z fV70 fV71 fV72 fV73 fV74 fV75 fV76 fV77 fV78 fV7f fV9z fV90 fV91 fV92 fV93 fV94 fV95 fV96 fV97 fV98 fV9f
              refine (K7.out _).mono ?_
              rintro e w7 ⟨rfl, hq⟩
              have P0_7 : Hid (OwnC w7 (w.heap.size) (ptL (pX a) (pY a) (pI a))) := OwnC.call P0_6.out hq
              have P1_7 : Hid (OwnC w7 (w.heap.size + 1) (ptL (pX b) (pY b) (pI b))) := OwnC.call P1_6.out hq
              have P2_7 : Hid (OwnC w7 (w.heap.size + 1 + 1) (ptL (pX c) (pY c) (pI c))) := OwnC.call P2_6.out hq
              have W_7 : Hid (Below w.heap.size w w7) := below_call0 W_6.out hq
              have G_7 : Hid (GlobP w7) := G_6.out.call hq
              have T_7 : Hid (GTH w7) := T_6.out.call hq
              have Q_7 : Hid (GG w7) := Q_6.out.call hq
              have V7_7 : Hid (OwnC w7 bk7 (ptL (pX p1) (pY p1) (pI p1))) := OwnC.call V7_6.out hq
              have V9_7 : Hid (OwnC w7 bk9 (ptL (pX p1) (pY p1) (pI p1))) := OwnC.call V9_6.out hq
              have V11_7 : Hid (OwnC w7 bk11 (ptL (pX p2) (pY p2) (pI p2))) := OwnC.call V11_6.out hq
              have V13_7 : Hid (OwnC w7 bk13 (ptL (pX p3) (pY p3) (pI p3))) := OwnC.call V13_6.out hq
              have V15_7 : Hid (OwnC w7 bk15 (ptL (pX p3) (pY p3) (pI p3))) := OwnC.call V15_6.out hq
              have V17_7 : Hid (OwnC w7 bk17 (ptL (pX a) (pY a) (pI a))) := OwnC.call V17_6.out hq
              clear hq P0_6 P1_6 P2_6 W_6 G_6 T_6 Q_6 V7_6 V9_6 V11_6 V13_6 V15_6 V17_6
              go_wp2_with fail
              refine (K8.out _ (G_7.out) (T_7.out) (Q_7.out)).mono ?_
              rintro e w8 ⟨rfl, hq⟩
              have P0_8 : Hid (OwnC w8 (w.heap.size) (ptL (pX a) (pY a) (pI a))) := OwnC.call P0_7.out hq
              have P1_8 : Hid (OwnC w8 (w.heap.size + 1) (ptL (pX b) (pY b) (pI b))) := OwnC.call P1_7.out hq
              have P2_8 : Hid (OwnC w8 (w.heap.size + 1 + 1) (ptL (pX c) (pY c) (pI c))) := OwnC.call P2_7.out hq
              have W_8 : Hid (Below w.heap.size w w8) := below_call0 W_7.out hq
              have G_8 : Hid (GlobP w8) := G_7.out.call hq
              have T_8 : Hid (GTH w8) := T_7.out.call hq
              have Q_8 : Hid (GG w8) := Q_7.out.call hq
              have V7_8 : Hid (OwnC w8 bk7 (ptL (pX p1) (pY p1) (pI p1))) := OwnC.call V7_7.out hq
              have V9_8 : Hid (OwnC w8 bk9 (ptL (pX p1) (pY p1) (pI p1))) := OwnC.call V9_7.out hq
              have V11_8 : Hid (OwnC w8 bk11 (ptL (pX p2) (pY p2) (pI p2))) := OwnC.call V11_7.out hq
              have V13_8 : Hid (OwnC w8 bk13 (ptL (pX p3) (pY p3) (pI p3))) := OwnC.call V13_7.out hq
              have V15_8 : Hid (OwnC w8 bk15 (ptL (pX p3) (pY p3) (pI p3))) := OwnC.call V15_7.out hq
              have V17_8 : Hid (OwnC w8 bk17 (ptL (pX a) (pY a) (pI a))) := OwnC.call V17_7.out hq
              clear hq P0_7 P1_7 P2_7 W_7 G_7 T_7 Q_7 V7_7 V9_7 V11_7 V13_7 V15_7 V17_7
              go_wp2_with fail
              go_ret
              exact ⟨rfl, W_8.out⟩
set_option maxRecDepth 100000 in
set_option maxHeartbeats 4000000 in
theorem group_bad1 (x1 y1 X1 Y1 x2 y2 X2 Y2 x3 y3 X3 Y3 : Nat) (i1 I1 i2 I2 i3 I3 : Bool) (E2 E3 : Int)
    (k1 : ∀ w, GlobP w → GTH w → Calls Tryd.prog 9 #[.agg #[.int .u64 (limb (x1) 0 : Nat), .int .u64 (limb (x1) 1 : Nat), .int .u64 (limb (x1) 2 : Nat), .int .u64 (limb (x1) 3 : Nat), .int .u64 (limb (y1) 0 : Nat), .int .u64 (limb (y1) 1 : Nat), .int .u64 (limb (y1) 2 : Nat), .int .u64 (limb (y1) 3 : Nat), .bool i1], .agg #[.int .u64 (limb (x2) 0 : Nat), .int .u64 (limb (x2) 1 : Nat), .int .u64 (limb (x2) 2 : Nat), .int .u64 (limb (x2) 3 : Nat), .int .u64 (limb (y2) 0 : Nat), .int .u64 (limb (y2) 1 : Nat), .int .u64 (limb (y2) 2 : Nat), .int .u64 (limb (y2) 3 : Nat), .bool i2]] w fun e w' => e = .returned (.tuple #[.agg #[.int .u64 (limb (X1) 0 : Nat), .int .u64 (limb (X1) 1 : Nat), .int .u64 (limb (X1) 2 : Nat), .int .u64 (limb (X1) 3 : Nat), .int .u64 (limb (Y1) 0 : Nat), .int .u64 (limb (Y1) 1 : Nat), .int .u64 (limb (Y1) 2 : Nat), .int .u64 (limb (Y1) 3 : Nat), .bool I1], .int .i64 30]) ∧ Below w.heap.size w w')
    (k2 : ∀ w, GlobP w → GTH w → Calls Tryd.prog 9 #[.agg #[.int .u64 (limb (x2) 0 : Nat), .int .u64 (limb (x2) 1 : Nat), .int .u64 (limb (x2) 2 : Nat), .int .u64 (limb (x2) 3 : Nat), .int .u64 (limb (y2) 0 : Nat), .int .u64 (limb (y2) 1 : Nat), .int .u64 (limb (y2) 2 : Nat), .int .u64 (limb (y2) 3 : Nat), .bool i2], .agg #[.int .u64 (limb (x1) 0 : Nat), .int .u64 (limb (x1) 1 : Nat), .int .u64 (limb (x1) 2 : Nat), .int .u64 (limb (x1) 3 : Nat), .int .u64 (limb (y1) 0 : Nat), .int .u64 (limb (y1) 1 : Nat), .int .u64 (limb (y1) 2 : Nat), .int .u64 (limb (y1) 3 : Nat), .bool i1]] w fun e w' => e = .returned (.tuple #[.agg #[.int .u64 (limb (X2) 0 : Nat), .int .u64 (limb (X2) 1 : Nat), .int .u64 (limb (X2) 2 : Nat), .int .u64 (limb (X2) 3 : Nat), .int .u64 (limb (Y2) 0 : Nat), .int .u64 (limb (Y2) 1 : Nat), .int .u64 (limb (Y2) 2 : Nat), .int .u64 (limb (Y2) 3 : Nat), .bool I2], .int .i64 E2]) ∧ Below w.heap.size w w')
    (k3 : ∀ w, GlobP w → GTH w → Calls Tryd.prog 9 #[.agg #[.int .u64 (limb (x2) 0 : Nat), .int .u64 (limb (x2) 1 : Nat), .int .u64 (limb (x2) 2 : Nat), .int .u64 (limb (x2) 3 : Nat), .int .u64 (limb (y2) 0 : Nat), .int .u64 (limb (y2) 1 : Nat), .int .u64 (limb (y2) 2 : Nat), .int .u64 (limb (y2) 3 : Nat), .bool i2], .agg #[.int .u64 (limb (x3) 0 : Nat), .int .u64 (limb (x3) 1 : Nat), .int .u64 (limb (x3) 2 : Nat), .int .u64 (limb (x3) 3 : Nat), .int .u64 (limb (y3) 0 : Nat), .int .u64 (limb (y3) 1 : Nat), .int .u64 (limb (y3) 2 : Nat), .int .u64 (limb (y3) 3 : Nat), .bool i3]] w fun e w' => e = .returned (.tuple #[.agg #[.int .u64 (limb (X3) 0 : Nat), .int .u64 (limb (X3) 1 : Nat), .int .u64 (limb (X3) 2 : Nat), .int .u64 (limb (X3) 3 : Nat), .int .u64 (limb (Y3) 0 : Nat), .int .u64 (limb (Y3) 1 : Nat), .int .u64 (limb (Y3) 2 : Nat), .int .u64 (limb (Y3) 3 : Nat), .bool I3], .int .i64 E3]) ∧ Below w.heap.size w w')
    (w : World) (hG : GlobP w) (hT : GTH w) (hQ : GG w) : Calls Tryd.prog 7 #[.agg #[.int .u64 (limb (x1) 0 : Nat), .int .u64 (limb (x1) 1 : Nat), .int .u64 (limb (x1) 2 : Nat), .int .u64 (limb (x1) 3 : Nat), .int .u64 (limb (y1) 0 : Nat), .int .u64 (limb (y1) 1 : Nat), .int .u64 (limb (y1) 2 : Nat), .int .u64 (limb (y1) 3 : Nat), .bool i1], .agg #[.int .u64 (limb (x2) 0 : Nat), .int .u64 (limb (x2) 1 : Nat), .int .u64 (limb (x2) 2 : Nat), .int .u64 (limb (x2) 3 : Nat), .int .u64 (limb (y2) 0 : Nat), .int .u64 (limb (y2) 1 : Nat), .int .u64 (limb (y2) 2 : Nat), .int .u64 (limb (y2) 3 : Nat), .bool i2], .agg #[.int .u64 (limb (x3) 0 : Nat), .int .u64 (limb (x3) 1 : Nat), .int .u64 (limb (x3) 2 : Nat), .int .u64 (limb (x3) 3 : Nat), .int .u64 (limb (y3) 0 : Nat), .int .u64 (limb (y3) 1 : Nat), .int .u64 (limb (y3) 2 : Nat), .int .u64 (limb (y3) 3 : Nat), .bool i3]] w fun e w' => e = .returned (.bool true) ∧ Below w.heap.size w w' := by
  have K1 : Hid (∀ w, GlobP w → GTH w → Calls Tryd.prog 9 #[.agg #[.int .u64 (limb (x1) 0 : Nat), .int .u64 (limb (x1) 1 : Nat), .int .u64 (limb (x1) 2 : Nat), .int .u64 (limb (x1) 3 : Nat), .int .u64 (limb (y1) 0 : Nat), .int .u64 (limb (y1) 1 : Nat), .int .u64 (limb (y1) 2 : Nat), .int .u64 (limb (y1) 3 : Nat), .bool i1], .agg #[.int .u64 (limb (x2) 0 : Nat), .int .u64 (limb (x2) 1 : Nat), .int .u64 (limb (x2) 2 : Nat), .int .u64 (limb (x2) 3 : Nat), .int .u64 (limb (y2) 0 : Nat), .int .u64 (limb (y2) 1 : Nat), .int .u64 (limb (y2) 2 : Nat), .int .u64 (limb (y2) 3 : Nat), .bool i2]] w fun e w' => e = .returned (.tuple #[.agg #[.int .u64 (limb (X1) 0 : Nat), .int .u64 (limb (X1) 1 : Nat), .int .u64 (limb (X1) 2 : Nat), .int .u64 (limb (X1) 3 : Nat), .int .u64 (limb (Y1) 0 : Nat), .int .u64 (limb (Y1) 1 : Nat), .int .u64 (limb (Y1) 2 : Nat), .int .u64 (limb (Y1) 3 : Nat), .bool I1], .int .i64 30]) ∧ Below w.heap.size w w') := k1
  have K2 : Hid (∀ w, GlobP w → GTH w → Calls Tryd.prog 9 #[.agg #[.int .u64 (limb (x2) 0 : Nat), .int .u64 (limb (x2) 1 : Nat), .int .u64 (limb (x2) 2 : Nat), .int .u64 (limb (x2) 3 : Nat), .int .u64 (limb (y2) 0 : Nat), .int .u64 (limb (y2) 1 : Nat), .int .u64 (limb (y2) 2 : Nat), .int .u64 (limb (y2) 3 : Nat), .bool i2], .agg #[.int .u64 (limb (x1) 0 : Nat), .int .u64 (limb (x1) 1 : Nat), .int .u64 (limb (x1) 2 : Nat), .int .u64 (limb (x1) 3 : Nat), .int .u64 (limb (y1) 0 : Nat), .int .u64 (limb (y1) 1 : Nat), .int .u64 (limb (y1) 2 : Nat), .int .u64 (limb (y1) 3 : Nat), .bool i1]] w fun e w' => e = .returned (.tuple #[.agg #[.int .u64 (limb (X2) 0 : Nat), .int .u64 (limb (X2) 1 : Nat), .int .u64 (limb (X2) 2 : Nat), .int .u64 (limb (X2) 3 : Nat), .int .u64 (limb (Y2) 0 : Nat), .int .u64 (limb (Y2) 1 : Nat), .int .u64 (limb (Y2) 2 : Nat), .int .u64 (limb (Y2) 3 : Nat), .bool I2], .int .i64 E2]) ∧ Below w.heap.size w w') := k2
  have K3 : Hid (∀ w, GlobP w → GTH w → Calls Tryd.prog 9 #[.agg #[.int .u64 (limb (x2) 0 : Nat), .int .u64 (limb (x2) 1 : Nat), .int .u64 (limb (x2) 2 : Nat), .int .u64 (limb (x2) 3 : Nat), .int .u64 (limb (y2) 0 : Nat), .int .u64 (limb (y2) 1 : Nat), .int .u64 (limb (y2) 2 : Nat), .int .u64 (limb (y2) 3 : Nat), .bool i2], .agg #[.int .u64 (limb (x3) 0 : Nat), .int .u64 (limb (x3) 1 : Nat), .int .u64 (limb (x3) 2 : Nat), .int .u64 (limb (x3) 3 : Nat), .int .u64 (limb (y3) 0 : Nat), .int .u64 (limb (y3) 1 : Nat), .int .u64 (limb (y3) 2 : Nat), .int .u64 (limb (y3) 3 : Nat), .bool i3]] w fun e w' => e = .returned (.tuple #[.agg #[.int .u64 (limb (X3) 0 : Nat), .int .u64 (limb (X3) 1 : Nat), .int .u64 (limb (X3) 2 : Nat), .int .u64 (limb (X3) 3 : Nat), .int .u64 (limb (Y3) 0 : Nat), .int .u64 (limb (Y3) 1 : Nat), .int .u64 (limb (Y3) 2 : Nat), .int .u64 (limb (Y3) 3 : Nat), .bool I3], .int .i64 E3]) ∧ Below w.heap.size w w') := k3
  have K4 : Hid (∀ w, GlobP w → GTH w → GG w → Calls Tryd.prog 15 #[] w fun e w' => e = .returned (.bool true) ∧ Below w.heap.size w w') := fun w h1 h2 h3 => g3_any w h1 h2 h3
  obtain ⟨w0, hw0⟩ : ∃ wq, wq = (((w.alloc (.cells #[.int .u64 (limb (x1) 0 : Nat), .int .u64 (limb (x1) 1 : Nat), .int .u64 (limb (x1) 2 : Nat), .int .u64 (limb (x1) 3 : Nat), .int .u64 (limb (y1) 0 : Nat), .int .u64 (limb (y1) 1 : Nat), .int .u64 (limb (y1) 2 : Nat), .int .u64 (limb (y1) 3 : Nat), .bool i1] 26)).alloc (.cells #[.int .u64 (limb (x2) 0 : Nat), .int .u64 (limb (x2) 1 : Nat), .int .u64 (limb (x2) 2 : Nat), .int .u64 (limb (x2) 3 : Nat), .int .u64 (limb (y2) 0 : Nat), .int .u64 (limb (y2) 1 : Nat), .int .u64 (limb (y2) 2 : Nat), .int .u64 (limb (y2) 3 : Nat), .bool i2] 26)).alloc (.cells #[.int .u64 (limb (x3) 0 : Nat), .int .u64 (limb (x3) 1 : Nat), .int .u64 (limb (x3) 2 : Nat), .int .u64 (limb (x3) 3 : Nat), .int .u64 (limb (y3) 0 : Nat), .int .u64 (limb (y3) 1 : Nat), .int .u64 (limb (y3) 2 : Nat), .int .u64 (limb (y3) 3 : Nat), .bool i3] 26)) := ⟨_, rfl⟩
  have H0 : Hid (OwnC w0 (w.heap.size) (ptL x1 y1 i1)) ∧ Hid (OwnC w0 (w.heap.size + 1) (ptL x2 y2 i2)) ∧ Hid (OwnC w0 (w.heap.size + 1 + 1) (ptL x3 y3 i3)) ∧ Hid (Below w.heap.size w w0) ∧ Hid (GlobP w0) ∧ Hid (GTH w0) ∧ Hid (GG w0) := by
    rw [hw0]
    exact ⟨(OwnC.new' rfl).alloc.alloc, (OwnC.new' (by simp only [World.size_alloc])).alloc, (OwnC.new' (by simp only [World.size_alloc])), below_alloc0 (below_alloc0 (below_alloc0 (Below.refl _ _) _) _) _, (hG).call (below_alloc0 (below_alloc0 (below_alloc0 (Below.refl _ _) _) _) _), (hT).call (below_alloc0 (below_alloc0 (below_alloc0 (Below.refl _ _) _) _) _), (hQ).call (below_alloc0 (below_alloc0 (below_alloc0 (Below.refl _ _) _) _) _)⟩
  obtain ⟨P0_0, P1_0, P2_0, W_0, G_0, T_0, Q_0⟩ := H0
  clear hG hT hQ k1 k2 k3
  go_enter Tryd.func7, Tryd.ntmps7
  go_upto_region 1 with fail
  rw [← hw0]
  clear hw0
  go_upto_region 1 with fail
  go_cut [7, 8] (fun vq7 vq8 wx => ∃ bk7, vq7 = .pointer (some ⟨bk7, 0, none⟩) ∧ vq8 = .int .i64 30 ∧ w0.heap.size ≤ bk7 ∧ OwnC wx bk7 (ptL X1 Y1 I1) ∧ Below w0.heap.size w0 wx)
  case first =>
    obtain ⟨fP0z, fP00, fP01, fP02, fP03, fP04, fP05, fP06, fP07, fP08, fP0f⟩ := (P0_0.out).pt
    obtain ⟨fP1z, fP10, fP11, fP12, fP13, fP14, fP15, fP16, fP17, fP18, fP1f⟩ := (P1_0.out).pt
    go_wp2_with fail
    clear fP0z fP00 fP01 fP02 fP03 fP04 fP05 fP06 fP07 fP08 fP0f fP1z fP10 fP11 fP12 fP13 fP14 fP15 fP16 fP17 fP18 fP1f
    refine (K1.out _ (G_0.out) (T_0.out)).mono ?_
    rintro e wx0 ⟨rfl, hq0⟩
    go_wp2_with fail
    go_meet
    exact ⟨_, rfl, rfl, hq0.size, OwnC.new' rfl, below_alloc0 hq0 _⟩
  case rest =>
    obtain ⟨bk7, rfl, rfl, hle, hO, hB⟩ := hcut
    have P0_1 : Hid (OwnC wc (w.heap.size) (ptL x1 y1 i1)) := OwnC.call P0_0.out hB
    have P1_1 : Hid (OwnC wc (w.heap.size + 1) (ptL x2 y2 i2)) := OwnC.call P1_0.out hB
    have P2_1 : Hid (OwnC wc (w.heap.size + 1 + 1) (ptL x3 y3 i3)) := OwnC.call P2_0.out hB
    have W_1 : Hid (Below w.heap.size w wc) := below_call0 W_0.out hB
    have G_1 : Hid (GlobP wc) := G_0.out.call hB
    have T_1 : Hid (GTH wc) := T_0.out.call hB
    have Q_1 : Hid (GG wc) := Q_0.out.call hB
    have V7_1 : Hid (OwnC wc bk7 (ptL X1 Y1 I1)) := hO
    clear hB P0_0 P1_0 P2_0 W_0 G_0 T_0 Q_0
    clear hO hle
    generalize wc = w1 at P0_1 P1_1 P2_1 W_1 G_1 T_1 Q_1 V7_1 ⊢
    go_upto_region 2 with fail
    go_cut [9, 10] (fun vq9 vq10 wx => ∃ bk9, vq9 = .pointer (some ⟨bk9, 0, none⟩) ∧ vq10 = .int .i64 E2 ∧ w1.heap.size ≤ bk9 ∧ OwnC wx bk9 (ptL X2 Y2 I2) ∧ Below w1.heap.size w1 wx)
    case first =>
      obtain ⟨fP0z, fP00, fP01, fP02, fP03, fP04, fP05, fP06, fP07, fP08, fP0f⟩ := (P0_1.out).pt
      obtain ⟨fP1z, fP10, fP11, fP12, fP13, fP14, fP15, fP16, fP17, fP18, fP1f⟩ := (P1_1.out).pt
      go_wp2_with fail
      clear fP0z fP00 fP01 fP02 fP03 fP04 fP05 fP06 fP07 fP08 fP0f fP1z fP10 fP11 fP12 fP13 fP14 fP15 fP16 fP17 fP18 fP1f
      refine (K2.out _ (G_1.out) (T_1.out)).mono ?_
      rintro e wx0 ⟨rfl, hq0⟩
      go_wp2_with fail
      go_meet
      exact ⟨_, rfl, rfl, hq0.size, OwnC.new' rfl, below_alloc0 hq0 _⟩
    case rest =>
      obtain ⟨bk9, rfl, rfl, hle, hO, hB⟩ := hcut
      rename_i vv19 vv20 vv21 vv22 vv23 vv24 vv25 vv26 vv27 vv28 vv29 vv30 vv31 vv32 vv33 vv34 vv35 vv36 vv37 vv38 vv39 vv40 vv41 vv42 vv43 vv44 vv45 vv46 vv47 vv48 vv49 vv50 vv51 vv52 vv53 vv54 vv55 vv56 vv57 vv58 vv59 vv60 vv61 vv62 vv63 vv64 vv65 vv66 vv67 vv68 vv69 vv70 vv71 vv72 vv73 vv74 vv75 vv76 vv77 vv78 vv79 vv80 vv81 vv82 vv83 vv84 vv85 vv86 vv87 vv88 vv89 vv90 vv91 vv92 vv93 Kq1 hKq1
      clear vv19 vv20 vv21 vv22 vv23 vv24 vv25 vv26 vv27 vv28 vv29 vv30 vv31 vv32 vv33 vv34 vv35 vv36 vv37 vv38 vv39 vv40 vv41 vv42 vv43 vv44 vv45 vv46 vv47 vv48 vv49 vv50 vv51 vv52 vv53 vv54 vv55 vv56 vv57 vv58 vv59 vv60 vv61 vv62 vv63 vv64 vv65 vv66 vv67 vv68 vv69 vv70 vv71 vv72 vv73 vv74 vv75 vv76 vv77 vv78 vv79 vv80 vv81 vv82 vv83 vv84 vv85 vv86 vv87 vv88 vv89 vv90 vv91 vv92 vv93
      have P0_2 : Hid (OwnC wc (w.heap.size) (ptL x1 y1 i1)) := OwnC.call P0_1.out hB
      have P1_2 : Hid (OwnC wc (w.heap.size + 1) (ptL x2 y2 i2)) := OwnC.call P1_1.out hB
      have P2_2 : Hid (OwnC wc (w.heap.size + 1 + 1) (ptL x3 y3 i3)) := OwnC.call P2_1.out hB
      have W_2 : Hid (Below w.heap.size w wc) := below_call0 W_1.out hB
      have G_2 : Hid (GlobP wc) := G_1.out.call hB
      have T_2 : Hid (GTH wc) := T_1.out.call hB
      have Q_2 : Hid (GG wc) := Q_1.out.call hB
      have V7_2 : Hid (OwnC wc bk7 (ptL X1 Y1 I1)) := OwnC.call V7_1.out hB
      have V9_2 : Hid (OwnC wc bk9 (ptL X2 Y2 I2)) := hO
      clear hB P0_1 P1_1 P2_1 W_1 G_1 T_1 Q_1 V7_1
      clear hO hle
      generalize wc = w2 at P0_2 P1_2 P2_2 W_2 G_2 T_2 Q_2 V7_2 V9_2 ⊢
      go_upto_region 3 with fail
      go_cut [11, 12] (fun vq11 vq12 wx => ∃ bk11, vq11 = .pointer (some ⟨bk11, 0, none⟩) ∧ vq12 = .int .i64 E3 ∧ w2.heap.size ≤ bk11 ∧ OwnC wx bk11 (ptL X3 Y3 I3) ∧ Below w2.heap.size w2 wx)
      case first =>
        obtain ⟨fP1z, fP10, fP11, fP12, fP13, fP14, fP15, fP16, fP17, fP18, fP1f⟩ := (P1_2.out).pt
        obtain ⟨fP2z, fP20, fP21, fP22, fP23, fP24, fP25, fP26, fP27, fP28, fP2f⟩ := (P2_2.out).pt
        go_wp2_with fail
        clear fP1z fP10 fP11 fP12 fP13 fP14 fP15 fP16 fP17 fP18 fP1f fP2z fP20 fP21 fP22 fP23 fP24 fP25 fP26 fP27 fP28 fP2f
        refine (K3.out _ (G_2.out) (T_2.out)).mono ?_
        rintro e wx0 ⟨rfl, hq0⟩
        go_wp2_with fail
        go_meet
        exact ⟨_, rfl, rfl, hq0.size, OwnC.new' rfl, below_alloc0 hq0 _⟩
      case rest =>
        obtain ⟨bk11, rfl, rfl, hle, hO, hB⟩ := hcut
        rename_i vv19 vv20 vv21 vv22 vv23 vv24 vv25 vv26 vv27 vv28 vv29 vv30 vv31 vv32 vv33 vv34 vv35 vv36 vv37 vv38 vv39 vv40 vv41 vv42 vv43 vv44 vv45 vv46 vv47 vv48 vv49 vv50 vv51 vv52 vv53 vv54 vv55 vv56 vv57 vv58 vv59 vv60 vv61 vv62 vv63 vv64 vv65 vv66 vv67 vv68 vv69 vv70 vv71 vv72 vv73 vv74 vv75 vv76 vv77 vv78 vv79 vv80 vv81 vv82 vv83 vv84 vv85 vv86 vv87 vv88 vv89 vv90 vv91 vv92 vv93 Kq2 hKq2
        clear vv19 vv20 vv21 vv22 vv23 vv24 vv25 vv26 vv27 vv28 vv29 vv30 vv31 vv32 vv33 vv34 vv35 vv36 vv37 vv38 vv39 vv40 vv41 vv42 vv43 vv44 vv45 vv46 vv47 vv48 vv49 vv50 vv51 vv52 vv53 vv54 vv55 vv56 vv57 vv58 vv59 vv60 vv61 vv62 vv63 vv64 vv65 vv66 vv67 vv68 vv69 vv70 vv71 vv72 vv73 vv74 vv75 vv76 vv77 vv78 vv79 vv80 vv81 vv82 vv83 vv84 vv85 vv86 vv87 vv88 vv89 vv90 vv91 vv92 vv93
        have P0_3 : Hid (OwnC wc (w.heap.size) (ptL x1 y1 i1)) := OwnC.call P0_2.out hB
        have P1_3 : Hid (OwnC wc (w.heap.size + 1) (ptL x2 y2 i2)) := OwnC.call P1_2.out hB
        have P2_3 : Hid (OwnC wc (w.heap.size + 1 + 1) (ptL x3 y3 i3)) := OwnC.call P2_2.out hB
        have W_3 : Hid (Below w.heap.size w wc) := below_call0 W_2.out hB
        have G_3 : Hid (GlobP wc) := G_2.out.call hB
        have T_3 : Hid (GTH wc) := T_2.out.call hB
        have Q_3 : Hid (GG wc) := Q_2.out.call hB
        have V7_3 : Hid (OwnC wc bk7 (ptL X1 Y1 I1)) := OwnC.call V7_2.out hB
        have V9_3 : Hid (OwnC wc bk9 (ptL X2 Y2 I2)) := OwnC.call V9_2.out hB
        have V11_3 : Hid (OwnC wc bk11 (ptL X3 Y3 I3)) := hO
        clear hB P0_2 P1_2 P2_2 W_2 G_2 T_2 Q_2 V7_2 V9_2
        clear hO hle
        generalize wc = w3 at P0_3 P1_3 P2_3 W_3 G_3 T_3 Q_3 V7_3 V9_3 V11_3 ⊢
        go_upto_region 5 with fail
        go_wp2_with fail
        refine (K4.out _ (G_3.out) (T_3.out) (Q_3.out)).mono ?_
        rintro e w4 ⟨rfl, hq⟩
        have P0_4 : Hid (OwnC w4 (w.heap.size) (ptL x1 y1 i1)) := OwnC.call P0_3.out hq
        have P1_4 : Hid (OwnC w4 (w.heap.size + 1) (ptL x2 y2 i2)) := OwnC.call P1_3.out hq
        have P2_4 : Hid (OwnC w4 (w.heap.size + 1 + 1) (ptL x3 y3 i3)) := OwnC.call P2_3.out hq
        have W_4 : Hid (Below w.heap.size w w4) := below_call0 W_3.out hq
        have G_4 : Hid (GlobP w4) := G_3.out.call hq
        have T_4 : Hid (GTH w4) := T_3.out.call hq
        have Q_4 : Hid (GG w4) := Q_3.out.call hq
        have V7_4 : Hid (OwnC w4 bk7 (ptL X1 Y1 I1)) := OwnC.call V7_3.out hq
        have V9_4 : Hid (OwnC w4 bk9 (ptL X2 Y2 I2)) := OwnC.call V9_3.out hq
        have V11_4 : Hid (OwnC w4 bk11 (ptL X3 Y3 I3)) := OwnC.call V11_3.out hq
        clear hq P0_3 P1_3 P2_3 W_3 G_3 T_3 Q_3 V7_3 V9_3 V11_3
        go_wp2_with fail
        go_ret
        exact ⟨rfl, W_4.out⟩
set_option maxRecDepth 100000 in
set_option maxHeartbeats 4000000 in
theorem group_bad2 (x1 y1 X1 Y1 x2 y2 X2 Y2 x3 y3 X3 Y3 : Nat) (i1 I1 i2 I2 i3 I3 : Bool) (E2 : Int)
    (k1 : ∀ w, GlobP w → GTH w → Calls Tryd.prog 9 #[.agg #[.int .u64 (limb (x1) 0 : Nat), .int .u64 (limb (x1) 1 : Nat), .int .u64 (limb (x1) 2 : Nat), .int .u64 (limb (x1) 3 : Nat), .int .u64 (limb (y1) 0 : Nat), .int .u64 (limb (y1) 1 : Nat), .int .u64 (limb (y1) 2 : Nat), .int .u64 (limb (y1) 3 : Nat), .bool i1], .agg #[.int .u64 (limb (x2) 0 : Nat), .int .u64 (limb (x2) 1 : Nat), .int .u64 (limb (x2) 2 : Nat), .int .u64 (limb (x2) 3 : Nat), .int .u64 (limb (y2) 0 : Nat), .int .u64 (limb (y2) 1 : Nat), .int .u64 (limb (y2) 2 : Nat), .int .u64 (limb (y2) 3 : Nat), .bool i2]] w fun e w' => e = .returned (.tuple #[.agg #[.int .u64 (limb (X1) 0 : Nat), .int .u64 (limb (X1) 1 : Nat), .int .u64 (limb (X1) 2 : Nat), .int .u64 (limb (X1) 3 : Nat), .int .u64 (limb (Y1) 0 : Nat), .int .u64 (limb (Y1) 1 : Nat), .int .u64 (limb (Y1) 2 : Nat), .int .u64 (limb (Y1) 3 : Nat), .bool I1], .int .i64 0]) ∧ Below w.heap.size w w')
    (k2 : ∀ w, GlobP w → GTH w → Calls Tryd.prog 9 #[.agg #[.int .u64 (limb (x2) 0 : Nat), .int .u64 (limb (x2) 1 : Nat), .int .u64 (limb (x2) 2 : Nat), .int .u64 (limb (x2) 3 : Nat), .int .u64 (limb (y2) 0 : Nat), .int .u64 (limb (y2) 1 : Nat), .int .u64 (limb (y2) 2 : Nat), .int .u64 (limb (y2) 3 : Nat), .bool i2], .agg #[.int .u64 (limb (x1) 0 : Nat), .int .u64 (limb (x1) 1 : Nat), .int .u64 (limb (x1) 2 : Nat), .int .u64 (limb (x1) 3 : Nat), .int .u64 (limb (y1) 0 : Nat), .int .u64 (limb (y1) 1 : Nat), .int .u64 (limb (y1) 2 : Nat), .int .u64 (limb (y1) 3 : Nat), .bool i1]] w fun e w' => e = .returned (.tuple #[.agg #[.int .u64 (limb (X2) 0 : Nat), .int .u64 (limb (X2) 1 : Nat), .int .u64 (limb (X2) 2 : Nat), .int .u64 (limb (X2) 3 : Nat), .int .u64 (limb (Y2) 0 : Nat), .int .u64 (limb (Y2) 1 : Nat), .int .u64 (limb (Y2) 2 : Nat), .int .u64 (limb (Y2) 3 : Nat), .bool I2], .int .i64 E2]) ∧ Below w.heap.size w w')
    (k3 : ∀ w, GlobP w → GTH w → Calls Tryd.prog 9 #[.agg #[.int .u64 (limb (x2) 0 : Nat), .int .u64 (limb (x2) 1 : Nat), .int .u64 (limb (x2) 2 : Nat), .int .u64 (limb (x2) 3 : Nat), .int .u64 (limb (y2) 0 : Nat), .int .u64 (limb (y2) 1 : Nat), .int .u64 (limb (y2) 2 : Nat), .int .u64 (limb (y2) 3 : Nat), .bool i2], .agg #[.int .u64 (limb (x3) 0 : Nat), .int .u64 (limb (x3) 1 : Nat), .int .u64 (limb (x3) 2 : Nat), .int .u64 (limb (x3) 3 : Nat), .int .u64 (limb (y3) 0 : Nat), .int .u64 (limb (y3) 1 : Nat), .int .u64 (limb (y3) 2 : Nat), .int .u64 (limb (y3) 3 : Nat), .bool i3]] w fun e w' => e = .returned (.tuple #[.agg #[.int .u64 (limb (X3) 0 : Nat), .int .u64 (limb (X3) 1 : Nat), .int .u64 (limb (X3) 2 : Nat), .int .u64 (limb (X3) 3 : Nat), .int .u64 (limb (Y3) 0 : Nat), .int .u64 (limb (Y3) 1 : Nat), .int .u64 (limb (Y3) 2 : Nat), .int .u64 (limb (Y3) 3 : Nat), .bool I3], .int .i64 30]) ∧ Below w.heap.size w w')
    (w : World) (hG : GlobP w) (hT : GTH w) (hQ : GG w) : Calls Tryd.prog 7 #[.agg #[.int .u64 (limb (x1) 0 : Nat), .int .u64 (limb (x1) 1 : Nat), .int .u64 (limb (x1) 2 : Nat), .int .u64 (limb (x1) 3 : Nat), .int .u64 (limb (y1) 0 : Nat), .int .u64 (limb (y1) 1 : Nat), .int .u64 (limb (y1) 2 : Nat), .int .u64 (limb (y1) 3 : Nat), .bool i1], .agg #[.int .u64 (limb (x2) 0 : Nat), .int .u64 (limb (x2) 1 : Nat), .int .u64 (limb (x2) 2 : Nat), .int .u64 (limb (x2) 3 : Nat), .int .u64 (limb (y2) 0 : Nat), .int .u64 (limb (y2) 1 : Nat), .int .u64 (limb (y2) 2 : Nat), .int .u64 (limb (y2) 3 : Nat), .bool i2], .agg #[.int .u64 (limb (x3) 0 : Nat), .int .u64 (limb (x3) 1 : Nat), .int .u64 (limb (x3) 2 : Nat), .int .u64 (limb (x3) 3 : Nat), .int .u64 (limb (y3) 0 : Nat), .int .u64 (limb (y3) 1 : Nat), .int .u64 (limb (y3) 2 : Nat), .int .u64 (limb (y3) 3 : Nat), .bool i3]] w fun e w' => e = .returned (.bool true) ∧ Below w.heap.size w w' := by
  have K1 : Hid (∀ w, GlobP w → GTH w → Calls Tryd.prog 9 #[.agg #[.int .u64 (limb (x1) 0 : Nat), .int .u64 (limb (x1) 1 : Nat), .int .u64 (limb (x1) 2 : Nat), .int .u64 (limb (x1) 3 : Nat), .int .u64 (limb (y1) 0 : Nat), .int .u64 (limb (y1) 1 : Nat), .int .u64 (limb (y1) 2 : Nat), .int .u64 (limb (y1) 3 : Nat), .bool i1], .agg #[.int .u64 (limb (x2) 0 : Nat), .int .u64 (limb (x2) 1 : Nat), .int .u64 (limb (x2) 2 : Nat), .int .u64 (limb (x2) 3 : Nat), .int .u64 (limb (y2) 0 : Nat), .int .u64 (limb (y2) 1 : Nat), .int .u64 (limb (y2) 2 : Nat), .int .u64 (limb (y2) 3 : Nat), .bool i2]] w fun e w' => e = .returned (.tuple #[.agg #[.int .u64 (limb (X1) 0 : Nat), .int .u64 (limb (X1) 1 : Nat), .int .u64 (limb (X1) 2 : Nat), .int .u64 (limb (X1) 3 : Nat), .int .u64 (limb (Y1) 0 : Nat), .int .u64 (limb (Y1) 1 : Nat), .int .u64 (limb (Y1) 2 : Nat), .int .u64 (limb (Y1) 3 : Nat), .bool I1], .int .i64 0]) ∧ Below w.heap.size w w') := k1
  have K2 : Hid (∀ w, GlobP w → GTH w → Calls Tryd.prog 9 #[.agg #[.int .u64 (limb (x2) 0 : Nat), .int .u64 (limb (x2) 1 : Nat), .int .u64 (limb (x2) 2 : Nat), .int .u64 (limb (x2) 3 : Nat), .int .u64 (limb (y2) 0 : Nat), .int .u64 (limb (y2) 1 : Nat), .int .u64 (limb (y2) 2 : Nat), .int .u64 (limb (y2) 3 : Nat), .bool i2], .agg #[.int .u64 (limb (x1) 0 : Nat), .int .u64 (limb (x1) 1 : Nat), .int .u64 (limb (x1) 2 : Nat), .int .u64 (limb (x1) 3 : Nat), .int .u64 (limb (y1) 0 : Nat), .int .u64 (limb (y1) 1 : Nat), .int .u64 (limb (y1) 2 : Nat), .int .u64 (limb (y1) 3 : Nat), .bool i1]] w fun e w' => e = .returned (.tuple #[.agg #[.int .u64 (limb (X2) 0 : Nat), .int .u64 (limb (X2) 1 : Nat), .int .u64 (limb (X2) 2 : Nat), .int .u64 (limb (X2) 3 : Nat), .int .u64 (limb (Y2) 0 : Nat), .int .u64 (limb (Y2) 1 : Nat), .int .u64 (limb (Y2) 2 : Nat), .int .u64 (limb (Y2) 3 : Nat), .bool I2], .int .i64 E2]) ∧ Below w.heap.size w w') := k2
  have K3 : Hid (∀ w, GlobP w → GTH w → Calls Tryd.prog 9 #[.agg #[.int .u64 (limb (x2) 0 : Nat), .int .u64 (limb (x2) 1 : Nat), .int .u64 (limb (x2) 2 : Nat), .int .u64 (limb (x2) 3 : Nat), .int .u64 (limb (y2) 0 : Nat), .int .u64 (limb (y2) 1 : Nat), .int .u64 (limb (y2) 2 : Nat), .int .u64 (limb (y2) 3 : Nat), .bool i2], .agg #[.int .u64 (limb (x3) 0 : Nat), .int .u64 (limb (x3) 1 : Nat), .int .u64 (limb (x3) 2 : Nat), .int .u64 (limb (x3) 3 : Nat), .int .u64 (limb (y3) 0 : Nat), .int .u64 (limb (y3) 1 : Nat), .int .u64 (limb (y3) 2 : Nat), .int .u64 (limb (y3) 3 : Nat), .bool i3]] w fun e w' => e = .returned (.tuple #[.agg #[.int .u64 (limb (X3) 0 : Nat), .int .u64 (limb (X3) 1 : Nat), .int .u64 (limb (X3) 2 : Nat), .int .u64 (limb (X3) 3 : Nat), .int .u64 (limb (Y3) 0 : Nat), .int .u64 (limb (Y3) 1 : Nat), .int .u64 (limb (Y3) 2 : Nat), .int .u64 (limb (Y3) 3 : Nat), .bool I3], .int .i64 30]) ∧ Below w.heap.size w w') := k3
  have K4 : Hid (∀ w, GlobP w → GTH w → GG w → Calls Tryd.prog 15 #[] w fun e w' => e = .returned (.bool true) ∧ Below w.heap.size w w') := fun w h1 h2 h3 => g3_any w h1 h2 h3
  obtain ⟨w0, hw0⟩ : ∃ wq, wq = (((w.alloc (.cells #[.int .u64 (limb (x1) 0 : Nat), .int .u64 (limb (x1) 1 : Nat), .int .u64 (limb (x1) 2 : Nat), .int .u64 (limb (x1) 3 : Nat), .int .u64 (limb (y1) 0 : Nat), .int .u64 (limb (y1) 1 : Nat), .int .u64 (limb (y1) 2 : Nat), .int .u64 (limb (y1) 3 : Nat), .bool i1] 26)).alloc (.cells #[.int .u64 (limb (x2) 0 : Nat), .int .u64 (limb (x2) 1 : Nat), .int .u64 (limb (x2) 2 : Nat), .int .u64 (limb (x2) 3 : Nat), .int .u64 (limb (y2) 0 : Nat), .int .u64 (limb (y2) 1 : Nat), .int .u64 (limb (y2) 2 : Nat), .int .u64 (limb (y2) 3 : Nat), .bool i2] 26)).alloc (.cells #[.int .u64 (limb (x3) 0 : Nat), .int .u64 (limb (x3) 1 : Nat), .int .u64 (limb (x3) 2 : Nat), .int .u64 (limb (x3) 3 : Nat), .int .u64 (limb (y3) 0 : Nat), .int .u64 (limb (y3) 1 : Nat), .int .u64 (limb (y3) 2 : Nat), .int .u64 (limb (y3) 3 : Nat), .bool i3] 26)) := ⟨_, rfl⟩
  have H0 : Hid (OwnC w0 (w.heap.size) (ptL x1 y1 i1)) ∧ Hid (OwnC w0 (w.heap.size + 1) (ptL x2 y2 i2)) ∧ Hid (OwnC w0 (w.heap.size + 1 + 1) (ptL x3 y3 i3)) ∧ Hid (Below w.heap.size w w0) ∧ Hid (GlobP w0) ∧ Hid (GTH w0) ∧ Hid (GG w0) := by
    rw [hw0]
    exact ⟨(OwnC.new' rfl).alloc.alloc, (OwnC.new' (by simp only [World.size_alloc])).alloc, (OwnC.new' (by simp only [World.size_alloc])), below_alloc0 (below_alloc0 (below_alloc0 (Below.refl _ _) _) _) _, (hG).call (below_alloc0 (below_alloc0 (below_alloc0 (Below.refl _ _) _) _) _), (hT).call (below_alloc0 (below_alloc0 (below_alloc0 (Below.refl _ _) _) _) _), (hQ).call (below_alloc0 (below_alloc0 (below_alloc0 (Below.refl _ _) _) _) _)⟩
  obtain ⟨P0_0, P1_0, P2_0, W_0, G_0, T_0, Q_0⟩ := H0
  clear hG hT hQ k1 k2 k3
  go_enter Tryd.func7, Tryd.ntmps7
  go_upto_region 1 with fail
  rw [← hw0]
  clear hw0
  go_upto_region 1 with fail
  go_cut [7, 8] (fun vq7 vq8 wx => ∃ bk7, vq7 = .pointer (some ⟨bk7, 0, none⟩) ∧ vq8 = .int .i64 0 ∧ w0.heap.size ≤ bk7 ∧ OwnC wx bk7 (ptL X1 Y1 I1) ∧ Below w0.heap.size w0 wx)
  case first =>
    obtain ⟨fP0z, fP00, fP01, fP02, fP03, fP04, fP05, fP06, fP07, fP08, fP0f⟩ := (P0_0.out).pt
    obtain ⟨fP1z, fP10, fP11, fP12, fP13, fP14, fP15, fP16, fP17, fP18, fP1f⟩ := (P1_0.out).pt
    go_wp2_with fail
    clear fP0z fP00 fP01 fP02 fP03 fP04 fP05 fP06 fP07 fP08 fP0f fP1z fP10 fP11 fP12 fP13 fP14 fP15 fP16 fP17 fP18 fP1f
    refine (K1.out _ (G_0.out) (T_0.out)).mono ?_
    rintro e wx0 ⟨rfl, hq0⟩
    go_wp2_with fail
    go_meet
    exact ⟨_, rfl, rfl, hq0.size, OwnC.new' rfl, below_alloc0 hq0 _⟩
  case rest =>
    obtain ⟨bk7, rfl, rfl, hle, hO, hB⟩ := hcut
    have P0_1 : Hid (OwnC wc (w.heap.size) (ptL x1 y1 i1)) := OwnC.call P0_0.out hB
    have P1_1 : Hid (OwnC wc (w.heap.size + 1) (ptL x2 y2 i2)) := OwnC.call P1_0.out hB
    have P2_1 : Hid (OwnC wc (w.heap.size + 1 + 1) (ptL x3 y3 i3)) := OwnC.call P2_0.out hB
    have W_1 : Hid (Below w.heap.size w wc) := below_call0 W_0.out hB
    have G_1 : Hid (GlobP wc) := G_0.out.call hB
    have T_1 : Hid (GTH wc) := T_0.out.call hB
    have Q_1 : Hid (GG wc) := Q_0.out.call hB
    have V7_1 : Hid (OwnC wc bk7 (ptL X1 Y1 I1)) := hO
    clear hB P0_0 P1_0 P2_0 W_0 G_0 T_0 Q_0
    clear hO hle
    generalize wc = w1 at P0_1 P1_1 P2_1 W_1 G_1 T_1 Q_1 V7_1 ⊢
    go_upto_region 2 with fail
    go_cut [9, 10] (fun vq9 vq10 wx => ∃ bk9, vq9 = .pointer (some ⟨bk9, 0, none⟩) ∧ vq10 = .int .i64 E2 ∧ w1.heap.size ≤ bk9 ∧ OwnC wx bk9 (ptL X2 Y2 I2) ∧ Below w1.heap.size w1 wx)
    case first =>
      obtain ⟨fP0z, fP00, fP01, fP02, fP03, fP04, fP05, fP06, fP07, fP08, fP0f⟩ := (P0_1.out).pt
      obtain ⟨fP1z, fP10, fP11, fP12, fP13, fP14, fP15, fP16, fP17, fP18, fP1f⟩ := (P1_1.out).pt
      go_wp2_with fail
      clear fP0z fP00 fP01 fP02 fP03 fP04 fP05 fP06 fP07 fP08 fP0f fP1z fP10 fP11 fP12 fP13 fP14 fP15 fP16 fP17 fP18 fP1f
      refine (K2.out _ (G_1.out) (T_1.out)).mono ?_
      rintro e wx0 ⟨rfl, hq0⟩
      go_wp2_with fail
      go_meet
      exact ⟨_, rfl, rfl, hq0.size, OwnC.new' rfl, below_alloc0 hq0 _⟩
    case rest =>
      obtain ⟨bk9, rfl, rfl, hle, hO, hB⟩ := hcut
      rename_i vv19 vv20 vv21 vv22 vv23 vv24 vv25 vv26 vv27 vv28 vv29 vv30 vv31 vv32 vv33 vv34 vv35 vv36 vv37 vv38 vv39 vv40 vv41 vv42 vv43 vv44 vv45 vv46 vv47 vv48 vv49 vv50 vv51 vv52 vv53 vv54 vv55 vv56 vv57 vv58 vv59 vv60 vv61 vv62 vv63 vv64 vv65 vv66 vv67 vv68 vv69 vv70 vv71 vv72 vv73 vv74 vv75 vv76 vv77 vv78 vv79 vv80 vv81 vv82 vv83 vv84 vv85 vv86 vv87 vv88 vv89 vv90 vv91 vv92 vv93 Kq1 hKq1
      clear vv19 vv20 vv21 vv22 vv23 vv24 vv25 vv26 vv27 vv28 vv29 vv30 vv31 vv32 vv33 vv34 vv35 vv36 vv37 vv38 vv39 vv40 vv41 vv42 vv43 vv44 vv45 vv46 vv47 vv48 vv49 vv50 vv51 vv52 vv53 vv54 vv55 vv56 vv57 vv58 vv59 vv60 vv61 vv62 vv63 vv64 vv65 vv66 vv67 vv68 vv69 vv70 vv71 vv72 vv73 vv74 vv75 vv76 vv77 vv78 vv79 vv80 vv81 vv82 vv83 vv84 vv85 vv86 vv87 vv88 vv89 vv90 vv91 vv92 vv93
      have P0_2 : Hid (OwnC wc (w.heap.size) (ptL x1 y1 i1)) := OwnC.call P0_1.out hB
      have P1_2 : Hid (OwnC wc (w.heap.size + 1) (ptL x2 y2 i2)) := OwnC.call P1_1.out hB
      have P2_2 : Hid (OwnC wc (w.heap.size + 1 + 1) (ptL x3 y3 i3)) := OwnC.call P2_1.out hB
      have W_2 : Hid (Below w.heap.size w wc) := below_call0 W_1.out hB
      have G_2 : Hid (GlobP wc) := G_1.out.call hB
      have T_2 : Hid (GTH wc) := T_1.out.call hB
      have Q_2 : Hid (GG wc) := Q_1.out.call hB
      have V7_2 : Hid (OwnC wc bk7 (ptL X1 Y1 I1)) := OwnC.call V7_1.out hB
      have V9_2 : Hid (OwnC wc bk9 (ptL X2 Y2 I2)) := hO
      clear hB P0_1 P1_1 P2_1 W_1 G_1 T_1 Q_1 V7_1
      clear hO hle
      generalize wc = w2 at P0_2 P1_2 P2_2 W_2 G_2 T_2 Q_2 V7_2 V9_2 ⊢
      go_upto_region 3 with fail
      go_cut [11, 12] (fun vq11 vq12 wx => ∃ bk11, vq11 = .pointer (some ⟨bk11, 0, none⟩) ∧ vq12 = .int .i64 30 ∧ w2.heap.size ≤ bk11 ∧ OwnC wx bk11 (ptL X3 Y3 I3) ∧ Below w2.heap.size w2 wx)
      case first =>
        obtain ⟨fP1z, fP10, fP11, fP12, fP13, fP14, fP15, fP16, fP17, fP18, fP1f⟩ := (P1_2.out).pt
        obtain ⟨fP2z, fP20, fP21, fP22, fP23, fP24, fP25, fP26, fP27, fP28, fP2f⟩ := (P2_2.out).pt
        go_wp2_with fail
        clear fP1z fP10 fP11 fP12 fP13 fP14 fP15 fP16 fP17 fP18 fP1f fP2z fP20 fP21 fP22 fP23 fP24 fP25 fP26 fP27 fP28 fP2f
        refine (K3.out _ (G_2.out) (T_2.out)).mono ?_
        rintro e wx0 ⟨rfl, hq0⟩
        go_wp2_with fail
        go_meet
        exact ⟨_, rfl, rfl, hq0.size, OwnC.new' rfl, below_alloc0 hq0 _⟩
      case rest =>
        obtain ⟨bk11, rfl, rfl, hle, hO, hB⟩ := hcut
        rename_i vv19 vv20 vv21 vv22 vv23 vv24 vv25 vv26 vv27 vv28 vv29 vv30 vv31 vv32 vv33 vv34 vv35 vv36 vv37 vv38 vv39 vv40 vv41 vv42 vv43 vv44 vv45 vv46 vv47 vv48 vv49 vv50 vv51 vv52 vv53 vv54 vv55 vv56 vv57 vv58 vv59 vv60 vv61 vv62 vv63 vv64 vv65 vv66 vv67 vv68 vv69 vv70 vv71 vv72 vv73 vv74 vv75 vv76 vv77 vv78 vv79 vv80 vv81 vv82 vv83 vv84 vv85 vv86 vv87 vv88 vv89 vv90 vv91 vv92 vv93 Kq2 hKq2
        clear vv19 vv20 vv21 vv22 vv23 vv24 vv25 vv26 vv27 vv28 vv29 vv30 vv31 vv32 vv33 vv34 vv35 vv36 vv37 vv38 vv39 vv40 vv41 vv42 vv43 vv44 vv45 vv46 vv47 vv48 vv49 vv50 vv51 vv52 vv53 vv54 vv55 vv56 vv57 vv58 vv59 vv60 vv61 vv62 vv63 vv64 vv65 vv66 vv67 vv68 vv69 vv70 vv71 vv72 vv73 vv74 vv75 vv76 vv77 vv78 vv79 vv80 vv81 vv82 vv83 vv84 vv85 vv86 vv87 vv88 vv89 vv90 vv91 vv92 vv93
        have P0_3 : Hid (OwnC wc (w.heap.size) (ptL x1 y1 i1)) := OwnC.call P0_2.out hB
        have P1_3 : Hid (OwnC wc (w.heap.size + 1) (ptL x2 y2 i2)) := OwnC.call P1_2.out hB
        have P2_3 : Hid (OwnC wc (w.heap.size + 1 + 1) (ptL x3 y3 i3)) := OwnC.call P2_2.out hB
        have W_3 : Hid (Below w.heap.size w wc) := below_call0 W_2.out hB
        have G_3 : Hid (GlobP wc) := G_2.out.call hB
        have T_3 : Hid (GTH wc) := T_2.out.call hB
        have Q_3 : Hid (GG wc) := Q_2.out.call hB
        have V7_3 : Hid (OwnC wc bk7 (ptL X1 Y1 I1)) := OwnC.call V7_2.out hB
        have V9_3 : Hid (OwnC wc bk9 (ptL X2 Y2 I2)) := OwnC.call V9_2.out hB
        have V11_3 : Hid (OwnC wc bk11 (ptL X3 Y3 I3)) := hO
        clear hB P0_2 P1_2 P2_2 W_2 G_2 T_2 Q_2 V7_2 V9_2
        clear hO hle
        generalize wc = w3 at P0_3 P1_3 P2_3 W_3 G_3 T_3 Q_3 V7_3 V9_3 V11_3 ⊢
        go_upto_region 5 with fail
        go_wp2_with fail
        refine (K4.out _ (G_3.out) (T_3.out) (Q_3.out)).mono ?_
        rintro e w4 ⟨rfl, hq⟩
        have P0_4 : Hid (OwnC w4 (w.heap.size) (ptL x1 y1 i1)) := OwnC.call P0_3.out hq
        have P1_4 : Hid (OwnC w4 (w.heap.size + 1) (ptL x2 y2 i2)) := OwnC.call P1_3.out hq
        have P2_4 : Hid (OwnC w4 (w.heap.size + 1 + 1) (ptL x3 y3 i3)) := OwnC.call P2_3.out hq
        have W_4 : Hid (Below w.heap.size w w4) := below_call0 W_3.out hq
        have G_4 : Hid (GlobP w4) := G_3.out.call hq
        have T_4 : Hid (GTH w4) := T_3.out.call hq
        have Q_4 : Hid (GG w4) := Q_3.out.call hq
        have V7_4 : Hid (OwnC w4 bk7 (ptL X1 Y1 I1)) := OwnC.call V7_3.out hq
        have V9_4 : Hid (OwnC w4 bk9 (ptL X2 Y2 I2)) := OwnC.call V9_3.out hq
        have V11_4 : Hid (OwnC w4 bk11 (ptL X3 Y3 I3)) := OwnC.call V11_3.out hq
        clear hq P0_3 P1_3 P2_3 W_3 G_3 T_3 Q_3 V7_3 V9_3 V11_3
        go_wp2_with fail
        go_ret
        exact ⟨rfl, W_4.out⟩
/-- What Add answers, whatever is handed in. -/
theorem Add_gen (x y u v : Nat) (i j : Bool) (hX : x < R256) (hY : y < R256) (hU : u < R256) (hV : v < R256) : ∃ (X Y : Nat) (I : Bool) (E : Int), ((ptOk x y i = true ∧ ptOk u v j = true ∧ E = 0) ∨ (¬ (ptOk x y i = true ∧ ptOk u v j = true) ∧ E = 30)) ∧
    ∀ w, GlobP w → GTH w → Calls Tryd.prog 9 #[.agg #[.int .u64 (limb (x) 0 : Nat), .int .u64 (limb (x) 1 : Nat), .int .u64 (limb (x) 2 : Nat), .int .u64 (limb (x) 3 : Nat), .int .u64 (limb (y) 0 : Nat), .int .u64 (limb (y) 1 : Nat), .int .u64 (limb (y) 2 : Nat), .int .u64 (limb (y) 3 : Nat), .bool (i)], .agg #[.int .u64 (limb (u) 0 : Nat), .int .u64 (limb (u) 1 : Nat), .int .u64 (limb (u) 2 : Nat), .int .u64 (limb (u) 3 : Nat), .int .u64 (limb (v) 0 : Nat), .int .u64 (limb (v) 1 : Nat), .int .u64 (limb (v) 2 : Nat), .int .u64 (limb (v) 3 : Nat), .bool (j)]] w fun e w' => e = .returned (.tuple #[.agg #[.int .u64 (limb (X) 0 : Nat), .int .u64 (limb (X) 1 : Nat), .int .u64 (limb (X) 2 : Nat), .int .u64 (limb (X) 3 : Nat), .int .u64 (limb (Y) 0 : Nat), .int .u64 (limb (Y) 1 : Nat), .int .u64 (limb (Y) 2 : Nat), .int .u64 (limb (Y) 3 : Nat), .bool (I)], .int .i64 E]) ∧ Below w.heap.size w w' := by
  cases h1 : ptOk x y i with
  | false =>
    refine ⟨0, 0, false, 30, .inr ⟨fun c => (by cases c.1), rfl⟩, fun w hG _ => ?_⟩
    rw [lit0.1, lit0.2.1, lit0.2.2.1, lit0.2.2.2]
    exact Add_bad1 x y u v i j hX hY h1 w hG
  | true =>
    cases h2 : ptOk u v j with
    | false =>
      refine ⟨0, 0, false, 30, .inr ⟨fun c => (by cases c.2), rfl⟩, fun w hG _ => ?_⟩
      rw [lit0.1, lit0.2.1, lit0.2.2.1, lit0.2.2.2]
      exact Add_bad2 x y u v i j hX hY hU hV h1 h2 w hG
    | true =>
      obtain ⟨a, rfl, rfl, rfl⟩ := pts_of h1
      obtain ⟨b, rfl, rfl, rfl⟩ := pts_of h2
      exact ⟨_, _, _, 0, .inl ⟨rfl, rfl, rfl⟩, fun w hG hT => Add_A a b w hG hT⟩
theorem group_any (x1 y1 x2 y2 x3 y3 : Nat) (i1 i2 i3 : Bool) (hx1 : x1 < R256) (hy1 : y1 < R256) (hx2 : x2 < R256) (hy2 : y2 < R256) (hx3 : x3 < R256) (hy3 : y3 < R256) (w : World) (hG : GlobP w) (hT : GTH w) (hQ : GG w) :
    Calls Tryd.prog 7 #[.agg #[.int .u64 (limb (x1) 0 : Nat), .int .u64 (limb (x1) 1 : Nat), .int .u64 (limb (x1) 2 : Nat), .int .u64 (limb (x1) 3 : Nat), .int .u64 (limb (y1) 0 : Nat), .int .u64 (limb (y1) 1 : Nat), .int .u64 (limb (y1) 2 : Nat), .int .u64 (limb (y1) 3 : Nat), .bool (i1)], .agg #[.int .u64 (limb (x2) 0 : Nat), .int .u64 (limb (x2) 1 : Nat), .int .u64 (limb (x2) 2 : Nat), .int .u64 (limb (x2) 3 : Nat), .int .u64 (limb (y2) 0 : Nat), .int .u64 (limb (y2) 1 : Nat), .int .u64 (limb (y2) 2 : Nat), .int .u64 (limb (y2) 3 : Nat), .bool (i2)], .agg #[.int .u64 (limb (x3) 0 : Nat), .int .u64 (limb (x3) 1 : Nat), .int .u64 (limb (x3) 2 : Nat), .int .u64 (limb (x3) 3 : Nat), .int .u64 (limb (y3) 0 : Nat), .int .u64 (limb (y3) 1 : Nat), .int .u64 (limb (y3) 2 : Nat), .int .u64 (limb (y3) 3 : Nat), .bool (i3)]] w fun e w' => e = .returned (.bool true) ∧ Below w.heap.size w w' := by
  obtain ⟨X1, Y1, I1, E1, h1, k1⟩ := Add_gen x1 y1 x2 y2 i1 i2 hx1 hy1 hx2 hy2
  obtain ⟨X2, Y2, I2, E2, h2, k2⟩ := Add_gen x2 y2 x1 y1 i2 i1 hx2 hy2 hx1 hy1
  obtain ⟨X3, Y3, I3, E3, h3, k3⟩ := Add_gen x2 y2 x3 y3 i2 i3 hx2 hy2 hx3 hy3
  rcases h1 with ⟨a1, a2, rfl⟩ | ⟨_, rfl⟩
  · rcases h3 with ⟨_, a3, rfl⟩ | ⟨_, rfl⟩
    · obtain ⟨a, rfl, rfl, rfl⟩ := pts_of a1
      obtain ⟨b, rfl, rfl, rfl⟩ := pts_of a2
      obtain ⟨c, rfl, rfl, rfl⟩ := pts_of a3
      exact group_ok a b c w hG hT hQ
    · exact group_bad2 _ _ _ _ _ _ _ _ _ _ _ _ _ _ _ _ _ _ _ k1 k2 k3 w hG hT hQ
  · exact group_bad1 _ _ _ _ _ _ _ _ _ _ _ _ _ _ _ _ _ _ _ _ k1 k2 k3 w hG hT hQ
end Go.Proofs.YtgmfecncfekjfaaDoor
