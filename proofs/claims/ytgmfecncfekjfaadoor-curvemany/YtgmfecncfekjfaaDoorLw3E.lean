/- Curve: the sum of numbers times points: the law's walk. -/
import Derived.Test.YtgmfecncfekjfaaDoorLw3A
import Derived.Test.YtgmfecncfekjfaaDoorRf3V
import Derived.Test.YtgmfecncfekjfaaDoorCvSu
namespace Go.Proofs.YtgmfecncfekjfaaDoor
open Go Go.RowKit Go.Lib
attribute [local go_sem] run_eqP run_eq49 eq4_same beqB_same

set_option maxRecDepth 100000 in
set_option maxHeartbeats 4000000 in
theorem many_go (ka pa : Option Addr) (n m kc pc : Nat) (ks : List Nat) (ps : List (Nat × Nat × Bool)) (X Y : Nat) (I : Bool) (E : Int) (hn : n ≤ 70) (hm : m ≤ 70)
    (k1 : ∀ w, GlobP w → GlobQ w → GTH w → NumsAt w ka ks → PntsAt w pa ps → Calls Tryd.prog 18 #[.slice ka n kc, .slice pa m pc] w fun e w' => e = .returned (.tuple #[.agg #[.int .u64 (limb (X) 0 : Nat), .int .u64 (limb (X) 1 : Nat), .int .u64 (limb (X) 2 : Nat), .int .u64 (limb (X) 3 : Nat), .int .u64 (limb (Y) 0 : Nat), .int .u64 (limb (Y) 1 : Nat), .int .u64 (limb (Y) 2 : Nat), .int .u64 (limb (Y) 3 : Nat), .bool I], .int .i64 E]) ∧ Below w.heap.size w w')
    (k2 : ∀ w, NumsAt w ka ks → PntsAt w pa ps → Calls Tryd.prog 19 #[.slice ka n kc, .slice pa m pc] w fun e w' => e = .returned (.tuple #[.agg #[.int .u64 (limb (X) 0 : Nat), .int .u64 (limb (X) 1 : Nat), .int .u64 (limb (X) 2 : Nat), .int .u64 (limb (X) 3 : Nat), .int .u64 (limb (Y) 0 : Nat), .int .u64 (limb (Y) 1 : Nat), .int .u64 (limb (Y) 2 : Nat), .int .u64 (limb (Y) 3 : Nat), .bool I], .int .i64 E]) ∧ Below w.heap.size w w') (w : World) (hG : GlobP w) (hN : GlobQ w) (hT : GTH w) (hQ : GG w) (hK : NumsAt w ka ks) (hP : PntsAt w pa ps) : Calls Tryd.prog 5 #[.slice ka n kc, .slice pa m pc] w fun e w' => e = .returned (.bool true) ∧ Below w.heap.size w w' := by
  have K1 : Hid (∀ w, GlobP w → GlobQ w → GTH w → NumsAt w ka ks → PntsAt w pa ps → Calls Tryd.prog 18 #[.slice ka n kc, .slice pa m pc] w fun e w' => e = .returned (.tuple #[.agg #[.int .u64 (limb (X) 0 : Nat), .int .u64 (limb (X) 1 : Nat), .int .u64 (limb (X) 2 : Nat), .int .u64 (limb (X) 3 : Nat), .int .u64 (limb (Y) 0 : Nat), .int .u64 (limb (Y) 1 : Nat), .int .u64 (limb (Y) 2 : Nat), .int .u64 (limb (Y) 3 : Nat), .bool I], .int .i64 E]) ∧ Below w.heap.size w w') := k1
  have K2 : Hid (∀ w, NumsAt w ka ks → PntsAt w pa ps → Calls Tryd.prog 19 #[.slice ka n kc, .slice pa m pc] w fun e w' => e = .returned (.tuple #[.agg #[.int .u64 (limb (X) 0 : Nat), .int .u64 (limb (X) 1 : Nat), .int .u64 (limb (X) 2 : Nat), .int .u64 (limb (X) 3 : Nat), .int .u64 (limb (Y) 0 : Nat), .int .u64 (limb (Y) 1 : Nat), .int .u64 (limb (Y) 2 : Nat), .int .u64 (limb (Y) 3 : Nat), .bool I], .int .i64 E]) ∧ Below w.heap.size w w') := k2
  have K3 : Hid (∀ w, GlobP w → GTH w → GG w → Calls Tryd.prog 15 #[] w fun e w' => e = .returned (.bool true) ∧ Below w.heap.size w w') := fun w h1 h2 h3 => g3_any w h1 h2 h3
  obtain ⟨w0, hw0⟩ : ∃ wq, wq = w := ⟨_, rfl⟩
  have H0 : Hid (Below w.heap.size w w0) ∧ Hid (GlobP w0) ∧ Hid (GlobQ w0) ∧ Hid (GTH w0) ∧ Hid (GG w0) ∧ Hid (NumsAt w0 ka ks) ∧ Hid (PntsAt w0 pa ps) := by
    rw [hw0]
    exact ⟨Below.refl _ _, (hG).call (Below.refl _ _), (hN).call (Below.refl _ _), (hT).call (Below.refl _ _), (hQ).call (Below.refl _ _), (hK).call (Below.refl _ _), (hP).call (Below.refl _ _)⟩
  obtain ⟨W_0, G_0, N_0, T_0, Q_0, K_0, P_0⟩ := H0
  clear hG hN hT hQ k1 k2 hK hP
  have d1 : ¬ ((70 : Int) < (n : Int)) := by omega
  have d2 : ¬ ((70 : Int) < (m : Int)) := by omega
  have d3 : decide ((70 : Int) < (n : Int)) = false := decide_eq_false d1
  have d4 : decide ((70 : Int) < (m : Int)) = false := decide_eq_false d2
  clear hn hm
  go_enter Tryd.func5, Tryd.ntmps5
  go_upto_region 1 with fail
  rw [← hw0]
  clear hw0
  go_upto_region 3 with fail
  go_upto_region 3 with fail
  go_cut [5, 6] (fun vq5 vq6 wx => ∃ bk5, vq5 = .pointer (some ⟨bk5, 0, none⟩) ∧ vq6 = .int .i64 E ∧ w0.heap.size ≤ bk5 ∧ OwnC wx bk5 (ptL X Y I) ∧ Below w0.heap.size w0 wx)
  case first =>
    go_wp2_with fail
    refine (K1.out _ (G_0.out) (N_0.out) (T_0.out) (K_0.out) (P_0.out)).mono ?_
    rintro e wx0 ⟨rfl, hq0⟩
    go_wp2_with fail
    go_meet
    exact ⟨_, rfl, rfl, hq0.size, OwnC.new' rfl, below_alloc0 hq0 _⟩
  case rest =>
    obtain ⟨bk5, rfl, rfl, hle, hO, hB⟩ := hcut
    have W_1 : Hid (Below w.heap.size w wc) := below_call0 W_0.out hB
    have G_1 : Hid (GlobP wc) := G_0.out.call hB
    have N_1 : Hid (GlobQ wc) := N_0.out.call hB
    have T_1 : Hid (GTH wc) := T_0.out.call hB
    have Q_1 : Hid (GG wc) := Q_0.out.call hB
    have K_1 : Hid (NumsAt wc ka ks) := K_0.out.call hB
    have P_1 : Hid (PntsAt wc pa ps) := P_0.out.call hB
    have V5_1 : Hid (OwnC wc bk5 (ptL X Y I)) := hO
    clear hB W_0 G_0 N_0 T_0 Q_0 K_0 P_0
    clear hO hle
    generalize wc = w1 at W_1 G_1 N_1 T_1 Q_1 K_1 P_1 V5_1 ⊢
    go_upto_region 4 with fail
    go_cut [7, 8] (fun vq7 vq8 wx => ∃ bk7, vq7 = .pointer (some ⟨bk7, 0, none⟩) ∧ vq8 = .int .i64 E ∧ w1.heap.size ≤ bk7 ∧ OwnC wx bk7 (ptL X Y I) ∧ Below w1.heap.size w1 wx)
    case first =>
      go_wp2_with fail
      refine (K2.out _ (K_1.out) (P_1.out)).mono ?_
      rintro e wx0 ⟨rfl, hq0⟩
      go_wp2_with fail
      go_meet
      exact ⟨_, rfl, rfl, hq0.size, OwnC.new' rfl, below_alloc0 hq0 _⟩
    case rest =>
      obtain ⟨bk7, rfl, rfl, hle, hO, hB⟩ := hcut
      rename_i uj uk ul um un uo up uq ur us ut uu uv uw ux uy uz uA uB uC uD uE uF uG uH uI uJ uK uL uM uN uO Kq1 hKq1
      clear uj uk ul um un uo up uq ur us ut uu uv uw ux uy uz uA uB uC uD uE uF uG uH uI uJ uK uL uM uN uO
      have W_2 : Hid (Below w.heap.size w wc) := below_call0 W_1.out hB
      have G_2 : Hid (GlobP wc) := G_1.out.call hB
      have N_2 : Hid (GlobQ wc) := N_1.out.call hB
      have T_2 : Hid (GTH wc) := T_1.out.call hB
      have Q_2 : Hid (GG wc) := Q_1.out.call hB
      have K_2 : Hid (NumsAt wc ka ks) := K_1.out.call hB
      have P_2 : Hid (PntsAt wc pa ps) := P_1.out.call hB
      have V5_2 : Hid (OwnC wc bk5 (ptL X Y I)) := OwnC.call V5_1.out hB
      have V7_2 : Hid (OwnC wc bk7 (ptL X Y I)) := hO
      clear hB W_1 G_1 N_1 T_1 Q_1 K_1 P_1 V5_1
      clear hO hle
      generalize wc = w2 at W_2 G_2 N_2 T_2 Q_2 K_2 P_2 V5_2 V7_2 ⊢
      obtain ⟨fV5z, fV50, fV51, fV52, fV53, fV54, fV55, fV56, fV57, fV58, fV5f⟩ := (V5_2.out).pt
      obtain ⟨fV7z, fV70, fV71, fV72, fV73, fV74, fV75, fV76, fV77, fV78, fV7f⟩ := (V7_2.out).pt
      go_wp2_with fail
      clear fV5z fV50 fV51 fV52 fV53 fV54 fV55 fV56 fV57 fV58 fV5f fV7z fV70 fV71 fV72 fV73 fV74 fV75 fV76 fV77 fV78 fV7f
      refine (K3.out _ (G_2.out) (T_2.out) (Q_2.out)).mono ?_
      rintro e w3 ⟨rfl, hq⟩
      have W_3 : Hid (Below w.heap.size w w3) := below_call0 W_2.out hq
      have G_3 : Hid (GlobP w3) := G_2.out.call hq
      have N_3 : Hid (GlobQ w3) := N_2.out.call hq
      have T_3 : Hid (GTH w3) := T_2.out.call hq
      have Q_3 : Hid (GG w3) := Q_2.out.call hq
      have K_3 : Hid (NumsAt w3 ka ks) := K_2.out.call hq
      have P_3 : Hid (PntsAt w3 pa ps) := P_2.out.call hq
      have V5_3 : Hid (OwnC w3 bk5 (ptL X Y I)) := OwnC.call V5_2.out hq
      have V7_3 : Hid (OwnC w3 bk7 (ptL X Y I)) := OwnC.call V7_2.out hq
      clear hq W_2 G_2 N_2 T_2 Q_2 K_2 P_2 V5_2 V7_2
      go_wp2_with fail
      go_ret
      exact ⟨rfl, W_3.out⟩
set_option maxRecDepth 100000 in
set_option maxHeartbeats 4000000 in
theorem many_n (ka pa : Option Addr) (n m kc pc : Nat) (hn : 70 < n) (_hn : n ≤ 4398046511104) (w : World) (hG : GlobP w) (hT : GTH w) (hQ : GG w) : Calls Tryd.prog 5 #[.slice ka n kc, .slice pa m pc] w fun e w' => e = .returned (.bool true) ∧ Below w.heap.size w w' := by
  have K1 : Hid (∀ w, GlobP w → GTH w → GG w → Calls Tryd.prog 15 #[] w fun e w' => e = .returned (.bool true) ∧ Below w.heap.size w w') := fun w h1 h2 h3 => g3_any w h1 h2 h3
  obtain ⟨w0, hw0⟩ : ∃ wq, wq = w := ⟨_, rfl⟩
  have H0 : Hid (Below w.heap.size w w0) ∧ Hid (GlobP w0) ∧ Hid (GTH w0) ∧ Hid (GG w0) := by
    rw [hw0]
    exact ⟨Below.refl _ _, (hG).call (Below.refl _ _), (hT).call (Below.refl _ _), (hQ).call (Below.refl _ _)⟩
  obtain ⟨W_0, G_0, T_0, Q_0⟩ := H0
  clear hG hT hQ
  have d1 : (70 : Int) < (n : Int) := by omega
  have d3 : decide ((70 : Int) < (n : Int)) = true := decide_eq_true d1
  go_enter Tryd.func5, Tryd.ntmps5
  go_upto_region 1 with fail
  rw [← hw0]
  clear hw0
  go_upto_region 2 with fail
  go_wp2_with fail
  refine (K1.out _ (G_0.out) (T_0.out) (Q_0.out)).mono ?_
  rintro e w1 ⟨rfl, hq⟩
  have W_1 : Hid (Below w.heap.size w w1) := below_call0 W_0.out hq
  have G_1 : Hid (GlobP w1) := G_0.out.call hq
  have T_1 : Hid (GTH w1) := T_0.out.call hq
  have Q_1 : Hid (GG w1) := Q_0.out.call hq
  clear hq W_0 G_0 T_0 Q_0
  go_wp2_with fail
  go_ret
  exact ⟨rfl, W_1.out⟩
set_option maxRecDepth 100000 in
set_option maxHeartbeats 4000000 in
theorem many_m (ka pa : Option Addr) (n m kc pc : Nat) (hn : n ≤ 70) (hm : 70 < m) (_hm : m ≤ 4398046511104) (w : World) (hG : GlobP w) (hT : GTH w) (hQ : GG w) : Calls Tryd.prog 5 #[.slice ka n kc, .slice pa m pc] w fun e w' => e = .returned (.bool true) ∧ Below w.heap.size w w' := by
  have K1 : Hid (∀ w, GlobP w → GTH w → GG w → Calls Tryd.prog 15 #[] w fun e w' => e = .returned (.bool true) ∧ Below w.heap.size w w') := fun w h1 h2 h3 => g3_any w h1 h2 h3
  obtain ⟨w0, hw0⟩ : ∃ wq, wq = w := ⟨_, rfl⟩
  have H0 : Hid (Below w.heap.size w w0) ∧ Hid (GlobP w0) ∧ Hid (GTH w0) ∧ Hid (GG w0) := by
    rw [hw0]
    exact ⟨Below.refl _ _, (hG).call (Below.refl _ _), (hT).call (Below.refl _ _), (hQ).call (Below.refl _ _)⟩
  obtain ⟨W_0, G_0, T_0, Q_0⟩ := H0
  clear hG hT hQ
  have d1 : ¬ ((70 : Int) < (n : Int)) := by omega
  have d2 : (70 : Int) < (m : Int) := by omega
  have d3 : decide ((70 : Int) < (n : Int)) = false := decide_eq_false d1
  have d4 : decide ((70 : Int) < (m : Int)) = true := decide_eq_true d2
  go_enter Tryd.func5, Tryd.ntmps5
  go_upto_region 1 with fail
  rw [← hw0]
  clear hw0
  go_upto_region 2 with fail
  go_wp2_with fail
  refine (K1.out _ (G_0.out) (T_0.out) (Q_0.out)).mono ?_
  rintro e w1 ⟨rfl, hq⟩
  have W_1 : Hid (Below w.heap.size w w1) := below_call0 W_0.out hq
  have G_1 : Hid (GlobP w1) := G_0.out.call hq
  have T_1 : Hid (GTH w1) := T_0.out.call hq
  have Q_1 : Hid (GG w1) := Q_0.out.call hq
  clear hq W_0 G_0 T_0 Q_0
  go_wp2_with fail
  go_ret
  exact ⟨rfl, W_1.out⟩
theorem zip_ks : ∀ (ks : List Nat) (ps : List (Nat × Nat × Bool)), ks.length = ps.length → (ks.zip ps).map Prod.fst = ks ∧ (ks.zip ps).map Prod.snd = ps
  | [], [], _ => ⟨rfl, rfl⟩
  | k :: ks, p :: ps, h => by
    have ih := zip_ks ks ps (by simpa using h)
    rw [List.zip_cons_cons, List.map_cons, List.map_cons, ih.1, ih.2]
    exact ⟨rfl, rfl⟩
  | [], p :: ps, h => by simp at h
  | k :: ks, [], h => by simp at h
theorem many_any (ka pa : Option Addr) (kc pc : Nat) (ks : List Nat) (ps : List (Nat × Nat × Bool)) (hks : ∀ k ∈ ks, k < R256) (hps : ∀ p ∈ ps, p.1 < R256 ∧ p.2.1 < R256) (hn : ks.length ≤ 4398046511104) (hm : ps.length ≤ 4398046511104) (w : World) (hG : GlobP w) (hN : GlobQ w) (hT : GTH w) (hQ : GG w) (hK : NumsAt w ka ks) (hP : PntsAt w pa ps) :
    Calls Tryd.prog 5 #[.slice ka ks.length kc, .slice pa ps.length pc] w fun e w' => e = .returned (.bool true) ∧ Below w.heap.size w w' := by
  rcases Nat.lt_or_ge 70 ks.length with c1 | c1
  · exact many_n ka pa _ _ kc pc c1 hn w hG hT hQ
  · rcases Nat.lt_or_ge 70 ps.length with c2 | c2
    · exact many_m ka pa _ _ kc pc c1 c2 hm w hG hT hQ
    · by_cases c3 : ks.length = ps.length ∧ ks.length ≤ 64
      · obtain ⟨hz1, hz2⟩ := zip_ks ks ps c3.1
        have hl : (ks.zip ps).length = ks.length := by rw [List.length_zip, ← c3.1, Nat.min_self]
        have hR : ∀ z ∈ ks.zip ps, z.1 < R256 ∧ z.2.1 < R256 ∧ z.2.2.1 < R256 := fun z hz => ⟨hks _ (List.of_mem_zip hz).1, hps _ (List.of_mem_zip hz).2⟩
        by_cases c4 : smF (ks.zip ps) = 0
        · obtain ⟨l, el, hq⟩ := smF_ok c4
          have e1 : l.map Prod.fst = ks := by rw [← hz1, el, List.map_map]; rfl
          have e2 : (l.map Prod.snd).map ptT = ps := by rw [← hz2, el, List.map_map, List.map_map]; rfl
          have e3 : ks.length = l.length := by rw [← e1, List.length_map]
          rw [← c3.1]
          refine many_go ka pa _ _ kc pc ks ps (pX (gr.tot gr.mul l)) (pY (gr.tot gr.mul l)) (pI (gr.tot gr.mul l)) 0 c1 c1 (fun w g n t a b => ?_) (fun w a b => ?_) w hG hN hT hQ hK hP
          · exact Sum_ok _ ka pa kc pc l e3 c3.2 hq w g n t (by rw [e1]; exact a) (by show PntsAt w pa _; rw [e2]; exact b)
          · exact sum3_ok _ ka pa kc pc l e3 c3.2 hq w (by rw [e1]; exact a) (by show PntsAt w pa _; rw [e2]; exact b)
        · rw [← c3.1]
          refine many_go ka pa _ _ kc pc ks ps 0 0 false (smF (ks.zip ps)) c1 c1 (fun w g n t a b => ?_) (fun w a b => ?_) w hG hN hT hQ hK hP
          · rw [lit0.1, lit0.2.1, lit0.2.2.1, lit0.2.2.2]
            exact Sum_err _ ka pa kc pc (ks.zip ps) _ hl.symm c3.2 hR rfl c4 w g n (by rw [hz1]; exact a) (by rw [hz2]; exact b)
          · rw [lit0.1, lit0.2.1, lit0.2.2.1, lit0.2.2.2]
            exact sum3_err _ ka pa kc pc (ks.zip ps) _ hl.symm c3.2 hR rfl c4 w (by rw [hz1]; exact a) (by rw [hz2]; exact b)
      · have h : ks.length ≠ ps.length ∨ 64 < ks.length := by omega
        refine many_go ka pa _ _ kc pc ks ps 0 0 false 1 c1 c2 (fun w g n t a b => ?_) (fun w a b => ?_) w hG hN hT hQ hK hP
        · rw [lit0.1, lit0.2.1, lit0.2.2.1, lit0.2.2.2]
          exact Sum_len ka pa _ _ kc pc h hn hm w
        · rw [lit0.1, lit0.2.1, lit0.2.2.1, lit0.2.2.2]
          exact sum3_len ka pa _ _ kc pc h hn hm w
end Go.Proofs.YtgmfecncfekjfaaDoor
