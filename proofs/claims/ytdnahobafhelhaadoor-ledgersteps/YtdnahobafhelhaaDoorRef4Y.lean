/- The reference's Sum: the walk. -/
import Derived.Test.YtdnahobafhelhaaDoorRef4Z
namespace Go.Proofs.YtdnahobafhelhaaDoor
open Go.RowKit

set_option maxRecDepth 100000 in
set_option maxHeartbeats 4000000 in
theorem sum4_any (s : ByteArray) (hs : s.size < 140737488351233) (w : World) :
    Calls Tryd.prog 36 #[.string s] w fun e w' => e = .returned (.string (shaS s)) ∧ Below w.heap.size w w' := by
  have K1 : Hid _ := fun w => words_any s hs w
  have K2 : Hid _ := fun w => cubes_any w
  obtain ⟨M, hM⟩ : ∃ q, q = padN s.size / 4 := ⟨_, rfl⟩
  obtain ⟨NB, hNB⟩ : ∃ q, q = padN s.size / 64 := ⟨_, rfl⟩
  obtain ⟨T, hT⟩ : ∃ T, T = padT s := ⟨_, rfl⟩
  rw [← hM, ← hT] at K1
  have HM : Hid (M = 16 * NB ∧ M < 35184372088832 ∧ shaS s = sumS T NB ∧ 9 ≤ M) := by
    have h := padN_facts s.size
    exact ⟨by omega, by omega, by rw [hT, hNB]; rfl, by omega⟩
  clear hM hNB hT hs
  rw [HM.out.2.2.1]
  go_enter Tryd.func36, Tryd.ntmps36
  go_wp2_with fail
  refine (K1.out _).mono ?_
  rintro e w1 ⟨gl, rfl, hl, hb1⟩
  have HX1 : Hid (RowK .i64 w1 w.heap.size 8 init8.get ∧ Below w.heap.size w w1 ∧ w.heap.size ≠ gl ∧ w1.cell? ⟨w.heap.size, 8, none⟩ = none) := by
    have h8 : (w.alloc (.cells #[.int .i64 1779033703, .int .i64 3144134277, .int .i64 1013904242, .int .i64 2773480762, .int .i64 1359893119, .int .i64 2600822924, .int .i64 528734635, .int .i64 1541459225] 74)).cell? ⟨w.heap.size, 8, none⟩ = none := by rw [World.cell?_alloc_new]; rfl
    refine ⟨RowK.call ?_ hb1, below_call0' (below_alloc0' (Below.refl _ _) _) hb1, far_ne (by simp) h8 hb1 hl HM.out.2.2.2, (hb1.cell (p := ⟨w.heap.size, 8, none⟩) (by simp)).trans h8⟩
    refine ⟨fun j hj => ?_, fun o => by simp, by simp⟩
    rw [World.cell?_alloc_new]
    match j, hj with
    | 0, _ | 1, _ | 2, _ | 3, _ | 4, _ | 5, _ | 6, _ | 7, _ => rfl
    | n + 8, h => exact absurd h (by omega)
  have HL1 : Hid (IntsAt w1 gl 0 M (word4 T)) := hl
  clear hl hb1
  go_wp2_with fail
  refine (K2.out _).mono ?_
  rintro e w2 ⟨gk, ck, rfl, hk, hb2⟩
  have HS0 : Hid (SB w w2 w.heap.size gl gk M T (hashAt T 0)) := by
    have h := HX1.out
    exact ⟨h.1.call hb2, HL1.out.call hb2, hk, below_call0' h.2.1 hb2, Nat.le_refl _, h.2.2.1, far_ne h.1.2.2 h.2.2.2 hb2 hk (by decide)⟩
  clear hk hb2
  clear HX1 HL1 K1 K2
  go_wp2_with fail
  rename_i Kr hKr
  have HKr : Hid _ := hKr
  clear hKr
  go_loopw [6] (fun i wr => ∃ b : Nat, b ≤ NB ∧ i = .int .i64 ((16 * b : Nat) : Int) ∧ SB w wr w.heap.size gl gk M T (hashAt T b))
    (fun i _ => M - (intOf i).toNat)
  case atStart => exact ⟨0, Nat.zero_le _, rfl, HS0.out⟩
  case round =>
    obtain ⟨b, hb, rfl, hSB⟩ := hrel
    rename World => wr
    clear HS0
    by_cases hlt : b < NB
    · clear HKr
      obtain ⟨c1, c2, c3, c4, c5, c6, c7, c8⟩ := blk_facts b NB M HM.out.1 HM.out.2.1 hlt
      have HBI : Hid _ := block_ints hSB.2.1 HM.out.1 hlt
      obtain ⟨ix, hix⟩ : ∃ q, q = 16 * b := ⟨_, rfl⟩
      obtain ⟨jx, hjx⟩ : ∃ q, q = 16 * (b + 1) := ⟨_, rfl⟩
      rw [← hix] at c1 c2 c5 c6 c7 c8 HBI ⊢
      rw [← hjx] at c2 c3 c4 c5 c7 c8
      obtain ⟨d1, d2⟩ := keepS jx c3
      have hd : decide ((ix : Int) < (M : Int)) = true := decide_eq_true c1
      obtain ⟨b', hb'⟩ : ∃ f, f = fun j => T (64 * b + j) := ⟨_, rfl⟩
      rw [← hb'] at HBI
      obtain ⟨x, hx⟩ : ∃ x, x = hashAt T b := ⟨_, rfl⟩
      have HXX : Hid (hashAt T (b + 1) = mixN x b' ∧ ix = 16 * b ∧ jx = 16 * (b + 1) ∧ M - jx < M - ix ∧ Low8 x) := ⟨by rw [hx, hb']; rfl, hix, hjx, c5, by rw [hx]; exact low_hash T b⟩
      rw [← hx] at hSB
      clear hx hix hjx hb' c5
      rcases x with ⟨xa, xb, xc, xd, xe, xf, xg, xh⟩
      have f0 : wr.cell? ⟨w.heap.size, 0, none⟩ = some (.int .i64 (xa : Nat)) := hSB.1.1 0 (by decide)
      have f1 : wr.cell? ⟨w.heap.size, 1, none⟩ = some (.int .i64 (xb : Nat)) := hSB.1.1 1 (by decide)
      have f2 : wr.cell? ⟨w.heap.size, 2, none⟩ = some (.int .i64 (xc : Nat)) := hSB.1.1 2 (by decide)
      have f3 : wr.cell? ⟨w.heap.size, 3, none⟩ = some (.int .i64 (xd : Nat)) := hSB.1.1 3 (by decide)
      have f4 : wr.cell? ⟨w.heap.size, 4, none⟩ = some (.int .i64 (xe : Nat)) := hSB.1.1 4 (by decide)
      have f5 : wr.cell? ⟨w.heap.size, 5, none⟩ = some (.int .i64 (xf : Nat)) := hSB.1.1 5 (by decide)
      have f6 : wr.cell? ⟨w.heap.size, 6, none⟩ = some (.int .i64 (xg : Nat)) := hSB.1.1 6 (by decide)
      have f7 : wr.cell? ⟨w.heap.size, 7, none⟩ = some (.int .i64 (xh : Nat)) := hSB.1.1 7 (by decide)
      have fz := hSB.1.2.2
      have HSB : Hid _ := hSB
      clear hSB
      have e1 : (ix : Int) ≤ (jx : Int) := Int.ofNat_le.2 c7
      have e2 : (jx : Int) ≤ (M : Int) := Int.ofNat_le.2 c4
      have K3 : Hid _ := fun (cap : Nat) (w : World) (h : IntsAt w gl ix 16 (wAt b')) => spread4_any gl ix cap b' w h
      go_wp2_with fail
      clear f0 f1 f2 f3 f4 f5 f6 f7 fz hd e1 e2 c1 c3 c4 c6 c7 c8
      have HCD : Hid (_ ∧ _ ∧ _) := ⟨c2, d1, d2⟩
      clear c2 d1 d2
      refine (K3.out _ _ (IntsAt.call (p := gl) (o := ix) (n := 16) (f := wAt b') HBI.out (below_alloc0' (Below.refl _ _) _))).mono ?_
      rintro e w3 ⟨gw, cw, rfl, hw, hb3⟩
      have HSY : Hid _ := SY.start HSB.out hw hb3
      clear hw hb3 HSB HBI K3
      go_wp2_with fail
      rename_i Kr hKr
      have HKr : Hid _ := hKr
      clear hKr
      go_loopw [9] (fun tv wq => ∃ t : Nat, t ≤ 64 ∧ tv = .int .i64 (t : Nat) ∧ SY w wq w.heap.size gl gk M T ⟨xa, xb, xc, xd, xe, xf, xg, xh⟩ wr.heap.size gw b' t)
        (fun tv _ => 64 - (intOf tv).toNat)
      case atStart => exact ⟨0, Nat.zero_le _, rfl, HSY.out⟩
      case round =>
        obtain ⟨t, ht, rfl, hSY⟩ := hrel
        rename World => wq
        clear HSY
        obtain ⟨y, YE⟩ : ∃ y, rounds b' ⟨xa, xb, xc, xd, xe, xf, xg, xh⟩ t = y := ⟨_, rfl⟩
        have YL : Low8 y := by rw [← YE]; exact low_rounds b' HXX.out.2.2.2.2 t
        rcases y with ⟨ya, yb, yc, yd, ye, yf, yg, yh⟩
        have HYE : Hid (rounds b' ⟨xa, xb, xc, xd, xe, xf, xg, xh⟩ t = ⟨ya, yb, yc, yd, ye, yf, yg, yh⟩) := YE
        clear YE
        by_cases ht2 : t < 64
        · clear HKr
          obtain ⟨kc, hkc⟩ : ∃ q, q = cube t := ⟨_, rfl⟩
          obtain ⟨vw, hvw⟩ : ∃ q, q = wAt b' t := ⟨_, rfl⟩
          obtain ⟨z, ZE⟩ : ∃ z, rnd ⟨ya, yb, yc, yd, ye, yf, yg, yh⟩ kc vw = z := ⟨_, rfl⟩
          have R4 := fun w => round_any ya yb yc yd ye yf yg yh kc vw YL (by rw [hkc]; exact cube_lt t) (by rw [hvw]; exact wAt_lt _ _) w
          rw [ZE] at R4
          rcases z with ⟨za, zb, zc, zd, ze, zf, zg, zh⟩
          have K4 : Hid (∀ w, Calls Tryd.prog 41 #[.agg #[.int .i64 (ya : Nat), .int .i64 (yb : Nat), .int .i64 (yc : Nat), .int .i64 (yd : Nat), .int .i64 (ye : Nat), .int .i64 (yf : Nat), .int .i64 (yg : Nat), .int .i64 (yh : Nat)], .int .i64 (kc : Nat), .int .i64 (vw : Nat)] w fun ed w' => ed = .returned (.agg #[.int .i64 (za : Nat), .int .i64 (zb : Nat), .int .i64 (zc : Nat), .int .i64 (zd : Nat), .int .i64 (ze : Nat), .int .i64 (zf : Nat), .int .i64 (zg : Nat), .int .i64 (zh : Nat)]) ∧ Below w.heap.size w w') := R4
          have RE : Hid (rounds b' ⟨xa, xb, xc, xd, xe, xf, xg, xh⟩ (t + 1) = ⟨za, zb, zc, zd, ze, zf, zg, zh⟩) := by
            show _ = _
            rw [show rounds b' ⟨xa, xb, xc, xd, xe, xf, xg, xh⟩ (t + 1) = rnd (rounds b' ⟨xa, xb, xc, xd, xe, xf, xg, xh⟩ t) (cube t) (wAt b' t) from rfl, HYE.out, ← hkc, ← hvw, ZE]
          have XK : Hid (kc = cube t ∧ vw = wAt b' t) := ⟨hkc, hvw⟩
          clear R4 ZE YL hkc hvw
          obtain ⟨ty, hty⟩ : ∃ q, q = t + 1 := ⟨_, rfl⟩
          have y1 : (t : Int) + 1 = (ty : Nat) := by rw [hty]; rfl
          obtain ⟨y2, y3⟩ := keepS ty (by rw [hty]; exact Nat.lt_of_lt_of_le (Nat.succ_lt_succ ht2) (by decide))
          have HTY : Hid (ty = t + 1) := hty
          clear hty
          have t64 : (t : Int) < 64 := by omega
          have HXS : Hid (SY w wq w.heap.size gl gk M T ⟨xa, xb, xc, xd, xe, xf, xg, xh⟩ wr.heap.size gw b' t) := hSY
          clear hSY
          go_wp2_with fail
          refine wp_region_N (fun w' => SY w w' w.heap.size gl gk M T ⟨xa, xb, xc, xd, xe, xf, xg, xh⟩ wr.heap.size gw b' t) 10 11 rfl (by kernel_rfl) ?_
          refine wpAnyN_take (i := 0) (oi := ?o0) (v := ?v0) ?hi0 (by kernel_rfl) (by kernel_rfl) (by kernel_rfl) (by kernel_rfl) (by decide) (by kernel_rfl) ?hQ0 ?hy0 (SY.drew HXS.out) ?more0
          case hi0 => rw [List.getElem?_toArray]; exact rfl
          case hQ0 => exact fun _ _ _ h => h
          case hy0 =>
            refine Or.inl ⟨by rfl, ?_⟩
            intro w' hSw
            have hSw' : SY w w' w.heap.size gl gk M T ⟨xa, xb, xc, xd, xe, xf, xg, xh⟩ wr.heap.size gw b' t := hSw
            obtain ⟨⟨g0, g1, g2, g3, g4, g5, g6, g7⟩, gk1, gw1, _, gz⟩ := hSw'.facts ht2 HYE.out XK.out.1 XK.out.2
            clear hSw hSw'
            go_simp
            try with_reducible rfl
          simp only [Act.put, List.setIfInBounds_toArray, List.set_cons_zero, List.set_cons_succ]
          refine wpAnyN_take (i := 1) (oi := ?o1) (v := ?v1) ?hi1 (by kernel_rfl) (by kernel_rfl) (by kernel_rfl) (by kernel_rfl) (by decide) (by kernel_rfl) ?hQ1 ?hy1 (SY.drew HXS.out) ?more1
          case hi1 => rw [List.getElem?_toArray]; exact rfl
          case hQ1 => exact fun _ _ _ h => h
          case hy1 =>
            refine Or.inl ⟨by rfl, ?_⟩
            intro w' hSw
            have hSw' : SY w w' w.heap.size gl gk M T ⟨xa, xb, xc, xd, xe, xf, xg, xh⟩ wr.heap.size gw b' t := hSw
            obtain ⟨⟨g0, g1, g2, g3, g4, g5, g6, g7⟩, gk1, gw1, _, gz⟩ := hSw'.facts ht2 HYE.out XK.out.1 XK.out.2
            clear hSw hSw'
            go_simp
            try with_reducible rfl
          simp only [Act.put, List.setIfInBounds_toArray, List.set_cons_zero, List.set_cons_succ]
          refine wpAnyN_take (i := 2) (oi := ?o2) (v := ?v2) ?hi2 (by kernel_rfl) (by kernel_rfl) (by kernel_rfl) (by kernel_rfl) (by decide) (by kernel_rfl) ?hQ2 ?hy2 (SY.drew HXS.out) ?more2
          case hi2 => rw [List.getElem?_toArray]; exact rfl
          case hQ2 => exact fun _ _ _ h => h
          case hy2 =>
            refine Or.inl ⟨by rfl, ?_⟩
            intro w' hSw
            have hSw' : SY w w' w.heap.size gl gk M T ⟨xa, xb, xc, xd, xe, xf, xg, xh⟩ wr.heap.size gw b' t := hSw
            obtain ⟨⟨g0, g1, g2, g3, g4, g5, g6, g7⟩, gk1, gw1, _, gz⟩ := hSw'.facts ht2 HYE.out XK.out.1 XK.out.2
            clear hSw hSw'
            go_simp
            try with_reducible rfl
          simp only [Act.put, List.setIfInBounds_toArray, List.set_cons_zero, List.set_cons_succ]
          refine wpAnyN_take (i := 3) (oi := ?o3) (v := ?v3) ?hi3 (by kernel_rfl) (by kernel_rfl) (by kernel_rfl) (by kernel_rfl) (by decide) (by kernel_rfl) ?hQ3 ?hy3 (SY.drew HXS.out) ?more3
          case hi3 => rw [List.getElem?_toArray]; exact rfl
          case hQ3 => exact fun _ _ _ h => h
          case hy3 =>
            refine Or.inl ⟨by rfl, ?_⟩
            intro w' hSw
            have hSw' : SY w w' w.heap.size gl gk M T ⟨xa, xb, xc, xd, xe, xf, xg, xh⟩ wr.heap.size gw b' t := hSw
            obtain ⟨⟨g0, g1, g2, g3, g4, g5, g6, g7⟩, gk1, gw1, _, gz⟩ := hSw'.facts ht2 HYE.out XK.out.1 XK.out.2
            clear hSw hSw'
            go_simp
            try with_reducible rfl
          simp only [Act.put, List.setIfInBounds_toArray, List.set_cons_zero, List.set_cons_succ]
          refine wpAnyN_take (i := 4) (oi := ?o4) (v := ?v4) ?hi4 (by kernel_rfl) (by kernel_rfl) (by kernel_rfl) (by kernel_rfl) (by decide) (by kernel_rfl) ?hQ4 ?hy4 (SY.drew HXS.out) ?more4
          case hi4 => rw [List.getElem?_toArray]; exact rfl
          case hQ4 => exact fun _ _ _ h => h
          case hy4 =>
            refine Or.inl ⟨by rfl, ?_⟩
            intro w' hSw
            have hSw' : SY w w' w.heap.size gl gk M T ⟨xa, xb, xc, xd, xe, xf, xg, xh⟩ wr.heap.size gw b' t := hSw
            obtain ⟨⟨g0, g1, g2, g3, g4, g5, g6, g7⟩, gk1, gw1, _, gz⟩ := hSw'.facts ht2 HYE.out XK.out.1 XK.out.2
            clear hSw hSw'
            go_simp
            try with_reducible rfl
          simp only [Act.put, List.setIfInBounds_toArray, List.set_cons_zero, List.set_cons_succ]
          refine wpAnyN_take (i := 5) (oi := ?o5) (v := ?v5) ?hi5 (by kernel_rfl) (by kernel_rfl) (by kernel_rfl) (by kernel_rfl) (by decide) (by kernel_rfl) ?hQ5 ?hy5 (SY.drew HXS.out) ?more5
          case hi5 => rw [List.getElem?_toArray]; exact rfl
          case hQ5 => exact fun _ _ _ h => h
          case hy5 =>
            refine Or.inl ⟨by rfl, ?_⟩
            intro w' hSw
            have hSw' : SY w w' w.heap.size gl gk M T ⟨xa, xb, xc, xd, xe, xf, xg, xh⟩ wr.heap.size gw b' t := hSw
            obtain ⟨⟨g0, g1, g2, g3, g4, g5, g6, g7⟩, gk1, gw1, _, gz⟩ := hSw'.facts ht2 HYE.out XK.out.1 XK.out.2
            clear hSw hSw'
            go_simp
            try with_reducible rfl
          simp only [Act.put, List.setIfInBounds_toArray, List.set_cons_zero, List.set_cons_succ]
          refine wpAnyN_take (i := 6) (oi := ?o6) (v := ?v6) ?hi6 (by kernel_rfl) (by kernel_rfl) (by kernel_rfl) (by kernel_rfl) (by decide) (by kernel_rfl) ?hQ6 ?hy6 (SY.drew HXS.out) ?more6
          case hi6 => rw [List.getElem?_toArray]; exact rfl
          case hQ6 => exact fun _ _ _ h => h
          case hy6 =>
            refine Or.inl ⟨by rfl, ?_⟩
            intro w' hSw
            have hSw' : SY w w' w.heap.size gl gk M T ⟨xa, xb, xc, xd, xe, xf, xg, xh⟩ wr.heap.size gw b' t := hSw
            obtain ⟨⟨g0, g1, g2, g3, g4, g5, g6, g7⟩, gk1, gw1, _, gz⟩ := hSw'.facts ht2 HYE.out XK.out.1 XK.out.2
            clear hSw hSw'
            go_simp
            try with_reducible rfl
          simp only [Act.put, List.setIfInBounds_toArray, List.set_cons_zero, List.set_cons_succ]
          refine wpAnyN_take (i := 7) (oi := ?o7) (v := ?v7) ?hi7 (by kernel_rfl) (by kernel_rfl) (by kernel_rfl) (by kernel_rfl) (by decide) (by kernel_rfl) ?hQ7 ?hy7 (SY.drew HXS.out) ?more7
          case hi7 => rw [List.getElem?_toArray]; exact rfl
          case hQ7 => exact fun _ _ _ h => h
          case hy7 =>
            refine Or.inl ⟨by rfl, ?_⟩
            intro w' hSw
            have hSw' : SY w w' w.heap.size gl gk M T ⟨xa, xb, xc, xd, xe, xf, xg, xh⟩ wr.heap.size gw b' t := hSw
            obtain ⟨⟨g0, g1, g2, g3, g4, g5, g6, g7⟩, gk1, gw1, _, gz⟩ := hSw'.facts ht2 HYE.out XK.out.1 XK.out.2
            clear hSw hSw'
            go_simp
            try with_reducible rfl
          simp only [Act.put, List.setIfInBounds_toArray, List.set_cons_zero, List.set_cons_succ]
          refine wpAnyN_take (i := 8) (oi := ?o8) (v := ?v8) ?hi8 (by kernel_rfl) (by kernel_rfl) (by kernel_rfl) (by kernel_rfl) (by decide) (by kernel_rfl) ?hQ8 ?hy8 (SY.drew HXS.out) ?more8
          case hi8 => rw [List.getElem?_toArray]; exact rfl
          case hQ8 => exact fun _ _ _ h => h
          case hy8 =>
            refine Or.inl ⟨by rfl, ?_⟩
            intro w' hSw
            have hSw' : SY w w' w.heap.size gl gk M T ⟨xa, xb, xc, xd, xe, xf, xg, xh⟩ wr.heap.size gw b' t := hSw
            obtain ⟨⟨g0, g1, g2, g3, g4, g5, g6, g7⟩, gk1, gw1, _, gz⟩ := hSw'.facts ht2 HYE.out XK.out.1 XK.out.2
            clear hSw hSw'
            go_simp
            try with_reducible rfl
          simp only [Act.put, List.setIfInBounds_toArray, List.set_cons_zero, List.set_cons_succ]
          refine wpAnyN_one (i := 9) (o := ?o9) (by kernel_rfl) ?hi9 ?hw9 ?st9
          case hi9 => rw [List.getElem?_toArray]; exact rfl
          case hw9 => exact rfl
          intro K hK
          have HK9 : Hid _ := hK
          clear hK
          go_simp
          refine (K4.out _).mono ?_
          rintro ee w5 ⟨rfl, hb5⟩
          have X2 : SY w w5 w.heap.size gl gk M T ⟨xa, xb, xc, xd, xe, xf, xg, xh⟩ wr.heap.size gw b' t := SY.call (W := wq.drew) (SY.drew HXS.out) hb5
          obtain ⟨⟨g0, g1, g2, g3, g4, g5, g6, g7⟩, gk1, gw1, ⟨r0, r1, r2, r3, r4, r5, r6, r7⟩, gz⟩ := X2.facts ht2 HYE.out XK.out.1 XK.out.2
          have X3 := X2.next
          rw [RE.out] at X3
          have HX3 : Hid _ := X3
          have HX2 : Hid _ := X2
          clear X2 X3 hb5
          go_wp2_with fail
          refine HK9.out _ _ ⟨fun _ => HX2.out, ?_⟩
          clear HK9 K
          try simp only [Act.put, List.setIfInBounds_toArray, List.set_cons_zero, List.set_cons_succ]
          refine wpAnyN_one (i := 10) (o := ?o10) (by kernel_rfl) ?hi10 ?hw10 ?st10
          case hi10 => rw [List.getElem?_toArray]; exact rfl
          case hw10 => exact rfl
          intro K hK
          have HK10 : Hid _ := hK
          clear hK
          go_simp
          refine HK10.out _ _ ⟨fun h => absurd h (by decide +kernel), ?_⟩
          clear HK10 K
          try simp only [Act.put, List.setIfInBounds_toArray, List.set_cons_zero, List.set_cons_succ]
          refine wpAnyN_done (by kernel_rfl) ?_ _
          go_wp2_with fail
          go_roundw
          case rel => first | exact ⟨ty, by rw [HTY.out]; exact ht2, rfl, by rw [HTY.out]; exact HX3.out⟩ | ((repeat apply Exists.intro); exact ⟨⟨ty, by rw [HTY.out]; exact ht2, rfl, by rw [HTY.out]; exact HX3.out⟩, rfl⟩)
          case measure =>
            show 64 - (ty : Int).toNat < 64 - (t : Int).toNat
            rw [Int.toNat_natCast, Int.toNat_natCast, HTY.out]
            exact Nat.sub_succ_lt_self _ _ ht2
        · obtain rfl : t = 64 := Nat.le_antisymm ht (Nat.le_of_not_lt ht2)
          clear ht ht2
          have XL := HXX.out.2.2.2.2
          obtain ⟨⟨f0, f1, f2, f3, f4, f5, f6, f7⟩, ⟨j0, j1, j2, j3, j4, j5, j6, j7⟩, fz⟩ := row_cells hSY.1.1 (by rfl)
          obtain ⟨⟨g0, g1, g2, g3, g4, g5, g6, g7⟩, _, gz⟩ := row_cells hSY.2.1 (by rw [HYE.out])
          have HSY : Hid (SY w wq w.heap.size gl gk M T ⟨xa, xb, xc, xd, xe, xf, xg, xh⟩ wr.heap.size gw b' 64) := hSY
          clear hSY
          obtain ⟨sa, hsa⟩ : ∃ q, q = xa + ya := ⟨_, rfl⟩
          obtain ⟨ra, hra⟩ : ∃ q, q = sa % 4294967296 := ⟨_, rfl⟩
          have aa : (xa : Int) + (ya : Int) = (sa : Nat) := by rw [hsa, Int.natCast_add]
          obtain ⟨ka, la⟩ := keepS sa (by rw [hsa]; exact Nat.lt_trans (Nat.add_lt_add XL.1 YL.1) (by decide))
          obtain ⟨ma, na⟩ := remS sa
          rw [← hra] at ma na
          obtain ⟨sb, hsb⟩ : ∃ q, q = xb + yb := ⟨_, rfl⟩
          obtain ⟨rb, hrb⟩ : ∃ q, q = sb % 4294967296 := ⟨_, rfl⟩
          have ab : (xb : Int) + (yb : Int) = (sb : Nat) := by rw [hsb, Int.natCast_add]
          obtain ⟨kb, lb⟩ := keepS sb (by rw [hsb]; exact Nat.lt_trans (Nat.add_lt_add XL.2.1 YL.2.1) (by decide))
          obtain ⟨mb, nb⟩ := remS sb
          rw [← hrb] at mb nb
          obtain ⟨sc, hsc⟩ : ∃ q, q = xc + yc := ⟨_, rfl⟩
          obtain ⟨rc, hrc⟩ : ∃ q, q = sc % 4294967296 := ⟨_, rfl⟩
          have ac : (xc : Int) + (yc : Int) = (sc : Nat) := by rw [hsc, Int.natCast_add]
          obtain ⟨kc, lc⟩ := keepS sc (by rw [hsc]; exact Nat.lt_trans (Nat.add_lt_add XL.2.2.1 YL.2.2.1) (by decide))
          obtain ⟨mc, nc⟩ := remS sc
          rw [← hrc] at mc nc
          obtain ⟨sd, hsd⟩ : ∃ q, q = xd + yd := ⟨_, rfl⟩
          obtain ⟨rd, hrd⟩ : ∃ q, q = sd % 4294967296 := ⟨_, rfl⟩
          have ad : (xd : Int) + (yd : Int) = (sd : Nat) := by rw [hsd, Int.natCast_add]
          obtain ⟨kd, ld⟩ := keepS sd (by rw [hsd]; exact Nat.lt_trans (Nat.add_lt_add XL.2.2.2.1 YL.2.2.2.1) (by decide))
          obtain ⟨md, nd⟩ := remS sd
          rw [← hrd] at md nd
          obtain ⟨se, hse⟩ : ∃ q, q = xe + ye := ⟨_, rfl⟩
          obtain ⟨re, hre⟩ : ∃ q, q = se % 4294967296 := ⟨_, rfl⟩
          have ae : (xe : Int) + (ye : Int) = (se : Nat) := by rw [hse, Int.natCast_add]
          obtain ⟨ke, le⟩ := keepS se (by rw [hse]; exact Nat.lt_trans (Nat.add_lt_add XL.2.2.2.2.1 YL.2.2.2.2.1) (by decide))
          obtain ⟨me, ne⟩ := remS se
          rw [← hre] at me ne
          obtain ⟨sf, hsf⟩ : ∃ q, q = xf + yf := ⟨_, rfl⟩
          obtain ⟨rf, hrf⟩ : ∃ q, q = sf % 4294967296 := ⟨_, rfl⟩
          have af : (xf : Int) + (yf : Int) = (sf : Nat) := by rw [hsf, Int.natCast_add]
          obtain ⟨kf, lf⟩ := keepS sf (by rw [hsf]; exact Nat.lt_trans (Nat.add_lt_add XL.2.2.2.2.2.1 YL.2.2.2.2.2.1) (by decide))
          obtain ⟨mf, nf⟩ := remS sf
          rw [← hrf] at mf nf
          obtain ⟨sg, hsg⟩ : ∃ q, q = xg + yg := ⟨_, rfl⟩
          obtain ⟨rg, hrg⟩ : ∃ q, q = sg % 4294967296 := ⟨_, rfl⟩
          have ag : (xg : Int) + (yg : Int) = (sg : Nat) := by rw [hsg, Int.natCast_add]
          obtain ⟨kg, lg⟩ := keepS sg (by rw [hsg]; exact Nat.lt_trans (Nat.add_lt_add XL.2.2.2.2.2.2.1 YL.2.2.2.2.2.2.1) (by decide))
          obtain ⟨mg, ng⟩ := remS sg
          rw [← hrg] at mg ng
          obtain ⟨sh, hsh⟩ : ∃ q, q = xh + yh := ⟨_, rfl⟩
          obtain ⟨rh, hrh⟩ : ∃ q, q = sh % 4294967296 := ⟨_, rfl⟩
          have ah : (xh : Int) + (yh : Int) = (sh : Nat) := by rw [hsh, Int.natCast_add]
          obtain ⟨kh, lh⟩ := keepS sh (by rw [hsh]; exact Nat.lt_trans (Nat.add_lt_add XL.2.2.2.2.2.2.2 YL.2.2.2.2.2.2.2) (by decide))
          obtain ⟨mh, nh⟩ := remS sh
          rw [← hrh] at mh nh
          have HN : Hid (hashAt T (b + 1) = ⟨ra, rb, rc, rd, re, rf, rg, rh⟩) := by
            show _ = _
            rw [HXX.out.1]
            unfold mixN
            rw [HYE.out]
            unfold sum8 add32
            rw [hra, hsa, hrb, hsb, hrc, hsc, hrd, hsd, hre, hse, hrf, hsf, hrg, hsg, hrh, hsh]
          have HF := HSY.out.done (r := ⟨ra, rb, rc, rd, re, rf, rg, rh⟩)
          have HFF : Hid (SB w (put8 wq w.heap.size ⟨ra, rb, rc, rd, re, rf, rg, rh⟩) w.heap.size gl gk M T (hashAt T (b + 1))) := by rw [HN.out]; exact HF
          clear HF XL YL HSY hsa hra hsb hrb hsc hrc hsd hrd hse hre hsf hrf hsg hrg hsh hrh
          go_wp2_with fail
          refine HKr.out _ _ ?_
          clear HKr
          go_wp2_with fail
          obtain ⟨c2, d1, d2⟩ := HCD.out
          rw [c2, d2]
          refine ⟨⟨b + 1, hlt, by rw [← HXX.out.2.2.1], HFF.out⟩, ?_⟩
          show M - (jx : Int).toNat < M - (ix : Int).toNat
          rw [Int.toNat_natCast, Int.toNat_natCast]
          exact HXX.out.2.2.2.1
    · obtain rfl : b = NB := Nat.le_antisymm hb (Nat.le_of_not_lt hlt)
      have hnl : ¬ (((16 * b : Nat) : Int) < (M : Int)) := by rw [HM.out.1]; exact Int.lt_irrefl _
      obtain ⟨ix, hix⟩ : ∃ q, q = 16 * b := ⟨_, rfl⟩
      rw [← hix] at hnl ⊢
      have hd : decide ((ix : Int) < (M : Int)) = false := decide_eq_false hnl
      obtain ⟨x, hx⟩ : ∃ x, x = hashAt T b := ⟨_, rfl⟩
      have HXX : Hid (sumS T b = strOf (hfL x.get 8) ∧ Low8 x) := ⟨by rw [hx]; rfl, by rw [hx]; exact low_hash T b⟩
      rw [← hx] at hSB
      clear hx hix hlt hb
      obtain ⟨⟨f0, f1, f2, f3, f4, f5, f6, f7⟩, jj, fz⟩ := row_cells (ya := x.a) (yb := x.b) (yc := x.c) (yd := x.d) (ye := x.e) (yf := x.f) (yg := x.g) (yh := x.h) hSB.1 (by rfl)
      clear jj
      have HSB : Hid (SB w wr w.heap.size gl gk M T x) := hSB
      clear hSB
      have hmk : ∀ w, (Instr.makeSlice 61 (.int .i64 32) (.int .i64 32)).run Tryd.prog w = .ok (.slice (some ⟨w.heap.size, 0, none⟩) 32 32) (w.alloc (.cells (madeCells #[.int .u8 0] 32) 5)) := fun w => make_u8 32 (by decide) w
      go_wp2_with fail
      refine HKr.out _ _ ?_
      clear HKr
      go_wp2_with fail
      clear hmk f0 f1 f2 f3 f4 f5 f6 f7 hnl hd
      obtain ⟨po, hpo⟩ : ∃ q, q = wr.heap.size := ⟨_, rfl⟩
      obtain ⟨W, hW⟩ : ∃ W, W = (wr.alloc (.cells (madeCells #[.int .u8 0] 32) 5)).alloc (.cells #[.int .i64 (x.a : Nat), .int .i64 (x.b : Nat), .int .i64 (x.c : Nat), .int .i64 (x.d : Nat), .int .i64 (x.e : Nat), .int .i64 (x.f : Nat), .int .i64 (x.g : Nat), .int .i64 (x.h : Nat)] 3) := ⟨_, rfl⟩
      have HSO : Hid (SO w W po (po + 1) x.get 0 0) := by
        have hs := HSB.out
        refine ⟨?_, ?_, ?_, Nat.ne_of_lt (Nat.lt_succ_self _), by rw [hpo]; exact Nat.le_of_lt hs.1.2.2⟩
        · rw [hW, hpo]
          have h := RowK.alloc (ob := .cells #[.int .i64 (x.a : Nat), .int .i64 (x.b : Nat), .int .i64 (x.c : Nat), .int .i64 (x.d : Nat), .int .i64 (x.e : Nat), .int .i64 (x.f : Nat), .int .i64 (x.g : Nat), .int .i64 (x.h : Nat)] 3) (RowK.made .u8 wr 32 5)
          exact ⟨fun j hj => by rw [h.1 j hj, gO_zero], h.2⟩
        · rw [hW, hpo]
          refine ⟨fun j hj => ?_, by simp⟩
          rw [Nat.zero_add]
          have hz : (wr.alloc (.cells (madeCells #[.int .u8 0] 32) 5)).heap.size = wr.heap.size + 1 := by simp
          rw [← hz, World.cell?_alloc_new]
          match j, hj with
          | 0, _ | 1, _ | 2, _ | 3, _ | 4, _ | 5, _ | 6, _ | 7, _ => rfl
          | n + 8, h => exact absurd h (by omega)
        · rw [hW]
          exact below_alloc0' (below_alloc0' hs.2.2.2.1 _) _
      rw [← hW]
      rw [← hpo]
      clear hW hpo HSB
      rename_i Kr hKr
      have HKr : Hid _ := hKr
      clear hKr
      go_loopw [113] (fun iv wv => ∃ k : Nat, k ≤ 8 ∧ iv = .int .i64 (k : Nat) ∧ SO w wv po (po + 1) x.get k 0)
        (fun iv _ => 8 - (intOf iv).toNat)
      case atStart => exact ⟨0, Nat.zero_le _, rfl, HSO.out⟩
      case round =>
        obtain ⟨k, hk, rfl, hSO⟩ := hrel
        rename World => wv
        clear HSO
        by_cases hk8 : k < 8
        · clear HKr
          obtain ⟨xk, hxk⟩ : ∃ q, q = x.get k := ⟨_, rfl⟩
          have lxk : xk < 4294967296 := by rw [hxk]; exact low_get HXX.out.2 k hk8
          have gc : wv.cell? ⟨po + 1, k, none⟩ = some (.int .i64 (xk : Nat)) := by
            have h := hSO.2.1.1 k hk8
            rw [Nat.zero_add, ← hxk] at h
            exact h
          have gz := hSO.2.1.2
          have k8 : (k : Int) < 8 := Int.ofNat_lt.2 hk8
          have HSO : Hid (SO w wv po (po + 1) x.get k 0) := hSO
          have HXK : Hid (xk = x.get k ∧ xk < 4294967296) := ⟨hxk, lxk⟩
          clear hSO hxk lxk
          go_wp2_with fail
          clear gc gz
          rename_i Kr hKr
          have HKr : Hid _ := hKr
          clear hKr
          go_loopw [12, 13] (fun nv jv wu => ∃ m : Nat, m ≤ 4 ∧ nv = .int .i64 ((xk / 256 ^ m : Nat) : Int) ∧ jv = .int .i64 ((3 : Int) - (m : Int)) ∧ SO w wu po (po + 1) x.get k m)
            (fun _ jv _ => (intOf jv + 1).toNat)
          case atStart => exact ⟨0, Nat.zero_le _, by rw [Nat.pow_zero, Nat.div_one], rfl, HSO.out⟩
          case round =>
            obtain ⟨m, hm, rfl, rfl, hS⟩ := hrel
            rename World => wu
            clear HSO
            obtain ⟨dv, hdv⟩ : ∃ q, q = xk / 256 ^ m := ⟨_, rfl⟩
            rw [← hdv]
            by_cases hm4 : m < 4
            · clear HKr
              have ldv : dv < 1152921504606846976 := by
                rw [hdv]
                exact Nat.lt_of_le_of_lt (Nat.div_le_self _ _) (Nat.lt_trans HXK.out.2 (by decide))
              obtain ⟨r, hr⟩ : ∃ q, q = dv % 256 := ⟨_, rfl⟩
              obtain ⟨dn, hdn⟩ : ∃ q, q = dv / 256 := ⟨_, rfl⟩
              obtain ⟨c1, c2, c3, c4, c5, c6, c7⟩ := d_facts dv ldv
              rw [← hr] at c1 c2 c3
              rw [← hdn] at c4 c5 c6 c7
              obtain ⟨o1, o2, o3, o4, o5, o6, o7, o8⟩ := out_facts k m hk8 hm4
              have o10 := out_measure m hm4
              obtain ⟨jm, hjm⟩ : ∃ q, q = 3 - m := ⟨_, rfl⟩
              obtain ⟨J, hJ⟩ : ∃ q, q = 4 * k + (3 - m) := ⟨_, rfl⟩
              obtain ⟨k4, hk4⟩ : ∃ q, q = 4 * k := ⟨_, rfl⟩
              obtain ⟨jy, hjy⟩ : ∃ q : Int, q = (3 : Int) - ((m + 1 : Nat) : Int) := ⟨_, rfl⟩
              rw [← hJ] at o3 o4
              rw [← hjm] at o1 o3 o5 o8 o10
              rw [← hk4] at o2 o3
              rw [← hjy] at o5 o6 o7 o10
              rw [o1]
              obtain ⟨p1, p2⟩ := keepS k4 (by rw [hk4]; exact Nat.lt_of_le_of_lt (Nat.mul_le_mul_left 4 hk) (by decide))
              obtain ⟨p3, p4⟩ := keepS J (Nat.lt_trans o4 (by decide))
              have gc := hS.1.1 J o4
              have gf := hS.1.2.1 J
              have gz := hS.1.2.2
              have o9 : (J : Int) < 32 := Int.ofNat_lt.2 o4
              have HS2 : Hid (SO w (wu.setCell ⟨po, J, none⟩ (.int .u8 (r : Nat))) po (po + 1) x.get k (m + 1)) := hS.put hk8 hm4 hJ (by rw [hr, hdv, HXK.out.1])
              have HD : Hid (dn = xk / 256 ^ (m + 1) ∧ jy = (3 : Int) - ((m + 1 : Nat) : Int) ∧ (jy + 1).toNat < ((jm : Int) + 1).toNat) := ⟨by rw [hdn, hdv]; exact div_step _ _, hjy, o10⟩
              clear hS hdv hr hdn hjm hJ hk4 hjy ldv o1 hm o10
              go_wp2_with fail
              go_roundw
              case rel => first | exact ⟨m + 1, hm4, by rw [← HD.out.1], by rw [← HD.out.2.1], HS2.out⟩ | ((repeat apply Exists.intro); exact ⟨⟨m + 1, hm4, by rw [← HD.out.1], by rw [← HD.out.2.1], HS2.out⟩, rfl⟩)
              case measure => exact HD.out.2.2
            · obtain rfl : m = 4 := Nat.le_antisymm hm (Nat.le_of_not_lt hm4)
              have HS2 : Hid (SO w wu po (po + 1) x.get (k + 1) 0) := by
                have h := hS
                unfold SO at h ⊢
                rw [gO_row] at h
                exact h
              have e3 : (3 : Int) - ((4 : Nat) : Int) = -1 := rfl
              rw [e3]
              obtain ⟨ky, hky⟩ : ∃ q, q = k + 1 := ⟨_, rfl⟩
              have y1 : (k : Int) + 1 = (ky : Nat) := by rw [hky]; rfl
              obtain ⟨y2, y3⟩ := keepS ky (by rw [hky]; exact Nat.lt_of_lt_of_le (Nat.succ_lt_succ hk8) (by decide))
              have HKY : Hid (ky = k + 1) := hky
              clear hS hdv hky hm hm4
              go_wp2_with fail
              refine HKr.out _ _ ?_
              clear HKr
              go_wp2_with fail
              go_roundw
              case rel => first | exact ⟨ky, by rw [HKY.out]; exact hk8, rfl, by rw [HKY.out]; exact HS2.out⟩ | ((repeat apply Exists.intro); exact ⟨⟨ky, by rw [HKY.out]; exact hk8, rfl, by rw [HKY.out]; exact HS2.out⟩, rfl⟩)
              case measure =>
                show 8 - (ky : Int).toNat < 8 - (k : Int).toNat
                rw [Int.toNat_natCast, Int.toNat_natCast, HKY.out]
                exact Nat.sub_succ_lt_self _ _ hk8
        · obtain rfl : k = 8 := Nat.le_antisymm hk (Nat.le_of_not_lt hk8)
          have hcv := text_row (cap := 32) hSO.1 (fun j hj => gO_full x.get j hj)
          have HB : Hid (Below w.heap.size w wv) := hSO.2.2.1
          clear hSO hk hk8
          go_wp2_with fail
          refine HKr.out _ _ ?_
          go_wp2_with fail
          go_ret
          exact ⟨congrArg (fun q => Ending.returned (.string q)) HXX.out.1.symm, HB.out⟩
end Go.Proofs.YtdnahobafhelhaaDoor
