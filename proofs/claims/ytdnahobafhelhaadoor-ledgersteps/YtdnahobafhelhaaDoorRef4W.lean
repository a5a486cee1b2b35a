/- The reference's Words. -/
import Derived.Test.YtdnahobafhelhaaDoorRef4V
namespace Go.Proofs.YtdnahobafhelhaaDoor
open Go.RowKit

theorem eight_lt (L : Nat) (h : L < 140737488351233) : 8 * L < 1152921504606846976 := by omega
theorem iz_facts (L z m iz : Nat) (h : iz = z - 1 - m) (h1 : L + 9 ≤ z) (h2 : z < L + 73) (h3 : L < 140737488351233) (hm : m < 8) : iz < z ∧ 0 < iz ∧ iz < 1152921504606846976 := by omega
theorem quarter_lt (k z : Nat) (h : k < z) (hz : z < 140737488355328) : k / 4 < 9223372036854775808 := by omega
theorem next_lt (k z : Nat) (h : k < z) (hz : z < 140737488355328) : k + 1 < 9223372036854775808 := by omega
theorem step_lt (x d : Nat) (h : x < 4294967296) (hd : d < 256) : 256 * x + d < 9223372036854775808 := by omega
theorem quarter_le (j z : Nat) (h : j < z / 4) : 4 * j + 4 ≤ z := by omega
set_option maxRecDepth 100000 in
set_option maxHeartbeats 4000000 in
theorem words_any (s : ByteArray) (hs : s.size < 140737488351233) (w : World) :
    Calls Tryd.prog 38 #[.string s] w fun e w' => ∃ g, e = .returned (.slice (some ⟨g, 0, none⟩) (padN s.size / 4) (padN s.size / 4)) ∧ IntsAt w' g 0 (padN s.size / 4) (word4 (padT s)) ∧ Below w.heap.size w w' := by
  obtain ⟨L, hL⟩ : ∃ q, q = s.size := ⟨_, rfl⟩
  obtain ⟨N, hN⟩ : ∃ q, q = padN L := ⟨_, rfl⟩
  obtain ⟨n64, n9, n73⟩ := padN_facts L
  have HE := padN_eq L
  rw [← hN] at n64 n9 n73 HE
  rw [← hL] at hs ⊢
  rw [← hN]
  have hNb : N < 140737488355328 := by omega
  have HMK := fun w => make_u8 N hNb w
  obtain ⟨Q, hQ⟩ : ∃ q, q = N / 4 := ⟨_, rfl⟩
  have HMQ := fun w => make_i64 Q (by omega) w
  rw [← hQ]
  have HZ : Hid (L = s.size ∧ N = padN L ∧ Q = N / 4 ∧ N % 64 = 0 ∧ L + 9 ≤ N ∧ N < L + 73 ∧ L < 140737488351233 ∧ (∀ z, L + 9 ≤ z → z ≤ N → z % 64 = 0 → z = N)) := ⟨hL, hN, hQ, n64, n9, n73, hs, HE⟩
  have hsz : (s.size : Int) = (L : Nat) := by rw [hL]
  have hsz' : s.size = L := hL.symm
  obtain ⟨l9, hl9⟩ : ∃ q, q = L + 9 := ⟨_, rfl⟩
  have a9 : (L : Int) + 9 = (l9 : Nat) := by omega
  obtain ⟨b9, b9'⟩ := keepS l9 (by omega)
  have H9 : Hid (l9 = L + 9) := hl9
  clear hL hN hQ n64 n9 n73 hs HE hNb hl9
  have HM1 : Hid _ := HMK
  have HM2 : Hid _ := HMQ
  clear HMK HMQ
  go_enter Tryd.func38, Tryd.ntmps38
  go_wp2_with fail
  rename_i Kr hKr
  have HKr : Hid _ := hKr
  clear hKr
  go_loopw [3] (fun sz wr => ∃ z : Nat, L + 9 ≤ z ∧ z ≤ N ∧ sz = .int .i64 z ∧ w = wr)
    (fun sz _ => N - (intOf sz).toNat)
  case atStart =>
    have := HZ.out.2.2.2.2.1
    exact ⟨l9, by rw [H9.out]; exact Nat.le_refl _, by rw [H9.out]; exact this, rfl, by first | rfl | trivial⟩
  case round =>
    obtain ⟨z, hz1, hz2, rfl, rfl⟩ := hrel
    by_cases hz : z % 64 = 0
    · have e := HZ.out.2.2.2.2.2.2.2 z hz1 hz2 hz
      subst e
      have t0 : (z : Int).tmod 64 = 0 := by rw [Int.tmod_eq_emod_of_nonneg (by omega)]; omega
      have t1 : (z : Int) % 64 = 0 := by omega
      clear hz hz1 hz2
      go_wp2_with fail
      refine HKr.out _ _ ?_
      clear HKr
      obtain ⟨-, -, -, -, zl, zu, zL, -⟩ := HZ.out
      have hmk := HM1.out
      go_wp2_with fail
      clear hmk
      rename_i Kr hKr
      have HKr : Hid _ := hKr
      clear hKr
      go_loopw [5] (fun i wr => ∃ k : Nat, k ≤ L ∧ i = .int .i64 k ∧ RowK .u8 wr w.heap.size z (fA s k) ∧ Below w.heap.size w wr)
        (fun i _ => L - (intOf i).toNat)
      case atStart =>
        refine ⟨0, Nat.zero_le _, rfl, ?_, below_alloc0' (Below.refl _ _) _⟩
        exact RowK.made .u8 w z _
      case round =>
        obtain ⟨k, hk, rfl, hR, hB⟩ := hrel
        by_cases hlt : k < L
        · have hkz : k < z := by omega
          have hlt' : (k : Int) < (L : Int) := by omega
          have hd : decide ((k : Int) < (L : Int)) = true := decide_eq_true hlt'
          have hkz' : (k : Int) < (z : Int) := by omega
          obtain ⟨d, hdd⟩ : ∃ d, d = sb s k := ⟨_, rfl⟩
          have hix : ∀ h, (s[k]'h).toNat = d := fun h => by rw [hdd]; exact sb_index s k (by rw [hsz']; exact hlt) h
          have ks : k < s.size := by rw [hsz']; exact hlt
          have gc : wr.cell? ⟨w.heap.size, k, none⟩ = some (.int .u8 (fA s k k : Nat)) := hR.1 k hkz
          have gf := hR.2.1 k
          have gz := hR.2.2
          have HF : Hid (RowK .u8 (wr.setCell ⟨w.heap.size, k, none⟩ (.int .u8 (d : Nat))) w.heap.size z (fA s (k + 1)) ∧ Below w.heap.size w (wr.setCell ⟨w.heap.size, k, none⟩ (.int .u8 (d : Nat)))) :=
            ⟨hR.set hkz (by rw [hdd]; unfold fA; rw [if_pos (Nat.lt_succ_self _)]) (fun j _ hne => fA_else s k j hne), hB.setCell (p := ⟨w.heap.size, k, none⟩) (Nat.le_refl _) _⟩
          obtain ⟨y, hy⟩ : ∃ q, q = k + 1 := ⟨_, rfl⟩
          have y1 : (k : Int) + 1 = (y : Nat) := by omega
          obtain ⟨y2, y3⟩ := keepS y (by omega)
          have HY : Hid (y = k + 1) := hy
          clear hR hB hdd hy zl zu zL
          go_wp2_with fail
          go_roundw
          case rel => first | exact ⟨y, by rw [HY.out]; exact hlt, rfl, by rw [HY.out]; exact HF.out.1, HF.out.2⟩ | ((repeat apply Exists.intro); exact ⟨⟨y, by rw [HY.out]; exact hlt, rfl, by rw [HY.out]; exact HF.out.1, HF.out.2⟩, rfl⟩)
          case measure =>
            show L - (y : Int).toNat < L - (k : Int).toNat
            rw [Int.toNat_natCast, Int.toNat_natCast, HY.out]
            exact Nat.sub_succ_lt_self _ _ hlt
        · obtain rfl : k = L := by omega
          have hkz : k < z := by omega
          have hkz' : (k : Int) < (z : Int) := by omega
          have gc : wr.cell? ⟨w.heap.size, k, none⟩ = some (.int .u8 (fA s k k : Nat)) := hR.1 k hkz
          have gf := hR.2.1 k
          have gz := hR.2.2
          obtain ⟨l8, hl8⟩ : ∃ q, q = 8 * k := ⟨_, rfl⟩
          have u2 : (8 : Int) * (k : Int) = (l8 : Nat) := by omega
          obtain ⟨u3, u3'⟩ := keepS l8 (by omega)
          obtain ⟨zm, hzm⟩ : ∃ q, q = z - 1 := ⟨_, rfl⟩
          obtain ⟨v1, v2, v3⟩ := sub1_facts z (by omega) (by omega)
          rw [← hzm] at v1 v2 v3
          have HS4 : Hid (RowK .u8 (wr.setCell ⟨w.heap.size, k, none⟩ (.int .u8 128)) w.heap.size z (fB s z 0) ∧ Below w.heap.size w (wr.setCell ⟨w.heap.size, k, none⟩ (.int .u8 128))) :=
            ⟨hR.set (x := 128) hkz (by rw [fB_start s z k hkz, if_pos hsz'.symm]) (fun j hj hne => by rw [fB_start s z j hj, if_neg (by rw [hsz']; exact hne), hsz']), hB.setCell (p := ⟨w.heap.size, k, none⟩) (Nat.le_refl _) _⟩
          have HL8 : Hid (l8 = 8 * s.size ∧ zm = z - 1 ∧ k + 9 ≤ z ∧ z < k + 73 ∧ k < 140737488351233) := ⟨by rw [hl8, hsz'], hzm, zl, zu, zL⟩
          clear hR hB hl8 hzm zl zu zL hlt hk
          go_wp2_with fail
          refine HKr.out _ _ ?_
          clear HKr
          go_wp2_with fail
          clear gc gf
          rename_i Kr hKr
          have HKr : Hid _ := hKr
          clear hKr
          go_loopw [6, 7] (fun nv iv wq => ∃ m : Nat, m ≤ 8 ∧ nv = .int .i64 ((8 * s.size / 256 ^ m : Nat) : Int) ∧ iv = .int .i64 ((z - 1 - m : Nat) : Int) ∧ RowK .u8 wq w.heap.size z (fB s z m) ∧ Below w.heap.size w wq)
            (fun nv _ _ => (intOf nv).toNat)
          case atStart => exact ⟨0, Nat.zero_le _, by rw [HL8.out.1, Nat.pow_zero, Nat.div_one], by rw [HL8.out.2.1, Nat.sub_zero], HS4.out.1, HS4.out.2⟩
          case round =>
            obtain ⟨m, hm, rfl, rfl, hR, hB⟩ := hrel
            rename World => wq
            obtain ⟨dv, hdv⟩ : ∃ q, q = 8 * s.size / 256 ^ m := ⟨_, rfl⟩
            rw [← hdv]
            obtain ⟨iz, hiz⟩ : ∃ q, q = z - 1 - m := ⟨_, rfl⟩
            rw [← hiz]
            by_cases h0 : dv = 0
            · have e0 : (dv : Int) = 0 := by rw [h0]; rfl
              have HT : Hid (RowK .u8 wq w.heap.size z (padT s) ∧ Below w.heap.size w wq) := by
                have hzN : z = padN s.size := by rw [hsz']; exact HZ.out.2.1
                refine ⟨⟨fun j hj => ?_, hR.2⟩, hB⟩
                rw [hR.1 j hj, hzN, fB_full s m hm (by rw [← hdv]; exact h0) j (by rw [← hzN]; exact hj)]
              have hQ := HZ.out.2.2.1
              have t4 : (z : Int).tdiv 4 = (Q : Nat) := by rw [hQ]; exact (tdiv4 z).1
              have t4' : (z : Int) / 4 = (Q : Nat) := by rw [hQ]; exact (tdiv4 z).2
              have HQ : Hid (Q = z / 4 ∧ z % 4 = 0 ∧ z < 140737488355328) := ⟨hQ, by have := HZ.out.2.2.2.1; omega, by have h1 := HL8.out.2.2.2.1; have h2 := HL8.out.2.2.2.2; omega⟩
              obtain ⟨t5, t5'⟩ := keepS Q (by have h1 := HQ.out.1; have h2 := HQ.out.2.2; omega)
              have hmq := HM2.out
              clear hR hB hdv hiz h0 hQ
              go_wp2_with fail
              refine HKr.out _ _ ?_
              clear HKr
              go_wp2_with fail
              clear hmq t4 t4' e0
              rename_i Kr hKr
              have HKr : Hid _ := hKr
              clear hKr
              obtain ⟨T, hT⟩ : ∃ T, T = padT s := ⟨_, rfl⟩
              have HTT : Hid (T = padT s) := hT
              have HTL : Hid (∀ j, T j < 256) := by rw [hT]; exact padT_lt s
              have HT2 : Hid (RowK .u8 wq w.heap.size z T ∧ Below w.heap.size w wq) := by rw [hT]; exact HT.out
              clear hT HT
              go_loopw [9] (fun i wv => ∃ k2 : Nat, k2 ≤ z ∧ i = .int .i64 k2 ∧ RowK .i64 wv wq.heap.size Q (gW T k2) ∧ RowK .u8 wv w.heap.size z T ∧ Below w.heap.size w wv)
                (fun i _ => z - (intOf i).toNat)
              case atStart =>
                refine ⟨0, Nat.zero_le _, rfl, ?_, RowK.alloc HT2.out.1, below_alloc0' HT2.out.2 _⟩
                have h := RowK.made .i64 wq Q 3
                exact ⟨fun j hj => by rw [h.1 j hj]; unfold gW; rw [Nat.zero_sub, Nat.zero_min]; rfl, h.2⟩
              case round =>
                obtain ⟨k2, hk2, rfl, hG, hU, hB2⟩ := hrel
                rename World => wv
                by_cases hlt2 : k2 < z
                · obtain ⟨kq, hkq⟩ : ∃ q, q = k2 / 4 := ⟨_, rfl⟩
                  obtain ⟨i1, i2, i3, i4⟩ := w_index k2 z hlt2 HQ.out.2.1
                  rw [← hkq, ← HQ.out.1] at i1 i4
                  rw [← hkq] at i2 i3
                  obtain ⟨xo, hxo⟩ : ∃ q, q = gW T k2 kq := ⟨_, rfl⟩
                  obtain ⟨bd, hbd⟩ : ∃ q, q = T k2 := ⟨_, rfl⟩
                  have lxo : xo < 4294967296 := by rw [hxo]; exact gW_lt T HTL.out k2 kq
                  have lbd : bd < 256 := by rw [hbd]; exact HTL.out k2
                  obtain ⟨xs, hxs⟩ : ∃ q, q = 256 * xo := ⟨_, rfl⟩
                  obtain ⟨xv, hxv⟩ : ∃ q, q = xs + bd := ⟨_, rfl⟩
                  obtain ⟨j1, j2, j3, j4, j5, j6⟩ := w_step xo bd (step_lt xo bd lxo lbd)
                  rw [← hxs] at j1 j2 j3 j4 j5 j6
                  rw [← hxv] at j4 j5 j6
                  obtain ⟨kb, kb'⟩ := keepS bd (Nat.lt_trans lbd (by decide))
                  obtain ⟨kk, kk'⟩ := keepS kq (by rw [hkq]; exact quarter_lt _ _ hlt2 HQ.out.2.2)
                  obtain ⟨y, hy⟩ : ∃ q, q = k2 + 1 := ⟨_, rfl⟩
                  have y1 : (k2 : Int) + 1 = (y : Nat) := by rw [hy, Int.natCast_add]; rfl
                  obtain ⟨y2, y3⟩ := keepS y (by rw [hy]; exact next_lt _ _ hlt2 HQ.out.2.2)
                  have kqQ : kq < Q := i1
                  have kN : k2 < z := hlt2
                  have kz' : (k2 : Int) < (z : Int) := Int.ofNat_lt.2 hlt2
                  have hd2 : decide ((k2 : Int) < (z : Int)) = true := decide_eq_true kz'
                  have XO : Hid _ := hxo
                  have XB : Hid _ := hbd
                  have HSD : RowK .i64 wv.drew wq.heap.size Q (gW T k2) ∧ RowK .u8 wv.drew w.heap.size z T ∧ Below w.heap.size w wv.drew := ⟨hG, hU, hB2.drew⟩
                  have hzl : wq.heap.size < wv.heap.size := hG.2.2
                  have hzl2 : w.heap.size < wv.heap.size := hU.2.2
                  have HNE : Hid (wq.heap.size ≠ w.heap.size) := fun e => Nat.lt_irrefl _ (e ▸ HT2.out.1.2.2)
                  have HWQ : Hid (w.heap.size ≤ wq.heap.size) := HT2.out.2.size
                  have HFN : Hid (RowK .i64 (wv.setCell ⟨wq.heap.size, kq, none⟩ (.int .i64 (xv : Nat))) wq.heap.size Q (gW T y) ∧ RowK .u8 (wv.setCell ⟨wq.heap.size, kq, none⟩ (.int .i64 (xv : Nat))) w.heap.size z T ∧ Below w.heap.size w (wv.setCell ⟨wq.heap.size, kq, none⟩ (.int .i64 (xv : Nat)))) := by
                    refine ⟨hG.set i1 (by rw [hxv, hxs, hxo, hbd, hy, hkq]; exact (gW_same T k2).symm) (fun j _ hne => by rw [hy]; exact gW_other T k2 j (by rw [← hkq]; exact hne)), hU.other HNE.out, hB2.setCell (p := ⟨wq.heap.size, kq, none⟩) HWQ.out _⟩
                  have HY : Hid (y = k2 + 1) := hy
                  clear hG hU hB2 hkq hxo hbd hxs hxv hy hlt2 lxo i1
                  have HCC : Hid (_ ∧ _ ∧ _ ∧ _ ∧ _ ∧ _ ∧ _ ∧ _ ∧ _ ∧ _ ∧ _ ∧ _ ∧ _ ∧ _ ∧ _ ∧ _) := ⟨i2, i3, i4, j1, j2, j3, j4, j5, j6, kb, kb', kk, kk', y1, y2, y3⟩
                  clear i2 i3 i4 j1 j2 j3 j4 j5 j6 kb kb' kk kk' y1 y2 y3 lbd u2 u3 u3' v1 v2 v3
                  iterate 17 go_step
                  obtain ⟨i2, i3, i4, j1, j2, j3, j4, j5, j6, kb, kb', kk, kk', y1, y2, y3⟩ := HCC.out
                  go_wp2_with fail
                  refine wp_region_N (fun w' => RowK .i64 w' wq.heap.size Q (gW T k2) ∧ RowK .u8 w' w.heap.size z T ∧ Below w.heap.size w w') 16 17 rfl (by kernel_rfl) ?_
                  refine wpAnyN_take (i := 0) (oi := ?o0) (v := ?v0) ?hi0 (by kernel_rfl) (by kernel_rfl) (by kernel_rfl) (by kernel_rfl) (by decide) (by kernel_rfl) ?hQ0 ?hy0 HSD ?more0
                  case hi0 => rw [List.getElem?_toArray]; exact rfl
                  case hQ0 => exact fun _ _ _ h => h
                  case hy0 =>
                    refine Or.inl ⟨by rfl, ?_⟩
                    intro w' hSw
                    have f0 := hSw.1.1 kq kqQ
                    have f1 := hSw.2.1.1 k2 kN
                    rw [← XO.out] at f0
                    rw [← XB.out] at f1
                    clear hSw
                    go_simp
                    try with_reducible rfl
                  simp only [Act.put, List.setIfInBounds_toArray, List.set_cons_zero, List.set_cons_succ]
                  refine wpAnyN_take (i := 1) (oi := ?o1) (v := ?v1) ?hi1 (by kernel_rfl) (by kernel_rfl) (by kernel_rfl) (by kernel_rfl) (by decide) (by kernel_rfl) ?hQ1 ?hy1 HSD ?more1
                  case hi1 => rw [List.getElem?_toArray]; exact rfl
                  case hQ1 => exact fun _ _ _ h => h
                  case hy1 =>
                    refine Or.inl ⟨by rfl, ?_⟩
                    intro w' hSw
                    have f0 := hSw.1.1 kq kqQ
                    have f1 := hSw.2.1.1 k2 kN
                    rw [← XO.out] at f0
                    rw [← XB.out] at f1
                    clear hSw
                    go_simp
                    try with_reducible rfl
                  simp only [Act.put, List.setIfInBounds_toArray, List.set_cons_zero, List.set_cons_succ]
                  refine wpAnyN_take (i := 2) (oi := ?o2) (v := ?v2) ?hi2 (by kernel_rfl) (by kernel_rfl) (by kernel_rfl) (by kernel_rfl) (by decide) (by kernel_rfl) ?hQ2 ?hy2 HSD ?more2
                  case hi2 => rw [List.getElem?_toArray]; exact rfl
                  case hQ2 => exact fun _ _ _ h => h
                  case hy2 =>
                    refine Or.inl ⟨by rfl, ?_⟩
                    intro w' hSw
                    have f0 := hSw.1.1 kq kqQ
                    have f1 := hSw.2.1.1 k2 kN
                    rw [← XO.out] at f0
                    rw [← XB.out] at f1
                    clear hSw
                    go_simp
                    try with_reducible rfl
                  simp only [Act.put, List.setIfInBounds_toArray, List.set_cons_zero, List.set_cons_succ]
                  refine wpAnyN_take (i := 3) (oi := ?o3) (v := ?v3) ?hi3 (by kernel_rfl) (by kernel_rfl) (by kernel_rfl) (by kernel_rfl) (by decide) (by kernel_rfl) ?hQ3 ?hy3 HSD ?more3
                  case hi3 => rw [List.getElem?_toArray]; exact rfl
                  case hQ3 => exact fun _ _ _ h => h
                  case hy3 =>
                    refine Or.inl ⟨by rfl, ?_⟩
                    intro w' hSw
                    have f0 := hSw.1.1 kq kqQ
                    have f1 := hSw.2.1.1 k2 kN
                    rw [← XO.out] at f0
                    rw [← XB.out] at f1
                    clear hSw
                    go_simp
                    try with_reducible rfl
                  simp only [Act.put, List.setIfInBounds_toArray, List.set_cons_zero, List.set_cons_succ]
                  refine wpAnyN_take (i := 4) (oi := ?o4) (v := ?v4) ?hi4 (by kernel_rfl) (by kernel_rfl) (by kernel_rfl) (by kernel_rfl) (by decide) (by kernel_rfl) ?hQ4 ?hy4 HSD ?more4
                  case hi4 => rw [List.getElem?_toArray]; exact rfl
                  case hQ4 => exact fun _ _ _ h => h
                  case hy4 =>
                    refine Or.inl ⟨by rfl, ?_⟩
                    intro w' hSw
                    have f0 := hSw.1.1 kq kqQ
                    have f1 := hSw.2.1.1 k2 kN
                    rw [← XO.out] at f0
                    rw [← XB.out] at f1
                    clear hSw
                    go_simp
                    try with_reducible rfl
                  simp only [Act.put, List.setIfInBounds_toArray, List.set_cons_zero, List.set_cons_succ]
                  refine wpAnyN_take (i := 5) (oi := ?o5) (v := ?v5) ?hi5 (by kernel_rfl) (by kernel_rfl) (by kernel_rfl) (by kernel_rfl) (by decide) (by kernel_rfl) ?hQ5 ?hy5 HSD ?more5
                  case hi5 => rw [List.getElem?_toArray]; exact rfl
                  case hQ5 => exact fun _ _ _ h => h
                  case hy5 =>
                    refine Or.inl ⟨by rfl, ?_⟩
                    intro w' hSw
                    have f0 := hSw.1.1 kq kqQ
                    have f1 := hSw.2.1.1 k2 kN
                    rw [← XO.out] at f0
                    rw [← XB.out] at f1
                    clear hSw
                    go_simp
                    try with_reducible rfl
                  simp only [Act.put, List.setIfInBounds_toArray, List.set_cons_zero, List.set_cons_succ]
                  refine wpAnyN_take (i := 6) (oi := ?o6) (v := ?v6) ?hi6 (by kernel_rfl) (by kernel_rfl) (by kernel_rfl) (by kernel_rfl) (by decide) (by kernel_rfl) ?hQ6 ?hy6 HSD ?more6
                  case hi6 => rw [List.getElem?_toArray]; exact rfl
                  case hQ6 => exact fun _ _ _ h => h
                  case hy6 =>
                    refine Or.inl ⟨by rfl, ?_⟩
                    intro w' hSw
                    have f0 := hSw.1.1 kq kqQ
                    have f1 := hSw.2.1.1 k2 kN
                    rw [← XO.out] at f0
                    rw [← XB.out] at f1
                    clear hSw
                    go_simp
                    try with_reducible rfl
                  simp only [Act.put, List.setIfInBounds_toArray, List.set_cons_zero, List.set_cons_succ]
                  refine wpAnyN_take (i := 7) (oi := ?o7) (v := ?v7) ?hi7 (by kernel_rfl) (by kernel_rfl) (by kernel_rfl) (by kernel_rfl) (by decide) (by kernel_rfl) ?hQ7 ?hy7 HSD ?more7
                  case hi7 => rw [List.getElem?_toArray]; exact rfl
                  case hQ7 => exact fun _ _ _ h => h
                  case hy7 =>
                    refine Or.inl ⟨by rfl, ?_⟩
                    intro w' hSw
                    have f0 := hSw.1.1 kq kqQ
                    have f1 := hSw.2.1.1 k2 kN
                    rw [← XO.out] at f0
                    rw [← XB.out] at f1
                    clear hSw
                    go_simp
                    try with_reducible rfl
                  simp only [Act.put, List.setIfInBounds_toArray, List.set_cons_zero, List.set_cons_succ]
                  refine wpAnyN_take (i := 8) (oi := ?o8) (v := ?v8) ?hi8 (by kernel_rfl) (by kernel_rfl) (by kernel_rfl) (by kernel_rfl) (by decide) (by kernel_rfl) ?hQ8 ?hy8 HSD ?more8
                  case hi8 => rw [List.getElem?_toArray]; exact rfl
                  case hQ8 => exact fun _ _ _ h => h
                  case hy8 =>
                    refine Or.inl ⟨by rfl, ?_⟩
                    intro w' hSw
                    have f0 := hSw.1.1 kq kqQ
                    have f1 := hSw.2.1.1 k2 kN
                    rw [← XO.out] at f0
                    rw [← XB.out] at f1
                    clear hSw
                    go_simp
                    try with_reducible rfl
                  simp only [Act.put, List.setIfInBounds_toArray, List.set_cons_zero, List.set_cons_succ]
                  refine wpAnyN_take (i := 9) (oi := ?o9) (v := ?v9) ?hi9 (by kernel_rfl) (by kernel_rfl) (by kernel_rfl) (by kernel_rfl) (by decide) (by kernel_rfl) ?hQ9 ?hy9 HSD ?more9
                  case hi9 => rw [List.getElem?_toArray]; exact rfl
                  case hQ9 => exact fun _ _ _ h => h
                  case hy9 =>
                    refine Or.inl ⟨by rfl, ?_⟩
                    intro w' hSw
                    have f0 := hSw.1.1 kq kqQ
                    have f1 := hSw.2.1.1 k2 kN
                    rw [← XO.out] at f0
                    rw [← XB.out] at f1
                    clear hSw
                    go_simp
                    try with_reducible rfl
                  simp only [Act.put, List.setIfInBounds_toArray, List.set_cons_zero, List.set_cons_succ]
                  refine wpAnyN_take (i := 10) (oi := ?o10) (v := ?v10) ?hi10 (by kernel_rfl) (by kernel_rfl) (by kernel_rfl) (by kernel_rfl) (by decide) (by kernel_rfl) ?hQ10 ?hy10 HSD ?more10
                  case hi10 => rw [List.getElem?_toArray]; exact rfl
                  case hQ10 => exact fun _ _ _ h => h
                  case hy10 =>
                    refine Or.inl ⟨by rfl, ?_⟩
                    intro w' hSw
                    have f0 := hSw.1.1 kq kqQ
                    have f1 := hSw.2.1.1 k2 kN
                    rw [← XO.out] at f0
                    rw [← XB.out] at f1
                    clear hSw
                    go_simp
                    try with_reducible rfl
                  simp only [Act.put, List.setIfInBounds_toArray, List.set_cons_zero, List.set_cons_succ]
                  refine wpAnyN_take (i := 11) (oi := ?o11) (v := ?v11) ?hi11 (by kernel_rfl) (by kernel_rfl) (by kernel_rfl) (by kernel_rfl) (by decide) (by kernel_rfl) ?hQ11 ?hy11 HSD ?more11
                  case hi11 => rw [List.getElem?_toArray]; exact rfl
                  case hQ11 => exact fun _ _ _ h => h
                  case hy11 =>
                    refine Or.inl ⟨by rfl, ?_⟩
                    intro w' hSw
                    have f0 := hSw.1.1 kq kqQ
                    have f1 := hSw.2.1.1 k2 kN
                    rw [← XO.out] at f0
                    rw [← XB.out] at f1
                    clear hSw
                    go_simp
                    try with_reducible rfl
                  simp only [Act.put, List.setIfInBounds_toArray, List.set_cons_zero, List.set_cons_succ]
                  refine wpAnyN_take (i := 12) (oi := ?o12) (v := ?v12) ?hi12 (by kernel_rfl) (by kernel_rfl) (by kernel_rfl) (by kernel_rfl) (by decide) (by kernel_rfl) ?hQ12 ?hy12 HSD ?more12
                  case hi12 => rw [List.getElem?_toArray]; exact rfl
                  case hQ12 => exact fun _ _ _ h => h
                  case hy12 =>
                    refine Or.inl ⟨by rfl, ?_⟩
                    intro w' hSw
                    have f0 := hSw.1.1 kq kqQ
                    have f1 := hSw.2.1.1 k2 kN
                    rw [← XO.out] at f0
                    rw [← XB.out] at f1
                    clear hSw
                    go_simp
                    try with_reducible rfl
                  simp only [Act.put, List.setIfInBounds_toArray, List.set_cons_zero, List.set_cons_succ]
                  refine wpAnyN_take (i := 13) (oi := ?o13) (v := ?v13) ?hi13 (by kernel_rfl) (by kernel_rfl) (by kernel_rfl) (by kernel_rfl) (by decide) (by kernel_rfl) ?hQ13 ?hy13 HSD ?more13
                  case hi13 => rw [List.getElem?_toArray]; exact rfl
                  case hQ13 => exact fun _ _ _ h => h
                  case hy13 =>
                    refine Or.inl ⟨by rfl, ?_⟩
                    intro w' hSw
                    have f0 := hSw.1.1 kq kqQ
                    have f1 := hSw.2.1.1 k2 kN
                    rw [← XO.out] at f0
                    rw [← XB.out] at f1
                    clear hSw
                    go_simp
                    try with_reducible rfl
                  simp only [Act.put, List.setIfInBounds_toArray, List.set_cons_zero, List.set_cons_succ]
                  refine wpAnyN_take (i := 14) (oi := ?o14) (v := ?v14) ?hi14 (by kernel_rfl) (by kernel_rfl) (by kernel_rfl) (by kernel_rfl) (by decide) (by kernel_rfl) ?hQ14 ?hy14 HSD ?more14
                  case hi14 => rw [List.getElem?_toArray]; exact rfl
                  case hQ14 => exact fun _ _ _ h => h
                  case hy14 =>
                    refine Or.inl ⟨by rfl, ?_⟩
                    intro w' hSw
                    have f0 := hSw.1.1 kq kqQ
                    have f1 := hSw.2.1.1 k2 kN
                    rw [← XO.out] at f0
                    rw [← XB.out] at f1
                    clear hSw
                    go_simp
                    try with_reducible rfl
                  simp only [Act.put, List.setIfInBounds_toArray, List.set_cons_zero, List.set_cons_succ]
                  refine wpAnyN_take (i := 15) (oi := ?o15) (v := ?v15) ?hi15 (by kernel_rfl) (by kernel_rfl) (by kernel_rfl) (by kernel_rfl) (by decide) (by kernel_rfl) ?hQ15 ?hy15 HSD ?more15
                  case hi15 => rw [List.getElem?_toArray]; exact rfl
                  case hQ15 => exact fun _ _ _ h => h
                  case hy15 =>
                    refine Or.inl ⟨by rfl, ?_⟩
                    intro w' hSw
                    have f0 := hSw.1.1 kq kqQ
                    have f1 := hSw.2.1.1 k2 kN
                    rw [← XO.out] at f0
                    rw [← XB.out] at f1
                    clear hSw
                    go_simp
                    try with_reducible rfl
                  simp only [Act.put, List.setIfInBounds_toArray, List.set_cons_zero, List.set_cons_succ]
                  have hgc := HSD.1.1 kq kqQ
                  rw [← XO.out] at hgc
                  have hgf := HSD.1.2.1 kq
                  refine wpAnyN_one (i := 16) (o := ?o16) (by kernel_rfl) ?hi16 ?hw16 ?st16
                  case hi16 => rw [List.getElem?_toArray]; exact rfl
                  case hw16 => exact rfl
                  intro K hK
                  have HK16 : Hid _ := hK
                  clear hK
                  go_simp
                  refine HK16.out _ _ ⟨fun h => absurd h (by decide +kernel), ?_⟩
                  clear HK16 K
                  try simp only [Act.put, List.setIfInBounds_toArray, List.set_cons_zero, List.set_cons_succ]
                  refine wpAnyN_done (by kernel_rfl) ?_ _
                  go_wp2_with fail
                  go_roundw
                  case rel => first | exact ⟨y, by rw [HY.out]; exact kN, rfl, HFN.out.1, HFN.out.2.1, HFN.out.2.2.drew⟩ | ((repeat apply Exists.intro); exact ⟨⟨y, by rw [HY.out]; exact kN, rfl, HFN.out.1, HFN.out.2.1, HFN.out.2.2.drew⟩, rfl⟩)
                  case measure =>
                    show z - (y : Int).toNat < z - (k2 : Int).toNat
                    rw [Int.toNat_natCast, Int.toNat_natCast, HY.out]
                    exact Nat.sub_succ_lt_self _ _ kN
                · obtain rfl : k2 = z := Nat.le_antisymm hk2 (Nat.le_of_not_lt hlt2)
                  have HF : Hid (IntsAt wv wq.heap.size 0 Q (word4 (padT s)) ∧ Below w.heap.size w wv) := by
                    refine ⟨⟨fun j hj => ?_, hG.2.2⟩, hB2⟩
                    rw [Nat.zero_add, hG.1 j hj, gW_full T k2 j (quarter_le j k2 (by rw [← HQ.out.1]; exact hj)), word4_pw T HTL.out j, HTT.out]
                  clear hG hU hB2 hk2
                  have hnl : ¬ ((k2 : Int) < (k2 : Int)) := Int.lt_irrefl _
                  go_wp2_with fail
                  refine HKr.out _ _ ?_
                  go_wp2_with fail
                  go_ret
                  exact ⟨_, rfl, HF.out⟩
            · have mz : m < 8 := div_small s.size m (by rw [hsz']; exact HL8.out.2.2.2.2) (by rw [← hdv]; exact Nat.pos_of_ne_zero h0)
              have hpos : (0 : Int) < (dv : Int) := Int.natCast_pos.2 (Nat.pos_of_ne_zero h0)
              have ldv : dv < 1152921504606846976 := by
                rw [hdv]
                exact Nat.lt_of_le_of_lt (Nat.div_le_self _ _) (by rw [hsz']; exact eight_lt _ HL8.out.2.2.2.2)
              obtain ⟨r, hr⟩ : ∃ q, q = dv % 256 := ⟨_, rfl⟩
              obtain ⟨dn, hdn⟩ : ∃ q, q = dv / 256 := ⟨_, rfl⟩
              obtain ⟨c1, c2, c3, c4, c5, c6, c7⟩ := d_facts dv ldv
              rw [← hr] at c1 c2 c3
              rw [← hdn] at c4 c5 c6 c7
              obtain ⟨izz, iz0, izb⟩ := iz_facts _ z m iz hiz HL8.out.2.2.1 HL8.out.2.2.2.1 HL8.out.2.2.2.2 mz
              have izz' : (iz : Int) < (z : Int) := Int.ofNat_lt.2 izz
              obtain ⟨iy, hiy⟩ : ∃ q, q = iz - 1 := ⟨_, rfl⟩
              obtain ⟨g1, g2, g3⟩ := sub1_facts iz iz0 izb
              rw [← hiy] at g1 g2 g3
              have gc := hR.1 iz izz
              have gf := hR.2.1 iz
              have gz := hR.2.2
              have HF : Hid (RowK .u8 (wq.setCell ⟨w.heap.size, iz, none⟩ (.int .u8 (r : Nat))) w.heap.size z (fB s z (m + 1)) ∧ Below w.heap.size w (wq.setCell ⟨w.heap.size, iz, none⟩ (.int .u8 (r : Nat)))) :=
                ⟨hR.set izz (by rw [hiz, fB_at s z m (by rw [hsz']; exact HL8.out.2.2.1) mz, hr, hdv]) (fun j _ hne => fB_else s z m j (by rw [← hiz]; exact hne)), hB.setCell (p := ⟨w.heap.size, iz, none⟩) (Nat.le_refl _) _⟩
              have HD : Hid (dn = 8 * s.size / 256 ^ (m + 1) ∧ iy = z - 1 - (m + 1) ∧ m + 1 ≤ 8 ∧ dn < dv) := ⟨by rw [hdn, hdv]; exact div_step _ _, by rw [hiy, hiz, Nat.sub_sub], mz, by rw [hdn]; exact Nat.div_lt_self (Nat.pos_of_ne_zero h0) (by decide)⟩
              clear hR hB hdv hiz h0 hr hdn hiy ldv mz hm iz0 izb
              have HCC : Hid (_ ∧ _ ∧ _ ∧ _ ∧ _ ∧ _ ∧ _ ∧ _ ∧ _ ∧ _ ∧ _) := ⟨c1, c2, c3, c4, c5, c6, c7, g1, g2, g3, izz'⟩
              clear c1 c2 c3 c4 c5 c6 c7 g1 g2 g3 izz' u2 u3 u3' v1 v2 v3 izz
              iterate 14 go_step
              obtain ⟨c1, c2, c3, c4, c5, c6, c7, g1, g2, g3, izz'⟩ := HCC.out
              go_wp2_with fail
              go_roundw
              case rel => first | exact ⟨m + 1, HD.out.2.2.1, by rw [← HD.out.1], by rw [← HD.out.2.1], HF.out.1, HF.out.2⟩ | ((repeat apply Exists.intro); exact ⟨⟨m + 1, HD.out.2.2.1, by rw [← HD.out.1], by rw [← HD.out.2.1], HF.out.1, HF.out.2⟩, rfl⟩)
              case measure =>
                show (dn : Int).toNat < (dv : Int).toNat
                rw [Int.toNat_natCast, Int.toNat_natCast]
                exact HD.out.2.2.2
    · have t0 : ((z : Int).tmod 64 == 0) = false := by rw [Int.tmod_eq_emod_of_nonneg (by omega)]; exact beq_eq_false_iff_ne.2 (by omega)
      have t0' : ¬ ((z : Int).tmod 64 = 0) := by rw [Int.tmod_eq_emod_of_nonneg (by omega)]; omega
      have t1 : ¬ ((z : Int) % 64 = 0) := by omega
      have z3 : z < N := by
        rcases Nat.lt_or_ge z N with h | h
        · exact h
        · exact absurd (by have := HZ.out.2.2.2.1; rw [Nat.le_antisymm hz2 h]; exact this) hz
      clear hz
      obtain ⟨y, hy⟩ : ∃ q, q = z + 1 := ⟨_, rfl⟩
      have y1 : (z : Int) + 1 = (y : Nat) := by omega
      obtain ⟨y2, y3⟩ := keepS y (by have h1 := HZ.out.2.2.2.2.2.1; have h2 := HZ.out.2.2.2.2.2.2.1; omega)
      have HY : Hid (L + 9 ≤ y ∧ y ≤ N ∧ N - y < N - z) := ⟨by omega, by omega, by omega⟩
      clear hy
      go_wp2_with fail
      go_roundw
      case rel => exact ⟨y, HY.out.1, HY.out.2.1, rfl, by first | rfl | trivial⟩
      case measure =>
        show N - (y : Int).toNat < N - (z : Int).toNat
        rw [Int.toNat_natCast, Int.toNat_natCast]
        exact HY.out.2.2
end Go.Proofs.YtdnahobafhelhaaDoor
