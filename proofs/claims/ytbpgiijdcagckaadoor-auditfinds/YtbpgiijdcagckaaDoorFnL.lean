/- The statement AuditFinds' walk. -/
import Derived.Test.YtbpgiijdcagckaaDoorAuG
import Derived.Test.YtbpgiijdcagckaaDoorFnF
import Derived.Test.YtbpgiijdcagckaaDoorTwR
namespace Go.Proofs.YtbpgiijdcagckaaDoor
open Go Go.RowKit Go.Lib
set_option maxRecDepth 100000 in
set_option maxHeartbeats 4000000 in
theorem fnl_any (a : Option Addr) (n cap : Nat) (ts : Nat → Td) (hW : ∀ j, j < n → (ts j).W ∧ (ts j).R) (w : World) (hG : GlobQ w) (hS : TdsAt w a n ts) : Calls Tryd.prog 4 #[.slice a n cap] w fun e w' => e = .returned (.bool true) ∧ Below w.heap.size w w' := by
  have K3 : Hid (∀ w, GlobQ w → Calls Tryd.prog 5 #[] w fun e w' => e = .returned (.bool true) ∧ Below w.heap.size w w') := fun w h => two_ok w h
  by_cases hn : n ≤ 60
  · obtain ⟨A, hA⟩ : ∃ A, A = fA ts (twI (En ts) (Cn ts) n) := ⟨_, rfl⟩
    obtain ⟨X, hX⟩ : ∃ X, X = fB ts (twI (En ts) (Cn ts) n) := ⟨_, rfl⟩
    obtain ⟨C, hC⟩ : ∃ C, C = (twI (En ts) (Cn ts) n).isSome := ⟨_, rfl⟩
    have n64 : (n : Int) ≤ 60 := by omega
    have hng : ¬ ((60 : Int) < (n : Int)) := by omega
    have KF : Hid (∀ W, TdsAt W a n ts → GlobQ W → Calls Tryd.prog 11 #[.slice a n cap] W fun e w' => e = .returned (.tuple #[.int .i64 A, .agg (nuV X).toArray, .bool C]) ∧ Below W.heap.size W w') := fun W h g => find_any a n cap ts A X C (by omega) hW hA hX hC W g h
    have HA : Hid (A = fA ts (twI (En ts) (Cn ts) n) ∧ X = fB ts (twI (En ts) (Cn ts) n) ∧ C = (twI (En ts) (Cn ts) n).isSome) := ⟨hA, hX, hC⟩
    have HW : Hid (∀ j, j < n → (ts j).W ∧ (ts j).R) := hW
    have HS : Hid (TdsAt w a n ts ∧ GlobQ w) := ⟨hS, hG⟩
    have H0 : Hid (Below w.heap.size w w ∧ TdsAt w a n ts ∧ GlobQ w) := ⟨Below.refl _ _, hS, hG⟩
    have KT : Hid (∀ t w, Calls Tryd.prog 13 #[.agg (tdV t).toArray] w fun e w' => e = .returned (.agg (tdV t).toArray) ∧ Below w.heap.size w w') := fun t w => told_any t w
    clear hS hn hG hW hA hX hC
    go_enter Tryd.func4, Tryd.ntmps4
    go_upto_region 3 with fail
    go_wp2_with fail
    refine (KF.out _ H0.out.2.1 H0.out.2.2).mono ?_
    rintro e w1 ⟨rfl, hb1⟩
    have H1 : Hid (Below w.heap.size w w1 ∧ TdsAt w1 a n ts ∧ GlobQ w1) := ⟨below_call0 H0.out.1 hb1, H0.out.2.1.call hb1, H0.out.2.2.call hb1⟩
    clear hb1 H0
    obtain ⟨W2, A2, hA, hS, hb, hB⟩ := Bk.fresh H1.out.1 (Nat.le_refl _) #[.int .u64 0, .int .u64 0, .int .u64 0, .int .u64 0] (nuV X) 27 (by kernel_rfl) rfl (by kernel_rfl)
    have HA : Hid (A2 = w1.heap.size) := hA
    have HS : Hid _ := hS
    have HB : Hid (Below w1.heap.size w1 W2 ∧ Bk w.heap.size W2 A2 (nuV X) 27) := ⟨hb, hB⟩
    clear hA hS hb hB
    go_upto_region 4 with (first | ((rw [← HA.out]); ((with_reducible refine store_tk (b := A2) (k := 0) (x := 4) (y := 18) ?_ ?_ ?_ ?_ HS.out ?_); rfl; rfl; rfl; rfl)) | ((with_reducible refine store_tk (b := A2) (k := 0) (x := 4) (y := 18) ?_ ?_ ?_ ?_ HS.out ?_); rfl; rfl; rfl; rfl))
    have H2 : Hid (Below w.heap.size w W2 ∧ TdsAt W2 a n ts ∧ GlobQ W2 ∧ Bk w.heap.size W2 A2 (nuV X) 27) := ⟨below_call0 H1.out.1 HB.out.1, H1.out.2.1.call HB.out.1, H1.out.2.2.call HB.out.1, HB.out.2⟩
    clear HA HS HB H1
    clear KF
    go_wp2_with fail
    rename_i Kr hKr
    have HKr : Hid _ := hKr
    clear hKr
    go_loopw [22] (fun iv wr => ∃ k : Nat, k ≤ n ∧ iv = .int .i64 (k : Nat) ∧ twI (En ts) (Cn ts) k = none ∧ Below w.heap.size w wr ∧ Bk w.heap.size wr A2 (nuV X) 27) (fun iv _ => n - (Go.RowKit.intOf iv).toNat)
    case atStart => exact ⟨0, Nat.zero_le _, rfl, rfl, H2.out.1, H2.out.2.2.2⟩
    case round =>
      obtain ⟨k, hk, rfl, ht, hB, hX⟩ := hrel
      rename World => wr
      have HC : Hid (twI (En ts) (Cn ts) k = none ∧ k ≤ n ∧ Below w.heap.size w wr ∧ Bk w.heap.size wr A2 (nuV X) 27) := ⟨ht, hk, hB, hX⟩
      clear ht hB hk hX
      by_cases hlt : k < n
      · clear HKr
        have hlt' : (k : Int) < (n : Int) := Int.ofNat_lt.2 hlt
        have HL : Hid (k < n) := hlt
        obtain ⟨b, o, rfl, hrk, hbl⟩ := HS.out.1 k hlt
        have HB : Hid (w.rangeAt b (o + k * 35) (tdV (ts k)) ∧ b < w.heap.size) := ⟨hrk, hbl⟩
        clear hlt hrk hbl
        go_wp2_with fail
        rename_i Kq hKq
        have HKq : Hid _ := hKq
        clear hKq
        go_loopw [7] (fun iv wq => ∃ i : Nat, i ≤ k ∧ iv = .int .i64 (i : Nat) ∧ fstI (cfI (En ts) (Cn ts)) k i = none ∧ Below w.heap.size w wq ∧ Bk w.heap.size wq A2 (nuV X) 27) (fun iv _ => k - (Go.RowKit.intOf iv).toNat)
        case atStart => exact ⟨0, Nat.zero_le _, rfl, rfl, HC.out.2.2.1, HC.out.2.2.2⟩
        case round =>
          obtain ⟨i, hi, rfl, hf, hB, hX⟩ := hrel
          rename World => wq
          have HD : Hid (Below w.heap.size w wq ∧ Bk w.heap.size wq A2 (nuV X) 27 ∧ GlobQ wq) := ⟨hB, hX, HS.out.2.call hB⟩
          have HF : Hid (fstI (cfI (En ts) (Cn ts)) k i = none ∧ i ≤ k) := ⟨hf, hi⟩
          clear hf hB hi hX
          by_cases hik : i < k
          · clear HKq
            have hik' : (i : Int) < (k : Int) := Int.ofNat_lt.2 hik
            have HI : Hid (i < k) := hik
            have hin : i < n := Nat.lt_trans hik HL.out
            have HJ : Hid (i < n) := hin
            have hin' : (i : Int) < (n : Int) := Int.ofNat_lt.2 hin
            obtain ⟨b', o', e', hr, hbl'⟩ := HS.out.1 i hin
            obtain ⟨rfl, rfl⟩ : b = b' ∧ o = o' := by
              injection e' with e'
              injection e' with e1 e2
              exact ⟨e1, e2⟩
            have LI : Hid (∀ w', Below wq.heap.size wq w' → (loadVar 54 ⟨b, o + i * 35, none⟩).run Tryd.prog w' = .ok (.agg (tdV (ts i)).toArray) w') := fun w' hb =>
              run_loadVar_mid w' b (o + i * 35) 54 (tdV (ts i)) _ (rangeAt_below hr hbl' (below_call0 HD.out.1 hb)) Tryd.underlying54 rfl (by kernel_rfl)
            have LJ : Hid (∀ w', Below wq.heap.size wq w' → (loadVar 54 ⟨b, o + k * 35, none⟩).run Tryd.prog w' = .ok (.agg (tdV (ts k)).toArray) w') := fun w' hb =>
              run_loadVar_mid w' b (o + k * 35) 54 (tdV (ts k)) _ (rangeAt_below HB.out.1 HB.out.2 (below_call0 HD.out.1 hb)) Tryd.underlying54 rfl (by kernel_rfl)
            have LN : Hid (∀ w', Below w.heap.size w w' → w'.cell? ⟨b, o + k * 35, none⟩ = some (.int .i64 (ts k).n)) := fun w' hb => rangeAt_below HB.out.1 HB.out.2 hb 0 _ rfl
            clear hr e' hbl' hin hik
            go_upto_region 10 with fail
            cases hcf : cfI (En ts) (Cn ts) i k
            · have HG : Hid (fstI (cfI (En ts) (Cn ts)) k (i + 1) = none) := cf_next HF.out.1 hcf
              obtain ⟨E, hE⟩ : ∃ E, E = lkE (ts i) (ts k) := ⟨_, rfl⟩
              obtain ⟨r, hr⟩ : ∃ r, r = lkN (ts i) (ts k) := ⟨_, rfl⟩
              have hne : ¬ E = 0 := by
                rw [hE]
                exact lk_not hcf
              have KL : Hid (∀ w, Calls Tryd.prog 12 #[.agg (tdV (ts i)).toArray, .agg (tdV (ts k)).toArray] w fun e w' => e = .returned (.tuple #[.agg (nuV r).toArray, .int .i64 E]) ∧ Below w.heap.size w w') := fun w => rleak_any (ts i) (ts k) r E (HW.out i HJ.out).2 (HW.out k HL.out).2 hE hr w
              clear hE hr
              refine wp_region_S 16 0 15 (OwL [isV (.slice (some ⟨b, o, none⟩) n cap), isV (.int .i64 (i : Nat)), isV (.pointer (some ⟨b, o + i * 35, none⟩)), isV (.agg (tdV (ts i)).toArray), isV (.agg (tdV (ts i)).toArray), isV (.slice (some ⟨b, o, none⟩) n cap), isV (.int .i64 (k : Nat)), isV (.pointer (some ⟨b, o + k * 35, none⟩)), isV (.agg (tdV (ts k)).toArray), isV (.agg (tdV (ts k)).toArray), isV (.tuple #[.agg (nuV r).toArray, .int .i64 E]), isV (.tuple #[.agg (nuV r).toArray, .int .i64 E]), isV (.agg (nuV r).toArray), isV (.int .i64 E), isB (wq.heap.size) [.int .u64 0, .int .u64 0, .int .u64 0, .int .u64 0] (nuV r) 27, isT]) [some 31, some 32, some 33, some 34, some 35, some 36, some 37, some 38, some 39, some 40, some 41, some 30, some 42, some 43, some 8, none] [0, 1, 2, 3, 4, 5, 6, 7, 8, 9, 10, 11, 12, 13, 14, 15] ?Ag10_12 ?osg10_12 (by kernel_rfl) (by kernel_rfl) (by kernel_rfl) (by kernel_rfl) ?hosg10_12 (by decide) ?hAg10_12 (OwL.call (pers_cons (pers_V _) (pers_cons (pers_V _) (pers_cons (pers_V _) (pers_cons (pers_V _) (pers_cons (pers_V _) (pers_cons (pers_V _) (pers_cons (pers_V _) (pers_cons (pers_V _) (pers_cons (pers_V _) (pers_cons (pers_V _) (pers_cons (pers_V _) (pers_cons (pers_V _) (pers_cons (pers_V _) (pers_cons (pers_V _) (pers_cons (pers_B _ _ _ _) (pers_cons (pers_T) (pers_nil)))))))))))))))))) ?hopg10_12 ?hstg10_12 ?hfing10_12
              case hosg10_12 =>
                rw [List.getElem?_toArray]
                exact rfl
              case hAg10_12 =>
                intro v
                simp only [List.map_cons, List.map_nil, List.zip_cons_cons, List.zip_nil_right, fillD, Act.put, List.setIfInBounds_toArray, List.set_cons_zero, List.set_cons_succ]
                exact rfl
              case hopg10_12 =>
                refine ⟨?_, ?_, ?_, ?_, ?_, ?_, ?_, ?_, ?_, ?_, ?_, ?_, ?_, ?_, ?_, fun _ h => absurd rfl h, fun h => absurd h (by decide), trivial⟩
                focus (intro _ _ s v wx hs hS hd; refine OpTo.does rfl ?_ rfl (Below.refl _ _); clear hd hs hS; go_simp; try with_reducible rfl)
                focus (intro _ _ s v wx hs hS hd; refine OpTo.does rfl ?_ rfl (Below.refl _ _); clear hd hs hS; go_simp; try with_reducible rfl)
                focus (intro _ _ s v wx hs hS hd; refine OpTo.does rfl ?_ rfl (Below.refl _ _); have d0 : v 0 = .slice (some ⟨b, o, none⟩) n cap := hd 0 (by kernel_rfl); have d1 : v 1 = .int .i64 (i : Nat) := hd 1 (by kernel_rfl); simp only [d0, d1]; clear hd hs hS; go_simp; try with_reducible rfl)
                focus (intro _ _ s v wx hs hS hd; exact OpTo.does rfl (exec_loadK (b := b) (k := o + i * 35) (x := 33) rfl (hd 2 (by kernel_rfl)) (LI.out _ hS)) rfl (Below.refl _ _))
                focus (intro _ _ s v wx hs hS hd; obtain rfl := hs (by kernel_rfl); refine OpTo.asks rfl (fun _ => rfl) (fun K hK => ?_); have d3 : v 3 = .agg (tdV (ts i)).toArray := hd 3 (by kernel_rfl); simp only [d3] at hK ⊢; go_simp; refine (KT.out _ _).mono ?_; rintro e w' ⟨rfl, hq⟩; exact hK _ w' (rfl) hq)
                focus (intro _ _ s v wx hs hS hd; refine OpTo.does rfl ?_ rfl (Below.refl _ _); clear hd hs hS; go_simp; try with_reducible rfl)
                focus (intro _ _ s v wx hs hS hd; refine OpTo.does rfl ?_ rfl (Below.refl _ _); clear hd hs hS; go_simp; try with_reducible rfl)
                focus (intro _ _ s v wx hs hS hd; refine OpTo.does rfl ?_ rfl (Below.refl _ _); have d5 : v 5 = .slice (some ⟨b, o, none⟩) n cap := hd 5 (by kernel_rfl); have d6 : v 6 = .int .i64 (k : Nat) := hd 6 (by kernel_rfl); simp only [d5, d6]; clear hd hs hS; go_simp; try with_reducible rfl)
                focus (intro _ _ s v wx hs hS hd; exact OpTo.does rfl (exec_loadK (b := b) (k := o + k * 35) (x := 38) rfl (hd 7 (by kernel_rfl)) (LJ.out _ hS)) rfl (Below.refl _ _))
                focus (intro _ _ s v wx hs hS hd; obtain rfl := hs (by kernel_rfl); refine OpTo.asks rfl (fun _ => rfl) (fun K hK => ?_); have d8 : v 8 = .agg (tdV (ts k)).toArray := hd 8 (by kernel_rfl); simp only [d8] at hK ⊢; go_simp; refine (KT.out _ _).mono ?_; rintro e w' ⟨rfl, hq⟩; exact hK _ w' (rfl) hq)
                focus (intro _ _ s v wx hs hS hd; obtain rfl := hs (by kernel_rfl); refine OpTo.asks rfl (fun _ => rfl) (fun K hK => ?_); have d4 : v 4 = .agg (tdV (ts i)).toArray := hd 4 (by kernel_rfl); have d9 : v 9 = .agg (tdV (ts k)).toArray := hd 9 (by kernel_rfl); simp only [d4, d9] at hK ⊢; go_simp; refine (KL.out _).mono ?_; rintro e w' ⟨rfl, hq⟩; exact hK _ w' (rfl) hq)
                focus (intro _ _ s v wx hs hS hd; refine OpTo.does rfl ?_ rfl (Below.refl _ _); have d10 : v 10 = .tuple #[.agg (nuV r).toArray, .int .i64 E] := hd 10 (by kernel_rfl); simp only [d10]; clear hd hs hS; go_simp; try with_reducible rfl)
                focus (intro _ _ s v wx hs hS hd; refine OpTo.does rfl ?_ rfl (Below.refl _ _); have d11 : v 11 = .tuple #[.agg (nuV r).toArray, .int .i64 E] := hd 11 (by kernel_rfl); simp only [d11]; clear hd hs hS; go_simp; try with_reducible rfl)
                focus (intro _ _ s v wx hs hS hd; refine OpTo.does rfl ?_ rfl (Below.refl _ _); have d11 : v 11 = .tuple #[.agg (nuV r).toArray, .int .i64 E] := hd 11 (by kernel_rfl); simp only [d11]; clear hd hs hS; go_simp; try with_reducible rfl)
                focus (intro _ _ s v wx hs hS hd; refine OpTo.does (y := .pointer (some ⟨wx.heap.size, 0, none⟩)) (w1 := wx.alloc (.cells ([.int .u64 0, .int .u64 0, .int .u64 0, .int .u64 0] : List Value).toArray 27)) rfl ?_ ⟨_, rfl, hS.size, ?_⟩ (below_alloc0 (Below.refl _ _) _); (focus (go_simp; try rfl)); (rw [hs (by kernel_rfl)]; exact heap_alloc_last wx _))
              case hstg10_12 =>
                intro v wx hS hd
                have dy : v 12 = .agg (nuV r).toArray := hd 12 (by kernel_rfl)
                obtain ⟨b, e0, hz, hB⟩ := hd 14 (by kernel_rfl)
                refine OpTo.imp (OpTo.stores (w1 := wx.setRow b (nuV r).toArray) (v := undef) (R := fun w' => w' = wx.setRow b (nuV r).toArray) rfl (exec_storeK (b := b) (x := 8) (y := 42) rfl (by exact e0) (by exact dy) (run_storeVar_row wx b 27 27 _ (nuV r).toArray hB (by kernel_rfl) rfl (by kernel_rfl))) rfl rfl) ?_
                rintro x w' ⟨hx, rfl⟩
                refine ⟨undef, hx, trivial, below_setRowK hz _ hS, fun j hj => ?_⟩
                match j, hj with
                | 0, h => exact h
                | 1, h => exact h
                | 2, h => exact h
                | 3, h => exact h
                | 4, h => exact h
                | 5, h => exact h
                | 6, h => exact h
                | 7, h => exact h
                | 8, h => exact h
                | 9, h => exact h
                | 10, h => exact h
                | 11, h => exact h
                | 12, h => exact h
                | 13, h => exact h
                | 14, _ => exact ⟨b, e0, hz, setRow_heap wx b _ _ _ _ hB⟩
                | 15, h => exact h
                | _ + 16, _ => exact trivial
              intro v w21 hS hd
              have d13 : v 13 = .int .i64 E := hd 13 (by decide)
              obtain ⟨A21, e0, hz, hB⟩ := hd 14 (by decide)
              simp only [d13, e0]
              refine tail_at (o := ?otg10_1216) ?hitg10_1216 ?hwtg10_1216 ?_
              case hitg10_1216 => rw [List.getElem?_toArray]; exact rfl
              case hwtg10_1216 => exact rfl
              go_simp
              refine tail_end ?_
              have H1 : Hid (Below w.heap.size w w21 ∧ Bk w.heap.size w21 A2 (nuV X) 27 ∧ GlobQ w21 ∧ Bk w.heap.size w21 A21 (nuV r) 27) := ⟨below_call0 HD.out.1 hS, HD.out.2.1.call hS, HD.out.2.2.call hS, ⟨Nat.le_trans HD.out.1.size hz, hB⟩⟩
              clear hS hd hB hz d13 e0 HD
              go_upto_region 11 with fail
              go_wp2_with fail
              go_roundw
              case rel => first | exact ⟨i + 1, HI.out, by go_num, HG.out, H1.out.1, H1.out.2.1⟩ | ((repeat apply Exists.intro); exact ⟨⟨i + 1, HI.out, by go_num, HG.out, H1.out.1, H1.out.2.1⟩, rfl⟩)
              case measure => have := HI.out; simp [Go.RowKit.intOf]; omega
            · have htw : twI (En ts) (Cn ts) n = some (i, k) := twI_some HL.out HC.out.1 (cf_hit HI.out HF.out.1 hcf)
              obtain rfl : A = (ts k).n := by rw [HA.out.1, htw]; rfl
              obtain rfl : C = true := by rw [HA.out.2.2, htw]; rfl
              have KL : Hid (∀ w, Calls Tryd.prog 12 #[.agg (tdV (ts i)).toArray, .agg (tdV (ts k)).toArray] w fun e w' => e = .returned (.tuple #[.agg (nuV X).toArray, .int .i64 0]) ∧ Below w.heap.size w w') := fun w => rleak_any (ts i) (ts k) X 0 (HW.out i HJ.out).2 (HW.out k HL.out).2 (lk_hit hcf).symm (by rw [HA.out.2.1, htw]; rfl) w
              clear htw hcf
              refine wp_region_S 16 0 15 (OwL [isV (.slice (some ⟨b, o, none⟩) n cap), isV (.int .i64 (i : Nat)), isV (.pointer (some ⟨b, o + i * 35, none⟩)), isV (.agg (tdV (ts i)).toArray), isV (.agg (tdV (ts i)).toArray), isV (.slice (some ⟨b, o, none⟩) n cap), isV (.int .i64 (k : Nat)), isV (.pointer (some ⟨b, o + k * 35, none⟩)), isV (.agg (tdV (ts k)).toArray), isV (.agg (tdV (ts k)).toArray), isV (.tuple #[.agg (nuV X).toArray, .int .i64 0]), isV (.tuple #[.agg (nuV X).toArray, .int .i64 0]), isV (.agg (nuV X).toArray), isV (.int .i64 0), isB (wq.heap.size) [.int .u64 0, .int .u64 0, .int .u64 0, .int .u64 0] (nuV X) 27, isT]) [some 31, some 32, some 33, some 34, some 35, some 36, some 37, some 38, some 39, some 40, some 41, some 30, some 42, some 43, some 8, none] [0, 1, 2, 3, 4, 5, 6, 7, 8, 9, 10, 11, 12, 13, 14, 15] ?Ag10_13 ?osg10_13 (by kernel_rfl) (by kernel_rfl) (by kernel_rfl) (by kernel_rfl) ?hosg10_13 (by decide) ?hAg10_13 (OwL.call (pers_cons (pers_V _) (pers_cons (pers_V _) (pers_cons (pers_V _) (pers_cons (pers_V _) (pers_cons (pers_V _) (pers_cons (pers_V _) (pers_cons (pers_V _) (pers_cons (pers_V _) (pers_cons (pers_V _) (pers_cons (pers_V _) (pers_cons (pers_V _) (pers_cons (pers_V _) (pers_cons (pers_V _) (pers_cons (pers_V _) (pers_cons (pers_B _ _ _ _) (pers_cons (pers_T) (pers_nil)))))))))))))))))) ?hopg10_13 ?hstg10_13 ?hfing10_13
              case hosg10_13 =>
                rw [List.getElem?_toArray]
                exact rfl
              case hAg10_13 =>
                intro v
                simp only [List.map_cons, List.map_nil, List.zip_cons_cons, List.zip_nil_right, fillD, Act.put, List.setIfInBounds_toArray, List.set_cons_zero, List.set_cons_succ]
                exact rfl
              case hopg10_13 =>
                refine ⟨?_, ?_, ?_, ?_, ?_, ?_, ?_, ?_, ?_, ?_, ?_, ?_, ?_, ?_, ?_, fun _ h => absurd rfl h, fun h => absurd h (by decide), trivial⟩
                focus (intro _ _ s v wx hs hS hd; refine OpTo.does rfl ?_ rfl (Below.refl _ _); clear hd hs hS; go_simp; try with_reducible rfl)
                focus (intro _ _ s v wx hs hS hd; refine OpTo.does rfl ?_ rfl (Below.refl _ _); clear hd hs hS; go_simp; try with_reducible rfl)
                focus (intro _ _ s v wx hs hS hd; refine OpTo.does rfl ?_ rfl (Below.refl _ _); have d0 : v 0 = .slice (some ⟨b, o, none⟩) n cap := hd 0 (by kernel_rfl); have d1 : v 1 = .int .i64 (i : Nat) := hd 1 (by kernel_rfl); simp only [d0, d1]; clear hd hs hS; go_simp; try with_reducible rfl)
                focus (intro _ _ s v wx hs hS hd; exact OpTo.does rfl (exec_loadK (b := b) (k := o + i * 35) (x := 33) rfl (hd 2 (by kernel_rfl)) (LI.out _ hS)) rfl (Below.refl _ _))
                focus (intro _ _ s v wx hs hS hd; obtain rfl := hs (by kernel_rfl); refine OpTo.asks rfl (fun _ => rfl) (fun K hK => ?_); have d3 : v 3 = .agg (tdV (ts i)).toArray := hd 3 (by kernel_rfl); simp only [d3] at hK ⊢; go_simp; refine (KT.out _ _).mono ?_; rintro e w' ⟨rfl, hq⟩; exact hK _ w' (rfl) hq)
                focus (intro _ _ s v wx hs hS hd; refine OpTo.does rfl ?_ rfl (Below.refl _ _); clear hd hs hS; go_simp; try with_reducible rfl)
                focus (intro _ _ s v wx hs hS hd; refine OpTo.does rfl ?_ rfl (Below.refl _ _); clear hd hs hS; go_simp; try with_reducible rfl)
                focus (intro _ _ s v wx hs hS hd; refine OpTo.does rfl ?_ rfl (Below.refl _ _); have d5 : v 5 = .slice (some ⟨b, o, none⟩) n cap := hd 5 (by kernel_rfl); have d6 : v 6 = .int .i64 (k : Nat) := hd 6 (by kernel_rfl); simp only [d5, d6]; clear hd hs hS; go_simp; try with_reducible rfl)
                focus (intro _ _ s v wx hs hS hd; exact OpTo.does rfl (exec_loadK (b := b) (k := o + k * 35) (x := 38) rfl (hd 7 (by kernel_rfl)) (LJ.out _ hS)) rfl (Below.refl _ _))
                focus (intro _ _ s v wx hs hS hd; obtain rfl := hs (by kernel_rfl); refine OpTo.asks rfl (fun _ => rfl) (fun K hK => ?_); have d8 : v 8 = .agg (tdV (ts k)).toArray := hd 8 (by kernel_rfl); simp only [d8] at hK ⊢; go_simp; refine (KT.out _ _).mono ?_; rintro e w' ⟨rfl, hq⟩; exact hK _ w' (rfl) hq)
                focus (intro _ _ s v wx hs hS hd; obtain rfl := hs (by kernel_rfl); refine OpTo.asks rfl (fun _ => rfl) (fun K hK => ?_); have d4 : v 4 = .agg (tdV (ts i)).toArray := hd 4 (by kernel_rfl); have d9 : v 9 = .agg (tdV (ts k)).toArray := hd 9 (by kernel_rfl); simp only [d4, d9] at hK ⊢; go_simp; refine (KL.out _).mono ?_; rintro e w' ⟨rfl, hq⟩; exact hK _ w' (rfl) hq)
                focus (intro _ _ s v wx hs hS hd; refine OpTo.does rfl ?_ rfl (Below.refl _ _); have d10 : v 10 = .tuple #[.agg (nuV X).toArray, .int .i64 0] := hd 10 (by kernel_rfl); simp only [d10]; clear hd hs hS; go_simp; try with_reducible rfl)
                focus (intro _ _ s v wx hs hS hd; refine OpTo.does rfl ?_ rfl (Below.refl _ _); have d11 : v 11 = .tuple #[.agg (nuV X).toArray, .int .i64 0] := hd 11 (by kernel_rfl); simp only [d11]; clear hd hs hS; go_simp; try with_reducible rfl)
                focus (intro _ _ s v wx hs hS hd; refine OpTo.does rfl ?_ rfl (Below.refl _ _); have d11 : v 11 = .tuple #[.agg (nuV X).toArray, .int .i64 0] := hd 11 (by kernel_rfl); simp only [d11]; clear hd hs hS; go_simp; try with_reducible rfl)
                focus (intro _ _ s v wx hs hS hd; refine OpTo.does (y := .pointer (some ⟨wx.heap.size, 0, none⟩)) (w1 := wx.alloc (.cells ([.int .u64 0, .int .u64 0, .int .u64 0, .int .u64 0] : List Value).toArray 27)) rfl ?_ ⟨_, rfl, hS.size, ?_⟩ (below_alloc0 (Below.refl _ _) _); (focus (go_simp; try rfl)); (rw [hs (by kernel_rfl)]; exact heap_alloc_last wx _))
              case hstg10_13 =>
                intro v wx hS hd
                have dy : v 12 = .agg (nuV X).toArray := hd 12 (by kernel_rfl)
                obtain ⟨b, e0, hz, hB⟩ := hd 14 (by kernel_rfl)
                refine OpTo.imp (OpTo.stores (w1 := wx.setRow b (nuV X).toArray) (v := undef) (R := fun w' => w' = wx.setRow b (nuV X).toArray) rfl (exec_storeK (b := b) (x := 8) (y := 42) rfl (by exact e0) (by exact dy) (run_storeVar_row wx b 27 27 _ (nuV X).toArray hB (by kernel_rfl) rfl (by kernel_rfl))) rfl rfl) ?_
                rintro x w' ⟨hx, rfl⟩
                refine ⟨undef, hx, trivial, below_setRowK hz _ hS, fun j hj => ?_⟩
                match j, hj with
                | 0, h => exact h
                | 1, h => exact h
                | 2, h => exact h
                | 3, h => exact h
                | 4, h => exact h
                | 5, h => exact h
                | 6, h => exact h
                | 7, h => exact h
                | 8, h => exact h
                | 9, h => exact h
                | 10, h => exact h
                | 11, h => exact h
                | 12, h => exact h
                | 13, h => exact h
                | 14, _ => exact ⟨b, e0, hz, setRow_heap wx b _ _ _ _ hB⟩
                | 15, h => exact h
                | _ + 16, _ => exact trivial
              intro v w21 hS hd
              have d13 : v 13 = .int .i64 0 := hd 13 (by decide)
              obtain ⟨A21, e0, hz, hB⟩ := hd 14 (by decide)
              simp only [d13, e0]
              refine tail_at (o := ?otg10_1316) ?hitg10_1316 ?hwtg10_1316 ?_
              case hitg10_1316 => rw [List.getElem?_toArray]; exact rfl
              case hwtg10_1316 => exact rfl
              go_simp
              refine tail_end ?_
              have H1 : Hid (Below w.heap.size w w21 ∧ Bk w.heap.size w21 A2 (nuV X) 27 ∧ GlobQ w21 ∧ Bk w.heap.size w21 A21 (nuV X) 27) := ⟨below_call0 HD.out.1 hS, HD.out.2.1.call hS, HD.out.2.2.call hS, ⟨Nat.le_trans HD.out.1.size hz, hB⟩⟩
              clear hS hd hB hz d13 e0 HD
              go_upto_region 11 with fail
              go_upto_region 12 with fail
              have c0 := LN.out _ H1.out.1
              have hq : ∀ w : World, (Op.equalIn 10000 27 (.agg (nuV X).toArray) (.agg (nuV X).toArray)).run Tryd.prog w = .ok true w := fun w => by
                rw [run_num0, eqn_self]
              have L51 : Hid ((loadVar 27 ⟨A2, 0, none⟩).run Tryd.prog w21 = .ok (.agg (nuV X).toArray) w21) := H1.out.2.1.load 0 (nuV X) (by rfl) Tryd.underlying27 rfl (by kernel_rfl)
              have L52 : Hid ((loadVar 27 ⟨A21, 0, none⟩).run Tryd.prog w21 = .ok (.agg (nuV X).toArray) w21) := H1.out.2.2.2.load 0 (nuV X) (by rfl) Tryd.underlying27 rfl (by kernel_rfl)
              go_wp2_with (first | ((with_reducible refine load_tk (b := A2) (k := 0) (x := 4) ?_ ?_ ?_ L51.out ?_); rfl; rfl; rfl) | ((with_reducible refine load_tk (b := A21) (k := 0) (x := 8) ?_ ?_ ?_ L52.out ?_); rfl; rfl; rfl))
              refine (K3.out _ H1.out.2.2.1).mono ?_
              rintro e w22 ⟨rfl, hb22⟩
              have H2 : Hid (Below w.heap.size w w22 ∧ Bk w.heap.size w22 A2 (nuV X) 27 ∧ GlobQ w22 ∧ Bk w.heap.size w22 A21 (nuV X) 27) := ⟨below_call0 H1.out.1 hb22, H1.out.2.1.call hb22, H1.out.2.2.1.call hb22, H1.out.2.2.2.call hb22⟩
              clear hb22 L51 L52 H1
              go_wp2_with fail
              go_ret
              exact ⟨rfl, H2.out.1⟩
          · obtain rfl : i = k := by have := HF.out.2; omega
            have hnl : ¬ ((i : Int) < (i : Int)) := Int.lt_irrefl _
            have HG : Hid (twI (En ts) (Cn ts) (i + 1) = none) := twI_step HC.out.1 HF.out.1
            clear hik
            go_wp2_with fail
            refine HKq.out _ _ ?_
            clear HKq
            go_wp2_with fail
            go_roundw
            case rel => first | exact ⟨i + 1, HL.out, by go_num, HG.out, HD.out.1, HD.out.2.1⟩ | ((repeat apply Exists.intro); exact ⟨⟨i + 1, HL.out, by go_num, HG.out, HD.out.1, HD.out.2.1⟩, rfl⟩)
            case measure => have := HL.out; simp [Go.RowKit.intOf]; omega
      · obtain rfl : k = n := by have := HC.out.2.1; omega
        have hnl : ¬ ((k : Int) < (k : Int)) := Int.lt_irrefl _
        clear hlt
        obtain rfl : A = 0 := by rw [HA.out.1, HC.out.1]; rfl
        obtain rfl : X = 0 := by rw [HA.out.2.1, HC.out.1]; rfl
        obtain rfl : C = false := by rw [HA.out.2.2, HC.out.1]; rfl
        have HD : Hid (Below w.heap.size w wr ∧ Bk w.heap.size wr A2 (nuV 0) 27 ∧ GlobQ wr) := ⟨HC.out.2.2.1, HC.out.2.2.2, HS.out.2.call HC.out.2.2.1⟩
        go_wp2_with fail
        refine HKr.out _ _ ?_
        clear HKr
        have hq : ∀ w : World, (Op.equalIn 10000 27 (.agg (nuV 0).toArray) (.agg #[.int .u64 0, .int .u64 0, .int .u64 0, .int .u64 0])).run Tryd.prog w = .ok true w := fun w => by
          have e : (#[.int .u64 0, .int .u64 0, .int .u64 0, .int .u64 0] : Array Value) = (nuV 0).toArray := by kernel_rfl
          rw [e, run_num0, eqn_self]
        go_upto_region 14 with fail
        have L51 : Hid ((loadVar 27 ⟨A2, 0, none⟩).run Tryd.prog wr = .ok (.agg (nuV 0).toArray) wr) := HD.out.2.1.load 0 (nuV 0) (by rfl) Tryd.underlying27 rfl (by kernel_rfl)
        go_wp2_with ((with_reducible refine load_tk (b := A2) (k := 0) (x := 4) ?_ ?_ ?_ L51.out ?_); rfl; rfl; rfl)
        refine (K3.out _ HD.out.2.2).mono ?_
        rintro e w21 ⟨rfl, hb21⟩
        have H1 : Hid (Below w.heap.size w w21 ∧ Bk w.heap.size w21 A2 (nuV 0) 27 ∧ GlobQ w21) := ⟨below_call0 HD.out.1 hb21, HD.out.2.1.call hb21, HD.out.2.2.call hb21⟩
        clear hb21 L51 HD
        go_wp2_with fail
        go_ret
        exact ⟨rfl, H1.out.1⟩
  · have hng : (60 : Int) < (n : Int) := by omega
    have H0 : Hid (GlobQ w) := hG
    clear hn hG hS hW
    go_enter Tryd.func4, Tryd.ntmps4
    go_wp2_with fail
    refine (K3.out _ H0.out).mono ?_
    rintro e w1 ⟨rfl, hb1⟩
    have H1 : Hid (Below w.heap.size w w1) := hb1
    clear hb1
    go_wp2_with fail
    go_ret
    exact ⟨rfl, H1.out⟩
end Go.Proofs.YtbpgiijdcagckaaDoor
