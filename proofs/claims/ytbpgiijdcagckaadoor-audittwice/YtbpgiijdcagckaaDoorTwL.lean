/- The statement AuditTwice's walk. -/
import Derived.Test.YtbpgiijdcagckaaDoorAuG
import Derived.Test.YtbpgiijdcagckaaDoorRwX
import Derived.Test.YtbpgiijdcagckaaDoorTwD
import Derived.Test.YtbpgiijdcagckaaDoorTwR
import Derived.Test.YtbpgiijdcagckaaDoorTwS
namespace Go.Proofs.YtbpgiijdcagckaaDoor
open Go Go.RowKit Go.Lib
theorem infoEm : InfE Tryd.prog 24 37 23 184 := by
  refine ⟨Tryd.underlying24, ?_⟩
  have h : (Tryd.prog.info? 37).map (fun i => (i.zero, i.size, i.bytes)) = some (some (.agg #[.int .i64 0, .int .u64 0, .int .u64 0, .int .u64 0, .int .u64 0, .int .u64 0, .int .u64 0, .int .u64 0, .int .u64 0, .bool false, .int .u64 0, .int .u64 0, .int .u64 0, .int .u64 0, .int .u64 0, .int .u64 0, .int .u64 0, .int .u64 0, .bool false, .int .u64 0, .int .u64 0, .int .u64 0, .int .u64 0]), 23, 184) := by kernel_rfl
  cases e : Tryd.prog.info? 37 with
  | none => rw [e] at h; cases h
  | some i =>
    rw [e] at h
    simp only [Option.map_some, Option.some.injEq, Prod.mk.injEq] at h
    exact ⟨i, _, rfl, h.1, rfl, h.2.1, h.2.2⟩
theorem emV_len (x : Td) : (emV x).length = 23 := rfl
theorem emV_one (x : Td) : ∀ u ∈ emV x, u.oneCell' = true := fun u hu => by
  simp only [emV, List.mem_cons, List.not_mem_nil, or_false] at hu
  rcases hu with rfl | rfl | rfl | rfl | rfl | rfl | rfl | rfl | rfl | rfl | rfl | rfl | rfl | rfl | rfl | rfl | rfl | rfl | rfl | rfl | rfl | rfl | rfl <;> rfl
theorem EmsAt.of_row {w : World} {F : Nat → Prop} {a : Option Addr} {n cap : Nat} {ts : Nat → Td} (h : RowX emV 23 w F a (rsE ts n) cap) : EmsAt w a n ts := fun j hj => by
  obtain ⟨b, o, e, hc, hl, -, -⟩ := h.get emV_len (rsE_get ts hj)
  exact ⟨b, o, e, fun c u hu => hc c u hu, hl⟩
theorem off_belowK {B : Nat} {w0 w w' : World} {Z : Nat → Prop} (h : Below B w0 w) (ho : Off Z w w') (hz : ∀ j, j < B → ¬ Z j) : Below B w0 w' :=
  ⟨ho.os.trans h.os, ho.tape.trans h.tape, ho.output.trans h.output, Nat.le_trans h.size ho.size, fun j hj => (ho.block j (hz j hj)).trans (h.block j hj)⟩
theorem Bk.off {B b : Nat} {w w' : World} {vs : List Value} {t : TypeId} {Z : Nat → Prop} (h : Bk B w b vs t) (ho : Off Z w w') (hz : ¬ Z b) : Bk B w' b vs t := ⟨h.1, (ho.block b hz).trans h.2⟩
set_option maxRecDepth 100000 in
set_option maxHeartbeats 4000000 in
theorem twl_any (a : Option Addr) (n cap : Nat) (ts : Nat → Td) (hW : ∀ j, j < n → (ts j).W) (w : World) (hG : GlobQ w) (hS : EmsAt w a n ts) : Calls Tryd.prog 3 #[.slice a n cap] w fun e w' => e = .returned (.bool true) ∧ Below w.heap.size w w' := by
  have K3 : Hid (∀ w, GlobQ w → Calls Tryd.prog 5 #[] w fun e w' => e = .returned (.bool true) ∧ Below w.heap.size w w') := fun w h => two_ok w h
  by_cases hn : n ≤ 200
  · have n64 : (n : Int) ≤ 200 := by omega
    have hng : ¬ ((200 : Int) < (n : Int)) := by omega
    have HN : Hid (n ≤ 200) := hn
    have KP : Hid (∀ t w, Calls Tryd.prog 6 #[.agg (prV t).toArray] w fun e w' => e = .returned (.agg (prV t).toArray) ∧ Below w.heap.size w w') := fun t w => pair_any t w
    have HS : Hid (EmsAt w a n ts ∧ GlobQ w ∧ ∀ j, j < n → (ts j).W) := ⟨hS, hG, hW⟩
    clear hS hn hG hW
    go_enter Tryd.func3, Tryd.ntmps3
    go_wp2_with fail
    rename_i Kr hKr
    have HKr : Hid _ := hKr
    clear hKr
    go_loopw [3, 17] (fun sv iv wr => ∃ (k : Nat) (a' : Option Addr) (c' : Nat), k ≤ n ∧ sv = .slice a' k c' ∧ iv = .int .i64 (k : Nat) ∧ Below w.heap.size w wr ∧ RowX emV 23 wr (From w.heap.size) a' (rsE ts k) c') (fun _ iv _ => n - (Go.RowKit.intOf iv).toNat)
    case atStart => exact ⟨0, none, 0, Nat.zero_le _, rfl, rfl, Below.refl _ _, RowX.nil _ _⟩
    case round =>
      obtain ⟨k, a', c', hk, rfl, rfl, hB, hR⟩ := hrel
      rename World => wr
      have HC : Hid (k ≤ n) := hk
      have HR : Hid (Below w.heap.size w wr ∧ RowX emV 23 wr (From w.heap.size) a' (rsE ts k) c') := ⟨hB, hR⟩
      clear hB hk hR
      by_cases hlt : k < n
      · clear HKr
        have hlt' : (k : Int) < (n : Int) := Int.ofNat_lt.2 hlt
        have HL : Hid (k < n) := hlt
        obtain ⟨b, o, rfl, hr, hbl⟩ := HS.out.1 k hlt
        have LE : Hid ((loadVar 33 ⟨b, o + k * 23, none⟩).run Tryd.prog wr = .ok (.agg (emV (ts k)).toArray) wr) :=
          run_loadVar_mid wr b (o + k * 23) 33 (emV (ts k)) _ (rangeAt_below hr hbl HR.out.1) Tryd.underlying33 rfl (by kernel_rfl)
        clear hr hlt
        have HB0 : Hid (Below w.heap.size w wr) := HR.out.1
        have HR2 : Hid (Below wr.heap.size wr wr ∧ RowX emV 23 wr (fun j => w.heap.size ≤ j ∧ j < wr.heap.size) a' (rsE ts k) c') := ⟨Below.refl _ _, HR.out.2.mono fun j hj hz => ⟨hz, hj⟩⟩
        clear HR
        go_upto_region 6 with fail
        obtain ⟨W1, A1, hA, hS, hb, hB⟩ := Bk.fresh HR2.out.1 (Nat.le_refl _) #[.int .i64 0, .int .u64 0, .int .u64 0, .int .u64 0, .int .u64 0, .int .u64 0, .int .u64 0, .int .u64 0, .int .u64 0, .bool false, .int .u64 0, .int .u64 0, .int .u64 0, .int .u64 0, .int .u64 0, .int .u64 0, .int .u64 0, .int .u64 0, .bool false, .int .u64 0, .int .u64 0, .int .u64 0, .int .u64 0] (emV (ts k)) 33 (by kernel_rfl) rfl (by kernel_rfl)
        have HA : Hid (A1 = wr.heap.size) := hA
        have HS : Hid _ := hS
        have HB : Hid (Below wr.heap.size wr W1 ∧ Bk wr.heap.size W1 A1 (emV (ts k)) 33) := ⟨hb, hB⟩
        clear hA hS hb hB
        go_upto_region 7 with (first | ((with_reducible refine load_tk (b := b) (k := o + k * 23) (x := 19) ?_ ?_ ?_ LE.out ?_); rfl; rfl; rfl) | ((rw [← HA.out]); ((with_reducible refine store_tk (b := A1) (k := 0) (x := 5) (y := 20) ?_ ?_ ?_ ?_ HS.out ?_); rfl; rfl; rfl; rfl)) | ((with_reducible refine store_tk (b := A1) (k := 0) (x := 5) (y := 20) ?_ ?_ ?_ ?_ HS.out ?_); rfl; rfl; rfl; rfl))
        have H1 : Hid (Below wr.heap.size wr W1 ∧ RowX emV 23 W1 (fun j => w.heap.size ≤ j ∧ j < wr.heap.size) a' (rsE ts k) c' ∧ Bk wr.heap.size W1 A1 (emV (ts k)) 33) := ⟨below_call0 HR2.out.1 HB.out.1, HR2.out.2.call HB.out.1, HB.out.2⟩
        clear HA HS HB HR2
        have HZ : Hid (∀ w', Below W1.heap.size W1 w' → Off (fun j => w.heap.size ≤ j ∧ j ≠ A1) W1 w') := fun w' hb => Off.of_below hb fun j hj => ⟨Nat.le_trans HB0.out.size (Nat.le_trans H1.out.1.size hj), by have := H1.out.2.2.lt; omega⟩
        have HT : Hid (∀ w', Off (fun j => w.heap.size ≤ j ∧ j ≠ A1) W1 w' → Bk wr.heap.size w' A1 (emV (ts k)) 33) := fun w' ho => H1.out.2.2.off ho fun c => c.2 rfl
        refine wp_region_H (fun w' => Off (fun j => w.heap.size ≤ j ∧ j ≠ A1) W1 w') 10 rfl (by kernel_rfl) ?_
        refine wpAnyH_take (i := 0) (oi := ?ox0) (v := ?vx0) ?hix0 (by kernel_rfl) (by kernel_rfl) (by kernel_rfl) ?hQx0 ?hyx0 (HZ.out _ (Below.drew (Below.refl _ _))) ?morex0
        case hix0 => rw [List.getElem?_toArray]; exact rfl
        case hQx0 => exact fun _ _ _ h => h
        case hyx0 =>
          refine Or.inl ⟨by rfl, ?_⟩
          intro w' hSw
          clear hSw
          go_simp
          try with_reducible rfl
        simp only [Act.put, List.setIfInBounds_toArray, List.set_cons_zero, List.set_cons_succ]
        refine wpAnyH_take (i := 1) (oi := ?ox1) (v := ?vx1) ?hix1 (by kernel_rfl) (by kernel_rfl) (by kernel_rfl) ?hQx1 ?hyx1 (HZ.out _ (Below.drew (Below.refl _ _))) ?morex1
        case hix1 => rw [List.getElem?_toArray]; exact rfl
        case hQx1 => exact fun _ _ _ h => h
        case hyx1 =>
          refine Or.inl ⟨by rfl, ?_⟩
          intro w' hSw
          clear hSw
          go_simp
          try with_reducible rfl
        simp only [Act.put, List.setIfInBounds_toArray, List.set_cons_zero, List.set_cons_succ]
        refine wpAnyH_take (i := 2) (oi := ?ox2) (v := .agg (prV (ts k)).toArray) ?hix2 (by kernel_rfl) (by kernel_rfl) (by kernel_rfl) ?hQx2 ?hyx2 (HZ.out _ (Below.drew (Below.refl _ _))) ?morex2
        case hix2 => rw [List.getElem?_toArray]; exact rfl
        case hQx2 => exact fun _ _ _ h => h
        case hyx2 =>
          refine Or.inl ⟨by rfl, ?_⟩
          intro w' hSw
          exact exec_loadK (b := A1) (k := 0) (x := 22) rfl rfl ((HT.out _ hSw).load 0 (prV (ts k)) (by rfl) Tryd.underlying31 rfl (by kernel_rfl))
        simp only [Act.put, List.setIfInBounds_toArray, List.set_cons_zero, List.set_cons_succ]
        refine wpAnyH_take (i := 4) (oi := ?ox4) (v := ?vx4) ?hix4 (by kernel_rfl) (by kernel_rfl) (by kernel_rfl) ?hQx4 ?hyx4 (HZ.out _ (Below.drew (Below.refl _ _))) ?morex4
        case hix4 => rw [List.getElem?_toArray]; exact rfl
        case hQx4 => exact fun _ _ _ h => h
        case hyx4 =>
          refine Or.inl ⟨by rfl, ?_⟩
          intro w' hSw
          clear hSw
          go_simp
          try with_reducible rfl
        simp only [Act.put, List.setIfInBounds_toArray, List.set_cons_zero, List.set_cons_succ]
        refine wpAnyH_take (i := 5) (oi := ?ox5) (v := .agg (nuV (ts k).c).toArray) ?hix5 (by kernel_rfl) (by kernel_rfl) (by kernel_rfl) ?hQx5 ?hyx5 (HZ.out _ (Below.drew (Below.refl _ _))) ?morex5
        case hix5 => rw [List.getElem?_toArray]; exact rfl
        case hQx5 => exact fun _ _ _ h => h
        case hyx5 =>
          refine Or.inl ⟨by rfl, ?_⟩
          intro w' hSw
          exact exec_loadK (b := A1) (k := 19) (x := 25) rfl rfl ((HT.out _ hSw).load 19 (nuV (ts k).c) (by rfl) Tryd.underlying27 rfl (by kernel_rfl))
        simp only [Act.put, List.setIfInBounds_toArray, List.set_cons_zero, List.set_cons_succ]
        refine wpAnyH_one (i := 3) (o := ?oy3) (by kernel_rfl) ?hiy3 ?hwy3 ?sty3
        case hiy3 => rw [List.getElem?_toArray]; exact rfl
        case hwy3 => exact rfl
        intro K hK
        have HK : Hid _ := hK
        clear hK
        go_simp
        refine (KP.out (ts k) _).mono ?_
        rintro e w3 ⟨rfl, hb3⟩
        have H3 : Hid (Below W1.heap.size W1 w3) := below_call0 (Below.drew (Below.refl _ _)) hb3
        clear hb3
        go_wp2_with fail
        refine HK.out _ _ ⟨HZ.out _ H3.out, ?_⟩
        clear HK K
        try simp only [Act.put, List.setIfInBounds_toArray, List.set_cons_zero, List.set_cons_succ]
        refine wpAnyH_take (i := 6) (oi := ?ox6) (v := .agg (emV (ts k)).toArray) ?hix6 (by kernel_rfl) (by kernel_rfl) (by kernel_rfl) ?hQx6 ?hyx6 (HZ.out _ H3.out) ?morex6
        case hix6 => rw [List.getElem?_toArray]; exact rfl
        case hQx6 => exact fun _ _ _ h => h
        case hyx6 =>
          refine Or.inl ⟨by rfl, ?_⟩
          intro w' hSw
          clear hSw
          exact exec_buildK (ty := 37) (parts := #[(0, .tmp 24), (1, .tmp 26)]) (ps := #[(0, .agg (prV (ts k)).toArray), (1, .agg (nuV (ts k).c).toArray)]) rfl (by simp only [List.map_toArray, List.map_cons, List.map_nil]; rfl) (by kernel_rfl)
        simp only [Act.put, List.setIfInBounds_toArray, List.set_cons_zero, List.set_cons_succ]
        refine wpAnyH_one (i := 7) (o := ?oy7) (by kernel_rfl) ?hiy7 ?hwy7 ?sty7
        case hiy7 => rw [List.getElem?_toArray]; exact rfl
        case hwy7 => exact rfl
        intro K hK
        have HK : Hid _ := hK
        clear hK
        refine wp_bs1 infoEm (by decide) (by decide) (x := 27) (cs := emV (ts k)) rfl rfl rfl ?_
        have hb4 : Below w3.heap.size w3 (w3.alloc (.cells (emV (ts k)).toArray 37)) := below_alloc0 (Below.refl _ _) _
        refine HK.out _ _ ⟨HZ.out _ (below_call0 H3.out hb4), ?_⟩
        clear HK K
        try simp only [Act.put, List.setIfInBounds_toArray, List.set_cons_zero, List.set_cons_succ]
        have hb5 : Below W1.heap.size W1 (w3.alloc (.cells (emV (ts k)).toArray 37)) := below_call0 H3.out hb4
        obtain ⟨a2, c2, w5, happ, hR5, hO5⟩ := run_append_RowX (ty := 24) (w3.alloc (.cells (emV (ts k)).toArray 37)) (fun j => w.heap.size ≤ j ∧ j ≠ A1) infoEm emV_len emV_one (by decide) a' c' k (rsE ts k) (ts k) (rsE_len ts k) ((H1.out.2.1.mono (fun j hj hz => ⟨hz.1, fun c => by have := H1.out.2.2.1; have := hz.2; omega⟩)).call hb5) (by have := HN.out; have := HL.out; omega) (by decide) (fun j hj => ⟨Nat.le_trans HB0.out.size (Nat.le_trans H1.out.1.size (Nat.le_trans hb5.size hj)), fun c => by have := H1.out.2.2.lt; have := hb5.size; omega⟩) ⟨w3.heap.size, 0, none⟩ 1 (fun j u hj => by rw [Addr.add_lit, Nat.zero_add, World.cell?_alloc_new, List.getElem?_toArray]; exact hj)
        have HO : Hid (Off (fun j => w.heap.size ≤ j ∧ j ≠ A1) W1 w5) := (HZ.out _ hb5).trans hO5
        have HP : Hid _ := happ
        have HX : Hid (Below w.heap.size w w5 ∧ RowX emV 23 w5 (From w.heap.size) a2 (rsE ts (k + 1)) c2) := ⟨off_belowK (below_call0 HB0.out H1.out.1) HO.out fun j hj c => by have := c.1; omega, by rw [rsE_succ]; exact hR5.mono fun j _ hz => hz.1⟩
        clear hb4 hb5 happ hR5 hO5 HB0 H3
        refine wpAnyH_one (i := 8) (o := ?oy8) (by kernel_rfl) ?hiy8 ?hwy8 ?sty8
        case hiy8 => rw [List.getElem?_toArray]; exact rfl
        case hwy8 => exact rfl
        intro K hK
        have HK : Hid _ := hK
        clear hK
        refine wp_append_run _ (.tmp 21) (.tmp 28) 24 24 rfl _ _ rfl rfl _ _ HP.out ?_
        refine HK.out _ _ ⟨HO.out, ?_⟩
        clear HK K
        try simp only [Act.put, List.setIfInBounds_toArray, List.set_cons_zero, List.set_cons_succ]
        refine wpAnyH_take (i := 9) (oi := ?ox9) (v := ?vx9) ?hix9 (by kernel_rfl) (by kernel_rfl) (by kernel_rfl) ?hQx9 ?hyx9 HO.out ?morex9
        case hix9 => rw [List.getElem?_toArray]; exact rfl
        case hQx9 => exact fun _ _ _ h => h
        case hyx9 =>
          refine Or.inl ⟨by rfl, ?_⟩
          intro w' hSw
          clear hSw
          go_simp
          try with_reducible rfl
        simp only [Act.put, List.setIfInBounds_toArray, List.set_cons_zero, List.set_cons_succ]
        refine wpAnyH_done (by kernel_rfl) ?_ _
        clear HZ HT HO HP
        go_wp2_with fail
        go_roundw
        case rel => first | exact ⟨k + 1, a2, c2, HL.out, rfl, by go_num, HX.out.1, HX.out.2⟩ | ((repeat apply Exists.intro); exact ⟨⟨k + 1, a2, c2, HL.out, rfl, by go_num, HX.out.1, HX.out.2⟩, rfl⟩)
        case measure => have := HL.out; simp [Go.RowKit.intOf]; omega
      · obtain rfl : k = n := by have := HC.out; omega
        have hnl : ¬ ((k : Int) < (k : Int)) := Int.lt_irrefl _
        clear hlt
        go_wp2_with fail
        refine HKr.out _ _ ?_
        clear HKr
        have HE : Hid (Below w.heap.size w wr ∧ EmsAt wr a k ts ∧ EmsAt wr a' k ts ∧ GlobQ wr) := ⟨HR.out.1, HS.out.1.call HR.out.1, EmsAt.of_row HR.out.2, HS.out.2.1.call HR.out.1⟩
        have K4 : Hid (∀ W, EmsAt W a k ts → Calls Tryd.prog 9 #[.slice a k cap] W fun e w' => e = .returned (.int .i64 (dsI (Ep ts) k : Nat)) ∧ Below W.heap.size W w') := fun W h => distinct_any a k cap ts HN.out HS.out.2.2 W h
        have K5 : Hid (∀ W, EmsAt W a' k ts → Calls Tryd.prog 10 #[.slice a' k c'] W fun e w' => e = .returned (.int .i64 (dsI (Ep ts) k : Nat)) ∧ Below W.heap.size W w') := fun W h => rdistinct_any a' k c' ts HN.out W h
        clear HR
        cases hx : twI (Ep ts) (Cp ts) k with
        | none =>
          have K1 : Hid (∀ W, EmsAt W a k ts → Calls Tryd.prog 7 #[.slice a k cap] W fun e w' => e = .returned (.tuple #[.int .i64 0, .int .i64 0, .bool false]) ∧ Below W.heap.size W w') := fun W h => by
            have q := twice_any a k cap ts HN.out HS.out.2.2 W h
            rw [hx] at q
            exact q
          have K2 : Hid (∀ W, EmsAt W a' k ts → Calls Tryd.prog 8 #[.slice a' k c'] W fun e w' => e = .returned (.tuple #[.int .i64 (-1), .int .i64 (-1)]) ∧ Below W.heap.size W w') := fun W h => by
            have q := rtwice_any a' k c' ts HN.out W h
            rw [hx] at q
            exact q
          clear hx
          go_wp2_with fail
          refine (K1.out _ HE.out.2.1).mono ?_
          rintro e w1 ⟨rfl, hb1⟩
          have H1 : Hid (Below w.heap.size w w1 ∧ EmsAt w1 a k ts ∧ EmsAt w1 a' k ts ∧ GlobQ w1) := ⟨below_call0 HE.out.1 hb1, HE.out.2.1.call hb1, HE.out.2.2.1.call hb1, HE.out.2.2.2.call hb1⟩
          clear hb1 HE
          go_upto_region 10 with fail
          go_wp2_with fail
          refine (K2.out _ H1.out.2.2.1).mono ?_
          rintro e w2 ⟨rfl, hb2⟩
          have H2 : Hid (Below w.heap.size w w2 ∧ EmsAt w2 a k ts ∧ EmsAt w2 a' k ts ∧ GlobQ w2) := ⟨below_call0 H1.out.1 hb2, H1.out.2.1.call hb2, H1.out.2.2.1.call hb2, H1.out.2.2.2.call hb2⟩
          clear hb2 H1
          go_upto_region 13 with fail
          go_wp2_with fail
          refine (K4.out _ H2.out.2.1).mono ?_
          rintro e w3 ⟨rfl, hb3⟩
          have H3 : Hid (Below w.heap.size w w3 ∧ EmsAt w3 a k ts ∧ EmsAt w3 a' k ts ∧ GlobQ w3) := ⟨below_call0 H2.out.1 hb3, H2.out.2.1.call hb3, H2.out.2.2.1.call hb3, H2.out.2.2.2.call hb3⟩
          clear hb3 H2
          go_wp2_with fail
          refine (K5.out _ H3.out.2.2.1).mono ?_
          rintro e w4 ⟨rfl, hb4⟩
          have H4 : Hid (Below w.heap.size w w4 ∧ EmsAt w4 a k ts ∧ EmsAt w4 a' k ts ∧ GlobQ w4) := ⟨below_call0 H3.out.1 hb4, H3.out.2.1.call hb4, H3.out.2.2.1.call hb4, H3.out.2.2.2.call hb4⟩
          clear hb4 H3
          go_wp2_with fail
          refine (K3.out _ H4.out.2.2.2).mono ?_
          rintro e w5 ⟨rfl, hb5⟩
          have H5 : Hid (Below w.heap.size w w5 ∧ EmsAt w5 a k ts ∧ EmsAt w5 a' k ts ∧ GlobQ w5) := ⟨below_call0 H4.out.1 hb5, H4.out.2.1.call hb5, H4.out.2.2.1.call hb5, H4.out.2.2.2.call hb5⟩
          clear hb5 H4
          go_wp2_with fail
          go_ret
          exact ⟨rfl, H5.out.1⟩
        | some x =>
          have K1 : Hid (∀ W, EmsAt W a k ts → Calls Tryd.prog 7 #[.slice a k cap] W fun e w' => e = .returned (.tuple #[.int .i64 (x.1 : Nat), .int .i64 (x.2 : Nat), .bool true]) ∧ Below W.heap.size W w') := fun W h => by
            have q := twice_any a k cap ts HN.out HS.out.2.2 W h
            rw [hx] at q
            exact q
          have K2 : Hid (∀ W, EmsAt W a' k ts → Calls Tryd.prog 8 #[.slice a' k c'] W fun e w' => e = .returned (.tuple #[.int .i64 (x.1 : Nat), .int .i64 (x.2 : Nat)]) ∧ Below W.heap.size W w') := fun W h => by
            have q := rtwice_any a' k c' ts HN.out W h
            rw [hx] at q
            exact q
          have hi0 : (0 : Int) ≤ (x.1 : Nat) := Int.natCast_nonneg _
          clear hx
          go_wp2_with fail
          refine (K1.out _ HE.out.2.1).mono ?_
          rintro e w1 ⟨rfl, hb1⟩
          have H1 : Hid (Below w.heap.size w w1 ∧ EmsAt w1 a k ts ∧ EmsAt w1 a' k ts ∧ GlobQ w1) := ⟨below_call0 HE.out.1 hb1, HE.out.2.1.call hb1, HE.out.2.2.1.call hb1, HE.out.2.2.2.call hb1⟩
          clear hb1 HE
          go_upto_region 10 with fail
          go_wp2_with fail
          refine (K2.out _ H1.out.2.2.1).mono ?_
          rintro e w2 ⟨rfl, hb2⟩
          have H2 : Hid (Below w.heap.size w w2 ∧ EmsAt w2 a k ts ∧ EmsAt w2 a' k ts ∧ GlobQ w2) := ⟨below_call0 H1.out.1 hb2, H1.out.2.1.call hb2, H1.out.2.2.1.call hb2, H1.out.2.2.2.call hb2⟩
          clear hb2 H1
          go_upto_region 13 with fail
          go_wp2_with fail
          refine (K4.out _ H2.out.2.1).mono ?_
          rintro e w3 ⟨rfl, hb3⟩
          have H3 : Hid (Below w.heap.size w w3 ∧ EmsAt w3 a k ts ∧ EmsAt w3 a' k ts ∧ GlobQ w3) := ⟨below_call0 H2.out.1 hb3, H2.out.2.1.call hb3, H2.out.2.2.1.call hb3, H2.out.2.2.2.call hb3⟩
          clear hb3 H2
          go_wp2_with fail
          refine (K5.out _ H3.out.2.2.1).mono ?_
          rintro e w4 ⟨rfl, hb4⟩
          have H4 : Hid (Below w.heap.size w w4 ∧ EmsAt w4 a k ts ∧ EmsAt w4 a' k ts ∧ GlobQ w4) := ⟨below_call0 H3.out.1 hb4, H3.out.2.1.call hb4, H3.out.2.2.1.call hb4, H3.out.2.2.2.call hb4⟩
          clear hb4 H3
          go_wp2_with fail
          refine (K3.out _ H4.out.2.2.2).mono ?_
          rintro e w5 ⟨rfl, hb5⟩
          have H5 : Hid (Below w.heap.size w w5 ∧ EmsAt w5 a k ts ∧ EmsAt w5 a' k ts ∧ GlobQ w5) := ⟨below_call0 H4.out.1 hb5, H4.out.2.1.call hb5, H4.out.2.2.1.call hb5, H4.out.2.2.2.call hb5⟩
          clear hb5 H4
          go_wp2_with fail
          go_ret
          exact ⟨rfl, H5.out.1⟩
  · have hng : (200 : Int) < (n : Int) := by omega
    have H0 : Hid (GlobQ w) := hG
    clear hn hG hS hW
    go_enter Tryd.func3, Tryd.ntmps3
    go_wp2_with fail
    refine (K3.out _ H0.out).mono ?_
    rintro e w1 ⟨rfl, hb1⟩
    have H1 : Hid (Below w.heap.size w w1) := hb1
    clear hb1
    go_wp2_with fail
    go_ret
    exact ⟨rfl, H1.out⟩
end Go.Proofs.YtbpgiijdcagckaaDoor
