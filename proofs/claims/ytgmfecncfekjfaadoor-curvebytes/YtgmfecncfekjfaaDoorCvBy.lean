/- Package curve: Encode, Decode. -/
import Derived.Test.YtgmfecncfekjfaaDoorCvZ
import Derived.Test.YtgmfecncfekjfaaDoorRgA
import Derived.Test.YtgmfecncfekjfaaDoorBitK
import Derived.Test.YtgmfecncfekjfaaDoorTxA
import Derived.Test.YtgmfecncfekjfaaDoorFieldE
import Derived.Deep.DeepCutAuto
namespace Go.Proofs.YtgmfecncfekjfaaDoor
open Go Go.RowKit Go.Lib

def plL (g : Nat) : List Value := [.pointer (some ⟨g, 0, none⟩)]
theorem OwnC.pl {w : World} {b g : Nat} (h : OwnC w b (plL g)) : b < w.heap.size ∧ w.cell? ⟨b, 0, none⟩ = some (.pointer (some ⟨g, 0, none⟩)) ∧ ∀ o, w.frozen? ⟨b, o, none⟩ = false := ⟨h.1, h.2.2 0 _ rfl, h.2.1⟩
theorem conv_list {w : World} {b cap : Nat} (l : List UInt8) (h : ∀ j (hj : j < l.length), w.cell? ⟨b, j, none⟩ = some (.int .u8 ((l[j]'hj).toNat : Int))) : (convert 86 9 (.slice (some ⟨b, 0, none⟩) l.length cap)).run Tryd.prog w = .ok (.string ⟨l.toArray⟩) w :=
  run_convert_bytes_back (P := Tryd.prog) w 86 9 5 ⟨b, 0, none⟩ cap l Tryd.underlying86 Tryd.underlying5 Tryd.underlying9 (fun j hj => by
    have e2 : (Addr.add ⟨b, 0, none⟩ j) = ⟨b, j, none⟩ := by
      simp only [Addr.add]
      split
      · rename_i h0
        have : j = 0 := by simpa using h0
        subst this; rfl
      · simp
    rw [e2]
    exact h j hj)
theorem conv_1 {w : World} {b : Nat} (c : UInt8) (h : w.cell? ⟨b, 0, none⟩ = some (.int .u8 (c.toNat : Int))) : (convert 86 9 (.slice (some ⟨b, 0, none⟩) 1 1)).run Tryd.prog w = .ok (.string ⟨#[c]⟩) w :=
  conv_list [c] (fun j hj => by
    obtain rfl : j = 0 := by simpa using hj
    exact h)
set_option maxRecDepth 100000 in
set_option maxHeartbeats 4000000 in
theorem decodeX_range (s : ByteArray) (odd : Bool) (hs : s.size = 32) (n : Nat) (hn0 : n = numB (sbyte s)) (hn : ¬ n < PP) (w : World) (hR : Glob w) :
    Calls Tryd.prog 53 #[.string s, .bool odd] w fun e w' => e = .returned (.tuple #[.agg #[.int .u64 0, .int .u64 0, .int .u64 0, .int .u64 0, .int .u64 0, .int .u64 0, .int .u64 0, .int .u64 0, .bool false], .int .i64 20]) ∧ Below w.heap.size w w' := by
  have nR : n < R256 := by rw [hn0]; exact numB_lt _ (sbyte_lt s)
  obtain ⟨w0, hw0⟩ : ∃ wq, wq = (w.alloc (.cells #[.int .u64 0, .int .u64 0, .int .u64 0, .int .u64 0, .int .u64 0, .int .u64 0, .int .u64 0, .int .u64 0, .bool false] 26)) := ⟨_, rfl⟩
  have H0 : Hid (OwnC w0 (w.heap.size) zpL) ∧ Hid (Below w.heap.size w w0) ∧ Hid (Glob w0) := by
    rw [hw0]
    exact ⟨(OwnC.new' rfl), below_alloc0 (Below.refl _ _) _, (hR).call (below_alloc0 (Below.refl _ _) _)⟩
  obtain ⟨P0_0, W_0, R_0⟩ := H0
  go_enter Tryd.func53, Tryd.ntmps53
  go_upto_region 1 with fail
  rw [← hw0]
  clear hw0
  have KN : Hid _ := fun (w : World) h => newPlane_P w h
  go_upto_region 1 with fail
  go_cut [6] (fun vq wx => ∃ bk6 g, vq = .pointer (some ⟨bk6, 0, none⟩) ∧ w0.heap.size ≤ bk6 ∧ OwnC wx bk6 (plL g) ∧ FieldB wx g PP ∧ Below w0.heap.size w0 wx)
  case first =>
    go_wp2_with fail
    refine (KN.out _ R_0.out.P).mono ?_
    rintro e wx0 ⟨gq, rfl, hFq, hq0⟩
    go_wp2_with fail
    go_meet
    exact ⟨_, gq, rfl, hq0.size, OwnC.new' rfl, hFq.alloc, below_alloc0 hq0 _⟩
  case rest =>
    obtain ⟨bk6, g, rfl, hle, hO, hF, hB⟩ := hcut
    have P0_1 : Hid (OwnC wc (w.heap.size) zpL) := OwnC.call P0_0.out hB
    have W_1 : Hid (Below w.heap.size w wc) := below_call0 W_0.out hB
    have R_1 : Hid (Glob wc) := R_0.out.call hB
    have V6_1 : Hid (OwnC wc bk6 (plL g)) := hO
    have F_1 : Hid (FieldB wc g PP) := hF
    clear hB P0_0 W_0 R_0
    clear hO hle hF KN
    generalize wc = w1 at P0_1 W_1 R_1 V6_1 F_1 ⊢
    have K1 : Hid (∀ w, FieldB w g PP → Calls Tryd.prog 77 #[.pointer (some ⟨g, 0, none⟩), .string s] w fun e w' => e = .returned (.tuple #[.agg #[.int .u64 0, .int .u64 0, .int .u64 0, .int .u64 0], .int .i64 20]) ∧ Below w.heap.size w w') := fun w h => decode_no g PP n s (fun w => by have k := from_any s hs w; rw [← hn0] at k; exact k) (fun w h' => check_no g PP n nR FM_P.2.1 hn w h') w h
    clear hs hn0 hn nR
    go_upto_region 2 with fail
    go_cut [7, 8] (fun vq7 vq8 wx => ∃ bk7, vq7 = .pointer (some ⟨bk7, 0, none⟩) ∧ vq8 = .int .i64 20 ∧ w1.heap.size ≤ bk7 ∧ OwnC wx bk7 z4L ∧ Below w1.heap.size w1 wx)
    case first =>
      obtain ⟨fV6z, fV60, fV6f⟩ := (V6_1.out).pl
      go_wp2_with fail
      clear fV6z fV60 fV6f
      refine (K1.out _ (F_1.out)).mono ?_
      rintro e wx0 ⟨rfl, hq0⟩
      go_wp2_with fail
      go_meet
      exact ⟨_, rfl, rfl, hq0.size, OwnC.new' rfl, below_alloc0 hq0 _⟩
    case rest =>
      obtain ⟨bk7, rfl, rfl, hle, hO, hB⟩ := hcut
      rename_i ul um un uo up uq ur us ut uu uv uw ux uy uz uA uB uC uD uE uF uG uH uI uJ uK uL uM uN uO uP uQ Kq1 hKq1
      clear ul um un uo up uq ur us ut uu uv uw ux uy uz uA uB uC uD uE uF uG uH uI uJ uK uL uM uN uO uP uQ
      have P0_2 : Hid (OwnC wc (w.heap.size) zpL) := OwnC.call P0_1.out hB
      have W_2 : Hid (Below w.heap.size w wc) := below_call0 W_1.out hB
      have R_2 : Hid (Glob wc) := R_1.out.call hB
      have V6_2 : Hid (OwnC wc bk6 (plL g)) := OwnC.call V6_1.out hB
      have F_2 : Hid (FieldB wc g PP) := F_1.out.call hB
      have V7_2 : Hid (OwnC wc bk7 z4L) := hO
      clear hB P0_1 W_1 R_1 V6_1 F_1
      clear hO hle
      generalize wc = w2 at P0_2 W_2 R_2 V6_2 F_2 V7_2 ⊢
      go_upto_region 4 with fail
      obtain ⟨fP0z, fP00, fP01, fP02, fP03, fP04, fP05, fP06, fP07, fP08, fP0f⟩ := (P0_2.out).zp
      go_wp2_with fail
      clear fP0z fP00 fP01 fP02 fP03 fP04 fP05 fP06 fP07 fP08 fP0f
      obtain ⟨wz, hwz⟩ : ∃ wq, wq = (((((((((w2.setCell ⟨w.heap.size, 0, none⟩ (.int .u64 0)).setCell ⟨w.heap.size, 1, none⟩ (.int .u64 0)).setCell ⟨w.heap.size, 2, none⟩ (.int .u64 0)).setCell ⟨w.heap.size, 3, none⟩ (.int .u64 0)).setCell ⟨w.heap.size, 4, none⟩ (.int .u64 0)).setCell ⟨w.heap.size, 5, none⟩ (.int .u64 0)).setCell ⟨w.heap.size, 6, none⟩ (.int .u64 0)).setCell ⟨w.heap.size, 7, none⟩ (.int .u64 0)).setCell ⟨w.heap.size, 8, none⟩ (.bool false)) := ⟨_, rfl⟩
      rw [← hwz]
      have hwy : wz = putL w.heap.size 0 zpL w2 := hwz
      have HZ : OwnC wz w.heap.size zpL ∧ Below w.heap.size w wz := by
        rw [hwy]
        exact ⟨OwnC.put zpL P0_2.out rfl, below_putL (Nat.le_refl _) zpL 0 _ W_2.out⟩
      clear hwz hwy
      obtain ⟨hO, HB⟩ := HZ
      obtain ⟨rz, r0, r1, r2, r3, r4, r5, r6, r7, r8, rf⟩ := hO.zp
      refine bodyPost_ret (v := .tuple #[.agg #[.int .u64 0, .int .u64 0, .int .u64 0, .int .u64 0, .int .u64 0, .int .u64 0, .int .u64 0, .int .u64 0, .bool false], .int .i64 20]) ?_ rfl ⟨rfl, HB⟩
      simp [results, Tryd.results53, go_sem, r0, r1, r2, r3, r4, r5, r6, r7, r8]
set_option maxRecDepth 100000 in
set_option maxHeartbeats 4000000 in
theorem decodeX_curve (s : ByteArray) (odd : Bool) (hs : s.size = 32) (n : Nat) (hn0 : n = numB (sbyte s)) (hn : n < PP) (q r : Nat) (hq : q = sqM n) (hr : r = q ^ rootE % PP) (hb : r * r % PP ≠ q) (w : World) (hR : Glob w) :
    Calls Tryd.prog 53 #[.string s, .bool odd] w fun e w' => e = .returned (.tuple #[.agg #[.int .u64 0, .int .u64 0, .int .u64 0, .int .u64 0, .int .u64 0, .int .u64 0, .int .u64 0, .int .u64 0, .bool false], .int .i64 30]) ∧ Below w.heap.size w w' := by
  obtain ⟨w0, hw0⟩ : ∃ wq, wq = (w.alloc (.cells #[.int .u64 0, .int .u64 0, .int .u64 0, .int .u64 0, .int .u64 0, .int .u64 0, .int .u64 0, .int .u64 0, .bool false] 26)) := ⟨_, rfl⟩
  have H0 : Hid (OwnC w0 (w.heap.size) zpL) ∧ Hid (Below w.heap.size w w0) ∧ Hid (Glob w0) := by
    rw [hw0]
    exact ⟨(OwnC.new' rfl), below_alloc0 (Below.refl _ _) _, (hR).call (below_alloc0 (Below.refl _ _) _)⟩
  obtain ⟨P0_0, W_0, R_0⟩ := H0
  go_enter Tryd.func53, Tryd.ntmps53
  go_upto_region 1 with fail
  rw [← hw0]
  clear hw0
  have KN : Hid _ := fun (w : World) h => newPlane_P w h
  go_upto_region 1 with fail
  go_cut [6] (fun vq wx => ∃ bk6 g, vq = .pointer (some ⟨bk6, 0, none⟩) ∧ w0.heap.size ≤ bk6 ∧ OwnC wx bk6 (plL g) ∧ FieldB wx g PP ∧ Below w0.heap.size w0 wx)
  case first =>
    go_wp2_with fail
    refine (KN.out _ R_0.out.P).mono ?_
    rintro e wx0 ⟨gq, rfl, hFq, hq0⟩
    go_wp2_with fail
    go_meet
    exact ⟨_, gq, rfl, hq0.size, OwnC.new' rfl, hFq.alloc, below_alloc0 hq0 _⟩
  case rest =>
    obtain ⟨bk6, g, rfl, hle, hO, hF, hB⟩ := hcut
    have P0_1 : Hid (OwnC wc (w.heap.size) zpL) := OwnC.call P0_0.out hB
    have W_1 : Hid (Below w.heap.size w wc) := below_call0 W_0.out hB
    have R_1 : Hid (Glob wc) := R_0.out.call hB
    have V6_1 : Hid (OwnC wc bk6 (plL g)) := hO
    have F_1 : Hid (FieldB wc g PP) := hF
    clear hB P0_0 W_0 R_0
    clear hO hle hF KN
    generalize wc = w1 at P0_1 W_1 R_1 V6_1 F_1 ⊢
    have K1 : Hid (∀ w, FieldB w g PP → Calls Tryd.prog 77 #[.pointer (some ⟨g, 0, none⟩), .string s] w fun e w' => e = .returned (.tuple #[.agg #[.int .u64 (limb (n) 0 : Nat), .int .u64 (limb (n) 1 : Nat), .int .u64 (limb (n) 2 : Nat), .int .u64 (limb (n) 3 : Nat)], .int .i64 0]) ∧ Below w.heap.size w w') := fun w h => decode_go g PP n s (fun w => by have k := from_any s hs w; rw [← hn0] at k; exact k) (fun w h' => check_in g PP n (lt_R hn) FM_P.2.1 hn w h') w h
    have K2 : Hid (∀ w, FieldB w g PP → Calls Tryd.prog 63 #[.agg #[.pointer (some ⟨g, 0, none⟩)], .agg #[.int .u64 (limb (n) 0 : Nat), .int .u64 (limb (n) 1 : Nat), .int .u64 (limb (n) 2 : Nat), .int .u64 (limb (n) 3 : Nat)]] w fun e w' => e = .returned (.agg #[.int .u64 (limb (q) 0 : Nat), .int .u64 (limb (q) 1 : Nat), .int .u64 (limb (q) 2 : Nat), .int .u64 (limb (q) 3 : Nat)]) ∧ Below w.heap.size w w') := fun w h => by have k := psquare_any g n hn w h; rw [← hq] at k; exact k
    have K3 : Hid (∀ w, Glob w → FieldB w g PP → Calls Tryd.prog 78 #[.pointer (some ⟨g, 0, none⟩), .agg #[.int .u64 (limb (q) 0 : Nat), .int .u64 (limb (q) 1 : Nat), .int .u64 (limb (q) 2 : Nat), .int .u64 (limb (q) 3 : Nat)]] w fun e w' => e = .returned (.tuple #[.agg #[.int .u64 0, .int .u64 0, .int .u64 0, .int .u64 0], .int .i64 22]) ∧ Below w.heap.size w w') := fun w h1 h2 => fsqrt_P g q r _ false (by rw [hq]; exact sqM_lt _) hr (decide_eq_false hb).symm rfl w h1 h2
    clear hs hn0 hn hq hr hb
    go_upto_region 2 with fail
    go_cut [7, 8] (fun vq7 vq8 wx => ∃ bk7, vq7 = .pointer (some ⟨bk7, 0, none⟩) ∧ vq8 = .int .i64 0 ∧ w1.heap.size ≤ bk7 ∧ OwnC wx bk7 (numL n) ∧ Below w1.heap.size w1 wx)
    case first =>
      obtain ⟨fV6z, fV60, fV6f⟩ := (V6_1.out).pl
      go_wp2_with fail
      clear fV6z fV60 fV6f
      refine (K1.out _ (F_1.out)).mono ?_
      rintro e wx0 ⟨rfl, hq0⟩
      go_wp2_with fail
      go_meet
      exact ⟨_, rfl, rfl, hq0.size, OwnC.new' rfl, below_alloc0 hq0 _⟩
    case rest =>
      obtain ⟨bk7, rfl, rfl, hle, hO, hB⟩ := hcut
      rename_i ul um un uo up uq ur us ut uu uv uw ux uy uz uA uB uC uD uE uF uG uH uI uJ uK uL uM uN uO uP uQ Kq1 hKq1
      clear ul um un uo up uq ur us ut uu uv uw ux uy uz uA uB uC uD uE uF uG uH uI uJ uK uL uM uN uO uP uQ
      have P0_2 : Hid (OwnC wc (w.heap.size) zpL) := OwnC.call P0_1.out hB
      have W_2 : Hid (Below w.heap.size w wc) := below_call0 W_1.out hB
      have R_2 : Hid (Glob wc) := R_1.out.call hB
      have V6_2 : Hid (OwnC wc bk6 (plL g)) := OwnC.call V6_1.out hB
      have F_2 : Hid (FieldB wc g PP) := F_1.out.call hB
      have V7_2 : Hid (OwnC wc bk7 (numL n)) := hO
      clear hB P0_1 W_1 R_1 V6_1 F_1
      clear hO hle
      generalize wc = w2 at P0_2 W_2 R_2 V6_2 F_2 V7_2 ⊢
      go_upto_region 5 with fail
      go_upto_region 5 with fail
      go_cut [9, 8] (fun vq9 vq8 wx => ∃ bk9, vq9 = .pointer (some ⟨bk9, 0, none⟩) ∧ vq8 = .int .i64 22 ∧ w2.heap.size ≤ bk9 ∧ OwnC wx bk9 z4L ∧ Below w2.heap.size w2 wx)
      case first =>
        refine wp_region_K 11 0 9 10 [?v0r5, ?v1r5, ?v2r5, ?v3r5, ?v4r5, ?v5r5, ?v6r5, ?v7r5, ?v8r5, undef, undef] [some 24, some 25, some 26, some 27, some 28, some 29, some 23, some 30, some 31, some 9, none] (fun s w b => OwnC w b (cond s z4L z4L)) ?Ar5 ?oar5 ?osr5 (by kernel_rfl) (by kernel_rfl) (by kernel_rfl) rfl ?hAr5 (fun _ _ _ _ h hb => OwnC.call h hb) ?hopr5 ?hoar5 ?hosr5 (by decide) (by decide) ?hswr5 ?halr5 ?hstr5 ?hfinr5
        case hAr5 =>
          intro bq
          simp only [List.set_cons_zero, List.set_cons_succ, List.zip_cons_cons, List.zip_nil_right, fillD, Act.put, List.setIfInBounds_toArray]
          exact rfl
        case hopr5 =>
          refine ⟨?_, ?_, ?_, ?_, ?_, ?_, ?_, ?_, ?_, fun h => absurd rfl h, fun _ h => absurd rfl h, trivial⟩
          focus (intro _ _ bq wx hS; refine OpTo.yields rfl ?_; clear hS; go_simp; try with_reducible rfl)
          iterate 2 focus (intro _ _ bq wx hS; refine OpTo.yields rfl ?_; obtain ⟨_, _, _⟩ := (OwnC.call V6_2.out hS).pl; clear hS; go_simp; try with_reducible rfl)
          focus (intro _ _ bq wx hS; refine OpTo.yields rfl ?_; obtain ⟨_, _, _, _, _, _⟩ := (OwnC.call V7_2.out hS).num; clear hS; go_simp; try with_reducible rfl)
          focus (intro _ _ bq wx hS; refine OpTo.calls rfl ?_ ?_; rotate_left; intro K hK; go_simp; refine (K2.out _ (F_2.out.call hS)).mono ?_; rintro e w' ⟨rfl, hq⟩; exact hK w' hq; exact rfl)
          focus (intro _ _ bq wx hS; refine OpTo.calls rfl ?_ ?_; rotate_left; intro K hK; go_simp; refine (K3.out _ (R_2.out.call hS) (F_2.out.call hS)).mono ?_; rintro e w' ⟨rfl, hq⟩; exact hK w' hq; exact rfl)
          iterate 3 focus (intro _ _ bq wx hS; refine OpTo.yields rfl ?_; clear hS; go_simp; try with_reducible rfl)
        case hoar5 =>
          rw [List.getElem?_toArray]
          exact rfl
        case halr5 =>
          intro bq wx hS
          refine OpTo.make (ob := ?obr5) (B := fun w b => OwnC w b z4L) hS rfl ?runr5 ?ownr5
          case runr5 =>
            go_simp
            try with_reducible rfl
          case ownr5 => exact OwnC.new' rfl
        case hosr5 =>
          rw [List.getElem?_toArray]
          exact rfl
        case hswr5 => kernel_rfl
        case hstr5 =>
          intro bq wx hS hB hle
          have hB' : OwnC wx bq z4L := hB
          refine OpTo.stores (w1 := putL bq 0 z4L wx) (R := fun w' => OwnC w' bq (cond true z4L z4L) ∧ Below w2.heap.size w2 w') rfl ?_ rfl ⟨OwnC.put z4L hB' rfl, below_putL hle z4L 0 _ hS⟩
          obtain ⟨gz, g0, g1, g2, g3, gf⟩ := OwnC.z4 hB'
          first | (left; go_simp; done) | (right; exact ⟨_, by go_simp; rfl⟩) | (left; go_simp; rfl)
        case hfinr5 =>
          intro bq wx hS hB hle
          refine tail_at (o := ?ofr5_11) ?hir5_11 ?hwr5_11 ?_
          case hir5_11 => rw [List.getElem?_toArray]; exact rfl
          case hwr5_11 => exact rfl
          go_simp
          refine tail_end ?_
          go_wp2_with fail
          go_meet
          exact ⟨bq, rfl, rfl, hle, hB, hS⟩
      case rest =>
        obtain ⟨bk9, rfl, rfl, hle, hO, hB⟩ := hcut
        rename_i ul um un uo up uq ur us ut uu uv uw ux uy uz uA uB uC uD uE uF uG uH uI uJ uK uL uM uN uO uP uQ Kq2 hKq2
        clear ul um un uo up uq ur us ut uu uv uw ux uy uz uA uB uC uD uE uF uG uH uI uJ uK uL uM uN uO uP uQ
        have P0_3 : Hid (OwnC wc (w.heap.size) zpL) := OwnC.call P0_2.out hB
        have W_3 : Hid (Below w.heap.size w wc) := below_call0 W_2.out hB
        have R_3 : Hid (Glob wc) := R_2.out.call hB
        have V6_3 : Hid (OwnC wc bk6 (plL g)) := OwnC.call V6_2.out hB
        have F_3 : Hid (FieldB wc g PP) := F_2.out.call hB
        have V7_3 : Hid (OwnC wc bk7 (numL n)) := OwnC.call V7_2.out hB
        have V9_3 : Hid (OwnC wc bk9 z4L) := hO
        clear hB P0_2 W_2 R_2 V6_2 F_2 V7_2
        clear hO hle
        generalize wc = w3 at P0_3 W_3 R_3 V6_3 F_3 V7_3 V9_3 ⊢
        go_upto_region 7 with fail
        obtain ⟨fP0z, fP00, fP01, fP02, fP03, fP04, fP05, fP06, fP07, fP08, fP0f⟩ := (P0_3.out).zp
        go_wp2_with fail
        clear fP0z fP00 fP01 fP02 fP03 fP04 fP05 fP06 fP07 fP08 fP0f
        obtain ⟨wz, hwz⟩ : ∃ wq, wq = (((((((((w3.setCell ⟨w.heap.size, 0, none⟩ (.int .u64 0)).setCell ⟨w.heap.size, 1, none⟩ (.int .u64 0)).setCell ⟨w.heap.size, 2, none⟩ (.int .u64 0)).setCell ⟨w.heap.size, 3, none⟩ (.int .u64 0)).setCell ⟨w.heap.size, 4, none⟩ (.int .u64 0)).setCell ⟨w.heap.size, 5, none⟩ (.int .u64 0)).setCell ⟨w.heap.size, 6, none⟩ (.int .u64 0)).setCell ⟨w.heap.size, 7, none⟩ (.int .u64 0)).setCell ⟨w.heap.size, 8, none⟩ (.bool false)) := ⟨_, rfl⟩
        rw [← hwz]
        have hwy : wz = putL w.heap.size 0 zpL w3 := hwz
        have HZ : OwnC wz w.heap.size zpL ∧ Below w.heap.size w wz := by
          rw [hwy]
          exact ⟨OwnC.put zpL P0_3.out rfl, below_putL (Nat.le_refl _) zpL 0 _ W_3.out⟩
        clear hwz hwy
        obtain ⟨hO, HB⟩ := HZ
        obtain ⟨rz, r0, r1, r2, r3, r4, r5, r6, r7, r8, rf⟩ := hO.zp
        refine bodyPost_ret (v := .tuple #[.agg #[.int .u64 0, .int .u64 0, .int .u64 0, .int .u64 0, .int .u64 0, .int .u64 0, .int .u64 0, .int .u64 0, .bool false], .int .i64 30]) ?_ rfl ⟨rfl, HB⟩
        simp [results, Tryd.results53, go_sem, r0, r1, r2, r3, r4, r5, r6, r7, r8]
set_option maxRecDepth 100000 in
set_option maxHeartbeats 4000000 in
theorem decodeX_even (s : ByteArray) (hs : s.size = 32) (n : Nat) (hn0 : n = numB (sbyte s)) (hn : n < PP) (q r : Nat) (hq : q = sqM n) (hr : r = q ^ rootE % PP) (hb : r * r % PP = q) (y : Nat) (hy0 : y = evenR PP r) (w : World) (hR : Glob w) :
    Calls Tryd.prog 53 #[.string s, .bool false] w fun e w' => e = .returned (.tuple #[.agg #[.int .u64 (limb (n) 0 : Nat), .int .u64 (limb (n) 1 : Nat), .int .u64 (limb (n) 2 : Nat), .int .u64 (limb (n) 3 : Nat), .int .u64 (limb (y) 0 : Nat), .int .u64 (limb (y) 1 : Nat), .int .u64 (limb (y) 2 : Nat), .int .u64 (limb (y) 3 : Nat), .bool false], .int .i64 0]) ∧ Below w.heap.size w w' := by
  obtain ⟨w0, hw0⟩ : ∃ wq, wq = (w.alloc (.cells #[.int .u64 0, .int .u64 0, .int .u64 0, .int .u64 0, .int .u64 0, .int .u64 0, .int .u64 0, .int .u64 0, .bool false] 26)) := ⟨_, rfl⟩
  have H0 : Hid (OwnC w0 (w.heap.size) zpL) ∧ Hid (Below w.heap.size w w0) ∧ Hid (Glob w0) := by
    rw [hw0]
    exact ⟨(OwnC.new' rfl), below_alloc0 (Below.refl _ _) _, (hR).call (below_alloc0 (Below.refl _ _) _)⟩
  obtain ⟨P0_0, W_0, R_0⟩ := H0
  go_enter Tryd.func53, Tryd.ntmps53
  go_upto_region 1 with fail
  rw [← hw0]
  clear hw0
  have KN : Hid _ := fun (w : World) h => newPlane_P w h
  go_upto_region 1 with fail
  go_cut [6] (fun vq wx => ∃ bk6 g, vq = .pointer (some ⟨bk6, 0, none⟩) ∧ w0.heap.size ≤ bk6 ∧ OwnC wx bk6 (plL g) ∧ FieldB wx g PP ∧ Below w0.heap.size w0 wx)
  case first =>
    go_wp2_with fail
    refine (KN.out _ R_0.out.P).mono ?_
    rintro e wx0 ⟨gq, rfl, hFq, hq0⟩
    go_wp2_with fail
    go_meet
    exact ⟨_, gq, rfl, hq0.size, OwnC.new' rfl, hFq.alloc, below_alloc0 hq0 _⟩
  case rest =>
    obtain ⟨bk6, g, rfl, hle, hO, hF, hB⟩ := hcut
    have P0_1 : Hid (OwnC wc (w.heap.size) zpL) := OwnC.call P0_0.out hB
    have W_1 : Hid (Below w.heap.size w wc) := below_call0 W_0.out hB
    have R_1 : Hid (Glob wc) := R_0.out.call hB
    have V6_1 : Hid (OwnC wc bk6 (plL g)) := hO
    have F_1 : Hid (FieldB wc g PP) := hF
    clear hB P0_0 W_0 R_0
    clear hO hle hF KN
    generalize wc = w1 at P0_1 W_1 R_1 V6_1 F_1 ⊢
    have K1 : Hid (∀ w, FieldB w g PP → Calls Tryd.prog 77 #[.pointer (some ⟨g, 0, none⟩), .string s] w fun e w' => e = .returned (.tuple #[.agg #[.int .u64 (limb (n) 0 : Nat), .int .u64 (limb (n) 1 : Nat), .int .u64 (limb (n) 2 : Nat), .int .u64 (limb (n) 3 : Nat)], .int .i64 0]) ∧ Below w.heap.size w w') := fun w h => decode_go g PP n s (fun w => by have k := from_any s hs w; rw [← hn0] at k; exact k) (fun w h' => check_in g PP n (lt_R hn) FM_P.2.1 hn w h') w h
    have K2 : Hid (∀ w, FieldB w g PP → Calls Tryd.prog 63 #[.agg #[.pointer (some ⟨g, 0, none⟩)], .agg #[.int .u64 (limb (n) 0 : Nat), .int .u64 (limb (n) 1 : Nat), .int .u64 (limb (n) 2 : Nat), .int .u64 (limb (n) 3 : Nat)]] w fun e w' => e = .returned (.agg #[.int .u64 (limb (q) 0 : Nat), .int .u64 (limb (q) 1 : Nat), .int .u64 (limb (q) 2 : Nat), .int .u64 (limb (q) 3 : Nat)]) ∧ Below w.heap.size w w') := fun w h => by have k := psquare_any g n hn w h; rw [← hq] at k; exact k
    have K3 : Hid (∀ w, Glob w → FieldB w g PP → Calls Tryd.prog 78 #[.pointer (some ⟨g, 0, none⟩), .agg #[.int .u64 (limb (q) 0 : Nat), .int .u64 (limb (q) 1 : Nat), .int .u64 (limb (q) 2 : Nat), .int .u64 (limb (q) 3 : Nat)]] w fun e w' => e = .returned (.tuple #[.agg #[.int .u64 (limb (y) 0 : Nat), .int .u64 (limb (y) 1 : Nat), .int .u64 (limb (y) 2 : Nat), .int .u64 (limb (y) 3 : Nat)], .int .i64 0]) ∧ Below w.heap.size w w') := fun w h1 h2 => by have k := fsqrt_P g q r _ true (by rw [hq]; exact sqM_lt _) hr (decide_eq_true hb).symm rfl w h1 h2; rw [← hy0] at k; exact k
    clear hs hn0 hn hq hr hb hy0
    go_upto_region 2 with fail
    go_cut [7, 8] (fun vq7 vq8 wx => ∃ bk7, vq7 = .pointer (some ⟨bk7, 0, none⟩) ∧ vq8 = .int .i64 0 ∧ w1.heap.size ≤ bk7 ∧ OwnC wx bk7 (numL n) ∧ Below w1.heap.size w1 wx)
    case first =>
      obtain ⟨fV6z, fV60, fV6f⟩ := (V6_1.out).pl
      go_wp2_with fail
      clear fV6z fV60 fV6f
      refine (K1.out _ (F_1.out)).mono ?_
      rintro e wx0 ⟨rfl, hq0⟩
      go_wp2_with fail
      go_meet
      exact ⟨_, rfl, rfl, hq0.size, OwnC.new' rfl, below_alloc0 hq0 _⟩
    case rest =>
      obtain ⟨bk7, rfl, rfl, hle, hO, hB⟩ := hcut
      rename_i ul um un uo up uq ur us ut uu uv uw ux uy uz uA uB uC uD uE uF uG uH uI uJ uK uL uM uN uO uP uQ Kq1 hKq1
      clear ul um un uo up uq ur us ut uu uv uw ux uy uz uA uB uC uD uE uF uG uH uI uJ uK uL uM uN uO uP uQ
      have P0_2 : Hid (OwnC wc (w.heap.size) zpL) := OwnC.call P0_1.out hB
      have W_2 : Hid (Below w.heap.size w wc) := below_call0 W_1.out hB
      have R_2 : Hid (Glob wc) := R_1.out.call hB
      have V6_2 : Hid (OwnC wc bk6 (plL g)) := OwnC.call V6_1.out hB
      have F_2 : Hid (FieldB wc g PP) := F_1.out.call hB
      have V7_2 : Hid (OwnC wc bk7 (numL n)) := hO
      clear hB P0_1 W_1 R_1 V6_1 F_1
      clear hO hle
      generalize wc = w2 at P0_2 W_2 R_2 V6_2 F_2 V7_2 ⊢
      go_upto_region 5 with fail
      go_upto_region 5 with fail
      go_cut [9, 8] (fun vq9 vq8 wx => ∃ bk9, vq9 = .pointer (some ⟨bk9, 0, none⟩) ∧ vq8 = .int .i64 0 ∧ w2.heap.size ≤ bk9 ∧ OwnC wx bk9 (numL y) ∧ Below w2.heap.size w2 wx)
      case first =>
        refine wp_region_K 11 0 9 10 [?v0r5, ?v1r5, ?v2r5, ?v3r5, ?v4r5, ?v5r5, ?v6r5, ?v7r5, ?v8r5, undef, undef] [some 24, some 25, some 26, some 27, some 28, some 29, some 23, some 30, some 31, some 9, none] (fun s w b => OwnC w b (cond s (numL y) z4L)) ?Ar5 ?oar5 ?osr5 (by kernel_rfl) (by kernel_rfl) (by kernel_rfl) rfl ?hAr5 (fun _ _ _ _ h hb => OwnC.call h hb) ?hopr5 ?hoar5 ?hosr5 (by decide) (by decide) ?hswr5 ?halr5 ?hstr5 ?hfinr5
        case hAr5 =>
          intro bq
          simp only [List.set_cons_zero, List.set_cons_succ, List.zip_cons_cons, List.zip_nil_right, fillD, Act.put, List.setIfInBounds_toArray]
          exact rfl
        case hopr5 =>
          refine ⟨?_, ?_, ?_, ?_, ?_, ?_, ?_, ?_, ?_, fun h => absurd rfl h, fun _ h => absurd rfl h, trivial⟩
          focus (intro _ _ bq wx hS; refine OpTo.yields rfl ?_; clear hS; go_simp; try with_reducible rfl)
          iterate 2 focus (intro _ _ bq wx hS; refine OpTo.yields rfl ?_; obtain ⟨_, _, _⟩ := (OwnC.call V6_2.out hS).pl; clear hS; go_simp; try with_reducible rfl)
          focus (intro _ _ bq wx hS; refine OpTo.yields rfl ?_; obtain ⟨_, _, _, _, _, _⟩ := (OwnC.call V7_2.out hS).num; clear hS; go_simp; try with_reducible rfl)
          focus (intro _ _ bq wx hS; refine OpTo.calls rfl ?_ ?_; rotate_left; intro K hK; go_simp; refine (K2.out _ (F_2.out.call hS)).mono ?_; rintro e w' ⟨rfl, hq⟩; exact hK w' hq; exact rfl)
          focus (intro _ _ bq wx hS; refine OpTo.calls rfl ?_ ?_; rotate_left; intro K hK; go_simp; refine (K3.out _ (R_2.out.call hS) (F_2.out.call hS)).mono ?_; rintro e w' ⟨rfl, hq⟩; exact hK w' hq; exact rfl)
          iterate 3 focus (intro _ _ bq wx hS; refine OpTo.yields rfl ?_; clear hS; go_simp; try with_reducible rfl)
        case hoar5 =>
          rw [List.getElem?_toArray]
          exact rfl
        case halr5 =>
          intro bq wx hS
          refine OpTo.make (ob := ?obr5) (B := fun w b => OwnC w b z4L) hS rfl ?runr5 ?ownr5
          case runr5 =>
            go_simp
            try with_reducible rfl
          case ownr5 => exact OwnC.new' rfl
        case hosr5 =>
          rw [List.getElem?_toArray]
          exact rfl
        case hswr5 => kernel_rfl
        case hstr5 =>
          intro bq wx hS hB hle
          have hB' : OwnC wx bq z4L := hB
          refine OpTo.stores (w1 := putL bq 0 (numL y) wx) (R := fun w' => OwnC w' bq (cond true (numL y) z4L) ∧ Below w2.heap.size w2 w') rfl ?_ rfl ⟨OwnC.put (numL y) hB' rfl, below_putL hle (numL y) 0 _ hS⟩
          obtain ⟨gz, g0, g1, g2, g3, gf⟩ := OwnC.z4 hB'
          first | (left; go_simp; done) | (right; exact ⟨_, by go_simp; rfl⟩) | (left; go_simp; rfl)
        case hfinr5 =>
          intro bq wx hS hB hle
          refine tail_at (o := ?ofr5_11) ?hir5_11 ?hwr5_11 ?_
          case hir5_11 => rw [List.getElem?_toArray]; exact rfl
          case hwr5_11 => exact rfl
          go_simp
          refine tail_end ?_
          go_wp2_with fail
          go_meet
          exact ⟨bq, rfl, rfl, hle, hB, hS⟩
      case rest =>
        obtain ⟨bk9, rfl, rfl, hle, hO, hB⟩ := hcut
        rename_i ul um un uo up uq ur us ut uu uv uw ux uy uz uA uB uC uD uE uF uG uH uI uJ uK uL uM uN uO uP uQ Kq2 hKq2
        clear ul um un uo up uq ur us ut uu uv uw ux uy uz uA uB uC uD uE uF uG uH uI uJ uK uL uM uN uO uP uQ
        have P0_3 : Hid (OwnC wc (w.heap.size) zpL) := OwnC.call P0_2.out hB
        have W_3 : Hid (Below w.heap.size w wc) := below_call0 W_2.out hB
        have R_3 : Hid (Glob wc) := R_2.out.call hB
        have V6_3 : Hid (OwnC wc bk6 (plL g)) := OwnC.call V6_2.out hB
        have F_3 : Hid (FieldB wc g PP) := F_2.out.call hB
        have V7_3 : Hid (OwnC wc bk7 (numL n)) := OwnC.call V7_2.out hB
        have V9_3 : Hid (OwnC wc bk9 (numL y)) := hO
        clear hB P0_2 W_2 R_2 V6_2 F_2 V7_2
        clear hO hle
        generalize wc = w3 at P0_3 W_3 R_3 V6_3 F_3 V7_3 V9_3 ⊢
        go_upto_region 8 with fail
        go_upto_region 8 with fail
        go_cut [10] (fun vq10 wx => ∃ bk10, vq10 = .pointer (some ⟨bk10, 0, none⟩) ∧ w3.heap.size ≤ bk10 ∧ OwnC wx bk10 (ptL n y false) ∧ Below w3.heap.size w3 wx)
        case first =>
          obtain ⟨fV7z, fV70, fV71, fV72, fV73, fV7f⟩ := (V7_3.out).num
          obtain ⟨fV9z, fV90, fV91, fV92, fV93, fV9f⟩ := (V9_3.out).num
          go_wp2_with fail
          go_meet
          exact ⟨_, rfl, Nat.le_refl _, OwnC.new' rfl, below_alloc0 (Below.refl _ _) _⟩
        case rest =>
          obtain ⟨bk10, rfl, hle, hO, hB⟩ := hcut
          rename_i ul um un uo up uq ur us ut uu uv uw ux uy uz uA uB uC uD uE uF uG uH uI uJ uK uL uM uN uO uP uQ Kq3 hKq3
          clear ul um un uo up uq ur us ut uu uv uw ux uy uz uA uB uC uD uE uF uG uH uI uJ uK uL uM uN uO uP uQ
          have P0_4 : Hid (OwnC wc (w.heap.size) zpL) := OwnC.call P0_3.out hB
          have W_4 : Hid (Below w.heap.size w wc) := below_call0 W_3.out hB
          have R_4 : Hid (Glob wc) := R_3.out.call hB
          have V6_4 : Hid (OwnC wc bk6 (plL g)) := OwnC.call V6_3.out hB
          have F_4 : Hid (FieldB wc g PP) := F_3.out.call hB
          have V7_4 : Hid (OwnC wc bk7 (numL n)) := OwnC.call V7_3.out hB
          have V9_4 : Hid (OwnC wc bk9 (numL y)) := OwnC.call V9_3.out hB
          have V10_4 : Hid (OwnC wc bk10 (ptL n y false)) := hO
          clear hB P0_3 W_3 R_3 V6_3 F_3 V7_3 V9_3
          clear hO hle
          generalize wc = w4 at P0_4 W_4 R_4 V6_4 F_4 V7_4 V9_4 V10_4 ⊢
          go_upto_region 11 with fail
          obtain ⟨fV10z, fV100, fV101, fV102, fV103, fV104, fV105, fV106, fV107, fV108, fV10f⟩ := (V10_4.out).pt
          obtain ⟨fP0z, fP00, fP01, fP02, fP03, fP04, fP05, fP06, fP07, fP08, fP0f⟩ := (P0_4.out).zp
          go_wp2_with fail
          clear fV10z fV100 fV101 fV102 fV103 fV104 fV105 fV106 fV107 fV108 fV10f fP0z fP00 fP01 fP02 fP03 fP04 fP05 fP06 fP07 fP08 fP0f
          obtain ⟨wz, hwz⟩ : ∃ wq, wq = (((((((((w4.setCell ⟨w.heap.size, 0, none⟩ (.int .u64 (limb (n) 0 : Nat))).setCell ⟨w.heap.size, 1, none⟩ (.int .u64 (limb (n) 1 : Nat))).setCell ⟨w.heap.size, 2, none⟩ (.int .u64 (limb (n) 2 : Nat))).setCell ⟨w.heap.size, 3, none⟩ (.int .u64 (limb (n) 3 : Nat))).setCell ⟨w.heap.size, 4, none⟩ (.int .u64 (limb (y) 0 : Nat))).setCell ⟨w.heap.size, 5, none⟩ (.int .u64 (limb (y) 1 : Nat))).setCell ⟨w.heap.size, 6, none⟩ (.int .u64 (limb (y) 2 : Nat))).setCell ⟨w.heap.size, 7, none⟩ (.int .u64 (limb (y) 3 : Nat))).setCell ⟨w.heap.size, 8, none⟩ (.bool false)) := ⟨_, rfl⟩
          rw [← hwz]
          have hwy : wz = putL w.heap.size 0 (ptL n y false) w4 := hwz
          have HZ : OwnC wz w.heap.size (ptL n y false) ∧ Below w.heap.size w wz := by
            rw [hwy]
            exact ⟨OwnC.put (ptL n y false) P0_4.out rfl, below_putL (Nat.le_refl _) (ptL n y false) 0 _ W_4.out⟩
          clear hwz hwy
          obtain ⟨hO, HB⟩ := HZ
          obtain ⟨rz, r0, r1, r2, r3, r4, r5, r6, r7, r8, rf⟩ := hO.pt
          refine bodyPost_ret (v := .tuple #[.agg #[.int .u64 (limb (n) 0 : Nat), .int .u64 (limb (n) 1 : Nat), .int .u64 (limb (n) 2 : Nat), .int .u64 (limb (n) 3 : Nat), .int .u64 (limb (y) 0 : Nat), .int .u64 (limb (y) 1 : Nat), .int .u64 (limb (y) 2 : Nat), .int .u64 (limb (y) 3 : Nat), .bool false], .int .i64 0]) ?_ rfl ⟨rfl, HB⟩
          simp [results, Tryd.results53, go_sem, r0, r1, r2, r3, r4, r5, r6, r7, r8]
set_option maxRecDepth 100000 in
set_option maxHeartbeats 4000000 in
theorem decodeX_odd (s : ByteArray) (hs : s.size = 32) (n : Nat) (hn0 : n = numB (sbyte s)) (hn : n < PP) (q r : Nat) (hq : q = sqM n) (hr : r = q ^ rootE % PP) (hb : r * r % PP = q) (y : Nat) (hy0 : y = evenR PP r) (hy : y < PP) (z : Nat) (hz : z = sM 0 y) (w : World) (hR : Glob w) :
    Calls Tryd.prog 53 #[.string s, .bool true] w fun e w' => e = .returned (.tuple #[.agg #[.int .u64 (limb (n) 0 : Nat), .int .u64 (limb (n) 1 : Nat), .int .u64 (limb (n) 2 : Nat), .int .u64 (limb (n) 3 : Nat), .int .u64 (limb (z) 0 : Nat), .int .u64 (limb (z) 1 : Nat), .int .u64 (limb (z) 2 : Nat), .int .u64 (limb (z) 3 : Nat), .bool false], .int .i64 0]) ∧ Below w.heap.size w w' := by
  obtain ⟨w0, hw0⟩ : ∃ wq, wq = (w.alloc (.cells #[.int .u64 0, .int .u64 0, .int .u64 0, .int .u64 0, .int .u64 0, .int .u64 0, .int .u64 0, .int .u64 0, .bool false] 26)) := ⟨_, rfl⟩
  have H0 : Hid (OwnC w0 (w.heap.size) zpL) ∧ Hid (Below w.heap.size w w0) ∧ Hid (Glob w0) := by
    rw [hw0]
    exact ⟨(OwnC.new' rfl), below_alloc0 (Below.refl _ _) _, (hR).call (below_alloc0 (Below.refl _ _) _)⟩
  obtain ⟨P0_0, W_0, R_0⟩ := H0
  go_enter Tryd.func53, Tryd.ntmps53
  go_upto_region 1 with fail
  rw [← hw0]
  clear hw0
  have KN : Hid _ := fun (w : World) h => newPlane_P w h
  go_upto_region 1 with fail
  go_cut [6] (fun vq wx => ∃ bk6 g, vq = .pointer (some ⟨bk6, 0, none⟩) ∧ w0.heap.size ≤ bk6 ∧ OwnC wx bk6 (plL g) ∧ FieldB wx g PP ∧ Below w0.heap.size w0 wx)
  case first =>
    go_wp2_with fail
    refine (KN.out _ R_0.out.P).mono ?_
    rintro e wx0 ⟨gq, rfl, hFq, hq0⟩
    go_wp2_with fail
    go_meet
    exact ⟨_, gq, rfl, hq0.size, OwnC.new' rfl, hFq.alloc, below_alloc0 hq0 _⟩
  case rest =>
    obtain ⟨bk6, g, rfl, hle, hO, hF, hB⟩ := hcut
    have P0_1 : Hid (OwnC wc (w.heap.size) zpL) := OwnC.call P0_0.out hB
    have W_1 : Hid (Below w.heap.size w wc) := below_call0 W_0.out hB
    have R_1 : Hid (Glob wc) := R_0.out.call hB
    have V6_1 : Hid (OwnC wc bk6 (plL g)) := hO
    have F_1 : Hid (FieldB wc g PP) := hF
    clear hB P0_0 W_0 R_0
    clear hO hle hF KN
    generalize wc = w1 at P0_1 W_1 R_1 V6_1 F_1 ⊢
    have K1 : Hid (∀ w, FieldB w g PP → Calls Tryd.prog 77 #[.pointer (some ⟨g, 0, none⟩), .string s] w fun e w' => e = .returned (.tuple #[.agg #[.int .u64 (limb (n) 0 : Nat), .int .u64 (limb (n) 1 : Nat), .int .u64 (limb (n) 2 : Nat), .int .u64 (limb (n) 3 : Nat)], .int .i64 0]) ∧ Below w.heap.size w w') := fun w h => decode_go g PP n s (fun w => by have k := from_any s hs w; rw [← hn0] at k; exact k) (fun w h' => check_in g PP n (lt_R hn) FM_P.2.1 hn w h') w h
    have K2 : Hid (∀ w, FieldB w g PP → Calls Tryd.prog 63 #[.agg #[.pointer (some ⟨g, 0, none⟩)], .agg #[.int .u64 (limb (n) 0 : Nat), .int .u64 (limb (n) 1 : Nat), .int .u64 (limb (n) 2 : Nat), .int .u64 (limb (n) 3 : Nat)]] w fun e w' => e = .returned (.agg #[.int .u64 (limb (q) 0 : Nat), .int .u64 (limb (q) 1 : Nat), .int .u64 (limb (q) 2 : Nat), .int .u64 (limb (q) 3 : Nat)]) ∧ Below w.heap.size w w') := fun w h => by have k := psquare_any g n hn w h; rw [← hq] at k; exact k
    have K3 : Hid (∀ w, Glob w → FieldB w g PP → Calls Tryd.prog 78 #[.pointer (some ⟨g, 0, none⟩), .agg #[.int .u64 (limb (q) 0 : Nat), .int .u64 (limb (q) 1 : Nat), .int .u64 (limb (q) 2 : Nat), .int .u64 (limb (q) 3 : Nat)]] w fun e w' => e = .returned (.tuple #[.agg #[.int .u64 (limb (y) 0 : Nat), .int .u64 (limb (y) 1 : Nat), .int .u64 (limb (y) 2 : Nat), .int .u64 (limb (y) 3 : Nat)], .int .i64 0]) ∧ Below w.heap.size w w') := fun w h1 h2 => by have k := fsqrt_P g q r _ true (by rw [hq]; exact sqM_lt _) hr (decide_eq_true hb).symm rfl w h1 h2; rw [← hy0] at k; exact k
    have K4 : Hid (∀ w, FieldB w g PP → Calls Tryd.prog 36 #[.agg #[.pointer (some ⟨g, 0, none⟩)], .agg #[.int .u64 (limb (n) 0 : Nat), .int .u64 (limb (n) 1 : Nat), .int .u64 (limb (n) 2 : Nat), .int .u64 (limb (n) 3 : Nat), .int .u64 (limb (y) 0 : Nat), .int .u64 (limb (y) 1 : Nat), .int .u64 (limb (y) 2 : Nat), .int .u64 (limb (y) 3 : Nat), .bool false]] w fun e w' => e = .returned (.agg #[.int .u64 (limb (n) 0 : Nat), .int .u64 (limb (n) 1 : Nat), .int .u64 (limb (n) 2 : Nat), .int .u64 (limb (n) 3 : Nat), .int .u64 (limb (z) 0 : Nat), .int .u64 (limb (z) 1 : Nat), .int .u64 (limb (z) 2 : Nat), .int .u64 (limb (z) 3 : Nat), .bool false]) ∧ Below w.heap.size w w') := fun w h => by have k := pneg_any g n y false hy w h; rw [← hz] at k; exact k
    clear hs hn0 hn hq hr hb hy0 hy hz
    go_upto_region 2 with fail
    go_cut [7, 8] (fun vq7 vq8 wx => ∃ bk7, vq7 = .pointer (some ⟨bk7, 0, none⟩) ∧ vq8 = .int .i64 0 ∧ w1.heap.size ≤ bk7 ∧ OwnC wx bk7 (numL n) ∧ Below w1.heap.size w1 wx)
    case first =>
      obtain ⟨fV6z, fV60, fV6f⟩ := (V6_1.out).pl
      go_wp2_with fail
      clear fV6z fV60 fV6f
      refine (K1.out _ (F_1.out)).mono ?_
      rintro e wx0 ⟨rfl, hq0⟩
      go_wp2_with fail
      go_meet
      exact ⟨_, rfl, rfl, hq0.size, OwnC.new' rfl, below_alloc0 hq0 _⟩
    case rest =>
      obtain ⟨bk7, rfl, rfl, hle, hO, hB⟩ := hcut
      rename_i ul um un uo up uq ur us ut uu uv uw ux uy uz uA uB uC uD uE uF uG uH uI uJ uK uL uM uN uO uP uQ Kq1 hKq1
      clear ul um un uo up uq ur us ut uu uv uw ux uy uz uA uB uC uD uE uF uG uH uI uJ uK uL uM uN uO uP uQ
      have P0_2 : Hid (OwnC wc (w.heap.size) zpL) := OwnC.call P0_1.out hB
      have W_2 : Hid (Below w.heap.size w wc) := below_call0 W_1.out hB
      have R_2 : Hid (Glob wc) := R_1.out.call hB
      have V6_2 : Hid (OwnC wc bk6 (plL g)) := OwnC.call V6_1.out hB
      have F_2 : Hid (FieldB wc g PP) := F_1.out.call hB
      have V7_2 : Hid (OwnC wc bk7 (numL n)) := hO
      clear hB P0_1 W_1 R_1 V6_1 F_1
      clear hO hle
      generalize wc = w2 at P0_2 W_2 R_2 V6_2 F_2 V7_2 ⊢
      go_upto_region 5 with fail
      go_upto_region 5 with fail
      go_cut [9, 8] (fun vq9 vq8 wx => ∃ bk9, vq9 = .pointer (some ⟨bk9, 0, none⟩) ∧ vq8 = .int .i64 0 ∧ w2.heap.size ≤ bk9 ∧ OwnC wx bk9 (numL y) ∧ Below w2.heap.size w2 wx)
      case first =>
        refine wp_region_K 11 0 9 10 [?v0r5, ?v1r5, ?v2r5, ?v3r5, ?v4r5, ?v5r5, ?v6r5, ?v7r5, ?v8r5, undef, undef] [some 24, some 25, some 26, some 27, some 28, some 29, some 23, some 30, some 31, some 9, none] (fun s w b => OwnC w b (cond s (numL y) z4L)) ?Ar5 ?oar5 ?osr5 (by kernel_rfl) (by kernel_rfl) (by kernel_rfl) rfl ?hAr5 (fun _ _ _ _ h hb => OwnC.call h hb) ?hopr5 ?hoar5 ?hosr5 (by decide) (by decide) ?hswr5 ?halr5 ?hstr5 ?hfinr5
        case hAr5 =>
          intro bq
          simp only [List.set_cons_zero, List.set_cons_succ, List.zip_cons_cons, List.zip_nil_right, fillD, Act.put, List.setIfInBounds_toArray]
          exact rfl
        case hopr5 =>
          refine ⟨?_, ?_, ?_, ?_, ?_, ?_, ?_, ?_, ?_, fun h => absurd rfl h, fun _ h => absurd rfl h, trivial⟩
          focus (intro _ _ bq wx hS; refine OpTo.yields rfl ?_; clear hS; go_simp; try with_reducible rfl)
          iterate 2 focus (intro _ _ bq wx hS; refine OpTo.yields rfl ?_; obtain ⟨_, _, _⟩ := (OwnC.call V6_2.out hS).pl; clear hS; go_simp; try with_reducible rfl)
          focus (intro _ _ bq wx hS; refine OpTo.yields rfl ?_; obtain ⟨_, _, _, _, _, _⟩ := (OwnC.call V7_2.out hS).num; clear hS; go_simp; try with_reducible rfl)
          focus (intro _ _ bq wx hS; refine OpTo.calls rfl ?_ ?_; rotate_left; intro K hK; go_simp; refine (K2.out _ (F_2.out.call hS)).mono ?_; rintro e w' ⟨rfl, hq⟩; exact hK w' hq; exact rfl)
          focus (intro _ _ bq wx hS; refine OpTo.calls rfl ?_ ?_; rotate_left; intro K hK; go_simp; refine (K3.out _ (R_2.out.call hS) (F_2.out.call hS)).mono ?_; rintro e w' ⟨rfl, hq⟩; exact hK w' hq; exact rfl)
          iterate 3 focus (intro _ _ bq wx hS; refine OpTo.yields rfl ?_; clear hS; go_simp; try with_reducible rfl)
        case hoar5 =>
          rw [List.getElem?_toArray]
          exact rfl
        case halr5 =>
          intro bq wx hS
          refine OpTo.make (ob := ?obr5) (B := fun w b => OwnC w b z4L) hS rfl ?runr5 ?ownr5
          case runr5 =>
            go_simp
            try with_reducible rfl
          case ownr5 => exact OwnC.new' rfl
        case hosr5 =>
          rw [List.getElem?_toArray]
          exact rfl
        case hswr5 => kernel_rfl
        case hstr5 =>
          intro bq wx hS hB hle
          have hB' : OwnC wx bq z4L := hB
          refine OpTo.stores (w1 := putL bq 0 (numL y) wx) (R := fun w' => OwnC w' bq (cond true (numL y) z4L) ∧ Below w2.heap.size w2 w') rfl ?_ rfl ⟨OwnC.put (numL y) hB' rfl, below_putL hle (numL y) 0 _ hS⟩
          obtain ⟨gz, g0, g1, g2, g3, gf⟩ := OwnC.z4 hB'
          first | (left; go_simp; done) | (right; exact ⟨_, by go_simp; rfl⟩) | (left; go_simp; rfl)
        case hfinr5 =>
          intro bq wx hS hB hle
          refine tail_at (o := ?ofr5_11) ?hir5_11 ?hwr5_11 ?_
          case hir5_11 => rw [List.getElem?_toArray]; exact rfl
          case hwr5_11 => exact rfl
          go_simp
          refine tail_end ?_
          go_wp2_with fail
          go_meet
          exact ⟨bq, rfl, rfl, hle, hB, hS⟩
      case rest =>
        obtain ⟨bk9, rfl, rfl, hle, hO, hB⟩ := hcut
        rename_i ul um un uo up uq ur us ut uu uv uw ux uy uz uA uB uC uD uE uF uG uH uI uJ uK uL uM uN uO uP uQ Kq2 hKq2
        clear ul um un uo up uq ur us ut uu uv uw ux uy uz uA uB uC uD uE uF uG uH uI uJ uK uL uM uN uO uP uQ
        have P0_3 : Hid (OwnC wc (w.heap.size) zpL) := OwnC.call P0_2.out hB
        have W_3 : Hid (Below w.heap.size w wc) := below_call0 W_2.out hB
        have R_3 : Hid (Glob wc) := R_2.out.call hB
        have V6_3 : Hid (OwnC wc bk6 (plL g)) := OwnC.call V6_2.out hB
        have F_3 : Hid (FieldB wc g PP) := F_2.out.call hB
        have V7_3 : Hid (OwnC wc bk7 (numL n)) := OwnC.call V7_2.out hB
        have V9_3 : Hid (OwnC wc bk9 (numL y)) := hO
        clear hB P0_2 W_2 R_2 V6_2 F_2 V7_2
        clear hO hle
        generalize wc = w3 at P0_3 W_3 R_3 V6_3 F_3 V7_3 V9_3 ⊢
        go_upto_region 8 with fail
        go_upto_region 8 with fail
        go_cut [10] (fun vq10 wx => ∃ bk10, vq10 = .pointer (some ⟨bk10, 0, none⟩) ∧ w3.heap.size ≤ bk10 ∧ OwnC wx bk10 (ptL n y false) ∧ Below w3.heap.size w3 wx)
        case first =>
          obtain ⟨fV7z, fV70, fV71, fV72, fV73, fV7f⟩ := (V7_3.out).num
          obtain ⟨fV9z, fV90, fV91, fV92, fV93, fV9f⟩ := (V9_3.out).num
          go_wp2_with fail
          go_meet
          exact ⟨_, rfl, Nat.le_refl _, OwnC.new' rfl, below_alloc0 (Below.refl _ _) _⟩
        case rest =>
          obtain ⟨bk10, rfl, hle, hO, hB⟩ := hcut
          rename_i ul um un uo up uq ur us ut uu uv uw ux uy uz uA uB uC uD uE uF uG uH uI uJ uK uL uM uN uO uP uQ Kq3 hKq3
          clear ul um un uo up uq ur us ut uu uv uw ux uy uz uA uB uC uD uE uF uG uH uI uJ uK uL uM uN uO uP uQ
          have P0_4 : Hid (OwnC wc (w.heap.size) zpL) := OwnC.call P0_3.out hB
          have W_4 : Hid (Below w.heap.size w wc) := below_call0 W_3.out hB
          have R_4 : Hid (Glob wc) := R_3.out.call hB
          have V6_4 : Hid (OwnC wc bk6 (plL g)) := OwnC.call V6_3.out hB
          have F_4 : Hid (FieldB wc g PP) := F_3.out.call hB
          have V7_4 : Hid (OwnC wc bk7 (numL n)) := OwnC.call V7_3.out hB
          have V9_4 : Hid (OwnC wc bk9 (numL y)) := OwnC.call V9_3.out hB
          have V10_4 : Hid (OwnC wc bk10 (ptL n y false)) := hO
          clear hB P0_3 W_3 R_3 V6_3 F_3 V7_3 V9_3
          clear hO hle
          generalize wc = w4 at P0_4 W_4 R_4 V6_4 F_4 V7_4 V9_4 V10_4 ⊢
          go_upto_region 10 with fail
          obtain ⟨fV10z, fV100, fV101, fV102, fV103, fV104, fV105, fV106, fV107, fV108, fV10f⟩ := (V10_4.out).pt
          obtain ⟨fV6z, fV60, fV6f⟩ := (V6_4.out).pl
          obtain ⟨fP0z, fP00, fP01, fP02, fP03, fP04, fP05, fP06, fP07, fP08, fP0f⟩ := (P0_4.out).zp
          go_wp2_with fail
          clear fV10z fV100 fV101 fV102 fV103 fV104 fV105 fV106 fV107 fV108 fV10f fV6z fV60 fV6f fP0z fP00 fP01 fP02 fP03 fP04 fP05 fP06 fP07 fP08 fP0f
          refine (K4.out _ (F_4.out)).mono ?_
          rintro e w5 ⟨rfl, hq⟩
          have P0_5 : Hid (OwnC w5 (w.heap.size) zpL) := OwnC.call P0_4.out hq
          have W_5 : Hid (Below w.heap.size w w5) := below_call0 W_4.out hq
          have R_5 : Hid (Glob w5) := R_4.out.call hq
          have V6_5 : Hid (OwnC w5 bk6 (plL g)) := OwnC.call V6_4.out hq
          have F_5 : Hid (FieldB w5 g PP) := F_4.out.call hq
          have V7_5 : Hid (OwnC w5 bk7 (numL n)) := OwnC.call V7_4.out hq
          have V9_5 : Hid (OwnC w5 bk9 (numL y)) := OwnC.call V9_4.out hq
          have V10_5 : Hid (OwnC w5 bk10 (ptL n y false)) := OwnC.call V10_4.out hq
          clear hq P0_4 W_4 R_4 V6_4 F_4 V7_4 V9_4 V10_4
          obtain ⟨fP0z, fP00, fP01, fP02, fP03, fP04, fP05, fP06, fP07, fP08, fP0f⟩ := (P0_5.out).zp
          go_wp2_with fail
          clear fP0z fP00 fP01 fP02 fP03 fP04 fP05 fP06 fP07 fP08 fP0f
          obtain ⟨wz, hwz⟩ : ∃ wq, wq = (((((((((w5.setCell ⟨w.heap.size, 0, none⟩ (.int .u64 (limb (n) 0 : Nat))).setCell ⟨w.heap.size, 1, none⟩ (.int .u64 (limb (n) 1 : Nat))).setCell ⟨w.heap.size, 2, none⟩ (.int .u64 (limb (n) 2 : Nat))).setCell ⟨w.heap.size, 3, none⟩ (.int .u64 (limb (n) 3 : Nat))).setCell ⟨w.heap.size, 4, none⟩ (.int .u64 (limb (z) 0 : Nat))).setCell ⟨w.heap.size, 5, none⟩ (.int .u64 (limb (z) 1 : Nat))).setCell ⟨w.heap.size, 6, none⟩ (.int .u64 (limb (z) 2 : Nat))).setCell ⟨w.heap.size, 7, none⟩ (.int .u64 (limb (z) 3 : Nat))).setCell ⟨w.heap.size, 8, none⟩ (.bool false)) := ⟨_, rfl⟩
          rw [← hwz]
          have hwy : wz = putL w.heap.size 0 (ptL n z false) w5 := hwz
          have HZ : OwnC wz w.heap.size (ptL n z false) ∧ Below w.heap.size w wz := by
            rw [hwy]
            exact ⟨OwnC.put (ptL n z false) P0_5.out rfl, below_putL (Nat.le_refl _) (ptL n z false) 0 _ W_5.out⟩
          clear hwz hwy
          obtain ⟨hO, HB⟩ := HZ
          obtain ⟨rz, r0, r1, r2, r3, r4, r5, r6, r7, r8, rf⟩ := hO.pt
          refine bodyPost_ret (v := .tuple #[.agg #[.int .u64 (limb (n) 0 : Nat), .int .u64 (limb (n) 1 : Nat), .int .u64 (limb (n) 2 : Nat), .int .u64 (limb (n) 3 : Nat), .int .u64 (limb (z) 0 : Nat), .int .u64 (limb (z) 1 : Nat), .int .u64 (limb (z) 2 : Nat), .int .u64 (limb (z) 3 : Nat), .bool false], .int .i64 0]) ?_ rfl ⟨rfl, HB⟩
          simp [results, Tryd.results53, go_sem, r0, r1, r2, r3, r4, r5, r6, r7, r8]
end Go.Proofs.YtgmfecncfekjfaaDoor
