/- Package curve: Sum, Mul. -/
import Derived.Test.YtchphekaonnfeaaDoorCvCl
namespace Go.Proofs.YtchphekaonnfeaaDoor
open Go Go.RowKit Go.Lib

/-- What Sum has in its memory. -/
def SuA (w wx : World) (b g h : Nat) : Prop := OwnC wx w.heap.size zpL ∧ OwnC wx b [.pointer (some ⟨g, 0, none⟩)] ∧ FieldB wx g PP ∧ FieldB wx h QQ ∧ Below w.heap.size w wx
theorem SuA.call {w W w1 : World} {b g h : Nat} (H : SuA w W b g h) (hb : Below W.heap.size W w1) : SuA w w1 b g h :=
  ⟨H.1.call hb, H.2.1.call hb, H.2.2.1.call hb, H.2.2.2.1.call hb, below_call0 H.2.2.2.2 hb⟩
theorem SuA.start {w w1 w2 : World} {g h : Nat} (h1 : Below (w.alloc (.cells #[.int .u64 0, .int .u64 0, .int .u64 0, .int .u64 0, .int .u64 0, .int .u64 0, .int .u64 0, .int .u64 0, .bool false] 28)).heap.size (w.alloc (.cells #[.int .u64 0, .int .u64 0, .int .u64 0, .int .u64 0, .int .u64 0, .int .u64 0, .int .u64 0, .int .u64 0, .bool false] 28)) w1) (h2 : Below w1.heap.size w1 w2) (hg : FieldB w1 g PP) (hh : FieldB w2 h QQ) : SuA w (w2.alloc (.cells #[.pointer (some ⟨g, 0, none⟩)] 91)) w2.heap.size g h :=
  ⟨((((OwnC.new' (vs := zpL) rfl).call h1).call h2)).alloc, OwnC.new' (vs := [.pointer (some ⟨g, 0, none⟩)]) rfl, (hg.call h2).alloc, hh.alloc, below_alloc0 (below_call0 (below_call0 (below_alloc0 (Below.refl _ _) _) h1) h2) _⟩
set_option maxRecDepth 100000 in
set_option maxHeartbeats 8000000 in
theorem Sum_ok (n : Nat) (ka pa : Option Addr) (kc pc : Nat) (l : List (Nat × Pts)) (hn : n = l.length) (h64 : n ≤ 64) (hR : ∀ z ∈ l, z.1 < QQ) (w : World) (hG : GlobP w) (hQ : GlobQ w) (hT : GTH w) (hK : NumsAt w ka (l.map Prod.fst)) (hP : PtsAt w pa (l.map Prod.snd)) :
    Calls Tryd.prog 35 #[.slice ka n kc, .slice pa n pc] w fun e w' => e = .returned (.tuple #[.agg #[.int .u64 (limb (pX (gr.tot gr.mul l)) 0 : Nat), .int .u64 (limb (pX (gr.tot gr.mul l)) 1 : Nat), .int .u64 (limb (pX (gr.tot gr.mul l)) 2 : Nat), .int .u64 (limb (pX (gr.tot gr.mul l)) 3 : Nat), .int .u64 (limb (pY (gr.tot gr.mul l)) 0 : Nat), .int .u64 (limb (pY (gr.tot gr.mul l)) 1 : Nat), .int .u64 (limb (pY (gr.tot gr.mul l)) 2 : Nat), .int .u64 (limb (pY (gr.tot gr.mul l)) 3 : Nat), .bool (pI (gr.tot gr.mul l))], .int .i64 0]) ∧ Below w.heap.size w w' := by
  obtain ⟨R, hR0⟩ : ∃ R, R = gr.tot gr.mul l := ⟨_, rfl⟩
  rw [← hR0]
  have hd1 : decide ((64 : Int) < (n : Int)) = false := decide_eq_false (by omega)
  have n64 : (n : Int) ≤ 64 := by omega
  have n65 : ¬ ((64 : Int) < (n : Int)) := by omega
  have KN : Hid _ := fun (w : World) h => newPlane_P w h
  have KQ : Hid _ := fun (w : World) h => scalars_any w h
  have HG : Hid (GlobP (w.alloc (.cells #[.int .u64 0, .int .u64 0, .int .u64 0, .int .u64 0, .int .u64 0, .int .u64 0, .int .u64 0, .int .u64 0, .bool false] 28)) ∧ GlobQ (w.alloc (.cells #[.int .u64 0, .int .u64 0, .int .u64 0, .int .u64 0, .int .u64 0, .int .u64 0, .int .u64 0, .int .u64 0, .bool false] 28))) := ⟨hG.alloc, hQ.alloc⟩
  have H0 : Hid (NumsAt w ka (l.map Prod.fst) ∧ PtsAt w pa (l.map Prod.snd) ∧ n = l.length ∧ (∀ z ∈ l, z.1 < QQ) ∧ GTH w) := ⟨hK, hP, hn, hR, hT⟩
  have KC : Hid (∀ (g : Nat) (w : World), FieldB w g PP → GTH w → NumsAt w ka (l.map Prod.fst) → PtsAt w pa (l.map Prod.snd) → Calls Tryd.prog 49 #[.agg #[.pointer (some ⟨g, 0, none⟩)], .func (.func 50) #[] #[], .func (.func 51) #[] #[], .slice ka n kc, .slice pa n pc] w fun e w' => e = .returned (.agg #[.int .u64 (limb (pX (R)) 0 : Nat), .int .u64 (limb (pX (R)) 1 : Nat), .int .u64 (limb (pX (R)) 2 : Nat), .int .u64 (limb (pX (R)) 3 : Nat), .int .u64 (limb (pY (R)) 0 : Nat), .int .u64 (limb (pY (R)) 1 : Nat), .int .u64 (limb (pY (R)) 2 : Nat), .int .u64 (limb (pY (R)) 3 : Nat), .bool (pI (R))]) ∧ Below w.heap.size w w') := fun g w h1 h2 h3 h4 => by
    rw [hR0]
    exact climb_A g n ka pa kc pc l hn h64 (fun x hx => Nat.lt_trans (hR x hx) FM_Q.2.1) w h1 h2 h3 h4
  clear hn h64 hR hG hQ hK hP hT hR0
  go_enter Tryd.func35, Tryd.ntmps35
  go_wp2_with fail
  refine (KN.out _ HG.out.1).mono ?_
  rintro e w1 ⟨g, rfl, hg1, hb1⟩
  have HG1 : Hid _ := HG.out.2.call hb1
  have H1 : Hid _ := hg1
  have B1 : Hid _ := hb1
  clear hg1 hb1 KN HG
  go_wp2_with fail
  refine (KQ.out _ HG1.out).mono ?_
  rintro e w2 ⟨h, rfl, hg2, hb2⟩
  have HC0 : Hid (SuA w (w2.alloc (.cells #[.pointer (some ⟨g, 0, none⟩)] 91)) w2.heap.size g h) := SuA.start B1.out hb2 H1.out hg2
  clear hg2 hb2 H1 B1 HG1 KQ
  go_wp2_with fail
  rename_i Kr hKr
  have HKr : Hid _ := hKr
  clear hKr
  go_loopw [26] (fun iv wr => ∃ k : Nat, k ≤ n ∧ iv = .int .i64 (k : Nat) ∧ SuA w wr w2.heap.size g h) (fun iv _ => n - (Go.RowKit.intOf iv).toNat)
  case atStart => exact ⟨0, Nat.zero_le _, rfl, HC0.out⟩
  case round =>
    clear HC0
    obtain ⟨k, hk, rfl, hC⟩ := hrel
    rename World => w4
    have HC4 : Hid (SuA w w4 w2.heap.size g h) := hC
    by_cases hlt : k < n
    · have hkl : k < l.length := by rw [← H0.out.2.2.1]; exact hlt
      have hlt' : (k : Int) < (n : Int) := Int.ofNat_lt.2 hlt
      obtain ⟨kb, ko, hka, hNB⟩ := H0.out.1.elt hkl
      obtain ⟨pb, po, hpa, hPB⟩ := H0.out.2.1.elt hkl
      subst hka hpa
      have hR := H0.out.2.2.2.1 _ (el_mem hkl)
      obtain ⟨m, hm⟩ : ∃ m, m = (el l k).1 := ⟨_, rfl⟩
      obtain ⟨p, hp⟩ : ∃ p, p = (el l k).2 := ⟨_, rfl⟩
      rw [← hm] at hNB hR
      rw [← hp] at hPB
      have Pb : Hid (PointB w pb (po + k * 9) (pX p) (pY p) (pI p)) := hPB
      obtain ⟨nz, n0, n1, n2, n3⟩ := hNB.call hC.2.2.2.2
      have hkk : k + 1 ≤ n := hlt
      have K1 : Hid (∀ w, FieldB w h QQ → Calls Tryd.prog 31 #[.pointer (some ⟨h, 0, none⟩), .agg #[.int .u64 (limb (m) 0 : Nat), .int .u64 (limb (m) 1 : Nat), .int .u64 (limb (m) 2 : Nat), .int .u64 (limb (m) 3 : Nat)]] w fun e w' => e = .returned (.int .i64 0) ∧ Below w.heap.size w w') := fun w hw => by
        have k := check_any h QQ m (Nat.lt_trans hR FM_Q.2.1) FM_Q.2.1 w hw
        unfold chkN at k
        rw [if_pos hR] at k
        exact k
      have K2 : Hid (∀ w, FieldB w g PP → PointB w pb (po + k * 9) (pX p) (pY p) (pI p) → Calls Tryd.prog 48 #[.agg #[.pointer (some ⟨g, 0, none⟩)], .pointer (some ⟨pb, po + k * 9, none⟩)] w fun e w' => e = .returned (.int .i64 0) ∧ Below w.heap.size w w') := fun w h1 h2 => pcheck_ok g pb _ (pX p) (pY p) (pI p) (lt_R (pX_lt p)) (lt_R (pY_lt p)) (pts_ok p) w h1 h2
      clear hNB hPB hm hp hk hkl hC hR hlt HKr KC
      go_wp2_with fail
      refine (K1.out _ HC4.out.2.2.2.1).mono ?_
      rintro e w5 ⟨rfl, hb5⟩
      have HC : Hid (SuA w w5 w2.heap.size g h) := HC4.out.call hb5
      clear hb5 HC4 K1 nz n0 n1 n2 n3
      go_upto_region 10 with fail
      go_cut [10] (fun v1 wx => v1 = .int .i64 0 ∧ Below w5.heap.size w5 wx)
      case first =>
        refine wp_region_J 5 0 [?v0sc, ?v1sc, ?v2sc, ?v3sc, ?v4sc] [some 39, some 40, some 41, some 42, some 43] ?Asc (by kernel_rfl) (by kernel_rfl) (by kernel_rfl) rfl ?hAsc ?hopsc ?hfinsc
        case hAsc =>
          simp only [List.set_cons_zero, List.set_cons_succ, List.zip_cons_cons, List.zip_nil_right, fillD, Act.put, List.setIfInBounds_toArray]
          exact rfl
        case hopsc =>
          refine ⟨?_, ?_, ?_, ?_, ?_, trivial⟩
          focus (intro _ bq wx hS; refine OpTo.yields rfl ?_; obtain ⟨_, _, _⟩ := OwnC.one (HC.out.call hS).2.1; clear hS; go_simp; try with_reducible rfl)
          iterate 3 focus (intro _ bq wx hS; refine OpTo.yields rfl ?_; clear hS; go_simp; try with_reducible rfl)
          focus (intro _ bq wx hS; refine OpTo.calls rfl ?_ ?_; rotate_left; intro K hK; go_simp; refine (K2.out _ (HC.out.call hS).2.2.1 ((Pb.out.call HC.out.2.2.2.2).call hS)).mono ?_; rintro e w' ⟨rfl, hq⟩; exact hK w' hq; exact rfl)
        case hfinsc =>
          intro wx hS
          refine tail_at (o := ?ofsc_5) ?hisc_5 ?hwsc_5 ?_
          case hisc_5 => rw [List.getElem?_toArray]; exact rfl
          case hwsc_5 => exact rfl
          go_simp
          refine tail_end ?_
          go_wp2_with fail
          go_meet
          exact ⟨rfl, hS⟩
      case rest =>
        obtain ⟨rfl, hB⟩ := hcut
        have HN : Hid (SuA w wc w2.heap.size g h) := HC.out.call hB
        clear hB HC K2
        generalize wc = w6 at HN ⊢
        go_wp2_with fail
        go_roundw
        case rel => first | exact ⟨k + 1, hkk, by go_num, HN.out⟩ | ((repeat apply Exists.intro); exact ⟨⟨k + 1, hkk, by go_num, HN.out⟩, rfl⟩)
        case measure => simp [intOf]; omega
    · obtain rfl : k = n := by omega
      have hnl : ¬ ((k : Int) < (k : Int)) := Int.lt_irrefl _
      clear hlt hk hC
      go_wp2_with fail
      refine HKr.out _ _ ?_
      clear HKr
      obtain ⟨bz, b0, bf⟩ := OwnC.one HC4.out.2.1
      go_wp2_with fail
      refine (KC.out g _ HC4.out.2.2.1 (H0.out.2.2.2.2.call HC4.out.2.2.2.2) (H0.out.1.call HC4.out.2.2.2.2) (H0.out.2.1.call HC4.out.2.2.2.2)).mono ?_
      rintro e w5 ⟨rfl, hb5⟩
      have HN : Hid (SuA w w5 w2.heap.size g h) := HC4.out.call hb5
      clear hb5 HC4 KC bz b0 bf H0
      have HX : Hid (OwnC w5 (w.heap.size) zpL ∧ Below w.heap.size w w5) := ⟨HN.out.1, HN.out.2.2.2.2⟩
      obtain ⟨xz, x0, x1, x2, x3, x4, x5, x6, x7, x8, xf⟩ := HX.out.1.zp
      go_wp2_with fail
      clear xz x0 x1 x2 x3 x4 x5 x6 x7 x8 xf
      obtain ⟨wy, hwy⟩ : ∃ wq, wq = (((((((((w5.setCell ⟨w.heap.size, 0, none⟩ (.int .u64 (limb (pX R) 0 : Nat))).setCell ⟨w.heap.size, 1, none⟩ (.int .u64 (limb (pX R) 1 : Nat))).setCell ⟨w.heap.size, 2, none⟩ (.int .u64 (limb (pX R) 2 : Nat))).setCell ⟨w.heap.size, 3, none⟩ (.int .u64 (limb (pX R) 3 : Nat))).setCell ⟨w.heap.size, 4, none⟩ (.int .u64 (limb (pY R) 0 : Nat))).setCell ⟨w.heap.size, 5, none⟩ (.int .u64 (limb (pY R) 1 : Nat))).setCell ⟨w.heap.size, 6, none⟩ (.int .u64 (limb (pY R) 2 : Nat))).setCell ⟨w.heap.size, 7, none⟩ (.int .u64 (limb (pY R) 3 : Nat))).setCell ⟨w.heap.size, 8, none⟩ (.bool (pI R))) := ⟨_, rfl⟩
      rw [← hwy]
      have HO : OwnC wy (w.heap.size) (ptL (pX R) (pY R) (pI R)) ∧ Below w.heap.size w wy := by
        rw [hwy]
        exact ⟨OwnC.put (ptL (pX R) (pY R) (pI R)) HX.out.1 rfl, below_putL (Nat.le_refl _) (ptL (pX R) (pY R) (pI R)) 0 _ HX.out.2⟩
      clear hwy HX
      obtain ⟨yz, y0, y1, y2, y3, y4, y5, y6, y7, y8, yf⟩ := HO.1.pt
      refine bodyPost_ret (v := .tuple #[.agg #[.int .u64 (limb (pX R) 0 : Nat), .int .u64 (limb (pX R) 1 : Nat), .int .u64 (limb (pX R) 2 : Nat), .int .u64 (limb (pX R) 3 : Nat), .int .u64 (limb (pY R) 0 : Nat), .int .u64 (limb (pY R) 1 : Nat), .int .u64 (limb (pY R) 2 : Nat), .int .u64 (limb (pY R) 3 : Nat), .bool (pI R)], .int .i64 0]) ?_ rfl ⟨rfl, HO.2⟩
      simp [results, Tryd.results35, go_sem, y0, y1, y2, y3, y4, y5, y6, y7, y8]
theorem NumB.one (w : World) (k : Nat) (t : TypeId) : NumB (w.alloc (.cells #[.int .u64 (limb (k) 0 : Nat), .int .u64 (limb (k) 1 : Nat), .int .u64 (limb (k) 2 : Nat), .int .u64 (limb (k) 3 : Nat)] t)) w.heap.size 0 k :=
  ⟨by simp, by rw [World.cell?_alloc_new]; rfl, by rw [World.cell?_alloc_new]; rfl, by rw [World.cell?_alloc_new]; rfl, by rw [World.cell?_alloc_new]; rfl⟩
theorem PointB.one (w : World) (x y : Nat) (i : Bool) (t : TypeId) : PointB (w.alloc (.cells #[.int .u64 (limb (x) 0 : Nat), .int .u64 (limb (x) 1 : Nat), .int .u64 (limb (x) 2 : Nat), .int .u64 (limb (x) 3 : Nat), .int .u64 (limb (y) 0 : Nat), .int .u64 (limb (y) 1 : Nat), .int .u64 (limb (y) 2 : Nat), .int .u64 (limb (y) 3 : Nat), .bool i] t)) w.heap.size 0 x y i :=
  ⟨by simp, by rw [World.cell?_alloc_new]; rfl, by rw [World.cell?_alloc_new]; rfl, by rw [World.cell?_alloc_new]; rfl, by rw [World.cell?_alloc_new]; rfl, by rw [World.cell?_alloc_new]; rfl, by rw [World.cell?_alloc_new]; rfl, by rw [World.cell?_alloc_new]; rfl, by rw [World.cell?_alloc_new]; rfl, by rw [World.cell?_alloc_new]; rfl⟩
theorem NumsAt.of {w : World} {b k : Nat} (h : NumB w b 0 k) : NumsAt w (some ⟨b, 0, none⟩) [k] := fun j n hj => by
  match j, hj with
  | 0, hj => simp at hj; subst hj; exact ⟨b, 0, rfl, h⟩
theorem PntsAt.of {w : World} {b x y : Nat} {i : Bool} (h : PointB w b 0 x y i) : PntsAt w (some ⟨b, 0, none⟩) [(x, y, i)] := fun j n hj => by
  match j, hj with
  | 0, hj => simp at hj; subst hj; exact ⟨b, 0, rfl, h⟩
set_option maxRecDepth 100000 in
set_option maxHeartbeats 8000000 in
theorem Mul_go (k x y : Nat) (i : Bool) (X Y : Nat) (I : Bool) (E : Int) (P : World → Prop) (hP : ∀ w w', P w → Below w.heap.size w w' → P w')
    (ks : ∀ (b c : Nat) (w : World), P w → NumsAt w (some ⟨b, 0, none⟩) [k] → PntsAt w (some ⟨c, 0, none⟩) [(x, y, i)] → Calls Tryd.prog 35 #[.slice (some ⟨b, 0, none⟩) 1 1, .slice (some ⟨c, 0, none⟩) 1 1] w fun e w' => e = .returned (.tuple #[.agg #[.int .u64 (limb (X) 0 : Nat), .int .u64 (limb (X) 1 : Nat), .int .u64 (limb (X) 2 : Nat), .int .u64 (limb (X) 3 : Nat), .int .u64 (limb (Y) 0 : Nat), .int .u64 (limb (Y) 1 : Nat), .int .u64 (limb (Y) 2 : Nat), .int .u64 (limb (Y) 3 : Nat), .bool (I)], .int .i64 E]) ∧ Below w.heap.size w w') (w : World) (hw : P w) :
    Calls Tryd.prog 20 #[.agg #[.int .u64 (limb (k) 0 : Nat), .int .u64 (limb (k) 1 : Nat), .int .u64 (limb (k) 2 : Nat), .int .u64 (limb (k) 3 : Nat)], .agg #[.int .u64 (limb (x) 0 : Nat), .int .u64 (limb (x) 1 : Nat), .int .u64 (limb (x) 2 : Nat), .int .u64 (limb (x) 3 : Nat), .int .u64 (limb (y) 0 : Nat), .int .u64 (limb (y) 1 : Nat), .int .u64 (limb (y) 2 : Nat), .int .u64 (limb (y) 3 : Nat), .bool (i)]] w fun e w' => e = .returned (.tuple #[.agg #[.int .u64 (limb (X) 0 : Nat), .int .u64 (limb (X) 1 : Nat), .int .u64 (limb (X) 2 : Nat), .int .u64 (limb (X) 3 : Nat), .int .u64 (limb (Y) 0 : Nat), .int .u64 (limb (Y) 1 : Nat), .int .u64 (limb (Y) 2 : Nat), .int .u64 (limb (Y) 3 : Nat), .bool (I)], .int .i64 E]) ∧ Below w.heap.size w w' := by
  have KS : Hid _ := ks
  obtain ⟨w3, hw3⟩ : ∃ wq, wq = ((w.alloc (.cells #[.int .u64 (limb (k) 0 : Nat), .int .u64 (limb (k) 1 : Nat), .int .u64 (limb (k) 2 : Nat), .int .u64 (limb (k) 3 : Nat)] 24)).alloc (.cells #[.int .u64 (limb (x) 0 : Nat), .int .u64 (limb (x) 1 : Nat), .int .u64 (limb (x) 2 : Nat), .int .u64 (limb (x) 3 : Nat), .int .u64 (limb (y) 0 : Nat), .int .u64 (limb (y) 1 : Nat), .int .u64 (limb (y) 2 : Nat), .int .u64 (limb (y) 3 : Nat), .bool i] 28)).alloc (.cells #[.int .u64 0, .int .u64 0, .int .u64 0, .int .u64 0, .int .u64 0, .int .u64 0, .int .u64 0, .int .u64 0, .bool false] 28) := ⟨_, rfl⟩
  have HA : Hid (w3.heap.size = w.heap.size + 1 + 1 + 1 ∧ w3 = ((w.alloc (.cells #[.int .u64 (limb (k) 0 : Nat), .int .u64 (limb (k) 1 : Nat), .int .u64 (limb (k) 2 : Nat), .int .u64 (limb (k) 3 : Nat)] 24)).alloc (.cells #[.int .u64 (limb (x) 0 : Nat), .int .u64 (limb (x) 1 : Nat), .int .u64 (limb (x) 2 : Nat), .int .u64 (limb (x) 3 : Nat), .int .u64 (limb (y) 0 : Nat), .int .u64 (limb (y) 1 : Nat), .int .u64 (limb (y) 2 : Nat), .int .u64 (limb (y) 3 : Nat), .bool i] 28)).alloc (.cells #[.int .u64 0, .int .u64 0, .int .u64 0, .int .u64 0, .int .u64 0, .int .u64 0, .int .u64 0, .int .u64 0, .bool false] 28)) := ⟨by rw [hw3]; simp only [World.size_alloc], hw3⟩
  have H3 : Hid (OwnC w3 (w.heap.size + 1 + 1) zpL ∧ Below w.heap.size w w3 ∧ P w3) := by
    have b3 : Below w.heap.size w w3 := by rw [hw3]; exact below_alloc0 (below_alloc0 (below_alloc0 (Below.refl _ _) _) _) _
    refine ⟨?_, b3, hP _ _ hw b3⟩
    rw [hw3]
    exact OwnC.new' (by simp only [World.size_alloc])
  have H5 : Hid (NumsAt ((w3.alloc (.cells #[.int .u64 (limb (k) 0 : Nat), .int .u64 (limb (k) 1 : Nat), .int .u64 (limb (k) 2 : Nat), .int .u64 (limb (k) 3 : Nat)] 24)).alloc (.cells #[.int .u64 (limb (x) 0 : Nat), .int .u64 (limb (x) 1 : Nat), .int .u64 (limb (x) 2 : Nat), .int .u64 (limb (x) 3 : Nat), .int .u64 (limb (y) 0 : Nat), .int .u64 (limb (y) 1 : Nat), .int .u64 (limb (y) 2 : Nat), .int .u64 (limb (y) 3 : Nat), .bool i] 28)) (some ⟨w3.heap.size, 0, none⟩) [k] ∧ PntsAt ((w3.alloc (.cells #[.int .u64 (limb (k) 0 : Nat), .int .u64 (limb (k) 1 : Nat), .int .u64 (limb (k) 2 : Nat), .int .u64 (limb (k) 3 : Nat)] 24)).alloc (.cells #[.int .u64 (limb (x) 0 : Nat), .int .u64 (limb (x) 1 : Nat), .int .u64 (limb (x) 2 : Nat), .int .u64 (limb (x) 3 : Nat), .int .u64 (limb (y) 0 : Nat), .int .u64 (limb (y) 1 : Nat), .int .u64 (limb (y) 2 : Nat), .int .u64 (limb (y) 3 : Nat), .bool i] 28)) (some ⟨w3.heap.size + 1, 0, none⟩) [(x, y, i)] ∧ Below w3.heap.size w3 ((w3.alloc (.cells #[.int .u64 (limb (k) 0 : Nat), .int .u64 (limb (k) 1 : Nat), .int .u64 (limb (k) 2 : Nat), .int .u64 (limb (k) 3 : Nat)] 24)).alloc (.cells #[.int .u64 (limb (x) 0 : Nat), .int .u64 (limb (x) 1 : Nat), .int .u64 (limb (x) 2 : Nat), .int .u64 (limb (x) 3 : Nat), .int .u64 (limb (y) 0 : Nat), .int .u64 (limb (y) 1 : Nat), .int .u64 (limb (y) 2 : Nat), .int .u64 (limb (y) 3 : Nat), .bool i] 28)) ∧ P ((w3.alloc (.cells #[.int .u64 (limb (k) 0 : Nat), .int .u64 (limb (k) 1 : Nat), .int .u64 (limb (k) 2 : Nat), .int .u64 (limb (k) 3 : Nat)] 24)).alloc (.cells #[.int .u64 (limb (x) 0 : Nat), .int .u64 (limb (x) 1 : Nat), .int .u64 (limb (x) 2 : Nat), .int .u64 (limb (x) 3 : Nat), .int .u64 (limb (y) 0 : Nat), .int .u64 (limb (y) 1 : Nat), .int .u64 (limb (y) 2 : Nat), .int .u64 (limb (y) 3 : Nat), .bool i] 28))) := by
    have b5 : Below w3.heap.size w3 ((w3.alloc (.cells #[.int .u64 (limb (k) 0 : Nat), .int .u64 (limb (k) 1 : Nat), .int .u64 (limb (k) 2 : Nat), .int .u64 (limb (k) 3 : Nat)] 24)).alloc (.cells #[.int .u64 (limb (x) 0 : Nat), .int .u64 (limb (x) 1 : Nat), .int .u64 (limb (x) 2 : Nat), .int .u64 (limb (x) 3 : Nat), .int .u64 (limb (y) 0 : Nat), .int .u64 (limb (y) 1 : Nat), .int .u64 (limb (y) 2 : Nat), .int .u64 (limb (y) 3 : Nat), .bool i] 28)) := below_alloc0 (below_alloc0 (Below.refl _ _) _) _
    refine ⟨(NumsAt.of (NumB.one _ _ _)).alloc, ?_, b5, hP _ _ H3.out.2.2 b5⟩
    have h := PntsAt.of (PointB.one (w3.alloc (.cells #[.int .u64 (limb (k) 0 : Nat), .int .u64 (limb (k) 1 : Nat), .int .u64 (limb (k) 2 : Nat), .int .u64 (limb (k) 3 : Nat)] 24)) x y i 28)
    rw [World.size_alloc] at h
    exact h
  clear ks hP hw hw3
  go_enter Tryd.func20, Tryd.ntmps20
  go_wp2_with fail
  rw [← HA.out.2, ← HA.out.1]
  refine (KS.out _ _ _ H5.out.2.2.2 H5.out.1 H5.out.2.1).mono ?_
  rintro e w6 ⟨rfl, hb6⟩
  have HN : Hid (OwnC w6 (w.heap.size + 1 + 1) zpL ∧ Below w.heap.size w w6) := ⟨(H3.out.1.call H5.out.2.2.1).call hb6, below_call0 (below_call0 H3.out.2.1 H5.out.2.2.1) hb6⟩
  clear hb6 H3 H5 HA KS
  have HX : Hid (OwnC w6 (w.heap.size + 1 + 1) zpL ∧ Below w.heap.size w w6) := ⟨HN.out.1, HN.out.2⟩
  obtain ⟨xz, x0, x1, x2, x3, x4, x5, x6, x7, x8, xf⟩ := HX.out.1.zp
  go_wp2_with fail
  clear xz x0 x1 x2 x3 x4 x5 x6 x7 x8 xf
  obtain ⟨wy, hwy⟩ : ∃ wq, wq = (((((((((w6.setCell ⟨w.heap.size + 1 + 1, 0, none⟩ (.int .u64 (limb (X) 0 : Nat))).setCell ⟨w.heap.size + 1 + 1, 1, none⟩ (.int .u64 (limb (X) 1 : Nat))).setCell ⟨w.heap.size + 1 + 1, 2, none⟩ (.int .u64 (limb (X) 2 : Nat))).setCell ⟨w.heap.size + 1 + 1, 3, none⟩ (.int .u64 (limb (X) 3 : Nat))).setCell ⟨w.heap.size + 1 + 1, 4, none⟩ (.int .u64 (limb (Y) 0 : Nat))).setCell ⟨w.heap.size + 1 + 1, 5, none⟩ (.int .u64 (limb (Y) 1 : Nat))).setCell ⟨w.heap.size + 1 + 1, 6, none⟩ (.int .u64 (limb (Y) 2 : Nat))).setCell ⟨w.heap.size + 1 + 1, 7, none⟩ (.int .u64 (limb (Y) 3 : Nat))).setCell ⟨w.heap.size + 1 + 1, 8, none⟩ (.bool I)) := ⟨_, rfl⟩
  rw [← hwy]
  have HO : OwnC wy (w.heap.size + 1 + 1) (ptL X Y I) ∧ Below w.heap.size w wy := by
    rw [hwy]
    exact ⟨OwnC.put (ptL X Y I) HX.out.1 rfl, below_putL (show w.heap.size ≤ w.heap.size + 1 + 1 by omega) (ptL X Y I) 0 _ HX.out.2⟩
  clear hwy HX
  obtain ⟨yz, y0, y1, y2, y3, y4, y5, y6, y7, y8, yf⟩ := HO.1.pt
  refine bodyPost_ret (v := .tuple #[.agg #[.int .u64 (limb (X) 0 : Nat), .int .u64 (limb (X) 1 : Nat), .int .u64 (limb (X) 2 : Nat), .int .u64 (limb (X) 3 : Nat), .int .u64 (limb (Y) 0 : Nat), .int .u64 (limb (Y) 1 : Nat), .int .u64 (limb (Y) 2 : Nat), .int .u64 (limb (Y) 3 : Nat), .bool I], .int .i64 E]) ?_ rfl ⟨rfl, HO.2⟩
  simp [results, Tryd.results20, go_sem, y0, y1, y2, y3, y4, y5, y6, y7, y8]
theorem Mul_ok (k : Nat) (a : Pts) (hk : k < QQ) (w : World) (hG : GlobP w) (hQ : GlobQ w) (hT : GTH w) :
    Calls Tryd.prog 20 #[.agg #[.int .u64 (limb (k) 0 : Nat), .int .u64 (limb (k) 1 : Nat), .int .u64 (limb (k) 2 : Nat), .int .u64 (limb (k) 3 : Nat)], .agg #[.int .u64 (limb (pX (a)) 0 : Nat), .int .u64 (limb (pX (a)) 1 : Nat), .int .u64 (limb (pX (a)) 2 : Nat), .int .u64 (limb (pX (a)) 3 : Nat), .int .u64 (limb (pY (a)) 0 : Nat), .int .u64 (limb (pY (a)) 1 : Nat), .int .u64 (limb (pY (a)) 2 : Nat), .int .u64 (limb (pY (a)) 3 : Nat), .bool (pI (a))]] w fun e w' => e = .returned (.tuple #[.agg #[.int .u64 (limb (pX (gr.mul k a)) 0 : Nat), .int .u64 (limb (pX (gr.mul k a)) 1 : Nat), .int .u64 (limb (pX (gr.mul k a)) 2 : Nat), .int .u64 (limb (pX (gr.mul k a)) 3 : Nat), .int .u64 (limb (pY (gr.mul k a)) 0 : Nat), .int .u64 (limb (pY (gr.mul k a)) 1 : Nat), .int .u64 (limb (pY (gr.mul k a)) 2 : Nat), .int .u64 (limb (pY (gr.mul k a)) 3 : Nat), .bool (pI (gr.mul k a))], .int .i64 0]) ∧ Below w.heap.size w w' := by
  have e : gr.tot gr.mul [(k, a)] = gr.mul k a := gr.zero _
  refine Mul_go k (pX a) (pY a) (pI a) _ _ _ 0 (fun w => GlobP w ∧ GlobQ w ∧ GTH w) (fun w w' h hb => ⟨h.1.call hb, h.2.1.call hb, h.2.2.call hb⟩) (fun b c w h h1 h2 => ?_) w ⟨hG, hQ, hT⟩
  have s := Sum_ok 1 (some ⟨b, 0, none⟩) (some ⟨c, 0, none⟩) 1 1 [(k, a)] rfl (by decide) (fun z hz => by rw [List.mem_singleton.1 hz]; exact hk) w h.1 h.2.1 h.2.2 h1 h2
  rw [e] at s
  exact s
end Go.Proofs.YtchphekaonnfeaaDoor
