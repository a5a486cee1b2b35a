/- The laws KingAgrees, KingKeeps, KingAlone. -/
import Derived.Test.YtcahfkfafdoilaaKgP
import Derived.Test.YtcahfkfafdoilaaKgR
namespace Go.Proofs.Ytcahfkfafdoilaa
open Go Go.RowKit Go.Lib

theorem IntsAt.off {w w' : World} {a : Option Addr} {l : List Int} {gs : List Nat} (h : IntsAt w a l) (hb : Below w.heap.size w w') (hg : ∀ g ∈ gs, w.heap.size ≤ g) : IntsOff w' gs a l := fun j n hj => by
  obtain ⟨p, o, h1, h2, h3⟩ := h j n hj
  exact ⟨p, o, h1, (hb.cell (p := ⟨p, o + j, none⟩) h3).trans h2, Nat.lt_of_lt_of_le h3 hb.size, fun q => by have := hg p q; omega⟩
theorem tabX_get {n f m : Nat} {l : List Int} {j : Nat} {x : Kn} (h : (tabX n f l m)[j]? = some x) : x = newK n f (valI l j) ∧ j < m := by
  unfold tabX at h
  rw [List.getElem?_map] at h
  have hj : j < m := by
    have : j < (List.range m).length := Classical.byContradiction fun c => by rw [List.getElem?_eq_none (by omega)] at h; cases h
    simpa using this
  rw [List.getElem?_range hj] at h
  exact ⟨(Option.some.inj h).symm, hj⟩
theorem tabX_tab {n f : Nat} (l : List Int) (h1 : 1 ≤ n) (hf : 3 * f < n) : Tab n f 0 (tabX n f l n) :=
  ⟨by unfold tabX; simp, h1, hf, fun j x hx => by obtain ⟨rfl, _⟩ := tabX_get hx; exact ⟨rfl, rfl, rfl, Nat.le_trans (valI_le l j) (by decide)⟩⟩
theorem seat_world {w w2 : World} {N F S V s : Int} {wa : Option Addr} {wl wc : Nat} (h : w2 = (w.alloc (.cells #[.int .i64 N, .int .i64 F, .int .i64 S, .int .i64 V] 23)).alloc (.cells #[.int .i64 s, .slice wa wl wc] 43)) :
    w2.cell? ⟨w.heap.size, 0, none⟩ = some (.int .i64 N) ∧ w2.cell? ⟨w.heap.size, 1, none⟩ = some (.int .i64 F) ∧ w2.cell? ⟨w.heap.size, 3, none⟩ = some (.int .i64 V) ∧ w2.cell? ⟨w.heap.size + 1, 0, none⟩ = some (.int .i64 s) ∧ w2.cell? ⟨w.heap.size + 1, 1, none⟩ = some (.slice wa wl wc) ∧ w2.heap.size = w.heap.size + 2 ∧ Below w.heap.size w w2 := by
  have hb : Below w.heap.size w w2 := by rw [h]; exact below_alloc0 (below_alloc0 (Below.refl _ _) _) _
  refine ⟨?_, ?_, ?_, ?_, ?_, ?_, hb⟩ <;> (rw [h]; simp [go_sem])
theorem not_all {fl : Nat → Bool} {n f : Nat} (hF : fcn fl n ≤ f) (hn : f < n) (h : ∀ j, j < n → fl j = true) : False := by
  have := fcn_first (fl := fl) (n := n) (m := n) (Nat.le_refl _) h
  omega
/-- The first value that was seen, behind i nodes. -/
def FI (s : Int) (f c i : Nat) (fv : Value) : Prop := (fv = .int .i64 (-1) ∧ ∀ j, j < i → flB s f j = true) ∨ fv = .int .i64 (c : Nat)
/-- What stands behind play. -/
structure LS (w : World) (gs : List Nat) (a : Option Addr) (n f c : Nat) (s : Int) (Y : List Kn) : Prop where
  nodes : NodesAt w gs Y
  tab : Tab n f (3 * (f + 1)) Y
  agr : Agr (flB s f) c (3 * (f + 1)) Y
  ptrs : ∀ i g, gs[i]? = some g → ∃ pb po, a = some ⟨pb, po, none⟩ ∧ w.cell? ⟨pb, po + i, none⟩ = some (.pointer (some ⟨g, 0, none⟩))
theorem LS.get {w : World} {gs : List Nat} {a : Option Addr} {n f c : Nat} {s : Int} {Y : List Kn} (h : LS w gs a n f c s Y) {i : Nat} (hi : i < n) : ∃ g x pb po, a = some ⟨pb, po, none⟩ ∧ w.cell? ⟨pb, po + i, none⟩ = some (.pointer (some ⟨g, 0, none⟩)) ∧ NodeAt w g x ∧ ¬ x.r < 3 * (x.f + 1) ∧ (flB s f i = false → x.v = c) := by
  have hy : i < Y.length := by rw [h.tab.len]; exact hi
  have hg : i < gs.length := by rw [h.nodes.1]; exact hy
  have e1 := List.getElem?_eq_getElem hg
  have e2 := List.getElem?_eq_getElem hy
  obtain ⟨pb, po, p1, p2⟩ := h.ptrs i _ e1
  obtain ⟨a1, a2, a3, a4⟩ := h.tab.all i _ e2
  exact ⟨_, _, pb, po, p1, p2, h.nodes.2 i _ _ e1 e2, by rw [a2, a3]; omega, fun hf => (h.agr i _ e2 hf).1⟩
theorem PEptrs {w w' : World} {B cap : Nat} {gs : List Nat} {X : List Kn} {a : Option Addr} (h : TabAt w B a cap gs X) (hk : Kp gs w w') : ∀ i g, gs[i]? = some g → ∃ pb po, a = some ⟨pb, po, none⟩ ∧ w'.cell? ⟨pb, po + i, none⟩ = some (.pointer (some ⟨g, 0, none⟩)) := fun i g hg => by
  have hu : (gs.map ptrV)[i]? = some (ptrV g) := by rw [List.getElem?_map, hg]; rfl
  obtain ⟨pb, po, h1, h2, h3, h4⟩ := h.row.get hu
  exact ⟨pb, po, h1, (World.cell?_of_block (w := w) (a := ⟨pb, po + i, none⟩) (hk.block h3 h4.2)).trans h2⟩
theorem kingAgrees_tab (N F S V : Int) (va : Option Addr) (vl vc : Nat) (s : Int) (wa : Option Addr) (wl wc : Nat) (h : ¬ (1 ≤ N ∧ N ≤ 10 ∧ 0 ≤ F ∧ 3 * F < N)) (w : World) :
    Calls Try.prog 4 #[.agg #[.int .i64 N, .int .i64 F, .int .i64 S, .int .i64 V], .slice va vl vc, .agg #[.int .i64 s, .slice wa wl wc]] w fun e w' => e = .returned (.bool true) ∧ Below w.heap.size w w' := by
  have HD : Hid (decide (1 ≤ N ∧ N ≤ 10 ∧ 0 ≤ F ∧ 3 * F < N) = false) := decide_eq_false h
  clear h
  obtain ⟨w2, hw2⟩ : ∃ w2, w2 = (w.alloc (.cells #[.int .i64 N, .int .i64 F, .int .i64 S, .int .i64 V] 23)).alloc (.cells #[.int .i64 s, .slice wa wl wc] 43) := ⟨_, rfl⟩
  obtain ⟨p0, p1, p3, q0, q1, hz2, hB2⟩ := seat_world hw2
  obtain ⟨A, hA⟩ : ∃ A, A = w.heap.size := ⟨_, rfl⟩
  have HA : Hid (A = w.heap.size ∧ w2.heap.size = A + 2 ∧ Below w.heap.size w w2) := ⟨hA, by omega, hB2⟩
  rw [← hA] at p0 p1 p3 q0 q1
  have HW2 : Hid (w2 = (w.alloc (.cells #[.int .i64 N, .int .i64 F, .int .i64 S, .int .i64 V] 23)).alloc (.cells #[.int .i64 s, .slice wa wl wc] 43)) := hw2
  go_enter Try.func4, Try.ntmps4
  go_wp2_with fail
  refine (rtable_any _ _ _).mono ?_
  rintro e w3 ⟨rfl, hw3⟩
  rw [HD.out]
  go_wp2_with fail
  refine (kone_any _).mono ?_
  rintro e w4 ⟨rfl, hb⟩
  have hb' : Below w.heap.size w w4 := by
    rw [← hw2] at hb
    exact below_call0 hB2 hb
  have HB : Hid _ := hb'
  clear hb hb' hw3
  go_wp2_with fail
  go_ret
  exact ⟨rfl, HB.out⟩
theorem kingAgrees_long (N F S V : Int) (va : Option Addr) (vl vc : Nat) (s : Int) (wa : Option Addr) (wl wc : Nat) (h : 1 ≤ N ∧ N ≤ 10 ∧ 0 ≤ F ∧ 3 * F < N) (h4 : 4000 < wl) (w : World) :
    Calls Try.prog 4 #[.agg #[.int .i64 N, .int .i64 F, .int .i64 S, .int .i64 V], .slice va vl vc, .agg #[.int .i64 s, .slice wa wl wc]] w fun e w' => e = .returned (.bool true) ∧ Below w.heap.size w w' := by
  have HD : Hid (decide (1 ≤ N ∧ N ≤ 10 ∧ 0 ≤ F ∧ 3 * F < N) = true) := decide_eq_true h
  clear h
  obtain ⟨w2, hw2⟩ : ∃ w2, w2 = (w.alloc (.cells #[.int .i64 N, .int .i64 F, .int .i64 S, .int .i64 V] 23)).alloc (.cells #[.int .i64 s, .slice wa wl wc] 43) := ⟨_, rfl⟩
  obtain ⟨p0, p1, p3, q0, q1, hz2, hB2⟩ := seat_world hw2
  obtain ⟨A, hA⟩ : ∃ A, A = w.heap.size := ⟨_, rfl⟩
  have HA : Hid (A = w.heap.size ∧ w2.heap.size = A + 2 ∧ Below w.heap.size w w2) := ⟨hA, by omega, hB2⟩
  rw [← hA] at p0 p1 p3 q0 q1
  have HW2 : Hid (w2 = (w.alloc (.cells #[.int .i64 N, .int .i64 F, .int .i64 S, .int .i64 V] 23)).alloc (.cells #[.int .i64 s, .slice wa wl wc] 43)) := hw2
  have h4' : (4000 : Int) < (wl : Int) := by omega
  go_enter Try.func4, Try.ntmps4
  go_wp2_with fail
  refine (rtable_any _ _ _).mono ?_
  rintro e w3 ⟨rfl, hw3⟩
  rw [HD.out]
  have hw4 : w3 = w2 := hw3.trans hw2.symm
  subst hw4
  rw [← hA]
  clear hw3 hw2
  clear hA
  go_wp2_with fail
  refine (kone_any _).mono ?_
  rintro e w4 ⟨rfl, hb⟩
  have HB : Hid (Below w.heap.size w w4) := below_call0 HA.out.2.2 hb
  clear hb
  go_wp2_with fail
  go_ret
  exact ⟨rfl, HB.out⟩
set_option maxRecDepth 100000 in
set_option maxHeartbeats 8000000 in
theorem kingAgrees_ok (n f : Nat) (S V : Int) (va : Option Addr) (vl vc : Nat) (l : List Int) (s : Int) (wa : Option Addr) (wl wc : Nat) (words : List Int) (h1 : 1 ≤ n) (h10 : n ≤ 10) (hf : 3 * f < n) (hvl : vl = l.length) (hwl : wl = words.length) (h4 : wl ≤ 4000) (w : World) (hI : IntsAt w va l) (hWd : IntsAt w wa words) :
    Calls Try.prog 4 #[.agg #[.int .i64 (n : Nat), .int .i64 (f : Nat), .int .i64 S, .int .i64 V], .slice va vl vc, .agg #[.int .i64 s, .slice wa wl wc]] w fun e w' => e = .returned (.bool true) ∧ Below w.heap.size w w' := by
  have HD : Hid (decide (1 ≤ (n : Int) ∧ (n : Int) ≤ 10 ∧ 0 ≤ (f : Int) ∧ 3 * (f : Int) < (n : Int)) = true) := decide_eq_true (by omega)
  obtain ⟨w2, hw2⟩ : ∃ w2, w2 = (w.alloc (.cells #[.int .i64 (n : Nat), .int .i64 (f : Nat), .int .i64 S, .int .i64 V] 23)).alloc (.cells #[.int .i64 s, .slice wa wl wc] 43) := ⟨_, rfl⟩
  obtain ⟨p0, p1, p3, q0, q1, hz2, hB2⟩ := seat_world hw2
  obtain ⟨A, hA⟩ : ∃ A, A = w.heap.size := ⟨_, rfl⟩
  have HA : Hid (A = w.heap.size ∧ w2.heap.size = A + 2 ∧ Below w.heap.size w w2) := ⟨hA, by omega, hB2⟩
  rw [← hA] at p0 p1 p3 q0 q1
  have HW2 : Hid (w2 = (w.alloc (.cells #[.int .i64 (n : Nat), .int .i64 (f : Nat), .int .i64 S, .int .i64 V] 23)).alloc (.cells #[.int .i64 s, .slice wa wl wc] 43)) := hw2
  have h4' : ¬ ((4000 : Int) < (wl : Int)) := by omega
  have HC : Hid (1 ≤ n ∧ n ≤ 10 ∧ 3 * f < n ∧ vl = l.length ∧ wl = words.length ∧ wl ≤ 4000) := ⟨h1, h10, hf, hvl, hwl, h4⟩
  have HI : Hid (IntsAt w va l ∧ IntsAt w wa words) := ⟨hI, hWd⟩
  have n10 : (n : Int) ≤ 10 := by omega
  clear h1 h10 hf hvl hwl h4 hI hWd hz2 hB2
  go_enter Try.func4, Try.ntmps4
  go_wp2_with fail
  refine (rtable_any _ _ _).mono ?_
  rintro e w3 ⟨rfl, hw3⟩
  rw [HD.out]
  obtain rfl : w3 = w2 := hw3.trans hw2.symm
  rw [← hA]
  clear hw3 hw2 hA
  go_wp2_with fail
  refine (table_any n f HC.out.1 HC.out.2.1 HC.out.2.2.1 va l vl vc HC.out.2.2.2.1 _ (HI.out.1.call HA.out.2.2)).mono ?_
  rintro e w4 ⟨pa, pc, gs, rfl, hT, hB4⟩
  have H4 : Hid (TabAt w4 w3.heap.size pa pc gs (tabX n f l n) ∧ Below w3.heap.size w3 w4) := ⟨hT, hB4⟩
  have r0 := (hB4.cell (p := ⟨A, 0, none⟩) (by have := HA.out.2.1; show A < _; omega)).trans p0
  have r1 := (hB4.cell (p := ⟨A, 1, none⟩) (by have := HA.out.2.1; show A < _; omega)).trans p1
  have s0 := (hB4.cell (p := ⟨A + 1, 0, none⟩) (by have := HA.out.2.1; show A + 1 < _; omega)).trans q0
  have s1 := (hB4.cell (p := ⟨A + 1, 1, none⟩) (by have := HA.out.2.1; show A + 1 < _; omega)).trans q1
  clear p0 p1 p3 q0 q1 hT hB4
  have hge : ∀ g ∈ gs, w.heap.size ≤ g := fun g hg => by have := H4.out.1.ge g hg; have := HA.out; omega
  have HPL : Hid _ := play_any n f (fun r X => Kin (flB s f) r X) s (tabX n f l n) (Kin.zero fun j x hx => by rw [(tabX_get hx).1]; exact valI_le l j) (fun r X Y hr hTb hk hrd => hk.step (flB_le s f n) hTb hrd hr) HC.out.2.1 (tabX_tab l HC.out.1 HC.out.2.2.1) pa pc w3.heap.size gs wa wl wc words HC.out.2.2.2.2.1 HC.out.2.2.2.2.2 w4 H4.out.1 (HI.out.2.off (below_call0 HA.out.2.2 H4.out.2) hge)
  clear hge
  go_wp2_with fail
  refine Calls.mono HPL.out ?_
  rintro e w5 ⟨rfl, ⟨Y, hY1, hY2, hY3⟩, hkp⟩
  obtain ⟨c, hc1, hAg⟩ := Kin.done (flB_le s f n) hY2 hY3
  have HLS : Hid (LS w5 gs pa n f c s Y) := ⟨hY1, hY2, hAg, PEptrs H4.out.1 hkp⟩
  have hAn : ∀ k, k < A + 2 → k < w4.heap.size ∧ k ∉ gs := fun k hk => ⟨by have := HA.out; have := H4.out.2.size; omega, fun q => by have := H4.out.1.ge k q; have := HA.out; omega⟩
  have ec : ∀ k o, k < A + 2 → w5.cell? ⟨k, o, none⟩ = w4.cell? ⟨k, o, none⟩ := fun k o hk => World.cell?_of_block (w := w4) (a := ⟨k, o, none⟩) (hkp.block (hAn k hk).1 (hAn k hk).2)
  have t0 := (ec A 0 (by omega)).trans r0
  have t1 := (ec A 1 (by omega)).trans r1
  have u0 := (ec (A + 1) 0 (by omega)).trans s0
  have HB5 : Hid (Below w.heap.size w w5) := (below_call0 HA.out.2.2 H4.out.2).trans (hkp.below (by have := H4.out.2.size; have := HA.out; omega) (fun g hg => by have := H4.out.1.ge g hg; have := HA.out; omega))
  clear r0 r1 s0 s1 hY1 hY2 hY3 hkp hAg hAn ec HPL
  have hcc : c = 0 ∨ c = 1 := by omega
  clear hc1
  have KF : Hid (∀ i, i < n → ∀ w, Calls Try.prog 22 #[.int .i64 s, .int .i64 (f : Nat), .int .i64 (i : Nat)] w fun e w' => e = .returned (.bool (flB s f i)) ∧ w' = w) := fun i hi w => fails_any s f i (by have := HC.out; omega) (by have := HC.out; omega) w
  rcases hcc with rfl | rfl
  · go_wp2_with fail
    rename_i Kr hKr
    have HKr : Hid _ := hKr
    clear hKr
    go_loopw [8, 47] (fun fv iv wr => ∃ i : Nat, i ≤ n ∧ iv = .int .i64 (i : Nat) ∧ FI s f 0 i fv ∧ w5 = wr) (fun _ iv _ => n - (Go.RowKit.intOf iv).toNat)
    case atStart => exact ⟨0, Nat.zero_le _, rfl, .inl ⟨rfl, fun j hj => absurd hj (by omega)⟩, rfl⟩
    case round =>
      obtain ⟨i, hi, rfl, hfv, hwr⟩ := hrel
      subst hwr
      by_cases hlt : i < n
      · have hlt' : (i : Int) < (n : Int) := by omega
        have HLT : Hid (i < n) := hlt
        obtain ⟨g, x, pb, po, ha, cp, hN, hr, hv⟩ := HLS.out.get hlt
        subst ha
        have HN : Hid (NodeAt w5 g x ∧ ¬ x.r < 3 * (x.f + 1)) := ⟨hN, hr⟩
        have HV : Hid (flB s f i = false → x.v = 0) := hv
        clear HKr hi hlt hN hr hv
        obtain ⟨D, hD⟩ : ∃ D, D = flB s f i := ⟨_, rfl⟩
        have KF1 : Hid (∀ w, Calls Try.prog 22 #[.int .i64 s, .int .i64 (f : Nat), .int .i64 (i : Nat)] w fun e w' => e = .returned (.bool D) ∧ w' = w) := by rw [hD]; exact KF.out i HLT.out
        have HDD : Hid (D = flB s f i) := hD
        clear hD
        cases D with
        | true =>
          have HF : Hid (FI s f 0 i _) := hfv
          clear hfv
          go_wp2_with fail
          refine (KF1.out _).mono ?_
          rintro e w6 ⟨rfl, rfl⟩
          go_wp2_with fail
          go_roundw
          case rel =>
            have hf2 : FI s f 0 (i + 1) _ := HF.out.elim (fun q => .inl ⟨q.1, fun j hj => if e : j = i then by rw [e]; exact HDD.out.symm else q.2 j (by omega)⟩) .inr
            first | exact ⟨i + 1, HLT.out, by go_num, hf2, by first | rfl | trivial⟩ | ((repeat apply Exists.intro); exact ⟨⟨i + 1, HLT.out, by go_num, hf2, by first | rfl | trivial⟩, rfl⟩)
          case measure => have h1 := HLT.out; simp [Go.RowKit.intOf]; omega
        | false =>
          have HX : Hid (x.v = 0) := HV.out HDD.out.symm
          have KD : Hid (∀ w, w = w5 → Calls Try.prog 18 #[.pointer (some ⟨g, 0, none⟩)] w fun e w' => e = .returned (.tuple #[.int .i64 0, .bool true]) ∧ w' = w) := fun w hw => by
            subst hw
            have h := kdone_yes g x _ HN.out.1 HN.out.2
            rw [HX.out] at h
            exact h
          rcases hfv with ⟨rfl, hall⟩ | rfl
          · go_wp2_with fail
            refine (KF1.out _).mono ?_
            rintro e w6 ⟨rfl, hw6⟩
            obtain rfl : w5 = w6 := hw6.symm
            go_wp2_with fail
            refine (KD.out _ rfl).mono ?_
            rintro e w6 ⟨rfl, hw6⟩
            obtain rfl : w5 = w6 := hw6.symm
            go_wp2_with fail
            go_roundw
            case rel => first | exact ⟨i + 1, HLT.out, by go_num, .inr rfl, by first | rfl | trivial⟩ | ((repeat apply Exists.intro); exact ⟨⟨i + 1, HLT.out, by go_num, .inr rfl, by first | rfl | trivial⟩, rfl⟩)
            case measure => have h1 := HLT.out; simp [Go.RowKit.intOf]; omega
          · go_wp2_with fail
            refine (KF1.out _).mono ?_
            rintro e w6 ⟨rfl, hw6⟩
            obtain rfl : w5 = w6 := hw6.symm
            go_wp2_with fail
            refine (KD.out _ rfl).mono ?_
            rintro e w6 ⟨rfl, hw6⟩
            obtain rfl : w5 = w6 := hw6.symm
            go_wp2_with fail
            go_roundw
            case rel => first | exact ⟨i + 1, HLT.out, by go_num, .inr rfl, by first | rfl | trivial⟩ | ((repeat apply Exists.intro); exact ⟨⟨i + 1, HLT.out, by go_num, .inr rfl, by first | rfl | trivial⟩, rfl⟩)
            case measure => have h1 := HLT.out; simp [Go.RowKit.intOf]; omega
      · obtain rfl : i = n := by omega
        have hnl : ¬ ((i : Int) < (i : Int)) := Int.lt_irrefl _
        clear hlt hi
        rcases hfv with ⟨rfl, hall⟩ | rfl
        · exact (not_all (flB_le s f i) (by have := HC.out; omega) hall).elim
        · go_wp2_with fail
          refine HKr.out _ _ ?_
          clear HKr
          go_wp2_with fail
          refine (kone_any _).mono ?_
          rintro e w6 ⟨rfl, hb⟩
          have HB : Hid (Below w.heap.size w w6) := below_call0 HB5.out hb
          clear hb
          go_wp2_with fail
          go_ret
          exact ⟨rfl, HB.out⟩
  · go_wp2_with fail
    rename_i Kr hKr
    have HKr : Hid _ := hKr
    clear hKr
    go_loopw [8, 47] (fun fv iv wr => ∃ i : Nat, i ≤ n ∧ iv = .int .i64 (i : Nat) ∧ FI s f 1 i fv ∧ w5 = wr) (fun _ iv _ => n - (Go.RowKit.intOf iv).toNat)
    case atStart => exact ⟨0, Nat.zero_le _, rfl, .inl ⟨rfl, fun j hj => absurd hj (by omega)⟩, rfl⟩
    case round =>
      obtain ⟨i, hi, rfl, hfv, hwr⟩ := hrel
      subst hwr
      by_cases hlt : i < n
      · have hlt' : (i : Int) < (n : Int) := by omega
        have HLT : Hid (i < n) := hlt
        obtain ⟨g, x, pb, po, ha, cp, hN, hr, hv⟩ := HLS.out.get hlt
        subst ha
        have HN : Hid (NodeAt w5 g x ∧ ¬ x.r < 3 * (x.f + 1)) := ⟨hN, hr⟩
        have HV : Hid (flB s f i = false → x.v = 1) := hv
        clear HKr hi hlt hN hr hv
        obtain ⟨D, hD⟩ : ∃ D, D = flB s f i := ⟨_, rfl⟩
        have KF1 : Hid (∀ w, Calls Try.prog 22 #[.int .i64 s, .int .i64 (f : Nat), .int .i64 (i : Nat)] w fun e w' => e = .returned (.bool D) ∧ w' = w) := by rw [hD]; exact KF.out i HLT.out
        have HDD : Hid (D = flB s f i) := hD
        clear hD
        cases D with
        | true =>
          have HF : Hid (FI s f 1 i _) := hfv
          clear hfv
          go_wp2_with fail
          refine (KF1.out _).mono ?_
          rintro e w6 ⟨rfl, rfl⟩
          go_wp2_with fail
          go_roundw
          case rel =>
            have hf2 : FI s f 1 (i + 1) _ := HF.out.elim (fun q => .inl ⟨q.1, fun j hj => if e : j = i then by rw [e]; exact HDD.out.symm else q.2 j (by omega)⟩) .inr
            first | exact ⟨i + 1, HLT.out, by go_num, hf2, by first | rfl | trivial⟩ | ((repeat apply Exists.intro); exact ⟨⟨i + 1, HLT.out, by go_num, hf2, by first | rfl | trivial⟩, rfl⟩)
          case measure => have h1 := HLT.out; simp [Go.RowKit.intOf]; omega
        | false =>
          have HX : Hid (x.v = 1) := HV.out HDD.out.symm
          have KD : Hid (∀ w, w = w5 → Calls Try.prog 18 #[.pointer (some ⟨g, 0, none⟩)] w fun e w' => e = .returned (.tuple #[.int .i64 1, .bool true]) ∧ w' = w) := fun w hw => by
            subst hw
            have h := kdone_yes g x _ HN.out.1 HN.out.2
            rw [HX.out] at h
            exact h
          rcases hfv with ⟨rfl, hall⟩ | rfl
          · go_wp2_with fail
            refine (KF1.out _).mono ?_
            rintro e w6 ⟨rfl, hw6⟩
            obtain rfl : w5 = w6 := hw6.symm
            go_wp2_with fail
            refine (KD.out _ rfl).mono ?_
            rintro e w6 ⟨rfl, hw6⟩
            obtain rfl : w5 = w6 := hw6.symm
            go_wp2_with fail
            go_roundw
            case rel => first | exact ⟨i + 1, HLT.out, by go_num, .inr rfl, by first | rfl | trivial⟩ | ((repeat apply Exists.intro); exact ⟨⟨i + 1, HLT.out, by go_num, .inr rfl, by first | rfl | trivial⟩, rfl⟩)
            case measure => have h1 := HLT.out; simp [Go.RowKit.intOf]; omega
          · go_wp2_with fail
            refine (KF1.out _).mono ?_
            rintro e w6 ⟨rfl, hw6⟩
            obtain rfl : w5 = w6 := hw6.symm
            go_wp2_with fail
            refine (KD.out _ rfl).mono ?_
            rintro e w6 ⟨rfl, hw6⟩
            obtain rfl : w5 = w6 := hw6.symm
            go_wp2_with fail
            go_roundw
            case rel => first | exact ⟨i + 1, HLT.out, by go_num, .inr rfl, by first | rfl | trivial⟩ | ((repeat apply Exists.intro); exact ⟨⟨i + 1, HLT.out, by go_num, .inr rfl, by first | rfl | trivial⟩, rfl⟩)
            case measure => have h1 := HLT.out; simp [Go.RowKit.intOf]; omega
      · obtain rfl : i = n := by omega
        have hnl : ¬ ((i : Int) < (i : Int)) := Int.lt_irrefl _
        clear hlt hi
        rcases hfv with ⟨rfl, hall⟩ | rfl
        · exact (not_all (flB_le s f i) (by have := HC.out; omega) hall).elim
        · go_wp2_with fail
          refine HKr.out _ _ ?_
          clear HKr
          go_wp2_with fail
          refine (kone_any _).mono ?_
          rintro e w6 ⟨rfl, hb⟩
          have HB : Hid (Below w.heap.size w w6) := below_call0 HB5.out hb
          clear hb
          go_wp2_with fail
          go_ret
          exact ⟨rfl, HB.out⟩
theorem kingAgrees_any (N F S V : Int) (va : Option Addr) (vc : Nat) (l : List Int) (s : Int) (wa : Option Addr) (wc : Nat) (words : List Int) (w : World) (hI : IntsAt w va l) (hWd : IntsAt w wa words) :
    Calls Try.prog 4 #[.agg #[.int .i64 N, .int .i64 F, .int .i64 S, .int .i64 V], .slice va l.length vc, .agg #[.int .i64 s, .slice wa words.length wc]] w fun e w' => e = .returned (.bool true) ∧ Below w.heap.size w w' := by
  by_cases h : 1 ≤ N ∧ N ≤ 10 ∧ 0 ≤ F ∧ 3 * F < N
  · by_cases h4 : words.length ≤ 4000
    · obtain ⟨n, rfl⟩ : ∃ n : Nat, N = n := ⟨N.toNat, by omega⟩
      obtain ⟨f, rfl⟩ : ∃ f : Nat, F = f := ⟨F.toNat, by omega⟩
      exact kingAgrees_ok n f S V va _ vc l s wa _ wc words (by omega) (by omega) (by omega) rfl rfl h4 w hI hWd
    · exact kingAgrees_long N F S V va _ vc s wa _ wc h (by omega) w
  · exact kingAgrees_tab N F S V va _ vc s wa _ wc h w
end Go.Proofs.Ytcahfkfafdoilaa
