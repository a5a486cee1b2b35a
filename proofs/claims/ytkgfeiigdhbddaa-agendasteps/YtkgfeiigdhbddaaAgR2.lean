/- The reference's agenda: put. -/
import Derived.Test.YtkgfeiigdhbddaaAgR1
namespace Go.Proofs.Ytkgfeiigdhbddaa
open Go Go.RowKit Go.Lib
def anyB (e : En) (P : List En) : Bool := P.any (fun y => decide (eLt e y))
def insT (e : En) (P : List En) : List En := if anyB e P = true then insE e P else P
theorem anyB_no {e : En} {P : List En} (h : anyB e P = false) : ∀ y ∈ P, ¬ eLt e y := fun y hy c => by
  have := List.any_eq_false.1 h y hy
  simp [c] at this
theorem insE_no {e : En} : ∀ {P : List En} (Q : List En), (∀ y ∈ P, ¬ eLt e y) → insE e (P ++ Q) = P ++ insE e Q
  | [], _, _ => rfl
  | y :: P, Q, h => by
    show (if eLt e y then _ else y :: insE e (P ++ Q)) = _
    rw [if_neg (h y (List.mem_cons_self ..)), insE_no Q (fun z hz => h z (List.mem_cons_of_mem _ hz))]
    rfl
theorem insE_yes {e : En} : ∀ {P : List En} (Q : List En), (∃ y ∈ P, eLt e y) → insE e (P ++ Q) = insE e P ++ Q
  | [], _, h => by obtain ⟨y, hy, _⟩ := h; cases hy
  | y :: P, Q, h => by
    by_cases c : eLt e y
    · show (if eLt e y then _ else _) = (if eLt e y then _ else _) ++ Q
      rw [if_pos c, if_pos c]; rfl
    · show (if eLt e y then _ else y :: insE e (P ++ Q)) = (if eLt e y then _ else y :: insE e P) ++ Q
      rw [if_neg c, if_neg c, insE_yes Q]
      · rfl
      · obtain ⟨z, hz, hl⟩ := h
        rcases List.mem_cons.1 hz with rfl | hz
        · exact absurd hl c
        · exact ⟨z, hz, hl⟩
theorem anyB_yes {e : En} {P : List En} (h : anyB e P = true) : ∃ y ∈ P, eLt e y := by
  obtain ⟨y, hy, hd⟩ := List.any_eq_true.1 h
  exact ⟨y, hy, of_decide_eq_true hd⟩
theorem anyB_snoc (e : En) (P : List En) (x : En) : anyB e (P ++ [x]) = (anyB e P || decide (eLt e x)) := by unfold anyB; rw [List.any_append]; simp
theorem insT_done {e x : En} {P : List En} (h : anyB e P = true) : insT e (P ++ [x]) = insT e P ++ [x] := by
  unfold insT
  rw [anyB_snoc, h, Bool.true_or, if_pos rfl, if_pos rfl]
  exact insE_yes _ (anyB_yes h)
theorem insT_now {e x : En} {P : List En} (h : anyB e P = false) (hx : eLt e x) : insT e (P ++ [x]) = insT e P ++ [e] ++ [x] := by
  unfold insT
  rw [anyB_snoc, h, decide_eq_true hx, Bool.or_true, if_pos rfl, if_neg (by decide), insE_no _ (anyB_no h)]
  show P ++ (if eLt e x then [e, x] else [x, e]) = _
  rw [if_pos hx, List.append_assoc]; rfl
theorem insT_no {e x : En} {P : List En} (h : anyB e P = false) (hx : ¬ eLt e x) : insT e (P ++ [x]) = insT e P ++ [x] := by
  unfold insT
  rw [anyB_snoc, h, decide_eq_false hx, Bool.or_false, if_neg (by decide)]
  rfl
theorem insT_end0 {e : En} {L : List En} (h : anyB e L = true) : insT e L = insE e L := if_pos h
theorem insT_end1 {e : En} {L : List En} (h : anyB e L = false) : insT e L ++ [e] = insE e L := by
  unfold insT
  rw [h, if_neg (by decide)]
  have := insE_no [] (anyB_no h)
  rw [List.append_nil] at this
  rw [this]; rfl
theorem insT_len (e : En) (L : List En) : (insT e L).length ≤ L.length + 1 := by
  unfold insT
  split
  · rw [len_insE]; omega
  · omega
theorem takeE {L : List En} {k : Nat} {x : En} (h : L[k]? = some x) : L.take (k + 1) = L.take k ++ [x] := by
  rw [List.take_add_one, h]; rfl
def enC (x : En) : Array Value := #[.int .i64 (x.t : Nat), .int .i64 (x.m : Nat), .string x.s]
/-- One entry more, out of a new block. -/
theorem OwR.app {w : World} {B cap m : Nat} {a : Option Addr} {T : List En} (h : OwR w B a cap m T) (hB : B ≤ w.heap.size) (hm : m ≤ 1000000) (x : En) (b : Nat) (hb : b = w.heap.size) : ∃ q' cap' w', (Builtin.append_ #[27, 27] 27 #[.slice a m cap, .slice (some ⟨b, 0, none⟩) 1 1]).run Try.prog (w.alloc (.cells #[.int .i64 (x.t : Nat), .int .i64 (x.m : Nat), .string x.s] 38)) = .ok (.slice (some ⟨q', 0, none⟩) (m + 1) cap') w' ∧ OwR w' B (some ⟨q', 0, none⟩) cap' (m + 1) (T ++ [x]) ∧ Below B w w' ∧ w.heap.size ≤ w'.heap.size ∧ ∀ k, k < w.heap.size → a ≠ some ⟨k, 0, none⟩ → w'.heap[k]? = w.heap[k]? := by
  have hb1 : Below w.heap.size w (w.alloc (.cells #[.int .i64 (x.t : Nat), .int .i64 (x.m : Nat), .string x.s] 38)) := below_alloc0 (Below.refl _ _) _
  subst hb
  obtain ⟨q', cap', w', h1, h2, h3, h4⟩ := (h.call hb1).snoc (x := x) (Nat.le_trans hB hb1.size) hm w.heap.size 1 (fun j u hj => by rw [World.cell?_alloc_new, List.getElem?_toArray]; exact hj)
  exact ⟨q', cap', w', h1, h2, (hb1.mono hB).trans h3, Nat.le_trans hb1.size h3.size, fun k hk ha => (h4 k (Nat.lt_of_lt_of_le hk hb1.size) ha).trans (hb1.block k hk)⟩
/-- The reference's agenda, whose list is laid anew. -/
theorem RefA.laid {w wr : World} {Z : Nat → Prop} {r l B cap m : Nat} {a : Option Addr} {L T : List En} (h : RefA w Z r l L) (hZ : ∀ k, w.heap.size ≤ k → Z k) (hB : B = w.heap.size) (hr : r < B) (hb : Below B w wr) (hR : OwR wr (B + 1) a cap m T) : RefA (wr.setCell ⟨r, 0, none⟩ (.slice a m cap)) Z r l T ∧ Off Z w (wr.setCell ⟨r, 0, none⟩ (.slice a m cap)) := by
  obtain ⟨a0, cap0, c0, _, _⟩ := h.c0
  have hz := hb.size
  have e : ∀ o, wr.cell? ⟨r, o, none⟩ = w.cell? ⟨r, o, none⟩ := fun o => hb.cell (p := ⟨r, o, none⟩) hr
  have hml := hR.ml
  have hE : EnsAt wr (fun k => Z k ∧ k ≠ r) a T := EnsAt.of_row hR.row hml (fun q hq => ⟨hZ q (by have := hR.own q hq; omega), by have := hR.own q hq; omega⟩)
  refine ⟨⟨h.zr, by rw [World.size_setCell]; omega, fun o => by rw [World.frozen?_setCell]; exact (hb.frozen (p := ⟨r, o, none⟩) hr).trans (h.fr o), ⟨a, cap, ?_, ?_, ?_⟩, (World.cell?_setCell_other _ _ _ _ (by intro c; injection c with _ c _; cases c)).trans ((e 1).trans h.c1)⟩, ⟨hb.os, hb.tape, hb.output, by rw [World.size_setCell]; exact hz, fun k hk => ?_⟩⟩
  · rw [← hml]; exact World.cell?_setCell_same _ _ _ ((e 0).trans c0)
  · rw [← hml]
    rcases hR.row with ⟨ha0, h0, hc0⟩ | ⟨q, ha0, hq⟩
    · exact ⟨by omega, fun _ => hc0, fun b hb => (by rw [ha0] at hb; cases hb)⟩
    · exact ⟨hq.nc, fun c => (by rw [ha0] at c; cases c), fun b hb => (by rw [ha0] at hb; cases hb; rfl)⟩
  · exact hE.kept (by rw [World.size_setCell]; exact Nat.le_refl _) (fun k hk _ => Below.heap_setCell _ _ _ _ hk.2)
  · rw [Below.heap_setCell _ _ _ _ (fun (c : k = r) => hk (by rw [c]; exact h.zr))]
    exact hb.block k (Nat.lt_of_not_le (fun c => hk (hZ k (by omega))))
structure PutI (w W wr : World) (B : Nat) (a : Option Addr) (cap m k : Nat) (d : Bool) (e : En) (L : List En) : Prop where
  dd : d = anyB e (L.take k)
  row : OwR wr (B + 1) a cap m (insT e (L.take k))
  bl : Below (B + 1) W wr
set_option maxRecDepth 100000 in
set_option maxHeartbeats 4000000 in
theorem rput_in (r l n : Nat) (Z : Nat → Prop) (L : List En) (hn : n = L.length) (h5 : n ≤ 600) (e : En) (w : World) (hZ : ∀ k, w.heap.size ≤ k → Z k) (hA : RefA w Z r l L) : Calls Try.prog 31 #[.pointer (some ⟨r, 0, none⟩), .agg #[.int .i64 (e.t : Nat), .int .i64 (e.m : Nat), .string e.s]] w fun f w' => f = .returned (.tuple #[]) ∧ RefA w' Z r l (insE e L) ∧ Off Z w w' := by
  obtain ⟨a0, cap0, c0, hcap, hE⟩ := hA.c0
  rw [← hn] at c0
  have HA : Hid (RefA w Z r l L ∧ EnsAt w (fun k => Z k ∧ k ≠ r) a0 L ∧ n = L.length ∧ n ≤ 600 ∧ ∀ k, w.heap.size ≤ k → Z k) := ⟨hA, hE, hn, h5, hZ⟩
  have n5 : (n : Int) ≤ 600 := by omega
  have hr := hA.rl
  obtain ⟨B, hB⟩ : ∃ B, B = w.heap.size := ⟨_, rfl⟩
  have HB : Hid (B = w.heap.size) := hB
  clear hA hE hn h5 hZ hcap
  go_enter Try.func31, Try.ntmps31
  go_wp2_with fail
  rename_i Kr hKr
  have HKr : Hid _ := hKr
  clear hKr
  have hbW : Below w.heap.size w (w.alloc (.cells #[.int .i64 (e.t : Nat), .int .i64 (e.m : Nat), .string e.s] 38)) := below_alloc0 (Below.refl _ _) _
  have e0 : (w.alloc (.cells #[.int .i64 (e.t : Nat), .int .i64 (e.m : Nat), .string e.s] 38)).cell? ⟨w.heap.size, 0, none⟩ = some (.int .i64 (e.t : Nat)) := by rw [World.cell?_alloc_new]; rfl
  have e1 : (w.alloc (.cells #[.int .i64 (e.t : Nat), .int .i64 (e.m : Nat), .string e.s] 38)).cell? ⟨w.heap.size, 1, none⟩ = some (.int .i64 (e.m : Nat)) := by rw [World.cell?_alloc_new]; rfl
  have e2 : (w.alloc (.cells #[.int .i64 (e.t : Nat), .int .i64 (e.m : Nat), .string e.s] 38)).cell? ⟨w.heap.size, 2, none⟩ = some (.string e.s) := by rw [World.cell?_alloc_new]; rfl
  have hz : (w.alloc (.cells #[.int .i64 (e.t : Nat), .int .i64 (e.m : Nat), .string e.s] 38)).heap.size = w.heap.size + 1 := by simp
  rw [← hB] at e0 e1 e2 hbW hz ⊢
  generalize w.alloc (.cells #[.int .i64 (e.t : Nat), .int .i64 (e.m : Nat), .string e.s] 38) = W at *
  have HW : Hid (Below B w W ∧ W.heap.size = B + 1 ∧ W.cell? ⟨B, 0, none⟩ = some (.int .i64 (e.t : Nat)) ∧ W.cell? ⟨B, 1, none⟩ = some (.int .i64 (e.m : Nat)) ∧ W.cell? ⟨B, 2, none⟩ = some (.string e.s) ∧ r < B) := ⟨hbW, hz, e0, e1, e2, by rw [hB]; exact hr⟩
  clear hbW hz e0 e1 e2 hB hr
  go_loopw [4, 5, 13] (fun ov dv iv wr => ∃ (a : Option Addr) (cap m k : Nat) (d : Bool), ov = .slice a m cap ∧ dv = .bool d ∧ iv = .int .i64 (k : Nat) ∧ k ≤ n ∧ PutI w W wr B a cap m k d e L) (fun _ _ iv _ => n - (Go.RowKit.intOf iv).toNat)
  case atStart => exact ⟨none, 0, 0, 0, false, rfl, rfl, rfl, Nat.zero_le _, ⟨rfl, OwR.nil _ _, Below.refl _ _⟩⟩
  case round =>
    obtain ⟨a, cap, m, k, d, rfl, rfl, rfl, hk, hI⟩ := hrel
    rename World => wr
    have HI : Hid (PutI w W wr B a cap m k d e L) := hI
    have m5 : m ≤ 700 := by have h1 := hI.row.ml; have h2 := insT_len e (L.take k); rw [List.length_take] at h2; have := HA.out; omega
    have HM : Hid (m ≤ 700) := m5
    have b0 := (hI.bl.cell (p := ⟨B, 0, none⟩) (Nat.lt_succ_self _)).trans HW.out.2.2.1
    have b1 := (hI.bl.cell (p := ⟨B, 1, none⟩) (Nat.lt_succ_self _)).trans HW.out.2.2.2.1
    have b2 := (hI.bl.cell (p := ⟨B, 2, none⟩) (Nat.lt_succ_self _)).trans HW.out.2.2.2.2.1
    have bz : B < wr.heap.size := by have := hI.bl.size; have := HW.out.2.1; omega
    clear m5
    by_cases hlt : k < n
    · obtain ⟨x, hx⟩ : ∃ x, L[k]? = some x := ⟨_, List.getElem?_eq_getElem (by rw [← HA.out.2.2.1]; exact hlt)⟩
      obtain ⟨q0, o0, ha0, _, hq0, x0, x1, x2⟩ := HA.out.2.1 k x hx
      subst ha0
      have hwr : Below B w wr := HW.out.1.trans (hI.bl.mono (Nat.le_succ _))
      have hq1 : q0 < B := by rw [HB.out]; exact hq0
      replace x0 := (hwr.cell (p := ⟨q0, _, none⟩) hq1).trans x0
      replace x1 := (hwr.cell (p := ⟨q0, _, none⟩) hq1).trans x1
      replace x2 := (hwr.cell (p := ⟨q0, _, none⟩) hq1).trans x2
      have i1 : (k : Int) < (n : Int) := by omega
      have HX : Hid (L[k]? = some x ∧ k < n) := ⟨hx, hlt⟩
      obtain ⟨F, hF⟩ : ∃ F, F = wr.heap.size := ⟨_, rfl⟩
      have hb1 : Below wr.heap.size wr (wr.alloc (.cells #[.int .i64 (x.t : Nat), .int .i64 (x.m : Nat), .string x.s] 38)) := below_alloc0 (Below.refl _ _) _
      have v0 : (wr.alloc (.cells #[.int .i64 (x.t : Nat), .int .i64 (x.m : Nat), .string x.s] 38)).cell? ⟨wr.heap.size, 0, none⟩ = some (.int .i64 (x.t : Nat)) := by rw [World.cell?_alloc_new]; rfl
      have v1 : (wr.alloc (.cells #[.int .i64 (x.t : Nat), .int .i64 (x.m : Nat), .string x.s] 38)).cell? ⟨wr.heap.size, 1, none⟩ = some (.int .i64 (x.m : Nat)) := by rw [World.cell?_alloc_new]; rfl
      have v2 : (wr.alloc (.cells #[.int .i64 (x.t : Nat), .int .i64 (x.m : Nat), .string x.s] 38)).cell? ⟨wr.heap.size, 2, none⟩ = some (.string x.s) := by rw [World.cell?_alloc_new]; rfl
      have vz : (wr.alloc (.cells #[.int .i64 (x.t : Nat), .int .i64 (x.m : Nat), .string x.s] 38)).heap.size = wr.heap.size + 1 := by simp
      have HV : Hid (Below wr.heap.size wr (wr.alloc (.cells #[.int .i64 (x.t : Nat), .int .i64 (x.m : Nat), .string x.s] 38)) ∧ (wr.alloc (.cells #[.int .i64 (x.t : Nat), .int .i64 (x.m : Nat), .string x.s] 38)).heap.size = wr.heap.size + 1 ∧ B + 1 ≤ wr.heap.size ∧ OwR (wr.alloc (.cells #[.int .i64 (x.t : Nat), .int .i64 (x.m : Nat), .string x.s] 38)) (B + 1) a cap m (insT e (L.take k)) ∧ Below (B + 1) W (wr.alloc (.cells #[.int .i64 (x.t : Nat), .int .i64 (x.m : Nat), .string x.s] 38)) ∧ a ≠ some ⟨wr.heap.size, 0, none⟩) := ⟨hb1, vz, bz, hI.row.call hb1, hI.bl.trans (hb1.mono bz), fun c => by have := hI.row.row.lt c; omega⟩
      have hdd := hI.dd
      have HKr' : Hid True := trivial
      clear hlt hk hI hwr hq0 hx HKr hb1 vz hF
      cases d with
      | true =>
        have HD : Hid (anyB e (L.take k) = true) := hdd.symm
        clear hdd
        obtain ⟨q', cap', w9, happ, hR, hB9, hz9, hk9⟩ := HV.out.2.2.2.1.app (by have := HV.out.2.1; have := HV.out.2.2.1; omega) (by have := HM.out; omega) x (wr.heap.size + 1) HV.out.2.1.symm
        obtain ⟨m1, hm1⟩ : ∃ m1, m1 = m + 1 := ⟨_, rfl⟩
        have H9 : Hid (PutI w W w9 B (some ⟨q', 0, none⟩) cap' (m + 1) (k + 1) true e L) := ⟨by rw [takeE HX.out.1, anyB_snoc, HD.out]; rfl, by rw [takeE HX.out.1, insT_done HD.out]; exact hR, HV.out.2.2.2.2.1.trans hB9⟩
        have HM1 : Hid (m1 = m + 1) := hm1
        rw [← hm1] at happ
        clear hR hB9 hz9 hk9 hm1
        go_wp2_with (at_builtin; refine wpList_append_run rfl _ _ 27 rfl rfl rfl happ ?_)
        go_roundw
        case rel => first | exact ⟨some ⟨q', 0, none⟩, cap', m1, k + 1, true, rfl, rfl, by go_num, HX.out.2, by rw [HM1.out]; exact H9.out⟩ | ((repeat apply Exists.intro); exact ⟨⟨some ⟨q', 0, none⟩, cap', m1, k + 1, true, rfl, rfl, by go_num, HX.out.2, by rw [HM1.out]; exact H9.out⟩, rfl⟩)
        case measure => have h1 := HX.out.2; simp [Go.RowKit.intOf]; omega
      | false =>
        have HD : Hid (anyB e (L.take k) = false) := hdd.symm
        clear hdd
        have hc := en_cases e x
        rcases hc with ⟨h, hd⟩ | ⟨h, hd⟩ | ⟨h, h2, hd⟩ | ⟨h, h2, hd⟩
        · have hl := of_decide_eq_true hd
          have HL : Hid (eLt e x) := hl
          clear hl
          have g1 : (e.m : Int) < (x.m : Int) := by omega
          have g1d : decide ((e.m : Int) < (x.m : Int)) = true := decide_eq_true g1
          have g1n : decide (e.m < x.m) = true := decide_eq_true h
          clear hd
          obtain ⟨q', cap', w8, happ, hR, hB8, hz8, hk8⟩ := HV.out.2.2.2.1.app (by have := HV.out.2.1; have := HV.out.2.2.1; omega) (by have := HM.out; omega) e (wr.heap.size + 1) HV.out.2.1.symm
          obtain ⟨q2, cap2, w9, happ2, hR2, hB9, hz9, hk9⟩ := hR.app (by have := HV.out.2.1; have := HV.out.2.2.1; omega) (by have := HM.out; omega) x w8.heap.size rfl
          have k8 : w8.heap[wr.heap.size]? = (wr.alloc (.cells #[.int .i64 (x.t : Nat), .int .i64 (x.m : Nat), .string x.s] 38)).heap[wr.heap.size]? := hk8 wr.heap.size (by have := HV.out.2.1; omega) HV.out.2.2.2.2.2
          have u0 := (World.cell?_of_block (w := wr.alloc (.cells #[.int .i64 (x.t : Nat), .int .i64 (x.m : Nat), .string x.s] 38)) (a := ⟨wr.heap.size, 0, none⟩) k8).trans v0
          have u1 := (World.cell?_of_block (w := wr.alloc (.cells #[.int .i64 (x.t : Nat), .int .i64 (x.m : Nat), .string x.s] 38)) (a := ⟨wr.heap.size, 1, none⟩) k8).trans v1
          have u2 := (World.cell?_of_block (w := wr.alloc (.cells #[.int .i64 (x.t : Nat), .int .i64 (x.m : Nat), .string x.s] 38)) (a := ⟨wr.heap.size, 2, none⟩) k8).trans v2
          obtain ⟨m1, hm1⟩ : ∃ m1, m1 = m + 1 := ⟨_, rfl⟩
          obtain ⟨m2, hm2⟩ : ∃ m2, m2 = m1 + 1 := ⟨_, rfl⟩
          have H9 : Hid (PutI w W w9 B (some ⟨q2, 0, none⟩) cap2 (m + 1 + 1) (k + 1) true e L) := ⟨by rw [takeE HX.out.1, anyB_snoc, HD.out, decide_eq_true HL.out]; rfl, by rw [takeE HX.out.1, insT_now HD.out HL.out]; exact hR2, HV.out.2.2.2.2.1.trans (hB8.trans hB9)⟩
          have HM1 : Hid (m1 = m + 1 ∧ m2 = m1 + 1) := ⟨hm1, hm2⟩
          rw [← hm1] at happ happ2
          rw [← hm2] at happ2
          clear hR hB8 hz8 hk8 hR2 hB9 hz9 hk9 hm1 hm2 k8
          go_wp2_with (at_builtin; first | refine wpList_append_run rfl _ _ 27 rfl rfl rfl happ ?_ | refine wpList_append_run rfl _ _ 27 rfl rfl rfl happ2 ?_)
          go_roundw
          case rel => first | exact ⟨some ⟨q2, 0, none⟩, cap2, m2, k + 1, true, rfl, rfl, by go_num, HX.out.2, by rw [HM1.out.2, HM1.out.1]; exact H9.out⟩ | ((repeat apply Exists.intro); exact ⟨⟨some ⟨q2, 0, none⟩, cap2, m2, k + 1, true, rfl, rfl, by go_num, HX.out.2, by rw [HM1.out.2, HM1.out.1]; exact H9.out⟩, rfl⟩)
          case measure => have h1 := HX.out.2; simp [Go.RowKit.intOf]; omega
        · have hl := of_decide_eq_false hd
          have HL : Hid (¬ eLt e x) := hl
          clear hl
          have g1 : ¬ ((e.m : Int) < (x.m : Int)) := by omega
          have g1d : decide ((e.m : Int) < (x.m : Int)) = false := decide_eq_false g1
          have g1n : decide (e.m < x.m) = false := decide_eq_false (by omega)
          have g2 : ¬ ((x.m : Int) = (e.m : Int)) := by omega
          have g3 : ((x.m : Int) == (e.m : Int)) = false := by simpa using g2
          have g3n : (x.m == e.m) = false := by simpa using (by omega : ¬ x.m = e.m)
          have g4n : ¬ e.m < x.m := by omega
          have g5n : ¬ x.m = e.m := by omega
          clear hd h
          obtain ⟨q', cap', w9, happ, hR, hB9, hz9, hk9⟩ := HV.out.2.2.2.1.app (by have := HV.out.2.1; have := HV.out.2.2.1; omega) (by have := HM.out; omega) x (wr.heap.size + 1) HV.out.2.1.symm
          obtain ⟨m1, hm1⟩ : ∃ m1, m1 = m + 1 := ⟨_, rfl⟩
          have H9 : Hid (PutI w W w9 B (some ⟨q', 0, none⟩) cap' (m + 1) (k + 1) false e L) := ⟨by rw [takeE HX.out.1, anyB_snoc, HD.out, decide_eq_false HL.out]; rfl, by rw [takeE HX.out.1, insT_no HD.out HL.out]; exact hR, HV.out.2.2.2.2.1.trans hB9⟩
          have HM1 : Hid (m1 = m + 1) := hm1
          rw [← hm1] at happ
          clear hR hB9 hz9 hk9 hm1
          go_wp2_with (at_builtin; refine wpList_append_run rfl _ _ 27 rfl rfl rfl happ ?_)
          go_roundw
          case rel => first | exact ⟨some ⟨q', 0, none⟩, cap', m1, k + 1, false, rfl, rfl, by go_num, HX.out.2, by rw [HM1.out]; exact H9.out⟩ | ((repeat apply Exists.intro); exact ⟨⟨some ⟨q', 0, none⟩, cap', m1, k + 1, false, rfl, rfl, by go_num, HX.out.2, by rw [HM1.out]; exact H9.out⟩, rfl⟩)
          case measure => have h1 := HX.out.2; simp [Go.RowKit.intOf]; omega
        · have hl := of_decide_eq_true hd
          have HL : Hid (eLt e x) := hl
          clear hl
          have g1 : ¬ ((e.m : Int) < (x.m : Int)) := by omega
          have g1d : decide ((e.m : Int) < (x.m : Int)) = false := decide_eq_false g1
          have g1n : decide (e.m < x.m) = false := decide_eq_false (by omega)
          have g2 : (x.m : Int) = (e.m : Int) := by omega
          have g3 : ((x.m : Int) == (e.m : Int)) = true := by simpa using g2
          have g3n : (x.m == e.m) = true := by simpa using h.symm
          have g4 : (e.t : Int) < (x.t : Int) := by omega
          have g4d : decide ((e.t : Int) < (x.t : Int)) = true := decide_eq_true g4
          have g4n : decide (e.t < x.t) = true := decide_eq_true h2
          have g5n : ¬ e.m < x.m := by omega
          clear hd h g2
          obtain ⟨q', cap', w8, happ, hR, hB8, hz8, hk8⟩ := HV.out.2.2.2.1.app (by have := HV.out.2.1; have := HV.out.2.2.1; omega) (by have := HM.out; omega) e (wr.heap.size + 1) HV.out.2.1.symm
          obtain ⟨q2, cap2, w9, happ2, hR2, hB9, hz9, hk9⟩ := hR.app (by have := HV.out.2.1; have := HV.out.2.2.1; omega) (by have := HM.out; omega) x w8.heap.size rfl
          have k8 : w8.heap[wr.heap.size]? = (wr.alloc (.cells #[.int .i64 (x.t : Nat), .int .i64 (x.m : Nat), .string x.s] 38)).heap[wr.heap.size]? := hk8 wr.heap.size (by have := HV.out.2.1; omega) HV.out.2.2.2.2.2
          have u0 := (World.cell?_of_block (w := wr.alloc (.cells #[.int .i64 (x.t : Nat), .int .i64 (x.m : Nat), .string x.s] 38)) (a := ⟨wr.heap.size, 0, none⟩) k8).trans v0
          have u1 := (World.cell?_of_block (w := wr.alloc (.cells #[.int .i64 (x.t : Nat), .int .i64 (x.m : Nat), .string x.s] 38)) (a := ⟨wr.heap.size, 1, none⟩) k8).trans v1
          have u2 := (World.cell?_of_block (w := wr.alloc (.cells #[.int .i64 (x.t : Nat), .int .i64 (x.m : Nat), .string x.s] 38)) (a := ⟨wr.heap.size, 2, none⟩) k8).trans v2
          obtain ⟨m1, hm1⟩ : ∃ m1, m1 = m + 1 := ⟨_, rfl⟩
          obtain ⟨m2, hm2⟩ : ∃ m2, m2 = m1 + 1 := ⟨_, rfl⟩
          have H9 : Hid (PutI w W w9 B (some ⟨q2, 0, none⟩) cap2 (m + 1 + 1) (k + 1) true e L) := ⟨by rw [takeE HX.out.1, anyB_snoc, HD.out, decide_eq_true HL.out]; rfl, by rw [takeE HX.out.1, insT_now HD.out HL.out]; exact hR2, HV.out.2.2.2.2.1.trans (hB8.trans hB9)⟩
          have HM1 : Hid (m1 = m + 1 ∧ m2 = m1 + 1) := ⟨hm1, hm2⟩
          rw [← hm1] at happ happ2
          rw [← hm2] at happ2
          clear hR hB8 hz8 hk8 hR2 hB9 hz9 hk9 hm1 hm2 k8
          go_wp2_with (at_builtin; first | refine wpList_append_run rfl _ _ 27 rfl rfl rfl happ ?_ | refine wpList_append_run rfl _ _ 27 rfl rfl rfl happ2 ?_)
          go_roundw
          case rel => first | exact ⟨some ⟨q2, 0, none⟩, cap2, m2, k + 1, true, rfl, rfl, by go_num, HX.out.2, by rw [HM1.out.2, HM1.out.1]; exact H9.out⟩ | ((repeat apply Exists.intro); exact ⟨⟨some ⟨q2, 0, none⟩, cap2, m2, k + 1, true, rfl, rfl, by go_num, HX.out.2, by rw [HM1.out.2, HM1.out.1]; exact H9.out⟩, rfl⟩)
          case measure => have h1 := HX.out.2; simp [Go.RowKit.intOf]; omega
        · have hl := of_decide_eq_false hd
          have HL : Hid (¬ eLt e x) := hl
          clear hl
          have g1 : ¬ ((e.m : Int) < (x.m : Int)) := by omega
          have g1d : decide ((e.m : Int) < (x.m : Int)) = false := decide_eq_false g1
          have g1n : decide (e.m < x.m) = false := decide_eq_false (by omega)
          have g2 : (x.m : Int) = (e.m : Int) := by omega
          have g3 : ((x.m : Int) == (e.m : Int)) = true := by simpa using g2
          have g3n : (x.m == e.m) = true := by simpa using h.symm
          clear g2
          have g4 : ¬ ((e.t : Int) < (x.t : Int)) := by omega
          have g4d : decide ((e.t : Int) < (x.t : Int)) = false := decide_eq_false g4
          have g4n : decide (e.t < x.t) = false := decide_eq_false (by omega)
          have g5n : ¬ e.m < x.m := by omega
          have g7n : ¬ e.t < x.t := by omega
          clear hd h
          obtain ⟨q', cap', w9, happ, hR, hB9, hz9, hk9⟩ := HV.out.2.2.2.1.app (by have := HV.out.2.1; have := HV.out.2.2.1; omega) (by have := HM.out; omega) x (wr.heap.size + 1) HV.out.2.1.symm
          obtain ⟨m1, hm1⟩ : ∃ m1, m1 = m + 1 := ⟨_, rfl⟩
          have H9 : Hid (PutI w W w9 B (some ⟨q', 0, none⟩) cap' (m + 1) (k + 1) false e L) := ⟨by rw [takeE HX.out.1, anyB_snoc, HD.out, decide_eq_false HL.out]; rfl, by rw [takeE HX.out.1, insT_no HD.out HL.out]; exact hR, HV.out.2.2.2.2.1.trans hB9⟩
          have HM1 : Hid (m1 = m + 1) := hm1
          rw [← hm1] at happ
          clear hR hB9 hz9 hk9 hm1
          go_wp2_with (at_builtin; refine wpList_append_run rfl _ _ 27 rfl rfl rfl happ ?_)
          go_roundw
          case rel => first | exact ⟨some ⟨q', 0, none⟩, cap', m1, k + 1, false, rfl, rfl, by go_num, HX.out.2, by rw [HM1.out]; exact H9.out⟩ | ((repeat apply Exists.intro); exact ⟨⟨some ⟨q', 0, none⟩, cap', m1, k + 1, false, rfl, rfl, by go_num, HX.out.2, by rw [HM1.out]; exact H9.out⟩, rfl⟩)
          case measure => have h1 := HX.out.2; simp [Go.RowKit.intOf]; omega
    · obtain rfl : k = n := by omega
      have hnl : ¬ ((k : Int) < (k : Int)) := Int.lt_irrefl _
      have htk : L.take k = L := List.take_of_length_le (by rw [HA.out.2.2.1]; exact Nat.le_refl _)
      have hrow := hI.row
      have hdd := hI.dd
      rw [htk] at hrow hdd
      have HE : Hid (OwR wr (B + 1) a cap m (insT e L) ∧ d = anyB e L) := ⟨hrow, hdd⟩
      have HBL : Hid (Below B w wr ∧ B + 1 ≤ wr.heap.size) := ⟨HW.out.1.trans (hI.bl.mono (Nat.le_succ _)), bz⟩
      have r0 : wr.cell? ⟨r, 0, none⟩ = some (.slice a0 k cap0) := (HBL.out.1.cell (p := ⟨r, 0, none⟩) HW.out.2.2.2.2.2).trans c0
      have f0 : wr.frozen? ⟨r, 0, none⟩ = false := (HBL.out.1.frozen (p := ⟨r, 0, none⟩) HW.out.2.2.2.2.2).trans (HA.out.1.fr 0)
      have rlt : r < wr.heap.size := by have := HW.out.2.2.2.2.2; omega
      clear hlt hk hI htk hrow hdd
      cases d with
      | true =>
        go_wp2_with fail
        refine HKr.out _ _ ?_
        clear HKr
        have HF : Hid (RefA (wr.setCell ⟨r, 0, none⟩ (.slice a m cap)) Z r l (insE e L) ∧ Off Z w (wr.setCell ⟨r, 0, none⟩ (.slice a m cap))) := RefA.laid HA.out.1 HA.out.2.2.2.2 HB.out HW.out.2.2.2.2.2 HBL.out.1 (by rw [← insT_end0 HE.out.2.symm]; exact HE.out.1)
        go_wp2_with fail
        go_end0
        exact ⟨rfl, HF.out⟩
      | false =>
        obtain ⟨q', cap', w9, happ, hR, hB9, hz9, hk9⟩ := HE.out.1.app HBL.out.2 (by have := HM.out; omega) e wr.heap.size rfl
        have s0 : w9.cell? ⟨r, 0, none⟩ = some (.slice a0 k cap0) := (hB9.cell (p := ⟨r, 0, none⟩) (by have := HW.out.2.2.2.2.2; show r < B + 1; omega)).trans r0
        have sf : w9.frozen? ⟨r, 0, none⟩ = false := (hB9.frozen (p := ⟨r, 0, none⟩) (by have := HW.out.2.2.2.2.2; show r < B + 1; omega)).trans f0
        have HF : Hid (RefA (w9.setCell ⟨r, 0, none⟩ (.slice (some ⟨q', 0, none⟩) (m + 1) cap')) Z r l (insE e L) ∧ Off Z w (w9.setCell ⟨r, 0, none⟩ (.slice (some ⟨q', 0, none⟩) (m + 1) cap'))) := RefA.laid HA.out.1 HA.out.2.2.2.2 HB.out HW.out.2.2.2.2.2 (HBL.out.1.trans (hB9.mono (Nat.le_succ _))) (by rw [← insT_end1 HE.out.2.symm]; exact hR)
        obtain ⟨m1, hm1⟩ : ∃ m1, m1 = m + 1 := ⟨_, rfl⟩
        have HM1 : Hid (m1 = m + 1) := hm1
        rw [← hm1] at happ
        clear hR hB9 hz9 hk9 hm1
        go_wp2_with fail
        refine HKr.out _ _ ?_
        clear HKr
        go_wp2_with (at_builtin; refine wpList_append_run rfl _ _ 27 rfl rfl rfl happ ?_)
        rw [HM1.out]
        go_end0
        exact ⟨rfl, HF.out⟩
end Go.Proofs.Ytkgfeiigdhbddaa
