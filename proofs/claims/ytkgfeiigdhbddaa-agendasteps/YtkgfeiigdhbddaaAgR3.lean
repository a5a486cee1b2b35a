/- The reference's agenda: take. -/
import Derived.Test.YtkgfeiigdhbddaaAgR2
namespace Go.Proofs.Ytkgfeiigdhbddaa
open Go Go.RowKit Go.Lib
def lastM (t : Nat) (P : List En) : En := P.foldl (fun acc x => if x.t = t then x else acc) zeroE
def anyT (t : Nat) (P : List En) : Bool := P.any (fun x => decide (x.t = t))
theorem lastM_yes {t : Nat} {P : List En} {x : En} (h : x.t = t) : lastM t (P ++ [x]) = x := by unfold lastM; rw [List.foldl_append]; simp [h]
theorem lastM_no {t : Nat} {P : List En} {x : En} (h : ¬ x.t = t) : lastM t (P ++ [x]) = lastM t P := by unfold lastM; rw [List.foldl_append]; simp [h]
theorem anyT_yes {t : Nat} {P : List En} {x : En} (h : x.t = t) : anyT t (P ++ [x]) = true := by unfold anyT; rw [List.any_append]; simp [h]
theorem anyT_no {t : Nat} {P : List En} {x : En} (h : ¬ x.t = t) : anyT t (P ++ [x]) = anyT t P := by unfold anyT; rw [List.any_append]; simp [h]
theorem rmE_yes {t : Nat} {P : List En} {x : En} (h : x.t = t) : rmE t (P ++ [x]) = rmE t P := by unfold rmE; rw [List.filter_append]; simp [h]
theorem rmE_no {t : Nat} {P : List En} {x : En} (h : ¬ x.t = t) : rmE t (P ++ [x]) = rmE t P ++ [x] := by unfold rmE; rw [List.filter_append]; simp [h]
theorem anyT_mem {t : Nat} {L : List En} {x : En} (hx : x ∈ L) (h : x.t = t) : anyT t L = true := List.any_eq_true.2 ⟨x, hx, decide_eq_true h⟩
theorem anyT_none {t : Nat} {L : List En} (h : ∀ x ∈ L, x.t ≠ t) : anyT t L = false := List.any_eq_false.2 (fun x hx => by simp [h x hx])
theorem foldM {t : Nat} : ∀ (P : List En) (acc : En), (∀ x ∈ P, x.t ≠ t) → P.foldl (fun acc x => if x.t = t then x else acc) acc = acc
  | [], _, _ => rfl
  | y :: P, acc, h => by
    show P.foldl _ (if y.t = t then y else acc) = acc
    rw [if_neg (h y (List.mem_cons_self ..))]
    exact foldM P acc (fun x hx => h x (List.mem_cons_of_mem _ hx))
theorem lastM_mem {t : Nat} {x : En} (h : x.t = t) : ∀ (L : List En) (acc : En), Dst L → x ∈ L → L.foldl (fun acc x => if x.t = t then x else acc) acc = x
  | [], _, _, hx => by cases hx
  | y :: P, acc, hd, hx => by
    have hd' : Dst P := fun a ha b hb => hd a (List.mem_cons_of_mem _ ha) b (List.mem_cons_of_mem _ hb)
    show P.foldl _ (if y.t = t then y else acc) = x
    by_cases c : x ∈ P
    · exact lastM_mem h P _ hd' c
    · have hy : x = y := by
        rcases List.mem_cons.1 hx with q | q
        · exact q
        · exact absurd q c
      rw [if_pos (by rw [← hy]; exact h), foldM P y (fun z hz ht => c ?_)]
      · exact hy.symm
      · have := hd x (by rw [hy]; exact List.mem_cons_self ..) z (List.mem_cons_of_mem _ hz) (by rw [h, ht])
        rw [this]; exact hz
theorem lastM_eq {t : Nat} {x : En} {L : List En} (h : x.t = t) (hd : Dst L) (hx : x ∈ L) : lastM t L = x := lastM_mem h L zeroE hd hx
theorem rmE_len (t : Nat) (L : List En) : (rmE t L).length ≤ L.length := List.length_filter_le _ _
theorem RefA.laid2 {w wr : World} {Z : Nat → Prop} {r l B cap m : Nat} {a : Option Addr} {L T : List En} (h : RefA w Z r l L) (hZ : ∀ k, w.heap.size ≤ k → Z k) (hB : B = w.heap.size) (hr : r < B) (hb : Below B w wr) (hR : OwR wr (B + 2) a cap m T) (z : En) : RefA (put3 (wr.setCell ⟨r, 0, none⟩ (.slice a m cap)) B 0 z) Z r l T ∧ Off Z w (put3 (wr.setCell ⟨r, 0, none⟩ (.slice a m cap)) B 0 z) := by
  obtain ⟨a0, cap0, c0, _, _⟩ := h.c0
  have hz := hb.size
  have e : ∀ o, wr.cell? ⟨r, o, none⟩ = w.cell? ⟨r, o, none⟩ := fun o => hb.cell (p := ⟨r, o, none⟩) hr
  have kr : (put3 (wr.setCell ⟨r, 0, none⟩ (.slice a m cap)) B 0 z).heap[r]? = (wr.setCell ⟨r, 0, none⟩ (.slice a m cap)).heap[r]? := put3_block (by omega)
  have er : ∀ o, (put3 (wr.setCell ⟨r, 0, none⟩ (.slice a m cap)) B 0 z).cell? ⟨r, o, none⟩ = (wr.setCell ⟨r, 0, none⟩ (.slice a m cap)).cell? ⟨r, o, none⟩ := fun o => World.cell?_of_block (w := wr.setCell ⟨r, 0, none⟩ (.slice a m cap)) (a := ⟨r, o, none⟩) kr
  have hml := hR.ml
  have hE : EnsAt wr (fun k => (Z k ∧ k ≠ r) ∧ k ≠ B) a T := EnsAt.of_row hR.row hml (fun q hq => ⟨⟨hZ q (by have := hR.own q hq; omega), by have := hR.own q hq; omega⟩, by have := hR.own q hq; omega⟩)
  have hs : (put3 (wr.setCell ⟨r, 0, none⟩ (.slice a m cap)) B 0 z).heap.size = wr.heap.size := by rw [put3_size, World.size_setCell]
  refine ⟨⟨h.zr, by rw [hs]; omega, fun o => by rw [put3_frozen, World.frozen?_setCell]; exact (hb.frozen (p := ⟨r, o, none⟩) hr).trans (h.fr o), ⟨a, cap, ?_, ?_, ?_⟩, (er 1).trans ((World.cell?_setCell_other _ _ _ _ (by intro c; injection c with _ c _; cases c)).trans ((e 1).trans h.c1))⟩, ⟨hb.os, hb.tape, hb.output, by rw [hs]; exact hz, fun k hk => ?_⟩⟩
  · rw [← hml]; exact (er 0).trans (World.cell?_setCell_same _ _ _ ((e 0).trans c0))
  · rw [← hml]
    rcases hR.row with ⟨ha0, h0, hc0⟩ | ⟨q, ha0, hq⟩
    · exact ⟨by omega, fun _ => hc0, fun b hb => (by rw [ha0] at hb; cases hb)⟩
    · exact ⟨hq.nc, fun c => (by rw [ha0] at c; cases c), fun b hb => (by rw [ha0] at hb; cases hb; rfl)⟩
  · exact (hE.kept (by rw [hs]; exact Nat.le_refl _) (fun k hk _ => (put3_block hk.2).trans (Below.heap_setCell _ _ _ _ hk.1.2))).mono (fun k _ hk => hk.1)
  · have hkr : k ≠ r := fun c => hk (by rw [c]; exact h.zr)
    have hkB : k ≠ B := fun c => hk (hZ k (by omega))
    rw [put3_block hkB, Below.heap_setCell _ _ _ _ hkr]
    exact hb.block k (Nat.lt_of_not_le (fun c => hk (hZ k (by omega))))
structure TakI (w W wr : World) (B : Nat) (a : Option Addr) (cap m k t : Nat) (d : Bool) (L : List En) : Prop where
  dd : d = anyT t (L.take k)
  row : OwR wr (B + 2) a cap m (rmE t (L.take k))
  bl : Below (B + 1) W wr
  e0 : wr.cell? ⟨B + 1, 0, none⟩ = some (.int .i64 ((lastM t (L.take k)).t : Nat))
  e1 : wr.cell? ⟨B + 1, 1, none⟩ = some (.int .i64 ((lastM t (L.take k)).m : Nat))
  e2 : wr.cell? ⟨B + 1, 2, none⟩ = some (.string (lastM t (L.take k)).s)
  ef : ∀ o, wr.frozen? ⟨B + 1, o, none⟩ = false
  ez : B + 2 ≤ wr.heap.size
theorem TakI.found {w W wr : World} {B cap m k t : Nat} {a : Option Addr} {d : Bool} {L : List En} {x : En} (h : TakI w W wr B a cap m k t d L) (hx : L[k]? = some x) (ht : x.t = t) (o : Obj) : TakI w W ((put3 wr (B + 1) 0 x).alloc o) B a cap m (k + 1) t true L := by
  have hb : Below (put3 wr (B + 1) 0 x).heap.size (put3 wr (B + 1) 0 x) ((put3 wr (B + 1) 0 x).alloc o) := below_alloc0 (Below.refl _ _) _
  have hz := put3_size wr (B + 1) 0 x
  have ez := h.ez
  have hc : B + 1 < (put3 wr (B + 1) 0 x).heap.size := by rw [hz]; omega
  have s0 : (wr.cell? ⟨B + 1, 0 * 3, none⟩).isSome = true := by show (wr.cell? ⟨B + 1, 0, none⟩).isSome = true; rw [h.e0]; rfl
  have s1 : (wr.cell? ⟨B + 1, 0 * 3 + 1, none⟩).isSome = true := by show (wr.cell? ⟨B + 1, 1, none⟩).isSome = true; rw [h.e1]; rfl
  have s2 : (wr.cell? ⟨B + 1, 0 * 3 + 2, none⟩).isSome = true := by show (wr.cell? ⟨B + 1, 2, none⟩).isSome = true; rw [h.e2]; rfl
  refine ⟨by rw [takeE hx, anyT_yes ht], ⟨?_, ?_, h.row.own⟩, ?_, ?_, ?_, ?_, fun j => ?_, ?_⟩
  · rw [takeE hx, rmE_yes ht]; exact h.row.ml
  · rw [takeE hx, rmE_yes ht]
    refine (h.row.row.block (by rw [hz]; exact Nat.le_refl _) (fun q hq _ => put3_block (by have := h.row.own q hq; omega))).call hb
  · have h1 : Below (B + 1) wr (put3 wr (B + 1) 0 x) := ⟨rfl, rfl, rfl, by rw [hz]; exact Nat.le_refl _, fun j hj => put3_block (by omega)⟩
    exact h.bl.trans (h1.trans (hb.mono (by rw [hz]; omega)))
  · rw [takeE hx, lastM_yes ht]; exact (hb.cell (p := ⟨B + 1, 0, none⟩) hc).trans (put3_c0 s0)
  · rw [takeE hx, lastM_yes ht]; exact (hb.cell (p := ⟨B + 1, 1, none⟩) hc).trans (put3_c1 s1)
  · rw [takeE hx, lastM_yes ht]; exact (hb.cell (p := ⟨B + 1, 2, none⟩) hc).trans (put3_c2 s2)
  · exact (hb.frozen (p := ⟨B + 1, j, none⟩) hc).trans (by rw [put3_frozen]; exact h.ef j)
  · have := hb.size; rw [hz] at this; omega
set_option maxRecDepth 100000 in
set_option maxHeartbeats 4000000 in
theorem rtake_in (r l n t : Nat) (Z : Nat → Prop) (L : List En) (hn : n = L.length) (h5 : n ≤ 600) (w : World) (hZ : ∀ k, w.heap.size ≤ k → Z k) (hA : RefA w Z r l L) : Calls Try.prog 32 #[.pointer (some ⟨r, 0, none⟩), .int .i64 (t : Nat)] w fun f w' => f = .returned (.tuple #[enG (lastM t L), .bool (anyT t L)]) ∧ RefA w' Z r l (rmE t L) ∧ Off Z w w' := by
  obtain ⟨a0, cap0, c0, hcap, hE⟩ := hA.c0
  rw [← hn] at c0
  have HA : Hid (RefA w Z r l L ∧ EnsAt w (fun k => Z k ∧ k ≠ r) a0 L ∧ n = L.length ∧ n ≤ 600 ∧ ∀ k, w.heap.size ≤ k → Z k) := ⟨hA, hE, hn, h5, hZ⟩
  have n5 : (n : Int) ≤ 600 := by omega
  have hr := hA.rl
  obtain ⟨B, hB⟩ : ∃ B, B = w.heap.size := ⟨_, rfl⟩
  have HB : Hid (B = w.heap.size) := hB
  clear hA hE hn h5 hZ hcap
  go_enter Try.func32, Try.ntmps32
  go_wp2_with fail
  rename_i Kr hKr
  have HKr : Hid _ := hKr
  clear hKr
  have hb0 : Below w.heap.size w (w.alloc (.cells #[.int .i64 0, .int .i64 0, .string ⟨#[]⟩] 38)) := below_alloc0 (Below.refl _ _) _
  have hbW : Below w.heap.size w ((w.alloc (.cells #[.int .i64 0, .int .i64 0, .string ⟨#[]⟩] 38)).alloc (.cells #[.int .i64 0, .int .i64 0, .string ⟨#[]⟩] 38)) := below_alloc0 hb0 _
  have hz0 : (w.alloc (.cells #[.int .i64 0, .int .i64 0, .string ⟨#[]⟩] 38)).heap.size = w.heap.size + 1 := by simp
  have hb1 : Below (w.alloc (.cells #[.int .i64 0, .int .i64 0, .string ⟨#[]⟩] 38)).heap.size (w.alloc (.cells #[.int .i64 0, .int .i64 0, .string ⟨#[]⟩] 38)) ((w.alloc (.cells #[.int .i64 0, .int .i64 0, .string ⟨#[]⟩] 38)).alloc (.cells #[.int .i64 0, .int .i64 0, .string ⟨#[]⟩] 38)) := below_alloc0 (Below.refl _ _) _
  have hz : ((w.alloc (.cells #[.int .i64 0, .int .i64 0, .string ⟨#[]⟩] 38)).alloc (.cells #[.int .i64 0, .int .i64 0, .string ⟨#[]⟩] 38)).heap.size = w.heap.size + 2 := by simp
  have k1 : ∀ j : Nat, ((w.alloc (.cells #[.int .i64 0, .int .i64 0, .string ⟨#[]⟩] 38)).alloc (.cells #[.int .i64 0, .int .i64 0, .string ⟨#[]⟩] 38)).cell? ⟨w.heap.size + 1, j, none⟩ = [Value.int .i64 0, .int .i64 0, .string ⟨#[]⟩][j]? := fun j => by rw [← hz0, World.cell?_alloc_new, List.getElem?_toArray]
  have k0 : ∀ j : Nat, ((w.alloc (.cells #[.int .i64 0, .int .i64 0, .string ⟨#[]⟩] 38)).alloc (.cells #[.int .i64 0, .int .i64 0, .string ⟨#[]⟩] 38)).cell? ⟨w.heap.size, j, none⟩ = [Value.int .i64 0, .int .i64 0, .string ⟨#[]⟩][j]? := fun j => by rw [hb1.cell (p := ⟨w.heap.size, j, none⟩) (by rw [hz0]; exact Nat.lt_succ_self _), World.cell?_alloc_new, List.getElem?_toArray]
  have f1 : ∀ j : Nat, ((w.alloc (.cells #[.int .i64 0, .int .i64 0, .string ⟨#[]⟩] 38)).alloc (.cells #[.int .i64 0, .int .i64 0, .string ⟨#[]⟩] 38)).frozen? ⟨w.heap.size + 1, j, none⟩ = false := fun j => by rw [← hz0]; exact World.frozen?_alloc_new _ _ _ _
  have f0 : ∀ j : Nat, ((w.alloc (.cells #[.int .i64 0, .int .i64 0, .string ⟨#[]⟩] 38)).alloc (.cells #[.int .i64 0, .int .i64 0, .string ⟨#[]⟩] 38)).frozen? ⟨w.heap.size, j, none⟩ = false := fun j => by rw [hb1.frozen (p := ⟨w.heap.size, j, none⟩) (by rw [hz0]; exact Nat.lt_succ_self _)]; exact World.frozen?_alloc_new _ _ _ _
  clear hb0 hz0 hb1
  rw [← hB] at k1 k0 f1 f0 hbW hz ⊢
  generalize (w.alloc (.cells #[.int .i64 0, .int .i64 0, .string ⟨#[]⟩] 38)).alloc (.cells #[.int .i64 0, .int .i64 0, .string ⟨#[]⟩] 38) = W at *
  have HW : Hid (Below B w W ∧ W.heap.size = B + 2 ∧ (∀ j : Nat, W.cell? ⟨B, j, none⟩ = [Value.int .i64 0, .int .i64 0, .string ⟨#[]⟩][j]?) ∧ (∀ j : Nat, W.frozen? ⟨B, j, none⟩ = false) ∧ r < B) := ⟨hbW, hz, k0, f0, by rw [hB]; exact hr⟩
  have HS : Hid (TakI w W W B none 0 0 0 t false L) := ⟨rfl, OwR.nil _ _, Below.refl _ _, k1 0, k1 1, k1 2, f1, by rw [hz]; exact Nat.le_refl _⟩
  clear hbW hz k0 k1 f0 f1 hB hr
  go_loopw [6, 8, 17] (fun ov dv iv wr => ∃ (a : Option Addr) (cap m k : Nat) (d : Bool), ov = .slice a m cap ∧ dv = .bool d ∧ iv = .int .i64 (k : Nat) ∧ k ≤ n ∧ TakI w W wr B a cap m k t d L) (fun _ _ iv _ => n - (Go.RowKit.intOf iv).toNat)
  case atStart => exact ⟨none, 0, 0, 0, false, rfl, rfl, rfl, Nat.zero_le _, HS.out⟩
  case round =>
    obtain ⟨a, cap, m, k, d, rfl, rfl, rfl, hk, hI⟩ := hrel
    rename World => wr
    have HI : Hid (TakI w W wr B a cap m k t d L) := hI
    have m5 : m ≤ 700 := by have h1 := hI.row.ml; have h2 := rmE_len t (L.take k); rw [List.length_take] at h2; have := HA.out; omega
    have HM : Hid (m ≤ 700) := m5
    have bz : B + 2 ≤ wr.heap.size := hI.ez
    clear m5
    by_cases hlt : k < n
    · obtain ⟨x, hx⟩ : ∃ x, L[k]? = some x := ⟨_, List.getElem?_eq_getElem (by rw [← HA.out.2.2.1]; exact hlt)⟩
      obtain ⟨q0, o0, ha0, _, hq0, x0, x1, x2⟩ := HA.out.2.1 k x hx
      subst ha0
      have hwr : Below B w wr := HW.out.1.trans (hI.bl.mono (Nat.le_succ _))
      have hq1 : q0 < B := by rw [HB.out]; exact hq0
      replace x0 := (hwr.cell (p := ⟨q0, _, none⟩) hq1).trans x0
      replace x1 := (hwr.cell (p := ⟨q0, _, none⟩) hq1).trans x1
      replace x2 := (hwr.cell (p := ⟨q0, _, none⟩) hq1).trans x2
      have i1 : (k : Int) < (n : Int) := by omega
      have HX : Hid (L[k]? = some x ∧ k < n) := ⟨hx, hlt⟩
      have e0 := hI.e0
      have e1 := hI.e1
      have e2 := hI.e2
      have ef := hI.ef
      clear hlt hk hwr hq0 hx HKr
      by_cases ht : x.t = t
      · have HF := hI.found HX.out.1 ht (.cells #[.int .i64 (x.t : Nat), .int .i64 (x.m : Nat), .string x.s] 38)
        have H9 : Hid (TakI w W ((put3 wr (B + 1) 0 x).alloc (.cells #[.int .i64 (x.t : Nat), .int .i64 (x.m : Nat), .string x.s] 38)) B a cap m (k + 1) t true L) := HF
        have hbw : B + 1 < wr.heap.size := by omega
        clear hI HF
        subst ht
        go_wp2_with fail
        go_roundw
        case rel => first | exact ⟨a, cap, m, k + 1, true, rfl, rfl, by go_num, HX.out.2, H9.out⟩ | ((repeat apply Exists.intro); exact ⟨⟨a, cap, m, k + 1, true, rfl, rfl, by go_num, HX.out.2, H9.out⟩, rfl⟩)
        case measure => have h1 := HX.out.2; simp [Go.RowKit.intOf]; omega
      · have g0 : ¬ ((x.t : Int) = (t : Int)) := by omega
        have g1 : ((x.t : Int) == (t : Int)) = false := by simpa using g0
        have hb1 : Below wr.heap.size wr (wr.alloc (.cells #[.int .i64 (x.t : Nat), .int .i64 (x.m : Nat), .string x.s] 38)) := below_alloc0 (Below.refl _ _) _
        have vz : (wr.alloc (.cells #[.int .i64 (x.t : Nat), .int .i64 (x.m : Nat), .string x.s] 38)).heap.size = wr.heap.size + 1 := by simp
        obtain ⟨q', cap', w9, happ, hR, hB9, hz9, hk9⟩ := (hI.row.call hb1).app (by omega) (by have := HM.out; omega) x (wr.heap.size + 1) vz.symm
        obtain ⟨m1, hm1⟩ : ∃ m1, m1 = m + 1 := ⟨_, rfl⟩
        have hc1 : B + 1 < B + 2 := by omega
        have hbb : Below (B + 2) wr w9 := (hb1.mono bz).trans hB9
        have H9 : Hid (TakI w W w9 B (some ⟨q', 0, none⟩) cap' (m + 1) (k + 1) t d L) := ⟨by rw [takeE HX.out.1, anyT_no ht]; exact hI.dd, by rw [takeE HX.out.1, rmE_no ht]; exact hR, hI.bl.trans (hbb.mono (Nat.le_succ _)), by rw [takeE HX.out.1, lastM_no ht]; exact (hbb.cell (p := ⟨B + 1, 0, none⟩) hc1).trans hI.e0, by rw [takeE HX.out.1, lastM_no ht]; exact (hbb.cell (p := ⟨B + 1, 1, none⟩) hc1).trans hI.e1, by rw [takeE HX.out.1, lastM_no ht]; exact (hbb.cell (p := ⟨B + 1, 2, none⟩) hc1).trans hI.e2, fun o => (hbb.frozen (p := ⟨B + 1, o, none⟩) hc1).trans (hI.ef o), Nat.le_trans bz hbb.size⟩
        have HM1 : Hid (m1 = m + 1) := hm1
        rw [← hm1] at happ
        clear hR hB9 hz9 hk9 hm1 hbb hI ht hb1 vz
        go_wp2_with (at_builtin; refine wpList_append_run rfl _ _ 27 rfl rfl rfl happ ?_)
        go_roundw
        case rel => first | exact ⟨some ⟨q', 0, none⟩, cap', m1, k + 1, d, rfl, rfl, by go_num, HX.out.2, by rw [HM1.out]; exact H9.out⟩ | ((repeat apply Exists.intro); exact ⟨⟨some ⟨q', 0, none⟩, cap', m1, k + 1, d, rfl, rfl, by go_num, HX.out.2, by rw [HM1.out]; exact H9.out⟩, rfl⟩)
        case measure => have h1 := HX.out.2; simp [Go.RowKit.intOf]; omega
    · obtain rfl : k = n := by omega
      have hnl : ¬ ((k : Int) < (k : Int)) := Int.lt_irrefl _
      have htk : L.take k = L := List.take_of_length_le (by rw [HA.out.2.2.1]; exact Nat.le_refl _)
      have hrow := hI.row
      have hdd := hI.dd
      have e0 := hI.e0
      have e1 := hI.e1
      have e2 := hI.e2
      have ef := hI.ef
      rw [htk] at hrow hdd e0 e1 e2
      have HBL : Hid (Below B w wr ∧ B + 2 ≤ wr.heap.size) := ⟨HW.out.1.trans (hI.bl.mono (Nat.le_succ _)), bz⟩
      have r0 : wr.cell? ⟨r, 0, none⟩ = some (.slice a0 k cap0) := (HBL.out.1.cell (p := ⟨r, 0, none⟩) HW.out.2.2.2.2).trans c0
      have fr0 : wr.frozen? ⟨r, 0, none⟩ = false := (HBL.out.1.frozen (p := ⟨r, 0, none⟩) HW.out.2.2.2.2).trans (HA.out.1.fr 0)
      have y0 : wr.cell? ⟨B, 0, none⟩ = some (.int .i64 0) := (hI.bl.cell (p := ⟨B, 0, none⟩) (Nat.lt_succ_self _)).trans (HW.out.2.2.1 0)
      have y1 : wr.cell? ⟨B, 1, none⟩ = some (.int .i64 0) := (hI.bl.cell (p := ⟨B, 1, none⟩) (Nat.lt_succ_self _)).trans (HW.out.2.2.1 1)
      have y2 : wr.cell? ⟨B, 2, none⟩ = some (.string ⟨#[]⟩) := (hI.bl.cell (p := ⟨B, 2, none⟩) (Nat.lt_succ_self _)).trans (HW.out.2.2.1 2)
      have yf : ∀ o, wr.frozen? ⟨B, o, none⟩ = false := fun o => (hI.bl.frozen (p := ⟨B, o, none⟩) (Nat.lt_succ_self _)).trans (HW.out.2.2.2.1 o)
      have HF : Hid (∀ z : En, RefA (put3 (wr.setCell ⟨r, 0, none⟩ (.slice a m cap)) B 0 z) Z r l (rmE t L) ∧ Off Z w (put3 (wr.setCell ⟨r, 0, none⟩ (.slice a m cap)) B 0 z)) := fun z => RefA.laid2 HA.out.1 HA.out.2.2.2.2 HB.out HW.out.2.2.2.2 HBL.out.1 hrow z
      have n1 : r ≠ B := by have := HW.out.2.2.2.2; omega
      have n2 : B ≠ r := by have := HW.out.2.2.2.2; omega
      have n3 : r ≠ B + 1 := by have := HW.out.2.2.2.2; omega
      have n4 : B + 1 ≠ r := by have := HW.out.2.2.2.2; omega
      obtain ⟨E, hE⟩ : ∃ E, E = B + 1 := ⟨_, rfl⟩
      rw [← hE] at e0 e1 e2 ef n3 n4 ⊢
      have n5 : E ≠ B := by omega
      have n6 : B ≠ E := by omega
      obtain ⟨z, hzz⟩ : ∃ z, z = lastM t L := ⟨_, rfl⟩
      rw [← hzz] at e0 e1 e2
      have HZ : Hid (z = lastM t L ∧ d = anyT t L) := ⟨hzz, hdd⟩
      clear hlt hk hI htk hrow hdd hE hzz
      go_wp2_with fail
      refine HKr.out _ _ ?_
      clear HKr
      go_wp2_with fail
      refine bodyPost_ret (v := .tuple #[enG z, .bool d]) ?_ rfl ⟨by rw [HZ.out.1, HZ.out.2], ?_⟩
      · simp [results, Try.results32, go_sem, enG, *]
      · exact HF.out z
end Go.Proofs.Ytkgfeiigdhbddaa
