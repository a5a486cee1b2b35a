/- Package agenda: Swap. -/
import Derived.Test.YtkgfeiigdhbddaaAgA
namespace Go.Proofs.Ytkgfeiigdhbddaa
open Go Go.RowKit Go.Lib Go.WideMaps Go.Maps
/-- An entry is laid at a place. -/
def put3 (w : World) (q k : Nat) (e : En) : World := ((w.setCell ⟨q, k * 3, none⟩ (.int .i64 (e.t : Nat))).setCell ⟨q, k * 3 + 1, none⟩ (.int .i64 (e.m : Nat))).setCell ⟨q, k * 3 + 2, none⟩ (.string e.s)
theorem put3_size (w : World) (q k : Nat) (e : En) : (put3 w q k e).heap.size = w.heap.size := by unfold put3; simp only [World.size_setCell]
theorem put3_block {w : World} {q k b : Nat} {e : En} (h : b ≠ q) : (put3 w q k e).heap[b]? = w.heap[b]? := by
  unfold put3
  rw [Below.heap_setCell _ _ _ _ h, Below.heap_setCell _ _ _ _ h, Below.heap_setCell _ _ _ _ h]
theorem put3_off {w w0 : World} {Z : Nat → Prop} {q k : Nat} {e : En} (h : Off Z w0 w) (hq : Z q) : Off Z w0 (put3 w q k e) :=
  ⟨h.os, h.tape, h.output, by rw [put3_size]; exact h.size, fun b hb => (put3_block (fun c => hb (by rw [c]; exact hq))).trans (h.block b hb)⟩
theorem put3_frozen (w : World) (q k : Nat) (e : En) (a : Addr) : (put3 w q k e).frozen? a = w.frozen? a := by unfold put3; simp only [World.frozen?_setCell]
theorem put3_other {w : World} {q k o : Nat} {e : En} (h0 : o ≠ k * 3) (h1 : o ≠ k * 3 + 1) (h2 : o ≠ k * 3 + 2) : (put3 w q k e).cell? ⟨q, o, none⟩ = w.cell? ⟨q, o, none⟩ := by
  unfold put3
  rw [World.cell?_setCell_other _ _ _ _ (by intro c; injection c with _ c _; exact h2 c.symm), World.cell?_setCell_other _ _ _ _ (by intro c; injection c with _ c _; exact h1 c.symm), World.cell?_setCell_other _ _ _ _ (by intro c; injection c with _ c _; exact h0 c.symm)]
theorem put3_c0 {w : World} {q k : Nat} {e : En} (h : (w.cell? ⟨q, k * 3, none⟩).isSome = true) : (put3 w q k e).cell? ⟨q, k * 3, none⟩ = some (.int .i64 (e.t : Nat)) := by
  unfold put3
  rw [World.cell?_setCell_other _ _ _ _ (by intro c; injection c with _ c _; omega), World.cell?_setCell_other _ _ _ _ (by intro c; injection c with _ c _; omega)]
  cases e0 : w.cell? ⟨q, k * 3, none⟩ with
  | none => rw [e0] at h; cases h
  | some v => exact World.cell?_setCell_same _ _ _ e0
theorem put3_c1 {w : World} {q k : Nat} {e : En} (h : (w.cell? ⟨q, k * 3 + 1, none⟩).isSome = true) : (put3 w q k e).cell? ⟨q, k * 3 + 1, none⟩ = some (.int .i64 (e.m : Nat)) := by
  unfold put3
  rw [World.cell?_setCell_other _ _ _ _ (by intro c; injection c with _ c _; omega)]
  cases e0 : w.cell? ⟨q, k * 3 + 1, none⟩ with
  | none => rw [e0] at h; cases h
  | some v => exact World.cell?_setCell_same _ _ _ ((World.cell?_setCell_other _ _ _ _ (by intro c; injection c with _ c _; omega)).trans e0)
theorem put3_c2 {w : World} {q k : Nat} {e : En} (h : (w.cell? ⟨q, k * 3 + 2, none⟩).isSome = true) : (put3 w q k e).cell? ⟨q, k * 3 + 2, none⟩ = some (.string e.s) := by
  unfold put3
  cases e0 : w.cell? ⟨q, k * 3 + 2, none⟩ with
  | none => rw [e0] at h; cases h
  | some v => exact World.cell?_setCell_same _ _ _ ((World.cell?_setCell_other _ _ _ _ (by intro c; injection c with _ c _; omega)).trans ((World.cell?_setCell_other _ _ _ _ (by intro c; injection c with _ c _; omega)).trans e0))
theorem Rw.put {w : World} {q cap n k : Nat} {f : Nat → En} (h : Rw w q cap n f) (hk : k < n) (e : En) : Rw (put3 w q k e) q cap n (putF f k e) := by
  have hc : k < cap := Nat.lt_of_lt_of_le hk h.nc
  refine ⟨by rw [put3_size]; exact h.lt, h.nc, h.cl, fun j hj => ?_, fun j hj => ?_, fun j hj => ?_, fun o ho => ?_, fun o => by rw [put3_frozen]; exact h.fz o⟩
  · by_cases c : j = k
    · subst c; rw [putF_s]; exact put3_c0 (h.cs _ (by omega))
    · rw [putF_o c, put3_other (by omega) (by omega) (by omega)]; exact h.c0 j hj
  · by_cases c : j = k
    · subst c; rw [putF_s]; exact put3_c1 (h.cs _ (by omega))
    · rw [putF_o c, put3_other (by omega) (by omega) (by omega)]; exact h.c1 j hj
  · by_cases c : j = k
    · subst c; rw [putF_s]; exact put3_c2 (h.cs _ (by omega))
    · rw [putF_o c, put3_other (by omega) (by omega) (by omega)]; exact h.c2 j hj
  · by_cases c0 : o = k * 3
    · subst c0; rw [put3_c0 (h.cs _ ho)]; rfl
    · by_cases c1 : o = k * 3 + 1
      · subst c1; rw [put3_c1 (h.cs _ ho)]; rfl
      · by_cases c2 : o = k * 3 + 2
        · subst c2; rw [put3_c2 (h.cs _ ho)]; rfl
        · rw [put3_other c0 c1 c2]; exact h.cs o ho
theorem putF_sw (f : Nat → En) (i j : Nat) : putF (putF f i (f j)) j (f i) = swF f i j := by
  funext k
  unfold putF swF
  by_cases h1 : k = i
  · by_cases h2 : k = j
    · rw [if_pos h2, if_pos h1, ← h1, h2]
    · rw [if_neg h2, if_pos h1, if_pos h1]
  · by_cases h2 : k = j
    · rw [if_pos h2, if_neg h1, if_pos h2]
    · rw [if_neg h2, if_neg h1, if_neg h1, if_neg h2]
theorem Rw.drew {w : World} {q cap n : Nat} {f : Nat → En} (h : Rw w q cap n f) : Rw w.drew q cap n f := h.block (Nat.le_refl _) rfl
theorem off_drew {Z : Nat → Prop} {w w' : World} (h : Off Z w w') : Off Z w w'.drew := ⟨h.os, h.tape, h.output, h.size, h.block⟩
theorem mapTurned_off {w w' w0 : World} {Z : Nat → Prop} {B : Nat} (h : Off Z w0 w) (hm : w.mapTurned w' B) (hB : Z B) : Off Z w0 w' := by
  obtain ⟨es, clock, es', clock', hb, rfl⟩ := hm
  exact ⟨h.os, h.tape, h.output, by simpa [ChangeMaps.setBlock] using h.size, fun b hb' => (ChangeMaps.heap_setBlock_other hb _ (fun c => hb' (by rw [c]; exact hB))).trans (h.block b hb')⟩
theorem mapTurned_block {w w' : World} {B b : Nat} (hm : w.mapTurned w' B) (hB : b ≠ B) : w'.heap[b]? = w.heap[b]? := by
  obtain ⟨es, clock, es', clock', hb, rfl⟩ := hm
  exact ChangeMaps.heap_setBlock_other hb _ hB
theorem mapTurned_size {w w' : World} {B : Nat} (hm : w.mapTurned w' B) : w'.heap.size = w.heap.size := by
  obtain ⟨es, clock, es', clock', hb, rfl⟩ := hm
  simp [ChangeMaps.setBlock]
set_option maxHeartbeats 1000000 in
theorem pswap_ne (g l q cap B n i j : Nat) (Z : Nat → Prop) (f : Nat → En) (p : Nat → Option Nat) (w : World) (hP : PileI w Z g l q cap B n f p) (hi : i < n) (hj : j < n) (hne : i ≠ j) : Calls Try.prog 56 #[.pointer (some ⟨g, 0, none⟩), .int .i64 (i : Nat), .int .i64 (j : Nat)] w fun e w' => e = .returned (.tuple #[]) ∧ (∃ p', PileI w' Z g l q cap B n (swF f i j) p') ∧ Off Z w w' := by
  have HP : Hid (PileI w Z g l q cap B n f p ∧ i < n ∧ j < n) := ⟨hP, hi, hj⟩
  have c0 := hP.c0
  have a0 := hP.rw.c0 i hi
  have a1 := hP.rw.c1 i hi
  have a2 := hP.rw.c2 i hi
  have b0 := hP.rw.c0 j hj
  have b1 := hP.rw.c1 j hj
  have b2 := hP.rw.c2 j hj
  have hl := hP.gl
  have hq := hP.rw.lt
  have fz := hP.rw.fz
  have gq := hP.gq
  have qg := hP.gq.symm
  have i1 : ((i : Nat) : Int) < (n : Nat) := by omega
  have i2 : ((j : Nat) : Int) < (n : Nat) := by omega
  obtain ⟨x, hx⟩ : ∃ x, x = f i := ⟨_, rfl⟩
  obtain ⟨y, hy⟩ : ∃ y, y = f j := ⟨_, rfl⟩
  rw [← hx] at a0 a1 a2
  rw [← hy] at b0 b1 b2
  have HX : Hid (x = f i ∧ y = f j) := ⟨hx, hy⟩
  clear hP hx hy
  go_enter Try.func56, Try.ntmps56
  go_wp2_with fail
  go_region
  change Exit.then _ _ Exit.normal _ (put3 (put3 w q i y) q j x).drew
  have HV : Hid (Rw (put3 (put3 w q i y) q j x) q cap n (swF f i j) ∧ Off Z w (put3 (put3 w q i y) q j x) ∧ (put3 (put3 w q i y) q j x).heap[g]? = w.heap[g]? ∧ (put3 (put3 w q i y) q j x).heap[B]? = w.heap[B]? ∧ (put3 (put3 w q i y) q j x).heap.size = w.heap.size) := by
    have hP := HP.out.1
    have e := putF_sw f i j
    rw [← HX.out.1, ← HX.out.2] at e
    rw [← e]
    exact ⟨(hP.rw.put HP.out.2.1 y).put HP.out.2.2 x, put3_off (put3_off (Off.refl Z w) hP.zq) hP.zq, (put3_block hP.gq).trans (put3_block hP.gq), (put3_block hP.qB.symm).trans (put3_block hP.qB.symm), (put3_size _ _ _ _).trans (put3_size _ _ _ _)⟩
  generalize put3 (put3 w q i y) q j x = V at *
  have HW : Hid (Rw V.drew q cap n (swF f i j) ∧ Off Z w V.drew ∧ V.drew.heap[g]? = w.heap[g]? ∧ V.drew.heap[B]? = w.heap[B]? ∧ V.drew.heap.size = w.heap.size) := ⟨HV.out.1.drew, off_drew HV.out.2.1, HV.out.2.2⟩
  clear HV
  generalize V.drew = W at *
  clear a0 a1 a2 b0 b1 b2 c0 hl hq fz
  have d0 : W.cell? ⟨g, 0, none⟩ = some (.slice (some ⟨q, 0, none⟩) n cap) := (World.cell?_of_block (w := w) (a := ⟨g, 0, none⟩) HW.out.2.2.1).trans HP.out.1.c0
  have d1 : W.cell? ⟨g, 1, none⟩ = some (.map (some B)) := (World.cell?_of_block (w := w) (a := ⟨g, 1, none⟩) HW.out.2.2.1).trans HP.out.1.c1
  have a0 := HW.out.1.c0 i HP.out.2.1
  have b0 := HW.out.1.c0 j HP.out.2.2
  rw [swF_l] at a0
  rw [swF_r] at b0
  obtain ⟨tx, htx⟩ : ∃ t, t = (f i).t := ⟨_, rfl⟩
  obtain ⟨ty, hty⟩ : ∃ t, t = (f j).t := ⟨_, rfl⟩
  rw [← hty] at a0
  rw [← htx] at b0
  have hM := HP.out.1.mp.block HW.out.2.2.2.1
  have hb1 : tx < 9223372036854775808 := by rw [htx]; have := HP.out.1.tb i HP.out.2.1; omega
  have hb2 : ty < 9223372036854775808 := by rw [hty]; have := HP.out.1.tb j HP.out.2.2; omega
  have p1 : p tx = some i := by rw [htx]; exact (HP.out.1.pl _ _).2 ⟨HP.out.2.1, rfl⟩
  have p2 : p ty = some j := by rw [hty]; exact (HP.out.1.pl _ _).2 ⟨HP.out.2.2, rfl⟩
  have hn : n ≤ 512 := HP.out.1.nb
  have hlt := HP.out.2
  obtain ⟨w1, hu1, hM1, hT1⟩ := (show MapT W.drew B n p from hM).update (by omega) hb2 (k := i) (by omega)
  rw [p2] at hM1
  have e1 : ∀ b o, b ≠ B → w1.cell? ⟨b, o, none⟩ = W.cell? ⟨b, o, none⟩ := fun b o hb => World.cell?_of_block (w := W.drew) (a := ⟨b, o, none⟩) (mapTurned_block hT1 hb)
  have p3 : ((upd p ty (some i)) tx).isSome = true := by
    by_cases c : tx = ty
    · rw [c, upd_s]; rfl
    · rw [upd_o c, p1]; rfl
  obtain ⟨w2, hu2, hM2, hT2⟩ := (show MapT w1.drew B _ _ from hM1).update (by simpa using (by omega : n < 1000)) hb1 (k := j) (by omega)
  rw [p3] at hM2
  have f0 : w1.cell? ⟨g, 0, none⟩ = _ := (e1 g 0 HP.out.1.gB).trans d0
  have f1 : w1.cell? ⟨g, 1, none⟩ = _ := (e1 g 1 HP.out.1.gB).trans d1
  have g0 : w1.cell? ⟨q, j * 3, none⟩ = _ := (e1 q _ HP.out.1.qB).trans b0
  have HE : Hid ((∃ p', PileI w2 Z g l q cap B n (swF f i j) p') ∧ Off Z w w2) := by
    have hP := HP.out.1
    have hz : w2.heap.size = W.heap.size := (show w2.heap.size = w1.heap.size from mapTurned_size (w := w1.drew) hT2).trans (mapTurned_size (w := W.drew) hT1)
    have kb : ∀ b, b ≠ B → w2.heap[b]? = W.heap[b]? := fun b hb => (show w2.heap[b]? = w1.heap[b]? from mapTurned_block (w := w1.drew) hT2 hb).trans (mapTurned_block (w := W.drew) hT1 hb)
    have kc : ∀ b o, b ≠ B → w2.cell? ⟨b, o, none⟩ = W.cell? ⟨b, o, none⟩ := fun b o hb => World.cell?_of_block (w := W) (a := ⟨b, o, none⟩) (kb b hb)
    refine ⟨⟨upd (upd p ty (some i)) tx (some j), ⟨hP.zg, hP.zq, hP.zB, hP.gq, hP.gB, hP.qB, ?_, (kc g 0 hP.gB).trans d0, (kc g 1 hP.gB).trans d1, fun o => ?_, HW.out.1.block (Nat.le_of_eq hz.symm) (kb q hP.qB), hM2, ?_, hP.nb, fun k hk => ?_, fun k hk => ?_, (kc g 2 hP.gB).trans ((World.cell?_of_block (w := w) (a := ⟨g, 2, none⟩) HW.out.2.2.1).trans hP.c2)⟩⟩, ?_⟩
    · rw [hz, HW.out.2.2.2.2]; exact hP.gl
    · exact (World.frozen?_of_block (w := W) (a := ⟨g, o, none⟩) (kb g hP.gB)).trans ((World.frozen?_of_block (w := w) (a := ⟨g, o, none⟩) HW.out.2.2.1).trans (hP.fg o))
    · rw [htx, hty]; exact hP.pl.sw hlt.1 hlt.2
    · obtain ⟨k', hk', e⟩ := ((Pm.sw n f hlt.1 hlt.2).1 _).1 ⟨k, hk, rfl⟩
      rw [← e]; exact hP.tb k' hk'
    · obtain ⟨k', hk', e⟩ := ((Pm.sw n f hlt.1 hlt.2).1 _).1 ⟨k, hk, rfl⟩
      rw [← e]; exact hP.mb k' hk'
    · exact mapTurned_off (off_drew (mapTurned_off (off_drew HW.out.2.1) hT1 hP.zB)) hT2 hP.zB
  clear hM hM1 hM2 hT1 hT2 p1 p2 p3 htx hty e1 hn hlt
  go_wp2_with fail
  go_region
  go_wp2_with fail
  go_region
  go_end0
  exact ⟨rfl, HE.out⟩
set_option maxHeartbeats 1000000 in
theorem pswap_eq (g l q cap B n i : Nat) (Z : Nat → Prop) (f : Nat → En) (p : Nat → Option Nat) (w : World) (hP : PileI w Z g l q cap B n f p) (hi : i < n) : Calls Try.prog 56 #[.pointer (some ⟨g, 0, none⟩), .int .i64 (i : Nat), .int .i64 (i : Nat)] w fun e w' => e = .returned (.tuple #[]) ∧ (∃ p', PileI w' Z g l q cap B n (swF f i i) p') ∧ Off Z w w' := by
  have HP : Hid (PileI w Z g l q cap B n f p ∧ i < n ∧ i < n) := ⟨hP, hi, hi⟩
  have c0 := hP.c0
  have a0 := hP.rw.c0 i hi
  have a1 := hP.rw.c1 i hi
  have a2 := hP.rw.c2 i hi
  have b0 := hP.rw.c0 i hi
  have b1 := hP.rw.c1 i hi
  have b2 := hP.rw.c2 i hi
  have hl := hP.gl
  have hq := hP.rw.lt
  have fz := hP.rw.fz
  have gq := hP.gq
  have qg := hP.gq.symm
  have i1 : ((i : Nat) : Int) < (n : Nat) := by omega
  have i2 : ((i : Nat) : Int) < (n : Nat) := by omega
  obtain ⟨x, hx⟩ : ∃ x, x = f i := ⟨_, rfl⟩
  obtain ⟨y, hy⟩ : ∃ y, y = f i := ⟨_, rfl⟩
  rw [← hx] at a0 a1 a2
  rw [← hy] at b0 b1 b2
  have HX : Hid (x = f i ∧ y = f i) := ⟨hx, hy⟩
  clear hP hx hy
  go_enter Try.func56, Try.ntmps56
  go_wp2_with fail
  go_region
  change Exit.then _ _ Exit.normal _ (put3 (put3 w q i x) q i x).drew
  have HV : Hid (Rw (put3 (put3 w q i x) q i x) q cap n (swF f i i) ∧ Off Z w (put3 (put3 w q i x) q i x) ∧ (put3 (put3 w q i x) q i x).heap[g]? = w.heap[g]? ∧ (put3 (put3 w q i x) q i x).heap[B]? = w.heap[B]? ∧ (put3 (put3 w q i x) q i x).heap.size = w.heap.size) := by
    have hP := HP.out.1
    have e := putF_sw f i i
    rw [← HX.out.1] at e
    rw [← e]
    exact ⟨(hP.rw.put HP.out.2.1 x).put HP.out.2.2 x, put3_off (put3_off (Off.refl Z w) hP.zq) hP.zq, (put3_block hP.gq).trans (put3_block hP.gq), (put3_block hP.qB.symm).trans (put3_block hP.qB.symm), (put3_size _ _ _ _).trans (put3_size _ _ _ _)⟩
  generalize put3 (put3 w q i x) q i x = V at *
  have HW : Hid (Rw V.drew q cap n (swF f i i) ∧ Off Z w V.drew ∧ V.drew.heap[g]? = w.heap[g]? ∧ V.drew.heap[B]? = w.heap[B]? ∧ V.drew.heap.size = w.heap.size) := ⟨HV.out.1.drew, off_drew HV.out.2.1, HV.out.2.2⟩
  clear HV
  generalize V.drew = W at *
  clear a0 a1 a2 b0 b1 b2 c0 hl hq fz
  have d0 : W.cell? ⟨g, 0, none⟩ = some (.slice (some ⟨q, 0, none⟩) n cap) := (World.cell?_of_block (w := w) (a := ⟨g, 0, none⟩) HW.out.2.2.1).trans HP.out.1.c0
  have d1 : W.cell? ⟨g, 1, none⟩ = some (.map (some B)) := (World.cell?_of_block (w := w) (a := ⟨g, 1, none⟩) HW.out.2.2.1).trans HP.out.1.c1
  have a0 := HW.out.1.c0 i HP.out.2.1
  have b0 := HW.out.1.c0 i HP.out.2.2
  rw [swF_l] at a0
  rw [swF_r] at b0
  obtain ⟨tx, htx⟩ : ∃ t, t = (f i).t := ⟨_, rfl⟩
  rw [← htx] at a0 b0
  have hM := HP.out.1.mp.block HW.out.2.2.2.1
  have hb1 : tx < 9223372036854775808 := by rw [htx]; have := HP.out.1.tb i HP.out.2.1; omega
  have hb2 : tx < 9223372036854775808 := by rw [htx]; have := HP.out.1.tb i HP.out.2.2; omega
  have p1 : p tx = some i := by rw [htx]; exact (HP.out.1.pl _ _).2 ⟨HP.out.2.1, rfl⟩
  have p2 : p tx = some i := by rw [htx]; exact (HP.out.1.pl _ _).2 ⟨HP.out.2.2, rfl⟩
  have hn : n ≤ 512 := HP.out.1.nb
  have hlt := HP.out.2
  obtain ⟨w1, hu1, hM1, hT1⟩ := (show MapT W.drew B n p from hM).update (by omega) hb2 (k := i) (by omega)
  rw [p2] at hM1
  have e1 : ∀ b o, b ≠ B → w1.cell? ⟨b, o, none⟩ = W.cell? ⟨b, o, none⟩ := fun b o hb => World.cell?_of_block (w := W.drew) (a := ⟨b, o, none⟩) (mapTurned_block hT1 hb)
  have p3 : ((upd p tx (some i)) tx).isSome = true := by
    by_cases c : tx = tx
    · rw [c, upd_s]; rfl
    · rw [upd_o c, p1]; rfl
  obtain ⟨w2, hu2, hM2, hT2⟩ := (show MapT w1.drew B _ _ from hM1).update (by simpa using (by omega : n < 1000)) hb1 (k := i) (by omega)
  rw [p3] at hM2
  have f0 : w1.cell? ⟨g, 0, none⟩ = _ := (e1 g 0 HP.out.1.gB).trans d0
  have f1 : w1.cell? ⟨g, 1, none⟩ = _ := (e1 g 1 HP.out.1.gB).trans d1
  have g0 : w1.cell? ⟨q, i * 3, none⟩ = _ := (e1 q _ HP.out.1.qB).trans b0
  have HE : Hid ((∃ p', PileI w2 Z g l q cap B n (swF f i i) p') ∧ Off Z w w2) := by
    have hP := HP.out.1
    have hz : w2.heap.size = W.heap.size := (show w2.heap.size = w1.heap.size from mapTurned_size (w := w1.drew) hT2).trans (mapTurned_size (w := W.drew) hT1)
    have kb : ∀ b, b ≠ B → w2.heap[b]? = W.heap[b]? := fun b hb => (show w2.heap[b]? = w1.heap[b]? from mapTurned_block (w := w1.drew) hT2 hb).trans (mapTurned_block (w := W.drew) hT1 hb)
    have kc : ∀ b o, b ≠ B → w2.cell? ⟨b, o, none⟩ = W.cell? ⟨b, o, none⟩ := fun b o hb => World.cell?_of_block (w := W) (a := ⟨b, o, none⟩) (kb b hb)
    refine ⟨⟨upd (upd p tx (some i)) tx (some i), ⟨hP.zg, hP.zq, hP.zB, hP.gq, hP.gB, hP.qB, ?_, (kc g 0 hP.gB).trans d0, (kc g 1 hP.gB).trans d1, fun o => ?_, HW.out.1.block (Nat.le_of_eq hz.symm) (kb q hP.qB), hM2, ?_, hP.nb, fun k hk => ?_, fun k hk => ?_, (kc g 2 hP.gB).trans ((World.cell?_of_block (w := w) (a := ⟨g, 2, none⟩) HW.out.2.2.1).trans hP.c2)⟩⟩, ?_⟩
    · rw [hz, HW.out.2.2.2.2]; exact hP.gl
    · exact (World.frozen?_of_block (w := W) (a := ⟨g, o, none⟩) (kb g hP.gB)).trans ((World.frozen?_of_block (w := w) (a := ⟨g, o, none⟩) HW.out.2.2.1).trans (hP.fg o))
    · rw [htx]; exact hP.pl.sw hlt.1 hlt.2
    · obtain ⟨k', hk', e⟩ := ((Pm.sw n f hlt.1 hlt.2).1 _).1 ⟨k, hk, rfl⟩
      rw [← e]; exact hP.tb k' hk'
    · obtain ⟨k', hk', e⟩ := ((Pm.sw n f hlt.1 hlt.2).1 _).1 ⟨k, hk, rfl⟩
      rw [← e]; exact hP.mb k' hk'
    · exact mapTurned_off (off_drew (mapTurned_off (off_drew HW.out.2.1) hT1 hP.zB)) hT2 hP.zB
  clear hM hM1 hM2 hT1 hT2 p1 p2 p3 htx e1 hn hlt
  go_wp2_with fail
  go_region
  go_wp2_with fail
  go_region
  go_end0
  exact ⟨rfl, HE.out⟩
theorem pswap_in (g l q cap B n i j : Nat) (Z : Nat → Prop) (f : Nat → En) (p : Nat → Option Nat) (w : World) (hP : PileI w Z g l q cap B n f p) (hi : i < n) (hj : j < n) : Calls Try.prog 56 #[.pointer (some ⟨g, 0, none⟩), .int .i64 (i : Nat), .int .i64 (j : Nat)] w fun e w' => e = .returned (.tuple #[]) ∧ (∃ p', PileI w' Z g l q cap B n (swF f i j) p') ∧ Off Z w w' := by
  by_cases h : i = j
  · subst h; exact pswap_eq g l q cap B n i Z f p w hP hi
  · exact pswap_ne g l q cap B n i j Z f p w hP hi hj h
end Go.Proofs.Ytkgfeiigdhbddaa
