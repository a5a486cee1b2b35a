/- Package agenda: a pile's Pop. -/
import Derived.Test.YtkgfeiigdhbddaaAgB2
namespace Go.Proofs.Ytkgfeiigdhbddaa
open Go Go.RowKit Go.Lib Go.WideMaps Go.Maps
theorem Rw.less {w : World} {q cap n m : Nat} {f f' : Nat → En} (h : Rw w q cap n f) (hm : m ≤ n) (hf : ∀ k, k < m → f' k = f k) : Rw w q cap m f' :=
  ⟨h.lt, Nat.le_trans hm h.nc, h.cl, fun k hk => by rw [hf k hk]; exact h.c0 k (by omega), fun k hk => by rw [hf k hk]; exact h.c1 k (by omega), fun k hk => by rw [hf k hk]; exact h.c2 k (by omega), h.cs, h.fz⟩
def zeroE : En := ⟨0, 0, ⟨#[]⟩⟩
def enA (x : En) : Value := .iface 34 (.agg #[.int .i64 (x.t : Nat), .int .i64 (x.m : Nat), .string x.s])
theorem off_new0 {Z : Nat → Prop} {w w' : World} (h : Off Z w w') (hZ : ∀ k, w.heap.size ≤ k → Z k) : ∀ k, w'.heap.size ≤ k → Z k := fun k hk => hZ k (Nat.le_trans h.size hk)
set_option maxHeartbeats 1000000 in
theorem ppop_in (g l q cap B n N : Nat) (hN : N = n + 1) (Z : Nat → Prop) (f : Nat → En) (p : Nat → Option Nat) (w : World) (hZ : ∀ k, w.heap.size ≤ k → Z k) (hP : PileI w Z g l q cap B N f p) : Calls Try.prog 54 #[.pointer (some ⟨g, 0, none⟩)] w fun e w' => e = .returned (enA (f n)) ∧ (∃ p', PileI w' Z g l q cap B n f p') ∧ Off Z w w' := by
  have HP : Hid (PileI w Z g l q cap B N f p ∧ (∀ k, w.heap.size ≤ k → Z k) ∧ N = n + 1) := ⟨hP, hZ, hN⟩
  have c0 := hP.c0
  have c1 := hP.c1
  have a0 := hP.rw.c0 n (by omega)
  have a1 := hP.rw.c1 n (by omega)
  have a2 := hP.rw.c2 n (by omega)
  have hl := hP.gl
  have hq := hP.rw.lt
  have fz := hP.rw.fz
  have fg := hP.fg
  have gq := hP.gq
  have qg := hP.gq.symm
  have i1 : (N : Int) - 1 = (n : Int) := by omega
  have i2 : ((n : Nat) : Int) < (N : Nat) := by omega
  have i3 : ((n : Nat) : Int) ≤ (cap : Nat) := by have := hP.rw.nc; omega
  have i4 : ((N : Nat) : Int) ≤ 512 := by have := hP.nb; omega
  have i5 : n < N := by omega
  have i6 : n ≤ cap := by have := hP.rw.nc; omega
  obtain ⟨x, hx⟩ : ∃ x, x = f n := ⟨_, rfl⟩
  rw [← hx] at a0 a1 a2
  have HX : Hid (x = f n) := hx
  clear hP hx hZ hN
  go_enter Try.func54, Try.ntmps54
  go_wp2_with fail
  change Code.wp _ _ _ _ (((put3 w q n zeroE).setCell ⟨g, 0, none⟩ (.slice (some ⟨q, 0, none⟩) n cap)).alloc (.cells #[.int .i64 (x.t : Nat), .int .i64 (x.m : Nat), .string x.s] 34))
  have hz0 : ((put3 w q n zeroE).setCell ⟨g, 0, none⟩ (.slice (some ⟨q, 0, none⟩) n cap)).heap.size = w.heap.size := by rw [World.size_setCell, put3_size]
  have HV : Hid (Rw ((put3 w q n zeroE).setCell ⟨g, 0, none⟩ (.slice (some ⟨q, 0, none⟩) n cap)) q cap n f ∧ Off Z w ((put3 w q n zeroE).setCell ⟨g, 0, none⟩ (.slice (some ⟨q, 0, none⟩) n cap)) ∧ ((put3 w q n zeroE).setCell ⟨g, 0, none⟩ (.slice (some ⟨q, 0, none⟩) n cap)).cell? ⟨g, 0, none⟩ = some (.slice (some ⟨q, 0, none⟩) n cap) ∧ ((put3 w q n zeroE).setCell ⟨g, 0, none⟩ (.slice (some ⟨q, 0, none⟩) n cap)).cell? ⟨g, 1, none⟩ = some (.map (some B)) ∧ MapT ((put3 w q n zeroE).setCell ⟨g, 0, none⟩ (.slice (some ⟨q, 0, none⟩) n cap)) B N p ∧ (∀ o, ((put3 w q n zeroE).setCell ⟨g, 0, none⟩ (.slice (some ⟨q, 0, none⟩) n cap)).frozen? ⟨g, o, none⟩ = false) ∧ ((put3 w q n zeroE).setCell ⟨g, 0, none⟩ (.slice (some ⟨q, 0, none⟩) n cap)).heap.size = w.heap.size ∧ ((put3 w q n zeroE).setCell ⟨g, 0, none⟩ (.slice (some ⟨q, 0, none⟩) n cap)).cell? ⟨g, 2, none⟩ = some (.int .i64 (l : Nat))) := by
    have hP := HP.out.1
    have hR := (hP.rw.put (k := n) i5 zeroE).less (m := n) (f' := f) (Nat.le_of_lt i5) (fun k hk => (putF_o (by omega)).symm)
    have hcg : ∀ o, (put3 w q n zeroE).cell? ⟨g, o, none⟩ = w.cell? ⟨g, o, none⟩ := fun o => World.cell?_of_block (w := w) (a := ⟨g, o, none⟩) (put3_block gq)
    have hO := put3_off (k := n) (e := zeroE) (Off.refl Z w) hP.zq
    refine ⟨hR.block (by rw [World.size_setCell]; exact Nat.le_refl _) (Below.heap_setCell _ _ _ _ qg), ⟨hO.os, hO.tape, hO.output, by rw [hz0]; exact Nat.le_refl _, fun b hb => (Below.heap_setCell _ _ _ _ (fun (c : b = g) => hb (by rw [c]; exact hP.zg))).trans (hO.block b hb)⟩, World.cell?_setCell_same _ _ _ ((hcg 0).trans c0), (World.cell?_setCell_other _ _ _ _ (by intro c; injection c with _ c _; cases c)).trans ((hcg 1).trans c1), hP.mp.block ((Below.heap_setCell _ _ _ _ hP.gB.symm).trans (put3_block hP.qB.symm)), fun o => ?_, hz0, (World.cell?_setCell_other _ _ _ _ (by intro c; injection c with _ c _; cases c)).trans ((hcg 2).trans hP.c2)⟩
    rw [World.frozen?_setCell, put3_frozen]; exact fg o
  generalize (put3 w q n zeroE).setCell ⟨g, 0, none⟩ (.slice (some ⟨q, 0, none⟩) n cap) = V at *
  have HW : Hid (Rw (V.alloc (.cells #[.int .i64 (x.t : Nat), .int .i64 (x.m : Nat), .string x.s] 34)) q cap n f ∧ Off Z w (V.alloc (.cells #[.int .i64 (x.t : Nat), .int .i64 (x.m : Nat), .string x.s] 34)) ∧ (∀ b, b < V.heap.size → (V.alloc (.cells #[.int .i64 (x.t : Nat), .int .i64 (x.m : Nat), .string x.s] 34)).heap[b]? = V.heap[b]?) ∧ V.heap.size < (V.alloc (.cells #[.int .i64 (x.t : Nat), .int .i64 (x.m : Nat), .string x.s] 34)).heap.size ∧ V.heap.size = w.heap.size) := by
    have hb : Below V.heap.size V (V.alloc (.cells #[.int .i64 (x.t : Nat), .int .i64 (x.m : Nat), .string x.s] 34)) := below_alloc0 (Below.refl _ _) _
    exact ⟨HV.out.1.block hb.size (hb.block q HV.out.1.lt), HV.out.2.1.trans (Off.of_below hb (off_new0 HV.out.2.1 HP.out.2.1)), fun b h => hb.block b h, by simp, hz0⟩
  have x0 : (V.alloc (.cells #[.int .i64 (x.t : Nat), .int .i64 (x.m : Nat), .string x.s] 34)).cell? ⟨V.heap.size, 0, none⟩ = some (.int .i64 (x.t : Nat)) := by rw [World.cell?_alloc_new]; rfl
  have x1 : (V.alloc (.cells #[.int .i64 (x.t : Nat), .int .i64 (x.m : Nat), .string x.s] 34)).cell? ⟨V.heap.size, 1, none⟩ = some (.int .i64 (x.m : Nat)) := by rw [World.cell?_alloc_new]; rfl
  have x2 : (V.alloc (.cells #[.int .i64 (x.t : Nat), .int .i64 (x.m : Nat), .string x.s] 34)).cell? ⟨V.heap.size, 2, none⟩ = some (.string x.s) := by rw [World.cell?_alloc_new]; rfl
  generalize V.alloc (.cells #[.int .i64 (x.t : Nat), .int .i64 (x.m : Nat), .string x.s] 34) = W at *
  have hgl : g < V.heap.size := by rw [hz0]; exact hl
  have d1 : W.cell? ⟨g, 1, none⟩ = some (.map (some B)) := (World.cell?_of_block (w := V) (a := ⟨g, 1, none⟩) (HW.out.2.2.1 g hgl)).trans HV.out.2.2.2.1
  have hM : MapT W.drew B (n + 1) p := by
    have := HV.out.2.2.2.2.1
    rw [HP.out.2.2] at this
    exact this.block (HW.out.2.2.1 B (by rw [hz0]; exact HP.out.1.mp.lt))
  have hxt : x.t < 4611686018427387904 := by rw [HX.out]; exact HP.out.1.tb n i5
  have hpx : p x.t = some n := by rw [HX.out]; exact (HP.out.1.pl _ _).2 ⟨i5, rfl⟩
  obtain ⟨w1, hdel, hM1, hT1⟩ := hM.drop (t := x.t) (by omega) (by rw [hpx]; rfl) 0
  have hE : w.heap.size ≠ B := by have := HP.out.1.mp.lt; omega
  rw [hz0] at x0 x1 x2
  have e1 : ∀ b o, b ≠ B → w1.cell? ⟨b, o, none⟩ = W.cell? ⟨b, o, none⟩ := fun b o hb => World.cell?_of_block (w := W.drew) (a := ⟨b, o, none⟩) (mapTurned_block hT1 hb)
  have y0 := (e1 _ 0 hE).trans x0
  have y1 := (e1 _ 1 hE).trans x1
  have y2 := (e1 _ 2 hE).trans x2
  have HE : Hid ((∃ p', PileI w1 Z g l q cap B n f p') ∧ Off Z w w1) := by
    have hP := HP.out.1
    have hN := HP.out.2.2
    have kb : ∀ b, b ≠ B → w1.heap[b]? = W.heap[b]? := fun b hb => mapTurned_block (w := W.drew) hT1 hb
    have hs : w1.heap.size = W.heap.size := mapTurned_size (w := W.drew) hT1
    have hpl := hP.pl
    rw [hN] at hpl
    refine ⟨⟨upd p x.t none, ⟨hP.zg, hP.zq, hP.zB, hP.gq, hP.gB, hP.qB, ?_, (e1 g 0 hP.gB).trans ((World.cell?_of_block (w := V) (a := ⟨g, 0, none⟩) (HW.out.2.2.1 g hgl)).trans HV.out.2.2.1), (e1 g 1 hP.gB).trans d1, fun o => ?_, HW.out.1.block (Nat.le_of_eq hs.symm) (kb q hP.qB), hM1, ?_, by have := hP.nb; omega, fun k hk => hP.tb k (by omega), fun k hk => hP.mb k (by omega), (e1 g 2 hP.gB).trans ((World.cell?_of_block (w := V) (a := ⟨g, 2, none⟩) (HW.out.2.2.1 g hgl)).trans HV.out.2.2.2.2.2.2.2)⟩⟩, mapTurned_off (off_drew HW.out.2.1) hT1 hP.zB⟩
    · rw [hs]; have := HW.out.2.2.2.1; omega
    · exact (World.frozen?_of_block (w := W) (a := ⟨g, o, none⟩) (kb g hP.gB)).trans ((World.frozen?_of_block (w := V) (a := ⟨g, o, none⟩) (HW.out.2.2.1 g hgl)).trans (HV.out.2.2.2.2.2.1 o))
    · rw [HX.out]; exact hpl.pop
  clear hM hM1 hT1 e1 c0 c1 a0 a1 a2 hpx hE hgl fz fg hz0
  go_region
  go_wp2_with fail
  go_ret
  exact ⟨by rw [← HX.out]; rfl, HE.out⟩
end Go.Proofs.Ytkgfeiigdhbddaa
