/- Package agenda: a pile's Push. -/
import Derived.Test.YtkgfeiigdhbddaaAgD
import Derived.Test.YtkgfeiigdhbddaaAgE1
import Derived.Deep.RegionLaw
namespace Go.Proofs.Ytkgfeiigdhbddaa
open Go Go.RowKit Go.Lib Go.WideMaps Go.Maps
/-- A pile to which nothing was put yet. -/
structure PileF (w : World) (Z : Nat → Prop) (g l : Nat) : Prop where
  zg : Z g
  gl : g < w.heap.size
  c0 : w.cell? ⟨g, 0, none⟩ = some (.slice none 0 0)
  c1 : w.cell? ⟨g, 1, none⟩ = some (.map none)
  fg : ∀ o, w.frozen? ⟨g, o, none⟩ = false
  c2 : w.cell? ⟨g, 2, none⟩ = some (.int .i64 (l : Nat))
theorem PileF.keep {w w' : World} {Z : Nat → Prop} {g l : Nat} (h : PileF w Z g l) (hz : w.heap.size ≤ w'.heap.size) (h1 : w'.heap[g]? = w.heap[g]?) : PileF w' Z g l :=
  ⟨h.zg, Nat.lt_of_lt_of_le h.gl hz, (World.cell?_of_block (w := w) (a := ⟨g, 0, none⟩) h1).trans h.c0, (World.cell?_of_block (w := w) (a := ⟨g, 1, none⟩) h1).trans h.c1, fun o => (World.frozen?_of_block (w := w) (a := ⟨g, o, none⟩) h1).trans (h.fg o), (World.cell?_of_block (w := w) (a := ⟨g, 2, none⟩) h1).trans h.c2⟩
theorem push_end {w1 w9 : World} {o : Obj} {Z : Nat → Prop} {g l B n q' cap' : Nat} {a : Option Addr} {p' : Nat → Option Nat} {f' : Nat → En} (hZ : ∀ k, w1.heap.size ≤ k → Z k) (zg : Z g) (zB : Z B) (gB : g ≠ B) (gl : g < w1.heap.size) (hM : MapT w1 B (n + 1) p')
    {v : Value} (c0 : w1.cell? ⟨g, 0, none⟩ = some v) (c1 : w1.cell? ⟨g, 1, none⟩ = some (.map (some B))) (c2 : w1.cell? ⟨g, 2, none⟩ = some (.int .i64 (l : Nat))) (fg : ∀ o, w1.frozen? ⟨g, o, none⟩ = false) (ha : ∀ q, a = some ⟨q, 0, none⟩ → Z q ∧ g ≠ q ∧ q ≠ B)
    (hA : AppR (w1.alloc o).drew w9 a q' cap' (n + 1) f') (pl : PlIs p' f' (n + 1)) (nb : n + 1 ≤ 512) (tb : ∀ k, k < n + 1 → (f' k).t < 4611686018427387904) (mb : ∀ k, k < n + 1 → (f' k).m ≤ 1099511627776) :
    PileI (w9.setCell ⟨g, 0, none⟩ (.slice (some ⟨q', 0, none⟩) (n + 1) cap')) Z g l q' cap' B (n + 1) f' p' ∧ Off Z w1 (w9.setCell ⟨g, 0, none⟩ (.slice (some ⟨q', 0, none⟩) (n + 1) cap')) ∧ w9.cell? ⟨g, 0, none⟩ = some v ∧ w9.frozen? ⟨g, 0, none⟩ = false := by
  have hb : Below w1.heap.size w1 (w1.alloc o) := below_alloc0 (Below.refl _ _) _
  have hsz : w1.heap.size ≤ w9.heap.size := Nat.le_trans hb.size hA.size
  have kb : ∀ b, b < w1.heap.size → a ≠ some ⟨b, 0, none⟩ → w9.heap[b]? = w1.heap[b]? := fun b h1 h2 => (hA.block b (Nat.lt_of_lt_of_le h1 hb.size) h2).trans (hb.block b h1)
  have kg := kb g gl (fun c => (ha g c).2.1 rfl)
  have kB := kb B hM.lt (fun c => (ha B c).2.2 rfl)
  have hq : Z q' ∧ g ≠ q' ∧ q' ≠ B := by
    rcases hA.own with h | h
    · exact ha q' h
    · have h' : w1.heap.size ≤ q' := Nat.le_trans hb.size h
      have := hM.lt
      exact ⟨hZ q' h', by omega, by omega⟩
  have g0 : w9.cell? ⟨g, 0, none⟩ = some v := (World.cell?_of_block (w := w1) (a := ⟨g, 0, none⟩) kg).trans c0
  refine ⟨⟨zg, hq.1, zB, hq.2.1, gB, hq.2.2, ?_, World.cell?_setCell_same _ _ _ g0, (World.cell?_setCell_other _ _ _ _ (by intro c; injection c with _ c _; cases c)).trans ((World.cell?_of_block (w := w1) (a := ⟨g, 1, none⟩) kg).trans c1), fun o => ?_, hA.row.block (by rw [World.size_setCell]; exact Nat.le_refl _) (Below.heap_setCell _ _ _ _ hq.2.1.symm), hM.block ((Below.heap_setCell _ _ _ _ gB.symm).trans kB), pl, nb, tb, mb, (World.cell?_setCell_other _ _ _ _ (by intro c; injection c with _ c _; cases c)).trans ((World.cell?_of_block (w := w1) (a := ⟨g, 2, none⟩) kg).trans c2)⟩, ⟨?_, ?_, ?_, ?_, fun b hb' => ?_⟩, g0, (World.frozen?_of_block (w := w1) (a := ⟨g, 0, none⟩) kg).trans (fg 0)⟩
  · rw [World.size_setCell]; omega
  · rw [World.frozen?_setCell]; exact (World.frozen?_of_block (w := w1) (a := ⟨g, o, none⟩) kg).trans (fg o)
  · exact hA.os.trans hb.os
  · exact hA.tape.trans hb.tape
  · exact hA.output.trans hb.output
  · rw [World.size_setCell]; exact hsz
  · rw [Below.heap_setCell _ _ _ _ (fun (c : b = g) => hb' (by rw [c]; exact zg))]
    by_cases c : b < w1.heap.size
    · exact kb b c (fun c2 => hb' (ha b c2).1)
    · exact absurd (hZ b (by omega)) hb'
theorem assert_en (x : En) (w : World) : (Instr.typeAssert (.iface 34 (.agg #[.int .i64 (x.t : Nat), .int .i64 (x.m : Nat), .string x.s])) 20 34 true).run Try.prog w = .ok (.tuple #[.agg #[.int .i64 (x.t : Nat), .int .i64 (x.m : Nat), .string x.s], .bool true]) w := by kernel_rfl
/-- An append whose run is known, at a step of a region that draws its order. -/
theorem step_append_run {P : Program} {w w' : World} {ops : Array Oper} {o : Oper} {a : Act} {K : Act → World → Prop} {Q : Exit → Act → World → Prop} {E : Prop} (hgd : o.guard = none) (s x : Operand) (t : TypeId) (ho : o.op = .call { callee := .builtin .append, args := #[s, x], argTypes := #[t, t] }) {v1 v2 v : Value} (h1 : a.eval s = v1) (h2 : a.eval x = v2) (hrun : (Builtin.append_ #[t, t] o.type #[v1, v2]).run P w = .ok v w') (h : K (a.put o.dst v) w') :
    if Region.wanted o (yielded ops a.tmps) = true then Oper.wp P o a w K Q else E := by
  have hw : Region.wanted o (yielded ops a.tmps) = true := by simp [Region.wanted, hgd]
  rw [if_pos hw]
  unfold Oper.wp
  simp [execOp, ho, resolve, invoke, builtin, h1, h2, hrun, Result.andThen]
  exact h
theorem eq_map0 (w : World) : Sem.run Try.prog (binOp .eql 52 (.map none) (.map none)) w = .ok (.bool true) w := by kernel_rfl
theorem eq_map1 (B : Nat) (w : World) : Sem.run Try.prog (binOp .eql 52 (.map (some B)) (.map none)) w = .ok (.bool false) w := by kernel_rfl
set_option maxHeartbeats 2000000 in
theorem ppush_in (g l q cap B n : Nat) (Z : Nat → Prop) (f : Nat → En) (p : Nat → Option Nat) (x : En) (w : World) (hZ : ∀ k, w.heap.size ≤ k → Z k) (hP : PileI w Z g l q cap B n f p) (hn : n < 512) (ht : x.t < 4611686018427387904) (hm : x.m ≤ 1099511627776) (hx : ∀ k, k < n → (f k).t ≠ x.t) : Calls Try.prog 55 #[.pointer (some ⟨g, 0, none⟩), enA x] w fun e w' => e = .returned (.tuple #[]) ∧ (∃ q cap B p', PileI w' Z g l q cap B (n + 1) (putF f n x) p') ∧ Off Z w w' := by
  have HT : Hid ((∀ k, w.heap.size ≤ k → Z k) ∧ n < 512 ∧ x.t < 4611686018427387904 ∧ x.m ≤ 1099511627776 ∧ p x.t = none) := ⟨hZ, hn, ht, hm, by
    cases e : p x.t with
    | none => rfl
    | some k => have := (hP.pl _ _).1 e; exact absurd this.2 (hx k this.1)⟩
  have HP : Hid (PileI w Z g l q cap B n f p) := hP
  have HPL : Hid (PlIs (upd p x.t (some n)) (putF f n x) (n + 1) ∧ (∀ k, k < n + 1 → (putF f n x k).t < 4611686018427387904) ∧ ∀ k, k < n + 1 → (putF f n x k).m ≤ 1099511627776) := ⟨hP.pl.push hx, fun k hk => by
    by_cases c : k = n
    · rw [c, putF_s]; exact ht
    · rw [putF_o c]; exact hP.tb k (by omega), fun k hk => by
    by_cases c : k = n
    · rw [c, putF_s]; exact hm
    · rw [putF_o c]; exact hP.mb k (by omega)⟩
  have c0 := hP.c0
  have c1 := hP.c1
  have hl := hP.gl
  clear hP hZ hn ht hm hx
  have hta := assert_en x
  have hq0 := eq_map0
  have hq1 := eq_map1
  unfold enA
  go_enter Try.func55, Try.ntmps55
  go_wp2_with fail
  have HG : Hid (g ≠ B ∧ w.heap.size ≠ B ∧ Off Z w (w.alloc (.cells #[.int .i64 (x.t : Nat), .int .i64 (x.m : Nat), .string x.s] 34)) ∧ Z B ∧ (Z g ∧ g < (w.alloc (.cells #[.int .i64 (x.t : Nat), .int .i64 (x.m : Nat), .string x.s] 34)).heap.size ∧ ∀ o, (w.alloc (.cells #[.int .i64 (x.t : Nat), .int .i64 (x.m : Nat), .string x.s] 34)).frozen? ⟨g, o, none⟩ = false) ∧ MapT (w.alloc (.cells #[.int .i64 (x.t : Nat), .int .i64 (x.m : Nat), .string x.s] 34)) B n p ∧ RwO (w.alloc (.cells #[.int .i64 (x.t : Nat), .int .i64 (x.m : Nat), .string x.s] 34)) (some ⟨q, 0, none⟩) cap n f ∧ ∀ q', some (⟨q, 0, none⟩ : Addr) = some ⟨q', 0, none⟩ → Z q' ∧ g ≠ q' ∧ q' ≠ B) := by
    have hP := HP.out
    have hb : Below w.heap.size w (w.alloc (.cells #[.int .i64 (x.t : Nat), .int .i64 (x.m : Nat), .string x.s] 34)) := below_alloc0 (Below.refl _ _) _
    have hP2 := hP.call hb
    exact ⟨hP.gB, by have := hP.mp.lt; omega, Off.of_below hb HT.out.1, hP.zB, ⟨hP.zg, hP2.gl, hP2.fg⟩, hP2.mp, .inr ⟨q, rfl, hP2.rw⟩, fun q' h => by cases h; exact ⟨hP.zq, hP.gq, hP.qB⟩⟩
  have d0 : (w.alloc (.cells #[.int .i64 (x.t : Nat), .int .i64 (x.m : Nat), .string x.s] 34)).cell? ⟨g, 0, none⟩ = _ := ((below_alloc0 (Below.refl w.heap.size w) _).cell (p := ⟨g, 0, none⟩) hl).trans c0
  have d1 : (w.alloc (.cells #[.int .i64 (x.t : Nat), .int .i64 (x.m : Nat), .string x.s] 34)).cell? ⟨g, 1, none⟩ = _ := ((below_alloc0 (Below.refl w.heap.size w) _).cell (p := ⟨g, 1, none⟩) hl).trans c1
  have d2 : (w.alloc (.cells #[.int .i64 (x.t : Nat), .int .i64 (x.m : Nat), .string x.s] 34)).cell? ⟨g, 2, none⟩ = _ := ((below_alloc0 (Below.refl w.heap.size w) _).cell (p := ⟨g, 2, none⟩) hl).trans HP.out.c2
  have x0 : (w.alloc (.cells #[.int .i64 (x.t : Nat), .int .i64 (x.m : Nat), .string x.s] 34)).cell? ⟨w.heap.size, 0, none⟩ = some (.int .i64 (x.t : Nat)) := by rw [World.cell?_alloc_new]; rfl
  have x1 : (w.alloc (.cells #[.int .i64 (x.t : Nat), .int .i64 (x.m : Nat), .string x.s] 34)).cell? ⟨w.heap.size, 1, none⟩ = some (.int .i64 (x.m : Nat)) := by rw [World.cell?_alloc_new]; rfl
  have x2 : (w.alloc (.cells #[.int .i64 (x.t : Nat), .int .i64 (x.m : Nat), .string x.s] 34)).cell? ⟨w.heap.size, 2, none⟩ = some (.string x.s) := by rw [World.cell?_alloc_new]; rfl
  generalize w.alloc (.cells #[.int .i64 (x.t : Nat), .int .i64 (x.m : Nat), .string x.s] 34) = W at *
  clear c0 c1 hl
  have hM : MapT W.drew B n p := HG.out.2.2.2.2.2.1
  have hpx : p x.t = none := HT.out.2.2.2.2
  obtain ⟨w1, hup, hM1, hT1⟩ := hM.update (t := x.t) (k := n) (by have := HT.out; omega) (by have := HT.out; omega) (by have := HT.out; omega)
  rw [hpx] at hM1
  have e1 : ∀ b o, b ≠ B → w1.cell? ⟨b, o, none⟩ = W.cell? ⟨b, o, none⟩ := fun b o hb => World.cell?_of_block (w := W.drew) (a := ⟨b, o, none⟩) (mapTurned_block hT1 hb)
  have k1 : ∀ b, b ≠ B → w1.heap[b]? = W.heap[b]? := fun b hb => mapTurned_block (w := W.drew) hT1 hb
  have s1 : w1.heap.size = W.heap.size := mapTurned_size (w := W.drew) hT1
  have f0 := (e1 g 0 HG.out.1).trans d0
  have f1 := (e1 g 1 HG.out.1).trans d1
  have f2 := (e1 g 2 HG.out.1).trans d2
  have y0 := (e1 _ 0 HG.out.2.1).trans x0
  have y1 := (e1 _ 1 HG.out.2.1).trans x1
  have y2 := (e1 _ 2 HG.out.2.1).trans x2
  have hb2 : Below w1.heap.size w1 (w1.alloc (.cells #[.int .i64 (x.t : Nat), .int .i64 (x.m : Nat), .string x.s] 34)) := below_alloc0 (Below.refl _ _) _
  have hR : RwO (w1.alloc (.cells #[.int .i64 (x.t : Nat), .int .i64 (x.m : Nat), .string x.s] 34)).drew (some ⟨q, 0, none⟩) cap n f := by
    have h1 : RwO w1 (some ⟨q, 0, none⟩) cap n f := HG.out.2.2.2.2.2.2.1.block (Nat.le_of_eq s1.symm) (fun q hq _ => k1 q (HG.out.2.2.2.2.2.2.2 q hq).2.2)
    exact (h1.call hb2).block (Nat.le_refl _) (fun _ _ _ => rfl)
  obtain ⟨q', cap', w9, happ, hA⟩ := run_append_Rw (w1.alloc (.cells #[.int .i64 (x.t : Nat), .int .i64 (x.m : Nat), .string x.s] 34)).drew 47 47 34 enI_code (some ⟨q, 0, none⟩) cap n f x hR (by have := HT.out; omega) w1.heap.size 1 (fun j u hj => by
    show (w1.alloc (.cells #[.int .i64 (x.t : Nat), .int .i64 (x.m : Nat), .string x.s] 34)).cell? ⟨w1.heap.size, j, none⟩ = some u
    rw [World.cell?_alloc_new, List.getElem?_toArray]; exact hj)
  have hO1 : Off Z w w1 := mapTurned_off (off_drew HG.out.2.2.1) hT1 HG.out.2.2.2.1
  have hEnd := push_end (off_new0 hO1 HT.out.1) HG.out.2.2.2.2.1.1 HG.out.2.2.2.1 HG.out.1 (by rw [s1]; exact HG.out.2.2.2.2.1.2.1) hM1 f0 f1 f2 (fun o => (World.frozen?_of_block (w := W) (a := ⟨g, o, none⟩) (k1 g HG.out.1)).trans (HG.out.2.2.2.2.1.2.2 o)) HG.out.2.2.2.2.2.2.2 hA (HPL.out.1) (by have := HT.out; omega) HPL.out.2.1 HPL.out.2.2
  have HE : Hid (∃ q cap B p', PileI (w9.setCell ⟨g, 0, none⟩ (.slice (some ⟨q', 0, none⟩) (n + 1) cap')) Z g l q cap B (n + 1) (putF f n x) p') := ⟨q', cap', B, _, hEnd.1⟩
  have HO : Hid (Off Z w (w9.setCell ⟨g, 0, none⟩ (.slice (some ⟨q', 0, none⟩) (n + 1) cap'))) := hO1.trans hEnd.2.1
  have g9 := hEnd.2.2.1
  have z9 := hEnd.2.2.2
  have gl1 : g < w1.heap.size := by rw [s1]; exact HG.out.2.2.2.2.1.2.1
  obtain ⟨n1, hn1⟩ : ∃ n1, n1 = n + 1 := ⟨_, rfl⟩
  have HN1 : Hid (n1 = n + 1) := hn1
  rw [← hn1] at happ
  clear hM hM1 hT1 e1 k1 s1 hb2 hR hA hO1 hEnd hpx hn1 f2 d2
  go_region
  go_wp2_with fail
  go_region_law (refine step_append_run rfl (.tmp 37) (.tmp 39) 47 rfl (by simp [Act.eval]) (by simp [Act.eval]) happ ?_)
  all_goals
    rw [HN1.out]
    go_end0
    exact ⟨rfl, HE.out, HO.out⟩
set_option maxHeartbeats 2000000 in
theorem ppush_new (g l n : Nat) (hn0 : n = 0) (Z : Nat → Prop) (f : Nat → En) (x : En) (w : World) (hZ : ∀ k, w.heap.size ≤ k → Z k) (hP : PileF w Z g l) (ht : x.t < 4611686018427387904) (hm : x.m ≤ 1099511627776) : Calls Try.prog 55 #[.pointer (some ⟨g, 0, none⟩), enA x] w fun e w' => e = .returned (.tuple #[]) ∧ (∃ q cap B p', PileI w' Z g l q cap B (n + 1) (putF f n x) p') ∧ Off Z w w' := by
  have HT : Hid ((∀ k, w.heap.size ≤ k → Z k) ∧ n < 512 ∧ x.t < 4611686018427387904 ∧ x.m ≤ 1099511627776) := ⟨hZ, by omega, ht, hm⟩
  have HP : Hid (PileF w Z g l ∧ n = 0) := ⟨hP, hn0⟩
  have HPL : Hid (PlIs (upd (fun _ => none) x.t (some n)) (putF f n x) (n + 1) ∧ (∀ k, k < n + 1 → (putF f n x k).t < 4611686018427387904) ∧ ∀ k, k < n + 1 → (putF f n x k).m ≤ 1099511627776) := by
    subst hn0
    exact ⟨(PlIs.zero f).push (fun k hk => by omega), fun k hk => by
      obtain rfl : k = 0 := by omega
      rw [putF_s]; exact ht, fun k hk => by
      obtain rfl : k = 0 := by omega
      rw [putF_s]; exact hm⟩
  have c0 : w.cell? ⟨g, 0, none⟩ = some (.slice none n 0) := by rw [hn0]; exact hP.c0
  have c1 := hP.c1
  have hl := hP.gl
  have fg := hP.fg
  have hmm := @run_makeMap Try.prog
  clear hP hZ ht hm hn0
  have hta := assert_en x
  have hq0 := eq_map0
  have hq1 := eq_map1
  unfold enA
  go_enter Try.func55, Try.ntmps55
  go_wp2_with fail
  obtain ⟨B, hB⟩ : ∃ B, B = w.heap.size + 1 := ⟨_, rfl⟩
  rw [← hB]
  have hbz : Below (w.setCell ⟨g, 1, none⟩ (.map (some B))).heap.size (w.setCell ⟨g, 1, none⟩ (.map (some B))) ((w.setCell ⟨g, 1, none⟩ (.map (some B))).alloc (.cells #[.int .i64 (x.t : Nat), .int .i64 (x.m : Nat), .string x.s] 34)) := below_alloc0 (Below.refl _ _) _
  have x0 : ((w.setCell ⟨g, 1, none⟩ (.map (some B))).alloc (.cells #[.int .i64 (x.t : Nat), .int .i64 (x.m : Nat), .string x.s] 34)).cell? ⟨(w.setCell ⟨g, 1, none⟩ (.map (some B))).heap.size, 0, none⟩ = some (.int .i64 (x.t : Nat)) := by rw [World.cell?_alloc_new]; rfl
  have x1 : ((w.setCell ⟨g, 1, none⟩ (.map (some B))).alloc (.cells #[.int .i64 (x.t : Nat), .int .i64 (x.m : Nat), .string x.s] 34)).cell? ⟨(w.setCell ⟨g, 1, none⟩ (.map (some B))).heap.size, 1, none⟩ = some (.int .i64 (x.m : Nat)) := by rw [World.cell?_alloc_new]; rfl
  have x2 : ((w.setCell ⟨g, 1, none⟩ (.map (some B))).alloc (.cells #[.int .i64 (x.t : Nat), .int .i64 (x.m : Nat), .string x.s] 34)).cell? ⟨(w.setCell ⟨g, 1, none⟩ (.map (some B))).heap.size, 2, none⟩ = some (.string x.s) := by rw [World.cell?_alloc_new]; rfl
  have hz1 : ((w.setCell ⟨g, 1, none⟩ (.map (some B))).alloc (.cells #[.int .i64 (x.t : Nat), .int .i64 (x.m : Nat), .string x.s] 34)).heap.size = B := by simp [hB]
  generalize (w.setCell ⟨g, 1, none⟩ (.map (some B))).alloc (.cells #[.int .i64 (x.t : Nat), .int .i64 (x.m : Nat), .string x.s] 34) = V at *
  rw [World.size_setCell] at x0 x1 x2 hbz
  have hbm : Below V.heap.size V (V.alloc (.map #[] 0)) := below_alloc0 (Below.refl _ _) _
  have v0 : V.cell? ⟨g, 0, none⟩ = some (.slice none n 0) := (hbz.cell (p := ⟨g, 0, none⟩) hl).trans ((World.cell?_setCell_other _ _ _ _ (by intro c; injection c with _ c _; cases c)).trans c0)
  have v1 : V.cell? ⟨g, 1, none⟩ = some (.map (some B)) := (hbz.cell (p := ⟨g, 1, none⟩) hl).trans (World.cell?_setCell_same _ _ _ c1)
  have v2 : V.cell? ⟨g, 2, none⟩ = some (.int .i64 (l : Nat)) := (hbz.cell (p := ⟨g, 2, none⟩) hl).trans ((World.cell?_setCell_other _ _ _ _ (by intro c; injection c with _ c _; cases c)).trans HP.out.1.c2)
  have vf : ∀ o, V.frozen? ⟨g, o, none⟩ = false := fun o => (hbz.frozen (p := ⟨g, o, none⟩) hl).trans (by rw [World.frozen?_setCell]; exact fg o)
  have hgV : g < V.heap.size := by omega
  have hO : Off Z w (V.alloc (.map #[] 0)) := by
    have hzs : w.heap.size ≤ (V.alloc (.map #[] 0)).heap.size := Nat.le_trans (by omega) hbm.size
    refine ⟨hbm.os.trans hbz.os, hbm.tape.trans hbz.tape, hbm.output.trans hbz.output, hzs, fun b hb => ?_⟩
    by_cases c : b < w.heap.size
    · exact (hbm.block b (by omega)).trans ((hbz.block b c).trans (Below.heap_setCell _ _ _ _ (fun (e : b = g) => hb (by rw [e]; exact HP.out.1.zg))))
    · exact absurd (HT.out.1 b (by omega)) hb
  have hMd := MapT.made V
  rw [hz1] at hMd
  have HG : Hid (g ≠ B ∧ w.heap.size ≠ B ∧ Off Z w (V.alloc (.map #[] 0)) ∧ Z B ∧ (Z g ∧ g < (V.alloc (.map #[] 0)).heap.size ∧ ∀ o, (V.alloc (.map #[] 0)).frozen? ⟨g, o, none⟩ = false) ∧ MapT (V.alloc (.map #[] 0)) B n (fun _ => none) ∧ RwO (V.alloc (.map #[] 0)) none 0 n f ∧ ∀ q', (none : Option Addr) = some ⟨q', 0, none⟩ → Z q' ∧ g ≠ q' ∧ q' ≠ B) :=
    ⟨by omega, by omega, hO, HT.out.1 B (by omega), ⟨HP.out.1.zg, Nat.lt_of_lt_of_le hgV hbm.size, fun o => (hbm.frozen (p := ⟨g, o, none⟩) hgV).trans (vf o)⟩, by rw [HP.out.2]; exact hMd, .inl ⟨rfl, HP.out.2, rfl⟩, fun q' h => by cases h⟩
  have d0 : (V.alloc (.map #[] 0)).cell? ⟨g, 0, none⟩ = _ := (hbm.cell (p := ⟨g, 0, none⟩) hgV).trans v0
  have d1 : (V.alloc (.map #[] 0)).cell? ⟨g, 1, none⟩ = _ := (hbm.cell (p := ⟨g, 1, none⟩) hgV).trans v1
  have d2 : (V.alloc (.map #[] 0)).cell? ⟨g, 2, none⟩ = _ := (hbm.cell (p := ⟨g, 2, none⟩) hgV).trans v2
  have hwV : w.heap.size < V.heap.size := by omega
  replace x0 : (V.alloc (.map #[] 0)).cell? ⟨w.heap.size, 0, none⟩ = _ := (hbm.cell (p := ⟨w.heap.size, 0, none⟩) hwV).trans x0
  replace x1 : (V.alloc (.map #[] 0)).cell? ⟨w.heap.size, 1, none⟩ = _ := (hbm.cell (p := ⟨w.heap.size, 1, none⟩) hwV).trans x1
  replace x2 : (V.alloc (.map #[] 0)).cell? ⟨w.heap.size, 2, none⟩ = _ := (hbm.cell (p := ⟨w.heap.size, 2, none⟩) hwV).trans x2
  clear hbz hbm v0 v1 v2 vf hgV hO hMd hz1 hwV hmm
  generalize V.alloc (.map #[] 0) = W at *
  clear c0 c1 hl fg hB
  have hM : MapT W.drew B n (fun _ => none : Nat → Option Nat) := HG.out.2.2.2.2.2.1
  have hpx : (fun _ => none : Nat → Option Nat) x.t = none := rfl
  obtain ⟨w1, hup, hM1, hT1⟩ := hM.update (t := x.t) (k := n) (by have := HT.out; omega) (by have := HT.out; omega) (by have := HT.out; omega)
  replace hM1 : MapT w1 B (n + 1) (upd (fun _ => none) x.t (some n)) := hM1
  have e1 : ∀ b o, b ≠ B → w1.cell? ⟨b, o, none⟩ = W.cell? ⟨b, o, none⟩ := fun b o hb => World.cell?_of_block (w := W.drew) (a := ⟨b, o, none⟩) (mapTurned_block hT1 hb)
  have k1 : ∀ b, b ≠ B → w1.heap[b]? = W.heap[b]? := fun b hb => mapTurned_block (w := W.drew) hT1 hb
  have s1 : w1.heap.size = W.heap.size := mapTurned_size (w := W.drew) hT1
  have f0 := (e1 g 0 HG.out.1).trans d0
  have f1 := (e1 g 1 HG.out.1).trans d1
  have f2 := (e1 g 2 HG.out.1).trans d2
  have y0 := (e1 _ 0 HG.out.2.1).trans x0
  have y1 := (e1 _ 1 HG.out.2.1).trans x1
  have y2 := (e1 _ 2 HG.out.2.1).trans x2
  have hb2 : Below w1.heap.size w1 (w1.alloc (.cells #[.int .i64 (x.t : Nat), .int .i64 (x.m : Nat), .string x.s] 34)) := below_alloc0 (Below.refl _ _) _
  have hR : RwO (w1.alloc (.cells #[.int .i64 (x.t : Nat), .int .i64 (x.m : Nat), .string x.s] 34)).drew none 0 n f := by
    have h1 : RwO w1 none 0 n f := HG.out.2.2.2.2.2.2.1.block (Nat.le_of_eq s1.symm) (fun q hq _ => k1 q (HG.out.2.2.2.2.2.2.2 q hq).2.2)
    exact (h1.call hb2).block (Nat.le_refl _) (fun _ _ _ => rfl)
  obtain ⟨q', cap', w9, happ, hA⟩ := run_append_Rw (w1.alloc (.cells #[.int .i64 (x.t : Nat), .int .i64 (x.m : Nat), .string x.s] 34)).drew 47 47 34 enI_code none 0 n f x hR (by have := HT.out; omega) w1.heap.size 1 (fun j u hj => by
    show (w1.alloc (.cells #[.int .i64 (x.t : Nat), .int .i64 (x.m : Nat), .string x.s] 34)).cell? ⟨w1.heap.size, j, none⟩ = some u
    rw [World.cell?_alloc_new, List.getElem?_toArray]; exact hj)
  have hO1 : Off Z w w1 := mapTurned_off (off_drew HG.out.2.2.1) hT1 HG.out.2.2.2.1
  have hEnd := push_end (off_new0 hO1 HT.out.1) HG.out.2.2.2.2.1.1 HG.out.2.2.2.1 HG.out.1 (by rw [s1]; exact HG.out.2.2.2.2.1.2.1) hM1 f0 f1 f2 (fun o => (World.frozen?_of_block (w := W) (a := ⟨g, o, none⟩) (k1 g HG.out.1)).trans (HG.out.2.2.2.2.1.2.2 o)) HG.out.2.2.2.2.2.2.2 hA (HPL.out.1) (by have := HT.out; omega) HPL.out.2.1 HPL.out.2.2
  have HE : Hid (∃ q cap B p', PileI (w9.setCell ⟨g, 0, none⟩ (.slice (some ⟨q', 0, none⟩) (n + 1) cap')) Z g l q cap B (n + 1) (putF f n x) p') := ⟨q', cap', B, _, hEnd.1⟩
  have HO : Hid (Off Z w (w9.setCell ⟨g, 0, none⟩ (.slice (some ⟨q', 0, none⟩) (n + 1) cap'))) := hO1.trans hEnd.2.1
  have g9 := hEnd.2.2.1
  have z9 := hEnd.2.2.2
  have gl1 : g < w1.heap.size := by rw [s1]; exact HG.out.2.2.2.2.1.2.1
  obtain ⟨n1, hn1⟩ : ∃ n1, n1 = n + 1 := ⟨_, rfl⟩
  have HN1 : Hid (n1 = n + 1) := hn1
  rw [← hn1] at happ
  clear hM hM1 hT1 e1 k1 s1 hb2 hR hA hO1 hEnd hpx hn1 f2 d2
  go_region
  go_wp2_with fail
  go_region_law (refine step_append_run rfl (.tmp 37) (.tmp 39) 47 rfl (by simp [Act.eval]) (by simp [Act.eval]) happ ?_)
  all_goals
    rw [HN1.out]
    go_end0
    exact ⟨rfl, HE.out, HO.out⟩
end Go.Proofs.Ytkgfeiigdhbddaa
