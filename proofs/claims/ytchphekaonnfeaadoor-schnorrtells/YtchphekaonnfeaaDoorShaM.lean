/- digest.Hash.mix: a block, taken into the words. -/
import Derived.Test.YtchphekaonnfeaaDoorShaS
import Derived.Deep.WholeRow
namespace Go.Proofs.YtchphekaonnfeaaDoor
open Go.RowKit
attribute [local go_sem] bits_xor32 bits_or32 bits_and32 bits_not32 bits_not32' wrap_add32

/-- A hash in a block: its words, its bytes, its length. -/
def HashW (w : World) (g : Nat) (x : E8) (b : Nat → Nat) (n : Nat) : Prop := (∀ j, j < 8 → w.cell? ⟨g, j, none⟩ = some (.int .u32 (x.get j : Nat))) ∧ (∀ j, j < 64 → w.cell? ⟨g, 8 + j, none⟩ = some (.int .u8 (b j : Nat))) ∧ w.cell? ⟨g, 72, none⟩ = some (.int .i64 (n : Nat)) ∧ (∀ o, w.frozen? ⟨g, o, none⟩ = false) ∧ g < w.heap.size
theorem HashW.call {W w1 : World} {g n : Nat} {x : E8} {b : Nat → Nat} (h : HashW W g x b n) (hb : Below W.heap.size W w1) : HashW w1 g x b n :=
  ⟨fun j hj => (hb.cell (p := ⟨g, j, none⟩) h.2.2.2.2).trans (h.1 j hj), fun j hj => (hb.cell (p := ⟨g, 8 + j, none⟩) h.2.2.2.2).trans (h.2.1 j hj), (hb.cell (p := ⟨g, 72, none⟩) h.2.2.2.2).trans h.2.2.1, fun o => (hb.frozen (p := ⟨g, o, none⟩) h.2.2.2.2).trans (h.2.2.2.1 o), Nat.lt_of_lt_of_le h.2.2.2.2 hb.size⟩
theorem HashW.alloc {W : World} {g n : Nat} {x : E8} {b : Nat → Nat} {o : Obj} (h : HashW W g x b n) : HashW (W.alloc o) g x b n := h.call ((Below.refl _ _).alloc (Nat.le_refl _) o)
/-- The package's variable of the cube roots. -/
def Cube (w : World) : Prop := (∀ j, j < 64 → w.cell? ⟨6, j, none⟩ = some (.int .u32 (cube j : Nat))) ∧ 6 < w.heap.size
theorem Cube.call {W w1 : World} (h : Cube W) (hb : Below W.heap.size W w1) : Cube w1 := ⟨fun j hj => (hb.cell (p := ⟨6, j, none⟩) h.2).trans (h.1 j hj), Nat.lt_of_lt_of_le h.2 hb.size⟩
theorem Cube.alloc {W : World} {o : Obj} (h : Cube W) : Cube (W.alloc o) := h.call ((Below.refl _ _).alloc (Nat.le_refl _) o)

/-- While the words are summed: the first k are. -/
def SumAt (w wr : World) (g : Nat) (x y : E8) (b : Nat → Nat) (n k : Nat) : Prop := (∀ j, j < 8 → wr.cell? ⟨g, j, none⟩ = some (.int .u32 (if j < k then add32 (x.get j) (y.get j) else x.get j : Nat))) ∧ (∀ j, j < 64 → wr.cell? ⟨g, 8 + j, none⟩ = some (.int .u8 (b j : Nat))) ∧ wr.cell? ⟨g, 72, none⟩ = some (.int .i64 (n : Nat)) ∧ (∀ o, wr.frozen? ⟨g, o, none⟩ = false) ∧ g < wr.heap.size ∧ Below g w wr
theorem SumAt.drew {w wr : World} {g n k : Nat} {x y : E8} {b : Nat → Nat} (h : SumAt w wr g x y b n k) : SumAt w wr.drew g x y b n k := ⟨h.1, h.2.1, h.2.2.1, h.2.2.2.1, h.2.2.2.2.1, h.2.2.2.2.2.drew⟩
theorem SumAt.set {w wr : World} {g n k v : Nat} {x y : E8} {b : Nat → Nat} (h : SumAt w wr g x y b n k) (hk : k < 8) (hv : v = add32 (x.get k) (y.get k)) : SumAt w (wr.setCell ⟨g, k, none⟩ (.int .u32 (v : Nat))) g x y b n (k + 1) := by
  obtain ⟨h1, h2, h3, h4, h5, h6⟩ := h
  refine ⟨fun j hj => ?_, fun j hj => ?_, ?_, fun o => by rw [World.frozen?_setCell]; exact h4 o, by rw [World.size_setCell]; exact h5, h6.setCell (p := ⟨g, k, none⟩) (Nat.le_refl _) _⟩
  · by_cases e : j = k
    · subst e
      rw [World.cell?_setCell_same _ _ _ (h1 j hj), hv, if_pos (by omega)]
    · rw [World.cell?_setCell_other _ _ _ _ (by intro c; injection c with _ c2 _; exact e c2.symm), h1 j hj]
      by_cases q : j < k
      · rw [if_pos q, if_pos (by omega)]
      · rw [if_neg q, if_neg (by omega)]
  · rw [World.cell?_setCell_other _ _ _ _ (by intro c; injection c with _ c2 _; omega)]; exact h2 j hj
  · rw [World.cell?_setCell_other _ _ _ _ (by intro c; injection c with _ c2 _; omega)]; exact h3
/-- Behind rounds of mix: the hash, the cube roots and the block's 64 words lie where they did. -/
def MixAt (w wr : World) (g p : Nat) (x : E8) (b : Nat → Nat) (n : Nat) : Prop := HashW wr g x b n ∧ Cube wr ∧ Row64 wr p (wAt b) 64 ∧ Below w.heap.size w wr
theorem MixAt.drew {w wr : World} {g p n : Nat} {x : E8} {b : Nat → Nat} (h : MixAt w wr g p x b n) : MixAt w wr.drew g p x b n := ⟨h.1, h.2.1, h.2.2.1, h.2.2.2.drew⟩
theorem SumAt.start {w wr : World} {g p n : Nat} {x y : E8} {b : Nat → Nat} (HS : MixAt w wr g p x b n) (hg : g < w.heap.size) : SumAt w wr g x y b n 0 :=
  ⟨fun j hj => by rw [if_neg (by omega)]; exact HS.1.1 j hj, HS.1.2.1, HS.1.2.2.1, HS.1.2.2.2.1, HS.1.2.2.2.2, HS.2.2.2.mono (Nat.le_of_lt hg)⟩
theorem sum8_get (x y : E8) (j : Nat) (hj : j < 8) : add32 (x.get j) (y.get j) = (sum8 x y).get j := by
  have parts : j = 0 ∨ j = 1 ∨ j = 2 ∨ j = 3 ∨ j = 4 ∨ j = 5 ∨ j = 6 ∨ j = 7 := by omega
  rcases parts with rfl | rfl | rfl | rfl | rfl | rfl | rfl | rfl <;> rfl
theorem Cube.below {w w1 : World} {g : Nat} (h : Cube w) (hg : 6 < g) (hb : Below g w w1) : Cube w1 :=
  ⟨fun j hj => (hb.cell (p := ⟨6, j, none⟩) hg).trans (h.1 j hj), Nat.lt_of_lt_of_le h.2 hb.size⟩
set_option maxRecDepth 100000 in
theorem index8 (y : E8) (k : Nat) (hk : k < 8) (w : World) : (Instr.index 130 (.agg #[.int .u32 (y.a : Nat), .int .u32 (y.b : Nat), .int .u32 (y.c : Nat), .int .u32 (y.d : Nat), .int .u32 (y.e : Nat), .int .u32 (y.f : Nat), .int .u32 (y.g : Nat), .int .u32 (y.h : Nat)]) (.int .i64 (k : Nat))).run Tryd.prog w = .ok (.int .u32 (y.get k : Nat)) w := by
  have parts : k = 0 ∨ k = 1 ∨ k = 2 ∨ k = 3 ∨ k = 4 ∨ k = 5 ∨ k = 6 ∨ k = 7 := by omega
  rcases parts with rfl | rfl | rfl | rfl | rfl | rfl | rfl | rfl
  · exact (by kernel_rfl : (Instr.index 130 (.agg #[.int .u32 (y.a : Nat), .int .u32 (y.b : Nat), .int .u32 (y.c : Nat), .int .u32 (y.d : Nat), .int .u32 (y.e : Nat), .int .u32 (y.f : Nat), .int .u32 (y.g : Nat), .int .u32 (y.h : Nat)]) (.int .i64 ((0 : Nat) : Int))).run Tryd.prog w = .ok (.int .u32 (y.get 0 : Nat)) w)
  · exact (by kernel_rfl : (Instr.index 130 (.agg #[.int .u32 (y.a : Nat), .int .u32 (y.b : Nat), .int .u32 (y.c : Nat), .int .u32 (y.d : Nat), .int .u32 (y.e : Nat), .int .u32 (y.f : Nat), .int .u32 (y.g : Nat), .int .u32 (y.h : Nat)]) (.int .i64 ((1 : Nat) : Int))).run Tryd.prog w = .ok (.int .u32 (y.get 1 : Nat)) w)
  · exact (by kernel_rfl : (Instr.index 130 (.agg #[.int .u32 (y.a : Nat), .int .u32 (y.b : Nat), .int .u32 (y.c : Nat), .int .u32 (y.d : Nat), .int .u32 (y.e : Nat), .int .u32 (y.f : Nat), .int .u32 (y.g : Nat), .int .u32 (y.h : Nat)]) (.int .i64 ((2 : Nat) : Int))).run Tryd.prog w = .ok (.int .u32 (y.get 2 : Nat)) w)
  · exact (by kernel_rfl : (Instr.index 130 (.agg #[.int .u32 (y.a : Nat), .int .u32 (y.b : Nat), .int .u32 (y.c : Nat), .int .u32 (y.d : Nat), .int .u32 (y.e : Nat), .int .u32 (y.f : Nat), .int .u32 (y.g : Nat), .int .u32 (y.h : Nat)]) (.int .i64 ((3 : Nat) : Int))).run Tryd.prog w = .ok (.int .u32 (y.get 3 : Nat)) w)
  · exact (by kernel_rfl : (Instr.index 130 (.agg #[.int .u32 (y.a : Nat), .int .u32 (y.b : Nat), .int .u32 (y.c : Nat), .int .u32 (y.d : Nat), .int .u32 (y.e : Nat), .int .u32 (y.f : Nat), .int .u32 (y.g : Nat), .int .u32 (y.h : Nat)]) (.int .i64 ((4 : Nat) : Int))).run Tryd.prog w = .ok (.int .u32 (y.get 4 : Nat)) w)
  · exact (by kernel_rfl : (Instr.index 130 (.agg #[.int .u32 (y.a : Nat), .int .u32 (y.b : Nat), .int .u32 (y.c : Nat), .int .u32 (y.d : Nat), .int .u32 (y.e : Nat), .int .u32 (y.f : Nat), .int .u32 (y.g : Nat), .int .u32 (y.h : Nat)]) (.int .i64 ((5 : Nat) : Int))).run Tryd.prog w = .ok (.int .u32 (y.get 5 : Nat)) w)
  · exact (by kernel_rfl : (Instr.index 130 (.agg #[.int .u32 (y.a : Nat), .int .u32 (y.b : Nat), .int .u32 (y.c : Nat), .int .u32 (y.d : Nat), .int .u32 (y.e : Nat), .int .u32 (y.f : Nat), .int .u32 (y.g : Nat), .int .u32 (y.h : Nat)]) (.int .i64 ((6 : Nat) : Int))).run Tryd.prog w = .ok (.int .u32 (y.get 6 : Nat)) w)
  · exact (by kernel_rfl : (Instr.index 130 (.agg #[.int .u32 (y.a : Nat), .int .u32 (y.b : Nat), .int .u32 (y.c : Nat), .int .u32 (y.d : Nat), .int .u32 (y.e : Nat), .int .u32 (y.f : Nat), .int .u32 (y.g : Nat), .int .u32 (y.h : Nat)]) (.int .i64 ((7 : Nat) : Int))).run Tryd.prog w = .ok (.int .u32 (y.get 7 : Nat)) w)
theorem row64_full (W : World) (b : Nat → Nat) : Row64 ((W.alloc (.cells zeros64 136)).setCells W.heap.size 0 (wordsL b)) W.heap.size (wAt b) 64 := by
  have hz := row64_start W (wAt b) 136
  refine ⟨fun j hj => ?_, fun j hj => by rw [World.frozen?_setCells]; exact hz.2.1 j hj, ?_⟩
  · have h := World.rangeAt_setCells_same (W.alloc (.cells zeros64 136)) W.heap.size 0 (wordsL b) (fun i hi => by
      rw [wordsL_length] at hi
      exact ⟨by rw [Nat.zero_add, hz.1 i hi]; rfl, by rw [Nat.zero_add]; exact hz.2.1 i hi⟩) j (.int .u32 (wAt b j : Nat)) (by simp [wordsL, hj])
    rw [Nat.zero_add] at h
    rw [h, if_pos hj]
  · have := (below_setCells (p := W.heap.size) (o := 0) ((Below.refl W.heap.size W).alloc (Nat.le_refl _) (.cells zeros64 136)) (Nat.le_refl _) (wordsL b))
    have h2 := (below_setCells (p := W.heap.size) (o := 0) (Below.refl W.heap.size (W.alloc (.cells zeros64 136))) (Nat.le_refl _) (wordsL b)).size
    simp only [World.size_alloc] at h2
    omega

set_option maxRecDepth 100000 in
set_option maxHeartbeats 8000000 in
theorem mix_any (g : Nat) (x : E8) (b : Nat → Nat) (n : Nat) (hbl : ∀ j, b j < 256) (w : World) (hH : HashW w g x b n) (hC : Cube w) (hg : 6 < g) :
    Calls Tryd.prog 80 #[.pointer (some ⟨g, 0, none⟩)] w fun e w' => e = .returned (.tuple #[]) ∧ HashW w' g (mixN x b) b n ∧ Cube w' ∧ Below g w w' := by
  have K : Hid _ := fun (w : World) (h : Bytes64 w g b) => spread_any g b hbl w h
  have HH : Hid (HashW w g x b n) := hH
  have HC : Hid (Cube w) := hC
  have HG : Hid (6 < g) := hg
  clear hH hC hbl hg
  go_enter Tryd.func80, Tryd.ntmps80
  go_wp2_with fail
  refine (K.out _ ⟨HH.out.2.1, HH.out.2.2.2.2⟩).mono ?_
  rintro e w1 ⟨rfl, hb1⟩
  obtain ⟨L, hL⟩ : ∃ L, L = wordsL b := ⟨_, rfl⟩
  rw [← hL]
  have L1 : L.length = 64 := by rw [hL]; exact wordsL_length b
  have L2 : Hid (∀ v ∈ L, v.oneCell' = true) := by rw [hL]; exact wordsL_one b
  have hst : (storeCells ⟨w1.heap.size, 0, none⟩ L).run Tryd.prog (w1.alloc (.cells #[.int .u32 0, .int .u32 0, .int .u32 0, .int .u32 0, .int .u32 0, .int .u32 0, .int .u32 0, .int .u32 0, .int .u32 0, .int .u32 0, .int .u32 0, .int .u32 0, .int .u32 0, .int .u32 0, .int .u32 0, .int .u32 0, .int .u32 0, .int .u32 0, .int .u32 0, .int .u32 0, .int .u32 0, .int .u32 0, .int .u32 0, .int .u32 0, .int .u32 0, .int .u32 0, .int .u32 0, .int .u32 0, .int .u32 0, .int .u32 0, .int .u32 0, .int .u32 0, .int .u32 0, .int .u32 0, .int .u32 0, .int .u32 0, .int .u32 0, .int .u32 0, .int .u32 0, .int .u32 0, .int .u32 0, .int .u32 0, .int .u32 0, .int .u32 0, .int .u32 0, .int .u32 0, .int .u32 0, .int .u32 0, .int .u32 0, .int .u32 0, .int .u32 0, .int .u32 0, .int .u32 0, .int .u32 0, .int .u32 0, .int .u32 0, .int .u32 0, .int .u32 0, .int .u32 0, .int .u32 0, .int .u32 0, .int .u32 0, .int .u32 0, .int .u32 0] 136)) = .ok () ((w1.alloc (.cells zeros64 136)).setCells w1.heap.size 0 L) := by
    have hz := row64_start w1 (wAt b) 136
    exact run_storeCells_cells (P := Tryd.prog) w1.heap.size 0 L 0 (w1.alloc (.cells zeros64 136)) (fun j hj => by rw [Nat.add_zero, Nat.zero_add, hz.1 j (by omega)]; rfl) (fun j hj => by rw [Nat.add_zero, Nat.zero_add]; exact hz.2.1 j (by omega)) L2.out
  obtain ⟨X, hX⟩ : ∃ X, X = (w1.alloc (.cells zeros64 136)).setCells w1.heap.size 0 L := ⟨_, rfl⟩
  rw [← hX] at hst
  have HB : Hid (Below w1.heap.size w1 X) := by rw [hX]; exact below_setCells ((Below.refl _ _).alloc (Nat.le_refl _) _) (Nat.le_refl _) _
  have HS : Hid (MixAt w X g w1.heap.size x b n) := ⟨HashW.call (HashW.call HH.out hb1) HB.out, Cube.call (Cube.call HC.out hb1) HB.out, by rw [hX, hL]; exact row64_full w1 b, below_call0' hb1 HB.out⟩
  clear hb1 hL hX HB
  go_wp2_with fail
  clear hst
  refine wp_region_H (fun w' => MixAt w w' g w1.heap.size x b n) 24 rfl (by kernel_rfl) ?_
  refine wpAnyH_take (i := 0) (oi := ?o0p) (v := ?v0p) ?hi0p (by kernel_rfl) (by kernel_rfl) (by kernel_rfl) ?hQ0p ?hy0p (MixAt.drew HS.out) ?more0p
  case hi0p => rw [List.getElem?_toArray]; exact rfl
  case hQ0p => exact fun _ _ _ h => h
  case hy0p =>
    refine Or.inl ⟨by rfl, ?_⟩
    intro w' hSw
    have f0 := hSw.1.1 0 (by omega)
    have f1 := hSw.1.1 1 (by omega)
    have f2 := hSw.1.1 2 (by omega)
    have f3 := hSw.1.1 3 (by omega)
    have f4 := hSw.1.1 4 (by omega)
    have f5 := hSw.1.1 5 (by omega)
    have f6 := hSw.1.1 6 (by omega)
    have f7 := hSw.1.1 7 (by omega)
    simp only [E8.get] at f0 f1 f2 f3 f4 f5 f6 f7
    clear hSw
    go_simp
    try with_reducible rfl
  simp only [Act.put, List.setIfInBounds_toArray, List.set_cons_zero, List.set_cons_succ]
  refine wpAnyH_take (i := 1) (oi := ?o1p) (v := ?v1p) ?hi1p (by kernel_rfl) (by kernel_rfl) (by kernel_rfl) ?hQ1p ?hy1p (MixAt.drew HS.out) ?more1p
  case hi1p => rw [List.getElem?_toArray]; exact rfl
  case hQ1p => exact fun _ _ _ h => h
  case hy1p =>
    refine Or.inl ⟨by rfl, ?_⟩
    intro w' hSw
    have f0 := hSw.1.1 0 (by omega)
    have f1 := hSw.1.1 1 (by omega)
    have f2 := hSw.1.1 2 (by omega)
    have f3 := hSw.1.1 3 (by omega)
    have f4 := hSw.1.1 4 (by omega)
    have f5 := hSw.1.1 5 (by omega)
    have f6 := hSw.1.1 6 (by omega)
    have f7 := hSw.1.1 7 (by omega)
    simp only [E8.get] at f0 f1 f2 f3 f4 f5 f6 f7
    clear hSw
    go_simp
    try with_reducible rfl
  simp only [Act.put, List.setIfInBounds_toArray, List.set_cons_zero, List.set_cons_succ]
  refine wpAnyH_take (i := 2) (oi := ?o2p) (v := ?v2p) ?hi2p (by kernel_rfl) (by kernel_rfl) (by kernel_rfl) ?hQ2p ?hy2p (MixAt.drew HS.out) ?more2p
  case hi2p => rw [List.getElem?_toArray]; exact rfl
  case hQ2p => exact fun _ _ _ h => h
  case hy2p =>
    refine Or.inl ⟨by rfl, ?_⟩
    intro w' hSw
    have f0 := hSw.1.1 0 (by omega)
    have f1 := hSw.1.1 1 (by omega)
    have f2 := hSw.1.1 2 (by omega)
    have f3 := hSw.1.1 3 (by omega)
    have f4 := hSw.1.1 4 (by omega)
    have f5 := hSw.1.1 5 (by omega)
    have f6 := hSw.1.1 6 (by omega)
    have f7 := hSw.1.1 7 (by omega)
    simp only [E8.get] at f0 f1 f2 f3 f4 f5 f6 f7
    clear hSw
    go_simp
    try with_reducible rfl
  simp only [Act.put, List.setIfInBounds_toArray, List.set_cons_zero, List.set_cons_succ]
  refine wpAnyH_take (i := 3) (oi := ?o3p) (v := ?v3p) ?hi3p (by kernel_rfl) (by kernel_rfl) (by kernel_rfl) ?hQ3p ?hy3p (MixAt.drew HS.out) ?more3p
  case hi3p => rw [List.getElem?_toArray]; exact rfl
  case hQ3p => exact fun _ _ _ h => h
  case hy3p =>
    refine Or.inl ⟨by rfl, ?_⟩
    intro w' hSw
    have f0 := hSw.1.1 0 (by omega)
    have f1 := hSw.1.1 1 (by omega)
    have f2 := hSw.1.1 2 (by omega)
    have f3 := hSw.1.1 3 (by omega)
    have f4 := hSw.1.1 4 (by omega)
    have f5 := hSw.1.1 5 (by omega)
    have f6 := hSw.1.1 6 (by omega)
    have f7 := hSw.1.1 7 (by omega)
    simp only [E8.get] at f0 f1 f2 f3 f4 f5 f6 f7
    clear hSw
    go_simp
    try with_reducible rfl
  simp only [Act.put, List.setIfInBounds_toArray, List.set_cons_zero, List.set_cons_succ]
  refine wpAnyH_take (i := 4) (oi := ?o4p) (v := ?v4p) ?hi4p (by kernel_rfl) (by kernel_rfl) (by kernel_rfl) ?hQ4p ?hy4p (MixAt.drew HS.out) ?more4p
  case hi4p => rw [List.getElem?_toArray]; exact rfl
  case hQ4p => exact fun _ _ _ h => h
  case hy4p =>
    refine Or.inl ⟨by rfl, ?_⟩
    intro w' hSw
    have f0 := hSw.1.1 0 (by omega)
    have f1 := hSw.1.1 1 (by omega)
    have f2 := hSw.1.1 2 (by omega)
    have f3 := hSw.1.1 3 (by omega)
    have f4 := hSw.1.1 4 (by omega)
    have f5 := hSw.1.1 5 (by omega)
    have f6 := hSw.1.1 6 (by omega)
    have f7 := hSw.1.1 7 (by omega)
    simp only [E8.get] at f0 f1 f2 f3 f4 f5 f6 f7
    clear hSw
    go_simp
    try with_reducible rfl
  simp only [Act.put, List.setIfInBounds_toArray, List.set_cons_zero, List.set_cons_succ]
  refine wpAnyH_take (i := 5) (oi := ?o5p) (v := ?v5p) ?hi5p (by kernel_rfl) (by kernel_rfl) (by kernel_rfl) ?hQ5p ?hy5p (MixAt.drew HS.out) ?more5p
  case hi5p => rw [List.getElem?_toArray]; exact rfl
  case hQ5p => exact fun _ _ _ h => h
  case hy5p =>
    refine Or.inl ⟨by rfl, ?_⟩
    intro w' hSw
    have f0 := hSw.1.1 0 (by omega)
    have f1 := hSw.1.1 1 (by omega)
    have f2 := hSw.1.1 2 (by omega)
    have f3 := hSw.1.1 3 (by omega)
    have f4 := hSw.1.1 4 (by omega)
    have f5 := hSw.1.1 5 (by omega)
    have f6 := hSw.1.1 6 (by omega)
    have f7 := hSw.1.1 7 (by omega)
    simp only [E8.get] at f0 f1 f2 f3 f4 f5 f6 f7
    clear hSw
    go_simp
    try with_reducible rfl
  simp only [Act.put, List.setIfInBounds_toArray, List.set_cons_zero, List.set_cons_succ]
  refine wpAnyH_take (i := 6) (oi := ?o6p) (v := ?v6p) ?hi6p (by kernel_rfl) (by kernel_rfl) (by kernel_rfl) ?hQ6p ?hy6p (MixAt.drew HS.out) ?more6p
  case hi6p => rw [List.getElem?_toArray]; exact rfl
  case hQ6p => exact fun _ _ _ h => h
  case hy6p =>
    refine Or.inl ⟨by rfl, ?_⟩
    intro w' hSw
    have f0 := hSw.1.1 0 (by omega)
    have f1 := hSw.1.1 1 (by omega)
    have f2 := hSw.1.1 2 (by omega)
    have f3 := hSw.1.1 3 (by omega)
    have f4 := hSw.1.1 4 (by omega)
    have f5 := hSw.1.1 5 (by omega)
    have f6 := hSw.1.1 6 (by omega)
    have f7 := hSw.1.1 7 (by omega)
    simp only [E8.get] at f0 f1 f2 f3 f4 f5 f6 f7
    clear hSw
    go_simp
    try with_reducible rfl
  simp only [Act.put, List.setIfInBounds_toArray, List.set_cons_zero, List.set_cons_succ]
  refine wpAnyH_take (i := 7) (oi := ?o7p) (v := ?v7p) ?hi7p (by kernel_rfl) (by kernel_rfl) (by kernel_rfl) ?hQ7p ?hy7p (MixAt.drew HS.out) ?more7p
  case hi7p => rw [List.getElem?_toArray]; exact rfl
  case hQ7p => exact fun _ _ _ h => h
  case hy7p =>
    refine Or.inl ⟨by rfl, ?_⟩
    intro w' hSw
    have f0 := hSw.1.1 0 (by omega)
    have f1 := hSw.1.1 1 (by omega)
    have f2 := hSw.1.1 2 (by omega)
    have f3 := hSw.1.1 3 (by omega)
    have f4 := hSw.1.1 4 (by omega)
    have f5 := hSw.1.1 5 (by omega)
    have f6 := hSw.1.1 6 (by omega)
    have f7 := hSw.1.1 7 (by omega)
    simp only [E8.get] at f0 f1 f2 f3 f4 f5 f6 f7
    clear hSw
    go_simp
    try with_reducible rfl
  simp only [Act.put, List.setIfInBounds_toArray, List.set_cons_zero, List.set_cons_succ]
  refine wpAnyH_take (i := 8) (oi := ?o8p) (v := ?v8p) ?hi8p (by kernel_rfl) (by kernel_rfl) (by kernel_rfl) ?hQ8p ?hy8p (MixAt.drew HS.out) ?more8p
  case hi8p => rw [List.getElem?_toArray]; exact rfl
  case hQ8p => exact fun _ _ _ h => h
  case hy8p =>
    refine Or.inl ⟨by rfl, ?_⟩
    intro w' hSw
    have f0 := hSw.1.1 0 (by omega)
    have f1 := hSw.1.1 1 (by omega)
    have f2 := hSw.1.1 2 (by omega)
    have f3 := hSw.1.1 3 (by omega)
    have f4 := hSw.1.1 4 (by omega)
    have f5 := hSw.1.1 5 (by omega)
    have f6 := hSw.1.1 6 (by omega)
    have f7 := hSw.1.1 7 (by omega)
    simp only [E8.get] at f0 f1 f2 f3 f4 f5 f6 f7
    clear hSw
    go_simp
    try with_reducible rfl
  simp only [Act.put, List.setIfInBounds_toArray, List.set_cons_zero, List.set_cons_succ]
  refine wpAnyH_take (i := 9) (oi := ?o9p) (v := ?v9p) ?hi9p (by kernel_rfl) (by kernel_rfl) (by kernel_rfl) ?hQ9p ?hy9p (MixAt.drew HS.out) ?more9p
  case hi9p => rw [List.getElem?_toArray]; exact rfl
  case hQ9p => exact fun _ _ _ h => h
  case hy9p =>
    refine Or.inl ⟨by rfl, ?_⟩
    intro w' hSw
    have f0 := hSw.1.1 0 (by omega)
    have f1 := hSw.1.1 1 (by omega)
    have f2 := hSw.1.1 2 (by omega)
    have f3 := hSw.1.1 3 (by omega)
    have f4 := hSw.1.1 4 (by omega)
    have f5 := hSw.1.1 5 (by omega)
    have f6 := hSw.1.1 6 (by omega)
    have f7 := hSw.1.1 7 (by omega)
    simp only [E8.get] at f0 f1 f2 f3 f4 f5 f6 f7
    clear hSw
    go_simp
    try with_reducible rfl
  simp only [Act.put, List.setIfInBounds_toArray, List.set_cons_zero, List.set_cons_succ]
  refine wpAnyH_take (i := 10) (oi := ?o10p) (v := ?v10p) ?hi10p (by kernel_rfl) (by kernel_rfl) (by kernel_rfl) ?hQ10p ?hy10p (MixAt.drew HS.out) ?more10p
  case hi10p => rw [List.getElem?_toArray]; exact rfl
  case hQ10p => exact fun _ _ _ h => h
  case hy10p =>
    refine Or.inl ⟨by rfl, ?_⟩
    intro w' hSw
    have f0 := hSw.1.1 0 (by omega)
    have f1 := hSw.1.1 1 (by omega)
    have f2 := hSw.1.1 2 (by omega)
    have f3 := hSw.1.1 3 (by omega)
    have f4 := hSw.1.1 4 (by omega)
    have f5 := hSw.1.1 5 (by omega)
    have f6 := hSw.1.1 6 (by omega)
    have f7 := hSw.1.1 7 (by omega)
    simp only [E8.get] at f0 f1 f2 f3 f4 f5 f6 f7
    clear hSw
    go_simp
    try with_reducible rfl
  simp only [Act.put, List.setIfInBounds_toArray, List.set_cons_zero, List.set_cons_succ]
  refine wpAnyH_take (i := 11) (oi := ?o11p) (v := ?v11p) ?hi11p (by kernel_rfl) (by kernel_rfl) (by kernel_rfl) ?hQ11p ?hy11p (MixAt.drew HS.out) ?more11p
  case hi11p => rw [List.getElem?_toArray]; exact rfl
  case hQ11p => exact fun _ _ _ h => h
  case hy11p =>
    refine Or.inl ⟨by rfl, ?_⟩
    intro w' hSw
    have f0 := hSw.1.1 0 (by omega)
    have f1 := hSw.1.1 1 (by omega)
    have f2 := hSw.1.1 2 (by omega)
    have f3 := hSw.1.1 3 (by omega)
    have f4 := hSw.1.1 4 (by omega)
    have f5 := hSw.1.1 5 (by omega)
    have f6 := hSw.1.1 6 (by omega)
    have f7 := hSw.1.1 7 (by omega)
    simp only [E8.get] at f0 f1 f2 f3 f4 f5 f6 f7
    clear hSw
    go_simp
    try with_reducible rfl
  simp only [Act.put, List.setIfInBounds_toArray, List.set_cons_zero, List.set_cons_succ]
  refine wpAnyH_take (i := 12) (oi := ?o12p) (v := ?v12p) ?hi12p (by kernel_rfl) (by kernel_rfl) (by kernel_rfl) ?hQ12p ?hy12p (MixAt.drew HS.out) ?more12p
  case hi12p => rw [List.getElem?_toArray]; exact rfl
  case hQ12p => exact fun _ _ _ h => h
  case hy12p =>
    refine Or.inl ⟨by rfl, ?_⟩
    intro w' hSw
    have f0 := hSw.1.1 0 (by omega)
    have f1 := hSw.1.1 1 (by omega)
    have f2 := hSw.1.1 2 (by omega)
    have f3 := hSw.1.1 3 (by omega)
    have f4 := hSw.1.1 4 (by omega)
    have f5 := hSw.1.1 5 (by omega)
    have f6 := hSw.1.1 6 (by omega)
    have f7 := hSw.1.1 7 (by omega)
    simp only [E8.get] at f0 f1 f2 f3 f4 f5 f6 f7
    clear hSw
    go_simp
    try with_reducible rfl
  simp only [Act.put, List.setIfInBounds_toArray, List.set_cons_zero, List.set_cons_succ]
  refine wpAnyH_take (i := 13) (oi := ?o13p) (v := ?v13p) ?hi13p (by kernel_rfl) (by kernel_rfl) (by kernel_rfl) ?hQ13p ?hy13p (MixAt.drew HS.out) ?more13p
  case hi13p => rw [List.getElem?_toArray]; exact rfl
  case hQ13p => exact fun _ _ _ h => h
  case hy13p =>
    refine Or.inl ⟨by rfl, ?_⟩
    intro w' hSw
    have f0 := hSw.1.1 0 (by omega)
    have f1 := hSw.1.1 1 (by omega)
    have f2 := hSw.1.1 2 (by omega)
    have f3 := hSw.1.1 3 (by omega)
    have f4 := hSw.1.1 4 (by omega)
    have f5 := hSw.1.1 5 (by omega)
    have f6 := hSw.1.1 6 (by omega)
    have f7 := hSw.1.1 7 (by omega)
    simp only [E8.get] at f0 f1 f2 f3 f4 f5 f6 f7
    clear hSw
    go_simp
    try with_reducible rfl
  simp only [Act.put, List.setIfInBounds_toArray, List.set_cons_zero, List.set_cons_succ]
  refine wpAnyH_take (i := 14) (oi := ?o14p) (v := ?v14p) ?hi14p (by kernel_rfl) (by kernel_rfl) (by kernel_rfl) ?hQ14p ?hy14p (MixAt.drew HS.out) ?more14p
  case hi14p => rw [List.getElem?_toArray]; exact rfl
  case hQ14p => exact fun _ _ _ h => h
  case hy14p =>
    refine Or.inl ⟨by rfl, ?_⟩
    intro w' hSw
    have f0 := hSw.1.1 0 (by omega)
    have f1 := hSw.1.1 1 (by omega)
    have f2 := hSw.1.1 2 (by omega)
    have f3 := hSw.1.1 3 (by omega)
    have f4 := hSw.1.1 4 (by omega)
    have f5 := hSw.1.1 5 (by omega)
    have f6 := hSw.1.1 6 (by omega)
    have f7 := hSw.1.1 7 (by omega)
    simp only [E8.get] at f0 f1 f2 f3 f4 f5 f6 f7
    clear hSw
    go_simp
    try with_reducible rfl
  simp only [Act.put, List.setIfInBounds_toArray, List.set_cons_zero, List.set_cons_succ]
  refine wpAnyH_take (i := 15) (oi := ?o15p) (v := ?v15p) ?hi15p (by kernel_rfl) (by kernel_rfl) (by kernel_rfl) ?hQ15p ?hy15p (MixAt.drew HS.out) ?more15p
  case hi15p => rw [List.getElem?_toArray]; exact rfl
  case hQ15p => exact fun _ _ _ h => h
  case hy15p =>
    refine Or.inl ⟨by rfl, ?_⟩
    intro w' hSw
    have f0 := hSw.1.1 0 (by omega)
    have f1 := hSw.1.1 1 (by omega)
    have f2 := hSw.1.1 2 (by omega)
    have f3 := hSw.1.1 3 (by omega)
    have f4 := hSw.1.1 4 (by omega)
    have f5 := hSw.1.1 5 (by omega)
    have f6 := hSw.1.1 6 (by omega)
    have f7 := hSw.1.1 7 (by omega)
    simp only [E8.get] at f0 f1 f2 f3 f4 f5 f6 f7
    clear hSw
    go_simp
    try with_reducible rfl
  simp only [Act.put, List.setIfInBounds_toArray, List.set_cons_zero, List.set_cons_succ]
  refine wpAnyH_take (i := 16) (oi := ?o16p) (v := ?v16p) ?hi16p (by kernel_rfl) (by kernel_rfl) (by kernel_rfl) ?hQ16p ?hy16p (MixAt.drew HS.out) ?more16p
  case hi16p => rw [List.getElem?_toArray]; exact rfl
  case hQ16p => exact fun _ _ _ h => h
  case hy16p =>
    refine Or.inl ⟨by rfl, ?_⟩
    intro w' hSw
    have f0 := hSw.1.1 0 (by omega)
    have f1 := hSw.1.1 1 (by omega)
    have f2 := hSw.1.1 2 (by omega)
    have f3 := hSw.1.1 3 (by omega)
    have f4 := hSw.1.1 4 (by omega)
    have f5 := hSw.1.1 5 (by omega)
    have f6 := hSw.1.1 6 (by omega)
    have f7 := hSw.1.1 7 (by omega)
    simp only [E8.get] at f0 f1 f2 f3 f4 f5 f6 f7
    clear hSw
    go_simp
    try with_reducible rfl
  simp only [Act.put, List.setIfInBounds_toArray, List.set_cons_zero, List.set_cons_succ]
  refine wpAnyH_take (i := 17) (oi := ?o17p) (v := ?v17p) ?hi17p (by kernel_rfl) (by kernel_rfl) (by kernel_rfl) ?hQ17p ?hy17p (MixAt.drew HS.out) ?more17p
  case hi17p => rw [List.getElem?_toArray]; exact rfl
  case hQ17p => exact fun _ _ _ h => h
  case hy17p =>
    refine Or.inl ⟨by rfl, ?_⟩
    intro w' hSw
    have f0 := hSw.1.1 0 (by omega)
    have f1 := hSw.1.1 1 (by omega)
    have f2 := hSw.1.1 2 (by omega)
    have f3 := hSw.1.1 3 (by omega)
    have f4 := hSw.1.1 4 (by omega)
    have f5 := hSw.1.1 5 (by omega)
    have f6 := hSw.1.1 6 (by omega)
    have f7 := hSw.1.1 7 (by omega)
    simp only [E8.get] at f0 f1 f2 f3 f4 f5 f6 f7
    clear hSw
    go_simp
    try with_reducible rfl
  simp only [Act.put, List.setIfInBounds_toArray, List.set_cons_zero, List.set_cons_succ]
  refine wpAnyH_take (i := 18) (oi := ?o18p) (v := ?v18p) ?hi18p (by kernel_rfl) (by kernel_rfl) (by kernel_rfl) ?hQ18p ?hy18p (MixAt.drew HS.out) ?more18p
  case hi18p => rw [List.getElem?_toArray]; exact rfl
  case hQ18p => exact fun _ _ _ h => h
  case hy18p =>
    refine Or.inl ⟨by rfl, ?_⟩
    intro w' hSw
    have f0 := hSw.1.1 0 (by omega)
    have f1 := hSw.1.1 1 (by omega)
    have f2 := hSw.1.1 2 (by omega)
    have f3 := hSw.1.1 3 (by omega)
    have f4 := hSw.1.1 4 (by omega)
    have f5 := hSw.1.1 5 (by omega)
    have f6 := hSw.1.1 6 (by omega)
    have f7 := hSw.1.1 7 (by omega)
    simp only [E8.get] at f0 f1 f2 f3 f4 f5 f6 f7
    clear hSw
    go_simp
    try with_reducible rfl
  simp only [Act.put, List.setIfInBounds_toArray, List.set_cons_zero, List.set_cons_succ]
  refine wpAnyH_take (i := 19) (oi := ?o19p) (v := ?v19p) ?hi19p (by kernel_rfl) (by kernel_rfl) (by kernel_rfl) ?hQ19p ?hy19p (MixAt.drew HS.out) ?more19p
  case hi19p => rw [List.getElem?_toArray]; exact rfl
  case hQ19p => exact fun _ _ _ h => h
  case hy19p =>
    refine Or.inl ⟨by rfl, ?_⟩
    intro w' hSw
    have f0 := hSw.1.1 0 (by omega)
    have f1 := hSw.1.1 1 (by omega)
    have f2 := hSw.1.1 2 (by omega)
    have f3 := hSw.1.1 3 (by omega)
    have f4 := hSw.1.1 4 (by omega)
    have f5 := hSw.1.1 5 (by omega)
    have f6 := hSw.1.1 6 (by omega)
    have f7 := hSw.1.1 7 (by omega)
    simp only [E8.get] at f0 f1 f2 f3 f4 f5 f6 f7
    clear hSw
    go_simp
    try with_reducible rfl
  simp only [Act.put, List.setIfInBounds_toArray, List.set_cons_zero, List.set_cons_succ]
  refine wpAnyH_take (i := 20) (oi := ?o20p) (v := ?v20p) ?hi20p (by kernel_rfl) (by kernel_rfl) (by kernel_rfl) ?hQ20p ?hy20p (MixAt.drew HS.out) ?more20p
  case hi20p => rw [List.getElem?_toArray]; exact rfl
  case hQ20p => exact fun _ _ _ h => h
  case hy20p =>
    refine Or.inl ⟨by rfl, ?_⟩
    intro w' hSw
    have f0 := hSw.1.1 0 (by omega)
    have f1 := hSw.1.1 1 (by omega)
    have f2 := hSw.1.1 2 (by omega)
    have f3 := hSw.1.1 3 (by omega)
    have f4 := hSw.1.1 4 (by omega)
    have f5 := hSw.1.1 5 (by omega)
    have f6 := hSw.1.1 6 (by omega)
    have f7 := hSw.1.1 7 (by omega)
    simp only [E8.get] at f0 f1 f2 f3 f4 f5 f6 f7
    clear hSw
    go_simp
    try with_reducible rfl
  simp only [Act.put, List.setIfInBounds_toArray, List.set_cons_zero, List.set_cons_succ]
  refine wpAnyH_take (i := 21) (oi := ?o21p) (v := ?v21p) ?hi21p (by kernel_rfl) (by kernel_rfl) (by kernel_rfl) ?hQ21p ?hy21p (MixAt.drew HS.out) ?more21p
  case hi21p => rw [List.getElem?_toArray]; exact rfl
  case hQ21p => exact fun _ _ _ h => h
  case hy21p =>
    refine Or.inl ⟨by rfl, ?_⟩
    intro w' hSw
    have f0 := hSw.1.1 0 (by omega)
    have f1 := hSw.1.1 1 (by omega)
    have f2 := hSw.1.1 2 (by omega)
    have f3 := hSw.1.1 3 (by omega)
    have f4 := hSw.1.1 4 (by omega)
    have f5 := hSw.1.1 5 (by omega)
    have f6 := hSw.1.1 6 (by omega)
    have f7 := hSw.1.1 7 (by omega)
    simp only [E8.get] at f0 f1 f2 f3 f4 f5 f6 f7
    clear hSw
    go_simp
    try with_reducible rfl
  simp only [Act.put, List.setIfInBounds_toArray, List.set_cons_zero, List.set_cons_succ]
  refine wpAnyH_take (i := 22) (oi := ?o22p) (v := ?v22p) ?hi22p (by kernel_rfl) (by kernel_rfl) (by kernel_rfl) ?hQ22p ?hy22p (MixAt.drew HS.out) ?more22p
  case hi22p => rw [List.getElem?_toArray]; exact rfl
  case hQ22p => exact fun _ _ _ h => h
  case hy22p =>
    refine Or.inl ⟨by rfl, ?_⟩
    intro w' hSw
    have f0 := hSw.1.1 0 (by omega)
    have f1 := hSw.1.1 1 (by omega)
    have f2 := hSw.1.1 2 (by omega)
    have f3 := hSw.1.1 3 (by omega)
    have f4 := hSw.1.1 4 (by omega)
    have f5 := hSw.1.1 5 (by omega)
    have f6 := hSw.1.1 6 (by omega)
    have f7 := hSw.1.1 7 (by omega)
    simp only [E8.get] at f0 f1 f2 f3 f4 f5 f6 f7
    clear hSw
    go_simp
    try with_reducible rfl
  simp only [Act.put, List.setIfInBounds_toArray, List.set_cons_zero, List.set_cons_succ]
  refine wpAnyH_take (i := 23) (oi := ?o23p) (v := ?v23p) ?hi23p (by kernel_rfl) (by kernel_rfl) (by kernel_rfl) ?hQ23p ?hy23p (MixAt.drew HS.out) ?more23p
  case hi23p => rw [List.getElem?_toArray]; exact rfl
  case hQ23p => exact fun _ _ _ h => h
  case hy23p =>
    refine Or.inl ⟨by rfl, ?_⟩
    intro w' hSw
    have f0 := hSw.1.1 0 (by omega)
    have f1 := hSw.1.1 1 (by omega)
    have f2 := hSw.1.1 2 (by omega)
    have f3 := hSw.1.1 3 (by omega)
    have f4 := hSw.1.1 4 (by omega)
    have f5 := hSw.1.1 5 (by omega)
    have f6 := hSw.1.1 6 (by omega)
    have f7 := hSw.1.1 7 (by omega)
    simp only [E8.get] at f0 f1 f2 f3 f4 f5 f6 f7
    clear hSw
    go_simp
    try with_reducible rfl
  simp only [Act.put, List.setIfInBounds_toArray, List.set_cons_zero, List.set_cons_succ]
  refine wpAnyH_done (by kernel_rfl) ?_ _
  go_wp2_with fail
  refine wp_region_H (fun w' => MixAt w w' g w1.heap.size x b n) 24 rfl (by kernel_rfl) ?_
  refine wpAnyH_take (i := 0) (oi := ?o0q) (v := ?v0q) ?hi0q (by kernel_rfl) (by kernel_rfl) (by kernel_rfl) ?hQ0q ?hy0q (MixAt.drew (MixAt.drew HS.out)) ?more0q
  case hi0q => rw [List.getElem?_toArray]; exact rfl
  case hQ0q => exact fun _ _ _ h => h
  case hy0q =>
    refine Or.inl ⟨by rfl, ?_⟩
    intro w' hSw
    have f0 := hSw.1.1 0 (by omega)
    have f1 := hSw.1.1 1 (by omega)
    have f2 := hSw.1.1 2 (by omega)
    have f3 := hSw.1.1 3 (by omega)
    have f4 := hSw.1.1 4 (by omega)
    have f5 := hSw.1.1 5 (by omega)
    have f6 := hSw.1.1 6 (by omega)
    have f7 := hSw.1.1 7 (by omega)
    simp only [E8.get] at f0 f1 f2 f3 f4 f5 f6 f7
    clear hSw
    go_simp
    try with_reducible rfl
  simp only [Act.put, List.setIfInBounds_toArray, List.set_cons_zero, List.set_cons_succ]
  refine wpAnyH_take (i := 1) (oi := ?o1q) (v := ?v1q) ?hi1q (by kernel_rfl) (by kernel_rfl) (by kernel_rfl) ?hQ1q ?hy1q (MixAt.drew (MixAt.drew HS.out)) ?more1q
  case hi1q => rw [List.getElem?_toArray]; exact rfl
  case hQ1q => exact fun _ _ _ h => h
  case hy1q =>
    refine Or.inl ⟨by rfl, ?_⟩
    intro w' hSw
    have f0 := hSw.1.1 0 (by omega)
    have f1 := hSw.1.1 1 (by omega)
    have f2 := hSw.1.1 2 (by omega)
    have f3 := hSw.1.1 3 (by omega)
    have f4 := hSw.1.1 4 (by omega)
    have f5 := hSw.1.1 5 (by omega)
    have f6 := hSw.1.1 6 (by omega)
    have f7 := hSw.1.1 7 (by omega)
    simp only [E8.get] at f0 f1 f2 f3 f4 f5 f6 f7
    clear hSw
    go_simp
    try with_reducible rfl
  simp only [Act.put, List.setIfInBounds_toArray, List.set_cons_zero, List.set_cons_succ]
  refine wpAnyH_take (i := 2) (oi := ?o2q) (v := ?v2q) ?hi2q (by kernel_rfl) (by kernel_rfl) (by kernel_rfl) ?hQ2q ?hy2q (MixAt.drew (MixAt.drew HS.out)) ?more2q
  case hi2q => rw [List.getElem?_toArray]; exact rfl
  case hQ2q => exact fun _ _ _ h => h
  case hy2q =>
    refine Or.inl ⟨by rfl, ?_⟩
    intro w' hSw
    have f0 := hSw.1.1 0 (by omega)
    have f1 := hSw.1.1 1 (by omega)
    have f2 := hSw.1.1 2 (by omega)
    have f3 := hSw.1.1 3 (by omega)
    have f4 := hSw.1.1 4 (by omega)
    have f5 := hSw.1.1 5 (by omega)
    have f6 := hSw.1.1 6 (by omega)
    have f7 := hSw.1.1 7 (by omega)
    simp only [E8.get] at f0 f1 f2 f3 f4 f5 f6 f7
    clear hSw
    go_simp
    try with_reducible rfl
  simp only [Act.put, List.setIfInBounds_toArray, List.set_cons_zero, List.set_cons_succ]
  refine wpAnyH_take (i := 3) (oi := ?o3q) (v := ?v3q) ?hi3q (by kernel_rfl) (by kernel_rfl) (by kernel_rfl) ?hQ3q ?hy3q (MixAt.drew (MixAt.drew HS.out)) ?more3q
  case hi3q => rw [List.getElem?_toArray]; exact rfl
  case hQ3q => exact fun _ _ _ h => h
  case hy3q =>
    refine Or.inl ⟨by rfl, ?_⟩
    intro w' hSw
    have f0 := hSw.1.1 0 (by omega)
    have f1 := hSw.1.1 1 (by omega)
    have f2 := hSw.1.1 2 (by omega)
    have f3 := hSw.1.1 3 (by omega)
    have f4 := hSw.1.1 4 (by omega)
    have f5 := hSw.1.1 5 (by omega)
    have f6 := hSw.1.1 6 (by omega)
    have f7 := hSw.1.1 7 (by omega)
    simp only [E8.get] at f0 f1 f2 f3 f4 f5 f6 f7
    clear hSw
    go_simp
    try with_reducible rfl
  simp only [Act.put, List.setIfInBounds_toArray, List.set_cons_zero, List.set_cons_succ]
  refine wpAnyH_take (i := 4) (oi := ?o4q) (v := ?v4q) ?hi4q (by kernel_rfl) (by kernel_rfl) (by kernel_rfl) ?hQ4q ?hy4q (MixAt.drew (MixAt.drew HS.out)) ?more4q
  case hi4q => rw [List.getElem?_toArray]; exact rfl
  case hQ4q => exact fun _ _ _ h => h
  case hy4q =>
    refine Or.inl ⟨by rfl, ?_⟩
    intro w' hSw
    have f0 := hSw.1.1 0 (by omega)
    have f1 := hSw.1.1 1 (by omega)
    have f2 := hSw.1.1 2 (by omega)
    have f3 := hSw.1.1 3 (by omega)
    have f4 := hSw.1.1 4 (by omega)
    have f5 := hSw.1.1 5 (by omega)
    have f6 := hSw.1.1 6 (by omega)
    have f7 := hSw.1.1 7 (by omega)
    simp only [E8.get] at f0 f1 f2 f3 f4 f5 f6 f7
    clear hSw
    go_simp
    try with_reducible rfl
  simp only [Act.put, List.setIfInBounds_toArray, List.set_cons_zero, List.set_cons_succ]
  refine wpAnyH_take (i := 5) (oi := ?o5q) (v := ?v5q) ?hi5q (by kernel_rfl) (by kernel_rfl) (by kernel_rfl) ?hQ5q ?hy5q (MixAt.drew (MixAt.drew HS.out)) ?more5q
  case hi5q => rw [List.getElem?_toArray]; exact rfl
  case hQ5q => exact fun _ _ _ h => h
  case hy5q =>
    refine Or.inl ⟨by rfl, ?_⟩
    intro w' hSw
    have f0 := hSw.1.1 0 (by omega)
    have f1 := hSw.1.1 1 (by omega)
    have f2 := hSw.1.1 2 (by omega)
    have f3 := hSw.1.1 3 (by omega)
    have f4 := hSw.1.1 4 (by omega)
    have f5 := hSw.1.1 5 (by omega)
    have f6 := hSw.1.1 6 (by omega)
    have f7 := hSw.1.1 7 (by omega)
    simp only [E8.get] at f0 f1 f2 f3 f4 f5 f6 f7
    clear hSw
    go_simp
    try with_reducible rfl
  simp only [Act.put, List.setIfInBounds_toArray, List.set_cons_zero, List.set_cons_succ]
  refine wpAnyH_take (i := 6) (oi := ?o6q) (v := ?v6q) ?hi6q (by kernel_rfl) (by kernel_rfl) (by kernel_rfl) ?hQ6q ?hy6q (MixAt.drew (MixAt.drew HS.out)) ?more6q
  case hi6q => rw [List.getElem?_toArray]; exact rfl
  case hQ6q => exact fun _ _ _ h => h
  case hy6q =>
    refine Or.inl ⟨by rfl, ?_⟩
    intro w' hSw
    have f0 := hSw.1.1 0 (by omega)
    have f1 := hSw.1.1 1 (by omega)
    have f2 := hSw.1.1 2 (by omega)
    have f3 := hSw.1.1 3 (by omega)
    have f4 := hSw.1.1 4 (by omega)
    have f5 := hSw.1.1 5 (by omega)
    have f6 := hSw.1.1 6 (by omega)
    have f7 := hSw.1.1 7 (by omega)
    simp only [E8.get] at f0 f1 f2 f3 f4 f5 f6 f7
    clear hSw
    go_simp
    try with_reducible rfl
  simp only [Act.put, List.setIfInBounds_toArray, List.set_cons_zero, List.set_cons_succ]
  refine wpAnyH_take (i := 7) (oi := ?o7q) (v := ?v7q) ?hi7q (by kernel_rfl) (by kernel_rfl) (by kernel_rfl) ?hQ7q ?hy7q (MixAt.drew (MixAt.drew HS.out)) ?more7q
  case hi7q => rw [List.getElem?_toArray]; exact rfl
  case hQ7q => exact fun _ _ _ h => h
  case hy7q =>
    refine Or.inl ⟨by rfl, ?_⟩
    intro w' hSw
    have f0 := hSw.1.1 0 (by omega)
    have f1 := hSw.1.1 1 (by omega)
    have f2 := hSw.1.1 2 (by omega)
    have f3 := hSw.1.1 3 (by omega)
    have f4 := hSw.1.1 4 (by omega)
    have f5 := hSw.1.1 5 (by omega)
    have f6 := hSw.1.1 6 (by omega)
    have f7 := hSw.1.1 7 (by omega)
    simp only [E8.get] at f0 f1 f2 f3 f4 f5 f6 f7
    clear hSw
    go_simp
    try with_reducible rfl
  simp only [Act.put, List.setIfInBounds_toArray, List.set_cons_zero, List.set_cons_succ]
  refine wpAnyH_take (i := 8) (oi := ?o8q) (v := ?v8q) ?hi8q (by kernel_rfl) (by kernel_rfl) (by kernel_rfl) ?hQ8q ?hy8q (MixAt.drew (MixAt.drew HS.out)) ?more8q
  case hi8q => rw [List.getElem?_toArray]; exact rfl
  case hQ8q => exact fun _ _ _ h => h
  case hy8q =>
    refine Or.inl ⟨by rfl, ?_⟩
    intro w' hSw
    have f0 := hSw.1.1 0 (by omega)
    have f1 := hSw.1.1 1 (by omega)
    have f2 := hSw.1.1 2 (by omega)
    have f3 := hSw.1.1 3 (by omega)
    have f4 := hSw.1.1 4 (by omega)
    have f5 := hSw.1.1 5 (by omega)
    have f6 := hSw.1.1 6 (by omega)
    have f7 := hSw.1.1 7 (by omega)
    simp only [E8.get] at f0 f1 f2 f3 f4 f5 f6 f7
    clear hSw
    go_simp
    try with_reducible rfl
  simp only [Act.put, List.setIfInBounds_toArray, List.set_cons_zero, List.set_cons_succ]
  refine wpAnyH_take (i := 9) (oi := ?o9q) (v := ?v9q) ?hi9q (by kernel_rfl) (by kernel_rfl) (by kernel_rfl) ?hQ9q ?hy9q (MixAt.drew (MixAt.drew HS.out)) ?more9q
  case hi9q => rw [List.getElem?_toArray]; exact rfl
  case hQ9q => exact fun _ _ _ h => h
  case hy9q =>
    refine Or.inl ⟨by rfl, ?_⟩
    intro w' hSw
    have f0 := hSw.1.1 0 (by omega)
    have f1 := hSw.1.1 1 (by omega)
    have f2 := hSw.1.1 2 (by omega)
    have f3 := hSw.1.1 3 (by omega)
    have f4 := hSw.1.1 4 (by omega)
    have f5 := hSw.1.1 5 (by omega)
    have f6 := hSw.1.1 6 (by omega)
    have f7 := hSw.1.1 7 (by omega)
    simp only [E8.get] at f0 f1 f2 f3 f4 f5 f6 f7
    clear hSw
    go_simp
    try with_reducible rfl
  simp only [Act.put, List.setIfInBounds_toArray, List.set_cons_zero, List.set_cons_succ]
  refine wpAnyH_take (i := 10) (oi := ?o10q) (v := ?v10q) ?hi10q (by kernel_rfl) (by kernel_rfl) (by kernel_rfl) ?hQ10q ?hy10q (MixAt.drew (MixAt.drew HS.out)) ?more10q
  case hi10q => rw [List.getElem?_toArray]; exact rfl
  case hQ10q => exact fun _ _ _ h => h
  case hy10q =>
    refine Or.inl ⟨by rfl, ?_⟩
    intro w' hSw
    have f0 := hSw.1.1 0 (by omega)
    have f1 := hSw.1.1 1 (by omega)
    have f2 := hSw.1.1 2 (by omega)
    have f3 := hSw.1.1 3 (by omega)
    have f4 := hSw.1.1 4 (by omega)
    have f5 := hSw.1.1 5 (by omega)
    have f6 := hSw.1.1 6 (by omega)
    have f7 := hSw.1.1 7 (by omega)
    simp only [E8.get] at f0 f1 f2 f3 f4 f5 f6 f7
    clear hSw
    go_simp
    try with_reducible rfl
  simp only [Act.put, List.setIfInBounds_toArray, List.set_cons_zero, List.set_cons_succ]
  refine wpAnyH_take (i := 11) (oi := ?o11q) (v := ?v11q) ?hi11q (by kernel_rfl) (by kernel_rfl) (by kernel_rfl) ?hQ11q ?hy11q (MixAt.drew (MixAt.drew HS.out)) ?more11q
  case hi11q => rw [List.getElem?_toArray]; exact rfl
  case hQ11q => exact fun _ _ _ h => h
  case hy11q =>
    refine Or.inl ⟨by rfl, ?_⟩
    intro w' hSw
    have f0 := hSw.1.1 0 (by omega)
    have f1 := hSw.1.1 1 (by omega)
    have f2 := hSw.1.1 2 (by omega)
    have f3 := hSw.1.1 3 (by omega)
    have f4 := hSw.1.1 4 (by omega)
    have f5 := hSw.1.1 5 (by omega)
    have f6 := hSw.1.1 6 (by omega)
    have f7 := hSw.1.1 7 (by omega)
    simp only [E8.get] at f0 f1 f2 f3 f4 f5 f6 f7
    clear hSw
    go_simp
    try with_reducible rfl
  simp only [Act.put, List.setIfInBounds_toArray, List.set_cons_zero, List.set_cons_succ]
  refine wpAnyH_take (i := 12) (oi := ?o12q) (v := ?v12q) ?hi12q (by kernel_rfl) (by kernel_rfl) (by kernel_rfl) ?hQ12q ?hy12q (MixAt.drew (MixAt.drew HS.out)) ?more12q
  case hi12q => rw [List.getElem?_toArray]; exact rfl
  case hQ12q => exact fun _ _ _ h => h
  case hy12q =>
    refine Or.inl ⟨by rfl, ?_⟩
    intro w' hSw
    have f0 := hSw.1.1 0 (by omega)
    have f1 := hSw.1.1 1 (by omega)
    have f2 := hSw.1.1 2 (by omega)
    have f3 := hSw.1.1 3 (by omega)
    have f4 := hSw.1.1 4 (by omega)
    have f5 := hSw.1.1 5 (by omega)
    have f6 := hSw.1.1 6 (by omega)
    have f7 := hSw.1.1 7 (by omega)
    simp only [E8.get] at f0 f1 f2 f3 f4 f5 f6 f7
    clear hSw
    go_simp
    try with_reducible rfl
  simp only [Act.put, List.setIfInBounds_toArray, List.set_cons_zero, List.set_cons_succ]
  refine wpAnyH_take (i := 13) (oi := ?o13q) (v := ?v13q) ?hi13q (by kernel_rfl) (by kernel_rfl) (by kernel_rfl) ?hQ13q ?hy13q (MixAt.drew (MixAt.drew HS.out)) ?more13q
  case hi13q => rw [List.getElem?_toArray]; exact rfl
  case hQ13q => exact fun _ _ _ h => h
  case hy13q =>
    refine Or.inl ⟨by rfl, ?_⟩
    intro w' hSw
    have f0 := hSw.1.1 0 (by omega)
    have f1 := hSw.1.1 1 (by omega)
    have f2 := hSw.1.1 2 (by omega)
    have f3 := hSw.1.1 3 (by omega)
    have f4 := hSw.1.1 4 (by omega)
    have f5 := hSw.1.1 5 (by omega)
    have f6 := hSw.1.1 6 (by omega)
    have f7 := hSw.1.1 7 (by omega)
    simp only [E8.get] at f0 f1 f2 f3 f4 f5 f6 f7
    clear hSw
    go_simp
    try with_reducible rfl
  simp only [Act.put, List.setIfInBounds_toArray, List.set_cons_zero, List.set_cons_succ]
  refine wpAnyH_take (i := 14) (oi := ?o14q) (v := ?v14q) ?hi14q (by kernel_rfl) (by kernel_rfl) (by kernel_rfl) ?hQ14q ?hy14q (MixAt.drew (MixAt.drew HS.out)) ?more14q
  case hi14q => rw [List.getElem?_toArray]; exact rfl
  case hQ14q => exact fun _ _ _ h => h
  case hy14q =>
    refine Or.inl ⟨by rfl, ?_⟩
    intro w' hSw
    have f0 := hSw.1.1 0 (by omega)
    have f1 := hSw.1.1 1 (by omega)
    have f2 := hSw.1.1 2 (by omega)
    have f3 := hSw.1.1 3 (by omega)
    have f4 := hSw.1.1 4 (by omega)
    have f5 := hSw.1.1 5 (by omega)
    have f6 := hSw.1.1 6 (by omega)
    have f7 := hSw.1.1 7 (by omega)
    simp only [E8.get] at f0 f1 f2 f3 f4 f5 f6 f7
    clear hSw
    go_simp
    try with_reducible rfl
  simp only [Act.put, List.setIfInBounds_toArray, List.set_cons_zero, List.set_cons_succ]
  refine wpAnyH_take (i := 15) (oi := ?o15q) (v := ?v15q) ?hi15q (by kernel_rfl) (by kernel_rfl) (by kernel_rfl) ?hQ15q ?hy15q (MixAt.drew (MixAt.drew HS.out)) ?more15q
  case hi15q => rw [List.getElem?_toArray]; exact rfl
  case hQ15q => exact fun _ _ _ h => h
  case hy15q =>
    refine Or.inl ⟨by rfl, ?_⟩
    intro w' hSw
    have f0 := hSw.1.1 0 (by omega)
    have f1 := hSw.1.1 1 (by omega)
    have f2 := hSw.1.1 2 (by omega)
    have f3 := hSw.1.1 3 (by omega)
    have f4 := hSw.1.1 4 (by omega)
    have f5 := hSw.1.1 5 (by omega)
    have f6 := hSw.1.1 6 (by omega)
    have f7 := hSw.1.1 7 (by omega)
    simp only [E8.get] at f0 f1 f2 f3 f4 f5 f6 f7
    clear hSw
    go_simp
    try with_reducible rfl
  simp only [Act.put, List.setIfInBounds_toArray, List.set_cons_zero, List.set_cons_succ]
  refine wpAnyH_take (i := 16) (oi := ?o16q) (v := ?v16q) ?hi16q (by kernel_rfl) (by kernel_rfl) (by kernel_rfl) ?hQ16q ?hy16q (MixAt.drew (MixAt.drew HS.out)) ?more16q
  case hi16q => rw [List.getElem?_toArray]; exact rfl
  case hQ16q => exact fun _ _ _ h => h
  case hy16q =>
    refine Or.inl ⟨by rfl, ?_⟩
    intro w' hSw
    have f0 := hSw.1.1 0 (by omega)
    have f1 := hSw.1.1 1 (by omega)
    have f2 := hSw.1.1 2 (by omega)
    have f3 := hSw.1.1 3 (by omega)
    have f4 := hSw.1.1 4 (by omega)
    have f5 := hSw.1.1 5 (by omega)
    have f6 := hSw.1.1 6 (by omega)
    have f7 := hSw.1.1 7 (by omega)
    simp only [E8.get] at f0 f1 f2 f3 f4 f5 f6 f7
    clear hSw
    go_simp
    try with_reducible rfl
  simp only [Act.put, List.setIfInBounds_toArray, List.set_cons_zero, List.set_cons_succ]
  refine wpAnyH_take (i := 17) (oi := ?o17q) (v := ?v17q) ?hi17q (by kernel_rfl) (by kernel_rfl) (by kernel_rfl) ?hQ17q ?hy17q (MixAt.drew (MixAt.drew HS.out)) ?more17q
  case hi17q => rw [List.getElem?_toArray]; exact rfl
  case hQ17q => exact fun _ _ _ h => h
  case hy17q =>
    refine Or.inl ⟨by rfl, ?_⟩
    intro w' hSw
    have f0 := hSw.1.1 0 (by omega)
    have f1 := hSw.1.1 1 (by omega)
    have f2 := hSw.1.1 2 (by omega)
    have f3 := hSw.1.1 3 (by omega)
    have f4 := hSw.1.1 4 (by omega)
    have f5 := hSw.1.1 5 (by omega)
    have f6 := hSw.1.1 6 (by omega)
    have f7 := hSw.1.1 7 (by omega)
    simp only [E8.get] at f0 f1 f2 f3 f4 f5 f6 f7
    clear hSw
    go_simp
    try with_reducible rfl
  simp only [Act.put, List.setIfInBounds_toArray, List.set_cons_zero, List.set_cons_succ]
  refine wpAnyH_take (i := 18) (oi := ?o18q) (v := ?v18q) ?hi18q (by kernel_rfl) (by kernel_rfl) (by kernel_rfl) ?hQ18q ?hy18q (MixAt.drew (MixAt.drew HS.out)) ?more18q
  case hi18q => rw [List.getElem?_toArray]; exact rfl
  case hQ18q => exact fun _ _ _ h => h
  case hy18q =>
    refine Or.inl ⟨by rfl, ?_⟩
    intro w' hSw
    have f0 := hSw.1.1 0 (by omega)
    have f1 := hSw.1.1 1 (by omega)
    have f2 := hSw.1.1 2 (by omega)
    have f3 := hSw.1.1 3 (by omega)
    have f4 := hSw.1.1 4 (by omega)
    have f5 := hSw.1.1 5 (by omega)
    have f6 := hSw.1.1 6 (by omega)
    have f7 := hSw.1.1 7 (by omega)
    simp only [E8.get] at f0 f1 f2 f3 f4 f5 f6 f7
    clear hSw
    go_simp
    try with_reducible rfl
  simp only [Act.put, List.setIfInBounds_toArray, List.set_cons_zero, List.set_cons_succ]
  refine wpAnyH_take (i := 19) (oi := ?o19q) (v := ?v19q) ?hi19q (by kernel_rfl) (by kernel_rfl) (by kernel_rfl) ?hQ19q ?hy19q (MixAt.drew (MixAt.drew HS.out)) ?more19q
  case hi19q => rw [List.getElem?_toArray]; exact rfl
  case hQ19q => exact fun _ _ _ h => h
  case hy19q =>
    refine Or.inl ⟨by rfl, ?_⟩
    intro w' hSw
    have f0 := hSw.1.1 0 (by omega)
    have f1 := hSw.1.1 1 (by omega)
    have f2 := hSw.1.1 2 (by omega)
    have f3 := hSw.1.1 3 (by omega)
    have f4 := hSw.1.1 4 (by omega)
    have f5 := hSw.1.1 5 (by omega)
    have f6 := hSw.1.1 6 (by omega)
    have f7 := hSw.1.1 7 (by omega)
    simp only [E8.get] at f0 f1 f2 f3 f4 f5 f6 f7
    clear hSw
    go_simp
    try with_reducible rfl
  simp only [Act.put, List.setIfInBounds_toArray, List.set_cons_zero, List.set_cons_succ]
  refine wpAnyH_take (i := 20) (oi := ?o20q) (v := ?v20q) ?hi20q (by kernel_rfl) (by kernel_rfl) (by kernel_rfl) ?hQ20q ?hy20q (MixAt.drew (MixAt.drew HS.out)) ?more20q
  case hi20q => rw [List.getElem?_toArray]; exact rfl
  case hQ20q => exact fun _ _ _ h => h
  case hy20q =>
    refine Or.inl ⟨by rfl, ?_⟩
    intro w' hSw
    have f0 := hSw.1.1 0 (by omega)
    have f1 := hSw.1.1 1 (by omega)
    have f2 := hSw.1.1 2 (by omega)
    have f3 := hSw.1.1 3 (by omega)
    have f4 := hSw.1.1 4 (by omega)
    have f5 := hSw.1.1 5 (by omega)
    have f6 := hSw.1.1 6 (by omega)
    have f7 := hSw.1.1 7 (by omega)
    simp only [E8.get] at f0 f1 f2 f3 f4 f5 f6 f7
    clear hSw
    go_simp
    try with_reducible rfl
  simp only [Act.put, List.setIfInBounds_toArray, List.set_cons_zero, List.set_cons_succ]
  refine wpAnyH_take (i := 21) (oi := ?o21q) (v := ?v21q) ?hi21q (by kernel_rfl) (by kernel_rfl) (by kernel_rfl) ?hQ21q ?hy21q (MixAt.drew (MixAt.drew HS.out)) ?more21q
  case hi21q => rw [List.getElem?_toArray]; exact rfl
  case hQ21q => exact fun _ _ _ h => h
  case hy21q =>
    refine Or.inl ⟨by rfl, ?_⟩
    intro w' hSw
    have f0 := hSw.1.1 0 (by omega)
    have f1 := hSw.1.1 1 (by omega)
    have f2 := hSw.1.1 2 (by omega)
    have f3 := hSw.1.1 3 (by omega)
    have f4 := hSw.1.1 4 (by omega)
    have f5 := hSw.1.1 5 (by omega)
    have f6 := hSw.1.1 6 (by omega)
    have f7 := hSw.1.1 7 (by omega)
    simp only [E8.get] at f0 f1 f2 f3 f4 f5 f6 f7
    clear hSw
    go_simp
    try with_reducible rfl
  simp only [Act.put, List.setIfInBounds_toArray, List.set_cons_zero, List.set_cons_succ]
  refine wpAnyH_take (i := 22) (oi := ?o22q) (v := ?v22q) ?hi22q (by kernel_rfl) (by kernel_rfl) (by kernel_rfl) ?hQ22q ?hy22q (MixAt.drew (MixAt.drew HS.out)) ?more22q
  case hi22q => rw [List.getElem?_toArray]; exact rfl
  case hQ22q => exact fun _ _ _ h => h
  case hy22q =>
    refine Or.inl ⟨by rfl, ?_⟩
    intro w' hSw
    have f0 := hSw.1.1 0 (by omega)
    have f1 := hSw.1.1 1 (by omega)
    have f2 := hSw.1.1 2 (by omega)
    have f3 := hSw.1.1 3 (by omega)
    have f4 := hSw.1.1 4 (by omega)
    have f5 := hSw.1.1 5 (by omega)
    have f6 := hSw.1.1 6 (by omega)
    have f7 := hSw.1.1 7 (by omega)
    simp only [E8.get] at f0 f1 f2 f3 f4 f5 f6 f7
    clear hSw
    go_simp
    try with_reducible rfl
  simp only [Act.put, List.setIfInBounds_toArray, List.set_cons_zero, List.set_cons_succ]
  refine wpAnyH_take (i := 23) (oi := ?o23q) (v := ?v23q) ?hi23q (by kernel_rfl) (by kernel_rfl) (by kernel_rfl) ?hQ23q ?hy23q (MixAt.drew (MixAt.drew HS.out)) ?more23q
  case hi23q => rw [List.getElem?_toArray]; exact rfl
  case hQ23q => exact fun _ _ _ h => h
  case hy23q =>
    refine Or.inl ⟨by rfl, ?_⟩
    intro w' hSw
    have f0 := hSw.1.1 0 (by omega)
    have f1 := hSw.1.1 1 (by omega)
    have f2 := hSw.1.1 2 (by omega)
    have f3 := hSw.1.1 3 (by omega)
    have f4 := hSw.1.1 4 (by omega)
    have f5 := hSw.1.1 5 (by omega)
    have f6 := hSw.1.1 6 (by omega)
    have f7 := hSw.1.1 7 (by omega)
    simp only [E8.get] at f0 f1 f2 f3 f4 f5 f6 f7
    clear hSw
    go_simp
    try with_reducible rfl
  simp only [Act.put, List.setIfInBounds_toArray, List.set_cons_zero, List.set_cons_succ]
  refine wpAnyH_done (by kernel_rfl) ?_ _
  go_wp2_with fail
  rename_i Kr hKr
  have HKr : Hid _ := hKr
  clear hKr
  go_loopw [60, 3, 4, 5, 6, 7, 8, 9, 10] (fun i va vb vc vd ve vf vg vh wr => ∃ t : Nat, t ≤ 64 ∧ i = .int .i64 t ∧ va = .int .u32 ((rounds b x t).a : Nat) ∧ vb = .int .u32 ((rounds b x t).b : Nat) ∧ vc = .int .u32 ((rounds b x t).c : Nat) ∧ vd = .int .u32 ((rounds b x t).d : Nat) ∧ ve = .int .u32 ((rounds b x t).e : Nat) ∧ vf = .int .u32 ((rounds b x t).f : Nat) ∧ vg = .int .u32 ((rounds b x t).g : Nat) ∧ vh = .int .u32 ((rounds b x t).h : Nat) ∧ MixAt w wr g w1.heap.size x b n)
    (fun i _ _ _ _ _ _ _ _ _ => 64 - (intOf i).toNat)
  case atStart => exact ⟨0, by omega, rfl, rfl, rfl, rfl, rfl, rfl, rfl, rfl, rfl, MixAt.drew (MixAt.drew HS.out)⟩
  case round =>
    clear HS
    obtain ⟨t, ht, rfl, rfl, rfl, rfl, rfl, rfl, rfl, rfl, rfl, hS⟩ := hrel
    have HS : Hid _ := hS
    clear hS
    by_cases hlt : t < 64
    · have hlt' : (t : Int) < 64 := by omega
      have hd : decide ((t : Int) < 64) = true := decide_eq_true hlt'
      obtain ⟨y, hy⟩ : ∃ y, y = rounds b x t := ⟨_, rfl⟩
      rw [← hy]
      obtain ⟨wv, hwv⟩ : ∃ q, q = wAt b t := ⟨_, rfl⟩
      obtain ⟨cv, hcv⟩ : ∃ q, q = cube t := ⟨_, rfl⟩
      have XW : Hid _ := hwv
      have XC : Hid _ := hcv
      have HN : Hid (rounds b x (t + 1) = rnd y cv wv) := by show _ = _; rw [hy, hwv, hcv]; rfl
      clear hwv hcv hy
      obtain ⟨ya, yb, yc, yd, ye, yf, yg, yh⟩ := y
      go_wp2_with fail
      refine wp_region_H (fun w' => MixAt w w' g w1.heap.size x b n) 28 rfl (by kernel_rfl) ?_
      refine wpAnyH_take (i := 0) (oi := ?o0t) (v := ?v0t) ?hi0t (by kernel_rfl) (by kernel_rfl) (by kernel_rfl) ?hQ0t ?hy0t (MixAt.drew HS.out) ?more0t
      case hi0t => rw [List.getElem?_toArray]; exact rfl
      case hQ0t => exact fun _ _ _ h => h
      case hy0t =>
        refine Or.inl ⟨by rfl, ?_⟩
        intro w' hSw
        have fc := hSw.2.1.1 t hlt
        have fw := hSw.2.2.1.1 t hlt
        rw [if_pos hlt, ← XW.out] at fw
        rw [← XC.out] at fc
        clear hSw
        go_simp
        try with_reducible rfl
      simp only [Act.put, List.setIfInBounds_toArray, List.set_cons_zero, List.set_cons_succ]
      refine wpAnyH_take (i := 1) (oi := ?o1t) (v := ?v1t) ?hi1t (by kernel_rfl) (by kernel_rfl) (by kernel_rfl) ?hQ1t ?hy1t (MixAt.drew HS.out) ?more1t
      case hi1t => rw [List.getElem?_toArray]; exact rfl
      case hQ1t => exact fun _ _ _ h => h
      case hy1t =>
        refine Or.inl ⟨by rfl, ?_⟩
        intro w' hSw
        have fc := hSw.2.1.1 t hlt
        have fw := hSw.2.2.1.1 t hlt
        rw [if_pos hlt, ← XW.out] at fw
        rw [← XC.out] at fc
        clear hSw
        go_simp
        try with_reducible rfl
      simp only [Act.put, List.setIfInBounds_toArray, List.set_cons_zero, List.set_cons_succ]
      refine wpAnyH_take (i := 3) (oi := ?o3t) (v := ?v3t) ?hi3t (by kernel_rfl) (by kernel_rfl) (by kernel_rfl) ?hQ3t ?hy3t (MixAt.drew HS.out) ?more3t
      case hi3t => rw [List.getElem?_toArray]; exact rfl
      case hQ3t => exact fun _ _ _ h => h
      case hy3t =>
        refine Or.inl ⟨by rfl, ?_⟩
        intro w' hSw
        have fc := hSw.2.1.1 t hlt
        have fw := hSw.2.2.1.1 t hlt
        rw [if_pos hlt, ← XW.out] at fw
        rw [← XC.out] at fc
        clear hSw
        go_simp
        try with_reducible rfl
      simp only [Act.put, List.setIfInBounds_toArray, List.set_cons_zero, List.set_cons_succ]
      refine wpAnyH_take (i := 6) (oi := ?o6t) (v := ?v6t) ?hi6t (by kernel_rfl) (by kernel_rfl) (by kernel_rfl) ?hQ6t ?hy6t (MixAt.drew HS.out) ?more6t
      case hi6t => rw [List.getElem?_toArray]; exact rfl
      case hQ6t => exact fun _ _ _ h => h
      case hy6t =>
        refine Or.inl ⟨by rfl, ?_⟩
        intro w' hSw
        have fc := hSw.2.1.1 t hlt
        have fw := hSw.2.2.1.1 t hlt
        rw [if_pos hlt, ← XW.out] at fw
        rw [← XC.out] at fc
        clear hSw
        go_simp
        try with_reducible rfl
      simp only [Act.put, List.setIfInBounds_toArray, List.set_cons_zero, List.set_cons_succ]
      refine wpAnyH_take (i := 10) (oi := ?o10t) (v := ?v10t) ?hi10t (by kernel_rfl) (by kernel_rfl) (by kernel_rfl) ?hQ10t ?hy10t (MixAt.drew HS.out) ?more10t
      case hi10t => rw [List.getElem?_toArray]; exact rfl
      case hQ10t => exact fun _ _ _ h => h
      case hy10t =>
        refine Or.inl ⟨by rfl, ?_⟩
        intro w' hSw
        have fc := hSw.2.1.1 t hlt
        have fw := hSw.2.2.1.1 t hlt
        rw [if_pos hlt, ← XW.out] at fw
        rw [← XC.out] at fc
        clear hSw
        go_simp
        try with_reducible rfl
      simp only [Act.put, List.setIfInBounds_toArray, List.set_cons_zero, List.set_cons_succ]
      refine wpAnyH_take (i := 11) (oi := ?o11t) (v := ?v11t) ?hi11t (by kernel_rfl) (by kernel_rfl) (by kernel_rfl) ?hQ11t ?hy11t (MixAt.drew HS.out) ?more11t
      case hi11t => rw [List.getElem?_toArray]; exact rfl
      case hQ11t => exact fun _ _ _ h => h
      case hy11t =>
        refine Or.inl ⟨by rfl, ?_⟩
        intro w' hSw
        have fc := hSw.2.1.1 t hlt
        have fw := hSw.2.2.1.1 t hlt
        rw [if_pos hlt, ← XW.out] at fw
        rw [← XC.out] at fc
        clear hSw
        go_simp
        try with_reducible rfl
      simp only [Act.put, List.setIfInBounds_toArray, List.set_cons_zero, List.set_cons_succ]
      refine wpAnyH_take (i := 12) (oi := ?o12t) (v := ?v12t) ?hi12t (by kernel_rfl) (by kernel_rfl) (by kernel_rfl) ?hQ12t ?hy12t (MixAt.drew HS.out) ?more12t
      case hi12t => rw [List.getElem?_toArray]; exact rfl
      case hQ12t => exact fun _ _ _ h => h
      case hy12t =>
        refine Or.inl ⟨by rfl, ?_⟩
        intro w' hSw
        have fc := hSw.2.1.1 t hlt
        have fw := hSw.2.2.1.1 t hlt
        rw [if_pos hlt, ← XW.out] at fw
        rw [← XC.out] at fc
        clear hSw
        go_simp
        try with_reducible rfl
      simp only [Act.put, List.setIfInBounds_toArray, List.set_cons_zero, List.set_cons_succ]
      refine wpAnyH_take (i := 13) (oi := ?o13t) (v := ?v13t) ?hi13t (by kernel_rfl) (by kernel_rfl) (by kernel_rfl) ?hQ13t ?hy13t (MixAt.drew HS.out) ?more13t
      case hi13t => rw [List.getElem?_toArray]; exact rfl
      case hQ13t => exact fun _ _ _ h => h
      case hy13t =>
        refine Or.inl ⟨by rfl, ?_⟩
        intro w' hSw
        have fc := hSw.2.1.1 t hlt
        have fw := hSw.2.2.1.1 t hlt
        rw [if_pos hlt, ← XW.out] at fw
        rw [← XC.out] at fc
        clear hSw
        go_simp
        try with_reducible rfl
      simp only [Act.put, List.setIfInBounds_toArray, List.set_cons_zero, List.set_cons_succ]
      refine wpAnyH_take (i := 14) (oi := ?o14t) (v := ?v14t) ?hi14t (by kernel_rfl) (by kernel_rfl) (by kernel_rfl) ?hQ14t ?hy14t (MixAt.drew HS.out) ?more14t
      case hi14t => rw [List.getElem?_toArray]; exact rfl
      case hQ14t => exact fun _ _ _ h => h
      case hy14t =>
        refine Or.inl ⟨by rfl, ?_⟩
        intro w' hSw
        have fc := hSw.2.1.1 t hlt
        have fw := hSw.2.2.1.1 t hlt
        rw [if_pos hlt, ← XW.out] at fw
        rw [← XC.out] at fc
        clear hSw
        go_simp
        try with_reducible rfl
      simp only [Act.put, List.setIfInBounds_toArray, List.set_cons_zero, List.set_cons_succ]
      refine wpAnyH_take (i := 15) (oi := ?o15t) (v := ?v15t) ?hi15t (by kernel_rfl) (by kernel_rfl) (by kernel_rfl) ?hQ15t ?hy15t (MixAt.drew HS.out) ?more15t
      case hi15t => rw [List.getElem?_toArray]; exact rfl
      case hQ15t => exact fun _ _ _ h => h
      case hy15t =>
        refine Or.inl ⟨by rfl, ?_⟩
        intro w' hSw
        have fc := hSw.2.1.1 t hlt
        have fw := hSw.2.2.1.1 t hlt
        rw [if_pos hlt, ← XW.out] at fw
        rw [← XC.out] at fc
        clear hSw
        go_simp
        try with_reducible rfl
      simp only [Act.put, List.setIfInBounds_toArray, List.set_cons_zero, List.set_cons_succ]
      refine wpAnyH_take (i := 16) (oi := ?o16t) (v := ?v16t) ?hi16t (by kernel_rfl) (by kernel_rfl) (by kernel_rfl) ?hQ16t ?hy16t (MixAt.drew HS.out) ?more16t
      case hi16t => rw [List.getElem?_toArray]; exact rfl
      case hQ16t => exact fun _ _ _ h => h
      case hy16t =>
        refine Or.inl ⟨by rfl, ?_⟩
        intro w' hSw
        have fc := hSw.2.1.1 t hlt
        have fw := hSw.2.2.1.1 t hlt
        rw [if_pos hlt, ← XW.out] at fw
        rw [← XC.out] at fc
        clear hSw
        go_simp
        try with_reducible rfl
      simp only [Act.put, List.setIfInBounds_toArray, List.set_cons_zero, List.set_cons_succ]
      refine wpAnyH_take (i := 17) (oi := ?o17t) (v := ?v17t) ?hi17t (by kernel_rfl) (by kernel_rfl) (by kernel_rfl) ?hQ17t ?hy17t (MixAt.drew HS.out) ?more17t
      case hi17t => rw [List.getElem?_toArray]; exact rfl
      case hQ17t => exact fun _ _ _ h => h
      case hy17t =>
        refine Or.inl ⟨by rfl, ?_⟩
        intro w' hSw
        have fc := hSw.2.1.1 t hlt
        have fw := hSw.2.2.1.1 t hlt
        rw [if_pos hlt, ← XW.out] at fw
        rw [← XC.out] at fc
        clear hSw
        go_simp
        try with_reducible rfl
      simp only [Act.put, List.setIfInBounds_toArray, List.set_cons_zero, List.set_cons_succ]
      refine wpAnyH_take (i := 19) (oi := ?o19t) (v := ?v19t) ?hi19t (by kernel_rfl) (by kernel_rfl) (by kernel_rfl) ?hQ19t ?hy19t (MixAt.drew HS.out) ?more19t
      case hi19t => rw [List.getElem?_toArray]; exact rfl
      case hQ19t => exact fun _ _ _ h => h
      case hy19t =>
        refine Or.inl ⟨by rfl, ?_⟩
        intro w' hSw
        have fc := hSw.2.1.1 t hlt
        have fw := hSw.2.2.1.1 t hlt
        rw [if_pos hlt, ← XW.out] at fw
        rw [← XC.out] at fc
        clear hSw
        go_simp
        try with_reducible rfl
      simp only [Act.put, List.setIfInBounds_toArray, List.set_cons_zero, List.set_cons_succ]
      refine wpAnyH_take (i := 20) (oi := ?o20t) (v := ?v20t) ?hi20t (by kernel_rfl) (by kernel_rfl) (by kernel_rfl) ?hQ20t ?hy20t (MixAt.drew HS.out) ?more20t
      case hi20t => rw [List.getElem?_toArray]; exact rfl
      case hQ20t => exact fun _ _ _ h => h
      case hy20t =>
        refine Or.inl ⟨by rfl, ?_⟩
        intro w' hSw
        have fc := hSw.2.1.1 t hlt
        have fw := hSw.2.2.1.1 t hlt
        rw [if_pos hlt, ← XW.out] at fw
        rw [← XC.out] at fc
        clear hSw
        go_simp
        try with_reducible rfl
      simp only [Act.put, List.setIfInBounds_toArray, List.set_cons_zero, List.set_cons_succ]
      refine wpAnyH_take (i := 21) (oi := ?o21t) (v := ?v21t) ?hi21t (by kernel_rfl) (by kernel_rfl) (by kernel_rfl) ?hQ21t ?hy21t (MixAt.drew HS.out) ?more21t
      case hi21t => rw [List.getElem?_toArray]; exact rfl
      case hQ21t => exact fun _ _ _ h => h
      case hy21t =>
        refine Or.inl ⟨by rfl, ?_⟩
        intro w' hSw
        have fc := hSw.2.1.1 t hlt
        have fw := hSw.2.2.1.1 t hlt
        rw [if_pos hlt, ← XW.out] at fw
        rw [← XC.out] at fc
        clear hSw
        go_simp
        try with_reducible rfl
      simp only [Act.put, List.setIfInBounds_toArray, List.set_cons_zero, List.set_cons_succ]
      refine wpAnyH_take (i := 23) (oi := ?o23t) (v := ?v23t) ?hi23t (by kernel_rfl) (by kernel_rfl) (by kernel_rfl) ?hQ23t ?hy23t (MixAt.drew HS.out) ?more23t
      case hi23t => rw [List.getElem?_toArray]; exact rfl
      case hQ23t => exact fun _ _ _ h => h
      case hy23t =>
        refine Or.inl ⟨by rfl, ?_⟩
        intro w' hSw
        have fc := hSw.2.1.1 t hlt
        have fw := hSw.2.2.1.1 t hlt
        rw [if_pos hlt, ← XW.out] at fw
        rw [← XC.out] at fc
        clear hSw
        go_simp
        try with_reducible rfl
      simp only [Act.put, List.setIfInBounds_toArray, List.set_cons_zero, List.set_cons_succ]
      refine wpAnyH_take (i := 24) (oi := ?o24t) (v := ?v24t) ?hi24t (by kernel_rfl) (by kernel_rfl) (by kernel_rfl) ?hQ24t ?hy24t (MixAt.drew HS.out) ?more24t
      case hi24t => rw [List.getElem?_toArray]; exact rfl
      case hQ24t => exact fun _ _ _ h => h
      case hy24t =>
        refine Or.inl ⟨by rfl, ?_⟩
        intro w' hSw
        have fc := hSw.2.1.1 t hlt
        have fw := hSw.2.2.1.1 t hlt
        rw [if_pos hlt, ← XW.out] at fw
        rw [← XC.out] at fc
        clear hSw
        go_simp
        try with_reducible rfl
      simp only [Act.put, List.setIfInBounds_toArray, List.set_cons_zero, List.set_cons_succ]
      refine wpAnyH_take (i := 25) (oi := ?o25t) (v := ?v25t) ?hi25t (by kernel_rfl) (by kernel_rfl) (by kernel_rfl) ?hQ25t ?hy25t (MixAt.drew HS.out) ?more25t
      case hi25t => rw [List.getElem?_toArray]; exact rfl
      case hQ25t => exact fun _ _ _ h => h
      case hy25t =>
        refine Or.inl ⟨by rfl, ?_⟩
        intro w' hSw
        have fc := hSw.2.1.1 t hlt
        have fw := hSw.2.2.1.1 t hlt
        rw [if_pos hlt, ← XW.out] at fw
        rw [← XC.out] at fc
        clear hSw
        go_simp
        try with_reducible rfl
      simp only [Act.put, List.setIfInBounds_toArray, List.set_cons_zero, List.set_cons_succ]
      refine wpAnyH_one (i := 2) (o := ?o2t) (by kernel_rfl) ?hi2t ?hw2t ?st2t
      case hi2t => rw [List.getElem?_toArray]; exact rfl
      case hw2t => exact rfl
      intro K hK
      have HK2t : Hid _ := hK
      clear hK
      go_simp
      refine (turn_i _ _ (by decide) (by decide) _).mono ?_
      rintro e w' ⟨rfl, rfl⟩
      go_wp2_with fail
      refine HK2t.out _ _ ⟨(MixAt.drew HS.out), ?_⟩
      clear HK2t K
      try simp only [Act.put, List.setIfInBounds_toArray, List.set_cons_zero, List.set_cons_succ]
      refine wpAnyH_one (i := 4) (o := ?o4t) (by kernel_rfl) ?hi4t ?hw4t ?st4t
      case hi4t => rw [List.getElem?_toArray]; exact rfl
      case hw4t => exact rfl
      intro K hK
      have HK4t : Hid _ := hK
      clear hK
      go_simp
      refine (turn_i _ _ (by decide) (by decide) _).mono ?_
      rintro e w' ⟨rfl, rfl⟩
      go_wp2_with fail
      refine HK4t.out _ _ ⟨(MixAt.drew HS.out), ?_⟩
      clear HK4t K
      try simp only [Act.put, List.setIfInBounds_toArray, List.set_cons_zero, List.set_cons_succ]
      refine wpAnyH_take (i := 5) (oi := ?o5t) (v := ?v5t) ?hi5t (by kernel_rfl) (by kernel_rfl) (by kernel_rfl) ?hQ5t ?hy5t (MixAt.drew HS.out) ?more5t
      case hi5t => rw [List.getElem?_toArray]; exact rfl
      case hQ5t => exact fun _ _ _ h => h
      case hy5t =>
        refine Or.inl ⟨by rfl, ?_⟩
        intro w' hSw
        have fc := hSw.2.1.1 t hlt
        have fw := hSw.2.2.1.1 t hlt
        rw [if_pos hlt, ← XW.out] at fw
        rw [← XC.out] at fc
        clear hSw
        go_simp
        try with_reducible rfl
      simp only [Act.put, List.setIfInBounds_toArray, List.set_cons_zero, List.set_cons_succ]
      refine wpAnyH_one (i := 7) (o := ?o7t) (by kernel_rfl) ?hi7t ?hw7t ?st7t
      case hi7t => rw [List.getElem?_toArray]; exact rfl
      case hw7t => exact rfl
      intro K hK
      have HK7t : Hid _ := hK
      clear hK
      go_simp
      refine (turn_i _ _ (by decide) (by decide) _).mono ?_
      rintro e w' ⟨rfl, rfl⟩
      go_wp2_with fail
      refine HK7t.out _ _ ⟨(MixAt.drew HS.out), ?_⟩
      clear HK7t K
      try simp only [Act.put, List.setIfInBounds_toArray, List.set_cons_zero, List.set_cons_succ]
      refine wpAnyH_take (i := 8) (oi := ?o8t) (v := ?v8t) ?hi8t (by kernel_rfl) (by kernel_rfl) (by kernel_rfl) ?hQ8t ?hy8t (MixAt.drew HS.out) ?more8t
      case hi8t => rw [List.getElem?_toArray]; exact rfl
      case hQ8t => exact fun _ _ _ h => h
      case hy8t =>
        refine Or.inl ⟨by rfl, ?_⟩
        intro w' hSw
        have fc := hSw.2.1.1 t hlt
        have fw := hSw.2.2.1.1 t hlt
        rw [if_pos hlt, ← XW.out] at fw
        rw [← XC.out] at fc
        clear hSw
        go_simp
        try with_reducible rfl
      simp only [Act.put, List.setIfInBounds_toArray, List.set_cons_zero, List.set_cons_succ]
      refine wpAnyH_take (i := 9) (oi := ?o9t) (v := ?v9t) ?hi9t (by kernel_rfl) (by kernel_rfl) (by kernel_rfl) ?hQ9t ?hy9t (MixAt.drew HS.out) ?more9t
      case hi9t => rw [List.getElem?_toArray]; exact rfl
      case hQ9t => exact fun _ _ _ h => h
      case hy9t =>
        refine Or.inl ⟨by rfl, ?_⟩
        intro w' hSw
        have fc := hSw.2.1.1 t hlt
        have fw := hSw.2.2.1.1 t hlt
        rw [if_pos hlt, ← XW.out] at fw
        rw [← XC.out] at fc
        clear hSw
        go_simp
        try with_reducible rfl
      simp only [Act.put, List.setIfInBounds_toArray, List.set_cons_zero, List.set_cons_succ]
      refine wpAnyH_take (i := 18) (oi := ?o18t) (v := ?v18t) ?hi18t (by kernel_rfl) (by kernel_rfl) (by kernel_rfl) ?hQ18t ?hy18t (MixAt.drew HS.out) ?more18t
      case hi18t => rw [List.getElem?_toArray]; exact rfl
      case hQ18t => exact fun _ _ _ h => h
      case hy18t =>
        refine Or.inl ⟨by rfl, ?_⟩
        intro w' hSw
        have fc := hSw.2.1.1 t hlt
        have fw := hSw.2.2.1.1 t hlt
        rw [if_pos hlt, ← XW.out] at fw
        rw [← XC.out] at fc
        clear hSw
        go_simp
        try with_reducible rfl
      simp only [Act.put, List.setIfInBounds_toArray, List.set_cons_zero, List.set_cons_succ]
      refine wpAnyH_take (i := 22) (oi := ?o22t) (v := ?v22t) ?hi22t (by kernel_rfl) (by kernel_rfl) (by kernel_rfl) ?hQ22t ?hy22t (MixAt.drew HS.out) ?more22t
      case hi22t => rw [List.getElem?_toArray]; exact rfl
      case hQ22t => exact fun _ _ _ h => h
      case hy22t =>
        refine Or.inl ⟨by rfl, ?_⟩
        intro w' hSw
        have fc := hSw.2.1.1 t hlt
        have fw := hSw.2.2.1.1 t hlt
        rw [if_pos hlt, ← XW.out] at fw
        rw [← XC.out] at fc
        clear hSw
        go_simp
        try with_reducible rfl
      simp only [Act.put, List.setIfInBounds_toArray, List.set_cons_zero, List.set_cons_succ]
      refine wpAnyH_take (i := 26) (oi := ?o26t) (v := ?v26t) ?hi26t (by kernel_rfl) (by kernel_rfl) (by kernel_rfl) ?hQ26t ?hy26t (MixAt.drew HS.out) ?more26t
      case hi26t => rw [List.getElem?_toArray]; exact rfl
      case hQ26t => exact fun _ _ _ h => h
      case hy26t =>
        refine Or.inl ⟨by rfl, ?_⟩
        intro w' hSw
        have fc := hSw.2.1.1 t hlt
        have fw := hSw.2.2.1.1 t hlt
        rw [if_pos hlt, ← XW.out] at fw
        rw [← XC.out] at fc
        clear hSw
        go_simp
        try with_reducible rfl
      simp only [Act.put, List.setIfInBounds_toArray, List.set_cons_zero, List.set_cons_succ]
      refine wpAnyH_take (i := 27) (oi := ?o27t) (v := ?v27t) ?hi27t (by kernel_rfl) (by kernel_rfl) (by kernel_rfl) ?hQ27t ?hy27t (MixAt.drew HS.out) ?more27t
      case hi27t => rw [List.getElem?_toArray]; exact rfl
      case hQ27t => exact fun _ _ _ h => h
      case hy27t =>
        refine Or.inl ⟨by rfl, ?_⟩
        intro w' hSw
        have fc := hSw.2.1.1 t hlt
        have fw := hSw.2.2.1.1 t hlt
        rw [if_pos hlt, ← XW.out] at fw
        rw [← XC.out] at fc
        clear hSw
        go_simp
        try with_reducible rfl
      simp only [Act.put, List.setIfInBounds_toArray, List.set_cons_zero, List.set_cons_succ]
      refine wpAnyH_done (by kernel_rfl) ?_ _
      go_wp2_with (first | (go_at_call 84; refine (turn_i _ _ (by decide) (by decide) _).mono ?_; rintro e w' ⟨rfl, rfl⟩))
      go_roundw
      case rel =>
        refine ⟨t + 1, by omega, by go_num, ?_, ?_, ?_, ?_, ?_, ?_, ?_, ?_, MixAt.drew HS.out⟩ <;> rw [HN.out] <;> rfl
      case measure => simp [intOf]; omega
    · obtain rfl : t = 64 := by omega
      go_wp2_with fail
      refine HKr.out _ _ ?_
      clear HKr
      obtain ⟨y, hy⟩ : ∃ y, y = rounds b x 64 := ⟨_, rfl⟩
      rw [← hy]
      have HY : Hid _ := hy
      clear hy
      have HG0 := HG.out
      go_wp2_with fail
      go_loopw [132] (fun i wr => ∃ k : Nat, k ≤ 8 ∧ i = .int .i64 k ∧ SumAt w wr g x y b n k)
        (fun i _ => 8 - (intOf i).toNat)
      case atStart => exact ⟨0, by omega, rfl, SumAt.start (HS := HS.out) (hg := HH.out.2.2.2.2)⟩
      case round =>
        clear HS
        obtain ⟨k, hk, rfl, hS⟩ := hrel
        have HS : Hid _ := hS
        clear hS
        by_cases hlt : k < 8
        · obtain ⟨xk, hxk⟩ : ∃ q, q = x.get k := ⟨_, rfl⟩
          obtain ⟨yk, hyk⟩ : ∃ q, q = y.get k := ⟨_, rfl⟩
          have hix : ∀ w, (Instr.index 130 (.agg #[.int .u32 (y.a : Nat), .int .u32 (y.b : Nat), .int .u32 (y.c : Nat), .int .u32 (y.d : Nat), .int .u32 (y.e : Nat), .int .u32 (y.f : Nat), .int .u32 (y.g : Nat), .int .u32 (y.h : Nat)]) (.int .i64 (k : Nat))).run Tryd.prog w = .ok (.int .u32 (yk : Nat)) w := fun w => by rw [hyk]; exact index8 y k hlt w
          have XK : Hid _ := hxk
          have HV : Hid (add32 xk yk = add32 (x.get k) (y.get k)) := by show _ = _; rw [hxk, hyk]
          have hk8 : (k : Int) < 8 := by omega
          have hd : decide ((k : Int) < 8) = true := decide_eq_true hk8
          clear hxk hyk
          go_wp2_with fail
          clear hix
          refine wp_region_N (fun w' => SumAt w w' g x y b n k) 11 12 rfl (by kernel_rfl) ?_
          refine wpAnyN_take (i := 0) (oi := ?o0c) (v := ?v0c) ?hi0c (by kernel_rfl) (by kernel_rfl) (by kernel_rfl) (by kernel_rfl) (by decide) (by kernel_rfl) ?hQ0c ?hy0c (SumAt.drew HS.out) ?more0c
          case hi0c => rw [List.getElem?_toArray]; exact rfl
          case hQ0c => exact fun _ _ _ h => h
          case hy0c =>
            refine Or.inl ⟨by rfl, ?_⟩
            intro w' hSw
            have f0 := hSw.1 k hlt
            rw [if_neg (by omega), ← XK.out] at f0
            clear hSw
            go_simp
            try with_reducible rfl
          simp only [Act.put, List.setIfInBounds_toArray, List.set_cons_zero, List.set_cons_succ]
          refine wpAnyN_take (i := 1) (oi := ?o1c) (v := ?v1c) ?hi1c (by kernel_rfl) (by kernel_rfl) (by kernel_rfl) (by kernel_rfl) (by decide) (by kernel_rfl) ?hQ1c ?hy1c (SumAt.drew HS.out) ?more1c
          case hi1c => rw [List.getElem?_toArray]; exact rfl
          case hQ1c => exact fun _ _ _ h => h
          case hy1c =>
            refine Or.inl ⟨by rfl, ?_⟩
            intro w' hSw
            have f0 := hSw.1 k hlt
            rw [if_neg (by omega), ← XK.out] at f0
            clear hSw
            go_simp
            try with_reducible rfl
          simp only [Act.put, List.setIfInBounds_toArray, List.set_cons_zero, List.set_cons_succ]
          refine wpAnyN_take (i := 2) (oi := ?o2c) (v := ?v2c) ?hi2c (by kernel_rfl) (by kernel_rfl) (by kernel_rfl) (by kernel_rfl) (by decide) (by kernel_rfl) ?hQ2c ?hy2c (SumAt.drew HS.out) ?more2c
          case hi2c => rw [List.getElem?_toArray]; exact rfl
          case hQ2c => exact fun _ _ _ h => h
          case hy2c =>
            refine Or.inl ⟨by rfl, ?_⟩
            intro w' hSw
            have f0 := hSw.1 k hlt
            rw [if_neg (by omega), ← XK.out] at f0
            clear hSw
            go_simp
            try with_reducible rfl
          simp only [Act.put, List.setIfInBounds_toArray, List.set_cons_zero, List.set_cons_succ]
          refine wpAnyN_take (i := 3) (oi := ?o3c) (v := ?v3c) ?hi3c (by kernel_rfl) (by kernel_rfl) (by kernel_rfl) (by kernel_rfl) (by decide) (by kernel_rfl) ?hQ3c ?hy3c (SumAt.drew HS.out) ?more3c
          case hi3c => rw [List.getElem?_toArray]; exact rfl
          case hQ3c => exact fun _ _ _ h => h
          case hy3c =>
            refine Or.inl ⟨by rfl, ?_⟩
            intro w' hSw
            have f0 := hSw.1 k hlt
            rw [if_neg (by omega), ← XK.out] at f0
            clear hSw
            go_simp
            try with_reducible rfl
          simp only [Act.put, List.setIfInBounds_toArray, List.set_cons_zero, List.set_cons_succ]
          refine wpAnyN_take (i := 4) (oi := ?o4c) (v := ?v4c) ?hi4c (by kernel_rfl) (by kernel_rfl) (by kernel_rfl) (by kernel_rfl) (by decide) (by kernel_rfl) ?hQ4c ?hy4c (SumAt.drew HS.out) ?more4c
          case hi4c => rw [List.getElem?_toArray]; exact rfl
          case hQ4c => exact fun _ _ _ h => h
          case hy4c =>
            refine Or.inl ⟨by rfl, ?_⟩
            intro w' hSw
            have f0 := hSw.1 k hlt
            rw [if_neg (by omega), ← XK.out] at f0
            clear hSw
            go_simp
            try with_reducible rfl
          simp only [Act.put, List.setIfInBounds_toArray, List.set_cons_zero, List.set_cons_succ]
          refine wpAnyN_take (i := 5) (oi := ?o5c) (v := ?v5c) ?hi5c (by kernel_rfl) (by kernel_rfl) (by kernel_rfl) (by kernel_rfl) (by decide) (by kernel_rfl) ?hQ5c ?hy5c (SumAt.drew HS.out) ?more5c
          case hi5c => rw [List.getElem?_toArray]; exact rfl
          case hQ5c => exact fun _ _ _ h => h
          case hy5c =>
            refine Or.inl ⟨by rfl, ?_⟩
            intro w' hSw
            have f0 := hSw.1 k hlt
            rw [if_neg (by omega), ← XK.out] at f0
            clear hSw
            go_simp
            try with_reducible rfl
          simp only [Act.put, List.setIfInBounds_toArray, List.set_cons_zero, List.set_cons_succ]
          refine wpAnyN_take (i := 6) (oi := ?o6c) (v := ?v6c) ?hi6c (by kernel_rfl) (by kernel_rfl) (by kernel_rfl) (by kernel_rfl) (by decide) (by kernel_rfl) ?hQ6c ?hy6c (SumAt.drew HS.out) ?more6c
          case hi6c => rw [List.getElem?_toArray]; exact rfl
          case hQ6c => exact fun _ _ _ h => h
          case hy6c =>
            refine Or.inl ⟨by rfl, ?_⟩
            intro w' hSw
            have f0 := hSw.1 k hlt
            rw [if_neg (by omega), ← XK.out] at f0
            clear hSw
            go_simp
            try with_reducible rfl
          simp only [Act.put, List.setIfInBounds_toArray, List.set_cons_zero, List.set_cons_succ]
          refine wpAnyN_take (i := 7) (oi := ?o7c) (v := ?v7c) ?hi7c (by kernel_rfl) (by kernel_rfl) (by kernel_rfl) (by kernel_rfl) (by decide) (by kernel_rfl) ?hQ7c ?hy7c (SumAt.drew HS.out) ?more7c
          case hi7c => rw [List.getElem?_toArray]; exact rfl
          case hQ7c => exact fun _ _ _ h => h
          case hy7c =>
            refine Or.inl ⟨by rfl, ?_⟩
            intro w' hSw
            have f0 := hSw.1 k hlt
            rw [if_neg (by omega), ← XK.out] at f0
            clear hSw
            go_simp
            try with_reducible rfl
          simp only [Act.put, List.setIfInBounds_toArray, List.set_cons_zero, List.set_cons_succ]
          refine wpAnyN_takeF (i := 8) (oi := ?o8c) (v := ?v8c) ?hi8c (by kernel_rfl) (by kernel_rfl) (by kernel_rfl) (by decide) ?hQ8c ?hy8c (SumAt.drew HS.out) ?more8c
          case hi8c => rw [List.getElem?_toArray]; exact rfl
          case hQ8c => exact fun _ _ _ h => h
          case hy8c =>
            refine Or.inl ⟨by rfl, ?_⟩
            intro w' hSw
            clear hSw
            go_simp
            try with_reducible rfl
          simp only [Act.put, List.setIfInBounds_toArray, List.set_cons_zero, List.set_cons_succ]
          refine wpAnyN_takeF (i := 9) (oi := ?o9c) (v := ?v9c) ?hi9c (by kernel_rfl) (by kernel_rfl) (by kernel_rfl) (by decide) ?hQ9c ?hy9c (SumAt.drew HS.out) ?more9c
          case hi9c => rw [List.getElem?_toArray]; exact rfl
          case hQ9c => exact fun _ _ _ h => h
          case hy9c =>
            refine Or.inl ⟨by rfl, ?_⟩
            intro w' hSw
            clear hSw
            go_simp
            try with_reducible rfl
          simp only [Act.put, List.setIfInBounds_toArray, List.set_cons_zero, List.set_cons_succ]
          refine wpAnyN_take (i := 10) (oi := ?o10c) (v := ?v10c) ?hi10c (by kernel_rfl) (by kernel_rfl) (by kernel_rfl) (by kernel_rfl) (by decide) (by kernel_rfl) ?hQ10c ?hy10c (SumAt.drew HS.out) ?more10c
          case hi10c => rw [List.getElem?_toArray]; exact rfl
          case hQ10c => exact fun _ _ _ h => h
          case hy10c =>
            refine Or.inl ⟨by rfl, ?_⟩
            intro w' hSw
            have f0 := hSw.1 k hlt
            rw [if_neg (by omega), ← XK.out] at f0
            clear hSw
            go_simp
            try with_reducible rfl
          simp only [Act.put, List.setIfInBounds_toArray, List.set_cons_zero, List.set_cons_succ]
          have hgc := HS.out.1 k hlt
          rw [if_neg (by omega), ← XK.out] at hgc
          have hgf := HS.out.2.2.2.1 k
          refine wpAnyN_one (i := 11) (o := ?o11c) (by kernel_rfl) ?hi11c ?hw11c ?st11c
          case hi11c => rw [List.getElem?_toArray]; exact rfl
          case hw11c => exact rfl
          intro K hK
          have HK11 : Hid _ := hK
          clear hK
          go_simp
          refine HK11.out _ _ ⟨fun h => absurd h (by decide +kernel), ?_⟩
          clear HK11 K
          try simp only [Act.put, List.setIfInBounds_toArray, List.set_cons_zero, List.set_cons_succ]
          refine wpAnyN_done (by kernel_rfl) ?_ _
          go_wp2_with fail
          go_roundw
          case rel => first | exact ⟨k + 1, by omega, by go_num, (SumAt.set HS.out hlt HV.out).drew⟩ | ((repeat apply Exists.intro); exact ⟨⟨k + 1, by omega, by go_num, (SumAt.set HS.out hlt HV.out).drew⟩, rfl⟩)
          case measure => simp [intOf]; omega
        · obtain rfl : k = 8 := by omega
          go_wp2_with fail
          refine bodyPost_end (results_none rfl _ _ _) rfl ⟨rfl, ?_, ?_, HS.out.2.2.2.2.2⟩
          · refine ⟨fun j hj => ?_, HS.out.2.1, HS.out.2.2.1, HS.out.2.2.2.1, HS.out.2.2.2.2.1⟩
            rw [HS.out.1 j hj, if_pos hj, HY.out, sum8_get x _ j hj]
            rfl
          · exact HC.out.below HG.out HS.out.2.2.2.2.2
end Go.Proofs.YtchphekaonnfeaaDoor
