/- digest.spread: a block's sixteen words, made 64. -/
import Derived.Test.YtchphekaonnfeaaDoorMgE
import Derived.Test.YtchphekaonnfeaaDoorMgK
import Derived.Deep.MidRow
import Derived.BigRegion
import Derived.Laws.IdiomStrings
namespace Go.Proofs.YtchphekaonnfeaaDoor
open Go.RowKit
attribute [local go_sem] bits_xor32 bits_or32 bits_and32 wrap_add32

theorem below_call0' {a W w1 : World} (h : Below a.heap.size a W) (hb : Below W.heap.size W w1) : Below a.heap.size a w1 := h.trans (hb.mono h.size)
theorem below_alloc0' {a w : World} (h : Below a.heap.size a w) (o : Obj) : Below a.heap.size a (w.alloc o) := h.alloc h.size o
/-- A block's 64 bytes, from the offset 8 on. -/
def Bytes64 (w : World) (g : Nat) (b : Nat → Nat) : Prop := (∀ j, j < 64 → w.cell? ⟨g, 8 + j, none⟩ = some (.int .u8 (b j : Nat))) ∧ g < w.heap.size
theorem Bytes64.call {W w1 : World} {g : Nat} {b : Nat → Nat} (h : Bytes64 W g b) (hb : Below W.heap.size W w1) : Bytes64 w1 g b := ⟨fun j hj => (hb.cell (p := ⟨g, 8 + j, none⟩) h.2).trans (h.1 j hj), Nat.lt_of_lt_of_le h.2 hb.size⟩
/-- 64 words, of which the first t are in. -/
def Row64 (w : World) (p : Nat) (f : Nat → Nat) (t : Nat) : Prop := (∀ j, j < 64 → w.cell? ⟨p, j, none⟩ = some (.int .u32 (if j < t then f j else 0 : Nat))) ∧ (∀ j, j < 64 → w.frozen? ⟨p, j, none⟩ = false) ∧ p < w.heap.size
theorem Row64.set {w : World} {p t x : Nat} {f : Nat → Nat} (h : Row64 w p f t) (ht : t < 64) (hx : x = f t) : Row64 (w.setCell ⟨p, t, none⟩ (.int .u32 (x : Nat))) p f (t + 1) := by
  refine ⟨fun j hj => ?_, fun j hj => by rw [World.frozen?_setCell]; exact h.2.1 j hj, by rw [World.size_setCell]; exact h.2.2⟩
  by_cases e : j = t
  · subst e
    rw [World.cell?_setCell_same _ _ _ (h.1 j hj), hx, if_pos (by omega)]
  · rw [World.cell?_setCell_other _ _ _ _ (by intro c; injection c with _ c2 _; exact e c2.symm), h.1 j hj]
    by_cases g : j < t
    · rw [if_pos g, if_pos (by omega)]
    · rw [if_neg g, if_neg (by omega)]
def zeros64 : Array Value := Array.replicate 64 (.int .u32 0)
theorem row64_start (W : World) (f : Nat → Nat) (t : TypeId) : Row64 (W.alloc (.cells zeros64 t)) W.heap.size f 0 := by
  refine ⟨fun j hj => ?_, fun j _ => by simp, by simp⟩
  rw [World.cell?_alloc_new, if_neg (by omega)]
  unfold zeros64
  rw [Array.getElem?_replicate, if_pos hj]
  rfl
def wordsL (b : Nat → Nat) : List Value := (List.range 64).map fun t => Value.int .u32 (wAt b t : Nat)
theorem wordsL_length (b : Nat → Nat) : (wordsL b).length = 64 := by simp [wordsL]
theorem wordsL_one (b : Nat → Nat) : ∀ v ∈ wordsL b, v.oneCell' = true := by
  intro v hv
  simp only [wordsL, List.mem_map] at hv
  obtain ⟨x, _, rfl⟩ := hv
  rfl
theorem Row64.range {w : World} {p : Nat} {b : Nat → Nat} (h : Row64 w p (wAt b) 64) : w.rangeAt p 0 (wordsL b) := by
  intro j v hv
  have hj : j < 64 := by have := (List.getElem?_eq_some_iff.1 hv).1; rwa [wordsL_length] at this
  have e := h.1 j hj
  rw [if_pos hj] at e
  rw [Nat.zero_add, e]
  simp [wordsL, hj] at hv
  rw [hv]
theorem load_row {ops : Array Oper} {rest : List Oper} {o : Oper} {a : Act} {w : World} {Q : Exit → Act → World → Prop} (x : Operand) (p : Nat) (cs : List Value) (hgd : o.guard = none) (ho : o.op = .load 136 x)
    (hx : a.eval x = .pointer (some ⟨p, 0, none⟩)) (hc : Hid (w.rangeAt p 0 cs)) (hl : cs.length = 64) (h : wpList Tryd.prog ops Q rest (a.put o.dst (.agg cs.toArray)) w) : wpList Tryd.prog ops Q (o :: rest) a w :=
  wpList_load_mid hgd _ x ho p 0 hx cs _ hc Tryd.underlying136 rfl (by rw [hl]; kernel_rfl) h
theorem store_row {ops : Array Oper} {rest : List Oper} {o : Oper} {a : Act} {w : World} {Q : Exit → Act → World → Prop} (x y : Operand) (p : Nat) (cs : List Value) (hgd : o.guard = none) (ho : o.op = .store 136 x y)
    (hx : a.eval x = .pointer (some ⟨p, 0, none⟩)) (hy : a.eval y = .agg cs.toArray) (ht : Hid (w.there p 0 64)) (hl : cs.length = 64) (h1 : ∀ v ∈ cs, v.oneCell' = true) (h : wpList Tryd.prog ops Q rest (a.put o.dst undef) (w.setCells p 0 cs)) : wpList Tryd.prog ops Q (o :: rest) a w :=
  wpList_store_mid hgd _ x y ho p 0 cs.toArray hx hy (by rw [List.size_toArray, hl]; exact ht) (by rw [List.size_toArray, hl]; kernel_rfl) (all_oneCell_toArray h1) h
theorem results_cell {fn : Func} {p : Tmp} {ty : TypeId} {ad : Addr} {tmps : Array Value} {P : Program} {w : World} {v : Value} (h : fn.results = #[.cell p ty]) (ha : tmps.getD p undef = .pointer (some ad)) (hv : (loadVar ty ad).run P w = .ok v w) :
    (results fn tmps).run P w = .ok v w := by
  have ha' : tmps[p]?.getD undef = .pointer (some ad) := by simpa using ha
  simp [results, h, ha', asAddr, hv]
theorem below_setCells {B : Nat} {a w : World} {p o : Nat} (h : Below B a w) (hp : B ≤ p) (cs : List Value) : Below B a (w.setCells p o cs) := by
  induction cs generalizing w o with
  | nil => exact h
  | cons v cs ih => exact ih (h.setCell (p := ⟨p, o, none⟩) hp v)
/-- Behind rounds: the block's bytes lie where they did, the words are in. -/
def SprAt (w wr : World) (g : Nat) (b : Nat → Nat) (t : Nat) : Prop := Bytes64 wr g b ∧ Row64 wr (w.heap.size + 1) (wAt b) t ∧ Below w.heap.size w wr ∧ g < w.heap.size ∧ (∀ j, j < 64 → wr.cell? ⟨w.heap.size, j, none⟩ = some (.int .u32 0)) ∧ (∀ j, j < 64 → wr.frozen? ⟨w.heap.size, j, none⟩ = false)
theorem SprAt.drew {w wr : World} {g t : Nat} {b : Nat → Nat} (h : SprAt w wr g b t) : SprAt w wr.drew g b t := ⟨h.1, h.2.1, h.2.2.1.drew, h.2.2.2⟩
theorem SprAt.set {w wr : World} {g t x : Nat} {b : Nat → Nat} (h : SprAt w wr g b t) (ht : t < 64) (hx : x = wAt b t) : SprAt w (wr.setCell ⟨w.heap.size + 1, t, none⟩ (.int .u32 (x : Nat))) g b (t + 1) := by
  obtain ⟨h1, h2, h3, h4, h5, h6⟩ := h
  refine ⟨⟨fun j hj => ?_, by rw [World.size_setCell]; exact h1.2⟩, h2.set ht hx, h3.setCell (p := ⟨w.heap.size + 1, t, none⟩) (by simp) _, h4, fun j hj => ?_, fun j hj => by rw [World.frozen?_setCell]; exact h6 j hj⟩
  · rw [World.cell?_setCell_other _ _ _ _ (by intro c; injection c with c1 _ _; omega)]; exact h1.1 j hj
  · rw [World.cell?_setCell_other _ _ _ _ (by intro c; injection c with c1 _ _; omega)]; exact h5 j hj

set_option maxRecDepth 100000 in
set_option maxHeartbeats 8000000 in
theorem spread_any (g : Nat) (b : Nat → Nat) (hbl : ∀ j, b j < 256) (w : World) (hB : Bytes64 w g b) :
    Calls Tryd.prog 83 #[.pointer (some ⟨g, 8, none⟩)] w fun e w' => e = .returned (.agg (wordsL b).toArray) ∧ Below w.heap.size w w' := by
  have HBL : Hid _ := hbl
  have HB : Hid _ := hB
  clear hbl hB
  go_enter Tryd.func83, Tryd.ntmps83
  go_wp2_with fail
  go_loopw [10] (fun i wr => ∃ t : Nat, t ≤ 16 ∧ i = .int .i64 t ∧ SprAt w wr g b t)
    (fun i _ => 16 - (intOf i).toNat)
  case atStart =>
    refine ⟨0, by omega, rfl, ?_⟩
    have hz := row64_start (w.alloc (.cells zeros64 136)) (wAt b) 136
    have hz0 := (row64_start w (wAt b) 136)
    simp only [World.size_alloc] at hz
    refine ⟨Bytes64.call (Bytes64.call HB.out ((Below.refl _ _).alloc (Nat.le_refl _) _)) ((Below.refl _ _).alloc (Nat.le_refl _) _), hz, below_alloc0' (below_alloc0' (Below.refl _ _) _) _, HB.out.2, fun j hj => ?_, fun j hj => by simp⟩
    have e : (w.alloc (.cells zeros64 136)).cell? ⟨w.heap.size, j, none⟩ = some (.int .u32 0) := hz0.1 j hj
    exact (Below.cell (p := ⟨w.heap.size, j, none⟩) ((Below.refl (w.alloc (.cells zeros64 136)).heap.size _).alloc (Nat.le_refl _) _) (by simp)).trans e
  case round =>
    obtain ⟨t, ht, rfl, hS⟩ := hrel
    have HS : Hid _ := hS
    clear hS
    by_cases hlt : t < 16
    · obtain ⟨q0, hq0⟩ : ∃ q, q = 4 * t := ⟨_, rfl⟩
      obtain ⟨q1, hq1⟩ : ∃ q, q = 4 * t + 1 := ⟨_, rfl⟩
      obtain ⟨q2, hq2⟩ : ∃ q, q = 4 * t + 2 := ⟨_, rfl⟩
      obtain ⟨q3, hq3⟩ : ∃ q, q = 4 * t + 3 := ⟨_, rfl⟩
      obtain ⟨c0, hc0⟩ : ∃ c, c = b q0 := ⟨_, rfl⟩
      obtain ⟨c1, hc1⟩ : ∃ c, c = b q1 := ⟨_, rfl⟩
      obtain ⟨c2, hc2⟩ : ∃ c, c = b q2 := ⟨_, rfl⟩
      obtain ⟨c3, hc3⟩ : ∃ c, c = b q3 := ⟨_, rfl⟩
      have l0 : c0 < 256 := by rw [hc0]; exact HBL.out _
      have l1 : c1 < 256 := by rw [hc1]; exact HBL.out _
      have l2 : c2 < 256 := by rw [hc2]; exact HBL.out _
      have l3 : c3 < 256 := by rw [hc3]; exact HBL.out _
      have e0 : (4 : Int) * (t : Int) = (q0 : Nat) := by omega
      have e1 : (q0 : Int) + 1 = (q1 : Nat) := by omega
      have e2 : (q0 : Int) + 2 = (q2 : Nat) := by omega
      have e3 : (q0 : Int) + 3 = (q3 : Nat) := by omega
      have f0 : IntKind.i64.wrap (q0 : Int) = (q0 : Nat) := by rw [IntKind.wrap_i64]; omega
      have f1 : IntKind.i64.wrap (q1 : Int) = (q1 : Nat) := by rw [IntKind.wrap_i64]; omega
      have f2 : IntKind.i64.wrap (q2 : Int) = (q2 : Nat) := by rw [IntKind.wrap_i64]; omega
      have f3 : IntKind.i64.wrap (q3 : Int) = (q3 : Nat) := by rw [IntKind.wrap_i64]; omega
      have b0 : (q0 : Int) < 64 := by omega
      have b1 : (q1 : Int) < 64 := by omega
      have b2 : (q2 : Int) < 64 := by omega
      have b3 : (q3 : Int) < 64 := by omega
      have C0 : Hid _ := hc0
      have C1 : Hid _ := hc1
      have C2 : Hid _ := hc2
      have C3 : Hid _ := hc3
      have hlt' : (t : Int) < 16 := by omega
      have ht64 : (t : Int) < 64 := by omega
      have g0 : IntKind.u32.wrap (c0 : Int) = (c0 : Nat) := wrap32_nat _ (by omega)
      have g1 : IntKind.u32.wrap (c1 : Int) = (c1 : Nat) := wrap32_nat _ (by omega)
      have g2 : IntKind.u32.wrap (c2 : Int) = (c2 : Nat) := wrap32_nat _ (by omega)
      have g3 : IntKind.u32.wrap (c3 : Int) = (c3 : Nat) := wrap32_nat _ (by omega)
      obtain ⟨d0, hd0⟩ : ∃ d, d = c0 * 16777216 % 4294967296 := ⟨_, rfl⟩
      obtain ⟨d1, hd1⟩ : ∃ d, d = c1 * 65536 % 4294967296 := ⟨_, rfl⟩
      obtain ⟨d2, hd2⟩ : ∃ d, d = c2 * 256 % 4294967296 := ⟨_, rfl⟩
      have k0 : IntKind.u32.wrap ((c0 : Int) * 16777216) = (d0 : Nat) := by rw [hd0]; exact wrap_mul32 c0 16777216
      have k1 : IntKind.u32.wrap ((c1 : Int) * 65536) = (d1 : Nat) := by rw [hd1]; exact wrap_mul32 c1 65536
      have k2 : IntKind.u32.wrap ((c2 : Int) * 256) = (d2 : Nat) := by rw [hd2]; exact wrap_mul32 c2 256
      have HD : Hid (or32 (or32 (or32 d0 d1) d2) c3 = wAt b t) := by
        show _ = _
        rw [wAt_low b t hlt, hd0, hd1, hd2, hc0, hc1, hc2, hc3, hq0, hq1, hq2, hq3]
        rfl
      clear hd0 hd1 hd2
      have hd : decide ((t : Int) < 16) = true := decide_eq_true hlt'
      have n0 : q0 < 64 := by omega
      have n1 : q1 < 64 := by omega
      have n2 : q2 < 64 := by omega
      have n3 : q3 < 64 := by omega
      have HQ : Hid (q0 = 4 * t ∧ q1 = 4 * t + 1 ∧ q2 = 4 * t + 2 ∧ q3 = 4 * t + 3) := ⟨hq0, hq1, hq2, hq3⟩
      clear hc0 hc1 hc2 hc3 hq0 hq1 hq2 hq3
      go_wp2_with fail
      refine wp_region_N (fun w' => SprAt w w' g b t) 39 40 rfl (by kernel_rfl) ?_
      refine wpAnyN_take (i := 0) (oi := ?o0) (v := ?v0) ?hi0 (by kernel_rfl) (by kernel_rfl) (by kernel_rfl) (by kernel_rfl) (by decide) (by kernel_rfl) ?hQ0 ?hy0 (SprAt.drew HS.out) ?more0
      case hi0 => rw [List.getElem?_toArray]; exact rfl
      case hQ0 => exact fun _ _ _ h => h
      case hy0 =>
        refine Or.inl ⟨by rfl, ?_⟩
        intro w' hSw
        have gc0 := hSw.1.1 q0 n0
        have gc1 := hSw.1.1 q1 n1
        have gc2 := hSw.1.1 q2 n2
        have gc3 := hSw.1.1 q3 n3
        rw [← C0.out] at gc0
        rw [← C1.out] at gc1
        rw [← C2.out] at gc2
        rw [← C3.out] at gc3
        clear hSw
        go_simp
        try with_reducible rfl
      simp only [Act.put, List.setIfInBounds_toArray, List.set_cons_zero, List.set_cons_succ]
      refine wpAnyN_take (i := 1) (oi := ?o1) (v := ?v1) ?hi1 (by kernel_rfl) (by kernel_rfl) (by kernel_rfl) (by kernel_rfl) (by decide) (by kernel_rfl) ?hQ1 ?hy1 (SprAt.drew HS.out) ?more1
      case hi1 => rw [List.getElem?_toArray]; exact rfl
      case hQ1 => exact fun _ _ _ h => h
      case hy1 =>
        refine Or.inl ⟨by rfl, ?_⟩
        intro w' hSw
        have gc0 := hSw.1.1 q0 n0
        have gc1 := hSw.1.1 q1 n1
        have gc2 := hSw.1.1 q2 n2
        have gc3 := hSw.1.1 q3 n3
        rw [← C0.out] at gc0
        rw [← C1.out] at gc1
        rw [← C2.out] at gc2
        rw [← C3.out] at gc3
        clear hSw
        go_simp
        try with_reducible rfl
      simp only [Act.put, List.setIfInBounds_toArray, List.set_cons_zero, List.set_cons_succ]
      refine wpAnyN_take (i := 2) (oi := ?o2) (v := ?v2) ?hi2 (by kernel_rfl) (by kernel_rfl) (by kernel_rfl) (by kernel_rfl) (by decide) (by kernel_rfl) ?hQ2 ?hy2 (SprAt.drew HS.out) ?more2
      case hi2 => rw [List.getElem?_toArray]; exact rfl
      case hQ2 => exact fun _ _ _ h => h
      case hy2 =>
        refine Or.inl ⟨by rfl, ?_⟩
        intro w' hSw
        have gc0 := hSw.1.1 q0 n0
        have gc1 := hSw.1.1 q1 n1
        have gc2 := hSw.1.1 q2 n2
        have gc3 := hSw.1.1 q3 n3
        rw [← C0.out] at gc0
        rw [← C1.out] at gc1
        rw [← C2.out] at gc2
        rw [← C3.out] at gc3
        clear hSw
        go_simp
        try with_reducible rfl
      simp only [Act.put, List.setIfInBounds_toArray, List.set_cons_zero, List.set_cons_succ]
      refine wpAnyN_take (i := 3) (oi := ?o3) (v := ?v3) ?hi3 (by kernel_rfl) (by kernel_rfl) (by kernel_rfl) (by kernel_rfl) (by decide) (by kernel_rfl) ?hQ3 ?hy3 (SprAt.drew HS.out) ?more3
      case hi3 => rw [List.getElem?_toArray]; exact rfl
      case hQ3 => exact fun _ _ _ h => h
      case hy3 =>
        refine Or.inl ⟨by rfl, ?_⟩
        intro w' hSw
        have gc0 := hSw.1.1 q0 n0
        have gc1 := hSw.1.1 q1 n1
        have gc2 := hSw.1.1 q2 n2
        have gc3 := hSw.1.1 q3 n3
        rw [← C0.out] at gc0
        rw [← C1.out] at gc1
        rw [← C2.out] at gc2
        rw [← C3.out] at gc3
        clear hSw
        go_simp
        try with_reducible rfl
      simp only [Act.put, List.setIfInBounds_toArray, List.set_cons_zero, List.set_cons_succ]
      refine wpAnyN_take (i := 4) (oi := ?o4) (v := ?v4) ?hi4 (by kernel_rfl) (by kernel_rfl) (by kernel_rfl) (by kernel_rfl) (by decide) (by kernel_rfl) ?hQ4 ?hy4 (SprAt.drew HS.out) ?more4
      case hi4 => rw [List.getElem?_toArray]; exact rfl
      case hQ4 => exact fun _ _ _ h => h
      case hy4 =>
        refine Or.inl ⟨by rfl, ?_⟩
        intro w' hSw
        have gc0 := hSw.1.1 q0 n0
        have gc1 := hSw.1.1 q1 n1
        have gc2 := hSw.1.1 q2 n2
        have gc3 := hSw.1.1 q3 n3
        rw [← C0.out] at gc0
        rw [← C1.out] at gc1
        rw [← C2.out] at gc2
        rw [← C3.out] at gc3
        clear hSw
        go_simp
        try with_reducible rfl
      simp only [Act.put, List.setIfInBounds_toArray, List.set_cons_zero, List.set_cons_succ]
      refine wpAnyN_take (i := 5) (oi := ?o5) (v := ?v5) ?hi5 (by kernel_rfl) (by kernel_rfl) (by kernel_rfl) (by kernel_rfl) (by decide) (by kernel_rfl) ?hQ5 ?hy5 (SprAt.drew HS.out) ?more5
      case hi5 => rw [List.getElem?_toArray]; exact rfl
      case hQ5 => exact fun _ _ _ h => h
      case hy5 =>
        refine Or.inl ⟨by rfl, ?_⟩
        intro w' hSw
        have gc0 := hSw.1.1 q0 n0
        have gc1 := hSw.1.1 q1 n1
        have gc2 := hSw.1.1 q2 n2
        have gc3 := hSw.1.1 q3 n3
        rw [← C0.out] at gc0
        rw [← C1.out] at gc1
        rw [← C2.out] at gc2
        rw [← C3.out] at gc3
        clear hSw
        go_simp
        try with_reducible rfl
      simp only [Act.put, List.setIfInBounds_toArray, List.set_cons_zero, List.set_cons_succ]
      refine wpAnyN_take (i := 6) (oi := ?o6) (v := ?v6) ?hi6 (by kernel_rfl) (by kernel_rfl) (by kernel_rfl) (by kernel_rfl) (by decide) (by kernel_rfl) ?hQ6 ?hy6 (SprAt.drew HS.out) ?more6
      case hi6 => rw [List.getElem?_toArray]; exact rfl
      case hQ6 => exact fun _ _ _ h => h
      case hy6 =>
        refine Or.inl ⟨by rfl, ?_⟩
        intro w' hSw
        have gc0 := hSw.1.1 q0 n0
        have gc1 := hSw.1.1 q1 n1
        have gc2 := hSw.1.1 q2 n2
        have gc3 := hSw.1.1 q3 n3
        rw [← C0.out] at gc0
        rw [← C1.out] at gc1
        rw [← C2.out] at gc2
        rw [← C3.out] at gc3
        clear hSw
        go_simp
        try with_reducible rfl
      simp only [Act.put, List.setIfInBounds_toArray, List.set_cons_zero, List.set_cons_succ]
      refine wpAnyN_take (i := 7) (oi := ?o7) (v := ?v7) ?hi7 (by kernel_rfl) (by kernel_rfl) (by kernel_rfl) (by kernel_rfl) (by decide) (by kernel_rfl) ?hQ7 ?hy7 (SprAt.drew HS.out) ?more7
      case hi7 => rw [List.getElem?_toArray]; exact rfl
      case hQ7 => exact fun _ _ _ h => h
      case hy7 =>
        refine Or.inl ⟨by rfl, ?_⟩
        intro w' hSw
        have gc0 := hSw.1.1 q0 n0
        have gc1 := hSw.1.1 q1 n1
        have gc2 := hSw.1.1 q2 n2
        have gc3 := hSw.1.1 q3 n3
        rw [← C0.out] at gc0
        rw [← C1.out] at gc1
        rw [← C2.out] at gc2
        rw [← C3.out] at gc3
        clear hSw
        go_simp
        try with_reducible rfl
      simp only [Act.put, List.setIfInBounds_toArray, List.set_cons_zero, List.set_cons_succ]
      refine wpAnyN_take (i := 8) (oi := ?o8) (v := ?v8) ?hi8 (by kernel_rfl) (by kernel_rfl) (by kernel_rfl) (by kernel_rfl) (by decide) (by kernel_rfl) ?hQ8 ?hy8 (SprAt.drew HS.out) ?more8
      case hi8 => rw [List.getElem?_toArray]; exact rfl
      case hQ8 => exact fun _ _ _ h => h
      case hy8 =>
        refine Or.inl ⟨by rfl, ?_⟩
        intro w' hSw
        have gc0 := hSw.1.1 q0 n0
        have gc1 := hSw.1.1 q1 n1
        have gc2 := hSw.1.1 q2 n2
        have gc3 := hSw.1.1 q3 n3
        rw [← C0.out] at gc0
        rw [← C1.out] at gc1
        rw [← C2.out] at gc2
        rw [← C3.out] at gc3
        clear hSw
        go_simp
        try with_reducible rfl
      simp only [Act.put, List.setIfInBounds_toArray, List.set_cons_zero, List.set_cons_succ]
      refine wpAnyN_take (i := 9) (oi := ?o9) (v := ?v9) ?hi9 (by kernel_rfl) (by kernel_rfl) (by kernel_rfl) (by kernel_rfl) (by decide) (by kernel_rfl) ?hQ9 ?hy9 (SprAt.drew HS.out) ?more9
      case hi9 => rw [List.getElem?_toArray]; exact rfl
      case hQ9 => exact fun _ _ _ h => h
      case hy9 =>
        refine Or.inl ⟨by rfl, ?_⟩
        intro w' hSw
        have gc0 := hSw.1.1 q0 n0
        have gc1 := hSw.1.1 q1 n1
        have gc2 := hSw.1.1 q2 n2
        have gc3 := hSw.1.1 q3 n3
        rw [← C0.out] at gc0
        rw [← C1.out] at gc1
        rw [← C2.out] at gc2
        rw [← C3.out] at gc3
        clear hSw
        go_simp
        try with_reducible rfl
      simp only [Act.put, List.setIfInBounds_toArray, List.set_cons_zero, List.set_cons_succ]
      refine wpAnyN_take (i := 10) (oi := ?o10) (v := ?v10) ?hi10 (by kernel_rfl) (by kernel_rfl) (by kernel_rfl) (by kernel_rfl) (by decide) (by kernel_rfl) ?hQ10 ?hy10 (SprAt.drew HS.out) ?more10
      case hi10 => rw [List.getElem?_toArray]; exact rfl
      case hQ10 => exact fun _ _ _ h => h
      case hy10 =>
        refine Or.inl ⟨by rfl, ?_⟩
        intro w' hSw
        have gc0 := hSw.1.1 q0 n0
        have gc1 := hSw.1.1 q1 n1
        have gc2 := hSw.1.1 q2 n2
        have gc3 := hSw.1.1 q3 n3
        rw [← C0.out] at gc0
        rw [← C1.out] at gc1
        rw [← C2.out] at gc2
        rw [← C3.out] at gc3
        clear hSw
        go_simp
        try with_reducible rfl
      simp only [Act.put, List.setIfInBounds_toArray, List.set_cons_zero, List.set_cons_succ]
      refine wpAnyN_take (i := 11) (oi := ?o11) (v := ?v11) ?hi11 (by kernel_rfl) (by kernel_rfl) (by kernel_rfl) (by kernel_rfl) (by decide) (by kernel_rfl) ?hQ11 ?hy11 (SprAt.drew HS.out) ?more11
      case hi11 => rw [List.getElem?_toArray]; exact rfl
      case hQ11 => exact fun _ _ _ h => h
      case hy11 =>
        refine Or.inl ⟨by rfl, ?_⟩
        intro w' hSw
        have gc0 := hSw.1.1 q0 n0
        have gc1 := hSw.1.1 q1 n1
        have gc2 := hSw.1.1 q2 n2
        have gc3 := hSw.1.1 q3 n3
        rw [← C0.out] at gc0
        rw [← C1.out] at gc1
        rw [← C2.out] at gc2
        rw [← C3.out] at gc3
        clear hSw
        go_simp
        try with_reducible rfl
      simp only [Act.put, List.setIfInBounds_toArray, List.set_cons_zero, List.set_cons_succ]
      refine wpAnyN_take (i := 12) (oi := ?o12) (v := ?v12) ?hi12 (by kernel_rfl) (by kernel_rfl) (by kernel_rfl) (by kernel_rfl) (by decide) (by kernel_rfl) ?hQ12 ?hy12 (SprAt.drew HS.out) ?more12
      case hi12 => rw [List.getElem?_toArray]; exact rfl
      case hQ12 => exact fun _ _ _ h => h
      case hy12 =>
        refine Or.inl ⟨by rfl, ?_⟩
        intro w' hSw
        have gc0 := hSw.1.1 q0 n0
        have gc1 := hSw.1.1 q1 n1
        have gc2 := hSw.1.1 q2 n2
        have gc3 := hSw.1.1 q3 n3
        rw [← C0.out] at gc0
        rw [← C1.out] at gc1
        rw [← C2.out] at gc2
        rw [← C3.out] at gc3
        clear hSw
        go_simp
        try with_reducible rfl
      simp only [Act.put, List.setIfInBounds_toArray, List.set_cons_zero, List.set_cons_succ]
      refine wpAnyN_take (i := 13) (oi := ?o13) (v := ?v13) ?hi13 (by kernel_rfl) (by kernel_rfl) (by kernel_rfl) (by kernel_rfl) (by decide) (by kernel_rfl) ?hQ13 ?hy13 (SprAt.drew HS.out) ?more13
      case hi13 => rw [List.getElem?_toArray]; exact rfl
      case hQ13 => exact fun _ _ _ h => h
      case hy13 =>
        refine Or.inl ⟨by rfl, ?_⟩
        intro w' hSw
        have gc0 := hSw.1.1 q0 n0
        have gc1 := hSw.1.1 q1 n1
        have gc2 := hSw.1.1 q2 n2
        have gc3 := hSw.1.1 q3 n3
        rw [← C0.out] at gc0
        rw [← C1.out] at gc1
        rw [← C2.out] at gc2
        rw [← C3.out] at gc3
        clear hSw
        go_simp
        try with_reducible rfl
      simp only [Act.put, List.setIfInBounds_toArray, List.set_cons_zero, List.set_cons_succ]
      refine wpAnyN_take (i := 14) (oi := ?o14) (v := ?v14) ?hi14 (by kernel_rfl) (by kernel_rfl) (by kernel_rfl) (by kernel_rfl) (by decide) (by kernel_rfl) ?hQ14 ?hy14 (SprAt.drew HS.out) ?more14
      case hi14 => rw [List.getElem?_toArray]; exact rfl
      case hQ14 => exact fun _ _ _ h => h
      case hy14 =>
        refine Or.inl ⟨by rfl, ?_⟩
        intro w' hSw
        have gc0 := hSw.1.1 q0 n0
        have gc1 := hSw.1.1 q1 n1
        have gc2 := hSw.1.1 q2 n2
        have gc3 := hSw.1.1 q3 n3
        rw [← C0.out] at gc0
        rw [← C1.out] at gc1
        rw [← C2.out] at gc2
        rw [← C3.out] at gc3
        clear hSw
        go_simp
        try with_reducible rfl
      simp only [Act.put, List.setIfInBounds_toArray, List.set_cons_zero, List.set_cons_succ]
      refine wpAnyN_take (i := 15) (oi := ?o15) (v := ?v15) ?hi15 (by kernel_rfl) (by kernel_rfl) (by kernel_rfl) (by kernel_rfl) (by decide) (by kernel_rfl) ?hQ15 ?hy15 (SprAt.drew HS.out) ?more15
      case hi15 => rw [List.getElem?_toArray]; exact rfl
      case hQ15 => exact fun _ _ _ h => h
      case hy15 =>
        refine Or.inl ⟨by rfl, ?_⟩
        intro w' hSw
        have gc0 := hSw.1.1 q0 n0
        have gc1 := hSw.1.1 q1 n1
        have gc2 := hSw.1.1 q2 n2
        have gc3 := hSw.1.1 q3 n3
        rw [← C0.out] at gc0
        rw [← C1.out] at gc1
        rw [← C2.out] at gc2
        rw [← C3.out] at gc3
        clear hSw
        go_simp
        try with_reducible rfl
      simp only [Act.put, List.setIfInBounds_toArray, List.set_cons_zero, List.set_cons_succ]
      refine wpAnyN_take (i := 16) (oi := ?o16) (v := ?v16) ?hi16 (by kernel_rfl) (by kernel_rfl) (by kernel_rfl) (by kernel_rfl) (by decide) (by kernel_rfl) ?hQ16 ?hy16 (SprAt.drew HS.out) ?more16
      case hi16 => rw [List.getElem?_toArray]; exact rfl
      case hQ16 => exact fun _ _ _ h => h
      case hy16 =>
        refine Or.inl ⟨by rfl, ?_⟩
        intro w' hSw
        have gc0 := hSw.1.1 q0 n0
        have gc1 := hSw.1.1 q1 n1
        have gc2 := hSw.1.1 q2 n2
        have gc3 := hSw.1.1 q3 n3
        rw [← C0.out] at gc0
        rw [← C1.out] at gc1
        rw [← C2.out] at gc2
        rw [← C3.out] at gc3
        clear hSw
        go_simp
        try with_reducible rfl
      simp only [Act.put, List.setIfInBounds_toArray, List.set_cons_zero, List.set_cons_succ]
      refine wpAnyN_take (i := 17) (oi := ?o17) (v := ?v17) ?hi17 (by kernel_rfl) (by kernel_rfl) (by kernel_rfl) (by kernel_rfl) (by decide) (by kernel_rfl) ?hQ17 ?hy17 (SprAt.drew HS.out) ?more17
      case hi17 => rw [List.getElem?_toArray]; exact rfl
      case hQ17 => exact fun _ _ _ h => h
      case hy17 =>
        refine Or.inl ⟨by rfl, ?_⟩
        intro w' hSw
        have gc0 := hSw.1.1 q0 n0
        have gc1 := hSw.1.1 q1 n1
        have gc2 := hSw.1.1 q2 n2
        have gc3 := hSw.1.1 q3 n3
        rw [← C0.out] at gc0
        rw [← C1.out] at gc1
        rw [← C2.out] at gc2
        rw [← C3.out] at gc3
        clear hSw
        go_simp
        try with_reducible rfl
      simp only [Act.put, List.setIfInBounds_toArray, List.set_cons_zero, List.set_cons_succ]
      refine wpAnyN_take (i := 18) (oi := ?o18) (v := ?v18) ?hi18 (by kernel_rfl) (by kernel_rfl) (by kernel_rfl) (by kernel_rfl) (by decide) (by kernel_rfl) ?hQ18 ?hy18 (SprAt.drew HS.out) ?more18
      case hi18 => rw [List.getElem?_toArray]; exact rfl
      case hQ18 => exact fun _ _ _ h => h
      case hy18 =>
        refine Or.inl ⟨by rfl, ?_⟩
        intro w' hSw
        have gc0 := hSw.1.1 q0 n0
        have gc1 := hSw.1.1 q1 n1
        have gc2 := hSw.1.1 q2 n2
        have gc3 := hSw.1.1 q3 n3
        rw [← C0.out] at gc0
        rw [← C1.out] at gc1
        rw [← C2.out] at gc2
        rw [← C3.out] at gc3
        clear hSw
        go_simp
        try with_reducible rfl
      simp only [Act.put, List.setIfInBounds_toArray, List.set_cons_zero, List.set_cons_succ]
      refine wpAnyN_take (i := 19) (oi := ?o19) (v := ?v19) ?hi19 (by kernel_rfl) (by kernel_rfl) (by kernel_rfl) (by kernel_rfl) (by decide) (by kernel_rfl) ?hQ19 ?hy19 (SprAt.drew HS.out) ?more19
      case hi19 => rw [List.getElem?_toArray]; exact rfl
      case hQ19 => exact fun _ _ _ h => h
      case hy19 =>
        refine Or.inl ⟨by rfl, ?_⟩
        intro w' hSw
        have gc0 := hSw.1.1 q0 n0
        have gc1 := hSw.1.1 q1 n1
        have gc2 := hSw.1.1 q2 n2
        have gc3 := hSw.1.1 q3 n3
        rw [← C0.out] at gc0
        rw [← C1.out] at gc1
        rw [← C2.out] at gc2
        rw [← C3.out] at gc3
        clear hSw
        go_simp
        try with_reducible rfl
      simp only [Act.put, List.setIfInBounds_toArray, List.set_cons_zero, List.set_cons_succ]
      refine wpAnyN_take (i := 20) (oi := ?o20) (v := ?v20) ?hi20 (by kernel_rfl) (by kernel_rfl) (by kernel_rfl) (by kernel_rfl) (by decide) (by kernel_rfl) ?hQ20 ?hy20 (SprAt.drew HS.out) ?more20
      case hi20 => rw [List.getElem?_toArray]; exact rfl
      case hQ20 => exact fun _ _ _ h => h
      case hy20 =>
        refine Or.inl ⟨by rfl, ?_⟩
        intro w' hSw
        have gc0 := hSw.1.1 q0 n0
        have gc1 := hSw.1.1 q1 n1
        have gc2 := hSw.1.1 q2 n2
        have gc3 := hSw.1.1 q3 n3
        rw [← C0.out] at gc0
        rw [← C1.out] at gc1
        rw [← C2.out] at gc2
        rw [← C3.out] at gc3
        clear hSw
        go_simp
        try with_reducible rfl
      simp only [Act.put, List.setIfInBounds_toArray, List.set_cons_zero, List.set_cons_succ]
      refine wpAnyN_take (i := 21) (oi := ?o21) (v := ?v21) ?hi21 (by kernel_rfl) (by kernel_rfl) (by kernel_rfl) (by kernel_rfl) (by decide) (by kernel_rfl) ?hQ21 ?hy21 (SprAt.drew HS.out) ?more21
      case hi21 => rw [List.getElem?_toArray]; exact rfl
      case hQ21 => exact fun _ _ _ h => h
      case hy21 =>
        refine Or.inl ⟨by rfl, ?_⟩
        intro w' hSw
        have gc0 := hSw.1.1 q0 n0
        have gc1 := hSw.1.1 q1 n1
        have gc2 := hSw.1.1 q2 n2
        have gc3 := hSw.1.1 q3 n3
        rw [← C0.out] at gc0
        rw [← C1.out] at gc1
        rw [← C2.out] at gc2
        rw [← C3.out] at gc3
        clear hSw
        go_simp
        try with_reducible rfl
      simp only [Act.put, List.setIfInBounds_toArray, List.set_cons_zero, List.set_cons_succ]
      refine wpAnyN_take (i := 22) (oi := ?o22) (v := ?v22) ?hi22 (by kernel_rfl) (by kernel_rfl) (by kernel_rfl) (by kernel_rfl) (by decide) (by kernel_rfl) ?hQ22 ?hy22 (SprAt.drew HS.out) ?more22
      case hi22 => rw [List.getElem?_toArray]; exact rfl
      case hQ22 => exact fun _ _ _ h => h
      case hy22 =>
        refine Or.inl ⟨by rfl, ?_⟩
        intro w' hSw
        have gc0 := hSw.1.1 q0 n0
        have gc1 := hSw.1.1 q1 n1
        have gc2 := hSw.1.1 q2 n2
        have gc3 := hSw.1.1 q3 n3
        rw [← C0.out] at gc0
        rw [← C1.out] at gc1
        rw [← C2.out] at gc2
        rw [← C3.out] at gc3
        clear hSw
        go_simp
        try with_reducible rfl
      simp only [Act.put, List.setIfInBounds_toArray, List.set_cons_zero, List.set_cons_succ]
      refine wpAnyN_take (i := 23) (oi := ?o23) (v := ?v23) ?hi23 (by kernel_rfl) (by kernel_rfl) (by kernel_rfl) (by kernel_rfl) (by decide) (by kernel_rfl) ?hQ23 ?hy23 (SprAt.drew HS.out) ?more23
      case hi23 => rw [List.getElem?_toArray]; exact rfl
      case hQ23 => exact fun _ _ _ h => h
      case hy23 =>
        refine Or.inl ⟨by rfl, ?_⟩
        intro w' hSw
        have gc0 := hSw.1.1 q0 n0
        have gc1 := hSw.1.1 q1 n1
        have gc2 := hSw.1.1 q2 n2
        have gc3 := hSw.1.1 q3 n3
        rw [← C0.out] at gc0
        rw [← C1.out] at gc1
        rw [← C2.out] at gc2
        rw [← C3.out] at gc3
        clear hSw
        go_simp
        try with_reducible rfl
      simp only [Act.put, List.setIfInBounds_toArray, List.set_cons_zero, List.set_cons_succ]
      refine wpAnyN_take (i := 24) (oi := ?o24) (v := ?v24) ?hi24 (by kernel_rfl) (by kernel_rfl) (by kernel_rfl) (by kernel_rfl) (by decide) (by kernel_rfl) ?hQ24 ?hy24 (SprAt.drew HS.out) ?more24
      case hi24 => rw [List.getElem?_toArray]; exact rfl
      case hQ24 => exact fun _ _ _ h => h
      case hy24 =>
        refine Or.inl ⟨by rfl, ?_⟩
        intro w' hSw
        have gc0 := hSw.1.1 q0 n0
        have gc1 := hSw.1.1 q1 n1
        have gc2 := hSw.1.1 q2 n2
        have gc3 := hSw.1.1 q3 n3
        rw [← C0.out] at gc0
        rw [← C1.out] at gc1
        rw [← C2.out] at gc2
        rw [← C3.out] at gc3
        clear hSw
        go_simp
        try with_reducible rfl
      simp only [Act.put, List.setIfInBounds_toArray, List.set_cons_zero, List.set_cons_succ]
      refine wpAnyN_take (i := 25) (oi := ?o25) (v := ?v25) ?hi25 (by kernel_rfl) (by kernel_rfl) (by kernel_rfl) (by kernel_rfl) (by decide) (by kernel_rfl) ?hQ25 ?hy25 (SprAt.drew HS.out) ?more25
      case hi25 => rw [List.getElem?_toArray]; exact rfl
      case hQ25 => exact fun _ _ _ h => h
      case hy25 =>
        refine Or.inl ⟨by rfl, ?_⟩
        intro w' hSw
        have gc0 := hSw.1.1 q0 n0
        have gc1 := hSw.1.1 q1 n1
        have gc2 := hSw.1.1 q2 n2
        have gc3 := hSw.1.1 q3 n3
        rw [← C0.out] at gc0
        rw [← C1.out] at gc1
        rw [← C2.out] at gc2
        rw [← C3.out] at gc3
        clear hSw
        go_simp
        try with_reducible rfl
      simp only [Act.put, List.setIfInBounds_toArray, List.set_cons_zero, List.set_cons_succ]
      refine wpAnyN_take (i := 26) (oi := ?o26) (v := ?v26) ?hi26 (by kernel_rfl) (by kernel_rfl) (by kernel_rfl) (by kernel_rfl) (by decide) (by kernel_rfl) ?hQ26 ?hy26 (SprAt.drew HS.out) ?more26
      case hi26 => rw [List.getElem?_toArray]; exact rfl
      case hQ26 => exact fun _ _ _ h => h
      case hy26 =>
        refine Or.inl ⟨by rfl, ?_⟩
        intro w' hSw
        have gc0 := hSw.1.1 q0 n0
        have gc1 := hSw.1.1 q1 n1
        have gc2 := hSw.1.1 q2 n2
        have gc3 := hSw.1.1 q3 n3
        rw [← C0.out] at gc0
        rw [← C1.out] at gc1
        rw [← C2.out] at gc2
        rw [← C3.out] at gc3
        clear hSw
        go_simp
        try with_reducible rfl
      simp only [Act.put, List.setIfInBounds_toArray, List.set_cons_zero, List.set_cons_succ]
      refine wpAnyN_take (i := 27) (oi := ?o27) (v := ?v27) ?hi27 (by kernel_rfl) (by kernel_rfl) (by kernel_rfl) (by kernel_rfl) (by decide) (by kernel_rfl) ?hQ27 ?hy27 (SprAt.drew HS.out) ?more27
      case hi27 => rw [List.getElem?_toArray]; exact rfl
      case hQ27 => exact fun _ _ _ h => h
      case hy27 =>
        refine Or.inl ⟨by rfl, ?_⟩
        intro w' hSw
        have gc0 := hSw.1.1 q0 n0
        have gc1 := hSw.1.1 q1 n1
        have gc2 := hSw.1.1 q2 n2
        have gc3 := hSw.1.1 q3 n3
        rw [← C0.out] at gc0
        rw [← C1.out] at gc1
        rw [← C2.out] at gc2
        rw [← C3.out] at gc3
        clear hSw
        go_simp
        try with_reducible rfl
      simp only [Act.put, List.setIfInBounds_toArray, List.set_cons_zero, List.set_cons_succ]
      refine wpAnyN_take (i := 28) (oi := ?o28) (v := ?v28) ?hi28 (by kernel_rfl) (by kernel_rfl) (by kernel_rfl) (by kernel_rfl) (by decide) (by kernel_rfl) ?hQ28 ?hy28 (SprAt.drew HS.out) ?more28
      case hi28 => rw [List.getElem?_toArray]; exact rfl
      case hQ28 => exact fun _ _ _ h => h
      case hy28 =>
        refine Or.inl ⟨by rfl, ?_⟩
        intro w' hSw
        have gc0 := hSw.1.1 q0 n0
        have gc1 := hSw.1.1 q1 n1
        have gc2 := hSw.1.1 q2 n2
        have gc3 := hSw.1.1 q3 n3
        rw [← C0.out] at gc0
        rw [← C1.out] at gc1
        rw [← C2.out] at gc2
        rw [← C3.out] at gc3
        clear hSw
        go_simp
        try with_reducible rfl
      simp only [Act.put, List.setIfInBounds_toArray, List.set_cons_zero, List.set_cons_succ]
      refine wpAnyN_take (i := 29) (oi := ?o29) (v := ?v29) ?hi29 (by kernel_rfl) (by kernel_rfl) (by kernel_rfl) (by kernel_rfl) (by decide) (by kernel_rfl) ?hQ29 ?hy29 (SprAt.drew HS.out) ?more29
      case hi29 => rw [List.getElem?_toArray]; exact rfl
      case hQ29 => exact fun _ _ _ h => h
      case hy29 =>
        refine Or.inl ⟨by rfl, ?_⟩
        intro w' hSw
        have gc0 := hSw.1.1 q0 n0
        have gc1 := hSw.1.1 q1 n1
        have gc2 := hSw.1.1 q2 n2
        have gc3 := hSw.1.1 q3 n3
        rw [← C0.out] at gc0
        rw [← C1.out] at gc1
        rw [← C2.out] at gc2
        rw [← C3.out] at gc3
        clear hSw
        go_simp
        try with_reducible rfl
      simp only [Act.put, List.setIfInBounds_toArray, List.set_cons_zero, List.set_cons_succ]
      refine wpAnyN_take (i := 30) (oi := ?o30) (v := ?v30) ?hi30 (by kernel_rfl) (by kernel_rfl) (by kernel_rfl) (by kernel_rfl) (by decide) (by kernel_rfl) ?hQ30 ?hy30 (SprAt.drew HS.out) ?more30
      case hi30 => rw [List.getElem?_toArray]; exact rfl
      case hQ30 => exact fun _ _ _ h => h
      case hy30 =>
        refine Or.inl ⟨by rfl, ?_⟩
        intro w' hSw
        have gc0 := hSw.1.1 q0 n0
        have gc1 := hSw.1.1 q1 n1
        have gc2 := hSw.1.1 q2 n2
        have gc3 := hSw.1.1 q3 n3
        rw [← C0.out] at gc0
        rw [← C1.out] at gc1
        rw [← C2.out] at gc2
        rw [← C3.out] at gc3
        clear hSw
        go_simp
        try with_reducible rfl
      simp only [Act.put, List.setIfInBounds_toArray, List.set_cons_zero, List.set_cons_succ]
      refine wpAnyN_take (i := 31) (oi := ?o31) (v := ?v31) ?hi31 (by kernel_rfl) (by kernel_rfl) (by kernel_rfl) (by kernel_rfl) (by decide) (by kernel_rfl) ?hQ31 ?hy31 (SprAt.drew HS.out) ?more31
      case hi31 => rw [List.getElem?_toArray]; exact rfl
      case hQ31 => exact fun _ _ _ h => h
      case hy31 =>
        refine Or.inl ⟨by rfl, ?_⟩
        intro w' hSw
        have gc0 := hSw.1.1 q0 n0
        have gc1 := hSw.1.1 q1 n1
        have gc2 := hSw.1.1 q2 n2
        have gc3 := hSw.1.1 q3 n3
        rw [← C0.out] at gc0
        rw [← C1.out] at gc1
        rw [← C2.out] at gc2
        rw [← C3.out] at gc3
        clear hSw
        go_simp
        try with_reducible rfl
      simp only [Act.put, List.setIfInBounds_toArray, List.set_cons_zero, List.set_cons_succ]
      refine wpAnyN_take (i := 32) (oi := ?o32) (v := ?v32) ?hi32 (by kernel_rfl) (by kernel_rfl) (by kernel_rfl) (by kernel_rfl) (by decide) (by kernel_rfl) ?hQ32 ?hy32 (SprAt.drew HS.out) ?more32
      case hi32 => rw [List.getElem?_toArray]; exact rfl
      case hQ32 => exact fun _ _ _ h => h
      case hy32 =>
        refine Or.inl ⟨by rfl, ?_⟩
        intro w' hSw
        have gc0 := hSw.1.1 q0 n0
        have gc1 := hSw.1.1 q1 n1
        have gc2 := hSw.1.1 q2 n2
        have gc3 := hSw.1.1 q3 n3
        rw [← C0.out] at gc0
        rw [← C1.out] at gc1
        rw [← C2.out] at gc2
        rw [← C3.out] at gc3
        clear hSw
        go_simp
        try with_reducible rfl
      simp only [Act.put, List.setIfInBounds_toArray, List.set_cons_zero, List.set_cons_succ]
      refine wpAnyN_take (i := 33) (oi := ?o33) (v := ?v33) ?hi33 (by kernel_rfl) (by kernel_rfl) (by kernel_rfl) (by kernel_rfl) (by decide) (by kernel_rfl) ?hQ33 ?hy33 (SprAt.drew HS.out) ?more33
      case hi33 => rw [List.getElem?_toArray]; exact rfl
      case hQ33 => exact fun _ _ _ h => h
      case hy33 =>
        refine Or.inl ⟨by rfl, ?_⟩
        intro w' hSw
        have gc0 := hSw.1.1 q0 n0
        have gc1 := hSw.1.1 q1 n1
        have gc2 := hSw.1.1 q2 n2
        have gc3 := hSw.1.1 q3 n3
        rw [← C0.out] at gc0
        rw [← C1.out] at gc1
        rw [← C2.out] at gc2
        rw [← C3.out] at gc3
        clear hSw
        go_simp
        try with_reducible rfl
      simp only [Act.put, List.setIfInBounds_toArray, List.set_cons_zero, List.set_cons_succ]
      refine wpAnyN_take (i := 34) (oi := ?o34) (v := ?v34) ?hi34 (by kernel_rfl) (by kernel_rfl) (by kernel_rfl) (by kernel_rfl) (by decide) (by kernel_rfl) ?hQ34 ?hy34 (SprAt.drew HS.out) ?more34
      case hi34 => rw [List.getElem?_toArray]; exact rfl
      case hQ34 => exact fun _ _ _ h => h
      case hy34 =>
        refine Or.inl ⟨by rfl, ?_⟩
        intro w' hSw
        have gc0 := hSw.1.1 q0 n0
        have gc1 := hSw.1.1 q1 n1
        have gc2 := hSw.1.1 q2 n2
        have gc3 := hSw.1.1 q3 n3
        rw [← C0.out] at gc0
        rw [← C1.out] at gc1
        rw [← C2.out] at gc2
        rw [← C3.out] at gc3
        clear hSw
        go_simp
        try with_reducible rfl
      simp only [Act.put, List.setIfInBounds_toArray, List.set_cons_zero, List.set_cons_succ]
      refine wpAnyN_take (i := 35) (oi := ?o35) (v := ?v35) ?hi35 (by kernel_rfl) (by kernel_rfl) (by kernel_rfl) (by kernel_rfl) (by decide) (by kernel_rfl) ?hQ35 ?hy35 (SprAt.drew HS.out) ?more35
      case hi35 => rw [List.getElem?_toArray]; exact rfl
      case hQ35 => exact fun _ _ _ h => h
      case hy35 =>
        refine Or.inl ⟨by rfl, ?_⟩
        intro w' hSw
        have gc0 := hSw.1.1 q0 n0
        have gc1 := hSw.1.1 q1 n1
        have gc2 := hSw.1.1 q2 n2
        have gc3 := hSw.1.1 q3 n3
        rw [← C0.out] at gc0
        rw [← C1.out] at gc1
        rw [← C2.out] at gc2
        rw [← C3.out] at gc3
        clear hSw
        go_simp
        try with_reducible rfl
      simp only [Act.put, List.setIfInBounds_toArray, List.set_cons_zero, List.set_cons_succ]
      refine wpAnyN_take (i := 36) (oi := ?o36) (v := ?v36) ?hi36 (by kernel_rfl) (by kernel_rfl) (by kernel_rfl) (by kernel_rfl) (by decide) (by kernel_rfl) ?hQ36 ?hy36 (SprAt.drew HS.out) ?more36
      case hi36 => rw [List.getElem?_toArray]; exact rfl
      case hQ36 => exact fun _ _ _ h => h
      case hy36 =>
        refine Or.inl ⟨by rfl, ?_⟩
        intro w' hSw
        have gc0 := hSw.1.1 q0 n0
        have gc1 := hSw.1.1 q1 n1
        have gc2 := hSw.1.1 q2 n2
        have gc3 := hSw.1.1 q3 n3
        rw [← C0.out] at gc0
        rw [← C1.out] at gc1
        rw [← C2.out] at gc2
        rw [← C3.out] at gc3
        clear hSw
        go_simp
        try with_reducible rfl
      simp only [Act.put, List.setIfInBounds_toArray, List.set_cons_zero, List.set_cons_succ]
      refine wpAnyN_take (i := 37) (oi := ?o37) (v := ?v37) ?hi37 (by kernel_rfl) (by kernel_rfl) (by kernel_rfl) (by kernel_rfl) (by decide) (by kernel_rfl) ?hQ37 ?hy37 (SprAt.drew HS.out) ?more37
      case hi37 => rw [List.getElem?_toArray]; exact rfl
      case hQ37 => exact fun _ _ _ h => h
      case hy37 =>
        refine Or.inl ⟨by rfl, ?_⟩
        intro w' hSw
        have gc0 := hSw.1.1 q0 n0
        have gc1 := hSw.1.1 q1 n1
        have gc2 := hSw.1.1 q2 n2
        have gc3 := hSw.1.1 q3 n3
        rw [← C0.out] at gc0
        rw [← C1.out] at gc1
        rw [← C2.out] at gc2
        rw [← C3.out] at gc3
        clear hSw
        go_simp
        try with_reducible rfl
      simp only [Act.put, List.setIfInBounds_toArray, List.set_cons_zero, List.set_cons_succ]
      refine wpAnyN_take (i := 38) (oi := ?o38) (v := ?v38) ?hi38 (by kernel_rfl) (by kernel_rfl) (by kernel_rfl) (by kernel_rfl) (by decide) (by kernel_rfl) ?hQ38 ?hy38 (SprAt.drew HS.out) ?more38
      case hi38 => rw [List.getElem?_toArray]; exact rfl
      case hQ38 => exact fun _ _ _ h => h
      case hy38 =>
        refine Or.inl ⟨by rfl, ?_⟩
        intro w' hSw
        have gc0 := hSw.1.1 q0 n0
        have gc1 := hSw.1.1 q1 n1
        have gc2 := hSw.1.1 q2 n2
        have gc3 := hSw.1.1 q3 n3
        rw [← C0.out] at gc0
        rw [← C1.out] at gc1
        rw [← C2.out] at gc2
        rw [← C3.out] at gc3
        clear hSw
        go_simp
        try with_reducible rfl
      simp only [Act.put, List.setIfInBounds_toArray, List.set_cons_zero, List.set_cons_succ]
      have hgc := (HS.out.2.1.1 t (by omega))
      rw [if_neg (by omega)] at hgc
      have hgf := (HS.out.2.1.2.1 t (by omega))
      refine wpAnyN_one (i := 39) (o := ?o39) (by kernel_rfl) ?hi39 ?hw39 ?st39
      case hi39 => rw [List.getElem?_toArray]; exact rfl
      case hw39 => exact rfl
      intro K hK
      have HK39 : Hid _ := hK
      clear hK
      go_simp
      refine HK39.out _ _ ⟨fun h => absurd h (by decide +kernel), ?_⟩
      clear HK39 K
      try simp only [Act.put, List.setIfInBounds_toArray, List.set_cons_zero, List.set_cons_succ]
      refine wpAnyN_done (by kernel_rfl) ?_ _
      go_wp2_with fail
      go_roundw
      case rel => exact ⟨t + 1, by omega, by go_num, (SprAt.set HS.out (by omega) HD.out).drew⟩
      case measure => simp [intOf]; omega
    · obtain rfl : t = 16 := by omega
      go_wp2_with fail
      rename_i Kr hKr
      have HKr : Hid _ := hKr
      clear hKr
      go_loopw [5] (fun i wr => ∃ t : Nat, 16 ≤ t ∧ t ≤ 64 ∧ i = .int .i64 t ∧ SprAt w wr g b t)
        (fun i _ => 64 - (intOf i).toNat)
      case atStart => exact ⟨16, by omega, by omega, rfl, HS.out⟩
      case round =>
        clear HS
        obtain ⟨t, ht1, ht2, rfl, hS⟩ := hrel
        have HS : Hid _ := hS
        clear hS
        by_cases hlt : t < 64
        · have hlt' : (t : Int) < 64 := by omega
          have hd : decide ((t : Int) < 64) = true := decide_eq_true hlt'
          obtain ⟨i15, hi15⟩ : ∃ q, q = t - 15 := ⟨_, rfl⟩
          have n15 : i15 < 64 := by omega
          have m15 : i15 < t := by omega
          have e15 : (t : Int) - 15 = (i15 : Nat) := by omega
          have f15 : IntKind.i64.wrap (i15 : Int) = (i15 : Nat) := by rw [IntKind.wrap_i64]; omega
          have j15 : (i15 : Int) < 64 := by omega
          obtain ⟨x15, hx15⟩ : ∃ q, q = wAt b i15 := ⟨_, rfl⟩
          have X15 : Hid _ := hx15
          obtain ⟨i2, hi2⟩ : ∃ q, q = t - 2 := ⟨_, rfl⟩
          have n2 : i2 < 64 := by omega
          have m2 : i2 < t := by omega
          have e2 : (t : Int) - 2 = (i2 : Nat) := by omega
          have f2 : IntKind.i64.wrap (i2 : Int) = (i2 : Nat) := by rw [IntKind.wrap_i64]; omega
          have j2 : (i2 : Int) < 64 := by omega
          obtain ⟨x2, hx2⟩ : ∃ q, q = wAt b i2 := ⟨_, rfl⟩
          have X2 : Hid _ := hx2
          obtain ⟨i7, hi7⟩ : ∃ q, q = t - 7 := ⟨_, rfl⟩
          have n7 : i7 < 64 := by omega
          have m7 : i7 < t := by omega
          have e7 : (t : Int) - 7 = (i7 : Nat) := by omega
          have f7 : IntKind.i64.wrap (i7 : Int) = (i7 : Nat) := by rw [IntKind.wrap_i64]; omega
          have j7 : (i7 : Int) < 64 := by omega
          obtain ⟨x7, hx7⟩ : ∃ q, q = wAt b i7 := ⟨_, rfl⟩
          have X7 : Hid _ := hx7
          obtain ⟨i16, hi16⟩ : ∃ q, q = t - 16 := ⟨_, rfl⟩
          have n16 : i16 < 64 := by omega
          have m16 : i16 < t := by omega
          have e16 : (t : Int) - 16 = (i16 : Nat) := by omega
          have f16 : IntKind.i64.wrap (i16 : Int) = (i16 : Nat) := by rw [IntKind.wrap_i64]; omega
          have j16 : (i16 : Int) < 64 := by omega
          obtain ⟨x16, hx16⟩ : ∃ q, q = wAt b i16 := ⟨_, rfl⟩
          have X16 : Hid _ := hx16
          obtain ⟨x8, hx8⟩ : ∃ q, q = x15 / 8 := ⟨_, rfl⟩
          obtain ⟨y8, hy8⟩ : ∃ q, q = x2 / 1024 := ⟨_, rfl⟩
          have ex8 : (x15 : Int) / 8 = (x8 : Nat) := by omega
          have ey8 : (x2 : Int) / 1024 = (y8 : Nat) := by omega
          have HV : Hid (add32 (add32 (add32 (xor32 (xor32 (rot x2 17) (rot x2 19)) y8) x7) (xor32 (xor32 (rot x15 7) (rot x15 18)) x8)) x16 = wAt b t) := by
            show _ = _
            rw [wAt_high b t ht1, hy8, hx8, hx2, hx7, hx15, hx16, hi2, hi7, hi15, hi16]
            rfl
          clear hx8 hy8 hx15 hx2 hx7 hx16 hi15 hi2 hi7 hi16
          go_wp2_with fail
          refine wp_region_H (fun w' => SprAt w w' g b t) 10 rfl (by kernel_rfl) ?_
          refine wpAnyH_take (i := 0) (oi := ?o0r) (v := ?v0r) ?hi0r (by kernel_rfl) (by kernel_rfl) (by kernel_rfl) ?hQ0r ?hy0r (SprAt.drew HS.out) ?more0r
          case hi0r => rw [List.getElem?_toArray]; exact rfl
          case hQ0r => exact fun _ _ _ h => h
          case hy0r =>
            refine Or.inl ⟨by rfl, ?_⟩
            intro w' hSw
            have g15 := hSw.2.1.1 i15 n15
            have g2 := hSw.2.1.1 i2 n2
            have g7 := hSw.2.1.1 i7 n7
            have g16 := hSw.2.1.1 i16 n16
            rw [if_pos m15, ← X15.out] at g15
            rw [if_pos m2, ← X2.out] at g2
            rw [if_pos m7, ← X7.out] at g7
            rw [if_pos m16, ← X16.out] at g16
            clear hSw
            go_simp
            try with_reducible rfl
          simp only [Act.put, List.setIfInBounds_toArray, List.set_cons_zero, List.set_cons_succ]
          refine wpAnyH_take (i := 1) (oi := ?o1r) (v := ?v1r) ?hi1r (by kernel_rfl) (by kernel_rfl) (by kernel_rfl) ?hQ1r ?hy1r (SprAt.drew HS.out) ?more1r
          case hi1r => rw [List.getElem?_toArray]; exact rfl
          case hQ1r => exact fun _ _ _ h => h
          case hy1r =>
            refine Or.inl ⟨by rfl, ?_⟩
            intro w' hSw
            have g15 := hSw.2.1.1 i15 n15
            have g2 := hSw.2.1.1 i2 n2
            have g7 := hSw.2.1.1 i7 n7
            have g16 := hSw.2.1.1 i16 n16
            rw [if_pos m15, ← X15.out] at g15
            rw [if_pos m2, ← X2.out] at g2
            rw [if_pos m7, ← X7.out] at g7
            rw [if_pos m16, ← X16.out] at g16
            clear hSw
            go_simp
            try with_reducible rfl
          simp only [Act.put, List.setIfInBounds_toArray, List.set_cons_zero, List.set_cons_succ]
          refine wpAnyH_take (i := 2) (oi := ?o2r) (v := ?v2r) ?hi2r (by kernel_rfl) (by kernel_rfl) (by kernel_rfl) ?hQ2r ?hy2r (SprAt.drew HS.out) ?more2r
          case hi2r => rw [List.getElem?_toArray]; exact rfl
          case hQ2r => exact fun _ _ _ h => h
          case hy2r =>
            refine Or.inl ⟨by rfl, ?_⟩
            intro w' hSw
            have g15 := hSw.2.1.1 i15 n15
            have g2 := hSw.2.1.1 i2 n2
            have g7 := hSw.2.1.1 i7 n7
            have g16 := hSw.2.1.1 i16 n16
            rw [if_pos m15, ← X15.out] at g15
            rw [if_pos m2, ← X2.out] at g2
            rw [if_pos m7, ← X7.out] at g7
            rw [if_pos m16, ← X16.out] at g16
            clear hSw
            go_simp
            try with_reducible rfl
          simp only [Act.put, List.setIfInBounds_toArray, List.set_cons_zero, List.set_cons_succ]
          refine wpAnyH_take (i := 3) (oi := ?o3r) (v := ?v3r) ?hi3r (by kernel_rfl) (by kernel_rfl) (by kernel_rfl) ?hQ3r ?hy3r (SprAt.drew HS.out) ?more3r
          case hi3r => rw [List.getElem?_toArray]; exact rfl
          case hQ3r => exact fun _ _ _ h => h
          case hy3r =>
            refine Or.inl ⟨by rfl, ?_⟩
            intro w' hSw
            have g15 := hSw.2.1.1 i15 n15
            have g2 := hSw.2.1.1 i2 n2
            have g7 := hSw.2.1.1 i7 n7
            have g16 := hSw.2.1.1 i16 n16
            rw [if_pos m15, ← X15.out] at g15
            rw [if_pos m2, ← X2.out] at g2
            rw [if_pos m7, ← X7.out] at g7
            rw [if_pos m16, ← X16.out] at g16
            clear hSw
            go_simp
            try with_reducible rfl
          simp only [Act.put, List.setIfInBounds_toArray, List.set_cons_zero, List.set_cons_succ]
          refine wpAnyH_take (i := 4) (oi := ?o4r) (v := ?v4r) ?hi4r (by kernel_rfl) (by kernel_rfl) (by kernel_rfl) ?hQ4r ?hy4r (SprAt.drew HS.out) ?more4r
          case hi4r => rw [List.getElem?_toArray]; exact rfl
          case hQ4r => exact fun _ _ _ h => h
          case hy4r =>
            refine Or.inl ⟨by rfl, ?_⟩
            intro w' hSw
            have g15 := hSw.2.1.1 i15 n15
            have g2 := hSw.2.1.1 i2 n2
            have g7 := hSw.2.1.1 i7 n7
            have g16 := hSw.2.1.1 i16 n16
            rw [if_pos m15, ← X15.out] at g15
            rw [if_pos m2, ← X2.out] at g2
            rw [if_pos m7, ← X7.out] at g7
            rw [if_pos m16, ← X16.out] at g16
            clear hSw
            go_simp
            try with_reducible rfl
          simp only [Act.put, List.setIfInBounds_toArray, List.set_cons_zero, List.set_cons_succ]
          refine wpAnyH_take (i := 5) (oi := ?o5r) (v := ?v5r) ?hi5r (by kernel_rfl) (by kernel_rfl) (by kernel_rfl) ?hQ5r ?hy5r (SprAt.drew HS.out) ?more5r
          case hi5r => rw [List.getElem?_toArray]; exact rfl
          case hQ5r => exact fun _ _ _ h => h
          case hy5r =>
            refine Or.inl ⟨by rfl, ?_⟩
            intro w' hSw
            have g15 := hSw.2.1.1 i15 n15
            have g2 := hSw.2.1.1 i2 n2
            have g7 := hSw.2.1.1 i7 n7
            have g16 := hSw.2.1.1 i16 n16
            rw [if_pos m15, ← X15.out] at g15
            rw [if_pos m2, ← X2.out] at g2
            rw [if_pos m7, ← X7.out] at g7
            rw [if_pos m16, ← X16.out] at g16
            clear hSw
            go_simp
            try with_reducible rfl
          simp only [Act.put, List.setIfInBounds_toArray, List.set_cons_zero, List.set_cons_succ]
          refine wpAnyH_take (i := 6) (oi := ?o6r) (v := ?v6r) ?hi6r (by kernel_rfl) (by kernel_rfl) (by kernel_rfl) ?hQ6r ?hy6r (SprAt.drew HS.out) ?more6r
          case hi6r => rw [List.getElem?_toArray]; exact rfl
          case hQ6r => exact fun _ _ _ h => h
          case hy6r =>
            refine Or.inl ⟨by rfl, ?_⟩
            intro w' hSw
            have g15 := hSw.2.1.1 i15 n15
            have g2 := hSw.2.1.1 i2 n2
            have g7 := hSw.2.1.1 i7 n7
            have g16 := hSw.2.1.1 i16 n16
            rw [if_pos m15, ← X15.out] at g15
            rw [if_pos m2, ← X2.out] at g2
            rw [if_pos m7, ← X7.out] at g7
            rw [if_pos m16, ← X16.out] at g16
            clear hSw
            go_simp
            try with_reducible rfl
          simp only [Act.put, List.setIfInBounds_toArray, List.set_cons_zero, List.set_cons_succ]
          refine wpAnyH_take (i := 7) (oi := ?o7r) (v := ?v7r) ?hi7r (by kernel_rfl) (by kernel_rfl) (by kernel_rfl) ?hQ7r ?hy7r (SprAt.drew HS.out) ?more7r
          case hi7r => rw [List.getElem?_toArray]; exact rfl
          case hQ7r => exact fun _ _ _ h => h
          case hy7r =>
            refine Or.inl ⟨by rfl, ?_⟩
            intro w' hSw
            have g15 := hSw.2.1.1 i15 n15
            have g2 := hSw.2.1.1 i2 n2
            have g7 := hSw.2.1.1 i7 n7
            have g16 := hSw.2.1.1 i16 n16
            rw [if_pos m15, ← X15.out] at g15
            rw [if_pos m2, ← X2.out] at g2
            rw [if_pos m7, ← X7.out] at g7
            rw [if_pos m16, ← X16.out] at g16
            clear hSw
            go_simp
            try with_reducible rfl
          simp only [Act.put, List.setIfInBounds_toArray, List.set_cons_zero, List.set_cons_succ]
          refine wpAnyH_take (i := 8) (oi := ?o8r) (v := ?v8r) ?hi8r (by kernel_rfl) (by kernel_rfl) (by kernel_rfl) ?hQ8r ?hy8r (SprAt.drew HS.out) ?more8r
          case hi8r => rw [List.getElem?_toArray]; exact rfl
          case hQ8r => exact fun _ _ _ h => h
          case hy8r =>
            refine Or.inl ⟨by rfl, ?_⟩
            intro w' hSw
            have g15 := hSw.2.1.1 i15 n15
            have g2 := hSw.2.1.1 i2 n2
            have g7 := hSw.2.1.1 i7 n7
            have g16 := hSw.2.1.1 i16 n16
            rw [if_pos m15, ← X15.out] at g15
            rw [if_pos m2, ← X2.out] at g2
            rw [if_pos m7, ← X7.out] at g7
            rw [if_pos m16, ← X16.out] at g16
            clear hSw
            go_simp
            try with_reducible rfl
          simp only [Act.put, List.setIfInBounds_toArray, List.set_cons_zero, List.set_cons_succ]
          refine wpAnyH_take (i := 9) (oi := ?o9r) (v := ?v9r) ?hi9r (by kernel_rfl) (by kernel_rfl) (by kernel_rfl) ?hQ9r ?hy9r (SprAt.drew HS.out) ?more9r
          case hi9r => rw [List.getElem?_toArray]; exact rfl
          case hQ9r => exact fun _ _ _ h => h
          case hy9r =>
            refine Or.inl ⟨by rfl, ?_⟩
            intro w' hSw
            have g15 := hSw.2.1.1 i15 n15
            have g2 := hSw.2.1.1 i2 n2
            have g7 := hSw.2.1.1 i7 n7
            have g16 := hSw.2.1.1 i16 n16
            rw [if_pos m15, ← X15.out] at g15
            rw [if_pos m2, ← X2.out] at g2
            rw [if_pos m7, ← X7.out] at g7
            rw [if_pos m16, ← X16.out] at g16
            clear hSw
            go_simp
            try with_reducible rfl
          simp only [Act.put, List.setIfInBounds_toArray, List.set_cons_zero, List.set_cons_succ]
          refine wpAnyH_done (by kernel_rfl) ?_ _
          go_wp2_with (first | (go_at_call 84; refine (turn_i _ _ (by decide) (by decide) _).mono ?_; rintro e w' ⟨rfl, rfl⟩))
          refine wp_region_N (fun w' => SprAt w w' g b t) 15 16 rfl (by kernel_rfl) ?_
          refine wpAnyN_take (i := 0) (oi := ?o0s) (v := ?v0s) ?hi0s (by kernel_rfl) (by kernel_rfl) (by kernel_rfl) (by kernel_rfl) (by decide) (by kernel_rfl) ?hQ0s ?hy0s (SprAt.drew (SprAt.drew HS.out)) ?more0s
          case hi0s => rw [List.getElem?_toArray]; exact rfl
          case hQ0s => exact fun _ _ _ h => h
          case hy0s =>
            refine Or.inl ⟨by rfl, ?_⟩
            intro w' hSw
            have g15 := hSw.2.1.1 i15 n15
            have g2 := hSw.2.1.1 i2 n2
            have g7 := hSw.2.1.1 i7 n7
            have g16 := hSw.2.1.1 i16 n16
            rw [if_pos m15, ← X15.out] at g15
            rw [if_pos m2, ← X2.out] at g2
            rw [if_pos m7, ← X7.out] at g7
            rw [if_pos m16, ← X16.out] at g16
            clear hSw
            go_simp
            try with_reducible rfl
          simp only [Act.put, List.setIfInBounds_toArray, List.set_cons_zero, List.set_cons_succ]
          refine wpAnyN_take (i := 1) (oi := ?o1s) (v := ?v1s) ?hi1s (by kernel_rfl) (by kernel_rfl) (by kernel_rfl) (by kernel_rfl) (by decide) (by kernel_rfl) ?hQ1s ?hy1s (SprAt.drew (SprAt.drew HS.out)) ?more1s
          case hi1s => rw [List.getElem?_toArray]; exact rfl
          case hQ1s => exact fun _ _ _ h => h
          case hy1s =>
            refine Or.inl ⟨by rfl, ?_⟩
            intro w' hSw
            have g15 := hSw.2.1.1 i15 n15
            have g2 := hSw.2.1.1 i2 n2
            have g7 := hSw.2.1.1 i7 n7
            have g16 := hSw.2.1.1 i16 n16
            rw [if_pos m15, ← X15.out] at g15
            rw [if_pos m2, ← X2.out] at g2
            rw [if_pos m7, ← X7.out] at g7
            rw [if_pos m16, ← X16.out] at g16
            clear hSw
            go_simp
            try with_reducible rfl
          simp only [Act.put, List.setIfInBounds_toArray, List.set_cons_zero, List.set_cons_succ]
          refine wpAnyN_take (i := 2) (oi := ?o2s) (v := ?v2s) ?hi2s (by kernel_rfl) (by kernel_rfl) (by kernel_rfl) (by kernel_rfl) (by decide) (by kernel_rfl) ?hQ2s ?hy2s (SprAt.drew (SprAt.drew HS.out)) ?more2s
          case hi2s => rw [List.getElem?_toArray]; exact rfl
          case hQ2s => exact fun _ _ _ h => h
          case hy2s =>
            refine Or.inl ⟨by rfl, ?_⟩
            intro w' hSw
            have g15 := hSw.2.1.1 i15 n15
            have g2 := hSw.2.1.1 i2 n2
            have g7 := hSw.2.1.1 i7 n7
            have g16 := hSw.2.1.1 i16 n16
            rw [if_pos m15, ← X15.out] at g15
            rw [if_pos m2, ← X2.out] at g2
            rw [if_pos m7, ← X7.out] at g7
            rw [if_pos m16, ← X16.out] at g16
            clear hSw
            go_simp
            try with_reducible rfl
          simp only [Act.put, List.setIfInBounds_toArray, List.set_cons_zero, List.set_cons_succ]
          refine wpAnyN_take (i := 3) (oi := ?o3s) (v := ?v3s) ?hi3s (by kernel_rfl) (by kernel_rfl) (by kernel_rfl) (by kernel_rfl) (by decide) (by kernel_rfl) ?hQ3s ?hy3s (SprAt.drew (SprAt.drew HS.out)) ?more3s
          case hi3s => rw [List.getElem?_toArray]; exact rfl
          case hQ3s => exact fun _ _ _ h => h
          case hy3s =>
            refine Or.inl ⟨by rfl, ?_⟩
            intro w' hSw
            have g15 := hSw.2.1.1 i15 n15
            have g2 := hSw.2.1.1 i2 n2
            have g7 := hSw.2.1.1 i7 n7
            have g16 := hSw.2.1.1 i16 n16
            rw [if_pos m15, ← X15.out] at g15
            rw [if_pos m2, ← X2.out] at g2
            rw [if_pos m7, ← X7.out] at g7
            rw [if_pos m16, ← X16.out] at g16
            clear hSw
            go_simp
            try with_reducible rfl
          simp only [Act.put, List.setIfInBounds_toArray, List.set_cons_zero, List.set_cons_succ]
          refine wpAnyN_take (i := 4) (oi := ?o4s) (v := ?v4s) ?hi4s (by kernel_rfl) (by kernel_rfl) (by kernel_rfl) (by kernel_rfl) (by decide) (by kernel_rfl) ?hQ4s ?hy4s (SprAt.drew (SprAt.drew HS.out)) ?more4s
          case hi4s => rw [List.getElem?_toArray]; exact rfl
          case hQ4s => exact fun _ _ _ h => h
          case hy4s =>
            refine Or.inl ⟨by rfl, ?_⟩
            intro w' hSw
            have g15 := hSw.2.1.1 i15 n15
            have g2 := hSw.2.1.1 i2 n2
            have g7 := hSw.2.1.1 i7 n7
            have g16 := hSw.2.1.1 i16 n16
            rw [if_pos m15, ← X15.out] at g15
            rw [if_pos m2, ← X2.out] at g2
            rw [if_pos m7, ← X7.out] at g7
            rw [if_pos m16, ← X16.out] at g16
            clear hSw
            go_simp
            try with_reducible rfl
          simp only [Act.put, List.setIfInBounds_toArray, List.set_cons_zero, List.set_cons_succ]
          refine wpAnyN_take (i := 5) (oi := ?o5s) (v := ?v5s) ?hi5s (by kernel_rfl) (by kernel_rfl) (by kernel_rfl) (by kernel_rfl) (by decide) (by kernel_rfl) ?hQ5s ?hy5s (SprAt.drew (SprAt.drew HS.out)) ?more5s
          case hi5s => rw [List.getElem?_toArray]; exact rfl
          case hQ5s => exact fun _ _ _ h => h
          case hy5s =>
            refine Or.inl ⟨by rfl, ?_⟩
            intro w' hSw
            have g15 := hSw.2.1.1 i15 n15
            have g2 := hSw.2.1.1 i2 n2
            have g7 := hSw.2.1.1 i7 n7
            have g16 := hSw.2.1.1 i16 n16
            rw [if_pos m15, ← X15.out] at g15
            rw [if_pos m2, ← X2.out] at g2
            rw [if_pos m7, ← X7.out] at g7
            rw [if_pos m16, ← X16.out] at g16
            clear hSw
            go_simp
            try with_reducible rfl
          simp only [Act.put, List.setIfInBounds_toArray, List.set_cons_zero, List.set_cons_succ]
          refine wpAnyN_take (i := 6) (oi := ?o6s) (v := ?v6s) ?hi6s (by kernel_rfl) (by kernel_rfl) (by kernel_rfl) (by kernel_rfl) (by decide) (by kernel_rfl) ?hQ6s ?hy6s (SprAt.drew (SprAt.drew HS.out)) ?more6s
          case hi6s => rw [List.getElem?_toArray]; exact rfl
          case hQ6s => exact fun _ _ _ h => h
          case hy6s =>
            refine Or.inl ⟨by rfl, ?_⟩
            intro w' hSw
            have g15 := hSw.2.1.1 i15 n15
            have g2 := hSw.2.1.1 i2 n2
            have g7 := hSw.2.1.1 i7 n7
            have g16 := hSw.2.1.1 i16 n16
            rw [if_pos m15, ← X15.out] at g15
            rw [if_pos m2, ← X2.out] at g2
            rw [if_pos m7, ← X7.out] at g7
            rw [if_pos m16, ← X16.out] at g16
            clear hSw
            go_simp
            try with_reducible rfl
          simp only [Act.put, List.setIfInBounds_toArray, List.set_cons_zero, List.set_cons_succ]
          refine wpAnyN_take (i := 7) (oi := ?o7s) (v := ?v7s) ?hi7s (by kernel_rfl) (by kernel_rfl) (by kernel_rfl) (by kernel_rfl) (by decide) (by kernel_rfl) ?hQ7s ?hy7s (SprAt.drew (SprAt.drew HS.out)) ?more7s
          case hi7s => rw [List.getElem?_toArray]; exact rfl
          case hQ7s => exact fun _ _ _ h => h
          case hy7s =>
            refine Or.inl ⟨by rfl, ?_⟩
            intro w' hSw
            have g15 := hSw.2.1.1 i15 n15
            have g2 := hSw.2.1.1 i2 n2
            have g7 := hSw.2.1.1 i7 n7
            have g16 := hSw.2.1.1 i16 n16
            rw [if_pos m15, ← X15.out] at g15
            rw [if_pos m2, ← X2.out] at g2
            rw [if_pos m7, ← X7.out] at g7
            rw [if_pos m16, ← X16.out] at g16
            clear hSw
            go_simp
            try with_reducible rfl
          simp only [Act.put, List.setIfInBounds_toArray, List.set_cons_zero, List.set_cons_succ]
          refine wpAnyN_take (i := 8) (oi := ?o8s) (v := ?v8s) ?hi8s (by kernel_rfl) (by kernel_rfl) (by kernel_rfl) (by kernel_rfl) (by decide) (by kernel_rfl) ?hQ8s ?hy8s (SprAt.drew (SprAt.drew HS.out)) ?more8s
          case hi8s => rw [List.getElem?_toArray]; exact rfl
          case hQ8s => exact fun _ _ _ h => h
          case hy8s =>
            refine Or.inl ⟨by rfl, ?_⟩
            intro w' hSw
            have g15 := hSw.2.1.1 i15 n15
            have g2 := hSw.2.1.1 i2 n2
            have g7 := hSw.2.1.1 i7 n7
            have g16 := hSw.2.1.1 i16 n16
            rw [if_pos m15, ← X15.out] at g15
            rw [if_pos m2, ← X2.out] at g2
            rw [if_pos m7, ← X7.out] at g7
            rw [if_pos m16, ← X16.out] at g16
            clear hSw
            go_simp
            try with_reducible rfl
          simp only [Act.put, List.setIfInBounds_toArray, List.set_cons_zero, List.set_cons_succ]
          refine wpAnyN_take (i := 9) (oi := ?o9s) (v := ?v9s) ?hi9s (by kernel_rfl) (by kernel_rfl) (by kernel_rfl) (by kernel_rfl) (by decide) (by kernel_rfl) ?hQ9s ?hy9s (SprAt.drew (SprAt.drew HS.out)) ?more9s
          case hi9s => rw [List.getElem?_toArray]; exact rfl
          case hQ9s => exact fun _ _ _ h => h
          case hy9s =>
            refine Or.inl ⟨by rfl, ?_⟩
            intro w' hSw
            have g15 := hSw.2.1.1 i15 n15
            have g2 := hSw.2.1.1 i2 n2
            have g7 := hSw.2.1.1 i7 n7
            have g16 := hSw.2.1.1 i16 n16
            rw [if_pos m15, ← X15.out] at g15
            rw [if_pos m2, ← X2.out] at g2
            rw [if_pos m7, ← X7.out] at g7
            rw [if_pos m16, ← X16.out] at g16
            clear hSw
            go_simp
            try with_reducible rfl
          simp only [Act.put, List.setIfInBounds_toArray, List.set_cons_zero, List.set_cons_succ]
          refine wpAnyN_take (i := 10) (oi := ?o10s) (v := ?v10s) ?hi10s (by kernel_rfl) (by kernel_rfl) (by kernel_rfl) (by kernel_rfl) (by decide) (by kernel_rfl) ?hQ10s ?hy10s (SprAt.drew (SprAt.drew HS.out)) ?more10s
          case hi10s => rw [List.getElem?_toArray]; exact rfl
          case hQ10s => exact fun _ _ _ h => h
          case hy10s =>
            refine Or.inl ⟨by rfl, ?_⟩
            intro w' hSw
            have g15 := hSw.2.1.1 i15 n15
            have g2 := hSw.2.1.1 i2 n2
            have g7 := hSw.2.1.1 i7 n7
            have g16 := hSw.2.1.1 i16 n16
            rw [if_pos m15, ← X15.out] at g15
            rw [if_pos m2, ← X2.out] at g2
            rw [if_pos m7, ← X7.out] at g7
            rw [if_pos m16, ← X16.out] at g16
            clear hSw
            go_simp
            try with_reducible rfl
          simp only [Act.put, List.setIfInBounds_toArray, List.set_cons_zero, List.set_cons_succ]
          refine wpAnyN_take (i := 11) (oi := ?o11s) (v := ?v11s) ?hi11s (by kernel_rfl) (by kernel_rfl) (by kernel_rfl) (by kernel_rfl) (by decide) (by kernel_rfl) ?hQ11s ?hy11s (SprAt.drew (SprAt.drew HS.out)) ?more11s
          case hi11s => rw [List.getElem?_toArray]; exact rfl
          case hQ11s => exact fun _ _ _ h => h
          case hy11s =>
            refine Or.inl ⟨by rfl, ?_⟩
            intro w' hSw
            have g15 := hSw.2.1.1 i15 n15
            have g2 := hSw.2.1.1 i2 n2
            have g7 := hSw.2.1.1 i7 n7
            have g16 := hSw.2.1.1 i16 n16
            rw [if_pos m15, ← X15.out] at g15
            rw [if_pos m2, ← X2.out] at g2
            rw [if_pos m7, ← X7.out] at g7
            rw [if_pos m16, ← X16.out] at g16
            clear hSw
            go_simp
            try with_reducible rfl
          simp only [Act.put, List.setIfInBounds_toArray, List.set_cons_zero, List.set_cons_succ]
          refine wpAnyN_take (i := 12) (oi := ?o12s) (v := ?v12s) ?hi12s (by kernel_rfl) (by kernel_rfl) (by kernel_rfl) (by kernel_rfl) (by decide) (by kernel_rfl) ?hQ12s ?hy12s (SprAt.drew (SprAt.drew HS.out)) ?more12s
          case hi12s => rw [List.getElem?_toArray]; exact rfl
          case hQ12s => exact fun _ _ _ h => h
          case hy12s =>
            refine Or.inl ⟨by rfl, ?_⟩
            intro w' hSw
            have g15 := hSw.2.1.1 i15 n15
            have g2 := hSw.2.1.1 i2 n2
            have g7 := hSw.2.1.1 i7 n7
            have g16 := hSw.2.1.1 i16 n16
            rw [if_pos m15, ← X15.out] at g15
            rw [if_pos m2, ← X2.out] at g2
            rw [if_pos m7, ← X7.out] at g7
            rw [if_pos m16, ← X16.out] at g16
            clear hSw
            go_simp
            try with_reducible rfl
          simp only [Act.put, List.setIfInBounds_toArray, List.set_cons_zero, List.set_cons_succ]
          refine wpAnyN_take (i := 13) (oi := ?o13s) (v := ?v13s) ?hi13s (by kernel_rfl) (by kernel_rfl) (by kernel_rfl) (by kernel_rfl) (by decide) (by kernel_rfl) ?hQ13s ?hy13s (SprAt.drew (SprAt.drew HS.out)) ?more13s
          case hi13s => rw [List.getElem?_toArray]; exact rfl
          case hQ13s => exact fun _ _ _ h => h
          case hy13s =>
            refine Or.inl ⟨by rfl, ?_⟩
            intro w' hSw
            have g15 := hSw.2.1.1 i15 n15
            have g2 := hSw.2.1.1 i2 n2
            have g7 := hSw.2.1.1 i7 n7
            have g16 := hSw.2.1.1 i16 n16
            rw [if_pos m15, ← X15.out] at g15
            rw [if_pos m2, ← X2.out] at g2
            rw [if_pos m7, ← X7.out] at g7
            rw [if_pos m16, ← X16.out] at g16
            clear hSw
            go_simp
            try with_reducible rfl
          simp only [Act.put, List.setIfInBounds_toArray, List.set_cons_zero, List.set_cons_succ]
          refine wpAnyN_take (i := 14) (oi := ?o14s) (v := ?v14s) ?hi14s (by kernel_rfl) (by kernel_rfl) (by kernel_rfl) (by kernel_rfl) (by decide) (by kernel_rfl) ?hQ14s ?hy14s (SprAt.drew (SprAt.drew HS.out)) ?more14s
          case hi14s => rw [List.getElem?_toArray]; exact rfl
          case hQ14s => exact fun _ _ _ h => h
          case hy14s =>
            refine Or.inl ⟨by rfl, ?_⟩
            intro w' hSw
            have g15 := hSw.2.1.1 i15 n15
            have g2 := hSw.2.1.1 i2 n2
            have g7 := hSw.2.1.1 i7 n7
            have g16 := hSw.2.1.1 i16 n16
            rw [if_pos m15, ← X15.out] at g15
            rw [if_pos m2, ← X2.out] at g2
            rw [if_pos m7, ← X7.out] at g7
            rw [if_pos m16, ← X16.out] at g16
            clear hSw
            go_simp
            try with_reducible rfl
          simp only [Act.put, List.setIfInBounds_toArray, List.set_cons_zero, List.set_cons_succ]
          have hgc := (HS.out.2.1.1 t (by omega))
          rw [if_neg (by omega)] at hgc
          have hgf := (HS.out.2.1.2.1 t (by omega))
          refine wpAnyN_one (i := 15) (o := ?o15s) (by kernel_rfl) ?hi15s ?hw15s ?st15s
          case hi15s => rw [List.getElem?_toArray]; exact rfl
          case hw15s => exact rfl
          intro K hK
          have HK15 : Hid _ := hK
          clear hK
          go_simp
          refine HK15.out _ _ ⟨fun h => absurd h (by decide +kernel), ?_⟩
          clear HK15 K
          try simp only [Act.put, List.setIfInBounds_toArray, List.set_cons_zero, List.set_cons_succ]
          refine wpAnyN_done (by kernel_rfl) ?_ _
          go_wp2_with fail
          go_roundw
          case rel => first | exact ⟨t + 1, by omega, by omega, by go_num, (SprAt.set (SprAt.drew HS.out) hlt HV.out).drew⟩ | ((repeat apply Exists.intro); exact ⟨⟨t + 1, by omega, by omega, by go_num, (SprAt.set (SprAt.drew HS.out) hlt HV.out).drew⟩, rfl⟩)
          case measure => simp [intOf]; omega
        · obtain rfl : t = 64 := by omega
          have HR : Hid (wr.rangeAt (w.heap.size + 1) 0 (wordsL b)) := HS.out.2.1.range
          have HT : Hid (wr.there w.heap.size 0 64) := fun j hj => ⟨by rw [Nat.zero_add, HS.out.2.2.2.2.1 j hj]; rfl, by rw [Nat.zero_add]; exact HS.out.2.2.2.2.2 j hj⟩
          go_wp2_with fail
          refine HKr.out _ _ ?_
          clear HKr
          refine wp_seq_k ?_
          intro K hK
          refine wp_region_lit ?_
          refine load_row _ _ (wordsL b) rfl rfl rfl HR (wordsL_length b) ?_
          refine store_row _ _ _ (wordsL b) rfl rfl rfl rfl HT (wordsL_length b) (wordsL_one b) ?_
          refine wpList_nil ?_
          refine hK _ _ ?_
          refine wp_ret ?_
          refine bodyPost_ret (v := .agg (wordsL b).toArray) ?_ rfl ⟨rfl, below_setCells HS.out.2.2.1 (Nat.le_refl _) _⟩
          refine results_cell (p := 2) (ty := 136) (ad := ⟨w.heap.size, 0, none⟩) (by kernel_rfl) rfl ?_
          exact run_loadVar_mid _ w.heap.size 0 _ (wordsL b) _ (World.rangeAt_setCells_same _ _ _ _ (by rw [wordsL_length]; exact HT.out)) Tryd.underlying136 rfl (by rw [wordsL_length]; kernel_rfl)
end Go.Proofs.YtchphekaonnfeaaDoor
