/- Several texts laid together. -/
import Derived.Test.YtfkpbcionlidaaaDoorFtX
import Derived.OwnWalk
import Derived.Test.YtfkpbcionlidaaaDoorFzX
import Derived.Test.YtfkpbcionlidaaaDoorRf3E
import Derived.Test.YtfkpbcionlidaaaDoorRf3I
import Derived.Test.YtfkpbcionlidaaaDoorHeldR
namespace Go.Proofs.YtfkpbcionlidaaaDoor
open Go Go.RowKit Go.Lib
theorem infPt : ∃ i z, Tryd.prog.info? 45 = some i ∧ i.zero = some z ∧ i.size = 9 ∧ i.bytes = 72 ∧ z.cells.size = 9 := by
 have h : (Tryd.prog.info? 45).map (fun i => (i.zero, i.size, i.bytes)) = some (some (.agg #[.int .u64 0, .int .u64 0, .int .u64 0, .int .u64 0, .int .u64 0, .int .u64 0, .int .u64 0, .int .u64 0, .bool false]), 9, 72) := by kernel_rfl
 cases e : Tryd.prog.info? 45 with
 | none => rw [e] at h; cases h
 | some i =>
  rw [e] at h
  simp only [Option.map_some, Option.some.injEq, Prod.mk.injEq] at h
  exact ⟨i, _, rfl, h.1, h.2.1, h.2.2, rfl⟩
def cellsG : List Pts → List Value
 | [] => []
 | p :: r => ptsV p ++ cellsG r
theorem cellsG_append : ∀ (l m : List Pts), cellsG (l ++ m) = cellsG l ++ cellsG m
 | [], _ => rfl
 | p :: r, m => by
  show ptsV p ++ cellsG (r ++ m) = (ptsV p ++ cellsG r) ++ cellsG m
  rw [cellsG_append r m, List.append_assoc]
theorem cellsG_get : ∀ (l : List Pts) (j : Nat) (q : Pts) (i : Nat) (v : Value), l[j]? = some q → (ptsV q)[i]? = some v → (cellsG l)[j * 9 + i]? = some v
 | [], j, q, i, v, h, _ => by simp at h
 | x :: l, 0, q, i, v, h, hi => by
  simp at h
  subst h
  have h9 : i < (ptsV x).length := (List.getElem?_eq_some_iff.1 hi).1
  show (ptsV x ++ cellsG l)[0 * 9 + i]? = _
  rw [Nat.zero_mul, Nat.zero_add, List.getElem?_append_left h9]
  exact hi
 | x :: l, j + 1, q, i, v, h, hi => by
  show (ptsV x ++ cellsG l)[(j + 1) * 9 + i]? = _
  rw [List.getElem?_append_right (by show 9 ≤ _; omega)]
  have e2 : (j + 1) * 9 + i - (ptsV x).length = j * 9 + i := by show _ - 9 = _; omega
  rw [e2]
  exact cellsG_get l j q i v (by simpa using h) hi
/-- A list of points that is one's own. -/
def RowG (w : World) (base : Nat) (a : Option Addr) (l : List Pts) (cap : Nat) : Prop := w.ownsRow base 45 9 (.slice a l.length cap) l.length (cellsG l)
theorem RowG.nil (w : World) (base : Nat) : RowG w base none [] 0 := World.ownsRow_nil w base _ 9
theorem RowG.call {w w' : World} {base cap : Nat} {a : Option Addr} {l : List Pts} (h : RowG w base a l cap) (hb : Below w.heap.size w w') : RowG w' base a l cap :=
 World.ownsRow.kept h (row := none) ⟨hb.os, hb.tape, hb.output, hb.size, fun k hk _ => hb.block k hk⟩ (by
  cases e : (Value.slice a l.length cap).ownBlock with
  | none => exact .inl rfl
  | some k => exact .inr (by simp))
theorem RowG.pts {w : World} {base cap : Nat} {a : Option Addr} {l : List Pts} (h : RowG w base a l cap) : PtsAt w a l := by
 intro j n hj
 rcases h.2 with ⟨h1, h2⟩ | ⟨g, cap', cur, h1, h2, h3, h4, h5, h6, h7⟩
 ·have : l = [] := List.eq_nil_of_length_eq_zero h2
  subst this
  simp at hj
 ·injection h1 with h1 _ h1c
  subst h1
  rw [List.getElem?_map] at hj
  obtain ⟨q, hq, rfl⟩ := Option.map_eq_some_iff.1 hj
  have K : ∀ i v, (ptsV q)[i]? = some v → w.cell? ⟨g, 0 + j * 9 + i, none⟩ = some v := fun i v hv => by
   have := World.ownsRow.cells h (g := g) (by simp [Value.ownBlock]) (j * 9 + i) _ (cellsG_get l j q i v hq hv)
   rw [Addr.add_mid] at this
   rw [← this]
   congr 2
   omega
  exact ⟨g, 0, rfl, (Array.getElem?_eq_some_iff.1 h3).1, K 0 _ rfl, K 1 _ rfl, K 2 _ rfl, K 3 _ rfl, K 4 _ rfl, K 5 _ rfl, K 6 _ rfl, K 7 _ rfl, K 8 _ rfl⟩
theorem wpList_append_RowG (w : World) {ops : Array Oper} {rest : List Oper} {o : Oper} {a : Act} {Q : Exit → Act → World → Prop} (hgd : o.guard = none)
  (sl x : Operand) (hop : o.op = Op.call { callee := Callee.builtin Builtin.append, args := #[sl, x], argTypes := #[24, 24] })
  (base : Nat) (aa : Option Addr) (n cap : Nat) (l : List Pts) (s : Pts) (hs : a.eval sl = .slice aa n cap) (hnn : n = l.length) (h : RowG w base aa l cap) (hB : base ≤ w.heap.size) (hl : l.length ≤ 1000000)
  (b c : Nat) (hx : a.eval x = .slice (some ⟨b, 0, none⟩) 1 c) (hc : Bl w b (ptsV s) 45)
  (hK : ∀ a' m' cap' w', m' = n + 1 → RowG w' base a' (l ++ [s]) cap' → Below base w w' → wpList Tryd.prog ops Q rest (a.put o.dst (.slice a' m' cap')) w') : wpList Tryd.prog ops Q (o :: rest) a w := by
 obtain ⟨i, z, hi, hz, hsize, hby, hzs⟩ := infPt
 subst hnn
 refine wpList_append_own w hgd sl x 24 hop base 45 i z 9 72 Tryd.underlying24 hi hz hsize hby hzs (by decide) (.slice aa l.length cap) l.length (cellsG l) hs h ⟨b, 0, none⟩ 1 c (ptsV s) hx rfl (fun j u hj => ?_) (fun u hu => ?_) (by unfold maxLen; omega) (by omega) hB (fun v' w' ho hg _ => ?_)
 ·have h' : w.heap[b]? = some (.cells (ptsV s).toArray 45) := hc
  rw [Addr.add_mid, Nat.zero_add]
  simpa [World.cell?, h'] using hj
 ·have : ((ptsV s).all fun u => u.oneCell') = true := rfl
  exact List.all_eq_true.1 this u hu
 ·have ho' : w'.ownsRow base 45 9 v' (l ++ [s]).length (cellsG (l ++ [s])) := by
   rw [List.length_append, cellsG_append]
   have e : cellsG [s] = ptsV s := List.append_nil _
   rw [e]; exact ho
  have hv : ∃ a' cap', v' = .slice a' (l ++ [s]).length cap' := by
   rcases ho'.2 with ⟨rfl, h2⟩ | ⟨g, cap', cur, rfl, _⟩
   ·exact ⟨none, 0, by rw [h2]⟩
   ·exact ⟨_, cap', rfl⟩
  obtain ⟨a', cap', rfl⟩ := hv
  have hb : Below base w w' := (Below.refl base w).grown hg hB (fun k hk => (World.ownsRow.lt h k hk).1)
  have := hK a' (l.length + 1) cap' w' rfl ho' hb
  simpa using this
end Go.Proofs.YtfkpbcionlidaaaDoor

namespace Go.Proofs.YtfkpbcionlidaaaDoor
open Go Go.RowKit Go.Lib
theorem PointB.load {w : World} {b o x y : Nat} {i : Bool} (h : PointB w b o x y i) : (loadVar 45 ⟨b, o, none⟩).run Tryd.prog w = .ok (.agg #[.int .u64 (limb x 0 : Nat), .int .u64 (limb x 1 : Nat), .int .u64 (limb x 2 : Nat), .int .u64 (limb x 3 : Nat), .int .u64 (limb y 0 : Nat), .int .u64 (limb y 1 : Nat), .int .u64 (limb y 2 : Nat), .int .u64 (limb y 3 : Nat), .bool i]) w :=
 run_loadVar_mid w b o 45 (ptL x y i) _ (fun j v hv => by
  match j, hv with
  | 0, hv => cases hv; exact h.x0
  | 1, hv => cases hv; exact h.x1
  | 2, hv => cases hv; exact h.x2
  | 3, hv => cases hv; exact h.x3
  | 4, hv => cases hv; exact h.y0
  | 5, hv => cases hv; exact h.y1
  | 6, hv => cases hv; exact h.y2
  | 7, hv => cases hv; exact h.y3
  | 8, hv => cases hv; exact h.i8
  | j + 9, hv => simp [ptL] at hv) Tryd.underlying45 rfl (by kernel_rfl)
set_option maxRecDepth 100000 in
set_option maxHeartbeats 4000000 in
theorem are7_any (zs : List (Nat × Nat × Bool)) (n : Nat) (a : Option Addr) (kc : Nat) (hn : n = zs.length) (h10 : n ≤ 10) (hZ : ∀ z ∈ zs, z.1 < R256 ∧ z.2.1 < R256) (w : World) (hP : PntsAt w a zs) :
  Calls Tryd.prog 18 #[.slice a n kc] w fun e w' => e = .returned (.bool (allP zs)) ∧ Below w.heap.size w w' := by
 obtain ⟨A, hA⟩ : ∃ A, A = allP zs := ⟨_, rfl⟩
 rw [← hA]
 have HN : Hid (PntsAt w a zs ∧ n = zs.length ∧ n ≤ 10 ∧ (∀ z ∈ zs, z.1 < R256 ∧ z.2.1 < R256) ∧ A = allP zs) := ⟨hP, hn, h10, hZ, hA⟩
 have n64 : (n : Int) ≤ 64 := by omega
 clear hn h10 hZ hA hP
 go_enter Tryd.func18, Tryd.ntmps18
 go_wp2_with fail
 rename_i Kr hKr
 have HKr : Hid _ := hKr
 clear hKr
 go_loopw [7] (fun iv wr => ∃ k : Nat, k ≤ n ∧ iv = .int .i64 (k : Nat) ∧ allP (zs.take k) = true ∧ Below w.heap.size w wr) (fun iv _ => n - (Go.RowKit.intOf iv).toNat)
 case atStart => exact ⟨0, Nat.zero_le _, rfl, rfl, Below.refl _ _⟩
 case round =>
  obtain ⟨k, hk, rfl, ht, hB⟩ := hrel
  rename World => wr
  have HC : Hid (allP (zs.take k) = true ∧ Below w.heap.size w wr ∧ k ≤ n) := ⟨ht, hB, hk⟩
  clear ht hB hk
  by_cases hlt : k < n
  ·clear HKr
   have hlt' : (k : Int) < (n : Int) := Int.ofNat_lt.2 hlt
   have hkl : k < zs.length := by rw [← HN.out.2.1]; exact hlt
   obtain ⟨kb, ko, rfl, hNB⟩ := HN.out.1.get hkl
   obtain ⟨x, hx⟩ : ∃ x, x = (zs[k]'hkl).1 := ⟨_, rfl⟩
   obtain ⟨y, hy⟩ : ∃ y, y = (zs[k]'hkl).2.1 := ⟨_, rfl⟩
   obtain ⟨i, hi⟩ : ∃ i, i = (zs[k]'hkl).2.2 := ⟨_, rfl⟩
   rw [← hx, ← hy, ← hi] at hNB
   obtain ⟨B, hB⟩ : ∃ B, B = ptOk x y i := ⟨_, rfl⟩
   have K1 : Hid (∀ w, Calls Tryd.prog 38 #[.agg #[.int .u64 (limb x 0 : Nat), .int .u64 (limb x 1 : Nat), .int .u64 (limb x 2 : Nat), .int .u64 (limb x 3 : Nat), .int .u64 (limb y 0 : Nat), .int .u64 (limb y 1 : Nat), .int .u64 (limb y 2 : Nat), .int .u64 (limb y 3 : Nat), .bool i]] w fun e w' => e = .returned (.bool B) ∧ Below w.heap.size w w') := fun w => by
    rw [hB]
    have h := HN.out.2.2.2.1 _ (List.getElem_mem hkl)
    exact is3_any x y i (by rw [hx]; exact h.1) (by rw [hy]; exact h.2) w
   have LN : Hid ((loadVar 45 ⟨kb, ko + k * 9, none⟩).run Tryd.prog wr = .ok (.agg #[.int .u64 (limb x 0 : Nat), .int .u64 (limb x 1 : Nat), .int .u64 (limb x 2 : Nat), .int .u64 (limb x 3 : Nat), .int .u64 (limb y 0 : Nat), .int .u64 (limb y 1 : Nat), .int .u64 (limb y 2 : Nat), .int .u64 (limb y 3 : Nat), .bool i]) wr) := (hNB.call HC.out.2.1).load
   have HE : Hid (k < n ∧ allP (zs.take (k + 1)) = B ∧ (B = false → A = false)) := by
    have e1 : zs.take (k + 1) = zs.take k ++ [zs[k]'hkl] := List.take_succ_eq_append_getElem hkl
    have e2 : allP (zs.take (k + 1)) = B := by
     have h1 := HC.out.1
     unfold allP at h1 ⊢
     rw [e1, List.all_append, h1, List.all_cons, List.all_nil, Bool.and_true, Bool.true_and, hB, hx, hy, hi]
    refine ⟨hlt, e2, fun hb => ?_⟩
    rw [HN.out.2.2.2.2, ← List.take_append_drop (k + 1) zs]
    unfold allP at e2 ⊢
    rw [List.all_append, e2, hb, Bool.false_and]
   clear hx hy hi hNB hkl hlt hB
   obtain ⟨D, hD⟩ : ∃ D, D = wr.heap.size := ⟨_, rfl⟩
   obtain ⟨W4, hW4⟩ : ∃ W4, W4 = wr.alloc (.cells #[.int .u64 (limb x 0 : Nat), .int .u64 (limb x 1 : Nat), .int .u64 (limb x 2 : Nat), .int .u64 (limb x 3 : Nat), .int .u64 (limb y 0 : Nat), .int .u64 (limb y 1 : Nat), .int .u64 (limb y 2 : Nat), .int .u64 (limb y 3 : Nat), .bool i] 45) := ⟨_, rfl⟩
   have H4 : Hid (Below w.heap.size w W4 ∧ Bl W4 D (ptL x y i) 45) := by
    rw [hW4, hD]
    exact ⟨below_alloc0 HC.out.2.1 _, Bl.new wr (ptL x y i) _⟩
   have HW4 : Hid (W4 = wr.alloc (.cells #[.int .u64 (limb x 0 : Nat), .int .u64 (limb x 1 : Nat), .int .u64 (limb x 2 : Nat), .int .u64 (limb x 3 : Nat), .int .u64 (limb y 0 : Nat), .int .u64 (limb y 1 : Nat), .int .u64 (limb y 2 : Nat), .int .u64 (limb y 3 : Nat), .bool i] 45) ∧ D = wr.heap.size) := ⟨hW4, hD⟩
   clear hW4 hD
   go_upto_region 4 with ((with_reducible refine load_to (b := kb) (k := ko + k * 9) (x := 9) ?_ ?_ ?_ LN.out ?_); rfl; rfl; rfl)
   rw [← HW4.out.1, ← HW4.out.2]
   clear HW4 LN
   have L4 : Hid ((loadVar 45 ⟨D, 0, none⟩).run Tryd.prog W4 = .ok (.agg #[.int .u64 (limb x 0 : Nat), .int .u64 (limb x 1 : Nat), .int .u64 (limb x 2 : Nat), .int .u64 (limb x 3 : Nat), .int .u64 (limb y 0 : Nat), .int .u64 (limb y 1 : Nat), .int .u64 (limb y 2 : Nat), .int .u64 (limb y 3 : Nat), .bool i]) W4) := H4.out.2.load Tryd.underlying45 rfl (by kernel_rfl)
   go_wp2_with ((with_reducible refine load_to (b := D) (k := 0) (x := 4) ?_ ?_ ?_ L4.out ?_); rfl; rfl; rfl)
   refine (K1.out _).mono ?_
   rintro e w5 ⟨rfl, hb5⟩
   have H6 : Hid (Below w.heap.size w w5) := below_call0 H4.out.1 hb5
   clear H4 hb5 L4 K1
   cases B with
   | false =>
    obtain rfl : A = false := HE.out.2.2 rfl
    go_wp2_with fail
    go_ret
    exact ⟨rfl, H6.out⟩
   | true =>
    go_wp2_with fail
    go_roundw
    case rel => first | exact ⟨k + 1, HE.out.1, by go_num, HE.out.2.1, H6.out⟩ | ((repeat apply Exists.intro); exact ⟨⟨k + 1, HE.out.1, by go_num, HE.out.2.1, H6.out⟩, rfl⟩)
    case measure => have := HE.out.1; simp [Go.RowKit.intOf]; omega
  ·obtain rfl : k = n := by have := HC.out.2.2; omega
   have hnl : ¬ ((k : Int) < (k : Int)) := Int.lt_irrefl _
   clear hlt
   go_wp2_with fail
   refine HKr.out _ _ ?_
   clear HKr
   go_wp2_with fail
   obtain rfl : A = true := by
    have h := HC.out.1
    rw [HN.out.2.1, List.take_length] at h
    rw [HN.out.2.2.2.2, h]
   go_ret
   exact ⟨rfl, HC.out.2.1⟩
theorem inf12 : ([.int .u64 0, .int .u64 0, .int .u64 0, .int .u64 0, .int .u64 1, .int .u64 0, .int .u64 0, .int .u64 0, .int .u64 0, .int .u64 0, .int .u64 0, .int .u64 0] : List Value) = ovL 0 1 0 := by
 unfold ovL
 rw [lit0.1, lit0.2.1, lit0.2.2.1, lit0.2.2.2, lit1.1, lit1.2.1, lit1.2.2.1, lit1.2.2.2]
theorem in3_z (w : World) : Calls Tryd.prog 19 #[.agg #[.int .u64 0, .int .u64 0, .int .u64 0, .int .u64 0, .int .u64 0, .int .u64 0, .int .u64 0, .int .u64 0, .bool true]] w fun e w' => e = .returned (.agg #[.int .u64 0, .int .u64 0, .int .u64 0, .int .u64 0, .int .u64 1, .int .u64 0, .int .u64 0, .int .u64 0, .int .u64 0, .int .u64 0, .int .u64 0, .int .u64 0]) ∧ Below w.heap.size w w' := in3_inf 0 0 w
theorem allP_map (cs : List Pts) : allP (cs.map ptT) = true := by
 unfold allP
 rw [List.all_eq_true]
 intro z hz
 rw [List.mem_map] at hz
 obtain ⟨p, _, rfl⟩ := hz
 exact pts_ok p
/-- What Sum has in its memory while a place is summed. -/
def HsA (w wx : World) (b X Y Z : Nat) : Prop := OwnC wx b (ovL X Y Z) ∧ Below w.heap.size w wx ∧ w.heap.size ≤ b
theorem HsA.call {w W w1 : World} {b X Y Z : Nat} (H : HsA w W b X Y Z) (hb : Below W.heap.size W w1) : HsA w w1 b X Y Z := ⟨H.1.call hb, below_call0 H.2.1 hb, H.2.2⟩
theorem HsA.put {w W : World} {b X Y Z : Nat} (H : HsA w W b X Y Z) (P Q R : Nat) : HsA w ((((((((((((W.setCell ⟨b, 0, none⟩ (.int .u64 (limb (P) 0 : Nat))).setCell ⟨b, 1, none⟩ (.int .u64 (limb (P) 1 : Nat))).setCell ⟨b, 2, none⟩ (.int .u64 (limb (P) 2 : Nat))).setCell ⟨b, 3, none⟩ (.int .u64 (limb (P) 3 : Nat))).setCell ⟨b, 4, none⟩ (.int .u64 (limb (Q) 0 : Nat))).setCell ⟨b, 5, none⟩ (.int .u64 (limb (Q) 1 : Nat))).setCell ⟨b, 6, none⟩ (.int .u64 (limb (Q) 2 : Nat))).setCell ⟨b, 7, none⟩ (.int .u64 (limb (Q) 3 : Nat))).setCell ⟨b, 8, none⟩ (.int .u64 (limb (R) 0 : Nat))).setCell ⟨b, 9, none⟩ (.int .u64 (limb (R) 1 : Nat))).setCell ⟨b, 10, none⟩ (.int .u64 (limb (R) 2 : Nat))).setCell ⟨b, 11, none⟩ (.int .u64 (limb (R) 3 : Nat))) b P Q R := ⟨OwnC.put (ovL P Q R) H.1 rfl, below_putL H.2.2 (ovL P Q R) 0 _ H.2.1, H.2.2⟩
theorem HsA.start {w W : World} {t : TypeId} (hb : Below w.heap.size w W) : HsA w (W.alloc (.cells #[.int .u64 0, .int .u64 0, .int .u64 0, .int .u64 0, .int .u64 1, .int .u64 0, .int .u64 0, .int .u64 0, .int .u64 0, .int .u64 0, .int .u64 0, .int .u64 0] t)) W.heap.size 0 1 0 := by
 refine ⟨?_, below_alloc0 hb _, hb.size⟩
 rw [← inf12]
 exact OwnC.new' rfl
def okL (L : List (List T3)) : Bool := L.all allP
theorem okL_ok : ∀ {L : List (List T3)}, okL L = true → ∃ Ls : List (List Pts), L = Ls.map (List.map ptT)
 | [], _ => ⟨[], rfl⟩
 | x :: r, h => by
  unfold okL at h
  rw [List.all_cons, Bool.and_eq_true] at h
  obtain ⟨Ls, hL⟩ := okL_ok (L := r) h.2
  obtain ⟨cs, hc⟩ := allP_ok h.1
  exact ⟨cs :: Ls, by rw [List.map_cons, ← hc, ← hL]⟩
/-- The sum at a place of the first k. -/
def aS (Ls : List (List Pts)) (i : Nat) : Nat → Pts
 | 0 => gr.z
 | k + 1 => gr.add (aS Ls i k) ((Ls[k]?.getD []).getD i gr.z)
theorem okL_step {L : List (List T3)} {k : Nat} (hk : k < L.length) (h : okL (L.take k) = true) : okL (L.take (k + 1)) = allP (L[k]'hk) := by
 unfold okL at h ⊢
 rw [List.take_succ_eq_append_getElem hk, List.all_append, h, List.all_cons, List.all_nil, Bool.and_true, Bool.true_and]
theorem okL_bad {L : List (List T3)} {k : Nat} (hk : k < L.length) (h : allP (L[k]'hk) = false) : okL L = false := by
 cases e : okL L with
 | false => rfl
 | true => rw [List.all_eq_true.1 e _ (List.getElem_mem hk)] at h; cases h
set_option maxRecDepth 100000 in
set_option maxHeartbeats 8000000 in
theorem rsum_any (L : List (List T3)) (m n0 : Nat) (a : Option Addr) (c : Nat) (hm : m = L.length) (hl : m ≤ 20) (hn0 : n0 = lnT L) (hZ : ∀ row ∈ L, ∀ z ∈ row, z.1 < R256 ∧ z.2.1 < R256) (w : World) (hP : RowsT w a L) :
  Calls Tryd.prog 7 #[.slice a m c] w fun e w' => ((alkB L = false ∧ e = .returned (.tuple #[.slice none 0 0, .int .i64 1])) ∨ (alkB L = true ∧ okL L = false ∧ e = .returned (.tuple #[.slice none 0 0, .int .i64 30])) ∨ (alkB L = true ∧ ∃ Ls : List (List Pts), L = Ls.map (List.map ptT) ∧ ∃ b d, e = .returned (.tuple #[.slice b n0 d, .int .i64 0]) ∧ PtsAt w' b ((List.range n0).map fun i => aS Ls i m))) ∧ Below w.heap.size w w' := by
 have HL : Hid (m = L.length ∧ RowsT w a L ∧ m ≤ 20 ∧ n0 = lnT L ∧ ∀ row ∈ L, ∀ z ∈ row, z.1 < R256 ∧ z.2.1 < R256) := ⟨hm, hP, hl, hn0, hZ⟩
 have m64 : (m : Int) ≤ 64 := by omega
 have K0 : Hid (∀ w, Calls Tryd.prog 19 #[.agg #[.int .u64 0, .int .u64 0, .int .u64 0, .int .u64 0, .int .u64 0, .int .u64 0, .int .u64 0, .int .u64 0, .bool true]] w fun e w' => e = .returned (.agg #[.int .u64 0, .int .u64 0, .int .u64 0, .int .u64 0, .int .u64 1, .int .u64 0, .int .u64 0, .int .u64 0, .int .u64 0, .int .u64 0, .int .u64 0, .int .u64 0]) ∧ Below w.heap.size w w') := in3_z
 clear hP hZ
 by_cases hm0 : m = 0
 ·have HA : Hid (alkB L = false) := by
   unfold alkB
   exact decide_eq_false fun h => by omega
  subst hm0
  clear hm hl hn0 K0
  go_enter Tryd.func7, Tryd.ntmps7
  go_wp2_with fail
  refine bodyPost_ret (v := .tuple #[.slice none 0 0, .int .i64 1]) (by simp [results, Tryd.results7]) rfl ⟨.inl ⟨HA.out, rfl⟩, Below.refl _ _⟩
 have h0l : 0 < L.length := by omega
 have m0e : ((m : Int) == 0) = false := by simp; omega
 have m0d : decide ((m : Int) = 0) = false := decide_eq_false (by omega)
 have m1 : (0 : Int) < (m : Nat) := by omega
 obtain ⟨p, o, ra0, rc0, rfl, -, -, -⟩ := HL.out.2.1.get h0l
 have KG : Hid (∀ (W : World), Below w.heap.size w W → ∀ k (hk : k < m), ∃ ra rc, W.cell? ⟨p, o + k, none⟩ = some (.slice ra (L[k]'(by rw [← HL.out.1]; exact hk)).length rc) ∧ PntsAt W ra (L[k]'(by rw [← HL.out.1]; exact hk))) := fun W hW k hk => by
  obtain ⟨p1, o1, ra, rc, e, c1, hp, _⟩ := (HL.out.2.1.call hW).get (k := k) (by rw [← HL.out.1]; exact hk)
  simp only [Option.some.injEq, Addr.mk.injEq, and_true] at e
  obtain ⟨rfl, rfl⟩ := e
  exact ⟨ra, rc, c1, hp⟩
 have KH : Hid (∀ (W : World), Below w.heap.size w W → ∃ ra rc, W.cell? ⟨p, o, none⟩ = some (.slice ra n0 rc)) := fun W hW => by
  obtain ⟨ra, rc, c1, -⟩ := KG.out W hW 0 (by omega)
  rw [← lnT_eq h0l, ← hn0, Nat.add_zero] at c1
  exact ⟨ra, rc, c1⟩
 clear hm hl hn0 hm0 h0l
 go_enter Tryd.func7, Tryd.ntmps7
 go_wp2_with fail
 rename_i Kr hKr
 have HKr : Hid _ := hKr
 clear hKr
 go_loopw [18] (fun iv wr => ∃ k : Nat, k ≤ m ∧ iv = .int .i64 (k : Nat) ∧ AlkP (lnT L) (L.take k) ∧ Below w.heap.size w wr) (fun iv _ => m - (Go.RowKit.intOf iv).toNat)
 case atStart => exact ⟨0, Nat.zero_le _, rfl, fun _ h => (List.not_mem_nil h).elim, Below.refl _ _⟩
 case round =>
  obtain ⟨k, hk, rfl, hA, hB⟩ := hrel
  rename World => wr
  have HC : Hid (AlkP (lnT L) (L.take k) ∧ Below w.heap.size w wr ∧ k ≤ m) := ⟨hA, hB, hk⟩
  clear hA hB hk
  by_cases hlt : k < m
  ·clear HKr K0
   have hkl : k < L.length := by rw [← HL.out.1]; exact hlt
   have hlt' : (k : Int) < (m : Int) := Int.ofNat_lt.2 hlt
   obtain ⟨ra, rc, c1, -⟩ := KG.out wr HC.out.2.1 k hlt
   obtain ⟨rb, rd, c2⟩ := KH.out wr HC.out.2.1
   obtain ⟨q, hq⟩ : ∃ q, q = (L[k]'hkl).length := ⟨_, rfl⟩
   rw [← hq] at c1
   by_cases h1 : (1 ≤ q ∧ q ≤ 10) ∧ q = n0
   ·have HE : Hid (AlkP (lnT L) (L.take (k + 1)) ∧ Below w.heap.size w wr ∧ k < m) := ⟨alk_step hkl HC.out.1 ⟨by rw [← hq]; exact h1.1, by rw [← hq, ← HL.out.2.2.2.1]; exact h1.2⟩, HC.out.2.1, hlt⟩
    obtain ⟨h3, rfl⟩ := h1
    have d1 : decide ((q : Int) < 1) = false := decide_eq_false (by omega)
    have d2 : decide ((10 : Int) < (q : Int)) = false := decide_eq_false (by omega)
    have d3 : ((q : Int) != (q : Int)) = false := by simp
    clear hlt hq h3 hkl HC KG KH
    go_wp2_with fail
    go_roundw
    case rel => first | exact ⟨k + 1, HE.out.2.2, by go_num, HE.out.1, HE.out.2.1⟩ | ((repeat apply Exists.intro); exact ⟨⟨k + 1, HE.out.2.2, by go_num, HE.out.1, HE.out.2.1⟩, rfl⟩)
    case measure => have := HE.out.2.2; simp [Go.RowKit.intOf]; omega
   ·have HF : Hid (alkB L = false ∧ Below w.heap.size w wr) := ⟨alk_bad hkl (fun h => h1 ⟨by rw [hq]; exact h.1, by rw [hq, HL.out.2.2.2.1]; exact h.2⟩), HC.out.2.1⟩
    clear hq hkl HC hlt KG KH
    by_cases e1 : q < 1
    ·have d1 : decide ((q : Int) < 1) = true := decide_eq_true (by omega)
     clear h1 e1
     go_wp2_with fail
     refine bodyPost_ret (v := .tuple #[.slice none 0 0, .int .i64 1]) (by simp [results, Tryd.results7]) rfl ⟨.inl ⟨HF.out.1, rfl⟩, HF.out.2⟩
    ·have d1 : decide ((q : Int) < 1) = false := decide_eq_false (by omega)
     by_cases e2 : 10 < q
     ·have d2 : decide ((10 : Int) < (q : Int)) = true := decide_eq_true (by omega)
      clear h1 e1 e2
      go_wp2_with fail
      refine bodyPost_ret (v := .tuple #[.slice none 0 0, .int .i64 1]) (by simp [results, Tryd.results7]) rfl ⟨.inl ⟨HF.out.1, rfl⟩, HF.out.2⟩
     ·have d2 : decide ((10 : Int) < (q : Int)) = false := decide_eq_false (by omega)
      have d3 : ((q : Int) != (n0 : Int)) = true := by simp; omega
      clear h1 e1 e2
      go_wp2_with fail
      refine bodyPost_ret (v := .tuple #[.slice none 0 0, .int .i64 1]) (by simp [results, Tryd.results7]) rfl ⟨.inl ⟨HF.out.1, rfl⟩, HF.out.2⟩
  ·obtain rfl : k = m := by have := HC.out.2.2; omega
   have hnl : ¬ ((k : Int) < (k : Int)) := Int.lt_irrefl _
   have HA : Hid (alkB L = true) := by
    rw [alk_all HL.out.1 HC.out.1]
    exact decide_eq_true (by omega)
   have HB : Hid (Below w.heap.size w wr) := HC.out.2.1
   clear hlt HC
   go_wp2_with fail
   refine HKr.out _ _ ?_
   clear HKr
   go_wp2_with fail
   rename_i Kr2 hKr2
   have HKr2 : Hid _ := hKr2
   clear hKr2
   go_loopw [42] (fun iv wx => ∃ j : Nat, j ≤ k ∧ iv = .int .i64 (j : Nat) ∧ okL (L.take j) = true ∧ Below w.heap.size w wx) (fun iv _ => k - (Go.RowKit.intOf iv).toNat)
   case atStart => exact ⟨0, Nat.zero_le _, rfl, rfl, HB.out⟩
   case round =>
    clear HB
    obtain ⟨j, hj, rfl, hO, hB⟩ := hrel
    rename World => wx
    have HC : Hid (okL (L.take j) = true ∧ Below w.heap.size w wx ∧ j ≤ k) := ⟨hO, hB, hj⟩
    clear hO hB hj
    by_cases hlt : j < k
    ·clear HKr2 K0
     have hjl : j < L.length := by rw [← HL.out.1]; exact hlt
     have hlt' : (j : Int) < (k : Int) := Int.ofNat_lt.2 hlt
     obtain ⟨ra, rc, c1, hp⟩ := KG.out wx HC.out.2.1 j hlt
     obtain ⟨B, hB⟩ : ∃ B, B = allP (L[j]'hjl) := ⟨_, rfl⟩
     obtain ⟨q, hq⟩ : ∃ q, q = (L[j]'hjl).length := ⟨_, rfl⟩
     have hr := (alk_ok HA.out).1 _ (List.getElem_mem hjl)
     have KA : Hid (Calls Tryd.prog 18 #[.slice ra q rc] wx fun e w' => e = .returned (.bool B) ∧ Below wx.heap.size wx w') := by
      rw [hB]
      exact are7_any (L[j]'hjl) q ra rc hq (by rw [hq]; exact hr.1.2) (HL.out.2.2.2.2 _ (List.getElem_mem hjl)) wx hp
     rw [← hq] at c1
     have HE : Hid (j < k ∧ okL (L.take (j + 1)) = B ∧ (B = false → okL L = false)) := ⟨hlt, by rw [hB]; exact okL_step hjl HC.out.1, fun h => okL_bad hjl (by rw [← hB]; exact h)⟩
     clear hB hq hr hp hjl hlt KG KH
     go_wp2_with fail
     refine KA.out.mono ?_
     rintro e w5 ⟨rfl, hb5⟩
     have H5 : Hid (Below w.heap.size w w5) := below_call0 HC.out.2.1 hb5
     clear hb5 HC KA c1
     cases B with
     | false =>
      go_wp2_with fail
      refine bodyPost_ret (v := .tuple #[.slice none 0 0, .int .i64 30]) (by simp [results, Tryd.results7]) rfl ⟨.inr (.inl ⟨HA.out, (by first | exact HE.out.2.2 rfl | exact HE.out.2.2 trivial), rfl⟩), H5.out⟩
     | true =>
      go_wp2_with fail
      go_roundw
      case rel => first | exact ⟨j + 1, HE.out.1, by go_num, HE.out.2.1, H5.out⟩ | ((repeat apply Exists.intro); exact ⟨⟨j + 1, HE.out.1, by go_num, HE.out.2.1, H5.out⟩, rfl⟩)
      case measure => have := HE.out.1; simp [Go.RowKit.intOf]; omega
    ·obtain rfl : j = k := by have := HC.out.2.2; omega
     have hnl2 : ¬ ((j : Int) < (j : Int)) := Int.lt_irrefl _
     have hok : okL L = true := by
      have h := HC.out.1
      rw [HL.out.1, List.take_length] at h
      exact h
     obtain ⟨Ls, hLs⟩ := okL_ok hok
     have HB : Hid (Below w.heap.size w wx ∧ L = Ls.map (List.map ptT)) := ⟨HC.out.2.1, hLs⟩
     have n10 : (n0 : Int) ≤ 10 := by
      have h := ((alk_ok HA.out).1 _ (List.getElem_mem (alk_ok HA.out).2)).1.2
      rw [← lnT_eq (alk_ok HA.out).2, ← HL.out.2.2.2.1] at h
      omega
     clear hlt HC hok hLs hnl
     obtain ⟨rb, rd, c2⟩ := KH.out wx HB.out.1
     go_wp2_with fail
     refine HKr2.out _ _ ?_
     clear HKr2
     go_wp2_with fail
     rename_i Kr3 hKr3
     have HKr3 : Hid _ := hKr3
     clear hKr3 c2
     go_loopw [8, 54] (fun ov iv wy => ∃ (k2 mm : Nat) (b : Option Addr) (d : Nat), k2 ≤ n0 ∧ mm = k2 ∧ ov = .slice b mm d ∧ iv = .int .i64 (k2 : Nat) ∧ RowG wy w.heap.size b ((List.range k2).map fun i => aS Ls i j) d ∧ Below w.heap.size w wy) (fun _ iv _ => n0 - (Go.RowKit.intOf iv).toNat)
     case atStart => exact ⟨0, 0, none, 0, Nat.zero_le _, rfl, rfl, rfl, RowG.nil _ _, HB.out.1⟩
     case round =>
      obtain ⟨k2, mm, b, d, hk2, hmm, rfl, rfl, hO, hB⟩ := hrel
      rename World => wy
      have HC : Hid (RowG wy w.heap.size b ((List.range k2).map fun i => aS Ls i j) d ∧ Below w.heap.size w wy ∧ mm = k2 ∧ k2 ≤ n0) := ⟨hO, hB, hmm, hk2⟩
      clear hO hB hmm hk2
      by_cases hlt : k2 < n0
      ·clear HKr3
       have hlt' : (k2 : Int) < (n0 : Int) := Int.ofNat_lt.2 hlt
       have HE : Hid (k2 < n0) := hlt
       clear hlt
       go_wp2_with fail
       refine (K0.out _).mono ?_
       rintro e w6 ⟨rfl, hb6⟩
       have HS0 : Hid (HsA wy (w6.alloc (.cells #[.int .u64 0, .int .u64 0, .int .u64 0, .int .u64 0, .int .u64 1, .int .u64 0, .int .u64 0, .int .u64 0, .int .u64 0, .int .u64 0, .int .u64 0, .int .u64 0] 53)) w6.heap.size 0 1 0) := HsA.start hb6
       clear hb6 K0
       go_wp2_with fail
       rename_i Kr4 hKr4
       have HKr4 : Hid _ := hKr4
       clear hKr4
       go_loopw [61] (fun iv wz => ∃ (q X Y Z : Nat), q ≤ j ∧ iv = .int .i64 (q : Nat) ∧ OvrN X Y Z (aS Ls k2 q).1 ∧ HsA wy wz w6.heap.size X Y Z) (fun iv _ => j - (Go.RowKit.intOf iv).toNat)
       case atStart => exact ⟨0, 0, 1, 0, Nat.zero_le _, rfl, ovrN_none, HS0.out⟩
       case round =>
        clear HS0
        obtain ⟨q, X, Y, Z, hq, rfl, hOv, hS⟩ := hrel
        rename World => wz
        have HD : Hid (HsA wy wz w6.heap.size X Y Z ∧ q ≤ j) := ⟨hS, hq⟩
        clear hS hq
        by_cases hq2 : q < j
        ·clear HKr4
         have hq2' : (q : Int) < (j : Int) := Int.ofNat_lt.2 hq2
         have hqL : q < L.length := by rw [← HL.out.1]; exact hq2
         obtain ⟨ra, rc, c1, hp⟩ := KG.out wz (below_call0 HC.out.2.1 HD.out.1.2.1) q hq2
         have hlen : (L[q]'hqL).length = n0 := by
          rw [((alk_ok HA.out).1 _ (List.getElem_mem hqL)).2]
          exact HL.out.2.2.2.1.symm
         rw [hlen] at c1
         have hrow : L[q]? = some (L[q]'hqL) := List.getElem?_eq_getElem hqL
         generalize (L[q]'hqL) = row at hp hlen hrow
         rw [HB.out.2, List.getElem?_map] at hrow
         obtain ⟨s, hs, rfl⟩ := Option.map_eq_some_iff.1 hrow
         rw [List.length_map] at hlen
         have hks : k2 < s.length := by rw [hlen]; exact HE.out
         obtain ⟨pb, po, rfl, hPB⟩ := PtsAt.get (l := s) hp hks
         obtain ⟨P, hP⟩ : ∃ P, P = s[k2]'hks := ⟨_, rfl⟩
         rw [← hP] at hPB
         have Pb : Hid (PointB wz pb (po + k2 * 9) (pX P) (pY P) (pI P)) := hPB
         obtain ⟨X1, Y1, Z1, o1, k1⟩ := in3_A P
         obtain ⟨X3, Y3, Z3, o3, k3⟩ := plus3_A X Y Z X1 Y1 Z1 (aS Ls k2 q) P hOv o1
         have K1 : Hid _ := k1
         have K3 : Hid _ := k3
         have HO : Hid (OvrN X3 Y3 Z3 (aS Ls k2 (q + 1)).1 ∧ q < j) := by
          refine ⟨?_, hq2⟩
          show OvrN X3 Y3 Z3 (gr.add (aS Ls k2 q) ((Ls[q]?.getD []).getD k2 gr.z)).1
          have e : (Ls[q]?.getD []).getD k2 gr.z = P := by
           rw [hs, hP]
           simp [hks]
          rw [e]
          exact o3
         clear hPB hP k1 k3 o1 o3 hOv hs hp hrow hlen hks hqL hq2 KG KH
         go_upto_region 23 with fail
         refine wp_region_J 7 0 [?v0h, ?v1h, ?v2h, ?v3h, ?v4h, ?v5h, ?v6h] [some 65, some 66, some 67, some 68, some 69, some 70, some 71] ?Ah (by kernel_rfl) (by kernel_rfl) (by kernel_rfl) rfl ?hAh ?hopsh ?hfinh
         case hAh =>
          simp only [List.set_cons_zero, List.set_cons_succ, List.zip_cons_cons, List.zip_nil_right, fillD, Act.put, List.setIfInBounds_toArray]
          exact rfl
         case hopsh =>
          refine ⟨?_, ?_, ?_, ?_, ?_, ?_, ?_, trivial⟩
          focus (intro _ bq wx hS; refine OpTo.yields rfl ?_; obtain ⟨_, _, _, _, _, _, _, _, _, _, _, _, _, _⟩ := (HD.out.1.call hS).1.ov; clear hS; go_simp; try with_reducible rfl)
          iterate 3 focus (intro _ bq wx hS; refine OpTo.yields rfl ?_; clear hS; go_simp; try with_reducible rfl)
          focus (intro _ bq wx hS; refine OpTo.yields rfl ?_; obtain ⟨_, _, _, _, _, _, _, _, _, _⟩ := Pb.out.call hS; clear hS; go_simp; try with_reducible rfl)
          focus (intro _ bq wx hS; refine OpTo.calls rfl ?_ ?_; rotate_left; intro K hK; go_simp; refine (K1.out _).mono ?_; rintro e w' ⟨rfl, hq⟩; exact hK w' hq; exact rfl)
          focus (intro _ bq wx hS; refine OpTo.calls rfl ?_ ?_; rotate_left; intro K hK; go_simp; refine (K3.out _).mono ?_; rintro e w' ⟨rfl, hq⟩; exact hK w' hq; exact rfl)
         case hfinh =>
          intro wx hS
          refine tail_at (o := ?ofh) ?hih ?hwh ?_
          case hih => rw [List.getElem?_toArray]; exact rfl
          case hwh => exact rfl
          obtain ⟨yz, y0, y1, y2, y3, y4, y5, y6, y7, y8, y9, y10, y11, yf⟩ := (HD.out.1.call hS).1.ov
          go_simp
          clear yz y0 y1 y2 y3 y4 y5 y6 y7 y8 y9 y10 y11 yf
          refine tail_end ?_
          have HN9 : Hid (HsA wy ((((((((((((wx.setCell ⟨w6.heap.size, 0, none⟩ (.int .u64 (limb (X3) 0 : Nat))).setCell ⟨w6.heap.size, 1, none⟩ (.int .u64 (limb (X3) 1 : Nat))).setCell ⟨w6.heap.size, 2, none⟩ (.int .u64 (limb (X3) 2 : Nat))).setCell ⟨w6.heap.size, 3, none⟩ (.int .u64 (limb (X3) 3 : Nat))).setCell ⟨w6.heap.size, 4, none⟩ (.int .u64 (limb (Y3) 0 : Nat))).setCell ⟨w6.heap.size, 5, none⟩ (.int .u64 (limb (Y3) 1 : Nat))).setCell ⟨w6.heap.size, 6, none⟩ (.int .u64 (limb (Y3) 2 : Nat))).setCell ⟨w6.heap.size, 7, none⟩ (.int .u64 (limb (Y3) 3 : Nat))).setCell ⟨w6.heap.size, 8, none⟩ (.int .u64 (limb (Z3) 0 : Nat))).setCell ⟨w6.heap.size, 9, none⟩ (.int .u64 (limb (Z3) 1 : Nat))).setCell ⟨w6.heap.size, 10, none⟩ (.int .u64 (limb (Z3) 2 : Nat))).setCell ⟨w6.heap.size, 11, none⟩ (.int .u64 (limb (Z3) 3 : Nat))) w6.heap.size X3 Y3 Z3) := (HD.out.1.call hS).put X3 Y3 Z3
          obtain ⟨wv, hwv⟩ : ∃ wq, wq = ((((((((((((wx.setCell ⟨w6.heap.size, 0, none⟩ (.int .u64 (limb (X3) 0 : Nat))).setCell ⟨w6.heap.size, 1, none⟩ (.int .u64 (limb (X3) 1 : Nat))).setCell ⟨w6.heap.size, 2, none⟩ (.int .u64 (limb (X3) 2 : Nat))).setCell ⟨w6.heap.size, 3, none⟩ (.int .u64 (limb (X3) 3 : Nat))).setCell ⟨w6.heap.size, 4, none⟩ (.int .u64 (limb (Y3) 0 : Nat))).setCell ⟨w6.heap.size, 5, none⟩ (.int .u64 (limb (Y3) 1 : Nat))).setCell ⟨w6.heap.size, 6, none⟩ (.int .u64 (limb (Y3) 2 : Nat))).setCell ⟨w6.heap.size, 7, none⟩ (.int .u64 (limb (Y3) 3 : Nat))).setCell ⟨w6.heap.size, 8, none⟩ (.int .u64 (limb (Z3) 0 : Nat))).setCell ⟨w6.heap.size, 9, none⟩ (.int .u64 (limb (Z3) 1 : Nat))).setCell ⟨w6.heap.size, 10, none⟩ (.int .u64 (limb (Z3) 2 : Nat))).setCell ⟨w6.heap.size, 11, none⟩ (.int .u64 (limb (Z3) 3 : Nat))) := ⟨_, rfl⟩
          rw [← hwv] at HN9 ⊢
          clear hwv hS HD
          go_wp2_with fail
          go_roundw
          case rel => first | exact ⟨q + 1, X3, Y3, Z3, HO.out.2, by go_num, HO.out.1, HN9.out⟩ | ((repeat apply Exists.intro); exact ⟨⟨q + 1, X3, Y3, Z3, HO.out.2, by go_num, HO.out.1, HN9.out⟩, rfl⟩)
          case measure => have := HO.out.2; simp [Go.RowKit.intOf]; omega
        ·obtain rfl : q = j := by have := HD.out.2; omega
         have hnl3 : ¬ ((q : Int) < (q : Int)) := Int.lt_irrefl _
         obtain ⟨R, hR⟩ : ∃ R, R = aS Ls k2 q := ⟨_, rfl⟩
         rw [← hR] at hOv
         have K1 : Hid (∀ w, Calls Tryd.prog 21 #[.agg #[.int .u64 (limb (X) 0 : Nat), .int .u64 (limb (X) 1 : Nat), .int .u64 (limb (X) 2 : Nat), .int .u64 (limb (X) 3 : Nat), .int .u64 (limb (Y) 0 : Nat), .int .u64 (limb (Y) 1 : Nat), .int .u64 (limb (Y) 2 : Nat), .int .u64 (limb (Y) 3 : Nat), .int .u64 (limb (Z) 0 : Nat), .int .u64 (limb (Z) 1 : Nat), .int .u64 (limb (Z) 2 : Nat), .int .u64 (limb (Z) 3 : Nat)]] w fun e w' => e = .returned (.agg #[.int .u64 (limb (pX R) 0 : Nat), .int .u64 (limb (pX R) 1 : Nat), .int .u64 (limb (pX R) 2 : Nat), .int .u64 (limb (pX R) 3 : Nat), .int .u64 (limb (pY R) 0 : Nat), .int .u64 (limb (pY R) 1 : Nat), .int .u64 (limb (pY R) 2 : Nat), .int .u64 (limb (pY R) 3 : Nat), .bool (pI R)]) ∧ Below w.heap.size w w') := fun w => out3_A X Y Z R hOv w
         have HR : Hid ((List.range (k2 + 1)).map (fun i => aS Ls i q) = ((List.range k2).map fun i => aS Ls i q) ++ [R]) := by
          rw [List.range_succ, List.map_append, hR]
          rfl
         clear hq2 hOv hR KG KH
         go_wp2_with fail
         refine HKr4.out _ _ ?_
         clear HKr4
         obtain ⟨vz, v0, v1, v2, v3, v4, v5, v6, v7, v8, v9, va, vb, vf⟩ := HD.out.1.1.ov
         go_wp2_with fail
         refine (K1.out _).mono ?_
         rintro e w8 ⟨rfl, hb8⟩
         obtain ⟨Lq, hLq⟩ : ∃ Lq, Lq = (List.range k2).map fun i => aS Ls i q := ⟨_, rfl⟩
         have hll : Lq.length = k2 := by rw [hLq, List.length_map, List.length_range]
         rw [← hLq] at HR HC
         have hbz : Below wy.heap.size wy w8 := below_call0 HD.out.1.2.1 hb8
         have H6 : Hid (RowG (w8.alloc (.cells #[.int .u64 (limb (pX R) 0 : Nat), .int .u64 (limb (pX R) 1 : Nat), .int .u64 (limb (pX R) 2 : Nat), .int .u64 (limb (pX R) 3 : Nat), .int .u64 (limb (pY R) 0 : Nat), .int .u64 (limb (pY R) 1 : Nat), .int .u64 (limb (pY R) 2 : Nat), .int .u64 (limb (pY R) 3 : Nat), .bool (pI R)] 45)) w.heap.size b Lq d ∧ Below w.heap.size w (w8.alloc (.cells #[.int .u64 (limb (pX R) 0 : Nat), .int .u64 (limb (pX R) 1 : Nat), .int .u64 (limb (pX R) 2 : Nat), .int .u64 (limb (pX R) 3 : Nat), .int .u64 (limb (pY R) 0 : Nat), .int .u64 (limb (pY R) 1 : Nat), .int .u64 (limb (pY R) 2 : Nat), .int .u64 (limb (pY R) 3 : Nat), .bool (pI R)] 45)) ∧ Bl (w8.alloc (.cells #[.int .u64 (limb (pX R) 0 : Nat), .int .u64 (limb (pX R) 1 : Nat), .int .u64 (limb (pX R) 2 : Nat), .int .u64 (limb (pX R) 3 : Nat), .int .u64 (limb (pY R) 0 : Nat), .int .u64 (limb (pY R) 1 : Nat), .int .u64 (limb (pY R) 2 : Nat), .int .u64 (limb (pY R) 3 : Nat), .bool (pI R)] 45)) w8.heap.size (ptsV R) 45 ∧ mm = Lq.length ∧ Lq.length ≤ 1000000) :=
          ⟨(HC.out.1.call hbz).call (below_alloc0 (Below.refl _ _) _), below_alloc0 (below_call0 HC.out.2.1 hbz) _, Bl.new w8 (ptsV R) _, by rw [hll]; exact HC.out.2.2.1, by rw [hll]; have := HE.out; omega⟩
         clear hb8 hbz hll hLq HD K1 vz v0 v1 v2 v3 v4 v5 v6 v7 v8 v9 va vb vf
         go_wp2_with (at_builtin; refine wpList_append_RowG _ rfl (.tmp 73) (.tmp 76) rfl w.heap.size b mm d Lq R rfl H6.out.2.2.2.1 H6.out.1 H6.out.2.1.size H6.out.2.2.2.2 w8.heap.size 1 rfl H6.out.2.2.1 ?_; intro b7 m7 d7 w7 hm7 hR7 hb7; have H7 : Hid (m7 = mm + 1 ∧ RowG w7 w.heap.size b7 (Lq ++ [R]) d7 ∧ Below w.heap.size w w7) := ⟨hm7, hR7, H6.out.2.1.trans hb7⟩; clear hm7 hR7 hb7 H6)
         go_roundw
         case rel => first | exact ⟨k2 + 1, m7, b7, d7, HE.out, by have := H7.out.1; have := HC.out.2.2.1; omega, rfl, by go_num, by rw [HR.out]; exact H7.out.2.1, H7.out.2.2⟩ | ((repeat apply Exists.intro); exact ⟨⟨k2 + 1, m7, b7, d7, HE.out, by have := H7.out.1; have := HC.out.2.2.1; omega, rfl, by go_num, by rw [HR.out]; exact H7.out.2.1, H7.out.2.2⟩, rfl⟩)
         case measure => have := HE.out; simp [Go.RowKit.intOf]; omega
      ·obtain rfl : k2 = n0 := by have := HC.out.2.2.2; omega
       have hnl4 : ¬ ((k2 : Int) < (k2 : Int)) := Int.lt_irrefl _
       clear hlt
       go_wp2_with fail
       refine HKr3.out _ _ ?_
       clear HKr3
       go_wp2_with fail
       obtain rfl : mm = k2 := HC.out.2.2.1
       refine bodyPost_ret (v := .tuple #[.slice b mm d, .int .i64 0]) (by simp [results, Tryd.results7]) rfl ⟨.inr (.inr ⟨HA.out, Ls, HB.out.2, b, d, rfl, HC.out.1.pts⟩), HC.out.2.1⟩
end Go.Proofs.YtfkpbcionlidaaaDoor

namespace Go.Proofs.YtfkpbcionlidaaaDoor
open Go Go.RowKit Go.Lib
set_option maxRecDepth 100000 in
set_option maxHeartbeats 4000000 in
theorem points_same (a b : Option Addr) (l : List Pts) (n ca cb : Nat) (hn : n = l.length) (h10 : n ≤ 10) (w : World) (hA : PtsAt w a l) (hB : PtsAt w b l) :
  Calls Tryd.prog 8 #[.slice a n ca, .slice b n cb] w fun e w' => e = .returned (.bool true) ∧ Below w.heap.size w w' := by
 have HL : Hid (n = l.length ∧ n ≤ 10) := ⟨hn, h10⟩
 have n64 : (n : Int) ≤ 64 := by omega
 have HS : Hid (PtsAt w a l ∧ PtsAt w b l) := ⟨hA, hB⟩
 clear hn h10 hA hB
 go_enter Tryd.func8, Tryd.ntmps8
 go_wp2_with fail
 rename_i Kr hKr
 have HKr : Hid _ := hKr
 clear hKr
 go_loopw [8] (fun iv wr => ∃ k : Nat, k ≤ n ∧ iv = .int .i64 (k : Nat) ∧ Below w.heap.size w wr) (fun iv _ => n - (Go.RowKit.intOf iv).toNat)
 case atStart => exact ⟨0, Nat.zero_le _, rfl, Below.refl _ _⟩
 case round =>
  obtain ⟨k, hk, rfl, hB⟩ := hrel
  rename World => wr
  have HB : Hid (Below w.heap.size w wr ∧ k ≤ n) := ⟨hB, hk⟩
  clear hB hk
  by_cases hlt : k < n
  ·clear HKr
   have hkl : k < l.length := by rw [← HL.out.1]; exact hlt
   have hlt' : (k : Int) < (n : Int) := Int.ofNat_lt.2 hlt
   have d1 : decide ((n : Int) ≤ (k : Int)) = false := decide_eq_false (by omega)
   have d1' : decide (n ≤ k) = false := decide_eq_false (by omega)
   obtain ⟨p, o, rfl, p1⟩ := HS.out.1.get hkl
   obtain ⟨p', o', rfl, p2⟩ := HS.out.2.get hkl
   obtain ⟨R, hR⟩ : ∃ R, R = l[k]'hkl := ⟨_, rfl⟩
   rw [← hR] at p1 p2
   have HP : Hid (PointB wr p (o + k * 9) (pX R) (pY R) (pI R) ∧ PointB wr p' (o' + k * 9) (pX R) (pY R) (pI R)) := ⟨p1.call HB.out.1, p2.call HB.out.1⟩
   have HQ : Hid (∀ w : World, (Op.equalIn 10000 45 (.agg #[.int .u64 (limb (pX R) 0 : Nat), .int .u64 (limb (pX R) 1 : Nat), .int .u64 (limb (pX R) 2 : Nat), .int .u64 (limb (pX R) 3 : Nat), .int .u64 (limb (pY R) 0 : Nat), .int .u64 (limb (pY R) 1 : Nat), .int .u64 (limb (pY R) 2 : Nat), .int .u64 (limb (pY R) 3 : Nat), .bool (pI R)]) (.agg #[.int .u64 (limb (pX R) 0 : Nat), .int .u64 (limb (pX R) 1 : Nat), .int .u64 (limb (pX R) 2 : Nat), .int .u64 (limb (pX R) 3 : Nat), .int .u64 (limb (pY R) 0 : Nat), .int .u64 (limb (pY R) 1 : Nat), .int .u64 (limb (pY R) 2 : Nat), .int .u64 (limb (pY R) 3 : Nat), .bool (pI R)])).run Tryd.prog w = .ok true w) := fun w => eqPts R R true (by simp) w
   have HI : Hid (k < n) := hlt
   clear p1 p2 hR hkl hlt
   go_upto_region 4 with fail
   have hq := HQ.out
   refine wp_region_H (fun w' => Below wr.heap.size wr w') 15 rfl (by kernel_rfl) ?_
   refine wpAnyH_take (i := 0) (oi := ?o0c) (v := ?v0c) ?hi0c (by kernel_rfl) (by kernel_rfl) (by kernel_rfl) ?hQ0c ?hy0c (Below.drew (Below.refl _ _)) ?more0c
   case hi0c => rw [List.getElem?_toArray]; exact rfl
   case hQ0c => exact fun _ _ _ h => h
   case hy0c =>
    refine Or.inl ⟨by rfl, ?_⟩
    intro w' hSw
    clear hSw
    go_simp
    try with_reducible rfl
   simp only [Act.put, List.setIfInBounds_toArray, List.set_cons_zero, List.set_cons_succ]
   refine wpAnyH_take (i := 1) (oi := ?o1c) (v := ?v1c) ?hi1c (by kernel_rfl) (by kernel_rfl) (by kernel_rfl) ?hQ1c ?hy1c (Below.drew (Below.refl _ _)) ?more1c
   case hi1c => rw [List.getElem?_toArray]; exact rfl
   case hQ1c => exact fun _ _ _ h => h
   case hy1c =>
    refine Or.inl ⟨by rfl, ?_⟩
    intro w' hSw
    clear hSw
    go_simp
    try with_reducible rfl
   simp only [Act.put, List.setIfInBounds_toArray, List.set_cons_zero, List.set_cons_succ]
   refine wpAnyH_take (i := 2) (oi := ?o2c) (v := ?v2c) ?hi2c (by kernel_rfl) (by kernel_rfl) (by kernel_rfl) ?hQ2c ?hy2c (Below.drew (Below.refl _ _)) ?more2c
   case hi2c => rw [List.getElem?_toArray]; exact rfl
   case hQ2c => exact fun _ _ _ h => h
   case hy2c =>
    refine Or.inl ⟨by rfl, ?_⟩
    intro w' hSw
    clear hSw
    go_simp
    try with_reducible rfl
   simp only [Act.put, List.setIfInBounds_toArray, List.set_cons_zero, List.set_cons_succ]
   refine wpAnyH_take (i := 3) (oi := ?o3c) (v := ?v3c) ?hi3c (by kernel_rfl) (by kernel_rfl) (by kernel_rfl) ?hQ3c ?hy3c (Below.drew (Below.refl _ _)) ?more3c
   case hi3c => rw [List.getElem?_toArray]; exact rfl
   case hQ3c => exact fun _ _ _ h => h
   case hy3c =>
    refine Or.inl ⟨by rfl, ?_⟩
    intro w' hSw
    clear hSw
    go_simp
    try with_reducible rfl
   simp only [Act.put, List.setIfInBounds_toArray, List.set_cons_zero, List.set_cons_succ]
   refine wpAnyH_take (i := 4) (oi := ?o4c) (v := ?v4c) ?hi4c (by kernel_rfl) (by kernel_rfl) (by kernel_rfl) ?hQ4c ?hy4c (Below.drew (Below.refl _ _)) ?more4c
   case hi4c => rw [List.getElem?_toArray]; exact rfl
   case hQ4c => exact fun _ _ _ h => h
   case hy4c =>
    refine Or.inl ⟨by rfl, ?_⟩
    intro w' hSw
    clear hSw
    go_simp
    try with_reducible rfl
   simp only [Act.put, List.setIfInBounds_toArray, List.set_cons_zero, List.set_cons_succ]
   refine wpAnyH_take (i := 5) (oi := ?o5c) (v := ?v5c) ?hi5c (by kernel_rfl) (by kernel_rfl) (by kernel_rfl) ?hQ5c ?hy5c (Below.drew (Below.refl _ _)) ?more5c
   case hi5c => rw [List.getElem?_toArray]; exact rfl
   case hQ5c => exact fun _ _ _ h => h
   case hy5c =>
    refine Or.inl ⟨by rfl, ?_⟩
    intro w' hSw
    clear hSw
    go_simp
    try with_reducible rfl
   simp only [Act.put, List.setIfInBounds_toArray, List.set_cons_zero, List.set_cons_succ]
   refine wpAnyH_take (i := 6) (oi := ?o6c) (v := ?v6c) ?hi6c (by kernel_rfl) (by kernel_rfl) (by kernel_rfl) ?hQ6c ?hy6c (Below.drew (Below.refl _ _)) ?more6c
   case hi6c => rw [List.getElem?_toArray]; exact rfl
   case hQ6c => exact fun _ _ _ h => h
   case hy6c =>
    refine Or.inl ⟨by rfl, ?_⟩
    intro w' hSw
    clear hSw
    go_simp
    try with_reducible rfl
   simp only [Act.put, List.setIfInBounds_toArray, List.set_cons_zero, List.set_cons_succ]
   refine wpAnyH_take (i := 7) (oi := ?o7c) (v := ?v7c) ?hi7c (by kernel_rfl) (by kernel_rfl) (by kernel_rfl) ?hQ7c ?hy7c (Below.drew (Below.refl _ _)) ?more7c
   case hi7c => rw [List.getElem?_toArray]; exact rfl
   case hQ7c => exact fun _ _ _ h => h
   case hy7c =>
    refine Or.inl ⟨by rfl, ?_⟩
    intro w' hSw
    clear hSw
    go_simp
    try with_reducible rfl
   simp only [Act.put, List.setIfInBounds_toArray, List.set_cons_zero, List.set_cons_succ]
   refine wpAnyH_take (i := 8) (oi := ?o8c) (v := ?v8c) ?hi8c (by kernel_rfl) (by kernel_rfl) (by kernel_rfl) ?hQ8c ?hy8c (Below.drew (Below.refl _ _)) ?more8c
   case hi8c => rw [List.getElem?_toArray]; exact rfl
   case hQ8c => exact fun _ _ _ h => h
   case hy8c =>
    refine Or.inl ⟨by rfl, ?_⟩
    intro w' hSw
    have k1 := HP.out.1.call hSw
    have k2 := HP.out.2.call hSw
    have f0 := k1.x0
    have f1 := k1.x1
    have f2 := k1.x2
    have f3 := k1.x3
    have f4 := k1.y0
    have f5 := k1.y1
    have f6 := k1.y2
    have f7 := k1.y3
    have f8 := k1.i8
    have g0 := k2.x0
    have g1 := k2.x1
    have g2 := k2.x2
    have g3 := k2.x3
    have g4 := k2.y0
    have g5 := k2.y1
    have g6 := k2.y2
    have g7 := k2.y3
    have g8 := k2.i8
    have l1 := k1.lt
    have l2 := k2.lt
    clear k1 k2 hSw
    go_simp
    try with_reducible rfl
   simp only [Act.put, List.setIfInBounds_toArray, List.set_cons_zero, List.set_cons_succ]
   refine wpAnyH_take (i := 9) (oi := ?o9c) (v := ?v9c) ?hi9c (by kernel_rfl) (by kernel_rfl) (by kernel_rfl) ?hQ9c ?hy9c (Below.drew (Below.refl _ _)) ?more9c
   case hi9c => rw [List.getElem?_toArray]; exact rfl
   case hQ9c => exact fun _ _ _ h => h
   case hy9c =>
    refine Or.inl ⟨by rfl, ?_⟩
    intro w' hSw
    clear hSw
    go_simp
    try with_reducible rfl
   simp only [Act.put, List.setIfInBounds_toArray, List.set_cons_zero, List.set_cons_succ]
   refine wpAnyH_take (i := 10) (oi := ?o10c) (v := ?v10c) ?hi10c (by kernel_rfl) (by kernel_rfl) (by kernel_rfl) ?hQ10c ?hy10c (Below.drew (Below.refl _ _)) ?more10c
   case hi10c => rw [List.getElem?_toArray]; exact rfl
   case hQ10c => exact fun _ _ _ h => h
   case hy10c =>
    refine Or.inl ⟨by rfl, ?_⟩
    intro w' hSw
    clear hSw
    go_simp
    try with_reducible rfl
   simp only [Act.put, List.setIfInBounds_toArray, List.set_cons_zero, List.set_cons_succ]
   refine wpAnyH_take (i := 11) (oi := ?o11c) (v := ?v11c) ?hi11c (by kernel_rfl) (by kernel_rfl) (by kernel_rfl) ?hQ11c ?hy11c (Below.drew (Below.refl _ _)) ?more11c
   case hi11c => rw [List.getElem?_toArray]; exact rfl
   case hQ11c => exact fun _ _ _ h => h
   case hy11c =>
    refine Or.inl ⟨by rfl, ?_⟩
    intro w' hSw
    clear hSw
    go_simp
    try with_reducible rfl
   simp only [Act.put, List.setIfInBounds_toArray, List.set_cons_zero, List.set_cons_succ]
   refine wpAnyH_take (i := 12) (oi := ?o12c) (v := ?v12c) ?hi12c (by kernel_rfl) (by kernel_rfl) (by kernel_rfl) ?hQ12c ?hy12c (Below.drew (Below.refl _ _)) ?more12c
   case hi12c => rw [List.getElem?_toArray]; exact rfl
   case hQ12c => exact fun _ _ _ h => h
   case hy12c =>
    refine Or.inl ⟨by rfl, ?_⟩
    intro w' hSw
    have k1 := HP.out.1.call hSw
    have k2 := HP.out.2.call hSw
    have f0 := k1.x0
    have f1 := k1.x1
    have f2 := k1.x2
    have f3 := k1.x3
    have f4 := k1.y0
    have f5 := k1.y1
    have f6 := k1.y2
    have f7 := k1.y3
    have f8 := k1.i8
    have g0 := k2.x0
    have g1 := k2.x1
    have g2 := k2.x2
    have g3 := k2.x3
    have g4 := k2.y0
    have g5 := k2.y1
    have g6 := k2.y2
    have g7 := k2.y3
    have g8 := k2.i8
    have l1 := k1.lt
    have l2 := k2.lt
    clear k1 k2 hSw
    go_simp
    try with_reducible rfl
   simp only [Act.put, List.setIfInBounds_toArray, List.set_cons_zero, List.set_cons_succ]
   refine wpAnyH_take (i := 13) (oi := ?o13c) (v := ?v13c) ?hi13c (by kernel_rfl) (by kernel_rfl) (by kernel_rfl) ?hQ13c ?hy13c (Below.drew (Below.refl _ _)) ?more13c
   case hi13c => rw [List.getElem?_toArray]; exact rfl
   case hQ13c => exact fun _ _ _ h => h
   case hy13c =>
    refine Or.inl ⟨by rfl, ?_⟩
    intro w' hSw
    clear hSw
    go_simp
    try with_reducible rfl
   simp only [Act.put, List.setIfInBounds_toArray, List.set_cons_zero, List.set_cons_succ]
   refine wpAnyH_take (i := 14) (oi := ?o14c) (v := ?v14c) ?hi14c (by kernel_rfl) (by kernel_rfl) (by kernel_rfl) ?hQ14c ?hy14c (Below.drew (Below.refl _ _)) ?more14c
   case hi14c => rw [List.getElem?_toArray]; exact rfl
   case hQ14c => exact fun _ _ _ h => h
   case hy14c =>
    refine Or.inl ⟨by rfl, ?_⟩
    intro w' hSw
    clear hSw
    go_simp
    try with_reducible rfl
   simp only [Act.put, List.setIfInBounds_toArray, List.set_cons_zero, List.set_cons_succ]
   refine wpAnyH_done (by kernel_rfl) ?_ _
   go_wp2_with fail
   go_roundw
   case rel => first | exact ⟨k + 1, HI.out, by go_num, below_call0 HB.out.1 (Below.drew (Below.refl _ _))⟩ | ((repeat apply Exists.intro); exact ⟨⟨k + 1, HI.out, by go_num, below_call0 HB.out.1 (Below.drew (Below.refl _ _))⟩, rfl⟩)
   case measure => have := HI.out; simp [Go.RowKit.intOf]; omega
  ·obtain rfl : k = n := by have := HB.out.2; omega
   have hnl : ¬ ((k : Int) < (k : Int)) := Int.lt_irrefl _
   have hkk : ((k : Int) == (k : Int)) = true := by simp
   clear hlt
   go_wp2_with fail
   refine HKr.out _ _ ?_
   clear HKr
   go_wp2_with fail
   go_ret
   exact ⟨by first | rfl | simp, HB.out.1⟩
end Go.Proofs.YtfkpbcionlidaaaDoor

namespace Go.Proofs.YtfkpbcionlidaaaDoor
open Go Go.RowKit Go.Lib
theorem ptT_inj {a b : Pts} (h : ptT a = ptT b) : a = b := by
 unfold ptT at h
 rw [Prod.mk.injEq, Prod.mk.injEq] at h
 exact pts_inj h.1 h.2.1 h.2.2
theorem map_inj {α β : Type} {f : α → β} (hf : ∀ a b, f a = f b → a = b) : ∀ (l m : List α), l.map f = m.map f → l = m
 | [], [], _ => rfl
 | [], _ :: _, h => by simp at h
 | _ :: _, [], h => by simp at h
 | a :: l, b :: m, h => by
  rw [List.map_cons, List.map_cons, List.cons.injEq] at h
  rw [hf a b h.1, map_inj hf l m h.2]
theorem maps_inj (A B : List (List Pts)) (h : A.map (List.map ptT) = B.map (List.map ptT)) : A = B := map_inj (fun a b h => map_inj (fun _ _ h => ptT_inj h) a b h) A B h
theorem colT_map (Ls : List (List Pts)) (i : Nat) : colT (Ls.map (List.map ptT)) i = (Ls.map fun s => s.getD i gr.z).map ptT := by
 unfold colT
 rw [List.map_map, List.map_map]
 refine List.map_congr_left fun s _ => ?_
 show (s.map ptT).getD i zT = ptT (s.getD i gr.z)
 rw [List.getD_eq_getElem?_getD, List.getD_eq_getElem?_getD, List.getElem?_map]
 cases s[i]? with
 | none => rfl
 | some p => rfl
theorem aS_tot (Ls : List (List Pts)) (i : Nat) : ∀ k, k ≤ Ls.length → aS Ls i k = gr.tot gr.mul (((Ls.take k).map fun s => s.getD i gr.z).map fun p => (1, p))
 | 0, _ => rfl
 | k + 1, h => by
  show gr.add (aS Ls i k) ((Ls[k]?.getD []).getD i gr.z) = _
  have e : Ls[k]?.getD [] = Ls[k]'(by omega) := by rw [List.getElem?_eq_getElem (by omega)]; rfl
  rw [aS_tot Ls i k (by omega), List.take_succ_eq_append_getElem (by omega : k < Ls.length), List.map_append, List.map_append, e]
  show _ = gr.tot gr.mul (_ ++ [(1, (Ls[k]'(by omega)).getD i gr.z)])
  rw [gr.tot_snoc]
  show _ = gr.add _ (gr.mul 1 _)
  rw [gr.one]
theorem tot_one (cs : List Pts) : gr.tot gr.mul ((gr.z :: cs).map fun p => (1, p)) = gr.tot gr.mul (cs.map fun p => (1, p)) := by
 show gr.add (gr.mul 1 gr.z) (gr.tot gr.mul (cs.map fun p => (1, p))) = _
 rw [gr.one, gr.zero']
/-- curve.Sum of a column of points. -/
theorem csum_ok (col : List T3) (cs : List Pts) (m : Nat) (hc : col = cs.map ptT) (hm : m = col.length) (h63 : m ≤ 63) (g d : Nat) (b : Option Addr) (w : World) (hG : GA w) (hN : NumsAt w (some ⟨g, 0, none⟩) (List.replicate (m + 1) 1)) (hP : PntsAt w b (zT :: col)) :
  Calls Tryd.prog 37 #[.slice (some ⟨g, 0, none⟩) (m + 1) 64, .slice b (m + 1) d] w fun e w' => e = .returned (.tuple #[.agg #[.int .u64 (limb (pX (gr.tot gr.mul (cs.map fun p => (1, p)))) 0 : Nat), .int .u64 (limb (pX (gr.tot gr.mul (cs.map fun p => (1, p)))) 1 : Nat), .int .u64 (limb (pX (gr.tot gr.mul (cs.map fun p => (1, p)))) 2 : Nat), .int .u64 (limb (pX (gr.tot gr.mul (cs.map fun p => (1, p)))) 3 : Nat), .int .u64 (limb (pY (gr.tot gr.mul (cs.map fun p => (1, p)))) 0 : Nat), .int .u64 (limb (pY (gr.tot gr.mul (cs.map fun p => (1, p)))) 1 : Nat), .int .u64 (limb (pY (gr.tot gr.mul (cs.map fun p => (1, p)))) 2 : Nat), .int .u64 (limb (pY (gr.tot gr.mul (cs.map fun p => (1, p)))) 3 : Nat), .bool (pI (gr.tot gr.mul (cs.map fun p => (1, p))))], .int .i64 0]) ∧ Below w.heap.size w w' := by
 have hl : m = cs.length := by rw [hm, hc, List.length_map]
 have k := Sum_ok (m + 1) (some ⟨g, 0, none⟩) b 64 d ((gr.z :: cs).map fun p => (1, p)) (by rw [List.length_map, List.length_cons, ← hl]) (by omega) (fun z hz => by
  rw [List.mem_map] at hz
  obtain ⟨y, _, rfl⟩ := hz
  exact of_decide_eq_true (by kernel_rfl)) w hG.1 hG.2.1 hG.2.2.1 (by
   have e : ((gr.z :: cs).map fun p => ((1 : Nat), p)).map Prod.fst = List.replicate (m + 1) 1 := by
    rw [List.map_map, List.eq_replicate_iff]
    refine ⟨by rw [List.length_map, List.length_cons, ← hl], fun y hy => ?_⟩
    rw [List.mem_map] at hy
    obtain ⟨_, _, rfl⟩ := hy
    rfl
   rw [e]
   exact hN) (by
   have e : ((gr.z :: cs).map fun p => ((1 : Nat), p)).map Prod.snd = gr.z :: cs := by
    rw [List.map_map]
    exact List.map_id _
   rw [e]
   show PntsAt w b (ptT gr.z :: cs.map ptT)
   rw [← hc]
   exact hP)
 rw [tot_one] at k
 exact k
theorem csum_err (col : List T3) (m : Nat) (hb : allP col = false) (hZ : ∀ z ∈ col, z.1 < R256 ∧ z.2.1 < R256) (hm : m = col.length) (h63 : m ≤ 63) (g d : Nat) (b : Option Addr) (w : World) (hG : GA w) (hN : NumsAt w (some ⟨g, 0, none⟩) (List.replicate (m + 1) 1)) (hP : PntsAt w b (zT :: col)) :
  Calls Tryd.prog 37 #[.slice (some ⟨g, 0, none⟩) (m + 1) 64, .slice b (m + 1) d] w fun e w' => e = .returned (.tuple #[.agg #[.int .u64 0, .int .u64 0, .int .u64 0, .int .u64 0, .int .u64 0, .int .u64 0, .int .u64 0, .int .u64 0, .bool false], .int .i64 30]) ∧ Below w.heap.size w w' := by
 have hl : (List.replicate (m + 1) 1).length = (zT :: col).length := by rw [List.length_replicate, List.length_cons, ← hm]
 have hq : ∀ k ∈ List.replicate (m + 1) 1, k < QQ := fun k hk => by
  rw [List.eq_of_mem_replicate hk]
  exact of_decide_eq_true (by kernel_rfl)
 have hp : allP (zT :: col) = false := by
  unfold allP at hb ⊢
  rw [List.all_cons, hb, Bool.and_false]
 exact Sum_err (m + 1) (some ⟨g, 0, none⟩) b 64 d (List.zip (List.replicate (m + 1) 1) (zT :: col)) 30 (by rw [List.length_zip, hl, Nat.min_self, List.length_cons, ← hm]) (by omega) (fun z hz => by
  have h1 := (List.of_mem_zip hz).1
  have h2 := (List.of_mem_zip hz).2
  refine ⟨Nat.lt_trans (hq _ h1) FM_Q.2.1, ?_⟩
  rw [List.mem_cons] at h2
  rcases h2 with h2 | h2
  ·rw [h2]
   exact ⟨of_decide_eq_true (by kernel_rfl), of_decide_eq_true (by kernel_rfl)⟩
  ·exact hZ _ h2) (smF_30 _ _ hq hl hp) (by decide) w hG.1 hG.2.1 (by rw [List.map_fst_zip (by omega)]; exact hN) (by rw [List.map_snd_zip (by omega)]; exact hP)
theorem first_bad (p : Nat → Bool) : ∀ n : Nat, ∃ j, j ≤ n ∧ (∀ i, i < j → p i = true) ∧ (j < n → p j = false)
 | 0 => ⟨0, Nat.le_refl _, fun i h => absurd h (Nat.not_lt_zero _), fun h => absurd h (Nat.lt_irrefl _)⟩
 | n + 1 => by
  obtain ⟨j, h1, h2, h3⟩ := first_bad p n
  by_cases c : j < n
  ·exact ⟨j, by omega, h2, fun _ => h3 c⟩
  ·obtain rfl : j = n := by omega
   cases e : p j with
   | false => exact ⟨j, by omega, h2, fun _ => e⟩
   | true =>
    refine ⟨j + 1, Nat.le_refl _, fun i hi => ?_, fun h => absurd h (Nat.lt_irrefl _)⟩
    by_cases d : i < j
    ·exact h2 i d
    ·obtain rfl : i = j := by omega
     exact e
theorem okL_cols {L : List (List T3)} {n0 : Nat} (hn : ∀ s ∈ L, s.length = n0) (h : ∀ i, i < n0 → allP (colT L i) = true) : okL L = true := by
 refine List.all_eq_true.2 fun row hr => List.all_eq_true.2 fun z hz => ?_
 obtain ⟨i, hi, rfl⟩ := List.getElem_of_mem hz
 have hi2 : i < n0 := by rw [← hn row hr]; exact hi
 have k := List.all_eq_true.1 (h i hi2) (row.getD i zT) (List.mem_map.2 ⟨row, hr, rfl⟩)
 have e : row.getD i zT = row[i] := by
  rw [List.getD_eq_getElem?_getD, List.getElem?_eq_getElem hi]
  rfl
 rw [e] at k
 exact k
set_option maxRecDepth 100000 in
set_option maxHeartbeats 4000000 in
theorem sums_in (L : List (List T3)) (m n : Nat) (a : Option Addr) (c : Nat) (S : List Pts) (E : Int) (hm : m ≤ 20) (hn : n = S.length) (h10 : n ≤ 10)
  (hS : ∀ w, GA w → RowsT w a L → Calls Tryd.prog 6 #[.slice a m c] w fun e w' => (∃ b d, e = .returned (.tuple #[.slice b n d, .int .i64 E]) ∧ PtsAt w' b S) ∧ Below w.heap.size w w')
  (h7 : ∀ w, RowsT w a L → Calls Tryd.prog 7 #[.slice a m c] w fun e w' => (∃ b d, e = .returned (.tuple #[.slice b n d, .int .i64 E]) ∧ PtsAt w' b S) ∧ Below w.heap.size w w')
  (w : World) (hG : GA w) (hP : RowsT w a L) :
  Calls Tryd.prog 3 #[.slice a m c] w fun e w' => e = .returned (.bool true) ∧ Below w.heap.size w w' := by
 have KS : Hid _ := hS
 have K7 : Hid _ := h7
 have KL : Hid _ := line_ok
 have KP : Hid (∀ (b1 b2 : Option Addr) (d1 d2 : Nat) (w : World), PtsAt w b1 S → PtsAt w b2 S → Calls Tryd.prog 8 #[.slice b1 n d1, .slice b2 n d2] w fun e w' => e = .returned (.bool true) ∧ Below w.heap.size w w') := fun b1 b2 d1 d2 w a1 a2 => points_same b1 b2 S n d1 d2 hn h10 w a1 a2
 have H0 : Hid (GA w ∧ RowsT w a L) := ⟨hG, hP⟩
 have he : (E == E) = true := by simp
 have hm1 : decide ((20 : Int) < (m : Int)) = false := decide_eq_false (by omega)
 clear hS h7 hn h10 hG hP hm
 go_enter Tryd.func3, Tryd.ntmps3
 go_wp2_with fail
 refine (KS.out _ H0.out.1 H0.out.2).mono ?_
 rintro e w1 ⟨⟨b1, d1, rfl, hp1⟩, hb1⟩
 have H1 : Hid (Below w.heap.size w w1 ∧ PtsAt w1 b1 S ∧ GA w1 ∧ RowsT w1 a L) := ⟨hb1, hp1, H0.out.1.call hb1, H0.out.2.call hb1⟩
 clear hp1 hb1 KS H0
 go_wp2_with fail
 refine (K7.out _ H1.out.2.2.2).mono ?_
 rintro e w2 ⟨⟨b2, d2, rfl, hp2⟩, hb2⟩
 have H2 : Hid (Below w.heap.size w w2 ∧ PtsAt w2 b1 S ∧ PtsAt w2 b2 S ∧ GA w2) := ⟨below_call0 H1.out.1 hb2, H1.out.2.1.call hb2, hp2, H1.out.2.2.1.call hb2⟩
 clear hp2 hb2 H1 K7
 go_wp2_with fail
 refine (KP.out _ _ _ _ _ H2.out.2.1 H2.out.2.2.1).mono ?_
 rintro e w3 ⟨rfl, hb3⟩
 have H3 : Hid (Below w.heap.size w w3 ∧ GA w3) := ⟨below_call0 H2.out.1 hb3, H2.out.2.2.2.call hb3⟩
 clear hb3 KP H2
 go_wp2_with fail
 refine (KL.out _ H3.out.2).mono ?_
 rintro e w4 ⟨rfl, hb4⟩
 have H4 : Hid (Below w.heap.size w w4) := below_call0 H3.out.1 hb4
 clear hb4 KL H3
 go_wp2_with fail
 go_ret
 exact ⟨rfl, H4.out⟩
set_option maxRecDepth 100000 in
set_option maxHeartbeats 4000000 in
theorem sums_long (m : Nat) (a : Option Addr) (c : Nat) (hm : 20 < m) (w : World) (hG : GA w) :
  Calls Tryd.prog 3 #[.slice a m c] w fun e w' => e = .returned (.bool true) ∧ Below w.heap.size w w' := by
 have KL : Hid _ := line_ok
 have H0 : Hid (GA w) := hG
 have hm1 : decide ((20 : Int) < (m : Int)) = true := decide_eq_true (by omega)
 clear hG hm
 go_enter Tryd.func3, Tryd.ntmps3
 go_wp2_with fail
 refine (KL.out _ H0.out).mono ?_
 rintro e w4 ⟨rfl, hb4⟩
 have H4 : Hid (Below w.heap.size w w4) := hb4
 clear hb4 KL
 go_wp2_with fail
 go_ret
 exact ⟨rfl, H4.out⟩
theorem feldSums_any (L : List (List T3)) (m : Nat) (a : Option Addr) (c : Nat) (hm : m = L.length) (hc : m ≤ c) (hZ : ∀ row ∈ L, ∀ z ∈ row, z.1 < R256 ∧ z.2.1 < R256) (w : World) (hG : GA w) (hP : RowsT w a L) :
  Calls Tryd.prog 3 #[.slice a m c] w fun e w' => e = .returned (.bool true) ∧ Below w.heap.size w w' := by
 have nil : ∀ (w : World) (b : Option Addr), PtsAt w b [] := fun w b j n hj => by simp at hj
 by_cases hl : m ≤ 20
 ·cases hA : alkB L with
  | false =>
   refine sums_in L m 0 a c [] 1 hl rfl (by decide) (fun w _ h2 => ?_) (fun w h2 => ?_) w hG hP
   ·refine (fsumT_no L m a c hm hl hA w h2).mono ?_
    rintro e w' ⟨he, hb⟩
    exact ⟨⟨none, 0, he, nil _ _⟩, hb⟩
   ·refine (rsum_any L m _ a c hm hl rfl hZ w h2).mono ?_
    rintro e w' ⟨h, hb⟩
    rcases h with ⟨_, he⟩ | ⟨h, _⟩ | ⟨h, _⟩
    ·exact ⟨⟨none, 0, he, nil _ _⟩, hb⟩
    ·rw [hA] at h; cases h
    ·rw [hA] at h; cases h
  | true =>
   have hk := alk_ok hA
   have hn : ∀ s ∈ L, s.length = lnT L := fun s hs => (hk.1 s hs).2
   have h10 : 1 ≤ lnT L ∧ lnT L ≤ 10 := by
    have h := hk.1 _ (List.getElem_mem hk.2)
    rw [← h.2]
    exact h.1
   have h1m : 1 ≤ m := by omega
   obtain ⟨p, o, ra0, rc0, rfl, -, -, -⟩ := hP.get hk.2
   have hcl : ∀ i, m = (colT L i).length := fun i => by unfold colT; rw [List.length_map]; exact hm
   have hiL : ∀ i, i < lnT L → ∀ s ∈ L, i < s.length := fun i hi s hs => by rw [hn s hs]; exact hi
   cases hO : okL L with
   | true =>
    obtain ⟨Ls, hLs⟩ := okL_ok hO
    refine sums_in L m (lnT L) (some ⟨p, o, none⟩) c ((List.range (lnT L)).map fun i => aS Ls i m) 0 hl (by rw [List.length_map, List.length_range]) h10.2 (fun w h1 h2 => ?_) (fun w h2 => ?_) w hG hP
    ·refine (fsumT_in L (fun i => ptT (aS Ls i m)) m (lnT L) (lnT L) p o c hm h1m hl hA hn h10 (Nat.le_refl _) (fun j hj w a1 a2 => ?_) (fun h => absurd h (Nat.lt_irrefl _)) w h1 h2).mono ?_
     ·refine sumAtT_ok L m (some ⟨p, o, none⟩) c j _ _ _ hm h1m (by omega) hc (hiL j hj) (fun g d b w b1 b2 b3 => ?_) w a1 a2
      have hcol : colT L j = (Ls.map fun s => s.getD j gr.z).map ptT := by rw [hLs]; exact colT_map Ls j
      have k := csum_ok (colT L j) _ m hcol (hcl j) (by omega) g d b w b1 b2 b3
      have e : aS Ls j m = gr.tot gr.mul ((Ls.map fun s => s.getD j gr.z).map fun p => (1, p)) := by
       have hml : m = Ls.length := by rw [hm, hLs, List.length_map]
       rw [aS_tot Ls j m (by omega), List.take_of_length_le (by omega)]
      rw [← e] at k
      exact k
     ·rintro e w' ⟨h, hb⟩
      rcases h with ⟨_, q, he, hp⟩ | ⟨h, _⟩
      ·refine ⟨⟨_, _, he, ?_⟩, hb⟩
       show PntsAt w' _ (((List.range (lnT L)).map fun i => aS Ls i m).map ptT)
       rw [List.map_map]
       exact hp
      ·exact absurd h (Nat.lt_irrefl _)
    ·refine (rsum_any L m _ (some ⟨p, o, none⟩) c hm hl rfl hZ w h2).mono ?_
     rintro e w' ⟨h, hb⟩
     rcases h with ⟨h, _⟩ | ⟨_, h, _⟩ | ⟨_, Ls', hL', b, d, he, hp⟩
     ·rw [hA] at h; cases h
     ·rw [hO] at h; cases h
     ·obtain rfl : Ls' = Ls := maps_inj _ _ (by rw [← hL', ← hLs])
      exact ⟨⟨b, d, he, hp⟩, hb⟩
   | false =>
    obtain ⟨j0, hj0, hg, hbd⟩ := first_bad (fun i => allP (colT L i)) (lnT L)
    have hjl : j0 < lnT L := by
     rcases Nat.lt_or_ge j0 (lnT L) with h | h
     ·exact h
     ·have : okL L = true := okL_cols hn (fun i hi => hg i (by omega))
      rw [hO] at this
      cases this
    have hcz : ∀ i, i < lnT L → ∀ z ∈ colT L i, z.1 < R256 ∧ z.2.1 < R256 := fun i hi z hz => by
     unfold colT at hz
     rw [List.mem_map] at hz
     obtain ⟨s, hs, rfl⟩ := hz
     have hsi := hiL i hi s hs
     rw [List.getD_eq_getElem?_getD, List.getElem?_eq_getElem hsi]
     exact hZ s hs _ (List.getElem_mem hsi)
    have hex : ∀ j : Nat, ∃ y : T3, j < j0 → ∀ w, GA w → RowsT w (some ⟨p, o, none⟩) L → Calls Tryd.prog 17 #[.slice (some ⟨p, o, none⟩) m c, .int .i64 (j : Nat)] w fun e w' => e = .returned (.tuple #[.agg #[.int .u64 (limb y.1 0 : Nat), .int .u64 (limb y.1 1 : Nat), .int .u64 (limb y.1 2 : Nat), .int .u64 (limb y.1 3 : Nat), .int .u64 (limb y.2.1 0 : Nat), .int .u64 (limb y.2.1 1 : Nat), .int .u64 (limb y.2.1 2 : Nat), .int .u64 (limb y.2.1 3 : Nat), .bool y.2.2], .int .i64 0]) ∧ Below w.heap.size w w' := fun j => by
     by_cases h : j < j0
     ·obtain ⟨cs, hcs⟩ := allP_ok (hg j h)
      exact ⟨ptT (gr.tot gr.mul (cs.map fun p => (1, p))), fun _ w a1 a2 => sumAtT_ok L m (some ⟨p, o, none⟩) c j _ _ _ hm h1m (by omega) hc (hiL j (by omega)) (fun g d b w b1 b2 b3 => csum_ok (colT L j) cs m hcs (hcl j) (by omega) g d b w b1 b2 b3) w a1 a2⟩
     ·exact ⟨zT, fun h' => absurd h' h⟩
    obtain ⟨f, hf⟩ : ∃ f : Nat → T3, ∀ j, j < j0 → ∀ w, GA w → RowsT w (some ⟨p, o, none⟩) L → Calls Tryd.prog 17 #[.slice (some ⟨p, o, none⟩) m c, .int .i64 (j : Nat)] w fun e w' => e = .returned (.tuple #[.agg #[.int .u64 (limb (f j).1 0 : Nat), .int .u64 (limb (f j).1 1 : Nat), .int .u64 (limb (f j).1 2 : Nat), .int .u64 (limb (f j).1 3 : Nat), .int .u64 (limb (f j).2.1 0 : Nat), .int .u64 (limb (f j).2.1 1 : Nat), .int .u64 (limb (f j).2.1 2 : Nat), .int .u64 (limb (f j).2.1 3 : Nat), .bool (f j).2.2], .int .i64 0]) ∧ Below w.heap.size w w' := ⟨fun j => (hex j).choose, fun j => (hex j).choose_spec⟩
    refine sums_in L m 0 (some ⟨p, o, none⟩) c [] 30 hl rfl (by decide) (fun w h1 h2 => ?_) (fun w h2 => ?_) w hG hP
    ·refine (fsumT_in L f m (lnT L) j0 p o c hm h1m hl hA hn h10 hj0 hf (fun h w a1 a2 => sumAtT_err L m (some ⟨p, o, none⟩) c j0 hm h1m (by omega) hc (hiL j0 h) (fun g d b w b1 b2 b3 => csum_err (colT L j0) m (hbd h) (hcz j0 h) (hcl j0) (by omega) g d b w b1 b2 b3) w a1 a2) w h1 h2).mono ?_
     rintro e w' ⟨h, hb⟩
     rcases h with ⟨h, _⟩ | ⟨_, he⟩
     ·omega
     ·exact ⟨⟨none, 0, he, nil _ _⟩, hb⟩
    ·refine (rsum_any L m _ (some ⟨p, o, none⟩) c hm hl rfl hZ w h2).mono ?_
     rintro e w' ⟨h, hb⟩
     rcases h with ⟨h, _⟩ | ⟨_, _, he⟩ | ⟨_, Ls', hL', _⟩
     ·rw [hA] at h; cases h
     ·exact ⟨⟨none, 0, he, nil _ _⟩, hb⟩
     ·have : okL L = true := by
       rw [hL']
       refine List.all_eq_true.2 fun row hr => ?_
       rw [List.mem_map] at hr
       obtain ⟨cs, _, rfl⟩ := hr
       exact allP_map cs
      rw [hO] at this
      cases this
 ·exact sums_long m a c (by omega) w hG
end Go.Proofs.YtfkpbcionlidaaaDoor
