/- Package curve: climb: sums of numbers times points. -/
import Derived.Test.YtchphekaonnfeaaDoorPnL
import Derived.Test.YtchphekaonnfeaaDoorMgI
import Derived.Laws.MakeOwn
import Derived.Deep.DeepCutAuto
namespace Go.Proofs.YtchphekaonnfeaaDoor
open Go Go.RowKit Go.Lib

theorem lit3 : (limb 3 0 : Int) = 3 ∧ (limb 3 1 : Int) = 0 ∧ (limb 3 2 : Int) = 0 ∧ (limb 3 3 : Int) = 0 := ⟨by kernel_rfl, by kernel_rfl, by kernel_rfl, by kernel_rfl⟩
/-- The pair at a place. -/
def el (l : List (Nat × Pts)) (j : Nat) : Nat × Pts := l[j]?.getD (0, gr.z)
theorem el_get {l : List (Nat × Pts)} {j : Nat} (h : j < l.length) : l[j]? = some (el l j) := by
  unfold el
  rw [List.getElem?_eq_getElem h]; rfl
theorem el_eq {l : List (Nat × Pts)} {j : Nat} (h : j < l.length) : (l[j]'h) = el l j := by
  unfold el
  rw [List.getElem?_eq_getElem h]; rfl
theorem el_mem {l : List (Nat × Pts)} {j : Nat} (h : j < l.length) : el l j ∈ l := by rw [← el_eq h]; exact List.getElem_mem h
theorem NumsAt.elt {w : World} {a : Option Addr} {l : List (Nat × Pts)} (h : NumsAt w a (l.map Prod.fst)) {j : Nat} (hj : j < l.length) : ∃ b o, a = some ⟨b, o, none⟩ ∧ NumB w b (o + j * 4) (el l j).1 :=
  h j _ (by rw [List.getElem?_map, el_get hj]; rfl)
theorem PtsAt.elt {w : World} {a : Option Addr} {l : List (Nat × Pts)} (h : PtsAt w a (l.map Prod.snd)) {j : Nat} (hj : j < l.length) : ∃ b o, a = some ⟨b, o, none⟩ ∧ PointB w b (o + j * 9) (pX (el l j).2) (pY (el l j).2) (pI (el l j).2) :=
  h j (ptT (el l j).2) (by rw [List.getElem?_map, List.getElem?_map, el_get hj]; rfl)
theorem tot_take (c : Nat → Pts → Pts) (l : List (Nat × Pts)) {j : Nat} (h : j < l.length) : gr.tot c (l.take (j + 1)) = gr.add (gr.tot c (l.take j)) (c (el l j).1 (el l j).2) := by
  rw [List.take_succ_eq_append_getElem h, el_eq h, gr.tot_snoc]
def fW (l : List (Nat × Pts)) (k j : Nat) : List Value := if j < k then wideL ((el l j).1 * 3) else z8L
def fP (l : List (Nat × Pts)) (k j : Nat) : List Value := if j < k then ptsL (gr.neg (el l j).2) else zpL
theorem fW_step (l : List (Nat × Pts)) (k j : Nat) : (if j = k then wideL ((el l k).1 * 3) else fW l k j) = fW l (k + 1) j := by
  unfold fW
  by_cases e : j = k
  · rw [if_pos e, if_pos (by omega), e]
  · rw [if_neg e]
    by_cases c : j < k
    · rw [if_pos c, if_pos (by omega)]
    · rw [if_neg c, if_neg (by omega)]
theorem fP_step (l : List (Nat × Pts)) (k j : Nat) : (if j = k then ptsL (gr.neg (el l k).2) else fP l k j) = fP l (k + 1) j := by
  unfold fP
  by_cases e : j = k
  · rw [if_pos e, if_pos (by omega), e]
  · rw [if_neg e]
    by_cases c : j < k
    · rw [if_pos c, if_pos (by omega)]
    · rw [if_neg c, if_neg (by omega)]
/-- What climb has in its memory while it makes its tables. -/
def ClA (w wx : World) (g n : Nat) (f h : Nat → List Value) : Prop := OwnC wx (w.heap.size) [.pointer (some ⟨g, 0, none⟩)] ∧ OwnC wx (w.heap.size + 1) zpL ∧ TabL wx (w.heap.size + 1 + 1) n 8 f ∧ TabL wx (w.heap.size + 1 + 1 + 1) n 9 h ∧ Below w.heap.size w wx
theorem ClA.call {w W w1 : World} {g n : Nat} {f h : Nat → List Value} (H : ClA w W g n f h) (hb : Below W.heap.size W w1) : ClA w w1 g n f h :=
  ⟨H.1.call hb, H.2.1.call hb, H.2.2.1.call hb, H.2.2.2.1.call hb, below_call0 H.2.2.2.2 hb⟩
theorem ClA.put8 {w W : World} {g n k x : Nat} {l : List (Nat × Pts)} {h : Nat → List Value} (H : ClA w W g n (fW l k) h) (hk : k < n) (hx : x = (el l k).1 * 3) : ClA w (((((((((W.setCell ⟨w.heap.size + 1 + 1, k * 8, none⟩ (.int .u64 (limb (x) 0 : Nat))).setCell ⟨w.heap.size + 1 + 1, k * 8 + 1, none⟩ (.int .u64 (limb (x) 1 : Nat))).setCell ⟨w.heap.size + 1 + 1, k * 8 + 2, none⟩ (.int .u64 (limb (x) 2 : Nat))).setCell ⟨w.heap.size + 1 + 1, k * 8 + 3, none⟩ (.int .u64 (limb (x) 3 : Nat))).setCell ⟨w.heap.size + 1 + 1, k * 8 + 4, none⟩ (.int .u64 (limb (x) 4 : Nat))).setCell ⟨w.heap.size + 1 + 1, k * 8 + 5, none⟩ (.int .u64 (limb (x) 5 : Nat))).setCell ⟨w.heap.size + 1 + 1, k * 8 + 6, none⟩ (.int .u64 (limb (x) 6 : Nat))).setCell ⟨w.heap.size + 1 + 1, k * 8 + 7, none⟩ (.int .u64 (limb (x) 7 : Nat)))) g n (fW l (k + 1)) h := by
  have a1 : w.heap.size ≠ w.heap.size + 1 + 1 := by omega
  have a2 : w.heap.size + 1 ≠ w.heap.size + 1 + 1 := by omega
  have a3 : w.heap.size + 1 + 1 + 1 ≠ w.heap.size + 1 + 1 := by omega
  have a4 : w.heap.size ≤ w.heap.size + 1 + 1 := by omega
  refine ⟨OwnC.puts (wideL x) (k * 8) H.1 a1, OwnC.puts (wideL x) (k * 8) H.2.1 a2, ?_, TabL.puts (wideL x) (k * 8) H.2.2.2.1 a3, below_putL a4 (wideL x) (k * 8) _ H.2.2.2.2⟩
  have t := (TabL.put k (wideL x) H.2.2.1 hk rfl).congr (g := fW l (k + 1)) (fun j _ => by rw [hx]; exact fW_step l k j)
  exact t
theorem ClA.put9 {w W : World} {g n k x y : Nat} {i : Bool} {l : List (Nat × Pts)} {f : Nat → List Value} (H : ClA w W g n f (fP l k)) (hk : k < n) (hx : x = pX (gr.neg (el l k).2)) (hy : y = pY (gr.neg (el l k).2)) (hi : i = pI (gr.neg (el l k).2)) : ClA w ((((((((((W.setCell ⟨w.heap.size + 1 + 1 + 1, k * 9, none⟩ (.int .u64 (limb (x) 0 : Nat))).setCell ⟨w.heap.size + 1 + 1 + 1, k * 9 + 1, none⟩ (.int .u64 (limb (x) 1 : Nat))).setCell ⟨w.heap.size + 1 + 1 + 1, k * 9 + 2, none⟩ (.int .u64 (limb (x) 2 : Nat))).setCell ⟨w.heap.size + 1 + 1 + 1, k * 9 + 3, none⟩ (.int .u64 (limb (x) 3 : Nat))).setCell ⟨w.heap.size + 1 + 1 + 1, k * 9 + 4, none⟩ (.int .u64 (limb (y) 0 : Nat))).setCell ⟨w.heap.size + 1 + 1 + 1, k * 9 + 5, none⟩ (.int .u64 (limb (y) 1 : Nat))).setCell ⟨w.heap.size + 1 + 1 + 1, k * 9 + 6, none⟩ (.int .u64 (limb (y) 2 : Nat))).setCell ⟨w.heap.size + 1 + 1 + 1, k * 9 + 7, none⟩ (.int .u64 (limb (y) 3 : Nat))).setCell ⟨w.heap.size + 1 + 1 + 1, k * 9 + 8, none⟩ (.bool i))) g n f (fP l (k + 1)) := by
  have a1 : w.heap.size ≠ w.heap.size + 1 + 1 + 1 := by omega
  have a2 : w.heap.size + 1 ≠ w.heap.size + 1 + 1 + 1 := by omega
  have a3 : w.heap.size + 1 + 1 ≠ w.heap.size + 1 + 1 + 1 := by omega
  have a4 : w.heap.size ≤ w.heap.size + 1 + 1 + 1 := by omega
  refine ⟨OwnC.puts (ptL x y i) (k * 9) H.1 a1, OwnC.puts (ptL x y i) (k * 9) H.2.1 a2, TabL.puts (ptL x y i) (k * 9) H.2.2.1 a3, ?_, below_putL a4 (ptL x y i) (k * 9) _ H.2.2.2.2⟩
  have t := (TabL.put k (ptL x y i) H.2.2.2.1 hk rfl).congr (g := fP l (k + 1)) (fun j _ => by rw [hx, hy, hi]; exact fP_step l k j)
  exact t
theorem infoWide : ∃ i, Tryd.prog.info? 88 = some i ∧ i.zero = some (.agg #[.int .u64 0, .int .u64 0, .int .u64 0, .int .u64 0, .int .u64 0, .int .u64 0, .int .u64 0, .int .u64 0]) ∧ i.size = 8 ∧ i.bytes = 64 := by
  have h : (Tryd.prog.info? 88).map (fun i => (i.zero, i.size, i.bytes)) = some (some (.agg #[.int .u64 0, .int .u64 0, .int .u64 0, .int .u64 0, .int .u64 0, .int .u64 0, .int .u64 0, .int .u64 0]), 8, 64) := by kernel_rfl
  cases e : Tryd.prog.info? 88 with
  | none => rw [e] at h; cases h
  | some i =>
    rw [e] at h
    simp only [Option.map_some, Option.some.injEq, Prod.mk.injEq] at h
    exact ⟨i, rfl, h.1, h.2.1, h.2.2⟩
theorem infoPoint : ∃ i, Tryd.prog.info? 28 = some i ∧ i.zero = some (.agg #[.int .u64 0, .int .u64 0, .int .u64 0, .int .u64 0, .int .u64 0, .int .u64 0, .int .u64 0, .int .u64 0, .bool false]) ∧ i.size = 9 ∧ i.bytes = 72 := by
  have h : (Tryd.prog.info? 28).map (fun i => (i.zero, i.size, i.bytes)) = some (some (.agg #[.int .u64 0, .int .u64 0, .int .u64 0, .int .u64 0, .int .u64 0, .int .u64 0, .int .u64 0, .int .u64 0, .bool false]), 9, 72) := by kernel_rfl
  cases e : Tryd.prog.info? 28 with
  | none => rw [e] at h; cases h
  | some i =>
    rw [e] at h
    simp only [Option.map_some, Option.some.injEq, Prod.mk.injEq] at h
    exact ⟨i, rfl, h.1, h.2.1, h.2.2⟩
theorem make_wides (n : Nat) (hn : n ≤ 1000000) (w : World) : (Instr.makeSlice 113 (.int .i64 (n : Int)) (.int .i64 (n : Int))).run Tryd.prog w = .ok (.slice (some ⟨w.heap.size, 0, none⟩) n n) (w.alloc (.cells (madeCells #[.int .u64 0, .int .u64 0, .int .u64 0, .int .u64 0, .int .u64 0, .int .u64 0, .int .u64 0, .int .u64 0] (n * 8)) 88)) := by
  obtain ⟨i, hi, hz, hsize, hby⟩ := infoWide
  have h := run_make (P := Tryd.prog) w 113 88 i _ Tryd.underlying113 hi hz .i64 .i64 (n : Int) (n : Int) (by omega) (Int.le_refl _) (by rw [hby]; omega) (by omega)
  rw [hsize] at h
  simp only [Int.toNat_natCast] at h
  exact h
theorem make_points (n : Nat) (hn : n ≤ 1000000) (w : World) : (Instr.makeSlice 73 (.int .i64 (n : Int)) (.int .i64 (n : Int))).run Tryd.prog w = .ok (.slice (some ⟨w.heap.size, 0, none⟩) n n) (w.alloc (.cells (madeCells #[.int .u64 0, .int .u64 0, .int .u64 0, .int .u64 0, .int .u64 0, .int .u64 0, .int .u64 0, .int .u64 0, .bool false] (n * 9)) 28)) := by
  obtain ⟨i, hi, hz, hsize, hby⟩ := infoPoint
  have h := run_make (P := Tryd.prog) w 73 28 i _ Tryd.underlying73 hi hz .i64 .i64 (n : Int) (n : Int) (by omega) (Int.le_refl _) (by rw [hby]; omega) (by omega)
  rw [hsize] at h
  simp only [Int.toNat_natCast] at h
  exact h
theorem ClA.start (w : World) (g n : Nat) (l : List (Nat × Pts)) : ClA w (((((w.alloc (.cells #[.pointer (some ⟨g, 0, none⟩)] 91)).alloc (.cells #[.int .u64 0, .int .u64 0, .int .u64 0, .int .u64 0, .int .u64 0, .int .u64 0, .int .u64 0, .int .u64 0, .bool false] 28)).alloc (.cells (madeCells #[.int .u64 0, .int .u64 0, .int .u64 0, .int .u64 0, .int .u64 0, .int .u64 0, .int .u64 0, .int .u64 0] (n * 8)) 88)).alloc (.cells (madeCells #[.int .u64 0, .int .u64 0, .int .u64 0, .int .u64 0, .int .u64 0, .int .u64 0, .int .u64 0, .int .u64 0, .bool false] (n * 9)) 28))) g n (fW l 0) (fP l 0) := by
  refine ⟨(OwnC.new' (vs := [.pointer (some ⟨g, 0, none⟩)]) rfl).alloc.alloc.alloc, (OwnC.new' (vs := zpL) (by simp only [World.size_alloc])).alloc.alloc, ?_, ?_, below_alloc0 (below_alloc0 (below_alloc0 (below_alloc0 (Below.refl _ _) _) _) _) _⟩
  · have h := (TabL.made ((w.alloc (.cells #[.pointer (some ⟨g, 0, none⟩)] 91)).alloc (.cells #[.int .u64 0, .int .u64 0, .int .u64 0, .int .u64 0, .int .u64 0, .int .u64 0, .int .u64 0, .int .u64 0, .bool false] 28)) z8L n 8 88 rfl (by decide)).congr (g := fW l 0) (fun j _ => by unfold fW; rw [if_neg (by omega)])
    simp only [World.size_alloc] at h
    exact h.alloc
  · have h := (TabL.made (((w.alloc (.cells #[.pointer (some ⟨g, 0, none⟩)] 91)).alloc (.cells #[.int .u64 0, .int .u64 0, .int .u64 0, .int .u64 0, .int .u64 0, .int .u64 0, .int .u64 0, .int .u64 0, .bool false] 28)).alloc (.cells (madeCells #[.int .u64 0, .int .u64 0, .int .u64 0, .int .u64 0, .int .u64 0, .int .u64 0, .int .u64 0, .int .u64 0] (n * 8)) 88)) zpL n 9 28 rfl (by decide)).congr (g := fP l 0) (fun j _ => by unfold fP; rw [if_neg (by omega)])
    simp only [World.size_alloc] at h
    exact h
theorem fW_rest {l : List (Nat × Pts)} {k : Nat} : fW l k k = z8L := by unfold fW; rw [if_neg (by omega)]
theorem fP_rest {l : List (Nat × Pts)} {k : Nat} : fP l k k = zpL := by unfold fP; rw [if_neg (by omega)]
theorem TabL.cells {w : World} {p n k : Nat} {f : Nat → List Value} {vs : List Value} (h : TabL w p n k f) {j : Nat} (hj : j < n) (e : f j = vs) : ∀ c v, vs[c]? = some v → w.cell? ⟨p, j * k + c, none⟩ = some v := fun c v hv => h.2.2.2 j hj c v (by rw [e]; exact hv)
theorem dig_p {k q : Nat} {a : Pts} (h3 : bitN (k * 3) q = 1) (h1 : bitN k q = 0) : gr.dig q k a = a := by
  unfold bitN at h3 h1
  unfold Gr.dig
  rw [Nat.mul_comm 3 k, if_pos (by omega)]
theorem dig_m {k q : Nat} {a : Pts} (h3 : bitN (k * 3) q = 0) (h1 : bitN k q = 1) : gr.dig q k a = gr.neg a := by
  unfold bitN at h3 h1
  unfold Gr.dig
  rw [Nat.mul_comm 3 k, if_neg (by omega), if_pos (by omega)]
theorem dig_z {k q : Nat} {a : Pts} (h : bitN (k * 3) q = bitN k q) : gr.dig q k a = gr.z := by
  unfold bitN at h
  unfold Gr.dig
  rw [Nat.mul_comm 3 k, if_neg (by omega), if_neg (by omega)]
theorem spot_zero (w : World) (g : Nat) (t : TypeId) : SpotA (w.alloc (.cells #[.pointer (some ⟨g, 0, none⟩), .int .u64 0, .int .u64 0, .int .u64 0, .int .u64 0, .int .u64 0, .int .u64 0, .int .u64 0, .int .u64 0, .int .u64 0, .int .u64 0, .int .u64 0, .int .u64 0] t)) w.heap.size g gr.z := by
  have h := SpotB.new w g 0 0 0 (t := t)
  rw [lit0.1, lit0.2.1, lit0.2.2.1, lit0.2.2.2] at h
  exact ⟨0, 0, 0, h, spotN_none⟩
set_option maxRecDepth 100000 in
set_option maxHeartbeats 8000000 in
theorem climb_A (g n : Nat) (ka pa : Option Addr) (kc pc : Nat) (l : List (Nat × Pts)) (hn : n = l.length) (h64 : n ≤ 64) (hk : ∀ x ∈ l, x.1 < R256) (w : World) (hM : FieldB w g PP) (hT : GTH w) (hK : NumsAt w ka (l.map Prod.fst)) (hP : PtsAt w pa (l.map Prod.snd)) :
    Calls Tryd.prog 49 #[.agg #[.pointer (some ⟨g, 0, none⟩)], .func (.func 50) #[] #[], .func (.func 51) #[] #[], .slice ka n kc, .slice pa n pc] w fun e w' => e = .returned (.agg #[.int .u64 (limb (pX (gr.tot gr.mul l)) 0 : Nat), .int .u64 (limb (pX (gr.tot gr.mul l)) 1 : Nat), .int .u64 (limb (pX (gr.tot gr.mul l)) 2 : Nat), .int .u64 (limb (pX (gr.tot gr.mul l)) 3 : Nat), .int .u64 (limb (pY (gr.tot gr.mul l)) 0 : Nat), .int .u64 (limb (pY (gr.tot gr.mul l)) 1 : Nat), .int .u64 (limb (pY (gr.tot gr.mul l)) 2 : Nat), .int .u64 (limb (pY (gr.tot gr.mul l)) 3 : Nat), .bool (pI (gr.tot gr.mul l))]) ∧ Below w.heap.size w w' := by
  obtain ⟨R, hR⟩ : ∃ R, R = gr.tot gr.mul l := ⟨_, rfl⟩
  rw [← hR]
  have hg : g < w.heap.size := hM.2.2
  have KX : Hid (∀ (k x : Nat), k < R256 → x = k * 3 → ∀ w, Calls Tryd.prog 46 #[.agg #[.int .u64 (limb (k) 0 : Nat), .int .u64 (limb (k) 1 : Nat), .int .u64 (limb (k) 2 : Nat), .int .u64 (limb (k) 3 : Nat)], .agg #[.int .u64 3, .int .u64 0, .int .u64 0, .int .u64 0]] w fun e w' => e = .returned (.agg #[.int .u64 (limb (x) 0 : Nat), .int .u64 (limb (x) 1 : Nat), .int .u64 (limb (x) 2 : Nat), .int .u64 (limb (x) 3 : Nat), .int .u64 (limb (x) 4 : Nat), .int .u64 (limb (x) 5 : Nat), .int .u64 (limb (x) 6 : Nat), .int .u64 (limb (x) 7 : Nat)]) ∧ Below w.heap.size w w') := fun k x hk hx w => by
    have h := mul_any k 3 hk (by decide) w
    rw [lit3.1, lit3.2.1, lit3.2.2.1, lit3.2.2.2, ← hx] at h
    exact h
  have KN : Hid (∀ (a b : Pts), b = gr.neg a → ∀ w, FieldB w g PP → Calls Tryd.prog 64 #[.agg #[.pointer (some ⟨g, 0, none⟩)], .agg #[.int .u64 (limb (pX (a)) 0 : Nat), .int .u64 (limb (pX (a)) 1 : Nat), .int .u64 (limb (pX (a)) 2 : Nat), .int .u64 (limb (pX (a)) 3 : Nat), .int .u64 (limb (pY (a)) 0 : Nat), .int .u64 (limb (pY (a)) 1 : Nat), .int .u64 (limb (pY (a)) 2 : Nat), .int .u64 (limb (pY (a)) 3 : Nat), .bool (pI (a))]] w fun e w' => e = .returned (.agg #[.int .u64 (limb (pX (b)) 0 : Nat), .int .u64 (limb (pX (b)) 1 : Nat), .int .u64 (limb (pX (b)) 2 : Nat), .int .u64 (limb (pX (b)) 3 : Nat), .int .u64 (limb (pY (b)) 0 : Nat), .int .u64 (limb (pY (b)) 1 : Nat), .int .u64 (limb (pY (b)) 2 : Nat), .int .u64 (limb (pY (b)) 3 : Nat), .bool (pI (b))]) ∧ Below w.heap.size w w') := fun a b hb w h => by
    rw [hb]
    exact pneg_A g a w h
  have KB : Hid (∀ (k q b : Nat), k < R256 → b = bitN k q → ∀ w, Calls Tryd.prog 52 #[.agg #[.int .u64 (limb (k) 0 : Nat), .int .u64 (limb (k) 1 : Nat), .int .u64 (limb (k) 2 : Nat), .int .u64 (limb (k) 3 : Nat)], .int .i64 (q : Nat)] w fun e w' => e = .returned (.int .u64 (b : Nat)) ∧ Below w.heap.size w w') := fun k q b hk hb w => by
    rw [hb]
    exact bit_all k q hk w
  have KD : Hid _ := fun s a w h1 h2 h3 h4 => sdouble_A s g a w h1 h2 h3 h4
  have KA : Hid _ := fun s b o a p w h1 h2 h3 h4 h5 => sadd_A s g b o a p w h1 h2 h3 h4 h5
  have KP : Hid _ := fun s a w h1 h2 => spoint_A s g a w h1 h2
  have H0 : Hid (FieldB w g PP ∧ GTH w ∧ NumsAt w ka (l.map Prod.fst) ∧ PtsAt w pa (l.map Prod.snd) ∧ n = l.length ∧ (∀ x ∈ l, x.1 < R256) ∧ R = gr.tot gr.mul l ∧ g < w.heap.size) := ⟨hM, hT, hK, hP, hn, hk, hR, hg⟩
  have hm1 : ∀ w, (Instr.makeSlice 113 (.int .i64 (n : Int)) (.int .i64 (n : Int))).run Tryd.prog w = .ok (.slice (some ⟨w.heap.size, 0, none⟩) n n) (w.alloc (.cells (madeCells #[.int .u64 0, .int .u64 0, .int .u64 0, .int .u64 0, .int .u64 0, .int .u64 0, .int .u64 0, .int .u64 0] (n * 8)) 88)) := fun w => make_wides n (by omega) w
  have hm2 : ∀ w, (Instr.makeSlice 73 (.int .i64 (n : Int)) (.int .i64 (n : Int))).run Tryd.prog w = .ok (.slice (some ⟨w.heap.size, 0, none⟩) n n) (w.alloc (.cells (madeCells #[.int .u64 0, .int .u64 0, .int .u64 0, .int .u64 0, .int .u64 0, .int .u64 0, .int .u64 0, .int .u64 0, .bool false] (n * 9)) 28)) := fun w => make_points n (by omega) w
  have n64 : (n : Int) ≤ 64 := by omega
  have HS : Hid (ClA w (((((w.alloc (.cells #[.pointer (some ⟨g, 0, none⟩)] 91)).alloc (.cells #[.int .u64 0, .int .u64 0, .int .u64 0, .int .u64 0, .int .u64 0, .int .u64 0, .int .u64 0, .int .u64 0, .bool false] 28)).alloc (.cells (madeCells #[.int .u64 0, .int .u64 0, .int .u64 0, .int .u64 0, .int .u64 0, .int .u64 0, .int .u64 0, .int .u64 0] (n * 8)) 88)).alloc (.cells (madeCells #[.int .u64 0, .int .u64 0, .int .u64 0, .int .u64 0, .int .u64 0, .int .u64 0, .int .u64 0, .int .u64 0, .bool false] (n * 9)) 28))) g n (fW l 0) (fP l 0)) := ClA.start w g n l
  clear hM hT hK hP hn hk hR h64 hg
  go_enter Tryd.func49, Tryd.ntmps49
  go_wp2_with fail
  clear hm1 hm2
  rename_i Kr hKr
  have HKr : Hid _ := hKr
  clear hKr
  go_loopw [27] (fun iv wr => ∃ k : Nat, k ≤ n ∧ iv = .int .i64 (k : Nat) ∧ ClA w wr g n (fW l k) (fP l k)) (fun iv _ => n - (Go.RowKit.intOf iv).toNat)
  case atStart => exact ⟨0, Nat.zero_le _, rfl, HS.out⟩
  case round =>
    clear HS
    obtain ⟨k, hk, rfl, hC⟩ := hrel
    rename World => wr
    have HC : Hid (ClA w wr g n (fW l k) (fP l k)) := hC
    clear hC
    by_cases hlt : k < n
    · clear HKr KD KA KP KB
      have hkl : k < l.length := by rw [← H0.out.2.2.2.2.1]; exact hlt
      have hlt' : (k : Int) < (n : Int) := Int.ofNat_lt.2 hlt
      obtain ⟨kb, ko, hka, hNB⟩ := H0.out.2.2.1.elt hkl
      obtain ⟨pb, po, hpa, hPB⟩ := H0.out.2.2.2.1.elt hkl
      subst hka hpa
      have hkR := H0.out.2.2.2.2.2.1 _ (el_mem hkl)
      obtain ⟨m, hm⟩ : ∃ m, m = (el l k).1 := ⟨_, rfl⟩
      obtain ⟨q, hq⟩ : ∃ q, q = (el l k).2 := ⟨_, rfl⟩
      obtain ⟨x, hx⟩ : ∃ x, x = m * 3 := ⟨_, rfl⟩
      obtain ⟨b, hb⟩ : ∃ b, b = gr.neg q := ⟨_, rfl⟩
      rw [← hm] at hNB hkR
      rw [← hq] at hPB
      have K1 : Hid _ := KX.out m x hkR hx
      have K2 : Hid _ := KN.out q b hb
      have HE : Hid (x = (el l k).1 * 3 ∧ b = gr.neg (el l k).2 ∧ k < n) := ⟨by rw [hx, hm], by rw [hb, hq], hlt⟩
      have Nb : Hid (NumB w kb (ko + k * 4) m) := hNB
      have Pb : Hid (PointB w pb (po + k * 9) (pX q) (pY q) (pI q)) := hPB
      obtain ⟨nz, n0, n1, n2, n3⟩ := hNB.call HC.out.2.2.2.2
      clear hNB hPB hm hq hx hb hkR hk hkl KX KN
      go_wp2_with fail
      refine (K1.out _).mono ?_
      rintro e w7 ⟨rfl, hb7⟩
      have H7 := HC.out.call hb7
      clear hb7 nz n0 n1 n2 n3 HC K1
      have tc := H7.2.2.1.cells hlt fW_rest
      have t0 : w7.cell? ⟨w.heap.size + 1 + 1, k * 8, none⟩ = some (.int .u64 0) := tc 0 _ rfl
      have t1 := tc 1 _ rfl
      have t2 := tc 2 _ rfl
      have t3 := tc 3 _ rfl
      have t4 := tc 4 _ rfl
      have t5 := tc 5 _ rfl
      have t6 := tc 6 _ rfl
      have t7 := tc 7 _ rfl
      have tf := H7.2.2.1.2.1
      have tz := H7.2.2.1.1
      have H7' : Hid (ClA w w7 g n (fW l k) (fP l k)) := H7
      clear tc H7
      go_upto_region 7 with fail
      obtain ⟨w8, hw8⟩ : ∃ wq, wq = ((((((((w7.setCell ⟨w.heap.size + 1 + 1, k * 8, none⟩ (.int .u64 (limb (x) 0 : Nat))).setCell ⟨w.heap.size + 1 + 1, k * 8 + 1, none⟩ (.int .u64 (limb (x) 1 : Nat))).setCell ⟨w.heap.size + 1 + 1, k * 8 + 2, none⟩ (.int .u64 (limb (x) 2 : Nat))).setCell ⟨w.heap.size + 1 + 1, k * 8 + 3, none⟩ (.int .u64 (limb (x) 3 : Nat))).setCell ⟨w.heap.size + 1 + 1, k * 8 + 4, none⟩ (.int .u64 (limb (x) 4 : Nat))).setCell ⟨w.heap.size + 1 + 1, k * 8 + 5, none⟩ (.int .u64 (limb (x) 5 : Nat))).setCell ⟨w.heap.size + 1 + 1, k * 8 + 6, none⟩ (.int .u64 (limb (x) 6 : Nat))).setCell ⟨w.heap.size + 1 + 1, k * 8 + 7, none⟩ (.int .u64 (limb (x) 7 : Nat))) := ⟨_, rfl⟩
      rw [← hw8]
      have C_0 : Hid (ClA w w8 g n (fW l (k + 1)) (fP l k)) := by
        rw [hw8]
        exact H7'.out.put8 HE.out.2.2 HE.out.1
      clear hw8 t0 t1 t2 t3 t4 t5 t6 t7 tf tz H7'
      refine wp_region_J 8 1 [?v0r7, ?v1r7, ?v2r7, ?v3r7, ?v4r7, ?v5r7, ?v6r7, ?v7r7] [some 39, some 40, some 41, some 42, some 43, some 44, some 45, some 46] ?Ar7 (by kernel_rfl) (by kernel_rfl) (by kernel_rfl) rfl ?hAr7 ?hopr7 ?hfinr7
      case hAr7 =>
        simp only [List.set_cons_zero, List.set_cons_succ, List.zip_cons_cons, List.zip_nil_right, fillD, Act.put, List.setIfInBounds_toArray]
        exact rfl
      case hopr7 =>
        refine ⟨?_, ?_, ?_, ?_, ?_, ?_, ?_, ?_, trivial⟩
        iterate 2 focus (intro _ bq wx hS; refine OpTo.yields rfl ?_; clear hS; go_simp; try with_reducible rfl)
        focus (intro _ bq wx hS; refine OpTo.yields rfl ?_; obtain ⟨_, _, _⟩ := OwnC.one (C_0.out.call hS).1; clear hS; go_simp; try with_reducible rfl)
        iterate 3 focus (intro _ bq wx hS; refine OpTo.yields rfl ?_; clear hS; go_simp; try with_reducible rfl)
        focus (intro _ bq wx hS; refine OpTo.yields rfl ?_; obtain ⟨_, _, _, _, _, _, _, _, _, _⟩ := (Pb.out.call C_0.out.2.2.2.2).call hS; clear hS; go_simp; try with_reducible rfl)
        focus (intro _ bq wx hS; refine OpTo.calls rfl ?_ ?_; rotate_left; intro K hK; go_simp; refine (K2.out _ ((H0.out.1.call C_0.out.2.2.2.2).call hS)).mono ?_; rintro e w' ⟨rfl, hq⟩; exact hK w' hq; exact rfl)
      case hfinr7 =>
        intro wx hS
        refine tail_at (o := ?ofr7_8) ?hir7_8 ?hwr7_8 ?_
        case hir7_8 => rw [List.getElem?_toArray]; exact rfl
        case hwr7_8 => exact rfl
        go_simp
        refine tail_at (o := ?ofr7_9) ?hir7_9 ?hwr7_9 ?_
        case hir7_9 => rw [List.getElem?_toArray]; exact rfl
        case hwr7_9 => exact rfl
        have gc := (C_0.out.call hS).2.2.2.1.cells hlt fP_rest
        have g0 : wx.cell? ⟨w.heap.size + 1 + 1 + 1, k * 9, none⟩ = some (.int .u64 0) := gc 0 _ rfl
        have g1 := gc 1 _ rfl
        have g2 := gc 2 _ rfl
        have g3 := gc 3 _ rfl
        have g4 := gc 4 _ rfl
        have g5 := gc 5 _ rfl
        have g6 := gc 6 _ rfl
        have g7 := gc 7 _ rfl
        have g8 := gc 8 _ rfl
        have gf := (C_0.out.call hS).2.2.2.1.2.1
        have gz := (C_0.out.call hS).2.2.2.1.1
        go_simp
        clear g0 g1 g2 g3 g4 g5 g6 g7 g8 gf gz gc
        refine tail_end ?_
        obtain ⟨wy, hwy⟩ : ∃ wq, wq = (((((((((wx.setCell ⟨w.heap.size + 1 + 1 + 1, k * 9, none⟩ (.int .u64 (limb (pX b) 0 : Nat))).setCell ⟨w.heap.size + 1 + 1 + 1, k * 9 + 1, none⟩ (.int .u64 (limb (pX b) 1 : Nat))).setCell ⟨w.heap.size + 1 + 1 + 1, k * 9 + 2, none⟩ (.int .u64 (limb (pX b) 2 : Nat))).setCell ⟨w.heap.size + 1 + 1 + 1, k * 9 + 3, none⟩ (.int .u64 (limb (pX b) 3 : Nat))).setCell ⟨w.heap.size + 1 + 1 + 1, k * 9 + 4, none⟩ (.int .u64 (limb (pY b) 0 : Nat))).setCell ⟨w.heap.size + 1 + 1 + 1, k * 9 + 5, none⟩ (.int .u64 (limb (pY b) 1 : Nat))).setCell ⟨w.heap.size + 1 + 1 + 1, k * 9 + 6, none⟩ (.int .u64 (limb (pY b) 2 : Nat))).setCell ⟨w.heap.size + 1 + 1 + 1, k * 9 + 7, none⟩ (.int .u64 (limb (pY b) 3 : Nat))).setCell ⟨w.heap.size + 1 + 1 + 1, k * 9 + 8, none⟩ (.bool (pI b))) := ⟨_, rfl⟩
        rw [← hwy]
        have HY : Hid (ClA w wy g n (fW l (k + 1)) (fP l (k + 1))) := by
          rw [hwy]
          exact (C_0.out.call hS).put9 hlt (by rw [HE.out.2.1]) (by rw [HE.out.2.1]) (by rw [HE.out.2.1])
        clear hwy hS
        go_wp2_with fail
        go_roundw
        case rel => first | exact ⟨k + 1, hlt, by go_num, HY.out⟩ | ((repeat apply Exists.intro); exact ⟨⟨k + 1, hlt, by go_num, HY.out⟩, rfl⟩)
        case measure => simp [intOf]; omega
    · obtain rfl : k = n := by omega
      have hnl : ¬ ((k : Int) < (k : Int)) := Int.lt_irrefl _
      clear hlt hk KX KN
      obtain ⟨bz, b0, bf⟩ := OwnC.one HC.out.1
      go_wp2_with fail
      refine HKr.out _ _ ?_
      clear HKr
      obtain ⟨s, hs⟩ : ∃ s, s = wr.heap.size := ⟨_, rfl⟩
      clear hs s
      rename World => w5
      have HI : Hid (SpotA (w5.alloc (.cells #[.pointer (some ⟨g, 0, none⟩), .int .u64 0, .int .u64 0, .int .u64 0, .int .u64 0, .int .u64 0, .int .u64 0, .int .u64 0, .int .u64 0, .int .u64 0, .int .u64 0, .int .u64 0, .int .u64 0] 116)) w5.heap.size g gr.z ∧ Below w5.heap.size w5 (w5.alloc (.cells #[.pointer (some ⟨g, 0, none⟩), .int .u64 0, .int .u64 0, .int .u64 0, .int .u64 0, .int .u64 0, .int .u64 0, .int .u64 0, .int .u64 0, .int .u64 0, .int .u64 0, .int .u64 0, .int .u64 0] 116))) := ⟨spot_zero w5 g _, below_alloc0 (Below.refl _ _) _⟩
      have NE : Hid (w5.heap.size ≠ g) := fun c => by
        have h1 := HC.out.2.2.2.2.size
        have h2 := H0.out.2.2.2.2.2.2.2
        omega
      go_wp2_with fail
      clear bz b0 bf
      rename_i Kr2 hKr2
      have HKr2 : Hid _ := hKr2
      clear hKr2
      go_loopw [15] (fun iv wi => ∃ q : Nat, q ≤ 257 ∧ iv = .int .i64 (q : Nat) ∧ SpotA wi w5.heap.size g (gr.tot (fun k a => gr.mul (clN (q + 1) k) a) l) ∧ Below w5.heap.size w5 wi) (fun iv _ => (Go.RowKit.intOf iv).toNat)
      case atStart => exact ⟨257, by omega, rfl, by rw [gr.climb_start l (fun x hx => (show x.1 < 2 ^ 256 from H0.out.2.2.2.2.2.1 x hx))]; exact HI.out.1, HI.out.2⟩
      case round =>
        clear HI
        obtain ⟨q, hq, rfl, hSp, hBw⟩ := hrel
        rename World => wi
        by_cases hq0 : q = 0
        · subst hq0
          have HF : Hid (SpotA wi w5.heap.size g R ∧ Below w5.heap.size w5 wi) := ⟨by rw [H0.out.2.2.2.2.2.2.1, ← gr.climb_end l]; exact hSp, hBw⟩
          clear hSp hBw hq KD KA KB
          go_wp2_with fail
          refine HKr2.out _ _ ?_
          clear HKr2
          go_wp2_with fail
          refine (KP.out _ _ _ ((H0.out.1.call HC.out.2.2.2.2).call HF.out.2) HF.out.1).mono ?_
          rintro e wz ⟨rfl, hbz⟩
          have HZ : Hid (OwnC wz (w.heap.size + 1) zpL ∧ Below w.heap.size w wz) := ⟨(HC.out.call (below_call0 HF.out.2 hbz)).2.1, (HC.out.call (below_call0 HF.out.2 hbz)).2.2.2.2⟩
          clear HF HC H0 hbz KP NE
          obtain ⟨rz, r0, r1, r2, r3, r4, r5, r6, r7, r8, rf⟩ := HZ.out.1.zp
          go_wp2_with fail
          clear rz r0 r1 r2 r3 r4 r5 r6 r7 r8 rf
          obtain ⟨wy, hwy⟩ : ∃ wq, wq = (((((((((wz.setCell ⟨w.heap.size + 1, 0, none⟩ (.int .u64 (limb (pX R) 0 : Nat))).setCell ⟨w.heap.size + 1, 1, none⟩ (.int .u64 (limb (pX R) 1 : Nat))).setCell ⟨w.heap.size + 1, 2, none⟩ (.int .u64 (limb (pX R) 2 : Nat))).setCell ⟨w.heap.size + 1, 3, none⟩ (.int .u64 (limb (pX R) 3 : Nat))).setCell ⟨w.heap.size + 1, 4, none⟩ (.int .u64 (limb (pY R) 0 : Nat))).setCell ⟨w.heap.size + 1, 5, none⟩ (.int .u64 (limb (pY R) 1 : Nat))).setCell ⟨w.heap.size + 1, 6, none⟩ (.int .u64 (limb (pY R) 2 : Nat))).setCell ⟨w.heap.size + 1, 7, none⟩ (.int .u64 (limb (pY R) 3 : Nat))).setCell ⟨w.heap.size + 1, 8, none⟩ (.bool (pI R))) := ⟨_, rfl⟩
          rw [← hwy]
          have HO : OwnC wy (w.heap.size + 1) (ptL (pX R) (pY R) (pI R)) ∧ Below w.heap.size w wy := by
            rw [hwy]
            exact ⟨OwnC.put (ptL (pX R) (pY R) (pI R)) HZ.out.1 rfl, below_putL (show w.heap.size ≤ w.heap.size + 1 by omega) (ptL (pX R) (pY R) (pI R)) 0 _ HZ.out.2⟩
          clear hwy HZ
          obtain ⟨sz, s0, s1, s2, s3, s4, s5, s6, s7, s8, sf⟩ := HO.1.pt
          refine bodyPost_ret (v := .agg #[.int .u64 (limb (pX (R)) 0 : Nat), .int .u64 (limb (pX (R)) 1 : Nat), .int .u64 (limb (pX (R)) 2 : Nat), .int .u64 (limb (pX (R)) 3 : Nat), .int .u64 (limb (pY (R)) 0 : Nat), .int .u64 (limb (pY (R)) 1 : Nat), .int .u64 (limb (pY (R)) 2 : Nat), .int .u64 (limb (pY (R)) 3 : Nat), .bool (pI (R))]) ?_ rfl ⟨rfl, HO.2⟩
          simp [results, Tryd.results49, go_sem, s0, s1, s2, s3, s4, s5, s6, s7, s8]
        · obtain ⟨d, hd⟩ : ∃ d, q = d + 1 := ⟨q - 1, by omega⟩
          have hq1 : (0 : Int) < (q : Int) := by omega
          have q257 : (q : Int) ≤ 257 := by omega
          obtain ⟨D, hD⟩ : ∃ D, D = gr.tot (fun k a => gr.mul (clN (q + 1) k) a) l := ⟨_, rfl⟩
          rw [← hD] at hSp
          have HSp : Hid (SpotA wi w5.heap.size g D ∧ Below w5.heap.size w5 wi) := ⟨hSp, hBw⟩
          have HD : Hid (D = gr.tot (fun k a => gr.mul (clN (q + 1) k) a) l ∧ q = d + 1 ∧ q ≤ 257) := ⟨hD, hd, hq⟩
          clear hSp hBw hD hd hq hq0 HKr2 KP
          go_wp2_with fail
          refine (KD.out _ _ _ ((H0.out.1.call HC.out.2.2.2.2).call HSp.out.2) HSp.out.1 ((H0.out.2.1.call HC.out.2.2.2.2).call HSp.out.2) NE.out).mono ?_
          rintro e wd ⟨rfl, hSd, hBd⟩
          have HSd : Hid (SpotA wd w5.heap.size g (gr.add D D) ∧ Below w5.heap.size w5 wd) := ⟨hSd, HSp.out.2.trans (hBd.below HSp.out.2.size (Nat.le_refl _))⟩
          clear hSd hBd HSp KD
          go_wp2_with fail
          rename_i Kr3 hKr3
          have HKr3 : Hid _ := hKr3
          clear hKr3
          go_loopw [59] (fun iv wj => ∃ j : Nat, j ≤ k ∧ iv = .int .i64 (j : Nat) ∧ SpotA wj w5.heap.size g (gr.add (gr.add D D) (gr.tot (gr.dig q) (l.take j))) ∧ Below w5.heap.size w5 wj) (fun iv _ => k - (Go.RowKit.intOf iv).toNat)
          case atStart => exact ⟨0, Nat.zero_le _, rfl, by rw [List.take_zero]; show SpotA _ _ _ (gr.add _ gr.z); rw [gr.zero]; exact HSd.out.1, HSd.out.2⟩
          case round =>
            clear HSd
            obtain ⟨j, hj, rfl, hSj, hBj⟩ := hrel
            rename World => wj
            have SP : Hid (SpotA wj w5.heap.size g (gr.add (gr.add D D) (gr.tot (gr.dig q) (l.take j))) ∧ Below w5.heap.size w5 wj) := ⟨hSj, hBj⟩
            clear hSj hBj
            by_cases hlt : j < k
            · clear HKr3
              have hjl : j < l.length := by rw [← H0.out.2.2.2.2.1]; exact hlt
              have hlt' : (j : Int) < (k : Int) := Int.ofNat_lt.2 hlt
              obtain ⟨kb, ko, hka, hNB⟩ := H0.out.2.2.1.elt hjl
              obtain ⟨pb, po, hpa, hPB⟩ := H0.out.2.2.2.1.elt hjl
              subst hka hpa
              have hkR := H0.out.2.2.2.2.2.1 _ (el_mem hjl)
              obtain ⟨m, hm⟩ : ∃ m, m = (el l j).1 := ⟨_, rfl⟩
              obtain ⟨p, hp⟩ : ∃ p, p = (el l j).2 := ⟨_, rfl⟩
              rw [← hm] at hNB hkR
              rw [← hp] at hPB
              obtain ⟨bm, hbm⟩ : ∃ b, b = bitN m q := ⟨_, rfl⟩
              obtain ⟨bp, hbp⟩ : ∃ b, b = bitN (m * 3) q := ⟨_, rfl⟩
              obtain ⟨i, hi⟩ : ∃ i, i = q / 64 := ⟨_, rfl⟩
              obtain ⟨r, hr⟩ : ∃ r, r = q % 64 := ⟨_, rfl⟩
              have hq7 := HD.out.2.2
              have ia : i < 8 := by omega
              have KM : Hid _ := KB.out m q bm hkR hbm
              have NB : Hid (∀ {wx : World}, Below w5.heap.size w5 wx → NumB wx kb (ko + j * 4) m) := fun h => (hNB.call HC.out.2.2.2.2).call h
              have PP2 : Hid (∀ {wx : World}, Below w5.heap.size w5 wx → PointB wx pb (po + j * 9) (pX p) (pY p) (pI p)) := fun h => (hPB.call HC.out.2.2.2.2).call h
              have PN : Hid (∀ {wx : World}, Below w5.heap.size w5 wx → PointB wx (w.heap.size + 1 + 1 + 1) (j * 9) (pX (gr.neg p)) (pY (gr.neg p)) (pI (gr.neg p))) := fun h => (HC.out.call h).2.2.2.1.pt hlt (by rw [hp]; unfold fP; rw [if_pos hlt]; rfl)
              have HT : Hid (∀ {wx : World}, Below w5.heap.size w5 wx → wx.cell? ⟨w.heap.size + 1 + 1, j * 8 + i, none⟩ = some (.int .u64 (limb (m * 3) i : Nat))) := fun h => (HC.out.call h).2.2.1.wide hlt (by rw [hm]; unfold fW; rw [if_pos hlt]) ia
              have HBP : Hid (Go.bits .and .u64 ((limb (m * 3) i : Int) / 2 ^ r) 1 = ((bp : Nat) : Int)) := by
                have h := bit_eq (m * 3) q i r ⟨hi, hr⟩
                rw [hbp]
                exact h
              have HQ : Hid (bp = bitN (m * 3) q ∧ bm = bitN m q ∧ m = (el l j).1 ∧ p = (el l j).2 ∧ j < l.length) := ⟨hbp, hbm, hm, hp, hjl⟩
              have e1 : (q : Int).tdiv 64 = (i : Nat) := by rw [Int.tdiv_eq_ediv_of_nonneg (by omega)]; omega
              have e2 : (q : Int) / 64 = (i : Nat) := by omega
              have e3 : (q : Int).tmod 64 = (r : Nat) := by rw [Int.tmod_eq_emod_of_nonneg (by omega)]; omega
              have e4 : (q : Int) % 64 = (r : Nat) := by omega
              have i8 : (i : Int) < 8 := by omega
              have r6 : (r : Int) < 64 := by omega
              have wi1 : IntKind.i64.wrap (i : Int) = (i : Int) := by rw [IntKind.wrap_i64]; omega
              have wr1 : IntKind.i64.wrap (r : Int) = (r : Int) := by rw [IntKind.wrap_i64]; omega
              have wj1 : IntKind.i64.wrap (j : Int) = (j : Int) := by rw [IntKind.wrap_i64]; omega
              clear hNB hPB hm hp hkR hbm hbp hi hr ia hq7 hjl hj
              go_upto_region 17 with fail
              go_cut [17, 18] (fun v1 v2 wx => v1 = .int .u64 (bp : Nat) ∧ v2 = .int .u64 (bm : Nat) ∧ Below wj.heap.size wj wx)
              case first =>
                refine wp_region_J 18 0 [?v0r17, ?v1r17, ?v2r17, ?v3r17, ?v4r17, ?v5r17, ?v6r17, ?v7r17, ?v8r17, ?v9r17, ?v10r17, ?v11r17, ?v12r17, ?v13r17, ?v14r17, ?v15r17, ?v16r17, ?v17r17] [some 62, some 63, some 64, some 65, some 66, some 67, some 68, some 69, some 70, some 71, some 72, some 73, some 74, some 75, some 76, some 77, some 78, some 17] ?Ar17 (by kernel_rfl) (by kernel_rfl) (by kernel_rfl) rfl ?hAr17 ?hopr17 ?hfinr17
                case hAr17 =>
                  simp only [List.set_cons_zero, List.set_cons_succ, List.zip_cons_cons, List.zip_nil_right, fillD, Act.put, List.setIfInBounds_toArray]
                  exact rfl
                case hopr17 =>
                  refine ⟨?_, ?_, ?_, ?_, ?_, ?_, ?_, ?_, ?_, ?_, ?_, ?_, ?_, ?_, ?_, ?_, ?_, ?_, trivial⟩
                  iterate 6 focus (intro _ bq wx hS; refine OpTo.yields rfl ?_; clear hS; go_simp; try with_reducible rfl)
                  focus (intro _ bq wx hS; refine OpTo.yields rfl ?_; have tc := HT.out (below_call0 SP.out.2 hS); clear hS; go_simp; try with_reducible rfl)
                  iterate 3 focus (intro _ bq wx hS; refine OpTo.yields rfl ?_; clear hS; go_simp; try with_reducible rfl)
                  focus (intro _ bq wx hS; refine OpTo.yields rfl ?_; have eb := HBP.out; clear hS; go_simp; try with_reducible rfl)
                  iterate 3 focus (intro _ bq wx hS; refine OpTo.yields rfl ?_; clear hS; go_simp; try with_reducible rfl)
                  focus (intro _ bq wx hS; refine OpTo.yields rfl ?_; obtain ⟨_, _, _, _, _⟩ := NB.out (below_call0 SP.out.2 hS); clear hS; go_simp; try with_reducible rfl)
                  focus (intro _ bq wx hS; refine OpTo.yields rfl ?_; clear hS; go_simp; try with_reducible rfl)
                  focus (intro _ bq wx hS; refine OpTo.calls rfl ?_ ?_; rotate_left; intro K hK; go_simp; refine (KM.out _).mono ?_; rintro e w' ⟨rfl, hq⟩; exact hK w' hq; exact rfl)
                  focus (intro _ bq wx hS; refine OpTo.yields rfl ?_; clear hS; go_simp; try with_reducible rfl)
                case hfinr17 =>
                  intro wx hS
                  refine tail_at (o := ?ofr17_18) ?hir17_18 ?hwr17_18 ?_
                  case hir17_18 => rw [List.getElem?_toArray]; exact rfl
                  case hwr17_18 => exact rfl
                  go_simp
                  refine tail_end ?_
                  go_wp2_with fail
                  go_meet
                  exact ⟨rfl, rfl, hS⟩
              case rest =>
                obtain ⟨rfl, rfl, hB⟩ := hcut
                have SP2 : Hid (SpotA wc w5.heap.size g (gr.add (gr.add D D) (gr.tot (gr.dig q) (l.take j))) ∧ Below w5.heap.size w5 wc) := ⟨SP.out.1.call hB, below_call0 SP.out.2 hB⟩
                clear hB SP HT HBP NB KM e1 e2 e3 e4 i8 r6 wi1 wr1
                generalize wc = w6 at SP2 ⊢
                have m2 := bitN_lt m q
                have p2 := bitN_lt (m * 3) q
                rw [← HQ.out.1] at p2
                rw [← HQ.out.2.1] at m2
                rcases (show (bp = 1 ∧ bm = 0) ∨ (bp = 0 ∧ bm = 1) ∨ (bp = 0 ∧ bm = 0) ∨ (bp = 1 ∧ bm = 1) by omega) with ⟨rfl, rfl⟩ | ⟨rfl, rfl⟩ | ⟨rfl, rfl⟩ | ⟨rfl, rfl⟩
                · clear m2 p2
                  go_wp2_with fail
                  refine (KA.out _ _ _ _ p _ ((H0.out.1.call HC.out.2.2.2.2).call SP2.out.2) SP2.out.1 (PP2.out SP2.out.2) ((H0.out.2.1.call HC.out.2.2.2.2).call SP2.out.2) NE.out).mono ?_
                  rintro e w7 ⟨rfl, hS7, hB7⟩
                  have HN : Hid (SpotA w7 w5.heap.size g (gr.add (gr.add D D) (gr.tot (gr.dig q) (l.take (j + 1)))) ∧ Below w5.heap.size w5 w7) := ⟨by rw [tot_take _ l HQ.out.2.2.2.2, ← gr.assoc, ← HQ.out.2.2.1, ← HQ.out.2.2.2.1, dig_p HQ.out.1.symm HQ.out.2.1.symm]; exact hS7, SP2.out.2.trans (hB7.below SP2.out.2.size (Nat.le_refl _))⟩
                  clear hS7 hB7 SP2 KA PP2 PN
                  go_wp2_with fail
                  go_roundw
                  case rel => first | exact ⟨j + 1, hlt, by go_num, HN.out⟩ | ((repeat apply Exists.intro); exact ⟨⟨j + 1, hlt, by go_num, HN.out⟩, rfl⟩)
                  case measure => simp [intOf]; omega
                · clear m2 p2
                  go_wp2_with fail
                  refine (KA.out _ _ _ _ (gr.neg p) _ ((H0.out.1.call HC.out.2.2.2.2).call SP2.out.2) SP2.out.1 (PN.out SP2.out.2) ((H0.out.2.1.call HC.out.2.2.2.2).call SP2.out.2) NE.out).mono ?_
                  rintro e w7 ⟨rfl, hS7, hB7⟩
                  have HN : Hid (SpotA w7 w5.heap.size g (gr.add (gr.add D D) (gr.tot (gr.dig q) (l.take (j + 1)))) ∧ Below w5.heap.size w5 w7) := ⟨by rw [tot_take _ l HQ.out.2.2.2.2, ← gr.assoc, ← HQ.out.2.2.1, ← HQ.out.2.2.2.1, dig_m HQ.out.1.symm HQ.out.2.1.symm]; exact hS7, SP2.out.2.trans (hB7.below SP2.out.2.size (Nat.le_refl _))⟩
                  clear hS7 hB7 SP2 KA PP2 PN
                  go_wp2_with fail
                  go_roundw
                  case rel => first | exact ⟨j + 1, hlt, by go_num, HN.out⟩ | ((repeat apply Exists.intro); exact ⟨⟨j + 1, hlt, by go_num, HN.out⟩, rfl⟩)
                  case measure => simp [intOf]; omega
                · have HN : Hid (SpotA w6 w5.heap.size g (gr.add (gr.add D D) (gr.tot (gr.dig q) (l.take (j + 1)))) ∧ Below w5.heap.size w5 w6) := ⟨by rw [tot_take _ l HQ.out.2.2.2.2, ← HQ.out.2.2.1, ← HQ.out.2.2.2.1, dig_z (HQ.out.1.symm.trans HQ.out.2.1), gr.zero]; exact SP2.out.1, SP2.out.2⟩
                  clear m2 p2 SP2 KA PP2 PN
                  go_wp2_with fail
                  go_roundw
                  case rel => first | exact ⟨j + 1, hlt, by go_num, HN.out⟩ | ((repeat apply Exists.intro); exact ⟨⟨j + 1, hlt, by go_num, HN.out⟩, rfl⟩)
                  case measure => simp [intOf]; omega
                · have HN : Hid (SpotA w6 w5.heap.size g (gr.add (gr.add D D) (gr.tot (gr.dig q) (l.take (j + 1)))) ∧ Below w5.heap.size w5 w6) := ⟨by rw [tot_take _ l HQ.out.2.2.2.2, ← HQ.out.2.2.1, ← HQ.out.2.2.2.1, dig_z (HQ.out.1.symm.trans HQ.out.2.1), gr.zero]; exact SP2.out.1, SP2.out.2⟩
                  clear m2 p2 SP2 KA PP2 PN
                  go_wp2_with fail
                  go_roundw
                  case rel => first | exact ⟨j + 1, hlt, by go_num, HN.out⟩ | ((repeat apply Exists.intro); exact ⟨⟨j + 1, hlt, by go_num, HN.out⟩, rfl⟩)
                  case measure => simp [intOf]; omega
            · obtain rfl : j = k := by omega
              have hnl : ¬ ((j : Int) < (j : Int)) := Int.lt_irrefl _
              have HE : Hid (SpotA wj w5.heap.size g (gr.tot (fun k a => gr.mul (clN (d + 1) k) a) l) ∧ Below w5.heap.size w5 wj) := ⟨by
                have h := SP.out.1
                rw [List.take_of_length_le (by rw [← H0.out.2.2.2.2.1]; exact Nat.le_refl _)] at h
                rw [← HD.out.2.1, gr.climb q l, ← HD.out.1]
                exact h, SP.out.2⟩
              have hqd : (q : Int) - 1 = (d : Int) := by have := HD.out.2.1; omega
              have hd7 : d ≤ 257 := by have := HD.out.2; omega
              clear hlt hj SP KA KB
              go_wp2_with fail
              refine HKr3.out _ _ ?_
              clear HKr3
              go_wp2_with fail
              go_roundw
              case rel => first | exact ⟨d, hd7, by first | rfl | go_num | rw [hqd], HE.out⟩ | ((repeat apply Exists.intro); exact ⟨⟨d, hd7, by first | rfl | go_num | rw [hqd], HE.out⟩, rfl⟩)
              case measure => simp [intOf]; omega
end Go.Proofs.YtchphekaonnfeaaDoor
