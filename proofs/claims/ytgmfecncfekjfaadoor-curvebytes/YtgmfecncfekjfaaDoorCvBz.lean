/- Package curve: Encode, Decode. -/
import Derived.Test.YtgmfecncfekjfaaDoorCvBy
import Derived.Laws.MakeOwn
namespace Go.Proofs.YtgmfecncfekjfaaDoor
open Go Go.RowKit Go.Lib

def z33 : ByteArray := ⟨(List.replicate 33 (0 : UInt8)).toArray⟩
theorem info_b8 : ∃ i, Tryd.prog.info? 5 = some i ∧ i.zero = some (.int .u8 0) ∧ i.size = 1 ∧ i.bytes = 1 := by
  have h : (Tryd.prog.info? 5).map (fun i => (i.zero, i.size, i.bytes)) = some (some (.int .u8 0), 1, 1) := by kernel_rfl
  cases e : Tryd.prog.info? 5 with
  | none => rw [e] at h; cases h
  | some i =>
    rw [e] at h
    simp only [Option.map_some, Option.some.injEq, Prod.mk.injEq] at h
    exact ⟨i, rfl, h.1, h.2.1, h.2.2⟩
theorem make_33 (w : World) : (Instr.makeSlice 86 (.int .i64 33) (.int .i64 33)).run Tryd.prog w = .ok (.slice (some ⟨w.heap.size, 0, none⟩) 33 33) (w.alloc (.cells (madeCells #[.int .u8 0] 33) 5)) := by
  obtain ⟨i, hi, hz, hsize, hby⟩ := info_b8
  have h := run_make (P := Tryd.prog) w 86 5 i _ Tryd.underlying86 hi hz .i64 .i64 33 33 (by decide) (Int.le_refl _) (by rw [hby]; decide) (by decide)
  rw [hsize] at h
  exact h
theorem conv_33 (w : World) : (convert 86 9 (.slice (some ⟨w.heap.size, 0, none⟩) 33 33)).run Tryd.prog (w.alloc (.cells (madeCells #[.int .u8 0] 33) 5)) = .ok (.string z33) (w.alloc (.cells (madeCells #[.int .u8 0] 33) 5)) := by
  have h := conv_list (w := w.alloc (.cells (madeCells #[.int .u8 0] 33) 5)) (b := w.heap.size) (cap := 33) (List.replicate 33 (0 : UInt8)) (fun j hj => by
    rw [World.cell?_alloc_new, List.getElem_replicate]
    have hj' : j < 33 := by simpa using hj
    have hk : j < (Array.range 33).size := by simpa using hj'
    unfold madeCells
    rw [Array.getElem?_map, Array.getElem?_eq_getElem hk, Option.map_some, Array.getElem_range]
    show some (#[Value.int .u8 0][j % 1]!) = _
    rw [Nat.mod_one]; rfl)
  rw [List.length_replicate] at h
  exact h
theorem str_beq (a b : ByteArray) : (a.toList == b.toList) = decide (a = b) := by
  by_cases h : a = b
  · rw [decide_eq_true h, h]; exact beq_self_eq_true _
  · rw [decide_eq_false h]
    refine beq_eq_false_iff_ne.2 fun c => h ?_
    rw [ByteArray.toList_eq, ByteArray.toList_eq] at c
    exact ByteArray.ext (Array.toList_inj.1 c)
/-- A first byte, and a number's. -/
def encF (c : UInt8) (x : Nat) : ByteArray := ⟨#[c]⟩ ++ ⟨(bytesL x 32).toArray⟩
set_option maxRecDepth 100000 in
set_option maxHeartbeats 4000000 in
theorem encode_badC (x y : Nat) (i : Bool) (hX : x < R256) (hY : y < R256) (hk : ptOk x y i = false) (w : World) (hG : GlobP w) :
    Calls Tryd.prog 20 #[.agg #[.int .u64 (limb (x) 0 : Nat), .int .u64 (limb (x) 1 : Nat), .int .u64 (limb (x) 2 : Nat), .int .u64 (limb (x) 3 : Nat), .int .u64 (limb (y) 0 : Nat), .int .u64 (limb (y) 1 : Nat), .int .u64 (limb (y) 2 : Nat), .int .u64 (limb (y) 3 : Nat), .bool i]] w fun e w' => e = .returned (.tuple #[.string ⟨#[]⟩, .int .i64 30]) ∧ Below w.heap.size w w' := by
  have K1 : Hid (∀ w, GlobP w → Calls Tryd.prog 13 #[.agg #[.int .u64 (limb (x) 0 : Nat), .int .u64 (limb (x) 1 : Nat), .int .u64 (limb (x) 2 : Nat), .int .u64 (limb (x) 3 : Nat), .int .u64 (limb (y) 0 : Nat), .int .u64 (limb (y) 1 : Nat), .int .u64 (limb (y) 2 : Nat), .int .u64 (limb (y) 3 : Nat), .bool i]] w fun e w' => e = .returned (.int .i64 30) ∧ Below w.heap.size w w') := fun w h => Check_bad x y i hX hY hk w h
  obtain ⟨w0, hw0⟩ : ∃ wq, wq = (w.alloc (.cells #[.int .u64 (limb (x) 0 : Nat), .int .u64 (limb (x) 1 : Nat), .int .u64 (limb (x) 2 : Nat), .int .u64 (limb (x) 3 : Nat), .int .u64 (limb (y) 0 : Nat), .int .u64 (limb (y) 1 : Nat), .int .u64 (limb (y) 2 : Nat), .int .u64 (limb (y) 3 : Nat), .bool i] 26)) := ⟨_, rfl⟩
  have H0 : Hid (OwnC w0 (w.heap.size) (ptL x y i)) ∧ Hid (Below w.heap.size w w0) ∧ Hid (GlobP w0) := by
    rw [hw0]
    exact ⟨(OwnC.new' rfl), below_alloc0 (Below.refl _ _) _, (hG).call (below_alloc0 (Below.refl _ _) _)⟩
  obtain ⟨P0_0, W_0, G_0⟩ := H0
  clear hX hY hk hG
  go_enter Tryd.func20, Tryd.ntmps20
  go_upto_region 1 with fail
  rw [← hw0]
  clear hw0
  obtain ⟨fP0z, fP00, fP01, fP02, fP03, fP04, fP05, fP06, fP07, fP08, fP0f⟩ := (P0_0.out).pt
  go_wp2_with fail
  clear fP0z fP00 fP01 fP02 fP03 fP04 fP05 fP06 fP07 fP08 fP0f
  refine (K1.out _ (G_0.out)).mono ?_
  rintro e w1 ⟨rfl, hq⟩
  have P0_1 : Hid (OwnC w1 (w.heap.size) (ptL x y i)) := OwnC.call P0_0.out hq
  have W_1 : Hid (Below w.heap.size w w1) := below_call0 W_0.out hq
  have G_1 : Hid (GlobP w1) := G_0.out.call hq
  clear hq P0_0 W_0 G_0
  go_upto_region 3 with fail
  go_wp2_with fail
  go_ret2
  exact ⟨rfl, W_1.out⟩
set_option maxRecDepth 100000 in
set_option maxHeartbeats 4000000 in
theorem encode_infC (x y : Nat) (hX : x < R256) (hY : y < R256) (hk : ptOk x y true = true) (w : World) (hG : GlobP w) :
    Calls Tryd.prog 20 #[.agg #[.int .u64 (limb (x) 0 : Nat), .int .u64 (limb (x) 1 : Nat), .int .u64 (limb (x) 2 : Nat), .int .u64 (limb (x) 3 : Nat), .int .u64 (limb (y) 0 : Nat), .int .u64 (limb (y) 1 : Nat), .int .u64 (limb (y) 2 : Nat), .int .u64 (limb (y) 3 : Nat), .bool true]] w fun e w' => e = .returned (.tuple #[.string z33, .int .i64 0]) ∧ Below w.heap.size w w' := by
  have K1 : Hid (∀ w, GlobP w → Calls Tryd.prog 13 #[.agg #[.int .u64 (limb (x) 0 : Nat), .int .u64 (limb (x) 1 : Nat), .int .u64 (limb (x) 2 : Nat), .int .u64 (limb (x) 3 : Nat), .int .u64 (limb (y) 0 : Nat), .int .u64 (limb (y) 1 : Nat), .int .u64 (limb (y) 2 : Nat), .int .u64 (limb (y) 3 : Nat), .bool true]] w fun e w' => e = .returned (.int .i64 0) ∧ Below w.heap.size w w') := fun w h => Check_ok x y true hX hY hk w h
  obtain ⟨w0, hw0⟩ : ∃ wq, wq = (w.alloc (.cells #[.int .u64 (limb (x) 0 : Nat), .int .u64 (limb (x) 1 : Nat), .int .u64 (limb (x) 2 : Nat), .int .u64 (limb (x) 3 : Nat), .int .u64 (limb (y) 0 : Nat), .int .u64 (limb (y) 1 : Nat), .int .u64 (limb (y) 2 : Nat), .int .u64 (limb (y) 3 : Nat), .bool true] 26)) := ⟨_, rfl⟩
  have H0 : Hid (OwnC w0 (w.heap.size) (ptL x y true)) ∧ Hid (Below w.heap.size w w0) ∧ Hid (GlobP w0) := by
    rw [hw0]
    exact ⟨(OwnC.new' rfl), below_alloc0 (Below.refl _ _) _, (hG).call (below_alloc0 (Below.refl _ _) _)⟩
  obtain ⟨P0_0, W_0, G_0⟩ := H0
  clear hX hY hk hG
  go_enter Tryd.func20, Tryd.ntmps20
  go_upto_region 1 with fail
  rw [← hw0]
  clear hw0
  obtain ⟨fP0z, fP00, fP01, fP02, fP03, fP04, fP05, fP06, fP07, fP08, fP0f⟩ := (P0_0.out).pt
  go_wp2_with fail
  clear fP0z fP00 fP01 fP02 fP03 fP04 fP05 fP06 fP07 fP08 fP0f
  refine (K1.out _ (G_0.out)).mono ?_
  rintro e w1 ⟨rfl, hq⟩
  have P0_1 : Hid (OwnC w1 (w.heap.size) (ptL x y true)) := OwnC.call P0_0.out hq
  have W_1 : Hid (Below w.heap.size w w1) := below_call0 W_0.out hq
  have G_1 : Hid (GlobP w1) := G_0.out.call hq
  clear hq P0_0 W_0 G_0
  obtain ⟨fP0z, fP00, fP01, fP02, fP03, fP04, fP05, fP06, fP07, fP08, fP0f⟩ := (P0_1.out).pt
  go_upto_region 5 with fail
  clear fP0z fP00 fP01 fP02 fP03 fP04 fP05 fP06 fP07 fP08 fP0f
  have hm := make_33
  have hc := conv_33
  go_wp2_with fail
  clear hm hc
  go_ret2
  exact ⟨rfl, below_alloc0 W_1.out _⟩
set_option maxRecDepth 100000 in
set_option maxHeartbeats 4000000 in
theorem encode_evenC (x y : Nat) (hX : x < R256) (hY : y < R256) (hk : ptOk x y false = true) (hp : y % 2 = 0) (w : World) (hG : GlobP w) :
    Calls Tryd.prog 20 #[.agg #[.int .u64 (limb (x) 0 : Nat), .int .u64 (limb (x) 1 : Nat), .int .u64 (limb (x) 2 : Nat), .int .u64 (limb (x) 3 : Nat), .int .u64 (limb (y) 0 : Nat), .int .u64 (limb (y) 1 : Nat), .int .u64 (limb (y) 2 : Nat), .int .u64 (limb (y) 3 : Nat), .bool false]] w fun e w' => e = .returned (.tuple #[.string (encF 2 x), .int .i64 0]) ∧ Below w.heap.size w w' := by
  have KB : Hid (∀ w, Calls Tryd.prog 50 #[.agg #[.int .u64 (limb (y) 0 : Nat), .int .u64 (limb (y) 1 : Nat), .int .u64 (limb (y) 2 : Nat), .int .u64 (limb (y) 3 : Nat)], .int .i64 0] w fun e w' => e = .returned (.int .u64 0) ∧ Below w.heap.size w w') := fun w => by have k := bit_in y 0 (by decide) w; rw [show bitN y 0 = 0 from by unfold bitN; rw [Nat.pow_zero, Nat.div_one]; exact hp] at k; exact k
  have K1 : Hid (∀ w, GlobP w → Calls Tryd.prog 13 #[.agg #[.int .u64 (limb (x) 0 : Nat), .int .u64 (limb (x) 1 : Nat), .int .u64 (limb (x) 2 : Nat), .int .u64 (limb (x) 3 : Nat), .int .u64 (limb (y) 0 : Nat), .int .u64 (limb (y) 1 : Nat), .int .u64 (limb (y) 2 : Nat), .int .u64 (limb (y) 3 : Nat), .bool false]] w fun e w' => e = .returned (.int .i64 0) ∧ Below w.heap.size w w') := fun w h => Check_ok x y false hX hY hk w h
  have K2 : Hid (∀ w, Calls Tryd.prog 51 #[.agg #[.int .u64 (limb (x) 0 : Nat), .int .u64 (limb (x) 1 : Nat), .int .u64 (limb (x) 2 : Nat), .int .u64 (limb (x) 3 : Nat)]] w fun e w' => e = .returned (.string ⟨(bytesL x 32).toArray⟩) ∧ Below w.heap.size w w') := fun w => bytes_any x w
  obtain ⟨w0, hw0⟩ : ∃ wq, wq = (w.alloc (.cells #[.int .u64 (limb (x) 0 : Nat), .int .u64 (limb (x) 1 : Nat), .int .u64 (limb (x) 2 : Nat), .int .u64 (limb (x) 3 : Nat), .int .u64 (limb (y) 0 : Nat), .int .u64 (limb (y) 1 : Nat), .int .u64 (limb (y) 2 : Nat), .int .u64 (limb (y) 3 : Nat), .bool false] 26)) := ⟨_, rfl⟩
  have H0 : Hid (OwnC w0 (w.heap.size) (ptL x y false)) ∧ Hid (Below w.heap.size w w0) ∧ Hid (GlobP w0) := by
    rw [hw0]
    exact ⟨(OwnC.new' rfl), below_alloc0 (Below.refl _ _) _, (hG).call (below_alloc0 (Below.refl _ _) _)⟩
  obtain ⟨P0_0, W_0, G_0⟩ := H0
  clear hX hY hk hp hG
  go_enter Tryd.func20, Tryd.ntmps20
  go_upto_region 1 with fail
  rw [← hw0]
  clear hw0
  obtain ⟨fP0z, fP00, fP01, fP02, fP03, fP04, fP05, fP06, fP07, fP08, fP0f⟩ := (P0_0.out).pt
  go_wp2_with fail
  clear fP0z fP00 fP01 fP02 fP03 fP04 fP05 fP06 fP07 fP08 fP0f
  refine (K1.out _ (G_0.out)).mono ?_
  rintro e w1 ⟨rfl, hq⟩
  have P0_1 : Hid (OwnC w1 (w.heap.size) (ptL x y false)) := OwnC.call P0_0.out hq
  have W_1 : Hid (Below w.heap.size w w1) := below_call0 W_0.out hq
  have G_1 : Hid (GlobP w1) := G_0.out.call hq
  clear hq P0_0 W_0 G_0
  obtain ⟨fP0z, fP00, fP01, fP02, fP03, fP04, fP05, fP06, fP07, fP08, fP0f⟩ := (P0_1.out).pt
  go_upto_region 6 with fail
  go_wp2_with fail
  clear fP0z fP00 fP01 fP02 fP03 fP04 fP05 fP06 fP07 fP08 fP0f
  refine (KB.out _).mono ?_
  rintro e w2 ⟨rfl, hq⟩
  have P0_2 : Hid (OwnC w2 w.heap.size (ptL x y false)) := (OwnC.alloc P0_1.out).call hq
  have B_2 : Hid (OwnC w2 w1.heap.size [.int .u8 2]) := (OwnC.new' rfl).call hq
  have W_2 : Hid (Below w.heap.size w w2) := below_call0 (below_alloc0 W_1.out _) hq
  have HLE : Hid (w.heap.size ≤ w1.heap.size ∧ w.heap.size ≠ w1.heap.size) := ⟨W_1.out.size, Nat.ne_of_lt P0_1.out.1⟩
  clear hq KB P0_1 G_1 W_1
  go_upto_region 9 with fail
  refine wp_region_J 6 1 [?v0r9, ?v1r9, ?v2r9, ?v3r9, ?v4r9, ?v5r9] [some 22, some 23, some 24, some 25, some 26, some 27] ?Ar9 (by kernel_rfl) (by kernel_rfl) (by kernel_rfl) rfl ?hAr9 ?hopr9 ?hfinr9
  case hAr9 =>
    simp only [List.set_cons_zero, List.set_cons_succ, List.zip_cons_cons, List.zip_nil_right, fillD, Act.put, List.setIfInBounds_toArray]
    exact rfl
  case hopr9 =>
    refine ⟨?_, ?_, ?_, ?_, ?_, ?_, trivial⟩
    focus (intro _ bq wx hS; refine OpTo.yields rfl ?_; clear hS; go_simp; try with_reducible rfl)
    focus (intro _ bq wx hS; refine OpTo.yields rfl ?_; have hcv := conv_1 2 (OwnC.one (B_2.out.call hS)).2.1; clear hS; go_simp; try with_reducible rfl)
    focus (intro _ bq wx hS; refine OpTo.yields rfl ?_; clear hS; go_simp; try with_reducible rfl)
    focus (intro _ bq wx hS; refine OpTo.yields rfl ?_; obtain ⟨_, _, _, _, _, _, _, _, _, _, _⟩ := (OwnC.call P0_2.out hS).pt; clear hS; go_simp; try with_reducible rfl)
    focus (intro _ bq wx hS; refine OpTo.calls rfl ?_ ?_; rotate_left; intro K hK; go_simp; refine (K2.out _).mono ?_; rintro e w' ⟨rfl, hq⟩; exact hK w' hq; exact rfl)
    focus (intro _ bq wx hS; refine OpTo.yields rfl ?_; have hlb := bytesL_length x 32; clear hS; go_simp; try with_reducible rfl)
  case hfinr9 =>
    intro wx hS
    refine tail_at (o := ?ofr9_6) ?hir9_6 ?hwr9_6 ?_
    case hir9_6 => rw [List.getElem?_toArray]; exact rfl
    case hwr9_6 => exact rfl
    go_simp
    refine tail_at (o := ?ofr9_7) ?hir9_7 ?hwr9_7 ?_
    case hir9_7 => rw [List.getElem?_toArray]; exact rfl
    case hwr9_7 => exact rfl
    go_simp
    refine tail_end ?_
    go_wp2_with fail
    go_ret2
    exact ⟨rfl, below_call0 W_2.out hS⟩
set_option maxRecDepth 100000 in
set_option maxHeartbeats 4000000 in
theorem encode_oddC (x y : Nat) (hX : x < R256) (hY : y < R256) (hk : ptOk x y false = true) (hp : y % 2 = 1) (w : World) (hG : GlobP w) :
    Calls Tryd.prog 20 #[.agg #[.int .u64 (limb (x) 0 : Nat), .int .u64 (limb (x) 1 : Nat), .int .u64 (limb (x) 2 : Nat), .int .u64 (limb (x) 3 : Nat), .int .u64 (limb (y) 0 : Nat), .int .u64 (limb (y) 1 : Nat), .int .u64 (limb (y) 2 : Nat), .int .u64 (limb (y) 3 : Nat), .bool false]] w fun e w' => e = .returned (.tuple #[.string (encF 3 x), .int .i64 0]) ∧ Below w.heap.size w w' := by
  have KB : Hid (∀ w, Calls Tryd.prog 50 #[.agg #[.int .u64 (limb (y) 0 : Nat), .int .u64 (limb (y) 1 : Nat), .int .u64 (limb (y) 2 : Nat), .int .u64 (limb (y) 3 : Nat)], .int .i64 0] w fun e w' => e = .returned (.int .u64 1) ∧ Below w.heap.size w w') := fun w => by have k := bit_in y 0 (by decide) w; rw [show bitN y 0 = 1 from by unfold bitN; rw [Nat.pow_zero, Nat.div_one]; exact hp] at k; exact k
  have K1 : Hid (∀ w, GlobP w → Calls Tryd.prog 13 #[.agg #[.int .u64 (limb (x) 0 : Nat), .int .u64 (limb (x) 1 : Nat), .int .u64 (limb (x) 2 : Nat), .int .u64 (limb (x) 3 : Nat), .int .u64 (limb (y) 0 : Nat), .int .u64 (limb (y) 1 : Nat), .int .u64 (limb (y) 2 : Nat), .int .u64 (limb (y) 3 : Nat), .bool false]] w fun e w' => e = .returned (.int .i64 0) ∧ Below w.heap.size w w') := fun w h => Check_ok x y false hX hY hk w h
  have K2 : Hid (∀ w, Calls Tryd.prog 51 #[.agg #[.int .u64 (limb (x) 0 : Nat), .int .u64 (limb (x) 1 : Nat), .int .u64 (limb (x) 2 : Nat), .int .u64 (limb (x) 3 : Nat)]] w fun e w' => e = .returned (.string ⟨(bytesL x 32).toArray⟩) ∧ Below w.heap.size w w') := fun w => bytes_any x w
  obtain ⟨w0, hw0⟩ : ∃ wq, wq = (w.alloc (.cells #[.int .u64 (limb (x) 0 : Nat), .int .u64 (limb (x) 1 : Nat), .int .u64 (limb (x) 2 : Nat), .int .u64 (limb (x) 3 : Nat), .int .u64 (limb (y) 0 : Nat), .int .u64 (limb (y) 1 : Nat), .int .u64 (limb (y) 2 : Nat), .int .u64 (limb (y) 3 : Nat), .bool false] 26)) := ⟨_, rfl⟩
  have H0 : Hid (OwnC w0 (w.heap.size) (ptL x y false)) ∧ Hid (Below w.heap.size w w0) ∧ Hid (GlobP w0) := by
    rw [hw0]
    exact ⟨(OwnC.new' rfl), below_alloc0 (Below.refl _ _) _, (hG).call (below_alloc0 (Below.refl _ _) _)⟩
  obtain ⟨P0_0, W_0, G_0⟩ := H0
  clear hX hY hk hp hG
  go_enter Tryd.func20, Tryd.ntmps20
  go_upto_region 1 with fail
  rw [← hw0]
  clear hw0
  obtain ⟨fP0z, fP00, fP01, fP02, fP03, fP04, fP05, fP06, fP07, fP08, fP0f⟩ := (P0_0.out).pt
  go_wp2_with fail
  clear fP0z fP00 fP01 fP02 fP03 fP04 fP05 fP06 fP07 fP08 fP0f
  refine (K1.out _ (G_0.out)).mono ?_
  rintro e w1 ⟨rfl, hq⟩
  have P0_1 : Hid (OwnC w1 (w.heap.size) (ptL x y false)) := OwnC.call P0_0.out hq
  have W_1 : Hid (Below w.heap.size w w1) := below_call0 W_0.out hq
  have G_1 : Hid (GlobP w1) := G_0.out.call hq
  clear hq P0_0 W_0 G_0
  obtain ⟨fP0z, fP00, fP01, fP02, fP03, fP04, fP05, fP06, fP07, fP08, fP0f⟩ := (P0_1.out).pt
  go_upto_region 6 with fail
  go_wp2_with fail
  clear fP0z fP00 fP01 fP02 fP03 fP04 fP05 fP06 fP07 fP08 fP0f
  refine (KB.out _).mono ?_
  rintro e w2 ⟨rfl, hq⟩
  have P0_2 : Hid (OwnC w2 w.heap.size (ptL x y false)) := (OwnC.alloc P0_1.out).call hq
  have B_2 : Hid (OwnC w2 w1.heap.size [.int .u8 2]) := (OwnC.new' rfl).call hq
  have W_2 : Hid (Below w.heap.size w w2) := below_call0 (below_alloc0 W_1.out _) hq
  have HLE : Hid (w.heap.size ≤ w1.heap.size ∧ w.heap.size ≠ w1.heap.size) := ⟨W_1.out.size, Nat.ne_of_lt P0_1.out.1⟩
  clear hq KB P0_1 G_1 W_1
  obtain ⟨bz, b0, bf⟩ := OwnC.one B_2.out
  go_upto_region 9 with fail
  clear bz b0 bf
  obtain ⟨w3, hw3⟩ : ∃ wq, wq = w2.setCell ⟨w1.heap.size, 0, none⟩ (.int .u8 3) := ⟨_, rfl⟩
  rw [← hw3]
  have P0_3 : Hid (OwnC w3 w.heap.size (ptL x y false)) := by rw [hw3]; exact OwnC.puts [.int .u8 3] 0 P0_2.out HLE.out.2
  have B_3 : Hid (OwnC w3 w1.heap.size [.int .u8 3]) := by rw [hw3]; exact OwnC.put [.int .u8 3] B_2.out rfl
  have W_3 : Hid (Below w.heap.size w w3) := by rw [hw3]; exact below_putL HLE.out.1 [.int .u8 3] 0 _ W_2.out
  clear hw3 P0_2 B_2 W_2
  refine wp_region_J 6 1 [?v0r9, ?v1r9, ?v2r9, ?v3r9, ?v4r9, ?v5r9] [some 22, some 23, some 24, some 25, some 26, some 27] ?Ar9 (by kernel_rfl) (by kernel_rfl) (by kernel_rfl) rfl ?hAr9 ?hopr9 ?hfinr9
  case hAr9 =>
    simp only [List.set_cons_zero, List.set_cons_succ, List.zip_cons_cons, List.zip_nil_right, fillD, Act.put, List.setIfInBounds_toArray]
    exact rfl
  case hopr9 =>
    refine ⟨?_, ?_, ?_, ?_, ?_, ?_, trivial⟩
    focus (intro _ bq wx hS; refine OpTo.yields rfl ?_; clear hS; go_simp; try with_reducible rfl)
    focus (intro _ bq wx hS; refine OpTo.yields rfl ?_; have hcv := conv_1 3 (OwnC.one (B_3.out.call hS)).2.1; clear hS; go_simp; try with_reducible rfl)
    focus (intro _ bq wx hS; refine OpTo.yields rfl ?_; clear hS; go_simp; try with_reducible rfl)
    focus (intro _ bq wx hS; refine OpTo.yields rfl ?_; obtain ⟨_, _, _, _, _, _, _, _, _, _, _⟩ := (OwnC.call P0_3.out hS).pt; clear hS; go_simp; try with_reducible rfl)
    focus (intro _ bq wx hS; refine OpTo.calls rfl ?_ ?_; rotate_left; intro K hK; go_simp; refine (K2.out _).mono ?_; rintro e w' ⟨rfl, hq⟩; exact hK w' hq; exact rfl)
    focus (intro _ bq wx hS; refine OpTo.yields rfl ?_; have hlb := bytesL_length x 32; clear hS; go_simp; try with_reducible rfl)
  case hfinr9 =>
    intro wx hS
    refine tail_at (o := ?ofr9_6) ?hir9_6 ?hwr9_6 ?_
    case hir9_6 => rw [List.getElem?_toArray]; exact rfl
    case hwr9_6 => exact rfl
    go_simp
    refine tail_at (o := ?ofr9_7) ?hir9_7 ?hwr9_7 ?_
    case hir9_7 => rw [List.getElem?_toArray]; exact rfl
    case hwr9_7 => exact rfl
    go_simp
    refine tail_end ?_
    go_wp2_with fail
    go_ret2
    exact ⟨rfl, below_call0 W_3.out hS⟩
set_option maxRecDepth 100000 in
set_option maxHeartbeats 4000000 in
theorem decode_lenC (s : ByteArray) (hs : s.size ≠ 33) (w : World) :
    Calls Tryd.prog 22 #[.string s] w fun e w' => e = .returned (.tuple #[.agg #[.int .u64 0, .int .u64 0, .int .u64 0, .int .u64 0, .int .u64 0, .int .u64 0, .int .u64 0, .int .u64 0, .bool false], .int .i64 4]) ∧ Below w.heap.size w w' := by
  obtain ⟨w0, hw0⟩ : ∃ wq, wq = (w.alloc (.cells #[.int .u64 0, .int .u64 0, .int .u64 0, .int .u64 0, .int .u64 0, .int .u64 0, .int .u64 0, .int .u64 0, .bool false] 26)) := ⟨_, rfl⟩
  have H0 : Hid (OwnC w0 (w.heap.size) zpL) ∧ Hid (Below w.heap.size w w0) := by
    rw [hw0]
    exact ⟨(OwnC.new' rfl), below_alloc0 (Below.refl _ _) _⟩
  obtain ⟨P0_0, W_0⟩ := H0
  have hsz : ¬ ((s.size : Int) = 33) := by omega
  have hsb : ((s.size : Int) == 33) = false := by simpa using hsz
  clear hs
  go_enter Tryd.func22, Tryd.ntmps22
  go_upto_region 1 with fail
  rw [← hw0]
  clear hw0
  go_upto_region 2 with fail
  obtain ⟨fP0z, fP00, fP01, fP02, fP03, fP04, fP05, fP06, fP07, fP08, fP0f⟩ := (P0_0.out).zp
  go_wp2_with fail
  clear fP0z fP00 fP01 fP02 fP03 fP04 fP05 fP06 fP07 fP08 fP0f
  obtain ⟨wz, hwz⟩ : ∃ wq, wq = (((((((((w0.setCell ⟨w.heap.size, 0, none⟩ (.int .u64 0)).setCell ⟨w.heap.size, 1, none⟩ (.int .u64 0)).setCell ⟨w.heap.size, 2, none⟩ (.int .u64 0)).setCell ⟨w.heap.size, 3, none⟩ (.int .u64 0)).setCell ⟨w.heap.size, 4, none⟩ (.int .u64 0)).setCell ⟨w.heap.size, 5, none⟩ (.int .u64 0)).setCell ⟨w.heap.size, 6, none⟩ (.int .u64 0)).setCell ⟨w.heap.size, 7, none⟩ (.int .u64 0)).setCell ⟨w.heap.size, 8, none⟩ (.bool false)) := ⟨_, rfl⟩
  rw [← hwz]
  have hwy : wz = putL w.heap.size 0 zpL w0 := hwz
  have HZ : OwnC wz w.heap.size zpL ∧ Below w.heap.size w wz := by
    rw [hwy]
    exact ⟨OwnC.put zpL P0_0.out rfl, below_putL (Nat.le_refl _) zpL 0 _ W_0.out⟩
  clear hwz hwy
  obtain ⟨hO, HB⟩ := HZ
  obtain ⟨rz, r0, r1, r2, r3, r4, r5, r6, r7, r8, rf⟩ := hO.zp
  refine bodyPost_ret (v := .tuple #[.agg #[.int .u64 0, .int .u64 0, .int .u64 0, .int .u64 0, .int .u64 0, .int .u64 0, .int .u64 0, .int .u64 0, .bool false], .int .i64 4]) ?_ rfl ⟨rfl, HB⟩
  simp [results, Tryd.results22, go_sem, r0, r1, r2, r3, r4, r5, r6, r7, r8]
set_option maxRecDepth 100000 in
set_option maxHeartbeats 4000000 in
theorem decode_zeroC (s : ByteArray) (hs : s.size = 33) (c : Nat) (hc : sbyte s 0 = c) (h0 : c = 0) (he : s = z33) (w : World) :
    Calls Tryd.prog 22 #[.string s] w fun e w' => e = .returned (.tuple #[.agg #[.int .u64 0, .int .u64 0, .int .u64 0, .int .u64 0, .int .u64 0, .int .u64 0, .int .u64 0, .int .u64 0, .bool true], .int .i64 0]) ∧ Below w.heap.size w w' := by
  obtain ⟨w0, hw0⟩ : ∃ wq, wq = (w.alloc (.cells #[.int .u64 0, .int .u64 0, .int .u64 0, .int .u64 0, .int .u64 0, .int .u64 0, .int .u64 0, .int .u64 0, .bool false] 26)) := ⟨_, rfl⟩
  have H0 : Hid (OwnC w0 (w.heap.size) zpL) ∧ Hid (Below w.heap.size w w0) := by
    rw [hw0]
    exact ⟨(OwnC.new' rfl), below_alloc0 (Below.refl _ _) _⟩
  obtain ⟨P0_0, W_0⟩ := H0
  have HS : Hid (s.size = 33) := hs
  have hsz : (s.size : Int) = 33 := by omega
  have hb : ∀ h, (s[0]'h).toNat = c := fun h => by rw [← hc]; exact sbyte_eq s 0 h
  have h0s : 0 < s.size := by omega
  clear hs hc
  have he1 : (s.toList == z33.toList) = true := by rw [str_beq]; exact decide_eq_true he
  clear he
  have hm := make_33
  have hcv := conv_33
  subst h0
  go_enter Tryd.func22, Tryd.ntmps22
  go_upto_region 1 with fail
  rw [← hw0]
  clear hw0
  go_upto_region 7 with fail
  clear hm hcv
  obtain ⟨w1, hw1⟩ : ∃ wq, wq = w0.alloc (.cells (madeCells #[.int .u8 0] 33) 5) := ⟨_, rfl⟩
  rw [← hw1]
  have hq : Below w0.heap.size w0 w1 := by rw [hw1]; exact below_alloc0 (Below.refl _ _) _
  clear hw1
  have P0_1 : Hid (OwnC w1 (w.heap.size) zpL) := OwnC.call P0_0.out hq
  have W_1 : Hid (Below w.heap.size w w1) := below_call0 W_0.out hq
  clear hq P0_0 W_0
  obtain ⟨fP0z, fP00, fP01, fP02, fP03, fP04, fP05, fP06, fP07, fP08, fP0f⟩ := (P0_1.out).zp
  go_wp2_with fail
  clear fP0z fP00 fP01 fP02 fP03 fP04 fP05 fP06 fP07 fP08 fP0f
  obtain ⟨wz, hwz⟩ : ∃ wq, wq = (((((((((w1.setCell ⟨w.heap.size, 0, none⟩ (.int .u64 0)).setCell ⟨w.heap.size, 1, none⟩ (.int .u64 0)).setCell ⟨w.heap.size, 2, none⟩ (.int .u64 0)).setCell ⟨w.heap.size, 3, none⟩ (.int .u64 0)).setCell ⟨w.heap.size, 4, none⟩ (.int .u64 0)).setCell ⟨w.heap.size, 5, none⟩ (.int .u64 0)).setCell ⟨w.heap.size, 6, none⟩ (.int .u64 0)).setCell ⟨w.heap.size, 7, none⟩ (.int .u64 0)).setCell ⟨w.heap.size, 8, none⟩ (.bool true)) := ⟨_, rfl⟩
  rw [← hwz]
  have hwy : wz = putL w.heap.size 0 ziL w1 := hwz
  have HZ : OwnC wz w.heap.size ziL ∧ Below w.heap.size w wz := by
    rw [hwy]
    exact ⟨OwnC.put ziL P0_1.out rfl, below_putL (Nat.le_refl _) ziL 0 _ W_1.out⟩
  clear hwz hwy
  obtain ⟨hO, HB⟩ := HZ
  obtain ⟨rz, r0, r1, r2, r3, r4, r5, r6, r7, r8, rf⟩ := hO.zi
  refine bodyPost_ret (v := .tuple #[.agg #[.int .u64 0, .int .u64 0, .int .u64 0, .int .u64 0, .int .u64 0, .int .u64 0, .int .u64 0, .int .u64 0, .bool true], .int .i64 0]) ?_ rfl ⟨rfl, HB⟩
  simp [results, Tryd.results22, go_sem, r0, r1, r2, r3, r4, r5, r6, r7, r8]
set_option maxRecDepth 100000 in
set_option maxHeartbeats 4000000 in
theorem decode_mixC (s : ByteArray) (hs : s.size = 33) (c : Nat) (hc : sbyte s 0 = c) (h0 : c = 0) (he : s ≠ z33) (w : World) :
    Calls Tryd.prog 22 #[.string s] w fun e w' => e = .returned (.tuple #[.agg #[.int .u64 0, .int .u64 0, .int .u64 0, .int .u64 0, .int .u64 0, .int .u64 0, .int .u64 0, .int .u64 0, .bool false], .int .i64 4]) ∧ Below w.heap.size w w' := by
  obtain ⟨w0, hw0⟩ : ∃ wq, wq = (w.alloc (.cells #[.int .u64 0, .int .u64 0, .int .u64 0, .int .u64 0, .int .u64 0, .int .u64 0, .int .u64 0, .int .u64 0, .bool false] 26)) := ⟨_, rfl⟩
  have H0 : Hid (OwnC w0 (w.heap.size) zpL) ∧ Hid (Below w.heap.size w w0) := by
    rw [hw0]
    exact ⟨(OwnC.new' rfl), below_alloc0 (Below.refl _ _) _⟩
  obtain ⟨P0_0, W_0⟩ := H0
  have HS : Hid (s.size = 33) := hs
  have hsz : (s.size : Int) = 33 := by omega
  have hb : ∀ h, (s[0]'h).toNat = c := fun h => by rw [← hc]; exact sbyte_eq s 0 h
  have h0s : 0 < s.size := by omega
  clear hs hc
  have he1 : (s.toList == z33.toList) = false := by rw [str_beq]; exact decide_eq_false he
  clear he
  have hm := make_33
  have hcv := conv_33
  subst h0
  go_enter Tryd.func22, Tryd.ntmps22
  go_upto_region 1 with fail
  rw [← hw0]
  clear hw0
  go_upto_region 6 with fail
  clear hm hcv
  obtain ⟨w1, hw1⟩ : ∃ wq, wq = w0.alloc (.cells (madeCells #[.int .u8 0] 33) 5) := ⟨_, rfl⟩
  rw [← hw1]
  have hq : Below w0.heap.size w0 w1 := by rw [hw1]; exact below_alloc0 (Below.refl _ _) _
  clear hw1
  have P0_1 : Hid (OwnC w1 (w.heap.size) zpL) := OwnC.call P0_0.out hq
  have W_1 : Hid (Below w.heap.size w w1) := below_call0 W_0.out hq
  clear hq P0_0 W_0
  obtain ⟨fP0z, fP00, fP01, fP02, fP03, fP04, fP05, fP06, fP07, fP08, fP0f⟩ := (P0_1.out).zp
  go_wp2_with fail
  clear fP0z fP00 fP01 fP02 fP03 fP04 fP05 fP06 fP07 fP08 fP0f
  obtain ⟨wz, hwz⟩ : ∃ wq, wq = (((((((((w1.setCell ⟨w.heap.size, 0, none⟩ (.int .u64 0)).setCell ⟨w.heap.size, 1, none⟩ (.int .u64 0)).setCell ⟨w.heap.size, 2, none⟩ (.int .u64 0)).setCell ⟨w.heap.size, 3, none⟩ (.int .u64 0)).setCell ⟨w.heap.size, 4, none⟩ (.int .u64 0)).setCell ⟨w.heap.size, 5, none⟩ (.int .u64 0)).setCell ⟨w.heap.size, 6, none⟩ (.int .u64 0)).setCell ⟨w.heap.size, 7, none⟩ (.int .u64 0)).setCell ⟨w.heap.size, 8, none⟩ (.bool false)) := ⟨_, rfl⟩
  rw [← hwz]
  have hwy : wz = putL w.heap.size 0 zpL w1 := hwz
  have HZ : OwnC wz w.heap.size zpL ∧ Below w.heap.size w wz := by
    rw [hwy]
    exact ⟨OwnC.put zpL P0_1.out rfl, below_putL (Nat.le_refl _) zpL 0 _ W_1.out⟩
  clear hwz hwy
  obtain ⟨hO, HB⟩ := HZ
  obtain ⟨rz, r0, r1, r2, r3, r4, r5, r6, r7, r8, rf⟩ := hO.zp
  refine bodyPost_ret (v := .tuple #[.agg #[.int .u64 0, .int .u64 0, .int .u64 0, .int .u64 0, .int .u64 0, .int .u64 0, .int .u64 0, .int .u64 0, .bool false], .int .i64 4]) ?_ rfl ⟨rfl, HB⟩
  simp [results, Tryd.results22, go_sem, r0, r1, r2, r3, r4, r5, r6, r7, r8]
set_option maxRecDepth 100000 in
set_option maxHeartbeats 4000000 in
theorem decode_formC (s : ByteArray) (hs : s.size = 33) (c : Nat) (hc : sbyte s 0 = c) (h0 : c ≠ 0 ∧ c ≠ 2 ∧ c ≠ 3) (w : World) :
    Calls Tryd.prog 22 #[.string s] w fun e w' => e = .returned (.tuple #[.agg #[.int .u64 0, .int .u64 0, .int .u64 0, .int .u64 0, .int .u64 0, .int .u64 0, .int .u64 0, .int .u64 0, .bool false], .int .i64 4]) ∧ Below w.heap.size w w' := by
  obtain ⟨w0, hw0⟩ : ∃ wq, wq = (w.alloc (.cells #[.int .u64 0, .int .u64 0, .int .u64 0, .int .u64 0, .int .u64 0, .int .u64 0, .int .u64 0, .int .u64 0, .bool false] 26)) := ⟨_, rfl⟩
  have H0 : Hid (OwnC w0 (w.heap.size) zpL) ∧ Hid (Below w.heap.size w w0) := by
    rw [hw0]
    exact ⟨(OwnC.new' rfl), below_alloc0 (Below.refl _ _) _⟩
  obtain ⟨P0_0, W_0⟩ := H0
  have HS : Hid (s.size = 33) := hs
  have hsz : (s.size : Int) = 33 := by omega
  have hb : ∀ h, (s[0]'h).toNat = c := fun h => by rw [← hc]; exact sbyte_eq s 0 h
  have h0s : 0 < s.size := by omega
  clear hs hc
  have d0 : ¬ ((c : Int) = 0) := by omega
  have d2 : ¬ ((c : Int) = 2) := by omega
  have d3 : ¬ ((c : Int) = 3) := by omega
  have e0 : ((c : Int) == 0) = false := by simpa using d0
  have e2 : ((c : Int) == 2) = false := by simpa using d2
  have e3 : ((c : Int) == 3) = false := by simpa using d3
  clear h0
  go_enter Tryd.func22, Tryd.ntmps22
  go_upto_region 1 with fail
  rw [← hw0]
  clear hw0
  go_upto_region 11 with fail
  obtain ⟨fP0z, fP00, fP01, fP02, fP03, fP04, fP05, fP06, fP07, fP08, fP0f⟩ := (P0_0.out).zp
  go_wp2_with fail
  clear fP0z fP00 fP01 fP02 fP03 fP04 fP05 fP06 fP07 fP08 fP0f
  obtain ⟨wz, hwz⟩ : ∃ wq, wq = (((((((((w0.setCell ⟨w.heap.size, 0, none⟩ (.int .u64 0)).setCell ⟨w.heap.size, 1, none⟩ (.int .u64 0)).setCell ⟨w.heap.size, 2, none⟩ (.int .u64 0)).setCell ⟨w.heap.size, 3, none⟩ (.int .u64 0)).setCell ⟨w.heap.size, 4, none⟩ (.int .u64 0)).setCell ⟨w.heap.size, 5, none⟩ (.int .u64 0)).setCell ⟨w.heap.size, 6, none⟩ (.int .u64 0)).setCell ⟨w.heap.size, 7, none⟩ (.int .u64 0)).setCell ⟨w.heap.size, 8, none⟩ (.bool false)) := ⟨_, rfl⟩
  rw [← hwz]
  have hwy : wz = putL w.heap.size 0 zpL w0 := hwz
  have HZ : OwnC wz w.heap.size zpL ∧ Below w.heap.size w wz := by
    rw [hwy]
    exact ⟨OwnC.put zpL P0_0.out rfl, below_putL (Nat.le_refl _) zpL 0 _ W_0.out⟩
  clear hwz hwy
  obtain ⟨hO, HB⟩ := HZ
  obtain ⟨rz, r0, r1, r2, r3, r4, r5, r6, r7, r8, rf⟩ := hO.zp
  refine bodyPost_ret (v := .tuple #[.agg #[.int .u64 0, .int .u64 0, .int .u64 0, .int .u64 0, .int .u64 0, .int .u64 0, .int .u64 0, .int .u64 0, .bool false], .int .i64 4]) ?_ rfl ⟨rfl, HB⟩
  simp [results, Tryd.results22, go_sem, r0, r1, r2, r3, r4, r5, r6, r7, r8]
set_option maxRecDepth 100000 in
set_option maxHeartbeats 4000000 in
theorem decode_2C (s : ByteArray) (hs : s.size = 33) (hc : sbyte s 0 = 2) (X Y : Nat) (I : Bool) (E : Int) (k1 : ∀ w, Glob w → Calls Tryd.prog 53 #[.string (s.extract 1 s.size), .bool false] w fun e w' => e = .returned (.tuple #[.agg #[.int .u64 (limb (X) 0 : Nat), .int .u64 (limb (X) 1 : Nat), .int .u64 (limb (X) 2 : Nat), .int .u64 (limb (X) 3 : Nat), .int .u64 (limb (Y) 0 : Nat), .int .u64 (limb (Y) 1 : Nat), .int .u64 (limb (Y) 2 : Nat), .int .u64 (limb (Y) 3 : Nat), .bool I], .int .i64 E]) ∧ Below w.heap.size w w') (w : World) (hR : Glob w) :
    Calls Tryd.prog 22 #[.string s] w fun e w' => e = .returned (.tuple #[.agg #[.int .u64 (limb (X) 0 : Nat), .int .u64 (limb (X) 1 : Nat), .int .u64 (limb (X) 2 : Nat), .int .u64 (limb (X) 3 : Nat), .int .u64 (limb (Y) 0 : Nat), .int .u64 (limb (Y) 1 : Nat), .int .u64 (limb (Y) 2 : Nat), .int .u64 (limb (Y) 3 : Nat), .bool I], .int .i64 E]) ∧ Below w.heap.size w w' := by
  have K1 : Hid (∀ w, Glob w → Calls Tryd.prog 53 #[.string (s.extract 1 s.size), .bool false] w fun e w' => e = .returned (.tuple #[.agg #[.int .u64 (limb (X) 0 : Nat), .int .u64 (limb (X) 1 : Nat), .int .u64 (limb (X) 2 : Nat), .int .u64 (limb (X) 3 : Nat), .int .u64 (limb (Y) 0 : Nat), .int .u64 (limb (Y) 1 : Nat), .int .u64 (limb (Y) 2 : Nat), .int .u64 (limb (Y) 3 : Nat), .bool I], .int .i64 E]) ∧ Below w.heap.size w w') := k1
  obtain ⟨w0, hw0⟩ : ∃ wq, wq = (w.alloc (.cells #[.int .u64 0, .int .u64 0, .int .u64 0, .int .u64 0, .int .u64 0, .int .u64 0, .int .u64 0, .int .u64 0, .bool false] 26)) := ⟨_, rfl⟩
  have H0 : Hid (OwnC w0 (w.heap.size) zpL) ∧ Hid (Below w.heap.size w w0) ∧ Hid (Glob w0) := by
    rw [hw0]
    exact ⟨(OwnC.new' rfl), below_alloc0 (Below.refl _ _) _, (hR).call (below_alloc0 (Below.refl _ _) _)⟩
  obtain ⟨P0_0, W_0, R_0⟩ := H0
  clear k1 hR
  have HS : Hid (s.size = 33) := hs
  have hsz : (s.size : Int) = 33 := by omega
  have hb : ∀ h, (s[0]'h).toNat = 2 := fun h => by rw [← hc]; exact sbyte_eq s 0 h
  have h0s : 0 < s.size := by omega
  clear hs hc
  go_enter Tryd.func22, Tryd.ntmps22
  go_upto_region 1 with fail
  rw [← hw0]
  clear hw0
  go_upto_region 10 with fail
  go_upto_region 10 with fail
  refine wp_region_J 8 1 [?v0r10, ?v1r10, ?v2r10, ?v3r10, ?v4r10, ?v5r10, ?v6r10, ?v7r10] [some 21, some 22, some 23, some 24, some 25, some 26, some 27, some 28] ?Ar10 (by kernel_rfl) (by kernel_rfl) (by kernel_rfl) rfl ?hAr10 ?hopr10 ?hfinr10
  case hAr10 =>
    simp only [List.set_cons_zero, List.set_cons_succ, List.zip_cons_cons, List.zip_nil_right, fillD, Act.put, List.setIfInBounds_toArray]
    exact rfl
  case hopr10 =>
    refine ⟨?_, ?_, ?_, ?_, ?_, ?_, ?_, ?_, trivial⟩
    iterate 5 focus (intro _ bq wx hS; refine OpTo.yields rfl ?_; clear hS; go_simp; try with_reducible rfl)
    focus (intro _ bq wx hS; refine OpTo.calls rfl ?_ ?_; rotate_left; intro K hK; go_simp; refine (K1.out _ (R_0.out.call hS)).mono ?_; rintro e w' ⟨rfl, hq⟩; exact hK w' hq; exact rfl)
    iterate 2 focus (intro _ bq wx hS; refine OpTo.yields rfl ?_; clear hS; go_simp; try with_reducible rfl)
  case hfinr10 =>
    intro wx hS
    refine tail_at (o := ?ofr10_8) ?hir10_8 ?hwr10_8 ?_
    case hir10_8 => rw [List.getElem?_toArray]; exact rfl
    case hwr10_8 => exact rfl
    obtain ⟨gP0z, gP00, gP01, gP02, gP03, gP04, gP05, gP06, gP07, gP08, gP0f⟩ := (OwnC.call P0_0.out hS).zp
    go_simp
    clear gP0z gP00 gP01 gP02 gP03 gP04 gP05 gP06 gP07 gP08 gP0f
    refine tail_at (o := ?ofr10_9) ?hir10_9 ?hwr10_9 ?_
    case hir10_9 => rw [List.getElem?_toArray]; exact rfl
    case hwr10_9 => exact rfl
    go_simp
    refine tail_end ?_
    obtain ⟨wz, hwz⟩ : ∃ wq, wq = (((((((((wx.setCell ⟨w.heap.size, 0, none⟩ (.int .u64 (limb (X) 0 : Nat))).setCell ⟨w.heap.size, 1, none⟩ (.int .u64 (limb (X) 1 : Nat))).setCell ⟨w.heap.size, 2, none⟩ (.int .u64 (limb (X) 2 : Nat))).setCell ⟨w.heap.size, 3, none⟩ (.int .u64 (limb (X) 3 : Nat))).setCell ⟨w.heap.size, 4, none⟩ (.int .u64 (limb (Y) 0 : Nat))).setCell ⟨w.heap.size, 5, none⟩ (.int .u64 (limb (Y) 1 : Nat))).setCell ⟨w.heap.size, 6, none⟩ (.int .u64 (limb (Y) 2 : Nat))).setCell ⟨w.heap.size, 7, none⟩ (.int .u64 (limb (Y) 3 : Nat))).setCell ⟨w.heap.size, 8, none⟩ (.bool I)) := ⟨_, rfl⟩
    rw [← hwz]
    have hwy : wz = putL w.heap.size 0 (ptL X Y I) wx := hwz
    have HZ : OwnC wz w.heap.size (ptL X Y I) ∧ Below w.heap.size w wz := by
      rw [hwy]
      exact ⟨OwnC.put (ptL X Y I) (OwnC.call P0_0.out hS) rfl, below_putL (Nat.le_refl _) (ptL X Y I) 0 _ (below_call0 W_0.out hS)⟩
    clear hwz hwy
    obtain ⟨hO, HB⟩ := HZ
    obtain ⟨rz, r0, r1, r2, r3, r4, r5, r6, r7, r8, rf⟩ := hO.pt
    go_wp2_with fail
    refine bodyPost_ret (v := .tuple #[.agg #[.int .u64 (limb (X) 0 : Nat), .int .u64 (limb (X) 1 : Nat), .int .u64 (limb (X) 2 : Nat), .int .u64 (limb (X) 3 : Nat), .int .u64 (limb (Y) 0 : Nat), .int .u64 (limb (Y) 1 : Nat), .int .u64 (limb (Y) 2 : Nat), .int .u64 (limb (Y) 3 : Nat), .bool I], .int .i64 E]) ?_ rfl ⟨rfl, HB⟩
    simp [results, Tryd.results22, go_sem, r0, r1, r2, r3, r4, r5, r6, r7, r8]
set_option maxRecDepth 100000 in
set_option maxHeartbeats 4000000 in
theorem decode_3C (s : ByteArray) (hs : s.size = 33) (hc : sbyte s 0 = 3) (X Y : Nat) (I : Bool) (E : Int) (k1 : ∀ w, Glob w → Calls Tryd.prog 53 #[.string (s.extract 1 s.size), .bool true] w fun e w' => e = .returned (.tuple #[.agg #[.int .u64 (limb (X) 0 : Nat), .int .u64 (limb (X) 1 : Nat), .int .u64 (limb (X) 2 : Nat), .int .u64 (limb (X) 3 : Nat), .int .u64 (limb (Y) 0 : Nat), .int .u64 (limb (Y) 1 : Nat), .int .u64 (limb (Y) 2 : Nat), .int .u64 (limb (Y) 3 : Nat), .bool I], .int .i64 E]) ∧ Below w.heap.size w w') (w : World) (hR : Glob w) :
    Calls Tryd.prog 22 #[.string s] w fun e w' => e = .returned (.tuple #[.agg #[.int .u64 (limb (X) 0 : Nat), .int .u64 (limb (X) 1 : Nat), .int .u64 (limb (X) 2 : Nat), .int .u64 (limb (X) 3 : Nat), .int .u64 (limb (Y) 0 : Nat), .int .u64 (limb (Y) 1 : Nat), .int .u64 (limb (Y) 2 : Nat), .int .u64 (limb (Y) 3 : Nat), .bool I], .int .i64 E]) ∧ Below w.heap.size w w' := by
  have K1 : Hid (∀ w, Glob w → Calls Tryd.prog 53 #[.string (s.extract 1 s.size), .bool true] w fun e w' => e = .returned (.tuple #[.agg #[.int .u64 (limb (X) 0 : Nat), .int .u64 (limb (X) 1 : Nat), .int .u64 (limb (X) 2 : Nat), .int .u64 (limb (X) 3 : Nat), .int .u64 (limb (Y) 0 : Nat), .int .u64 (limb (Y) 1 : Nat), .int .u64 (limb (Y) 2 : Nat), .int .u64 (limb (Y) 3 : Nat), .bool I], .int .i64 E]) ∧ Below w.heap.size w w') := k1
  obtain ⟨w0, hw0⟩ : ∃ wq, wq = (w.alloc (.cells #[.int .u64 0, .int .u64 0, .int .u64 0, .int .u64 0, .int .u64 0, .int .u64 0, .int .u64 0, .int .u64 0, .bool false] 26)) := ⟨_, rfl⟩
  have H0 : Hid (OwnC w0 (w.heap.size) zpL) ∧ Hid (Below w.heap.size w w0) ∧ Hid (Glob w0) := by
    rw [hw0]
    exact ⟨(OwnC.new' rfl), below_alloc0 (Below.refl _ _) _, (hR).call (below_alloc0 (Below.refl _ _) _)⟩
  obtain ⟨P0_0, W_0, R_0⟩ := H0
  clear k1 hR
  have HS : Hid (s.size = 33) := hs
  have hsz : (s.size : Int) = 33 := by omega
  have hb : ∀ h, (s[0]'h).toNat = 3 := fun h => by rw [← hc]; exact sbyte_eq s 0 h
  have h0s : 0 < s.size := by omega
  clear hs hc
  go_enter Tryd.func22, Tryd.ntmps22
  go_upto_region 1 with fail
  rw [← hw0]
  clear hw0
  go_upto_region 10 with fail
  go_upto_region 10 with fail
  refine wp_region_J 8 1 [?v0r10, ?v1r10, ?v2r10, ?v3r10, ?v4r10, ?v5r10, ?v6r10, ?v7r10] [some 21, some 22, some 23, some 24, some 25, some 26, some 27, some 28] ?Ar10 (by kernel_rfl) (by kernel_rfl) (by kernel_rfl) rfl ?hAr10 ?hopr10 ?hfinr10
  case hAr10 =>
    simp only [List.set_cons_zero, List.set_cons_succ, List.zip_cons_cons, List.zip_nil_right, fillD, Act.put, List.setIfInBounds_toArray]
    exact rfl
  case hopr10 =>
    refine ⟨?_, ?_, ?_, ?_, ?_, ?_, ?_, ?_, trivial⟩
    iterate 5 focus (intro _ bq wx hS; refine OpTo.yields rfl ?_; clear hS; go_simp; try with_reducible rfl)
    focus (intro _ bq wx hS; refine OpTo.calls rfl ?_ ?_; rotate_left; intro K hK; go_simp; refine (K1.out _ (R_0.out.call hS)).mono ?_; rintro e w' ⟨rfl, hq⟩; exact hK w' hq; exact rfl)
    iterate 2 focus (intro _ bq wx hS; refine OpTo.yields rfl ?_; clear hS; go_simp; try with_reducible rfl)
  case hfinr10 =>
    intro wx hS
    refine tail_at (o := ?ofr10_8) ?hir10_8 ?hwr10_8 ?_
    case hir10_8 => rw [List.getElem?_toArray]; exact rfl
    case hwr10_8 => exact rfl
    obtain ⟨gP0z, gP00, gP01, gP02, gP03, gP04, gP05, gP06, gP07, gP08, gP0f⟩ := (OwnC.call P0_0.out hS).zp
    go_simp
    clear gP0z gP00 gP01 gP02 gP03 gP04 gP05 gP06 gP07 gP08 gP0f
    refine tail_at (o := ?ofr10_9) ?hir10_9 ?hwr10_9 ?_
    case hir10_9 => rw [List.getElem?_toArray]; exact rfl
    case hwr10_9 => exact rfl
    go_simp
    refine tail_end ?_
    obtain ⟨wz, hwz⟩ : ∃ wq, wq = (((((((((wx.setCell ⟨w.heap.size, 0, none⟩ (.int .u64 (limb (X) 0 : Nat))).setCell ⟨w.heap.size, 1, none⟩ (.int .u64 (limb (X) 1 : Nat))).setCell ⟨w.heap.size, 2, none⟩ (.int .u64 (limb (X) 2 : Nat))).setCell ⟨w.heap.size, 3, none⟩ (.int .u64 (limb (X) 3 : Nat))).setCell ⟨w.heap.size, 4, none⟩ (.int .u64 (limb (Y) 0 : Nat))).setCell ⟨w.heap.size, 5, none⟩ (.int .u64 (limb (Y) 1 : Nat))).setCell ⟨w.heap.size, 6, none⟩ (.int .u64 (limb (Y) 2 : Nat))).setCell ⟨w.heap.size, 7, none⟩ (.int .u64 (limb (Y) 3 : Nat))).setCell ⟨w.heap.size, 8, none⟩ (.bool I)) := ⟨_, rfl⟩
    rw [← hwz]
    have hwy : wz = putL w.heap.size 0 (ptL X Y I) wx := hwz
    have HZ : OwnC wz w.heap.size (ptL X Y I) ∧ Below w.heap.size w wz := by
      rw [hwy]
      exact ⟨OwnC.put (ptL X Y I) (OwnC.call P0_0.out hS) rfl, below_putL (Nat.le_refl _) (ptL X Y I) 0 _ (below_call0 W_0.out hS)⟩
    clear hwz hwy
    obtain ⟨hO, HB⟩ := HZ
    obtain ⟨rz, r0, r1, r2, r3, r4, r5, r6, r7, r8, rf⟩ := hO.pt
    go_wp2_with fail
    refine bodyPost_ret (v := .tuple #[.agg #[.int .u64 (limb (X) 0 : Nat), .int .u64 (limb (X) 1 : Nat), .int .u64 (limb (X) 2 : Nat), .int .u64 (limb (X) 3 : Nat), .int .u64 (limb (Y) 0 : Nat), .int .u64 (limb (Y) 1 : Nat), .int .u64 (limb (Y) 2 : Nat), .int .u64 (limb (Y) 3 : Nat), .bool I], .int .i64 E]) ?_ rfl ⟨rfl, HB⟩
    simp [results, Tryd.results22, go_sem, r0, r1, r2, r3, r4, r5, r6, r7, r8]
end Go.Proofs.YtgmfecncfekjfaaDoor
