/- Several texts laid together. -/
import Derived.Test.YtchphekaonnfeaaDoorMgQ
import Derived.Test.YtchphekaonnfeaaDoorRgA
import Derived.Test.YtchphekaonnfeaaDoorMgI
import Derived.Test.YtchphekaonnfeaaDoorMgA
import Derived.Test.YtchphekaonnfeaaDoorMgB
import Derived.Deep.DeepCutAuto
import Derived.Laws.MakeOwn
namespace Go.Proofs.YtchphekaonnfeaaDoor
open Go Go.RowKit Go.Lib

def plL (g : Nat) : List Value := [.pointer (some ⟨g, 0, none⟩)]
theorem OwnC.pl {w : World} {b g : Nat} (h : OwnC w b (plL g)) : b < w.heap.size ∧ w.cell? ⟨b, 0, none⟩ = some (.pointer (some ⟨g, 0, none⟩)) ∧ ∀ o, w.frozen? ⟨b, o, none⟩ = false := ⟨h.1, h.2.2 0 _ rfl, h.2.1⟩
theorem conv_list {w : World} {b cap : Nat} (l : List UInt8) (h : ∀ j (hj : j < l.length), w.cell? ⟨b, j, none⟩ = some (.int .u8 ((l[j]'hj).toNat : Int))) : (convert 100 9 (.slice (some ⟨b, 0, none⟩) l.length cap)).run Tryd.prog w = .ok (.string ⟨l.toArray⟩) w :=
  run_convert_bytes_back (P := Tryd.prog) w 100 9 5 ⟨b, 0, none⟩ cap l Tryd.underlying100 Tryd.underlying5 Tryd.underlying9 (fun j hj => by
    have e2 : (Addr.add ⟨b, 0, none⟩ j) = ⟨b, j, none⟩ := by
      simp only [Addr.add]
      split
      · rename_i h0
        have : j = 0 := by simpa using h0
        subst this; rfl
      · simp
    rw [e2]
    exact h j hj)
theorem conv_1 {w : World} {b : Nat} (c : UInt8) (h : w.cell? ⟨b, 0, none⟩ = some (.int .u8 (c.toNat : Int))) : (convert 100 9 (.slice (some ⟨b, 0, none⟩) 1 1)).run Tryd.prog w = .ok (.string ⟨#[c]⟩) w :=
  conv_list [c] (fun j hj => by
    obtain rfl : j = 0 := by simpa using hj
    exact h)
end Go.Proofs.YtchphekaonnfeaaDoor

namespace Go.Proofs.YtchphekaonnfeaaDoor
open Go Go.RowKit Go.Lib

def z33 : ByteArray := ⟨(List.replicate 33 (0 : UInt8)).toArray⟩
theorem info_b8 : ∃ i, Tryd.prog.info? 5 = some i ∧ i.zero = some (.int .u8 0) ∧ i.size = 1 ∧ i.bytes = 1 := by
  have h : (Tryd.prog.info? 5).map (fun i => (i.zero, i.size, i.bytes)) = some (some (.int .u8 0), 1, 1) := by kernel_rfl
  cases e : Tryd.prog.info? 5 with
  | none => rw [e] at h; cases h
  | some i =>
    rw [e] at h
    simp only [Option.map_some, Option.some.injEq, Prod.mk.injEq] at h
    exact ⟨i, rfl, h.1, h.2.1, h.2.2⟩
theorem make_33 (w : World) : (Instr.makeSlice 100 (.int .i64 33) (.int .i64 33)).run Tryd.prog w = .ok (.slice (some ⟨w.heap.size, 0, none⟩) 33 33) (w.alloc (.cells (madeCells #[.int .u8 0] 33) 5)) := by
  obtain ⟨i, hi, hz, hsize, hby⟩ := info_b8
  have h := run_make (P := Tryd.prog) w 100 5 i _ Tryd.underlying100 hi hz .i64 .i64 33 33 (by decide) (Int.le_refl _) (by rw [hby]; decide) (by decide)
  rw [hsize] at h
  exact h
theorem conv_33 (w : World) : (convert 100 9 (.slice (some ⟨w.heap.size, 0, none⟩) 33 33)).run Tryd.prog (w.alloc (.cells (madeCells #[.int .u8 0] 33) 5)) = .ok (.string z33) (w.alloc (.cells (madeCells #[.int .u8 0] 33) 5)) := by
  have h := conv_list (w := w.alloc (.cells (madeCells #[.int .u8 0] 33) 5)) (b := w.heap.size) (cap := 33) (List.replicate 33 (0 : UInt8)) (fun j hj => by
    rw [World.cell?_alloc_new, List.getElem_replicate]
    have hj' : j < 33 := by simpa using hj
    have hk : j < (Array.range 33).size := by simpa using hj'
    unfold madeCells
    rw [Array.getElem?_map, Array.getElem?_eq_getElem hk, Option.map_some, Array.getElem_range]
    show some (#[Value.int .u8 0][j % 1]!) = _
    rw [Nat.mod_one]; rfl)
  rw [List.length_replicate] at h
  exact h
/-- A first byte, and a number's. -/
def encF (c : UInt8) (x : Nat) : ByteArray := ⟨#[c]⟩ ++ ⟨(bytesL x 32).toArray⟩
set_option maxRecDepth 100000 in
set_option maxHeartbeats 4000000 in
theorem encode_infC (x y : Nat) (hX : x < R256) (hY : y < R256) (hk : ptOk x y true = true) (w : World) (hG : GlobP w) :
    Calls Tryd.prog 36 #[.agg #[.int .u64 (limb (x) 0 : Nat), .int .u64 (limb (x) 1 : Nat), .int .u64 (limb (x) 2 : Nat), .int .u64 (limb (x) 3 : Nat), .int .u64 (limb (y) 0 : Nat), .int .u64 (limb (y) 1 : Nat), .int .u64 (limb (y) 2 : Nat), .int .u64 (limb (y) 3 : Nat), .bool true]] w fun e w' => e = .returned (.tuple #[.string z33, .int .i64 0]) ∧ Below w.heap.size w w' := by
  have K1 : Hid (∀ w, GlobP w → Calls Tryd.prog 40 #[.agg #[.int .u64 (limb (x) 0 : Nat), .int .u64 (limb (x) 1 : Nat), .int .u64 (limb (x) 2 : Nat), .int .u64 (limb (x) 3 : Nat), .int .u64 (limb (y) 0 : Nat), .int .u64 (limb (y) 1 : Nat), .int .u64 (limb (y) 2 : Nat), .int .u64 (limb (y) 3 : Nat), .bool true]] w fun e w' => e = .returned (.int .i64 0) ∧ Below w.heap.size w w') := fun w h => Check_ok x y true hX hY hk w h
  obtain ⟨w0, hw0⟩ : ∃ wq, wq = (w.alloc (.cells #[.int .u64 (limb (x) 0 : Nat), .int .u64 (limb (x) 1 : Nat), .int .u64 (limb (x) 2 : Nat), .int .u64 (limb (x) 3 : Nat), .int .u64 (limb (y) 0 : Nat), .int .u64 (limb (y) 1 : Nat), .int .u64 (limb (y) 2 : Nat), .int .u64 (limb (y) 3 : Nat), .bool true] 28)) := ⟨_, rfl⟩
  have H0 : Hid (OwnC w0 (w.heap.size) (ptL x y true)) ∧ Hid (Below w.heap.size w w0) ∧ Hid (GlobP w0) := by
    rw [hw0]
    exact ⟨(OwnC.new' rfl), below_alloc0 (Below.refl _ _) _, (hG).call (below_alloc0 (Below.refl _ _) _)⟩
  obtain ⟨P0_0, W_0, G_0⟩ := H0
  clear hX hY hk hG
  go_enter Tryd.func36, Tryd.ntmps36
  go_upto_region 1 with fail
  rw [← hw0]
  clear hw0
  obtain ⟨fP0z, fP00, fP01, fP02, fP03, fP04, fP05, fP06, fP07, fP08, fP0f⟩ := (P0_0.out).pt
  go_wp2_with fail
  clear fP0z fP00 fP01 fP02 fP03 fP04 fP05 fP06 fP07 fP08 fP0f
  refine (K1.out _ (G_0.out)).mono ?_
  rintro e w1 ⟨rfl, hq⟩
  have P0_1 : Hid (OwnC w1 (w.heap.size) (ptL x y true)) := OwnC.call P0_0.out hq
  have W_1 : Hid (Below w.heap.size w w1) := below_call0 W_0.out hq
  have G_1 : Hid (GlobP w1) := G_0.out.call hq
  clear hq P0_0 W_0 G_0
  obtain ⟨fP0z, fP00, fP01, fP02, fP03, fP04, fP05, fP06, fP07, fP08, fP0f⟩ := (P0_1.out).pt
  go_upto_region 5 with fail
  clear fP0z fP00 fP01 fP02 fP03 fP04 fP05 fP06 fP07 fP08 fP0f
  have hm := make_33
  have hc := conv_33
  go_wp2_with fail
  clear hm hc
  go_ret2
  exact ⟨rfl, below_alloc0 W_1.out _⟩
set_option maxRecDepth 100000 in
set_option maxHeartbeats 4000000 in
theorem encode_evenC (x y : Nat) (hX : x < R256) (hY : y < R256) (hk : ptOk x y false = true) (hp : y % 2 = 0) (w : World) (hG : GlobP w) :
    Calls Tryd.prog 36 #[.agg #[.int .u64 (limb (x) 0 : Nat), .int .u64 (limb (x) 1 : Nat), .int .u64 (limb (x) 2 : Nat), .int .u64 (limb (x) 3 : Nat), .int .u64 (limb (y) 0 : Nat), .int .u64 (limb (y) 1 : Nat), .int .u64 (limb (y) 2 : Nat), .int .u64 (limb (y) 3 : Nat), .bool false]] w fun e w' => e = .returned (.tuple #[.string (encF 2 x), .int .i64 0]) ∧ Below w.heap.size w w' := by
  have KB : Hid (∀ w, Calls Tryd.prog 52 #[.agg #[.int .u64 (limb (y) 0 : Nat), .int .u64 (limb (y) 1 : Nat), .int .u64 (limb (y) 2 : Nat), .int .u64 (limb (y) 3 : Nat)], .int .i64 0] w fun e w' => e = .returned (.int .u64 0) ∧ Below w.heap.size w w') := fun w => by have k := bit_in y 0 (by decide) w; rw [show bitN y 0 = 0 from by unfold bitN; rw [Nat.pow_zero, Nat.div_one]; exact hp] at k; exact k
  have K1 : Hid (∀ w, GlobP w → Calls Tryd.prog 40 #[.agg #[.int .u64 (limb (x) 0 : Nat), .int .u64 (limb (x) 1 : Nat), .int .u64 (limb (x) 2 : Nat), .int .u64 (limb (x) 3 : Nat), .int .u64 (limb (y) 0 : Nat), .int .u64 (limb (y) 1 : Nat), .int .u64 (limb (y) 2 : Nat), .int .u64 (limb (y) 3 : Nat), .bool false]] w fun e w' => e = .returned (.int .i64 0) ∧ Below w.heap.size w w') := fun w h => Check_ok x y false hX hY hk w h
  have K2 : Hid (∀ w, Calls Tryd.prog 53 #[.agg #[.int .u64 (limb (x) 0 : Nat), .int .u64 (limb (x) 1 : Nat), .int .u64 (limb (x) 2 : Nat), .int .u64 (limb (x) 3 : Nat)]] w fun e w' => e = .returned (.string ⟨(bytesL x 32).toArray⟩) ∧ Below w.heap.size w w') := fun w => bytes_any x w
  obtain ⟨w0, hw0⟩ : ∃ wq, wq = (w.alloc (.cells #[.int .u64 (limb (x) 0 : Nat), .int .u64 (limb (x) 1 : Nat), .int .u64 (limb (x) 2 : Nat), .int .u64 (limb (x) 3 : Nat), .int .u64 (limb (y) 0 : Nat), .int .u64 (limb (y) 1 : Nat), .int .u64 (limb (y) 2 : Nat), .int .u64 (limb (y) 3 : Nat), .bool false] 28)) := ⟨_, rfl⟩
  have H0 : Hid (OwnC w0 (w.heap.size) (ptL x y false)) ∧ Hid (Below w.heap.size w w0) ∧ Hid (GlobP w0) := by
    rw [hw0]
    exact ⟨(OwnC.new' rfl), below_alloc0 (Below.refl _ _) _, (hG).call (below_alloc0 (Below.refl _ _) _)⟩
  obtain ⟨P0_0, W_0, G_0⟩ := H0
  clear hX hY hk hp hG
  go_enter Tryd.func36, Tryd.ntmps36
  go_upto_region 1 with fail
  rw [← hw0]
  clear hw0
  obtain ⟨fP0z, fP00, fP01, fP02, fP03, fP04, fP05, fP06, fP07, fP08, fP0f⟩ := (P0_0.out).pt
  go_wp2_with fail
  clear fP0z fP00 fP01 fP02 fP03 fP04 fP05 fP06 fP07 fP08 fP0f
  refine (K1.out _ (G_0.out)).mono ?_
  rintro e w1 ⟨rfl, hq⟩
  have P0_1 : Hid (OwnC w1 (w.heap.size) (ptL x y false)) := OwnC.call P0_0.out hq
  have W_1 : Hid (Below w.heap.size w w1) := below_call0 W_0.out hq
  have G_1 : Hid (GlobP w1) := G_0.out.call hq
  clear hq P0_0 W_0 G_0
  obtain ⟨fP0z, fP00, fP01, fP02, fP03, fP04, fP05, fP06, fP07, fP08, fP0f⟩ := (P0_1.out).pt
  go_upto_region 6 with fail
  go_wp2_with fail
  clear fP0z fP00 fP01 fP02 fP03 fP04 fP05 fP06 fP07 fP08 fP0f
  refine (KB.out _).mono ?_
  rintro e w2 ⟨rfl, hq⟩
  have P0_2 : Hid (OwnC w2 w.heap.size (ptL x y false)) := (OwnC.alloc P0_1.out).call hq
  have B_2 : Hid (OwnC w2 w1.heap.size [.int .u8 2]) := (OwnC.new' rfl).call hq
  have W_2 : Hid (Below w.heap.size w w2) := below_call0 (below_alloc0 W_1.out _) hq
  have HLE : Hid (w.heap.size ≤ w1.heap.size ∧ w.heap.size ≠ w1.heap.size) := ⟨W_1.out.size, Nat.ne_of_lt P0_1.out.1⟩
  clear hq KB P0_1 G_1 W_1
  go_upto_region 9 with fail
  refine wp_region_J 6 1 [?v0r9, ?v1r9, ?v2r9, ?v3r9, ?v4r9, ?v5r9] [some 22, some 23, some 24, some 25, some 26, some 27] ?Ar9 (by kernel_rfl) (by kernel_rfl) (by kernel_rfl) rfl ?hAr9 ?hopr9 ?hfinr9
  case hAr9 =>
    simp only [List.set_cons_zero, List.set_cons_succ, List.zip_cons_cons, List.zip_nil_right, fillD, Act.put, List.setIfInBounds_toArray]
    exact rfl
  case hopr9 =>
    refine ⟨?_, ?_, ?_, ?_, ?_, ?_, trivial⟩
    focus (intro _ bq wx hS; refine OpTo.yields rfl ?_; clear hS; go_simp; try with_reducible rfl)
    focus (intro _ bq wx hS; refine OpTo.yields rfl ?_; have hcv := conv_1 2 (OwnC.one (B_2.out.call hS)).2.1; clear hS; go_simp; try with_reducible rfl)
    focus (intro _ bq wx hS; refine OpTo.yields rfl ?_; clear hS; go_simp; try with_reducible rfl)
    focus (intro _ bq wx hS; refine OpTo.yields rfl ?_; obtain ⟨_, _, _, _, _, _, _, _, _, _, _⟩ := (OwnC.call P0_2.out hS).pt; clear hS; go_simp; try with_reducible rfl)
    focus (intro _ bq wx hS; refine OpTo.calls rfl ?_ ?_; rotate_left; intro K hK; go_simp; refine (K2.out _).mono ?_; rintro e w' ⟨rfl, hq⟩; exact hK w' hq; exact rfl)
    focus (intro _ bq wx hS; refine OpTo.yields rfl ?_; have hlb := bytesL_length x 32; clear hS; go_simp; try with_reducible rfl)
  case hfinr9 =>
    intro wx hS
    refine tail_at (o := ?ofr9_6) ?hir9_6 ?hwr9_6 ?_
    case hir9_6 => rw [List.getElem?_toArray]; exact rfl
    case hwr9_6 => exact rfl
    go_simp
    refine tail_at (o := ?ofr9_7) ?hir9_7 ?hwr9_7 ?_
    case hir9_7 => rw [List.getElem?_toArray]; exact rfl
    case hwr9_7 => exact rfl
    go_simp
    refine tail_end ?_
    go_wp2_with fail
    go_ret2
    exact ⟨rfl, below_call0 W_2.out hS⟩
set_option maxRecDepth 100000 in
set_option maxHeartbeats 4000000 in
theorem encode_oddC (x y : Nat) (hX : x < R256) (hY : y < R256) (hk : ptOk x y false = true) (hp : y % 2 = 1) (w : World) (hG : GlobP w) :
    Calls Tryd.prog 36 #[.agg #[.int .u64 (limb (x) 0 : Nat), .int .u64 (limb (x) 1 : Nat), .int .u64 (limb (x) 2 : Nat), .int .u64 (limb (x) 3 : Nat), .int .u64 (limb (y) 0 : Nat), .int .u64 (limb (y) 1 : Nat), .int .u64 (limb (y) 2 : Nat), .int .u64 (limb (y) 3 : Nat), .bool false]] w fun e w' => e = .returned (.tuple #[.string (encF 3 x), .int .i64 0]) ∧ Below w.heap.size w w' := by
  have KB : Hid (∀ w, Calls Tryd.prog 52 #[.agg #[.int .u64 (limb (y) 0 : Nat), .int .u64 (limb (y) 1 : Nat), .int .u64 (limb (y) 2 : Nat), .int .u64 (limb (y) 3 : Nat)], .int .i64 0] w fun e w' => e = .returned (.int .u64 1) ∧ Below w.heap.size w w') := fun w => by have k := bit_in y 0 (by decide) w; rw [show bitN y 0 = 1 from by unfold bitN; rw [Nat.pow_zero, Nat.div_one]; exact hp] at k; exact k
  have K1 : Hid (∀ w, GlobP w → Calls Tryd.prog 40 #[.agg #[.int .u64 (limb (x) 0 : Nat), .int .u64 (limb (x) 1 : Nat), .int .u64 (limb (x) 2 : Nat), .int .u64 (limb (x) 3 : Nat), .int .u64 (limb (y) 0 : Nat), .int .u64 (limb (y) 1 : Nat), .int .u64 (limb (y) 2 : Nat), .int .u64 (limb (y) 3 : Nat), .bool false]] w fun e w' => e = .returned (.int .i64 0) ∧ Below w.heap.size w w') := fun w h => Check_ok x y false hX hY hk w h
  have K2 : Hid (∀ w, Calls Tryd.prog 53 #[.agg #[.int .u64 (limb (x) 0 : Nat), .int .u64 (limb (x) 1 : Nat), .int .u64 (limb (x) 2 : Nat), .int .u64 (limb (x) 3 : Nat)]] w fun e w' => e = .returned (.string ⟨(bytesL x 32).toArray⟩) ∧ Below w.heap.size w w') := fun w => bytes_any x w
  obtain ⟨w0, hw0⟩ : ∃ wq, wq = (w.alloc (.cells #[.int .u64 (limb (x) 0 : Nat), .int .u64 (limb (x) 1 : Nat), .int .u64 (limb (x) 2 : Nat), .int .u64 (limb (x) 3 : Nat), .int .u64 (limb (y) 0 : Nat), .int .u64 (limb (y) 1 : Nat), .int .u64 (limb (y) 2 : Nat), .int .u64 (limb (y) 3 : Nat), .bool false] 28)) := ⟨_, rfl⟩
  have H0 : Hid (OwnC w0 (w.heap.size) (ptL x y false)) ∧ Hid (Below w.heap.size w w0) ∧ Hid (GlobP w0) := by
    rw [hw0]
    exact ⟨(OwnC.new' rfl), below_alloc0 (Below.refl _ _) _, (hG).call (below_alloc0 (Below.refl _ _) _)⟩
  obtain ⟨P0_0, W_0, G_0⟩ := H0
  clear hX hY hk hp hG
  go_enter Tryd.func36, Tryd.ntmps36
  go_upto_region 1 with fail
  rw [← hw0]
  clear hw0
  obtain ⟨fP0z, fP00, fP01, fP02, fP03, fP04, fP05, fP06, fP07, fP08, fP0f⟩ := (P0_0.out).pt
  go_wp2_with fail
  clear fP0z fP00 fP01 fP02 fP03 fP04 fP05 fP06 fP07 fP08 fP0f
  refine (K1.out _ (G_0.out)).mono ?_
  rintro e w1 ⟨rfl, hq⟩
  have P0_1 : Hid (OwnC w1 (w.heap.size) (ptL x y false)) := OwnC.call P0_0.out hq
  have W_1 : Hid (Below w.heap.size w w1) := below_call0 W_0.out hq
  have G_1 : Hid (GlobP w1) := G_0.out.call hq
  clear hq P0_0 W_0 G_0
  obtain ⟨fP0z, fP00, fP01, fP02, fP03, fP04, fP05, fP06, fP07, fP08, fP0f⟩ := (P0_1.out).pt
  go_upto_region 6 with fail
  go_wp2_with fail
  clear fP0z fP00 fP01 fP02 fP03 fP04 fP05 fP06 fP07 fP08 fP0f
  refine (KB.out _).mono ?_
  rintro e w2 ⟨rfl, hq⟩
  have P0_2 : Hid (OwnC w2 w.heap.size (ptL x y false)) := (OwnC.alloc P0_1.out).call hq
  have B_2 : Hid (OwnC w2 w1.heap.size [.int .u8 2]) := (OwnC.new' rfl).call hq
  have W_2 : Hid (Below w.heap.size w w2) := below_call0 (below_alloc0 W_1.out _) hq
  have HLE : Hid (w.heap.size ≤ w1.heap.size ∧ w.heap.size ≠ w1.heap.size) := ⟨W_1.out.size, Nat.ne_of_lt P0_1.out.1⟩
  clear hq KB P0_1 G_1 W_1
  obtain ⟨bz, b0, bf⟩ := OwnC.one B_2.out
  go_upto_region 9 with fail
  clear bz b0 bf
  obtain ⟨w3, hw3⟩ : ∃ wq, wq = w2.setCell ⟨w1.heap.size, 0, none⟩ (.int .u8 3) := ⟨_, rfl⟩
  rw [← hw3]
  have P0_3 : Hid (OwnC w3 w.heap.size (ptL x y false)) := by rw [hw3]; exact OwnC.puts [.int .u8 3] 0 P0_2.out HLE.out.2
  have B_3 : Hid (OwnC w3 w1.heap.size [.int .u8 3]) := by rw [hw3]; exact OwnC.put [.int .u8 3] B_2.out rfl
  have W_3 : Hid (Below w.heap.size w w3) := by rw [hw3]; exact below_putL HLE.out.1 [.int .u8 3] 0 _ W_2.out
  clear hw3 P0_2 B_2 W_2
  refine wp_region_J 6 1 [?v0r9, ?v1r9, ?v2r9, ?v3r9, ?v4r9, ?v5r9] [some 22, some 23, some 24, some 25, some 26, some 27] ?Ar9 (by kernel_rfl) (by kernel_rfl) (by kernel_rfl) rfl ?hAr9 ?hopr9 ?hfinr9
  case hAr9 =>
    simp only [List.set_cons_zero, List.set_cons_succ, List.zip_cons_cons, List.zip_nil_right, fillD, Act.put, List.setIfInBounds_toArray]
    exact rfl
  case hopr9 =>
    refine ⟨?_, ?_, ?_, ?_, ?_, ?_, trivial⟩
    focus (intro _ bq wx hS; refine OpTo.yields rfl ?_; clear hS; go_simp; try with_reducible rfl)
    focus (intro _ bq wx hS; refine OpTo.yields rfl ?_; have hcv := conv_1 3 (OwnC.one (B_3.out.call hS)).2.1; clear hS; go_simp; try with_reducible rfl)
    focus (intro _ bq wx hS; refine OpTo.yields rfl ?_; clear hS; go_simp; try with_reducible rfl)
    focus (intro _ bq wx hS; refine OpTo.yields rfl ?_; obtain ⟨_, _, _, _, _, _, _, _, _, _, _⟩ := (OwnC.call P0_3.out hS).pt; clear hS; go_simp; try with_reducible rfl)
    focus (intro _ bq wx hS; refine OpTo.calls rfl ?_ ?_; rotate_left; intro K hK; go_simp; refine (K2.out _).mono ?_; rintro e w' ⟨rfl, hq⟩; exact hK w' hq; exact rfl)
    focus (intro _ bq wx hS; refine OpTo.yields rfl ?_; have hlb := bytesL_length x 32; clear hS; go_simp; try with_reducible rfl)
  case hfinr9 =>
    intro wx hS
    refine tail_at (o := ?ofr9_6) ?hir9_6 ?hwr9_6 ?_
    case hir9_6 => rw [List.getElem?_toArray]; exact rfl
    case hwr9_6 => exact rfl
    go_simp
    refine tail_at (o := ?ofr9_7) ?hir9_7 ?hwr9_7 ?_
    case hir9_7 => rw [List.getElem?_toArray]; exact rfl
    case hwr9_7 => exact rfl
    go_simp
    refine tail_end ?_
    go_wp2_with fail
    go_ret2
    exact ⟨rfl, below_call0 W_3.out hS⟩
end Go.Proofs.YtchphekaonnfeaaDoor
