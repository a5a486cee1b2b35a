/- The law DomainBytes. -/
import Derived.Test.YtjdfipfeclphkaaDoorDmX
import Derived.Test.YtjdfipfeclphkaaDoorMgD
import Derived.Test.YtjdfipfeclphkaaDoorDmL
namespace Go.Proofs.YtjdfipfeclphkaaDoor
open Go Go.RowKit Go.Lib
attribute [local go_sem] run_eq4

/-- Four limbs in a block. -/
def C4 (w : World) (b : Nat) (x0 x1 x2 x3 : Int) : Prop := (w.cell? ⟨b, 0, none⟩ = some (.int .u64 x0) ∧ w.cell? ⟨b, 1, none⟩ = some (.int .u64 x1) ∧ w.cell? ⟨b, 2, none⟩ = some (.int .u64 x2) ∧ w.cell? ⟨b, 3, none⟩ = some (.int .u64 x3)) ∧ b < w.heap.size
theorem C4.call {W w1 : World} {b : Nat} {x0 x1 x2 x3 : Int} (h : C4 W b x0 x1 x2 x3) (hb : Below W.heap.size W w1) : C4 w1 b x0 x1 x2 x3 :=
  ⟨⟨(hb.cell (p := ⟨b, 0, none⟩) h.2).trans h.1.1, (hb.cell (p := ⟨b, 1, none⟩) h.2).trans h.1.2.1, (hb.cell (p := ⟨b, 2, none⟩) h.2).trans h.1.2.2.1, (hb.cell (p := ⟨b, 3, none⟩) h.2).trans h.1.2.2.2⟩, Nat.lt_of_lt_of_le h.2 hb.size⟩
theorem C4.alloc {W : World} {b : Nat} {x0 x1 x2 x3 : Int} {o : Obj} (h : C4 W b x0 x1 x2 x3) : C4 (W.alloc o) b x0 x1 x2 x3 := h.call (below_alloc0' (Below.refl _ _) _)
theorem C4.new (W : World) (x0 x1 x2 x3 : Int) (t : TypeId) : C4 (W.alloc (.cells #[.int .u64 x0, .int .u64 x1, .int .u64 x2, .int .u64 x3] t)) W.heap.size x0 x1 x2 x3 := ⟨⟨by simp [go_sem], by simp [go_sem], by simp [go_sem], by simp [go_sem]⟩, by simp⟩
set_option maxRecDepth 100000 in
set_option maxHeartbeats 4000000 in
theorem dbytes_large (t : ByteArray) (a : Option Addr) (l : List ByteArray) (cap : Nat) (hb : t.size + bytesN l + l.length < 4398046511104) (hl : largeB l t = true) (w : World) (hS : Strs w a l) (hG : GlobD w) (hz : 2 < w.heap.size) :
    Calls Tryd.prog 3 #[.string t, .slice a l.length cap] w fun e w' => e = .returned (.bool true) ∧ Below w.heap.size w w' := by
  have KO : Hid _ := fun (w : World) (hG : GlobD w) (hz : 2 < w.heap.size) => one_any w hG hz
  have KL : Hid _ := fun (w : World) (hS : Strs w a l) => large_any t a l cap (by omega) w hS
  rw [hl] at KL
  have HG : Hid (GlobD w ∧ 2 < w.heap.size ∧ Strs w a l) := ⟨hG, hz, hS⟩
  clear hb hl hG hz hS
  go_enter Tryd.func3, Tryd.ntmps3
  go_wp2_with fail
  refine (KL.out _ HG.out.2.2).mono ?_
  rintro e w1 ⟨rfl, hb1⟩
  have H1 : Hid (Below w.heap.size w w1) := hb1
  clear hb1
  go_wp2_with fail
  refine (KO.out _ (HG.out.1.call H1.out) (Nat.lt_of_lt_of_le HG.out.2.1 H1.out.size)).mono ?_
  rintro e w2 ⟨rfl, hb2⟩
  have H2 : Hid (Below w.heap.size w w2) := below_call0' H1.out hb2
  clear hb2
  go_wp2_with fail
  go_ret
  exact ⟨rfl, H2.out⟩
set_option maxRecDepth 100000 in
set_option maxHeartbeats 4000000 in
theorem dbytes_go (t : ByteArray) (a : Option Addr) (l : List ByteArray) (cap : Nat) (hb : t.size + bytesN l + l.length < 4398046511104) (hl : largeB l t = false) (A : ByteArray) (ev : Int) (x0 x1 x2 x3 : Int)
    (k1 : ∀ w, Strs w a l → GlobD w → 2 < w.heap.size → Calls Tryd.prog 8 #[.string t, .slice a l.length cap] w fun e w' => e = .returned (.tuple #[.string A, .int .i64 ev]) ∧ Below w.heap.size w w')
    (k2 : ∀ w, Strs w a l → Calls Tryd.prog 9 #[.string t, .slice a l.length cap] w fun e w' => e = .returned (.tuple #[.string A, .int .i64 ev]) ∧ Below w.heap.size w w')
    (k3 : ∀ w, Strs w a l → GlobD w → 2 < w.heap.size → GlobQ w → Calls Tryd.prog 10 #[.string t, .slice a l.length cap] w fun e w' => e = .returned (.tuple #[.agg #[.int .u64 x0, .int .u64 x1, .int .u64 x2, .int .u64 x3], .int .i64 ev]) ∧ Below w.heap.size w w')
    (k4 : ∀ w, Strs w a l → Calls Tryd.prog 11 #[.string t, .slice a l.length cap] w fun e w' => e = .returned (.tuple #[.agg #[.int .u64 x0, .int .u64 x1, .int .u64 x2, .int .u64 x3], .int .i64 ev]) ∧ Below w.heap.size w w')
    (hev : -9223372036854775808 ≤ ev ∧ ev < 9223372036854775808) (w : World) (hS : Strs w a l) (hG : GlobD w) (hz : 2 < w.heap.size) (hQ : GlobQ w) :
    Calls Tryd.prog 3 #[.string t, .slice a l.length cap] w fun e w' => e = .returned (.bool true) ∧ Below w.heap.size w w' := by
  have KO : Hid _ := fun (w : World) (hG : GlobD w) (hz : 2 < w.heap.size) => one_any w hG hz
  have KL : Hid _ := fun (w : World) (hS : Strs w a l) => large_any t a l cap (by omega) w hS
  rw [hl] at KL
  have K1 : Hid _ := k1
  have K2 : Hid _ := k2
  have K3 : Hid _ := k3
  have K4 : Hid _ := k4
  have HG : Hid (GlobD w ∧ 2 < w.heap.size ∧ Strs w a l ∧ GlobQ w) := ⟨hG, hz, hS, hQ⟩
  have tb : (A.toList == A.toList) = true := by simp only [BEq.rfl]
  have ee : (ev == ev) = true := by simp only [BEq.rfl]
  have ex : eq4 x0 x1 x2 x3 x0 x1 x2 x3 = true := by unfold eq4; simp only [BEq.rfl, Bool.and_self]
  have ww : IntKind.i64.wrap ev = ev := by rw [IntKind.wrap_i64]; omega
  clear hb hl hG hz hS hQ k1 k2 k3 k4 hev
  go_enter Tryd.func3, Tryd.ntmps3
  go_wp2_with fail
  refine (KL.out _ HG.out.2.2.1).mono ?_
  rintro e w1 ⟨rfl, hb1⟩
  have H1 : Hid (Below w.heap.size w w1) := hb1
  clear hb1
  go_wp2_with fail
  refine (K1.out _ (HG.out.2.2.1.call H1.out) (HG.out.1.call H1.out) (Nat.lt_of_lt_of_le HG.out.2.1 H1.out.size)).mono ?_
  rintro e w2 ⟨rfl, hb2⟩
  have H2 : Hid (Below w.heap.size w w2) := below_call0' H1.out hb2
  clear hb2 H1
  go_wp2_with fail
  refine (K2.out _ (HG.out.2.2.1.call H2.out)).mono ?_
  rintro e w3 ⟨rfl, hb3⟩
  have H3 : Hid (Below w.heap.size w w3) := below_call0' H2.out hb3
  clear hb3 H2
  go_wp2_with fail
  refine (K3.out _ (HG.out.2.2.1.call H3.out) (HG.out.1.call H3.out) (Nat.lt_of_lt_of_le HG.out.2.1 H3.out.size) (HG.out.2.2.2.call H3.out)).mono ?_
  rintro e w4 ⟨rfl, hb4⟩
  have H4 : Hid (Below w.heap.size w w4) := below_call0' H3.out hb4
  clear hb4 H3
  go_wp2_with fail
  refine (K4.out _ (HG.out.2.2.1.call (below_alloc0' H4.out _))).mono ?_
  rintro e w5 ⟨rfl, hb5⟩
  have HX : Hid (C4 w5 w4.heap.size x0 x1 x2 x3 ∧ Below w.heap.size w w5) := ⟨(C4.new w4 x0 x1 x2 x3 _).call hb5, below_call0' (below_alloc0' H4.out _) hb5⟩
  clear hb5 H4
  obtain ⟨⟨c0, c1, c2, c3⟩, cz⟩ := HX.out.1
  go_wp2_with fail
  refine (KO.out _ (HG.out.1.call (below_alloc0' HX.out.2 _)) (Nat.lt_of_lt_of_le HG.out.2.1 (below_alloc0' HX.out.2 _).size)).mono ?_
  rintro e w6 ⟨rfl, hb6⟩
  have H6 : Hid (Below w.heap.size w w6) := below_call0' (below_alloc0' HX.out.2 _) hb6
  clear hb6 HX c0 c1 c2 c3 cz
  go_wp2_with fail
  go_ret
  exact ⟨rfl, H6.out⟩
theorem domainBytes_any (t : ByteArray) (a : Option Addr) (l : List ByteArray) (cap : Nat) (hb : t.size + bytesN l + l.length < 4398046511104) (w : World) (hS : Strs w a l) (hG : GlobD w) (hz : 2 < w.heap.size) (hQ : GlobQ w) :
    Calls Tryd.prog 3 #[.string t, .slice a l.length cap] w fun e w' => e = .returned (.bool true) ∧ Below w.heap.size w w' := by
  have hsz : 1 + (hashB t l).size < 140737488351233 := by rw [hashB_size]; omega
  rcases Bool.eq_false_or_eq_true (largeB l t) with hl | hl
  · exact dbytes_large t a l cap hb hl w hS hG hz
  rcases Bool.eq_false_or_eq_true (tagB t) with ht | ht
  · exact dbytes_go t a l cap hb hl (shaS (hashB t l)) 0 (limb (scN (hashB t l)) 0 : Nat) (limb (scN (hashB t l)) 1 : Nat) (limb (scN (hashB t l)) 2 : Nat) (limb (scN (hashB t l)) 3 : Nat)
      (fun w hS hG hz => bytes5_in t a l cap ht (by omega) w hS hG hz) (fun w hS => rbytes_in t a l cap ht (by omega) w hS)
      (fun w hS hG hz hQ => dscalar_in t a l cap ht (by omega) w hS hG hz hQ) (fun w hS => scalar5_in t a l cap ht hsz w hS) (by decide) w hS hG hz hQ
  · exact dbytes_go t a l cap hb hl ByteArray.empty 1 0 0 0 0
      (fun w _ _ _ => bytes5_no t a l.length cap ht w) (fun w _ => rbytes_no t a l.length cap ht w)
      (fun w _ _ _ _ => dscalar_no t a l.length cap ht w) (fun w _ => scalar5_no t a l.length cap ht w) (by decide) w hS hG hz hQ
end Go.Proofs.YtjdfipfeclphkaaDoor
