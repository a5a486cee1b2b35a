/- Package domain: Scalar; the reference's Bytes. -/
import Derived.Test.YtjdfipfeclphkaaDoorMgF
namespace Go.Proofs.YtjdfipfeclphkaaDoor
open Go Go.RowKit Go.Lib

set_option maxRecDepth 100000 in
set_option maxHeartbeats 4000000 in
theorem dscalar_in (t : ByteArray) (a : Option Addr) (l : List ByteArray) (cap : Nat) (ht : tagB t = true) (hb : 1 + (hashB t l).size < 1152921504606846976) (w : World) (hS : Strs w a l) (hG : GlobD w) (hz : 2 < w.heap.size) (hQ : GlobQ w) :
    Calls Tryd.prog 10 #[.string t, .slice a l.length cap] w fun e w' => e = .returned (.tuple #[.agg #[.int .u64 (limb (scN (hashB t l)) 0 : Nat), .int .u64 (limb (scN (hashB t l)) 1 : Nat), .int .u64 (limb (scN (hashB t l)) 2 : Nat), .int .u64 (limb (scN (hashB t l)) 3 : Nat)], .int .i64 0]) ∧ Below w.heap.size w w' := by
  have KT : Hid _ := fun (w : World) => isTag_any t w
  rw [ht] at KT
  have KD : Hid _ := fun (w : World) (hS : Strs w a l) (hG : GlobD w) (hz : 2 < w.heap.size) (hQ : GlobQ w) => scalar_any t a l cap hb w hS hG hz hQ
  obtain ⟨R, hR⟩ : ∃ R, R = scN (hashB t l) := ⟨_, rfl⟩
  rw [← hR] at KD ⊢
  have H0 : Hid (Pend (w.alloc (.cells #[.int .u64 0, .int .u64 0, .int .u64 0, .int .u64 0] 32)) w.heap.size ∧ Below w.heap.size w (w.alloc (.cells #[.int .u64 0, .int .u64 0, .int .u64 0, .int .u64 0] 32))) := ⟨Pend.new w _, below_alloc0' (Below.refl _ _) _⟩
  have HG : Hid (GlobD w ∧ 2 < w.heap.size ∧ GlobQ w ∧ Strs w a l) := ⟨hG, hz, hQ, hS⟩
  clear hb ht hG hz hQ hR hS
  go_enter Tryd.func10, Tryd.ntmps10
  go_wp2_with fail
  refine (KT.out _).mono ?_
  rintro e w0 ⟨rfl, ew0⟩
  have H1 : Hid (Pend w0 w.heap.size ∧ Below w.heap.size w w0) := by rw [ew0]; exact H0.out
  clear ew0 H0
  go_wp2_with fail
  refine (KD.out _ (HG.out.2.2.2.call H1.out.2) (HG.out.1.call H1.out.2) (Nat.lt_of_lt_of_le HG.out.2.1 H1.out.2.size) (HG.out.2.2.1.call H1.out.2)).mono ?_
  rintro e w1 ⟨rfl, hb1⟩
  have H2 : Hid (Pend w1 w.heap.size ∧ Below w.heap.size w w1) := ⟨H1.out.1.call hb1, below_call0' H1.out.2 hb1⟩
  clear hb1 H1
  obtain ⟨⟨p0, p1, p2, p3⟩, ⟨f0, f1, f2, f3⟩, pz⟩ := H2.out.1.facts
  have W2 : Below w.heap.size w w1 := H2.out.2
  go_wp2_with fail
  refine bodyPost_ret (v := .tuple #[.agg #[.int .u64 (limb (R) 0 : Nat), .int .u64 (limb (R) 1 : Nat), .int .u64 (limb (R) 2 : Nat), .int .u64 (limb (R) 3 : Nat)], .int .i64 0]) ?_ rfl ⟨rfl, ?_⟩
  · simp [results, Tryd.results10, go_sem, p0, p1, p2, p3]
  · ((repeat' (first | with_reducible exact Below.refl _ _ | with_reducible refine Below.setCell ?_ ?_ _ | with_reducible refine below_alloc0 ?_ _ | with_reducible refine below_drewN ?_ _ | with_reducible refine Below.drew ?_ | refine below_call0 ?_ (by assumption))) <;> (first | omega | (simp; done) | (simp; omega)))
set_option maxRecDepth 100000 in
set_option maxHeartbeats 4000000 in
theorem dscalar_no (t : ByteArray) (a : Option Addr) (n cap : Nat) (ht : tagB t = false) (w : World) :
    Calls Tryd.prog 10 #[.string t, .slice a n cap] w fun e w' => e = .returned (.tuple #[.agg #[.int .u64 0, .int .u64 0, .int .u64 0, .int .u64 0], .int .i64 1]) ∧ Below w.heap.size w w' := by
  have KT : Hid _ := fun (w : World) => isTag_any t w
  have H0 : Hid (Pend (w.alloc (.cells #[.int .u64 0, .int .u64 0, .int .u64 0, .int .u64 0] 32)) w.heap.size ∧ Below w.heap.size w (w.alloc (.cells #[.int .u64 0, .int .u64 0, .int .u64 0, .int .u64 0] 32))) := ⟨Pend.new w _, below_alloc0' (Below.refl _ _) _⟩
  rw [ht] at KT
  clear ht
  go_enter Tryd.func10, Tryd.ntmps10
  go_wp2_with fail
  refine (KT.out _).mono ?_
  rintro e w0 ⟨rfl, ew0⟩
  have H1 : Hid (Pend w0 w.heap.size ∧ Below w.heap.size w w0) := by rw [ew0]; exact H0.out
  clear ew0 H0
  obtain ⟨⟨p0, p1, p2, p3⟩, ⟨f0, f1, f2, f3⟩, pz⟩ := H1.out.1.facts
  have W2 : Below w.heap.size w w0 := H1.out.2
  go_wp2_with fail
  refine bodyPost_ret (v := .tuple #[.agg #[.int .u64 0, .int .u64 0, .int .u64 0, .int .u64 0], .int .i64 1]) ?_ rfl ⟨rfl, ?_⟩
  · simp [results, Tryd.results10, go_sem, p0, p1, p2, p3]
  · ((repeat' (first | with_reducible exact Below.refl _ _ | with_reducible refine Below.setCell ?_ ?_ _ | with_reducible refine below_alloc0 ?_ _ | with_reducible refine below_drewN ?_ _ | with_reducible refine Below.drew ?_ | refine below_call0 ?_ (by assumption))) <;> (first | omega | (simp; done) | (simp; omega)))
set_option maxRecDepth 100000 in
set_option maxHeartbeats 4000000 in
theorem scalar5_no (t : ByteArray) (a : Option Addr) (n cap : Nat) (ht : tagB t = false) (w : World) :
    Calls Tryd.prog 11 #[.string t, .slice a n cap] w fun e w' => e = .returned (.tuple #[.agg #[.int .u64 0, .int .u64 0, .int .u64 0, .int .u64 0], .int .i64 1]) ∧ Below w.heap.size w w' := by
  have KT : Hid _ := fun (w : World) => tag5_any t w
  have H0 : Hid (Pend (w.alloc (.cells #[.int .u64 0, .int .u64 0, .int .u64 0, .int .u64 0] 32)) w.heap.size ∧ Below w.heap.size w (w.alloc (.cells #[.int .u64 0, .int .u64 0, .int .u64 0, .int .u64 0] 32))) := ⟨Pend.new w _, below_alloc0' (Below.refl _ _) _⟩
  rw [ht] at KT
  clear ht
  go_enter Tryd.func11, Tryd.ntmps11
  go_wp2_with fail
  refine (KT.out _).mono ?_
  rintro e w0 ⟨rfl, ew0⟩
  have H1 : Hid (Pend w0 w.heap.size ∧ Below w.heap.size w w0) := by rw [ew0]; exact H0.out
  clear ew0 H0
  obtain ⟨⟨p0, p1, p2, p3⟩, ⟨f0, f1, f2, f3⟩, pz⟩ := H1.out.1.facts
  have W2 : Below w.heap.size w w0 := H1.out.2
  go_wp2_with fail
  refine bodyPost_ret (v := .tuple #[.agg #[.int .u64 0, .int .u64 0, .int .u64 0, .int .u64 0], .int .i64 1]) ?_ rfl ⟨rfl, ?_⟩
  · simp [results, Tryd.results11, go_sem, p0, p1, p2, p3]
  · ((repeat' (first | with_reducible exact Below.refl _ _ | with_reducible refine Below.setCell ?_ ?_ _ | with_reducible refine below_alloc0 ?_ _ | with_reducible refine below_drewN ?_ _ | with_reducible refine Below.drew ?_ | refine below_call0 ?_ (by assumption))) <;> (first | omega | (simp; done) | (simp; omega)))
set_option maxHeartbeats 1000000 in
theorem rbytes_in (t : ByteArray) (a : Option Addr) (l : List ByteArray) (cap : Nat) (ht : tagB t = true) (hb : (hashB t l).size < 140737488351233) (w : World) (hS : Strs w a l) :
    Calls Tryd.prog 9 #[.string t, .slice a l.length cap] w fun e w' => e = .returned (.tuple #[.string (shaS (hashB t l)), .int .i64 0]) ∧ Below w.heap.size w w' := by
  have K1 : Hid _ := fun (w : World) => tag5_any t w
  rw [ht] at K1
  have K2 : Hid _ := fun (w : World) (hS : Strs w a l) => hashed_any t a l cap (by omega) w hS
  have K3 : Hid _ := fun (w : World) => sum4_any (hashB t l) hb w
  have HG : Hid (Strs w a l) := hS
  obtain ⟨X, hX⟩ : ∃ X, X = hashB t l := ⟨_, rfl⟩
  rw [← hX] at K2 K3 ⊢
  obtain ⟨R, hR⟩ : ∃ R, R = shaS X := ⟨_, rfl⟩
  rw [← hR] at K3 ⊢
  clear hS hb hR hX ht
  go_enter Tryd.func9, Tryd.ntmps9
  go_wp2_with fail
  refine (K1.out _).mono ?_
  rintro e w1 ⟨rfl, rfl⟩
  go_wp2_with fail
  refine (K2.out _ HG.out).mono ?_
  rintro e w2 ⟨rfl, hB2⟩
  have H2 : Hid (Below w1.heap.size w1 w2) := hB2
  clear hB2
  go_wp2_with fail
  refine (K3.out _).mono ?_
  rintro e w3 ⟨rfl, hB3⟩
  have H3 : Hid (Below w1.heap.size w1 w3) := below_call0' H2.out hB3
  clear hB3
  go_wp2_with fail
  go_ret2
  exact ⟨rfl, H3.out⟩
theorem rbytes_no (t : ByteArray) (a : Option Addr) (n cap : Nat) (ht : tagB t = false) (w : World) :
    Calls Tryd.prog 9 #[.string t, .slice a n cap] w fun e w' => e = .returned (.tuple #[.string ByteArray.empty, .int .i64 1]) ∧ Below w.heap.size w w' := by
  have K1 : Hid _ := fun (w : World) => tag5_any t w
  rw [ht] at K1
  clear ht
  go_enter Tryd.func9, Tryd.ntmps9
  go_wp2_with fail
  refine (K1.out _).mono ?_
  rintro e w1 ⟨rfl, rfl⟩
  go_wp2_with fail
  go_ret2
  exact ⟨rfl, Below.refl _ _⟩
end Go.Proofs.YtjdfipfeclphkaaDoor
