/- The law DomainApart: what is hashed tells tags and parts apart. -/
import Derived.Test.YtjdfipfeclphkaaDoorDmO
import Derived.Test.YtjdfipfeclphkaaDoorDmH
import Derived.Test.YtjdfipfeclphkaaDoorDmL
namespace Go.Proofs.YtjdfipfeclphkaaDoor
open Go Go.RowKit Go.Lib

/-- What the law's walk rests on. -/
def ApW (w : World) (a : Option Addr) (l : List ByteArray) (t : ByteArray) : Prop := Strs w a l ∧ t.size + bytesN l + l.length < 4398046511104
theorem ApW.hash {w : World} {a : Option Addr} {l : List ByteArray} {t : ByteArray} (h : ApW w a l t) : (hashB t l).size < 1152921504606846976 := by rw [hashB_size]; have := h.2; omega
theorem ApW.large {w : World} {a : Option Addr} {l : List ByteArray} {t : ByteArray} (h : ApW w a l t) : t.size + bytesN l + l.length < 1152921504606846976 := by have := h.2; omega
theorem ApW.len {w : World} {a : Option Addr} {l : List ByteArray} {t : ByteArray} (h : ApW w a l t) : l.length ≤ 8796093022208 := by have := h.2; omega
theorem not_large {l : List ByteArray} {t : ByteArray} (h : largeB l t = false) (ht : tagB t = true) : t.size < 256 ∧ ∀ s ∈ l, s.size < 256 ^ 4 := by
  have h1 : ¬ (20000 < t.size + bytesN l) := of_decide_eq_false h
  have h2 : 1 ≤ t.size ∧ t.size ≤ 40 := of_decide_eq_true ht
  refine ⟨by omega, fun s hs => ?_⟩
  have h3 := bytesN_mem hs
  have : (256 : Nat) ^ 4 = 4294967296 := by decide
  omega
/-- The two arguments lie in blocks of the call's own. -/
def ArW (w W : World) (x0 x1 y0 y1 : Value) : Prop := Below w.heap.size w W ∧ W.cell? ⟨w.heap.size, 0, none⟩ = some x0 ∧ W.cell? ⟨w.heap.size, 1, none⟩ = some x1 ∧ W.cell? ⟨w.heap.size + 1, 0, none⟩ = some y0 ∧ W.cell? ⟨w.heap.size + 1, 1, none⟩ = some y1 ∧ w.heap.size + 1 < W.heap.size
theorem ArW.call {w W w1 : World} {x0 x1 y0 y1 : Value} (h : ArW w W x0 x1 y0 y1) (hb : Below W.heap.size W w1) : ArW w w1 x0 x1 y0 y1 := by
  have hz := h.2.2.2.2.2
  exact ⟨below_call0' h.1 hb, (hb.cell (p := ⟨w.heap.size, 0, none⟩) (by show w.heap.size < _; omega)).trans h.2.1, (hb.cell (p := ⟨w.heap.size, 1, none⟩) (by show w.heap.size < _; omega)).trans h.2.2.1, (hb.cell (p := ⟨w.heap.size + 1, 0, none⟩) hz).trans h.2.2.2.1, (hb.cell (p := ⟨w.heap.size + 1, 1, none⟩) hz).trans h.2.2.2.2.1, Nat.lt_of_lt_of_le hz hb.size⟩
theorem ArW.drew {w W : World} {x0 x1 y0 y1 : Value} (h : ArW w W x0 x1 y0 y1) : ArW w W.drew x0 x1 y0 y1 := ⟨h.1.drew, h.2⟩
theorem ArW.start (w : World) (x0 x1 y0 y1 : Value) (T : TypeId) : ArW w ((w.alloc (.cells #[x0, x1] T)).alloc (.cells #[y0, y1] T)) x0 x1 y0 y1 :=
  ⟨below_alloc0' (below_alloc0' (Below.refl _ _) _) _, by simp [go_sem], by simp [go_sem], by simp [go_sem], by simp [go_sem], by simp⟩
set_option maxRecDepth 100000 in
set_option maxHeartbeats 4000000 in
theorem apart_la (a b : Option Addr) (la lb : List ByteArray) (ta tb : ByteArray) (ca cb : Nat) (w : World) (hA : ApW w a la ta) (hB : ApW w b lb tb) (hG : GlobD w) (hz : 2 < w.heap.size) (h1 : largeB la ta = true) :
    Calls Tryd.prog 5 #[.agg #[.string ta, .slice a la.length ca], .agg #[.string tb, .slice b lb.length cb]] w fun e w' => e = .returned (.bool true) ∧ Below w.heap.size w w' := by
  have HA : Hid ((GlobD w ∧ 2 < w.heap.size) ∧ ApW w a la ta ∧ ApW w b lb tb ∧ True) := ⟨⟨hG, hz⟩, hA, hB, trivial⟩
  have H0 : Hid (ArW w ((w.alloc (.cells #[.string ta, .slice a la.length ca] 46)).alloc (.cells #[.string tb, .slice b lb.length cb] 46)) (.string ta) (.slice a la.length ca) (.string tb) (.slice b lb.length cb)) := ArW.start _ _ _ _ _ _
  have La : Hid _ := fun (w : World) (h : Strs w a la) => large_any ta a la ca HA.out.2.1.large w h
  rw [h1] at La
  clear h1
  clear hA hB hG hz
  go_enter Tryd.func5, Tryd.ntmps5
  go_wp2_with fail
  refine (La.out _ (HA.out.2.1.1.call H0.out.1)).mono ?_
  rintro e w1 ⟨rfl, hb1⟩
  have H1 : Hid (ArW w w1 (.string ta) (.slice a la.length ca) (.string tb) (.slice b lb.length cb)) := H0.out.call hb1
  clear hb1 H0
  have c0_1 := H1.out.2.1
  have c1_1 := H1.out.2.2.1
  have c2_1 := H1.out.2.2.2.1
  have c3_1 := H1.out.2.2.2.2.1
  go_wp2_with fail
  refine (one_any _ (HA.out.1.1.call H1.out.1) (Nat.lt_of_lt_of_le HA.out.1.2 H1.out.1.size)).mono ?_
  rintro e w2 ⟨rfl, hb2⟩
  have H2 : Hid (ArW w w2 (.string ta) (.slice a la.length ca) (.string tb) (.slice b lb.length cb)) := H1.out.call hb2
  clear hb2 H1
  clear c0_1 c1_1 c2_1 c3_1
  have c0_2 := H2.out.2.1
  have c1_2 := H2.out.2.2.1
  have c2_2 := H2.out.2.2.2.1
  have c3_2 := H2.out.2.2.2.2.1
  go_wp2_with fail
  go_ret
  exact ⟨rfl, H2.out.1⟩
set_option maxRecDepth 100000 in
set_option maxHeartbeats 4000000 in
theorem apart_lb (a b : Option Addr) (la lb : List ByteArray) (ta tb : ByteArray) (ca cb : Nat) (w : World) (hA : ApW w a la ta) (hB : ApW w b lb tb) (hG : GlobD w) (hz : 2 < w.heap.size) (h1 : largeB la ta = false) (h2 : largeB lb tb = true) :
    Calls Tryd.prog 5 #[.agg #[.string ta, .slice a la.length ca], .agg #[.string tb, .slice b lb.length cb]] w fun e w' => e = .returned (.bool true) ∧ Below w.heap.size w w' := by
  have HA : Hid ((GlobD w ∧ 2 < w.heap.size) ∧ ApW w a la ta ∧ ApW w b lb tb ∧ True) := ⟨⟨hG, hz⟩, hA, hB, trivial⟩
  have H0 : Hid (ArW w ((w.alloc (.cells #[.string ta, .slice a la.length ca] 46)).alloc (.cells #[.string tb, .slice b lb.length cb] 46)) (.string ta) (.slice a la.length ca) (.string tb) (.slice b lb.length cb)) := ArW.start _ _ _ _ _ _
  have La : Hid _ := fun (w : World) (h : Strs w a la) => large_any ta a la ca HA.out.2.1.large w h
  have Lb : Hid _ := fun (w : World) (h : Strs w b lb) => large_any tb b lb cb HA.out.2.2.1.large w h
  rw [h1] at La
  rw [h2] at Lb
  clear h1 h2
  clear hA hB hG hz
  go_enter Tryd.func5, Tryd.ntmps5
  go_wp2_with fail
  refine (La.out _ (HA.out.2.1.1.call H0.out.1)).mono ?_
  rintro e w1 ⟨rfl, hb1⟩
  have H1 : Hid (ArW w w1 (.string ta) (.slice a la.length ca) (.string tb) (.slice b lb.length cb)) := H0.out.call hb1
  clear hb1 H0
  have c0_1 := H1.out.2.1
  have c1_1 := H1.out.2.2.1
  have c2_1 := H1.out.2.2.2.1
  have c3_1 := H1.out.2.2.2.2.1
  go_wp2_with fail
  refine (Lb.out _ (HA.out.2.2.1.1.call H1.out.1)).mono ?_
  rintro e w2 ⟨rfl, hb2⟩
  have H2 : Hid (ArW w w2 (.string ta) (.slice a la.length ca) (.string tb) (.slice b lb.length cb)) := H1.out.call hb2
  clear hb2 H1
  clear c0_1 c1_1 c2_1 c3_1
  have c0_2 := H2.out.2.1
  have c1_2 := H2.out.2.2.1
  have c2_2 := H2.out.2.2.2.1
  have c3_2 := H2.out.2.2.2.2.1
  go_wp2_with fail
  refine (one_any _ (HA.out.1.1.call H2.out.1) (Nat.lt_of_lt_of_le HA.out.1.2 H2.out.1.size)).mono ?_
  rintro e w3 ⟨rfl, hb3⟩
  have H3 : Hid (ArW w w3 (.string ta) (.slice a la.length ca) (.string tb) (.slice b lb.length cb)) := H2.out.call hb3
  clear hb3 H2
  clear c0_2 c1_2 c2_2 c3_2
  have c0_3 := H3.out.2.1
  have c1_3 := H3.out.2.2.1
  have c2_3 := H3.out.2.2.2.1
  have c3_3 := H3.out.2.2.2.2.1
  go_wp2_with fail
  go_ret
  exact ⟨rfl, H3.out.1⟩
set_option maxRecDepth 100000 in
set_option maxHeartbeats 4000000 in
theorem apart_ta (a b : Option Addr) (la lb : List ByteArray) (ta tb : ByteArray) (ca cb : Nat) (w : World) (hA : ApW w a la ta) (hB : ApW w b lb tb) (hG : GlobD w) (hz : 2 < w.heap.size) (h1 : largeB la ta = false) (h2 : largeB lb tb = false) (h3 : tagB ta = false) :
    Calls Tryd.prog 5 #[.agg #[.string ta, .slice a la.length ca], .agg #[.string tb, .slice b lb.length cb]] w fun e w' => e = .returned (.bool true) ∧ Below w.heap.size w w' := by
  have HA : Hid ((GlobD w ∧ 2 < w.heap.size) ∧ ApW w a la ta ∧ ApW w b lb tb ∧ True) := ⟨⟨hG, hz⟩, hA, hB, trivial⟩
  have H0 : Hid (ArW w ((w.alloc (.cells #[.string ta, .slice a la.length ca] 46)).alloc (.cells #[.string tb, .slice b lb.length cb] 46)) (.string ta) (.slice a la.length ca) (.string tb) (.slice b lb.length cb)) := ArW.start _ _ _ _ _ _
  have La : Hid _ := fun (w : World) (h : Strs w a la) => large_any ta a la ca HA.out.2.1.large w h
  have Lb : Hid _ := fun (w : World) (h : Strs w b lb) => large_any tb b lb cb HA.out.2.2.1.large w h
  have Ta : Hid _ := fun (w : World) => tag5_any ta w
  rw [h1] at La
  rw [h2] at Lb
  rw [h3] at Ta
  clear h1 h2 h3
  clear hA hB hG hz
  go_enter Tryd.func5, Tryd.ntmps5
  go_wp2_with fail
  refine (La.out _ (HA.out.2.1.1.call H0.out.1)).mono ?_
  rintro e w1 ⟨rfl, hb1⟩
  have H1 : Hid (ArW w w1 (.string ta) (.slice a la.length ca) (.string tb) (.slice b lb.length cb)) := H0.out.call hb1
  clear hb1 H0
  have c0_1 := H1.out.2.1
  have c1_1 := H1.out.2.2.1
  have c2_1 := H1.out.2.2.2.1
  have c3_1 := H1.out.2.2.2.2.1
  go_wp2_with fail
  refine (Lb.out _ (HA.out.2.2.1.1.call H1.out.1)).mono ?_
  rintro e w2 ⟨rfl, hb2⟩
  have H2 : Hid (ArW w w2 (.string ta) (.slice a la.length ca) (.string tb) (.slice b lb.length cb)) := H1.out.call hb2
  clear hb2 H1
  clear c0_1 c1_1 c2_1 c3_1
  have c0_2 := H2.out.2.1
  have c1_2 := H2.out.2.2.1
  have c2_2 := H2.out.2.2.2.1
  have c3_2 := H2.out.2.2.2.2.1
  go_wp2_with fail
  refine (Ta.out _).mono ?_
  rintro e w3 ⟨rfl, ew3⟩
  have H3 : Hid (ArW w w3 (.string ta) (.slice a la.length ca) (.string tb) (.slice b lb.length cb)) := by rw [ew3]; exact H2.out
  clear ew3 H2
  clear c0_2 c1_2 c2_2 c3_2
  have c0_3 := H3.out.2.1
  have c1_3 := H3.out.2.2.1
  have c2_3 := H3.out.2.2.2.1
  have c3_3 := H3.out.2.2.2.2.1
  go_wp2_with fail
  refine (one_any _ (HA.out.1.1.call H3.out.1) (Nat.lt_of_lt_of_le HA.out.1.2 H3.out.1.size)).mono ?_
  rintro e w4 ⟨rfl, hb4⟩
  have H4 : Hid (ArW w w4 (.string ta) (.slice a la.length ca) (.string tb) (.slice b lb.length cb)) := H3.out.call hb4
  clear hb4 H3
  clear c0_3 c1_3 c2_3 c3_3
  have c0_4 := H4.out.2.1
  have c1_4 := H4.out.2.2.1
  have c2_4 := H4.out.2.2.2.1
  have c3_4 := H4.out.2.2.2.2.1
  go_wp2_with fail
  go_ret
  exact ⟨rfl, H4.out.1⟩
set_option maxRecDepth 100000 in
set_option maxHeartbeats 4000000 in
theorem apart_tb (a b : Option Addr) (la lb : List ByteArray) (ta tb : ByteArray) (ca cb : Nat) (w : World) (hA : ApW w a la ta) (hB : ApW w b lb tb) (hG : GlobD w) (hz : 2 < w.heap.size) (h1 : largeB la ta = false) (h2 : largeB lb tb = false) (h3 : tagB ta = true) (h4 : tagB tb = false) :
    Calls Tryd.prog 5 #[.agg #[.string ta, .slice a la.length ca], .agg #[.string tb, .slice b lb.length cb]] w fun e w' => e = .returned (.bool true) ∧ Below w.heap.size w w' := by
  have HA : Hid ((GlobD w ∧ 2 < w.heap.size) ∧ ApW w a la ta ∧ ApW w b lb tb ∧ True) := ⟨⟨hG, hz⟩, hA, hB, trivial⟩
  have H0 : Hid (ArW w ((w.alloc (.cells #[.string ta, .slice a la.length ca] 46)).alloc (.cells #[.string tb, .slice b lb.length cb] 46)) (.string ta) (.slice a la.length ca) (.string tb) (.slice b lb.length cb)) := ArW.start _ _ _ _ _ _
  have La : Hid _ := fun (w : World) (h : Strs w a la) => large_any ta a la ca HA.out.2.1.large w h
  have Lb : Hid _ := fun (w : World) (h : Strs w b lb) => large_any tb b lb cb HA.out.2.2.1.large w h
  have Ta : Hid _ := fun (w : World) => tag5_any ta w
  have Tb : Hid _ := fun (w : World) => tag5_any tb w
  rw [h1] at La
  rw [h2] at Lb
  rw [h3] at Ta
  rw [h4] at Tb
  clear h1 h2 h3 h4
  clear hA hB hG hz
  go_enter Tryd.func5, Tryd.ntmps5
  go_wp2_with fail
  refine (La.out _ (HA.out.2.1.1.call H0.out.1)).mono ?_
  rintro e w1 ⟨rfl, hb1⟩
  have H1 : Hid (ArW w w1 (.string ta) (.slice a la.length ca) (.string tb) (.slice b lb.length cb)) := H0.out.call hb1
  clear hb1 H0
  have c0_1 := H1.out.2.1
  have c1_1 := H1.out.2.2.1
  have c2_1 := H1.out.2.2.2.1
  have c3_1 := H1.out.2.2.2.2.1
  go_wp2_with fail
  refine (Lb.out _ (HA.out.2.2.1.1.call H1.out.1)).mono ?_
  rintro e w2 ⟨rfl, hb2⟩
  have H2 : Hid (ArW w w2 (.string ta) (.slice a la.length ca) (.string tb) (.slice b lb.length cb)) := H1.out.call hb2
  clear hb2 H1
  clear c0_1 c1_1 c2_1 c3_1
  have c0_2 := H2.out.2.1
  have c1_2 := H2.out.2.2.1
  have c2_2 := H2.out.2.2.2.1
  have c3_2 := H2.out.2.2.2.2.1
  go_wp2_with fail
  refine (Ta.out _).mono ?_
  rintro e w3 ⟨rfl, ew3⟩
  have H3 : Hid (ArW w w3 (.string ta) (.slice a la.length ca) (.string tb) (.slice b lb.length cb)) := by rw [ew3]; exact H2.out
  clear ew3 H2
  clear c0_2 c1_2 c2_2 c3_2
  have c0_3 := H3.out.2.1
  have c1_3 := H3.out.2.2.1
  have c2_3 := H3.out.2.2.2.1
  have c3_3 := H3.out.2.2.2.2.1
  go_wp2_with fail
  refine (Tb.out _).mono ?_
  rintro e w4 ⟨rfl, ew4⟩
  have H4 : Hid (ArW w w4 (.string ta) (.slice a la.length ca) (.string tb) (.slice b lb.length cb)) := by rw [ew4]; exact H3.out
  clear ew4 H3
  clear c0_3 c1_3 c2_3 c3_3
  have c0_4 := H4.out.2.1
  have c1_4 := H4.out.2.2.1
  have c2_4 := H4.out.2.2.2.1
  have c3_4 := H4.out.2.2.2.2.1
  go_wp2_with fail
  refine (one_any _ (HA.out.1.1.call H4.out.1) (Nat.lt_of_lt_of_le HA.out.1.2 H4.out.1.size)).mono ?_
  rintro e w5 ⟨rfl, hb5⟩
  have H5 : Hid (ArW w w5 (.string ta) (.slice a la.length ca) (.string tb) (.slice b lb.length cb)) := H4.out.call hb5
  clear hb5 H4
  clear c0_4 c1_4 c2_4 c3_4
  have c0_5 := H5.out.2.1
  have c1_5 := H5.out.2.2.1
  have c2_5 := H5.out.2.2.2.1
  have c3_5 := H5.out.2.2.2.2.1
  go_wp2_with fail
  go_ret
  exact ⟨rfl, H5.out.1⟩
set_option maxRecDepth 100000 in
set_option maxHeartbeats 4000000 in
theorem apart_eq (a b : Option Addr) (la lb : List ByteArray) (ta tb : ByteArray) (ca cb : Nat) (w : World) (hA : ApW w a la ta) (hB : ApW w b lb tb) (hG : GlobD w) (hz : 2 < w.heap.size) (h1 : largeB la ta = false) (h2 : largeB lb tb = false) (hta : tagB ta = true) (htb : tagB tb = true) (ht : ta = tb) (hl : la = lb) :
    Calls Tryd.prog 5 #[.agg #[.string ta, .slice a la.length ca], .agg #[.string tb, .slice b lb.length cb]] w fun e w' => e = .returned (.bool true) ∧ Below w.heap.size w w' := by
  have HA : Hid ((GlobD w ∧ 2 < w.heap.size) ∧ ApW w a la ta ∧ ApW w b lb tb ∧ True) := ⟨⟨hG, hz⟩, hA, hB, trivial⟩
  have H0 : Hid (ArW w ((w.alloc (.cells #[.string ta, .slice a la.length ca] 46)).alloc (.cells #[.string tb, .slice b lb.length cb] 46)) (.string ta) (.slice a la.length ca) (.string tb) (.slice b lb.length cb)) := ArW.start _ _ _ _ _ _
  have La : Hid _ := fun (w : World) (h : Strs w a la) => large_any ta a la ca HA.out.2.1.large w h
  have Lb : Hid _ := fun (w : World) (h : Strs w b lb) => large_any tb b lb cb HA.out.2.2.1.large w h
  have Ta : Hid _ := fun (w : World) => tag5_any ta w
  have Tb : Hid _ := fun (w : World) => tag5_any tb w
  have Tx : Hid _ := fun (w : World) (h1 : Strs w a la) (h2 : Strs w b lb) => texts_any a b la lb ca cb HA.out.2.1.len w h1 h2
  have Ha : Hid _ := fun (w : World) (h : Strs w a la) => hashed_any ta a la ca HA.out.2.1.hash w h
  have Hb : Hid _ := fun (w : World) (h : Strs w b lb) => hashed_any tb b lb cb HA.out.2.2.1.hash w h
  have Ba : Hid _ := fun (w : World) (h : Strs w a la) (hG : GlobD w) (hz : 2 < w.heap.size) => bytes5_in ta a la ca hta HA.out.2.1.hash w h hG hz
  have Bb : Hid _ := fun (w : World) (h : Strs w b lb) (hG : GlobD w) (hz : 2 < w.heap.size) => bytes5_in tb b lb cb htb HA.out.2.2.1.hash w h hG hz
  rw [h1] at La
  rw [h2] at Lb
  rw [hta] at Ta
  rw [htb] at Tb
  rw [decide_eq_true hl] at Tx
  obtain ⟨X, hX⟩ : ∃ X, X = hashB ta la := ⟨_, rfl⟩
  obtain ⟨Y, hY⟩ : ∃ Y, Y = hashB tb lb := ⟨_, rfl⟩
  rw [← hX] at Ha Ba
  rw [← hY] at Hb Bb
  obtain ⟨x, hx⟩ : ∃ x, x = shaS X := ⟨_, rfl⟩
  obtain ⟨y, hy⟩ : ∃ y, y = shaS Y := ⟨_, rfl⟩
  rw [← hx] at Ba
  rw [← hy] at Bb
  have tt : (ta.toList == tb.toList) = true := by rw [ht]; simp only [BEq.rfl]
  have xx : (X.toList == Y.toList) = true := by rw [hX, hY, ht, hl]; simp only [BEq.rfl]
  have yy : (x.toList == y.toList) = true := by rw [hx, hy, hX, hY, ht, hl]; simp only [BEq.rfl]
  clear h1 h2 hta htb ht hl hX hY hx hy
  clear hA hB hG hz
  go_enter Tryd.func5, Tryd.ntmps5
  go_wp2_with fail
  refine (La.out _ (HA.out.2.1.1.call H0.out.1)).mono ?_
  rintro e w1 ⟨rfl, hb1⟩
  have H1 : Hid (ArW w w1 (.string ta) (.slice a la.length ca) (.string tb) (.slice b lb.length cb)) := H0.out.call hb1
  clear hb1 H0
  have c0_1 := H1.out.2.1
  have c1_1 := H1.out.2.2.1
  have c2_1 := H1.out.2.2.2.1
  have c3_1 := H1.out.2.2.2.2.1
  go_wp2_with fail
  refine (Lb.out _ (HA.out.2.2.1.1.call H1.out.1)).mono ?_
  rintro e w2 ⟨rfl, hb2⟩
  have H2 : Hid (ArW w w2 (.string ta) (.slice a la.length ca) (.string tb) (.slice b lb.length cb)) := H1.out.call hb2
  clear hb2 H1
  clear c0_1 c1_1 c2_1 c3_1
  have c0_2 := H2.out.2.1
  have c1_2 := H2.out.2.2.1
  have c2_2 := H2.out.2.2.2.1
  have c3_2 := H2.out.2.2.2.2.1
  go_wp2_with fail
  refine (Ta.out _).mono ?_
  rintro e w3 ⟨rfl, ew3⟩
  have H3 : Hid (ArW w w3 (.string ta) (.slice a la.length ca) (.string tb) (.slice b lb.length cb)) := by rw [ew3]; exact H2.out
  clear ew3 H2
  clear c0_2 c1_2 c2_2 c3_2
  have c0_3 := H3.out.2.1
  have c1_3 := H3.out.2.2.1
  have c2_3 := H3.out.2.2.2.1
  have c3_3 := H3.out.2.2.2.2.1
  go_wp2_with fail
  refine (Tb.out _).mono ?_
  rintro e w4 ⟨rfl, ew4⟩
  have H4 : Hid (ArW w w4 (.string ta) (.slice a la.length ca) (.string tb) (.slice b lb.length cb)) := by rw [ew4]; exact H3.out
  clear ew4 H3
  clear c0_3 c1_3 c2_3 c3_3
  have c0_4 := H4.out.2.1
  have c1_4 := H4.out.2.2.1
  have c2_4 := H4.out.2.2.2.1
  have c3_4 := H4.out.2.2.2.2.1
  go_wp2_with fail
  refine (Tx.out _ (HA.out.2.1.1.call H4.out.1) (HA.out.2.2.1.1.call H4.out.1)).mono ?_
  rintro e w5 ⟨rfl, hb5⟩
  have H5 : Hid (ArW w w5 (.string ta) (.slice a la.length ca) (.string tb) (.slice b lb.length cb)) := H4.out.call hb5
  clear hb5 H4
  clear c0_4 c1_4 c2_4 c3_4
  have c0_5 := H5.out.2.1
  have c1_5 := H5.out.2.2.1
  have c2_5 := H5.out.2.2.2.1
  have c3_5 := H5.out.2.2.2.2.1
  go_wp2_with fail
  refine wp_region_H (fun w' => ArW w w' (.string ta) (.slice a la.length ca) (.string tb) (.slice b lb.length cb)) 13 rfl (by kernel_rfl) ?_
  refine wpAnyH_take (i := 0) (oi := ?o0h) (v := ?v0h) ?hi0h (by kernel_rfl) (by kernel_rfl) (by kernel_rfl) ?hQ0h ?hy0h (ArW.drew H5.out) ?more0h
  case hi0h => rw [List.getElem?_toArray]; exact rfl
  case hQ0h => exact fun _ _ _ h => h
  case hy0h =>
    refine Or.inl ⟨by rfl, ?_⟩
    intro w' hSw
    obtain ⟨-, e0, e1, e2, e3, -⟩ := hSw
    go_simp
    try with_reducible rfl
  simp only [Act.put, List.setIfInBounds_toArray, List.set_cons_zero, List.set_cons_succ]
  refine wpAnyH_take (i := 1) (oi := ?o1h) (v := ?v1h) ?hi1h (by kernel_rfl) (by kernel_rfl) (by kernel_rfl) ?hQ1h ?hy1h (ArW.drew H5.out) ?more1h
  case hi1h => rw [List.getElem?_toArray]; exact rfl
  case hQ1h => exact fun _ _ _ h => h
  case hy1h =>
    refine Or.inl ⟨by rfl, ?_⟩
    intro w' hSw
    obtain ⟨-, e0, e1, e2, e3, -⟩ := hSw
    go_simp
    try with_reducible rfl
  simp only [Act.put, List.setIfInBounds_toArray, List.set_cons_zero, List.set_cons_succ]
  refine wpAnyH_take (i := 2) (oi := ?o2h) (v := ?v2h) ?hi2h (by kernel_rfl) (by kernel_rfl) (by kernel_rfl) ?hQ2h ?hy2h (ArW.drew H5.out) ?more2h
  case hi2h => rw [List.getElem?_toArray]; exact rfl
  case hQ2h => exact fun _ _ _ h => h
  case hy2h =>
    refine Or.inl ⟨by rfl, ?_⟩
    intro w' hSw
    obtain ⟨-, e0, e1, e2, e3, -⟩ := hSw
    go_simp
    try with_reducible rfl
  simp only [Act.put, List.setIfInBounds_toArray, List.set_cons_zero, List.set_cons_succ]
  refine wpAnyH_take (i := 3) (oi := ?o3h) (v := ?v3h) ?hi3h (by kernel_rfl) (by kernel_rfl) (by kernel_rfl) ?hQ3h ?hy3h (ArW.drew H5.out) ?more3h
  case hi3h => rw [List.getElem?_toArray]; exact rfl
  case hQ3h => exact fun _ _ _ h => h
  case hy3h =>
    refine Or.inl ⟨by rfl, ?_⟩
    intro w' hSw
    obtain ⟨-, e0, e1, e2, e3, -⟩ := hSw
    go_simp
    try with_reducible rfl
  simp only [Act.put, List.setIfInBounds_toArray, List.set_cons_zero, List.set_cons_succ]
  refine wpAnyH_take (i := 5) (oi := ?o5h) (v := ?v5h) ?hi5h (by kernel_rfl) (by kernel_rfl) (by kernel_rfl) ?hQ5h ?hy5h (ArW.drew H5.out) ?more5h
  case hi5h => rw [List.getElem?_toArray]; exact rfl
  case hQ5h => exact fun _ _ _ h => h
  case hy5h =>
    refine Or.inl ⟨by rfl, ?_⟩
    intro w' hSw
    obtain ⟨-, e0, e1, e2, e3, -⟩ := hSw
    go_simp
    try with_reducible rfl
  simp only [Act.put, List.setIfInBounds_toArray, List.set_cons_zero, List.set_cons_succ]
  refine wpAnyH_take (i := 6) (oi := ?o6h) (v := ?v6h) ?hi6h (by kernel_rfl) (by kernel_rfl) (by kernel_rfl) ?hQ6h ?hy6h (ArW.drew H5.out) ?more6h
  case hi6h => rw [List.getElem?_toArray]; exact rfl
  case hQ6h => exact fun _ _ _ h => h
  case hy6h =>
    refine Or.inl ⟨by rfl, ?_⟩
    intro w' hSw
    obtain ⟨-, e0, e1, e2, e3, -⟩ := hSw
    go_simp
    try with_reducible rfl
  simp only [Act.put, List.setIfInBounds_toArray, List.set_cons_zero, List.set_cons_succ]
  refine wpAnyH_take (i := 7) (oi := ?o7h) (v := ?v7h) ?hi7h (by kernel_rfl) (by kernel_rfl) (by kernel_rfl) ?hQ7h ?hy7h (ArW.drew H5.out) ?more7h
  case hi7h => rw [List.getElem?_toArray]; exact rfl
  case hQ7h => exact fun _ _ _ h => h
  case hy7h =>
    refine Or.inl ⟨by rfl, ?_⟩
    intro w' hSw
    obtain ⟨-, e0, e1, e2, e3, -⟩ := hSw
    go_simp
    try with_reducible rfl
  simp only [Act.put, List.setIfInBounds_toArray, List.set_cons_zero, List.set_cons_succ]
  refine wpAnyH_take (i := 8) (oi := ?o8h) (v := ?v8h) ?hi8h (by kernel_rfl) (by kernel_rfl) (by kernel_rfl) ?hQ8h ?hy8h (ArW.drew H5.out) ?more8h
  case hi8h => rw [List.getElem?_toArray]; exact rfl
  case hQ8h => exact fun _ _ _ h => h
  case hy8h =>
    refine Or.inl ⟨by rfl, ?_⟩
    intro w' hSw
    obtain ⟨-, e0, e1, e2, e3, -⟩ := hSw
    go_simp
    try with_reducible rfl
  simp only [Act.put, List.setIfInBounds_toArray, List.set_cons_zero, List.set_cons_succ]
  refine wpAnyH_take (i := 11) (oi := ?o11h) (v := ?v11h) ?hi11h (by kernel_rfl) (by kernel_rfl) (by kernel_rfl) ?hQ11h ?hy11h (ArW.drew H5.out) ?more11h
  case hi11h => rw [List.getElem?_toArray]; exact rfl
  case hQ11h => exact fun _ _ _ h => h
  case hy11h =>
    refine Or.inl ⟨by rfl, ?_⟩
    intro w' hSw
    obtain ⟨-, e0, e1, e2, e3, -⟩ := hSw
    go_simp
    try with_reducible rfl
  simp only [Act.put, List.setIfInBounds_toArray, List.set_cons_zero, List.set_cons_succ]
  refine wpAnyH_one (i := 4) (o := ?o4h) (by kernel_rfl) ?hi4h ?hw4h ?st4h
  case hi4h => rw [List.getElem?_toArray]; exact rfl
  case hw4h => exact rfl
  intro K hK
  have HK4h : Hid _ := hK
  clear hK
  go_simp
  refine (Ha.out _ (HA.out.2.1.1.call (ArW.drew H5.out).1)).mono ?_
  rintro e w6 ⟨rfl, hq⟩
  have H6 : Hid (ArW w w6 (.string ta) (.slice a la.length ca) (.string tb) (.slice b lb.length cb)) := (ArW.drew H5.out).call hq
  clear hq
  go_wp2_with fail
  refine HK4h.out _ _ ⟨H6.out, ?_⟩
  clear HK4h K
  try simp only [Act.put, List.setIfInBounds_toArray, List.set_cons_zero, List.set_cons_succ]
  refine wpAnyH_one (i := 9) (o := ?o9h) (by kernel_rfl) ?hi9h ?hw9h ?st9h
  case hi9h => rw [List.getElem?_toArray]; exact rfl
  case hw9h => exact rfl
  intro K hK
  have HK9h : Hid _ := hK
  clear hK
  go_simp
  refine (Hb.out _ (HA.out.2.2.1.1.call H6.out.1)).mono ?_
  rintro e w7 ⟨rfl, hq⟩
  have H7 : Hid (ArW w w7 (.string ta) (.slice a la.length ca) (.string tb) (.slice b lb.length cb)) := H6.out.call hq
  clear hq
  go_wp2_with fail
  refine HK9h.out _ _ ⟨H7.out, ?_⟩
  clear HK9h K
  try simp only [Act.put, List.setIfInBounds_toArray, List.set_cons_zero, List.set_cons_succ]
  refine wpAnyH_take (i := 10) (oi := ?o10h) (v := ?v10h) ?hi10h (by kernel_rfl) (by kernel_rfl) (by kernel_rfl) ?hQ10h ?hy10h H7.out ?more10h
  case hi10h => rw [List.getElem?_toArray]; exact rfl
  case hQ10h => exact fun _ _ _ h => h
  case hy10h =>
    refine Or.inl ⟨by rfl, ?_⟩
    intro w' hSw
    obtain ⟨-, e0, e1, e2, e3, -⟩ := hSw
    go_simp
    try with_reducible rfl
  simp only [Act.put, List.setIfInBounds_toArray, List.set_cons_zero, List.set_cons_succ]
  refine wpAnyH_take (i := 12) (oi := ?o12h) (v := ?v12h) ?hi12h (by kernel_rfl) (by kernel_rfl) (by kernel_rfl) ?hQ12h ?hy12h H7.out ?more12h
  case hi12h => rw [List.getElem?_toArray]; exact rfl
  case hQ12h => exact fun _ _ _ h => h
  case hy12h =>
    refine Or.inl ⟨by rfl, ?_⟩
    intro w' hSw
    obtain ⟨-, e0, e1, e2, e3, -⟩ := hSw
    go_simp
    try with_reducible rfl
  simp only [Act.put, List.setIfInBounds_toArray, List.set_cons_zero, List.set_cons_succ]
  refine wpAnyH_done (by kernel_rfl) ?_ _
  clear H5 H6 c0_5 c1_5 c2_5 c3_5
  have c0_7 := H7.out.2.1
  have c1_7 := H7.out.2.2.1
  have c2_7 := H7.out.2.2.2.1
  have c3_7 := H7.out.2.2.2.2.1
  go_wp2_with fail
  refine (Ba.out _ (HA.out.2.1.1.call H7.out.1) (HA.out.1.1.call H7.out.1) (Nat.lt_of_lt_of_le HA.out.1.2 H7.out.1.size)).mono ?_
  rintro e w8 ⟨rfl, hb8⟩
  have H8 : Hid (ArW w w8 (.string ta) (.slice a la.length ca) (.string tb) (.slice b lb.length cb)) := H7.out.call hb8
  clear hb8 H7
  clear c0_7 c1_7 c2_7 c3_7
  have c0_8 := H8.out.2.1
  have c1_8 := H8.out.2.2.1
  have c2_8 := H8.out.2.2.2.1
  have c3_8 := H8.out.2.2.2.2.1
  go_wp2_with fail
  refine (Bb.out _ (HA.out.2.2.1.1.call H8.out.1) (HA.out.1.1.call H8.out.1) (Nat.lt_of_lt_of_le HA.out.1.2 H8.out.1.size)).mono ?_
  rintro e w9 ⟨rfl, hb9⟩
  have H9 : Hid (ArW w w9 (.string ta) (.slice a la.length ca) (.string tb) (.slice b lb.length cb)) := H8.out.call hb9
  clear hb9 H8
  clear c0_8 c1_8 c2_8 c3_8
  have c0_9 := H9.out.2.1
  have c1_9 := H9.out.2.2.1
  have c2_9 := H9.out.2.2.2.1
  have c3_9 := H9.out.2.2.2.2.1
  go_wp2_with fail
  refine (one_any _ (HA.out.1.1.call H9.out.1) (Nat.lt_of_lt_of_le HA.out.1.2 H9.out.1.size)).mono ?_
  rintro e w10 ⟨rfl, hb10⟩
  have H10 : Hid (ArW w w10 (.string ta) (.slice a la.length ca) (.string tb) (.slice b lb.length cb)) := H9.out.call hb10
  clear hb10 H9
  clear c0_9 c1_9 c2_9 c3_9
  have c0_10 := H10.out.2.1
  have c1_10 := H10.out.2.2.1
  have c2_10 := H10.out.2.2.2.1
  have c3_10 := H10.out.2.2.2.2.1
  go_wp2_with fail
  go_ret
  exact ⟨rfl, H10.out.1⟩
set_option maxRecDepth 100000 in
set_option maxHeartbeats 4000000 in
theorem apart_nt (a b : Option Addr) (la lb : List ByteArray) (ta tb : ByteArray) (ca cb : Nat) (w : World) (hA : ApW w a la ta) (hB : ApW w b lb tb) (hG : GlobD w) (hz : 2 < w.heap.size) (h1 : largeB la ta = false) (h2 : largeB lb tb = false) (hta : tagB ta = true) (htb : tagB tb = true) (ht : ta ≠ tb) :
    Calls Tryd.prog 5 #[.agg #[.string ta, .slice a la.length ca], .agg #[.string tb, .slice b lb.length cb]] w fun e w' => e = .returned (.bool true) ∧ Below w.heap.size w w' := by
  have HA : Hid ((GlobD w ∧ 2 < w.heap.size) ∧ ApW w a la ta ∧ ApW w b lb tb ∧ True) := ⟨⟨hG, hz⟩, hA, hB, trivial⟩
  have H0 : Hid (ArW w ((w.alloc (.cells #[.string ta, .slice a la.length ca] 46)).alloc (.cells #[.string tb, .slice b lb.length cb] 46)) (.string ta) (.slice a la.length ca) (.string tb) (.slice b lb.length cb)) := ArW.start _ _ _ _ _ _
  have La : Hid _ := fun (w : World) (h : Strs w a la) => large_any ta a la ca HA.out.2.1.large w h
  have Lb : Hid _ := fun (w : World) (h : Strs w b lb) => large_any tb b lb cb HA.out.2.2.1.large w h
  have Ta : Hid _ := fun (w : World) => tag5_any ta w
  have Tb : Hid _ := fun (w : World) => tag5_any tb w
  have Ha : Hid _ := fun (w : World) (h : Strs w a la) => hashed_any ta a la ca HA.out.2.1.hash w h
  have Hb : Hid _ := fun (w : World) (h : Strs w b lb) => hashed_any tb b lb cb HA.out.2.2.1.hash w h
  have Ba : Hid _ := fun (w : World) (h : Strs w a la) (hG : GlobD w) (hz : 2 < w.heap.size) => bytes5_in ta a la ca hta HA.out.2.1.hash w h hG hz
  have Bb : Hid _ := fun (w : World) (h : Strs w b lb) (hG : GlobD w) (hz : 2 < w.heap.size) => bytes5_in tb b lb cb htb HA.out.2.2.1.hash w h hG hz
  rw [h1] at La
  rw [h2] at Lb
  rw [hta] at Ta
  rw [htb] at Tb
  obtain ⟨X, hX⟩ : ∃ X, X = hashB ta la := ⟨_, rfl⟩
  obtain ⟨Y, hY⟩ : ∃ Y, Y = hashB tb lb := ⟨_, rfl⟩
  rw [← hX] at Ha Ba
  rw [← hY] at Hb Bb
  obtain ⟨x, hx⟩ : ∃ x, x = shaS X := ⟨_, rfl⟩
  obtain ⟨y, hy⟩ : ∃ y, y = shaS Y := ⟨_, rfl⟩
  rw [← hx] at Ba
  rw [← hy] at Bb
  have tt : (ta.toList == tb.toList) = false := toList_ne ht
  have xx : (X.toList == Y.toList) = false := toList_ne (by rw [hX, hY]; exact fun c => ht (hashB_inj (not_large h1 hta).1 (not_large h2 htb).1 (not_large h1 hta).2 (not_large h2 htb).2 c).1)
  clear h1 h2 hta htb ht hX hY hx hy
  clear hA hB hG hz
  go_enter Tryd.func5, Tryd.ntmps5
  go_wp2_with fail
  refine (La.out _ (HA.out.2.1.1.call H0.out.1)).mono ?_
  rintro e w1 ⟨rfl, hb1⟩
  have H1 : Hid (ArW w w1 (.string ta) (.slice a la.length ca) (.string tb) (.slice b lb.length cb)) := H0.out.call hb1
  clear hb1 H0
  have c0_1 := H1.out.2.1
  have c1_1 := H1.out.2.2.1
  have c2_1 := H1.out.2.2.2.1
  have c3_1 := H1.out.2.2.2.2.1
  go_wp2_with fail
  refine (Lb.out _ (HA.out.2.2.1.1.call H1.out.1)).mono ?_
  rintro e w2 ⟨rfl, hb2⟩
  have H2 : Hid (ArW w w2 (.string ta) (.slice a la.length ca) (.string tb) (.slice b lb.length cb)) := H1.out.call hb2
  clear hb2 H1
  clear c0_1 c1_1 c2_1 c3_1
  have c0_2 := H2.out.2.1
  have c1_2 := H2.out.2.2.1
  have c2_2 := H2.out.2.2.2.1
  have c3_2 := H2.out.2.2.2.2.1
  go_wp2_with fail
  refine (Ta.out _).mono ?_
  rintro e w3 ⟨rfl, ew3⟩
  have H3 : Hid (ArW w w3 (.string ta) (.slice a la.length ca) (.string tb) (.slice b lb.length cb)) := by rw [ew3]; exact H2.out
  clear ew3 H2
  clear c0_2 c1_2 c2_2 c3_2
  have c0_3 := H3.out.2.1
  have c1_3 := H3.out.2.2.1
  have c2_3 := H3.out.2.2.2.1
  have c3_3 := H3.out.2.2.2.2.1
  go_wp2_with fail
  refine (Tb.out _).mono ?_
  rintro e w4 ⟨rfl, ew4⟩
  have H4 : Hid (ArW w w4 (.string ta) (.slice a la.length ca) (.string tb) (.slice b lb.length cb)) := by rw [ew4]; exact H3.out
  clear ew4 H3
  clear c0_3 c1_3 c2_3 c3_3
  have c0_4 := H4.out.2.1
  have c1_4 := H4.out.2.2.1
  have c2_4 := H4.out.2.2.2.1
  have c3_4 := H4.out.2.2.2.2.1
  go_wp2_with fail
  refine wp_region_H (fun w' => ArW w w' (.string ta) (.slice a la.length ca) (.string tb) (.slice b lb.length cb)) 13 rfl (by kernel_rfl) ?_
  refine wpAnyH_take (i := 0) (oi := ?o0h) (v := ?v0h) ?hi0h (by kernel_rfl) (by kernel_rfl) (by kernel_rfl) ?hQ0h ?hy0h (ArW.drew H4.out) ?more0h
  case hi0h => rw [List.getElem?_toArray]; exact rfl
  case hQ0h => exact fun _ _ _ h => h
  case hy0h =>
    refine Or.inl ⟨by rfl, ?_⟩
    intro w' hSw
    obtain ⟨-, e0, e1, e2, e3, -⟩ := hSw
    go_simp
    try with_reducible rfl
  simp only [Act.put, List.setIfInBounds_toArray, List.set_cons_zero, List.set_cons_succ]
  refine wpAnyH_take (i := 1) (oi := ?o1h) (v := ?v1h) ?hi1h (by kernel_rfl) (by kernel_rfl) (by kernel_rfl) ?hQ1h ?hy1h (ArW.drew H4.out) ?more1h
  case hi1h => rw [List.getElem?_toArray]; exact rfl
  case hQ1h => exact fun _ _ _ h => h
  case hy1h =>
    refine Or.inl ⟨by rfl, ?_⟩
    intro w' hSw
    obtain ⟨-, e0, e1, e2, e3, -⟩ := hSw
    go_simp
    try with_reducible rfl
  simp only [Act.put, List.setIfInBounds_toArray, List.set_cons_zero, List.set_cons_succ]
  refine wpAnyH_take (i := 2) (oi := ?o2h) (v := ?v2h) ?hi2h (by kernel_rfl) (by kernel_rfl) (by kernel_rfl) ?hQ2h ?hy2h (ArW.drew H4.out) ?more2h
  case hi2h => rw [List.getElem?_toArray]; exact rfl
  case hQ2h => exact fun _ _ _ h => h
  case hy2h =>
    refine Or.inl ⟨by rfl, ?_⟩
    intro w' hSw
    obtain ⟨-, e0, e1, e2, e3, -⟩ := hSw
    go_simp
    try with_reducible rfl
  simp only [Act.put, List.setIfInBounds_toArray, List.set_cons_zero, List.set_cons_succ]
  refine wpAnyH_take (i := 3) (oi := ?o3h) (v := ?v3h) ?hi3h (by kernel_rfl) (by kernel_rfl) (by kernel_rfl) ?hQ3h ?hy3h (ArW.drew H4.out) ?more3h
  case hi3h => rw [List.getElem?_toArray]; exact rfl
  case hQ3h => exact fun _ _ _ h => h
  case hy3h =>
    refine Or.inl ⟨by rfl, ?_⟩
    intro w' hSw
    obtain ⟨-, e0, e1, e2, e3, -⟩ := hSw
    go_simp
    try with_reducible rfl
  simp only [Act.put, List.setIfInBounds_toArray, List.set_cons_zero, List.set_cons_succ]
  refine wpAnyH_take (i := 5) (oi := ?o5h) (v := ?v5h) ?hi5h (by kernel_rfl) (by kernel_rfl) (by kernel_rfl) ?hQ5h ?hy5h (ArW.drew H4.out) ?more5h
  case hi5h => rw [List.getElem?_toArray]; exact rfl
  case hQ5h => exact fun _ _ _ h => h
  case hy5h =>
    refine Or.inl ⟨by rfl, ?_⟩
    intro w' hSw
    obtain ⟨-, e0, e1, e2, e3, -⟩ := hSw
    go_simp
    try with_reducible rfl
  simp only [Act.put, List.setIfInBounds_toArray, List.set_cons_zero, List.set_cons_succ]
  refine wpAnyH_take (i := 6) (oi := ?o6h) (v := ?v6h) ?hi6h (by kernel_rfl) (by kernel_rfl) (by kernel_rfl) ?hQ6h ?hy6h (ArW.drew H4.out) ?more6h
  case hi6h => rw [List.getElem?_toArray]; exact rfl
  case hQ6h => exact fun _ _ _ h => h
  case hy6h =>
    refine Or.inl ⟨by rfl, ?_⟩
    intro w' hSw
    obtain ⟨-, e0, e1, e2, e3, -⟩ := hSw
    go_simp
    try with_reducible rfl
  simp only [Act.put, List.setIfInBounds_toArray, List.set_cons_zero, List.set_cons_succ]
  refine wpAnyH_take (i := 7) (oi := ?o7h) (v := ?v7h) ?hi7h (by kernel_rfl) (by kernel_rfl) (by kernel_rfl) ?hQ7h ?hy7h (ArW.drew H4.out) ?more7h
  case hi7h => rw [List.getElem?_toArray]; exact rfl
  case hQ7h => exact fun _ _ _ h => h
  case hy7h =>
    refine Or.inl ⟨by rfl, ?_⟩
    intro w' hSw
    obtain ⟨-, e0, e1, e2, e3, -⟩ := hSw
    go_simp
    try with_reducible rfl
  simp only [Act.put, List.setIfInBounds_toArray, List.set_cons_zero, List.set_cons_succ]
  refine wpAnyH_take (i := 8) (oi := ?o8h) (v := ?v8h) ?hi8h (by kernel_rfl) (by kernel_rfl) (by kernel_rfl) ?hQ8h ?hy8h (ArW.drew H4.out) ?more8h
  case hi8h => rw [List.getElem?_toArray]; exact rfl
  case hQ8h => exact fun _ _ _ h => h
  case hy8h =>
    refine Or.inl ⟨by rfl, ?_⟩
    intro w' hSw
    obtain ⟨-, e0, e1, e2, e3, -⟩ := hSw
    go_simp
    try with_reducible rfl
  simp only [Act.put, List.setIfInBounds_toArray, List.set_cons_zero, List.set_cons_succ]
  refine wpAnyH_take (i := 11) (oi := ?o11h) (v := ?v11h) ?hi11h (by kernel_rfl) (by kernel_rfl) (by kernel_rfl) ?hQ11h ?hy11h (ArW.drew H4.out) ?more11h
  case hi11h => rw [List.getElem?_toArray]; exact rfl
  case hQ11h => exact fun _ _ _ h => h
  case hy11h =>
    refine Or.inl ⟨by rfl, ?_⟩
    intro w' hSw
    obtain ⟨-, e0, e1, e2, e3, -⟩ := hSw
    go_simp
    try with_reducible rfl
  simp only [Act.put, List.setIfInBounds_toArray, List.set_cons_zero, List.set_cons_succ]
  refine wpAnyH_one (i := 4) (o := ?o4h) (by kernel_rfl) ?hi4h ?hw4h ?st4h
  case hi4h => rw [List.getElem?_toArray]; exact rfl
  case hw4h => exact rfl
  intro K hK
  have HK4h : Hid _ := hK
  clear hK
  go_simp
  refine (Ha.out _ (HA.out.2.1.1.call (ArW.drew H4.out).1)).mono ?_
  rintro e w5 ⟨rfl, hq⟩
  have H5 : Hid (ArW w w5 (.string ta) (.slice a la.length ca) (.string tb) (.slice b lb.length cb)) := (ArW.drew H4.out).call hq
  clear hq
  go_wp2_with fail
  refine HK4h.out _ _ ⟨H5.out, ?_⟩
  clear HK4h K
  try simp only [Act.put, List.setIfInBounds_toArray, List.set_cons_zero, List.set_cons_succ]
  refine wpAnyH_one (i := 9) (o := ?o9h) (by kernel_rfl) ?hi9h ?hw9h ?st9h
  case hi9h => rw [List.getElem?_toArray]; exact rfl
  case hw9h => exact rfl
  intro K hK
  have HK9h : Hid _ := hK
  clear hK
  go_simp
  refine (Hb.out _ (HA.out.2.2.1.1.call H5.out.1)).mono ?_
  rintro e w6 ⟨rfl, hq⟩
  have H6 : Hid (ArW w w6 (.string ta) (.slice a la.length ca) (.string tb) (.slice b lb.length cb)) := H5.out.call hq
  clear hq
  go_wp2_with fail
  refine HK9h.out _ _ ⟨H6.out, ?_⟩
  clear HK9h K
  try simp only [Act.put, List.setIfInBounds_toArray, List.set_cons_zero, List.set_cons_succ]
  refine wpAnyH_take (i := 10) (oi := ?o10h) (v := ?v10h) ?hi10h (by kernel_rfl) (by kernel_rfl) (by kernel_rfl) ?hQ10h ?hy10h H6.out ?more10h
  case hi10h => rw [List.getElem?_toArray]; exact rfl
  case hQ10h => exact fun _ _ _ h => h
  case hy10h =>
    refine Or.inl ⟨by rfl, ?_⟩
    intro w' hSw
    obtain ⟨-, e0, e1, e2, e3, -⟩ := hSw
    go_simp
    try with_reducible rfl
  simp only [Act.put, List.setIfInBounds_toArray, List.set_cons_zero, List.set_cons_succ]
  refine wpAnyH_take (i := 12) (oi := ?o12h) (v := ?v12h) ?hi12h (by kernel_rfl) (by kernel_rfl) (by kernel_rfl) ?hQ12h ?hy12h H6.out ?more12h
  case hi12h => rw [List.getElem?_toArray]; exact rfl
  case hQ12h => exact fun _ _ _ h => h
  case hy12h =>
    refine Or.inl ⟨by rfl, ?_⟩
    intro w' hSw
    obtain ⟨-, e0, e1, e2, e3, -⟩ := hSw
    go_simp
    try with_reducible rfl
  simp only [Act.put, List.setIfInBounds_toArray, List.set_cons_zero, List.set_cons_succ]
  refine wpAnyH_done (by kernel_rfl) ?_ _
  clear H4 H5 c0_4 c1_4 c2_4 c3_4
  have c0_6 := H6.out.2.1
  have c1_6 := H6.out.2.2.1
  have c2_6 := H6.out.2.2.2.1
  have c3_6 := H6.out.2.2.2.2.1
  go_wp2_with fail
  refine (Ba.out _ (HA.out.2.1.1.call H6.out.1) (HA.out.1.1.call H6.out.1) (Nat.lt_of_lt_of_le HA.out.1.2 H6.out.1.size)).mono ?_
  rintro e w7 ⟨rfl, hb7⟩
  have H7 : Hid (ArW w w7 (.string ta) (.slice a la.length ca) (.string tb) (.slice b lb.length cb)) := H6.out.call hb7
  clear hb7 H6
  clear c0_6 c1_6 c2_6 c3_6
  have c0_7 := H7.out.2.1
  have c1_7 := H7.out.2.2.1
  have c2_7 := H7.out.2.2.2.1
  have c3_7 := H7.out.2.2.2.2.1
  go_wp2_with fail
  refine (Bb.out _ (HA.out.2.2.1.1.call H7.out.1) (HA.out.1.1.call H7.out.1) (Nat.lt_of_lt_of_le HA.out.1.2 H7.out.1.size)).mono ?_
  rintro e w8 ⟨rfl, hb8⟩
  have H8 : Hid (ArW w w8 (.string ta) (.slice a la.length ca) (.string tb) (.slice b lb.length cb)) := H7.out.call hb8
  clear hb8 H7
  clear c0_7 c1_7 c2_7 c3_7
  have c0_8 := H8.out.2.1
  have c1_8 := H8.out.2.2.1
  have c2_8 := H8.out.2.2.2.1
  have c3_8 := H8.out.2.2.2.2.1
  go_wp2_with fail
  refine (one_any _ (HA.out.1.1.call H8.out.1) (Nat.lt_of_lt_of_le HA.out.1.2 H8.out.1.size)).mono ?_
  rintro e w9 ⟨rfl, hb9⟩
  have H9 : Hid (ArW w w9 (.string ta) (.slice a la.length ca) (.string tb) (.slice b lb.length cb)) := H8.out.call hb9
  clear hb9 H8
  clear c0_8 c1_8 c2_8 c3_8
  have c0_9 := H9.out.2.1
  have c1_9 := H9.out.2.2.1
  have c2_9 := H9.out.2.2.2.1
  have c3_9 := H9.out.2.2.2.2.1
  go_wp2_with fail
  go_ret
  exact ⟨rfl, H9.out.1⟩
set_option maxRecDepth 100000 in
set_option maxHeartbeats 4000000 in
theorem apart_nl (a b : Option Addr) (la lb : List ByteArray) (ta tb : ByteArray) (ca cb : Nat) (w : World) (hA : ApW w a la ta) (hB : ApW w b lb tb) (hG : GlobD w) (hz : 2 < w.heap.size) (h1 : largeB la ta = false) (h2 : largeB lb tb = false) (hta : tagB ta = true) (htb : tagB tb = true) (ht : ta = tb) (hl : la ≠ lb) :
    Calls Tryd.prog 5 #[.agg #[.string ta, .slice a la.length ca], .agg #[.string tb, .slice b lb.length cb]] w fun e w' => e = .returned (.bool true) ∧ Below w.heap.size w w' := by
  have HA : Hid ((GlobD w ∧ 2 < w.heap.size) ∧ ApW w a la ta ∧ ApW w b lb tb ∧ True) := ⟨⟨hG, hz⟩, hA, hB, trivial⟩
  have H0 : Hid (ArW w ((w.alloc (.cells #[.string ta, .slice a la.length ca] 46)).alloc (.cells #[.string tb, .slice b lb.length cb] 46)) (.string ta) (.slice a la.length ca) (.string tb) (.slice b lb.length cb)) := ArW.start _ _ _ _ _ _
  have La : Hid _ := fun (w : World) (h : Strs w a la) => large_any ta a la ca HA.out.2.1.large w h
  have Lb : Hid _ := fun (w : World) (h : Strs w b lb) => large_any tb b lb cb HA.out.2.2.1.large w h
  have Ta : Hid _ := fun (w : World) => tag5_any ta w
  have Tb : Hid _ := fun (w : World) => tag5_any tb w
  have Tx : Hid _ := fun (w : World) (h1 : Strs w a la) (h2 : Strs w b lb) => texts_any a b la lb ca cb HA.out.2.1.len w h1 h2
  have Ha : Hid _ := fun (w : World) (h : Strs w a la) => hashed_any ta a la ca HA.out.2.1.hash w h
  have Hb : Hid _ := fun (w : World) (h : Strs w b lb) => hashed_any tb b lb cb HA.out.2.2.1.hash w h
  have Ba : Hid _ := fun (w : World) (h : Strs w a la) (hG : GlobD w) (hz : 2 < w.heap.size) => bytes5_in ta a la ca hta HA.out.2.1.hash w h hG hz
  have Bb : Hid _ := fun (w : World) (h : Strs w b lb) (hG : GlobD w) (hz : 2 < w.heap.size) => bytes5_in tb b lb cb htb HA.out.2.2.1.hash w h hG hz
  rw [h1] at La
  rw [h2] at Lb
  rw [hta] at Ta
  rw [htb] at Tb
  rw [decide_eq_false hl] at Tx
  obtain ⟨X, hX⟩ : ∃ X, X = hashB ta la := ⟨_, rfl⟩
  obtain ⟨Y, hY⟩ : ∃ Y, Y = hashB tb lb := ⟨_, rfl⟩
  rw [← hX] at Ha Ba
  rw [← hY] at Hb Bb
  obtain ⟨x, hx⟩ : ∃ x, x = shaS X := ⟨_, rfl⟩
  obtain ⟨y, hy⟩ : ∃ y, y = shaS Y := ⟨_, rfl⟩
  rw [← hx] at Ba
  rw [← hy] at Bb
  have tt : (ta.toList == tb.toList) = true := by rw [ht]; simp only [BEq.rfl]
  have xx : (X.toList == Y.toList) = false := toList_ne (by rw [hX, hY]; exact fun c => hl (hashB_inj (not_large h1 hta).1 (not_large h2 htb).1 (not_large h1 hta).2 (not_large h2 htb).2 c).2)
  clear h1 h2 hta htb ht hl hX hY hx hy
  clear hA hB hG hz
  go_enter Tryd.func5, Tryd.ntmps5
  go_wp2_with fail
  refine (La.out _ (HA.out.2.1.1.call H0.out.1)).mono ?_
  rintro e w1 ⟨rfl, hb1⟩
  have H1 : Hid (ArW w w1 (.string ta) (.slice a la.length ca) (.string tb) (.slice b lb.length cb)) := H0.out.call hb1
  clear hb1 H0
  have c0_1 := H1.out.2.1
  have c1_1 := H1.out.2.2.1
  have c2_1 := H1.out.2.2.2.1
  have c3_1 := H1.out.2.2.2.2.1
  go_wp2_with fail
  refine (Lb.out _ (HA.out.2.2.1.1.call H1.out.1)).mono ?_
  rintro e w2 ⟨rfl, hb2⟩
  have H2 : Hid (ArW w w2 (.string ta) (.slice a la.length ca) (.string tb) (.slice b lb.length cb)) := H1.out.call hb2
  clear hb2 H1
  clear c0_1 c1_1 c2_1 c3_1
  have c0_2 := H2.out.2.1
  have c1_2 := H2.out.2.2.1
  have c2_2 := H2.out.2.2.2.1
  have c3_2 := H2.out.2.2.2.2.1
  go_wp2_with fail
  refine (Ta.out _).mono ?_
  rintro e w3 ⟨rfl, ew3⟩
  have H3 : Hid (ArW w w3 (.string ta) (.slice a la.length ca) (.string tb) (.slice b lb.length cb)) := by rw [ew3]; exact H2.out
  clear ew3 H2
  clear c0_2 c1_2 c2_2 c3_2
  have c0_3 := H3.out.2.1
  have c1_3 := H3.out.2.2.1
  have c2_3 := H3.out.2.2.2.1
  have c3_3 := H3.out.2.2.2.2.1
  go_wp2_with fail
  refine (Tb.out _).mono ?_
  rintro e w4 ⟨rfl, ew4⟩
  have H4 : Hid (ArW w w4 (.string ta) (.slice a la.length ca) (.string tb) (.slice b lb.length cb)) := by rw [ew4]; exact H3.out
  clear ew4 H3
  clear c0_3 c1_3 c2_3 c3_3
  have c0_4 := H4.out.2.1
  have c1_4 := H4.out.2.2.1
  have c2_4 := H4.out.2.2.2.1
  have c3_4 := H4.out.2.2.2.2.1
  go_wp2_with fail
  refine (Tx.out _ (HA.out.2.1.1.call H4.out.1) (HA.out.2.2.1.1.call H4.out.1)).mono ?_
  rintro e w5 ⟨rfl, hb5⟩
  have H5 : Hid (ArW w w5 (.string ta) (.slice a la.length ca) (.string tb) (.slice b lb.length cb)) := H4.out.call hb5
  clear hb5 H4
  clear c0_4 c1_4 c2_4 c3_4
  have c0_5 := H5.out.2.1
  have c1_5 := H5.out.2.2.1
  have c2_5 := H5.out.2.2.2.1
  have c3_5 := H5.out.2.2.2.2.1
  go_wp2_with fail
  refine wp_region_H (fun w' => ArW w w' (.string ta) (.slice a la.length ca) (.string tb) (.slice b lb.length cb)) 13 rfl (by kernel_rfl) ?_
  refine wpAnyH_take (i := 0) (oi := ?o0h) (v := ?v0h) ?hi0h (by kernel_rfl) (by kernel_rfl) (by kernel_rfl) ?hQ0h ?hy0h (ArW.drew H5.out) ?more0h
  case hi0h => rw [List.getElem?_toArray]; exact rfl
  case hQ0h => exact fun _ _ _ h => h
  case hy0h =>
    refine Or.inl ⟨by rfl, ?_⟩
    intro w' hSw
    obtain ⟨-, e0, e1, e2, e3, -⟩ := hSw
    go_simp
    try with_reducible rfl
  simp only [Act.put, List.setIfInBounds_toArray, List.set_cons_zero, List.set_cons_succ]
  refine wpAnyH_take (i := 1) (oi := ?o1h) (v := ?v1h) ?hi1h (by kernel_rfl) (by kernel_rfl) (by kernel_rfl) ?hQ1h ?hy1h (ArW.drew H5.out) ?more1h
  case hi1h => rw [List.getElem?_toArray]; exact rfl
  case hQ1h => exact fun _ _ _ h => h
  case hy1h =>
    refine Or.inl ⟨by rfl, ?_⟩
    intro w' hSw
    obtain ⟨-, e0, e1, e2, e3, -⟩ := hSw
    go_simp
    try with_reducible rfl
  simp only [Act.put, List.setIfInBounds_toArray, List.set_cons_zero, List.set_cons_succ]
  refine wpAnyH_take (i := 2) (oi := ?o2h) (v := ?v2h) ?hi2h (by kernel_rfl) (by kernel_rfl) (by kernel_rfl) ?hQ2h ?hy2h (ArW.drew H5.out) ?more2h
  case hi2h => rw [List.getElem?_toArray]; exact rfl
  case hQ2h => exact fun _ _ _ h => h
  case hy2h =>
    refine Or.inl ⟨by rfl, ?_⟩
    intro w' hSw
    obtain ⟨-, e0, e1, e2, e3, -⟩ := hSw
    go_simp
    try with_reducible rfl
  simp only [Act.put, List.setIfInBounds_toArray, List.set_cons_zero, List.set_cons_succ]
  refine wpAnyH_take (i := 3) (oi := ?o3h) (v := ?v3h) ?hi3h (by kernel_rfl) (by kernel_rfl) (by kernel_rfl) ?hQ3h ?hy3h (ArW.drew H5.out) ?more3h
  case hi3h => rw [List.getElem?_toArray]; exact rfl
  case hQ3h => exact fun _ _ _ h => h
  case hy3h =>
    refine Or.inl ⟨by rfl, ?_⟩
    intro w' hSw
    obtain ⟨-, e0, e1, e2, e3, -⟩ := hSw
    go_simp
    try with_reducible rfl
  simp only [Act.put, List.setIfInBounds_toArray, List.set_cons_zero, List.set_cons_succ]
  refine wpAnyH_take (i := 5) (oi := ?o5h) (v := ?v5h) ?hi5h (by kernel_rfl) (by kernel_rfl) (by kernel_rfl) ?hQ5h ?hy5h (ArW.drew H5.out) ?more5h
  case hi5h => rw [List.getElem?_toArray]; exact rfl
  case hQ5h => exact fun _ _ _ h => h
  case hy5h =>
    refine Or.inl ⟨by rfl, ?_⟩
    intro w' hSw
    obtain ⟨-, e0, e1, e2, e3, -⟩ := hSw
    go_simp
    try with_reducible rfl
  simp only [Act.put, List.setIfInBounds_toArray, List.set_cons_zero, List.set_cons_succ]
  refine wpAnyH_take (i := 6) (oi := ?o6h) (v := ?v6h) ?hi6h (by kernel_rfl) (by kernel_rfl) (by kernel_rfl) ?hQ6h ?hy6h (ArW.drew H5.out) ?more6h
  case hi6h => rw [List.getElem?_toArray]; exact rfl
  case hQ6h => exact fun _ _ _ h => h
  case hy6h =>
    refine Or.inl ⟨by rfl, ?_⟩
    intro w' hSw
    obtain ⟨-, e0, e1, e2, e3, -⟩ := hSw
    go_simp
    try with_reducible rfl
  simp only [Act.put, List.setIfInBounds_toArray, List.set_cons_zero, List.set_cons_succ]
  refine wpAnyH_take (i := 7) (oi := ?o7h) (v := ?v7h) ?hi7h (by kernel_rfl) (by kernel_rfl) (by kernel_rfl) ?hQ7h ?hy7h (ArW.drew H5.out) ?more7h
  case hi7h => rw [List.getElem?_toArray]; exact rfl
  case hQ7h => exact fun _ _ _ h => h
  case hy7h =>
    refine Or.inl ⟨by rfl, ?_⟩
    intro w' hSw
    obtain ⟨-, e0, e1, e2, e3, -⟩ := hSw
    go_simp
    try with_reducible rfl
  simp only [Act.put, List.setIfInBounds_toArray, List.set_cons_zero, List.set_cons_succ]
  refine wpAnyH_take (i := 8) (oi := ?o8h) (v := ?v8h) ?hi8h (by kernel_rfl) (by kernel_rfl) (by kernel_rfl) ?hQ8h ?hy8h (ArW.drew H5.out) ?more8h
  case hi8h => rw [List.getElem?_toArray]; exact rfl
  case hQ8h => exact fun _ _ _ h => h
  case hy8h =>
    refine Or.inl ⟨by rfl, ?_⟩
    intro w' hSw
    obtain ⟨-, e0, e1, e2, e3, -⟩ := hSw
    go_simp
    try with_reducible rfl
  simp only [Act.put, List.setIfInBounds_toArray, List.set_cons_zero, List.set_cons_succ]
  refine wpAnyH_take (i := 11) (oi := ?o11h) (v := ?v11h) ?hi11h (by kernel_rfl) (by kernel_rfl) (by kernel_rfl) ?hQ11h ?hy11h (ArW.drew H5.out) ?more11h
  case hi11h => rw [List.getElem?_toArray]; exact rfl
  case hQ11h => exact fun _ _ _ h => h
  case hy11h =>
    refine Or.inl ⟨by rfl, ?_⟩
    intro w' hSw
    obtain ⟨-, e0, e1, e2, e3, -⟩ := hSw
    go_simp
    try with_reducible rfl
  simp only [Act.put, List.setIfInBounds_toArray, List.set_cons_zero, List.set_cons_succ]
  refine wpAnyH_one (i := 4) (o := ?o4h) (by kernel_rfl) ?hi4h ?hw4h ?st4h
  case hi4h => rw [List.getElem?_toArray]; exact rfl
  case hw4h => exact rfl
  intro K hK
  have HK4h : Hid _ := hK
  clear hK
  go_simp
  refine (Ha.out _ (HA.out.2.1.1.call (ArW.drew H5.out).1)).mono ?_
  rintro e w6 ⟨rfl, hq⟩
  have H6 : Hid (ArW w w6 (.string ta) (.slice a la.length ca) (.string tb) (.slice b lb.length cb)) := (ArW.drew H5.out).call hq
  clear hq
  go_wp2_with fail
  refine HK4h.out _ _ ⟨H6.out, ?_⟩
  clear HK4h K
  try simp only [Act.put, List.setIfInBounds_toArray, List.set_cons_zero, List.set_cons_succ]
  refine wpAnyH_one (i := 9) (o := ?o9h) (by kernel_rfl) ?hi9h ?hw9h ?st9h
  case hi9h => rw [List.getElem?_toArray]; exact rfl
  case hw9h => exact rfl
  intro K hK
  have HK9h : Hid _ := hK
  clear hK
  go_simp
  refine (Hb.out _ (HA.out.2.2.1.1.call H6.out.1)).mono ?_
  rintro e w7 ⟨rfl, hq⟩
  have H7 : Hid (ArW w w7 (.string ta) (.slice a la.length ca) (.string tb) (.slice b lb.length cb)) := H6.out.call hq
  clear hq
  go_wp2_with fail
  refine HK9h.out _ _ ⟨H7.out, ?_⟩
  clear HK9h K
  try simp only [Act.put, List.setIfInBounds_toArray, List.set_cons_zero, List.set_cons_succ]
  refine wpAnyH_take (i := 10) (oi := ?o10h) (v := ?v10h) ?hi10h (by kernel_rfl) (by kernel_rfl) (by kernel_rfl) ?hQ10h ?hy10h H7.out ?more10h
  case hi10h => rw [List.getElem?_toArray]; exact rfl
  case hQ10h => exact fun _ _ _ h => h
  case hy10h =>
    refine Or.inl ⟨by rfl, ?_⟩
    intro w' hSw
    obtain ⟨-, e0, e1, e2, e3, -⟩ := hSw
    go_simp
    try with_reducible rfl
  simp only [Act.put, List.setIfInBounds_toArray, List.set_cons_zero, List.set_cons_succ]
  refine wpAnyH_take (i := 12) (oi := ?o12h) (v := ?v12h) ?hi12h (by kernel_rfl) (by kernel_rfl) (by kernel_rfl) ?hQ12h ?hy12h H7.out ?more12h
  case hi12h => rw [List.getElem?_toArray]; exact rfl
  case hQ12h => exact fun _ _ _ h => h
  case hy12h =>
    refine Or.inl ⟨by rfl, ?_⟩
    intro w' hSw
    obtain ⟨-, e0, e1, e2, e3, -⟩ := hSw
    go_simp
    try with_reducible rfl
  simp only [Act.put, List.setIfInBounds_toArray, List.set_cons_zero, List.set_cons_succ]
  refine wpAnyH_done (by kernel_rfl) ?_ _
  clear H5 H6 c0_5 c1_5 c2_5 c3_5
  have c0_7 := H7.out.2.1
  have c1_7 := H7.out.2.2.1
  have c2_7 := H7.out.2.2.2.1
  have c3_7 := H7.out.2.2.2.2.1
  go_wp2_with fail
  refine (Ba.out _ (HA.out.2.1.1.call H7.out.1) (HA.out.1.1.call H7.out.1) (Nat.lt_of_lt_of_le HA.out.1.2 H7.out.1.size)).mono ?_
  rintro e w8 ⟨rfl, hb8⟩
  have H8 : Hid (ArW w w8 (.string ta) (.slice a la.length ca) (.string tb) (.slice b lb.length cb)) := H7.out.call hb8
  clear hb8 H7
  clear c0_7 c1_7 c2_7 c3_7
  have c0_8 := H8.out.2.1
  have c1_8 := H8.out.2.2.1
  have c2_8 := H8.out.2.2.2.1
  have c3_8 := H8.out.2.2.2.2.1
  go_wp2_with fail
  refine (Bb.out _ (HA.out.2.2.1.1.call H8.out.1) (HA.out.1.1.call H8.out.1) (Nat.lt_of_lt_of_le HA.out.1.2 H8.out.1.size)).mono ?_
  rintro e w9 ⟨rfl, hb9⟩
  have H9 : Hid (ArW w w9 (.string ta) (.slice a la.length ca) (.string tb) (.slice b lb.length cb)) := H8.out.call hb9
  clear hb9 H8
  clear c0_8 c1_8 c2_8 c3_8
  have c0_9 := H9.out.2.1
  have c1_9 := H9.out.2.2.1
  have c2_9 := H9.out.2.2.2.1
  have c3_9 := H9.out.2.2.2.2.1
  go_wp2_with fail
  refine (one_any _ (HA.out.1.1.call H9.out.1) (Nat.lt_of_lt_of_le HA.out.1.2 H9.out.1.size)).mono ?_
  rintro e w10 ⟨rfl, hb10⟩
  have H10 : Hid (ArW w w10 (.string ta) (.slice a la.length ca) (.string tb) (.slice b lb.length cb)) := H9.out.call hb10
  clear hb10 H9
  clear c0_9 c1_9 c2_9 c3_9
  have c0_10 := H10.out.2.1
  have c1_10 := H10.out.2.2.1
  have c2_10 := H10.out.2.2.2.1
  have c3_10 := H10.out.2.2.2.2.1
  go_wp2_with fail
  go_ret
  exact ⟨rfl, H10.out.1⟩
theorem domainApart_any (a b : Option Addr) (la lb : List ByteArray) (ta tb : ByteArray) (ca cb : Nat) (w : World) (hA : ApW w a la ta) (hB : ApW w b lb tb) (hG : GlobD w) (hz : 2 < w.heap.size) :
    Calls Tryd.prog 5 #[.agg #[.string ta, .slice a la.length ca], .agg #[.string tb, .slice b lb.length cb]] w fun e w' => e = .returned (.bool true) ∧ Below w.heap.size w w' := by
  rcases Bool.eq_false_or_eq_true (largeB la ta) with h1 | h1
  · exact apart_la a b la lb ta tb ca cb w hA hB hG hz h1
  rcases Bool.eq_false_or_eq_true (largeB lb tb) with h2 | h2
  · exact apart_lb a b la lb ta tb ca cb w hA hB hG hz h1 h2
  rcases Bool.eq_false_or_eq_true (tagB ta) with h3 | h3
  · rcases Bool.eq_false_or_eq_true (tagB tb) with h4 | h4
    · by_cases ht : ta = tb
      · by_cases hl : la = lb
        · exact apart_eq a b la lb ta tb ca cb w hA hB hG hz h1 h2 h3 h4 ht hl
        · exact apart_nl a b la lb ta tb ca cb w hA hB hG hz h1 h2 h3 h4 ht hl
      · exact apart_nt a b la lb ta tb ca cb w hA hB hG hz h1 h2 h3 h4 ht
    · exact apart_tb a b la lb ta tb ca cb w hA hB hG hz h1 h2 h3 h4
  · exact apart_ta a b la lb ta tb ca cb w hA hB hG hz h1 h2 h3
end Go.Proofs.YtjdfipfeclphkaaDoor
