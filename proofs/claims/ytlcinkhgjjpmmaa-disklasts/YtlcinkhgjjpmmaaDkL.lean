/- The law DiskLasts: what was synced lasts. -/
import Derived.Test.YtlcinkhgjjpmmaaDkW
namespace Go.Proofs.Ytlcinkhgjjpmmaa
open Go Go.RowKit Go.Lib

theorem ba_ext {a b : ByteArray} (h : a.data.toList = b.data.toList) : a = b := by
  obtain ⟨x⟩ := a; obtain ⟨y⟩ := b
  exact congrArg ByteArray.mk (Array.ext' h)
theorem ba_len (a : ByteArray) : a.data.toList.length = a.size := by have := strCells_length a; rw [strCells, List.length_map] at this; exact this
theorem ba_append (a b : ByteArray) : (a ++ b).data.toList = a.data.toList ++ b.data.toList := by simp [ByteArray.data_append]
theorem ba_extract (a : ByteArray) (i j : Nat) : (a.extract i j).data.toList = (a.data.toList.drop i).take (j - i) := by
  simp [ByteArray.data_extract, Array.toList_extract, List.extract]
theorem ba_extract0 (a : ByteArray) (j : Nat) : (a.extract 0 j).data.toList = a.data.toList.take j := by rw [ba_extract]; simp
/-- What a crash leaves, as the law asks it. -/
def LastsOut (a b out : ByteArray) (k q : Nat) : Prop :=
  a.size + k ≤ out.size ∧ out.size ≤ a.size + k + 1 ∧ out.extract 0 (a.size + k) = a ++ b.extract 0 k ∧ (k = b.size → out = a ++ b) ∧ (q = 0 → out.size = a.size + k)
theorem lasts_plain (a b : ByteArray) (k q : Nat) (hk : k ≤ b.size) : LastsOut a b ((a ++ b).extract 0 (a.size + k)) k q := by
  have la := ba_len a
  have lb := ba_len b
  have hz : ((a ++ b).extract 0 (a.size + k)).size = a.size + k := by rw [ByteArray.size_extract, ByteArray.size_append]; omega
  refine ⟨by omega, by omega, ba_ext ?_, fun h => ba_ext ?_, fun _ => hz⟩
  · rw [ba_extract0, ba_extract0, ba_append, ba_append, ba_extract0, List.take_take, Nat.min_self, List.take_append, la, Nat.add_sub_cancel_left, List.take_of_length_le (by omega)]
  · rw [ba_extract0, ba_append, List.take_of_length_le (by rw [List.length_append, la, lb]; omega)]
theorem lasts_byte (a b : ByteArray) (k q : Nat) (x : UInt8) (hk : k < b.size) (hq : 0 < q) : LastsOut a b ((a ++ b).extract 0 (a.size + k) ++ one x) k q := by
  have la := ba_len a
  have lb := ba_len b
  have hz : ((a ++ b).extract 0 (a.size + k)).size = a.size + k := by rw [ByteArray.size_extract, ByteArray.size_append]; omega
  have hz2 : ((a ++ b).extract 0 (a.size + k) ++ one x).size = a.size + k + 1 := by rw [ByteArray.size_append, hz, one_size]
  refine ⟨by omega, by omega, ba_ext ?_, fun h => by omega, fun h => by omega⟩
  have lz := ba_len ((a ++ b).extract 0 (a.size + k))
  rw [hz] at lz
  rw [ba_extract0, ba_append, List.take_append, lz, Nat.sub_self, List.take_zero, List.append_nil, ba_extract0, ba_append, ba_append, ba_extract0, List.take_take, Nat.min_self, List.take_append, la, Nat.add_sub_cancel_left, List.take_of_length_le (by omega)]
theorem fcrash_lasts (g : Nat) (P : Nat → Prop) (k q : Nat) (a b : ByteArray) (hk : k ≤ b.size) (hz : a.size + b.size ≤ 1048576) (hq : q < 256) (w : World) (hF : FileAt w g P a.size (a ++ b)) :
    Calls Try.prog 13 #[.pointer (some ⟨g, 0, none⟩), .int .i64 (k : Nat), .int .i64 (q : Nat)] w fun e w' => ∃ out, e = .returned (.int .i64 0) ∧ LastsOut a b out k q ∧ FileAt w' g P out.size out ∧ But g P w w' := by
  have hs : (a ++ b).size = a.size + b.size := ByteArray.size_append
  by_cases h : q = 0 ∨ k = b.size
  · have ez : ((a ++ b).extract 0 (a.size + k)).size = a.size + k := by rw [ByteArray.size_extract, ByteArray.size_append]; omega
    refine (fcrash_ok g P a.size k q (a ++ b) (by omega) (by omega) hq (by omega) w hF).mono ?_
    rintro e w' ⟨rfl, h1, h2⟩
    exact ⟨_, rfl, lasts_plain a b k q hk, by rw [ez]; exact h1, h2⟩
  · have ez : ((a ++ b).extract 0 (a.size + k)).size = a.size + k := by rw [ByteArray.size_extract, ByteArray.size_append]; omega
    refine (fcrash_byte g P a.size k q (a ++ b) (by omega) (by omega) hq (by omega) w hF).mono ?_
    rintro e w' ⟨rfl, h1, h2⟩
    exact ⟨_, rfl, lasts_byte a b k q _ (by omega) (by omega), by rw [ByteArray.size_append, ez, one_size]; exact h1, h2⟩
theorem FileAt.lt {w : World} {g m : Nat} {P : Nat → Prop} {bs : ByteArray} (h : FileAt w g P m bs) : g < w.heap.size := by
  obtain ⟨a, cap, c0, c1, fz, hg, hB, hR⟩ := h
  exact Nat.lt_of_not_le fun c => hg (hB g c)
theorem toNat_add (a k : Nat) : ((a : Int) + (k : Int)).toNat = a + k := by omega
set_option maxHeartbeats 4000000 in
theorem diskLasts_a (a b S : ByteArray) (W : Int) (k q : Nat) (hk : k ≤ b.size) (hz : a.size + b.size ≤ 10000) (hq : q < 256) (w : World) :
    Calls Try.prog 4 #[.string a, .string b, .agg #[.int .i64 W, .int .i64 (k : Nat), .int .i64 (q : Nat), .string S]] w fun e w' => e = .returned (.bool true) ∧ Below w.heap.size w w' := by
  have z2 : (a.size : Int) ≤ 10000 := by omega
  have z3 : (b.size : Int) ≤ 10000 := by omega
  have ea : (ByteArray.empty ++ a) = a := ba_ext (by rw [ba_append]; rfl)
  have K1 : Hid _ := fun (w' : World) (g : Nat) (h : FileAt w' g (From (g + 1)) 0 ByteArray.empty) => fappend_ok g (From (g + 1)) 0 ByteArray.empty a (by show 0 + a.size ≤ _; omega) w' h
  rw [ea] at K1
  have K2 : Hid _ := fun (w' : World) (g : Nat) (h : FileAt w' g (From (g + 1)) 0 a) => fsync_any g (From (g + 1)) 0 a (by omega) w' h
  have K3 : Hid _ := fun (w' : World) (g : Nat) (h : FileAt w' g (From (g + 1)) a.size a) => fappend_ok g (From (g + 1)) a.size a b (by omega) w' h
  have K4 : Hid _ := fun (w' : World) (g : Nat) (h : FileAt w' g (From (g + 1)) a.size (a ++ b)) => fcrash_lasts g (From (g + 1)) k q a b hk (by omega) hq w' h
  have HH : Hid (k ≤ b.size ∧ a.size + b.size ≤ 10000) := ⟨hk, hz⟩
  have HQ : Hid (q < 256) := hq
  clear hk hz hq ea
  go_enter Try.func4, Try.ntmps4
  go_wp2_with fail
  refine (new_any _).mono ?_
  rintro e w1 ⟨rfl, hF1, hb1, -⟩
  obtain ⟨g, hg⟩ : ∃ g, g = (w.alloc (.cells #[.int .i64 W, .int .i64 (k : Nat), .int .i64 (q : Nat), .string S] 30)).heap.size := ⟨_, rfl⟩
  rw [← hg] at hF1 ⊢
  have hgw : w.heap.size < g := by rw [hg]; simp
  have st : ∀ {w' : World}, Below g (w.alloc (.cells #[.int .i64 W, .int .i64 (k : Nat), .int .i64 (q : Nat), .string S] 30)) w' → w'.cell? ⟨w.heap.size, 1, none⟩ = some (.int .i64 (k : Nat)) ∧ w'.cell? ⟨w.heap.size, 2, none⟩ = some (.int .i64 (q : Nat)) ∧ Below w.heap.size w w' := fun h =>
    ⟨(h.cell (p := ⟨w.heap.size, 1, none⟩) hgw).trans (by simp [go_sem]), (h.cell (p := ⟨w.heap.size, 2, none⟩) hgw).trans (by simp [go_sem]), (below_alloc0 (Below.refl _ _) _).trans (h.mono (Nat.le_of_lt hgw))⟩
  have HS : Hid _ := @st
  have H1 : Hid (FileAt w1 g (From (g + 1)) 0 ByteArray.empty ∧ Below g (w.alloc (.cells #[.int .i64 W, .int .i64 (k : Nat), .int .i64 (q : Nat), .string S] 30)) w1) := ⟨hF1, by rw [hg]; exact hb1⟩
  clear hF1 hb1 hg hgw st
  have z1 : ¬ ((10000 : Int) < (a.size : Int) + (b.size : Int)) := by have := HH.out; omega
  go_wp2_with fail
  refine (K1.out _ _ H1.out.1).mono ?_
  rintro e w2 ⟨rfl, hF2, hb2⟩
  have H2 : Hid (FileAt w2 g (From (g + 1)) 0 a ∧ _) := ⟨hF2, hb2.below0 H1.out.2⟩
  clear hF2 hb2 H1 K1
  go_wp2_with fail
  refine (K2.out _ _ H2.out.1).mono ?_
  rintro e w3 ⟨rfl, hF3, hb3⟩
  have H3 : Hid (FileAt w3 g (From (g + 1)) a.size a ∧ _) := ⟨hF3, hb3.below0 H2.out.2⟩
  clear hF3 hb3 H2 K2
  go_wp2_with fail
  refine (K3.out _ _ H3.out.1).mono ?_
  rintro e w4 ⟨rfl, hF4, hb4⟩
  have H4 : Hid (FileAt w4 g (From (g + 1)) a.size (a ++ b) ∧ _) := ⟨hF4, hb4.below0 H3.out.2⟩
  clear hF4 hb4 H3 K3
  obtain ⟨c1, c2, -⟩ := HS.out H4.out.2
  have k1 : ¬ ((k : Int) < 0) := by omega
  have k2 : ¬ ((b.size : Int) < (k : Int)) := by have := HH.out; omega
  have q1 : ¬ ((q : Int) < 0) := by omega
  have q2 : ¬ ((255 : Int) < (q : Int)) := by have := HQ.out; omega
  go_wp2_with fail
  refine (K4.out _ _ H4.out.1).mono ?_
  rintro e w5 ⟨out, rfl, hL5, hF5, hb5⟩
  have H5 : Hid (FileAt w5 g (From (g + 1)) out.size out ∧ _) := ⟨hF5, hb5.below0 H4.out.2⟩
  have HL : Hid (LastsOut a b out k q) := hL5
  clear hF5 hb5 H4 K4 hL5 c1 c2
  go_wp2_with fail
  refine (fbytes_any _ _ _ _ _ H5.out.1).mono ?_
  rintro e w6 ⟨rfl, rfl⟩
  go_wp2_with fail
  refine (flen_any _ _ _ _ _ H5.out.1).mono ?_
  rintro e w7 ⟨rfl, hF7, hb7⟩
  have H7 : Hid (Below w.heap.size w w7) := (HS.out (H5.out.2.trans (hb7.mono (Nat.le_of_lt H5.out.1.lt)))).2.2
  clear hb7 hF7 H5 HS k1 k2 q1 q2 z1
  obtain ⟨l1, l2, l3, l4, l5⟩ := HL.out
  have r1 : ¬ ((out.size : Int) < (a.size : Int) + (k : Int)) := by omega
  have r1' : (a.size : Int) + (k : Int) ≤ (out.size : Int) := by omega
  have r2 : ¬ ((a.size : Int) + (k : Int) + 1 < (out.size : Int)) := by omega
  have r3 : (k : Int) ≤ (b.size : Int) := by have := HH.out; omega
  have r4 : (out.size : Int) ≤ 20000 := by have := HH.out; omega
  have r5 : a.size + k ≤ out.size := l1
  have hx : (b.extract 0 k).size ≤ 10000 := by rw [ByteArray.size_extract]; have := HH.out; omega
  have t3 : ((a ++ b.extract 0 k).toList == (a ++ b.extract 0 k).toList) = true := by simp only [BEq.rfl]
  have e1 : ((a.size : Int) + (k : Int)).toNat = a.size + k := toNat_add _ _
  have d1 : decide ((out.size : Int) < (a.size : Int) + (k : Int)) = false := decide_eq_false r1
  have d2 : decide ((a.size : Int) + (k : Int) + 1 < (out.size : Int)) = false := decide_eq_false r2
  have H8 : Hid (_ ∧ _) := ⟨l4, l5⟩
  clear l1 l2 l4 l5 HL
  go_wp2_with fail
  go_quiet (fail)
  have H7 : Hid (Below w.heap.size w (w7.drewN nq)) := below_drewN H7.out _
  clear l3 t3 d1 d2 r1 r2 e1 hx r1' r5
  by_cases hkb : k = b.size
  · have t4 : (out.toList == (a ++ b).toList) = true := by rw [H8.out.1 hkb]; simp only [BEq.rfl]
    by_cases hq0 : q = 0
    · have e3 : (a.size : Int) + (b.size : Int) = (out.size : Int) := by rw [H8.out.2 hq0, hkb]; rfl
      subst hkb hq0
      go_wp2_with fail
      refine (abc_any _).mono ?_
      rintro e w8 ⟨rfl, hb8⟩
      have H9 : Hid (Below w.heap.size w w8) := below_call0 H7.out hb8
      clear hb8
      go_wp2_with fail
      go_ret
      exact ⟨rfl, H9.out⟩
    · subst hkb
      go_wp2_with fail
      refine (abc_any _).mono ?_
      rintro e w8 ⟨rfl, hb8⟩
      have H9 : Hid (Below w.heap.size w w8) := below_call0 H7.out hb8
      clear hb8
      go_wp2_with fail
      go_ret
      exact ⟨rfl, H9.out⟩
  · by_cases hq0 : q = 0
    · have e3 : (a.size : Int) + (k : Int) = (out.size : Int) := by rw [H8.out.2 hq0]; rfl
      subst hq0
      go_wp2_with fail
      refine (abc_any _).mono ?_
      rintro e w8 ⟨rfl, hb8⟩
      have H9 : Hid (Below w.heap.size w w8) := below_call0 H7.out hb8
      clear hb8
      go_wp2_with fail
      go_ret
      exact ⟨rfl, H9.out⟩
    · skip
      go_wp2_with fail
      refine (abc_any _).mono ?_
      rintro e w8 ⟨rfl, hb8⟩
      have H9 : Hid (Below w.heap.size w w8) := below_call0 H7.out hb8
      clear hb8
      go_wp2_with fail
      go_ret
      exact ⟨rfl, H9.out⟩
end Go.Proofs.Ytlcinkhgjjpmmaa
