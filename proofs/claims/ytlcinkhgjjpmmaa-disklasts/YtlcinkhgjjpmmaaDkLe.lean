/- The law DiskLasts, where what is to be kept, or the mask, is out of its bounds. -/
import Derived.Test.YtlcinkhgjjpmmaaDkL
namespace Go.Proofs.Ytlcinkhgjjpmmaa
open Go Go.RowKit Go.Lib
set_option maxHeartbeats 4000000 in
theorem diskLasts_21 (a b S : ByteArray) (W N : Int) (M : Int) (hN : (b.size : Int) < N) (hz : a.size + b.size ≤ 10000) (hM : M < 0) (w : World) :
    Calls Try.prog 4 #[.string a, .string b, .agg #[.int .i64 W, .int .i64 N, .int .i64 M, .string S]] w fun e w' => e = .returned (.bool true) ∧ Below w.heap.size w w' := by
  have z2 : (a.size : Int) ≤ 10000 := by omega
  have z3 : (b.size : Int) ≤ 10000 := by omega
  have ea : (ByteArray.empty ++ a) = a := ba_ext (by rw [ba_append]; rfl)
  have K1 : Hid _ := fun (w' : World) (g : Nat) (h : FileAt w' g (From (g + 1)) 0 ByteArray.empty) => fappend_ok g (From (g + 1)) 0 ByteArray.empty a (by show 0 + a.size ≤ _; omega) w' h
  rw [ea] at K1
  have K2 : Hid _ := fun (w' : World) (g : Nat) (h : FileAt w' g (From (g + 1)) 0 a) => fsync_any g (From (g + 1)) 0 a (by omega) w' h
  have K3 : Hid _ := fun (w' : World) (g : Nat) (h : FileAt w' g (From (g + 1)) a.size a) => fappend_ok g (From (g + 1)) a.size a b (by omega) w' h
  have K4 : Hid _ := fun (w' : World) (g : Nat) (h : FileAt w' g (From (g + 1)) a.size (a ++ b)) => fcrash_lasts g (From (g + 1)) b.size 0 a b (Nat.le_refl _) (by omega) (by decide) w' h
  have HH : Hid (b.size ≤ b.size ∧ a.size + b.size ≤ 10000) := ⟨Nat.le_refl _, hz⟩
  have HN : Hid ((b.size : Int) < N) := hN
  have HQ : Hid (M < 0) := hM
  clear hz ea hM hN
  go_enter Try.func4, Try.ntmps4
  go_wp2_with fail
  refine (new_any _).mono ?_
  rintro e w1 ⟨rfl, hF1, hb1, -⟩
  obtain ⟨g, hg⟩ : ∃ g, g = (w.alloc (.cells #[.int .i64 W, .int .i64 N, .int .i64 M, .string S] 30)).heap.size := ⟨_, rfl⟩
  rw [← hg] at hF1 ⊢
  have hgw : w.heap.size < g := by rw [hg]; simp
  have st : ∀ {w' : World}, Below g (w.alloc (.cells #[.int .i64 W, .int .i64 N, .int .i64 M, .string S] 30)) w' → w'.cell? ⟨w.heap.size, 1, none⟩ = some (.int .i64 N) ∧ w'.cell? ⟨w.heap.size, 2, none⟩ = some (.int .i64 M) ∧ Below w.heap.size w w' := fun h =>
    ⟨(h.cell (p := ⟨w.heap.size, 1, none⟩) hgw).trans (by simp [go_sem]), (h.cell (p := ⟨w.heap.size, 2, none⟩) hgw).trans (by simp [go_sem]), (below_alloc0 (Below.refl _ _) _).trans (h.mono (Nat.le_of_lt hgw))⟩
  have HS : Hid _ := @st
  have H1 : Hid (FileAt w1 g (From (g + 1)) 0 ByteArray.empty ∧ Below g (w.alloc (.cells #[.int .i64 W, .int .i64 N, .int .i64 M, .string S] 30)) w1) := ⟨hF1, by rw [hg]; exact hb1⟩
  clear hF1 hb1 hg hgw st
  have z1 : ¬ ((10000 : Int) < (a.size : Int) + (b.size : Int)) := by have := HH.out; omega
  go_wp2_with fail
  refine (K1.out _ _ H1.out.1).mono ?_
  rintro e w2 ⟨rfl, hF2, hb2⟩
  have H2 : Hid (FileAt w2 g (From (g + 1)) 0 a ∧ _) := ⟨hF2, hb2.below0 H1.out.2⟩
  clear hF2 hb2 H1 K1
  go_wp2_with fail
  refine (K2.out _ _ H2.out.1).mono ?_
  rintro e w3 ⟨rfl, hF3, hb3⟩
  have H3 : Hid (FileAt w3 g (From (g + 1)) a.size a ∧ _) := ⟨hF3, hb3.below0 H2.out.2⟩
  clear hF3 hb3 H2 K2
  go_wp2_with fail
  refine (K3.out _ _ H3.out.1).mono ?_
  rintro e w4 ⟨rfl, hF4, hb4⟩
  have H4 : Hid (FileAt w4 g (From (g + 1)) a.size (a ++ b) ∧ _) := ⟨hF4, hb4.below0 H3.out.2⟩
  clear hF4 hb4 H3 K3
  obtain ⟨c1, c2, -⟩ := HS.out H4.out.2
  have k2 := HN.out
  have k1 : ¬ (N < 0) := by omega
  have q2 := HQ.out
  go_wp2_with fail
  refine (K4.out _ _ H4.out.1).mono ?_
  rintro e w5 ⟨out, rfl, hL5, hF5, hb5⟩
  have H5 : Hid (FileAt w5 g (From (g + 1)) out.size out ∧ _) := ⟨hF5, hb5.below0 H4.out.2⟩
  have HL : Hid (LastsOut a b out b.size 0) := hL5
  clear hF5 hb5 H4 K4 hL5 c1 c2
  go_wp2_with fail
  refine (fbytes_any _ _ _ _ _ H5.out.1).mono ?_
  rintro e w6 ⟨rfl, rfl⟩
  go_wp2_with fail
  refine (flen_any _ _ _ _ _ H5.out.1).mono ?_
  rintro e w7 ⟨rfl, hF7, hb7⟩
  have H7 : Hid (Below w.heap.size w w7) := (HS.out (H5.out.2.trans (hb7.mono (Nat.le_of_lt H5.out.1.lt)))).2.2
  clear hb7 hF7 H5 HS k1 k2 q2 z1
  obtain ⟨l1, l2, l3, l4, l5⟩ := HL.out
  have r1 : ¬ ((out.size : Int) < (a.size : Int) + (b.size : Int)) := by omega
  have r1' : (a.size : Int) + (b.size : Int) ≤ (out.size : Int) := by omega
  have r2 : ¬ ((a.size : Int) + (b.size : Int) + 1 < (out.size : Int)) := by omega
  have r3 : (b.size : Int) ≤ (b.size : Int) := by have := HH.out; omega
  have r4 : (out.size : Int) ≤ 20000 := by have := HH.out; omega
  have r5 : a.size + b.size ≤ out.size := l1
  have hx : (b.extract 0 b.size).size ≤ 10000 := by rw [ByteArray.size_extract]; have := HH.out; omega
  have t3 : ((a ++ b.extract 0 b.size).toList == (a ++ b.extract 0 b.size).toList) = true := by simp only [BEq.rfl]
  have e1 : ((a.size : Int) + (b.size : Int)).toNat = a.size + b.size := toNat_add _ _
  have d1 : decide ((out.size : Int) < (a.size : Int) + (b.size : Int)) = false := decide_eq_false r1
  have d2 : decide ((a.size : Int) + (b.size : Int) + 1 < (out.size : Int)) = false := decide_eq_false r2
  have H8 : Hid (_ ∧ _) := ⟨l4, l5⟩
  clear l1 l2 l4 l5 HL
  go_wp2_with fail
  go_quiet (fail)
  have H7 : Hid (Below w.heap.size w (w7.drewN nq)) := below_drewN H7.out _
  clear l3 t3 d1 d2 r1 r2 e1 hx r1' r5
  have t4 : (out.toList == (a ++ b).toList) = true := by rw [H8.out.1 (by simp)]; simp only [BEq.rfl]
  have e3 : (a.size : Int) + (b.size : Int) = (out.size : Int) := by rw [H8.out.2 (by simp)]; rfl
  go_wp2_with fail
  refine (abc_any _).mono ?_
  rintro e w8 ⟨rfl, hb8⟩
  have H9 : Hid (Below w.heap.size w w8) := below_call0 H7.out hb8
  clear hb8
  go_wp2_with fail
  go_ret
  exact ⟨rfl, H9.out⟩
set_option maxHeartbeats 4000000 in
theorem diskLasts_22 (a b S : ByteArray) (W N : Int) (M : Int) (hN : (b.size : Int) < N) (hz : a.size + b.size ≤ 10000) (hM : 255 < M) (w : World) :
    Calls Try.prog 4 #[.string a, .string b, .agg #[.int .i64 W, .int .i64 N, .int .i64 M, .string S]] w fun e w' => e = .returned (.bool true) ∧ Below w.heap.size w w' := by
  have z2 : (a.size : Int) ≤ 10000 := by omega
  have z3 : (b.size : Int) ≤ 10000 := by omega
  have ea : (ByteArray.empty ++ a) = a := ba_ext (by rw [ba_append]; rfl)
  have K1 : Hid _ := fun (w' : World) (g : Nat) (h : FileAt w' g (From (g + 1)) 0 ByteArray.empty) => fappend_ok g (From (g + 1)) 0 ByteArray.empty a (by show 0 + a.size ≤ _; omega) w' h
  rw [ea] at K1
  have K2 : Hid _ := fun (w' : World) (g : Nat) (h : FileAt w' g (From (g + 1)) 0 a) => fsync_any g (From (g + 1)) 0 a (by omega) w' h
  have K3 : Hid _ := fun (w' : World) (g : Nat) (h : FileAt w' g (From (g + 1)) a.size a) => fappend_ok g (From (g + 1)) a.size a b (by omega) w' h
  have K4 : Hid _ := fun (w' : World) (g : Nat) (h : FileAt w' g (From (g + 1)) a.size (a ++ b)) => fcrash_lasts g (From (g + 1)) b.size 0 a b (Nat.le_refl _) (by omega) (by decide) w' h
  have HH : Hid (b.size ≤ b.size ∧ a.size + b.size ≤ 10000) := ⟨Nat.le_refl _, hz⟩
  have HN : Hid ((b.size : Int) < N) := hN
  have HQ : Hid (255 < M) := hM
  clear hz ea hM hN
  go_enter Try.func4, Try.ntmps4
  go_wp2_with fail
  refine (new_any _).mono ?_
  rintro e w1 ⟨rfl, hF1, hb1, -⟩
  obtain ⟨g, hg⟩ : ∃ g, g = (w.alloc (.cells #[.int .i64 W, .int .i64 N, .int .i64 M, .string S] 30)).heap.size := ⟨_, rfl⟩
  rw [← hg] at hF1 ⊢
  have hgw : w.heap.size < g := by rw [hg]; simp
  have st : ∀ {w' : World}, Below g (w.alloc (.cells #[.int .i64 W, .int .i64 N, .int .i64 M, .string S] 30)) w' → w'.cell? ⟨w.heap.size, 1, none⟩ = some (.int .i64 N) ∧ w'.cell? ⟨w.heap.size, 2, none⟩ = some (.int .i64 M) ∧ Below w.heap.size w w' := fun h =>
    ⟨(h.cell (p := ⟨w.heap.size, 1, none⟩) hgw).trans (by simp [go_sem]), (h.cell (p := ⟨w.heap.size, 2, none⟩) hgw).trans (by simp [go_sem]), (below_alloc0 (Below.refl _ _) _).trans (h.mono (Nat.le_of_lt hgw))⟩
  have HS : Hid _ := @st
  have H1 : Hid (FileAt w1 g (From (g + 1)) 0 ByteArray.empty ∧ Below g (w.alloc (.cells #[.int .i64 W, .int .i64 N, .int .i64 M, .string S] 30)) w1) := ⟨hF1, by rw [hg]; exact hb1⟩
  clear hF1 hb1 hg hgw st
  have z1 : ¬ ((10000 : Int) < (a.size : Int) + (b.size : Int)) := by have := HH.out; omega
  go_wp2_with fail
  refine (K1.out _ _ H1.out.1).mono ?_
  rintro e w2 ⟨rfl, hF2, hb2⟩
  have H2 : Hid (FileAt w2 g (From (g + 1)) 0 a ∧ _) := ⟨hF2, hb2.below0 H1.out.2⟩
  clear hF2 hb2 H1 K1
  go_wp2_with fail
  refine (K2.out _ _ H2.out.1).mono ?_
  rintro e w3 ⟨rfl, hF3, hb3⟩
  have H3 : Hid (FileAt w3 g (From (g + 1)) a.size a ∧ _) := ⟨hF3, hb3.below0 H2.out.2⟩
  clear hF3 hb3 H2 K2
  go_wp2_with fail
  refine (K3.out _ _ H3.out.1).mono ?_
  rintro e w4 ⟨rfl, hF4, hb4⟩
  have H4 : Hid (FileAt w4 g (From (g + 1)) a.size (a ++ b) ∧ _) := ⟨hF4, hb4.below0 H3.out.2⟩
  clear hF4 hb4 H3 K3
  obtain ⟨c1, c2, -⟩ := HS.out H4.out.2
  have k2 := HN.out
  have k1 : ¬ (N < 0) := by omega
  have q2 := HQ.out
  have q1 : ¬ (M < 0) := by omega
  go_wp2_with fail
  refine (K4.out _ _ H4.out.1).mono ?_
  rintro e w5 ⟨out, rfl, hL5, hF5, hb5⟩
  have H5 : Hid (FileAt w5 g (From (g + 1)) out.size out ∧ _) := ⟨hF5, hb5.below0 H4.out.2⟩
  have HL : Hid (LastsOut a b out b.size 0) := hL5
  clear hF5 hb5 H4 K4 hL5 c1 c2
  go_wp2_with fail
  refine (fbytes_any _ _ _ _ _ H5.out.1).mono ?_
  rintro e w6 ⟨rfl, rfl⟩
  go_wp2_with fail
  refine (flen_any _ _ _ _ _ H5.out.1).mono ?_
  rintro e w7 ⟨rfl, hF7, hb7⟩
  have H7 : Hid (Below w.heap.size w w7) := (HS.out (H5.out.2.trans (hb7.mono (Nat.le_of_lt H5.out.1.lt)))).2.2
  clear hb7 hF7 H5 HS k1 k2 q1 q2 z1
  obtain ⟨l1, l2, l3, l4, l5⟩ := HL.out
  have r1 : ¬ ((out.size : Int) < (a.size : Int) + (b.size : Int)) := by omega
  have r1' : (a.size : Int) + (b.size : Int) ≤ (out.size : Int) := by omega
  have r2 : ¬ ((a.size : Int) + (b.size : Int) + 1 < (out.size : Int)) := by omega
  have r3 : (b.size : Int) ≤ (b.size : Int) := by have := HH.out; omega
  have r4 : (out.size : Int) ≤ 20000 := by have := HH.out; omega
  have r5 : a.size + b.size ≤ out.size := l1
  have hx : (b.extract 0 b.size).size ≤ 10000 := by rw [ByteArray.size_extract]; have := HH.out; omega
  have t3 : ((a ++ b.extract 0 b.size).toList == (a ++ b.extract 0 b.size).toList) = true := by simp only [BEq.rfl]
  have e1 : ((a.size : Int) + (b.size : Int)).toNat = a.size + b.size := toNat_add _ _
  have d1 : decide ((out.size : Int) < (a.size : Int) + (b.size : Int)) = false := decide_eq_false r1
  have d2 : decide ((a.size : Int) + (b.size : Int) + 1 < (out.size : Int)) = false := decide_eq_false r2
  have H8 : Hid (_ ∧ _) := ⟨l4, l5⟩
  clear l1 l2 l4 l5 HL
  go_wp2_with fail
  go_quiet (fail)
  have H7 : Hid (Below w.heap.size w (w7.drewN nq)) := below_drewN H7.out _
  clear l3 t3 d1 d2 r1 r2 e1 hx r1' r5
  have t4 : (out.toList == (a ++ b).toList) = true := by rw [H8.out.1 (by simp)]; simp only [BEq.rfl]
  have e3 : (a.size : Int) + (b.size : Int) = (out.size : Int) := by rw [H8.out.2 (by simp)]; rfl
  go_wp2_with fail
  refine (abc_any _).mono ?_
  rintro e w8 ⟨rfl, hb8⟩
  have H9 : Hid (Below w.heap.size w w8) := below_call0 H7.out hb8
  clear hb8
  go_wp2_with fail
  go_ret
  exact ⟨rfl, H9.out⟩
end Go.Proofs.Ytlcinkhgjjpmmaa
