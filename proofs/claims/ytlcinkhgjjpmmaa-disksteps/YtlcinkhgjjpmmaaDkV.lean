/- The law DiskSteps: what any step does to both files. -/
import Derived.Test.YtlcinkhgjjpmmaaDkU
namespace Go.Proofs.Ytlcinkhgjjpmmaa
open Go Go.RowKit Go.Lib

set_option maxHeartbeats 2000000 in
theorem does2 (g r : Nat) (P : Nat → Prop) (S R s : ByteArray) (N M : Int) (hz : S.size + R.size ≤ 1048576) (w : World) (hF : FileAt (w.alloc (.cells #[.int .i64 2, .int .i64 N, .int .i64 M, .string s] 30)) g P S.size (S ++ R)) (hR : RefAt (w.alloc (.cells #[.int .i64 2, .int .i64 N, .int .i64 M, .string s] 30)) r S R) (hG : Geo g r w.heap.size P) :
    Calls Try.prog 8 #[.pointer (some ⟨g, 0, none⟩), .pointer (some ⟨r, 0, none⟩), .agg #[.int .i64 2, .int .i64 N, .int .i64 M, .string s]] w fun e w' => e = .returned (.bool true) ∧ ∃ S' R', FileAt w' g P S'.size (S' ++ R') ∧ RefAt w' r S' R' ∧ S'.size + R'.size ≤ 1048576 ∧ Below g w w' := by
  have hb0 : Below w.heap.size w (w.alloc (.cells #[.int .i64 2, .int .i64 N, .int .i64 M, .string s] 30)) := below_alloc0 (Below.refl _ _) _
  have HZ : Hid (S.size + R.size ≤ 1048576) := hz
  have HS0 : StepAt (w.alloc (.cells #[.int .i64 2, .int .i64 N, .int .i64 M, .string s] 30)) w.heap.size 2 N M s := by
    refine ⟨?_, ?_, ?_, ?_, ?_⟩ <;> simp [go_sem]
  have HB : Hid (FileAt (w.alloc (.cells #[.int .i64 2, .int .i64 N, .int .i64 M, .string s] 30)) g P S.size (S ++ R) ∧ RefAt (w.alloc (.cells #[.int .i64 2, .int .i64 N, .int .i64 M, .string s] 30)) r S R ∧ StepAt (w.alloc (.cells #[.int .i64 2, .int .i64 N, .int .i64 M, .string s] 30)) w.heap.size 2 N M s ∧ Below g w (w.alloc (.cells #[.int .i64 2, .int .i64 N, .int .i64 M, .string s] 30))) := ⟨hF, hR, HS0, hb0.mono (by have := hG.1; have := hG.2.1; omega)⟩
  have HG : Hid (Geo g r w.heap.size P) := hG
  have es : (S ++ R).size ≤ 1048576 := by rw [ByteArray.size_append]; exact hz
  have K2 : Hid _ := fun (w' : World) (h : FileAt w' g P S.size (S ++ R)) => fsync_any g P S.size (S ++ R) es w' h
  clear hz hF hR hG hb0 HS0 es
  go_enter Try.func8, Try.ntmps8
  go_wp2_with fail
  refine (rsync_any r S R HZ.out _ HB.out.2.1).mono ?_
  rintro e w1 ⟨rfl, hR1, hb1⟩
  have HM : Hid _ := mid_r HG.out hb1 HB.out.1 HB.out.2.2.1 HB.out.2.2.2
  have H1 : Hid (_ ∧ _) := ⟨hR1, HM.out⟩
  clear hR1 hb1 HM HB
  go_wp2_with fail
  refine (K2.out _ H1.out.2.1).mono ?_
  rintro e w2 ⟨rfl, hF2, hb2⟩
  have HM : Hid _ := mid_f HG.out hb2 H1.out.1 H1.out.2.2.1 H1.out.2.2.2
  have H2 : Hid (_ ∧ _) := ⟨hF2, HM.out⟩
  clear hF2 hb2 HM H1
  go_wp2_with fail
  go_ret
  refine ⟨rfl, S ++ R, emp, ?_, H2.out.2.1, ?_, H2.out.2.2.2⟩
  · rw [app_emp]; exact H2.out.1
  · rw [emp_size, ByteArray.size_append]; exact HZ.out
set_option maxHeartbeats 2000000 in
theorem doesN (g r : Nat) (P : Nat → Prop) (S R s : ByteArray) (W N M : Int) (h0 : ¬ W = 0) (h1 : ¬ W = 1) (h2 : ¬ W = 2) (h3 : ¬ W = 3) (h4 : ¬ W = 4) (hz : S.size + R.size ≤ 1048576) (w : World) (hF : FileAt (w.alloc (.cells #[.int .i64 W, .int .i64 N, .int .i64 M, .string s] 30)) g P S.size (S ++ R)) (hR : RefAt (w.alloc (.cells #[.int .i64 W, .int .i64 N, .int .i64 M, .string s] 30)) r S R) (hG : Geo g r w.heap.size P) :
    Calls Try.prog 8 #[.pointer (some ⟨g, 0, none⟩), .pointer (some ⟨r, 0, none⟩), .agg #[.int .i64 W, .int .i64 N, .int .i64 M, .string s]] w fun e w' => e = .returned (.bool true) ∧ ∃ S' R', FileAt w' g P S'.size (S' ++ R') ∧ RefAt w' r S' R' ∧ S'.size + R'.size ≤ 1048576 ∧ Below g w w' := by
  have hb0 : Below w.heap.size w (w.alloc (.cells #[.int .i64 W, .int .i64 N, .int .i64 M, .string s] 30)) := below_alloc0 (Below.refl _ _) _
  have HB : Hid (_ ∧ _ ∧ Below g w (w.alloc (.cells #[.int .i64 W, .int .i64 N, .int .i64 M, .string s] 30)) ∧ S.size + R.size ≤ 1048576) := ⟨hF, hR, hb0.mono (by have := hG.1; have := hG.2.1; omega), hz⟩
  clear hz hF hR hb0 hG
  go_enter Try.func8, Try.ntmps8
  go_wp2_with fail
  go_ret
  exact ⟨rfl, S, R, HB.out.1, HB.out.2.1, HB.out.2.2.2, HB.out.2.2.1⟩
theorem does_any (g r : Nat) (P : Nat → Prop) (S R s : ByteArray) (W N M : Int) (hz : S.size + R.size ≤ 1048576) (hs : s.size < 140737488351233) (w : World) (hF : FileAt (w.alloc (.cells #[.int .i64 W, .int .i64 N, .int .i64 M, .string s] 30)) g P S.size (S ++ R)) (hR : RefAt (w.alloc (.cells #[.int .i64 W, .int .i64 N, .int .i64 M, .string s] 30)) r S R) (hG : Geo g r w.heap.size P) :
    Calls Try.prog 8 #[.pointer (some ⟨g, 0, none⟩), .pointer (some ⟨r, 0, none⟩), .agg #[.int .i64 W, .int .i64 N, .int .i64 M, .string s]] w fun e w' => e = .returned (.bool true) ∧ ∃ S' R', FileAt w' g P S'.size (S' ++ R') ∧ RefAt w' r S' R' ∧ S'.size + R'.size ≤ 1048576 ∧ Below g w w' := by
  by_cases h0 : W = 0
  · subst h0; exact does0 g r P S R s N M hz hs w hF hR hG
  by_cases h1 : W = 1
  · subst h1; exact does1 g r P S R s N M hz hs w hF hR hG
  by_cases h2 : W = 2
  · subst h2; exact does2 g r P S R s N M hz w hF hR hG
  by_cases h3 : W = 3
  · subst h3; exact does3 g r P S R s N M hz hs w hF hR hG
  by_cases h4 : W = 4
  · subst h4; exact does4 g r P S R s N M hz hs w hF hR hG
  exact doesN g r P S R s W N M h0 h1 h2 h3 h4 hz w hF hR hG
theorem does_all (g : Nat) (S R s : ByteArray) (W N M : Int) (hz : S.size + R.size ≤ 1048576) (hs : s.size < 140737488351233) (w : World) (hF : FileAt w g (From (g + 2)) S.size (S ++ R)) (hR : RefAt w (g + 1) S R) :
    Calls Try.prog 8 #[.pointer (some ⟨g, 0, none⟩), .pointer (some ⟨g + 1, 0, none⟩), .agg #[.int .i64 W, .int .i64 N, .int .i64 M, .string s]] w fun e w' => e = .returned (.bool true) ∧ ∃ S' R', FileAt w' g (From (g + 2)) S'.size (S' ++ R') ∧ RefAt w' (g + 1) S' R' ∧ S'.size + R'.size ≤ 1048576 ∧ Below g w w' := by
  have hz1 : g + 2 ≤ w.heap.size := hR.2.2.2
  have hb0 : Below w.heap.size w (w.alloc (.cells #[.int .i64 W, .int .i64 N, .int .i64 M, .string s] 30)) := below_alloc0 (Below.refl _ _) _
  have zb : (w.alloc (.cells #[.int .i64 W, .int .i64 N, .int .i64 M, .string s] 30)).heap.size = w.heap.size + 1 := by simp
  have hF1 : FileAt (w.alloc (.cells #[.int .i64 W, .int .i64 N, .int .i64 M, .string s] 30)) g (fun k => g + 2 ≤ k ∧ k ≠ w.heap.size) S.size (S ++ R) := by
    obtain ⟨a, cap, c0, c1, fz, hg, hB, hR0⟩ := hF
    have hlt : g < w.heap.size := by omega
    refine ⟨a, cap, (hb0.cell (p := ⟨g, 0, none⟩) hlt).trans c0, (hb0.cell (p := ⟨g, 1, none⟩) hlt).trans c1, fun o => (hb0.frozen (p := ⟨g, o, none⟩) hlt).trans (fz o), by omega, fun k hk => by rw [zb] at hk; omega, ?_⟩
    exact (hR0.mono (Q := fun k => g + 2 ≤ k ∧ k ≠ w.heap.size) (fun k hk (h : g + 2 ≤ k) => ⟨h, by omega⟩)).call hb0
  refine (does_any g (g + 1) (fun k => g + 2 ≤ k ∧ k ≠ w.heap.size) S R s W N M hz hs w hF1 (hR.call hb0) ⟨by omega, by omega, by omega, by omega, fun k hk => by omega⟩).mono ?_
  rintro e w' ⟨rfl, S', R', h1, h2, h3, h4⟩
  refine ⟨rfl, S', R', h1.mono (fun k _ h => h.1) (not_from (by omega)) (fun k hk => ?_), h2, h3, h4⟩
  have := h4.size
  show g + 2 ≤ k
  omega
end Go.Proofs.Ytlcinkhgjjpmmaa
