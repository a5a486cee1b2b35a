/- The law DiskSteps: what one step does to both files. -/
import Derived.Test.YtlcinkhgjjpmmaaDkT
namespace Go.Proofs.Ytlcinkhgjjpmmaa
open Go Go.RowKit Go.Lib

/-- A step in a block of its own. -/
def StepAt (w : World) (x : Nat) (W N M : Int) (s : ByteArray) : Prop :=
  w.cell? ⟨x, 0, none⟩ = some (.int .i64 W) ∧ w.cell? ⟨x, 1, none⟩ = some (.int .i64 N) ∧ w.cell? ⟨x, 2, none⟩ = some (.int .i64 M) ∧ w.cell? ⟨x, 3, none⟩ = some (.string s) ∧ x < w.heap.size
theorem StepAt.but {w w' : World} {x g : Nat} {P : Nat → Prop} {W N M : Int} {s : ByteArray} (h : StepAt w x W N M s) (hb : But g P w w') (h1 : ¬ P x) (h2 : x ≠ g) : StepAt w' x W N M s :=
  ⟨(hb.cell (p := ⟨x, 0, none⟩) h1 h2).trans h.1, (hb.cell (p := ⟨x, 1, none⟩) h1 h2).trans h.2.1, (hb.cell (p := ⟨x, 2, none⟩) h1 h2).trans h.2.2.1, (hb.cell (p := ⟨x, 3, none⟩) h1 h2).trans h.2.2.2.1, Nat.lt_of_lt_of_le h.2.2.2.2 hb.size⟩
def Geo (g r x : Nat) (P : Nat → Prop) : Prop := g < r ∧ r < x ∧ ¬ P r ∧ ¬ P x ∧ ∀ k, k < g → ¬ P k
theorem mid_f {w w0 w1 : World} {g r x : Nat} {P : Nat → Prop} {S R : ByteArray} {W N M : Int} {s : ByteArray} (hG : Geo g r x P) (hb : But g P w0 w1) (hR : RefAt w0 r S R) (hT : StepAt w0 x W N M s) (hL : Below g w w0) : RefAt w1 r S R ∧ StepAt w1 x W N M s ∧ Below g w w1 := by
  obtain ⟨g1, g2, g3, g4, g5⟩ := hG
  exact ⟨hR.but hb g3 (by omega), hT.but hb g4 (by omega), hL.trans (hb.below g5)⟩
theorem mid_r {w w0 w1 : World} {g r x m : Nat} {P : Nat → Prop} {bs : ByteArray} {W N M : Int} {s : ByteArray} (hG : Geo g r x P) (hb : But r (From w0.heap.size) w0 w1) (hF : FileAt w0 g P m bs) (hT : StepAt w0 x W N M s) (hL : Below g w w0) : FileAt w1 g P m bs ∧ StepAt w1 x W N M s ∧ Below g w w1 := by
  obtain ⟨g1, g2, g3, g4, g5⟩ := hG
  have hg := hF.lt
  exact ⟨hF.but hb (by omega) g3, hT.but hb (not_from hT.2.2.2.2) (by omega), hL.trans ((hb.below fun k hk => not_from (Nat.lt_trans hk (Nat.lt_trans g2 hT.2.2.2.2))).mono (Nat.le_of_lt g1))⟩
set_option maxHeartbeats 2000000 in
theorem does0 (g r : Nat) (P : Nat → Prop) (S R s : ByteArray) (N M : Int) (hz : S.size + R.size ≤ 1048576) (hs : s.size < 140737488351233) (w : World) (hF : FileAt (w.alloc (.cells #[.int .i64 0, .int .i64 N, .int .i64 M, .string s] 30)) g P S.size (S ++ R)) (hR : RefAt (w.alloc (.cells #[.int .i64 0, .int .i64 N, .int .i64 M, .string s] 30)) r S R) (hG : Geo g r w.heap.size P) :
    Calls Try.prog 8 #[.pointer (some ⟨g, 0, none⟩), .pointer (some ⟨r, 0, none⟩), .agg #[.int .i64 0, .int .i64 N, .int .i64 M, .string s]] w fun e w' => e = .returned (.bool true) ∧ ∃ S' R', FileAt w' g P S'.size (S' ++ R') ∧ RefAt w' r S' R' ∧ S'.size + R'.size ≤ 1048576 ∧ Below g w w' := by
  have hb0 : Below w.heap.size w (w.alloc (.cells #[.int .i64 0, .int .i64 N, .int .i64 M, .string s] 30)) := below_alloc0 (Below.refl _ _) _
  have HZ : Hid (S.size + R.size ≤ 1048576 ∧ s.size < 140737488351233) := ⟨hz, hs⟩
  have HS0 : StepAt (w.alloc (.cells #[.int .i64 0, .int .i64 N, .int .i64 M, .string s] 30)).drew w.heap.size 0 N M s := by
    refine ⟨?_, ?_, ?_, ?_, ?_⟩ <;> simp [go_sem]
  have HB : Hid (FileAt (w.alloc (.cells #[.int .i64 0, .int .i64 N, .int .i64 M, .string s] 30)).drew g P S.size (S ++ R) ∧ RefAt (w.alloc (.cells #[.int .i64 0, .int .i64 N, .int .i64 M, .string s] 30)).drew r S R ∧ StepAt (w.alloc (.cells #[.int .i64 0, .int .i64 N, .int .i64 M, .string s] 30)).drew w.heap.size 0 N M s ∧ Below g w (w.alloc (.cells #[.int .i64 0, .int .i64 N, .int .i64 M, .string s] 30)).drew) := ⟨hF.drew, hR.drewN (n := 1), HS0, (hb0.drew).mono (by have := hG.1; have := hG.2.1; omega)⟩
  have HG : Hid (Geo g r w.heap.size P) := hG
  clear hz hs hF hR hG hb0
  go_enter Try.func8, Try.ntmps8
  go_wp2_with fail
  refine wp_region_H (fun w' => StepAt w' w.heap.size 0 N M s) 10 rfl (by kernel_rfl) ?_
  refine wpAnyH_take (i := 0) (oi := ?o0r) (v := ?v0r) ?hi0r (by kernel_rfl) (by kernel_rfl) (by kernel_rfl) ?hQ0r ?hy0r HS0 ?more0r
  case hi0r => rw [List.getElem?_toArray]; exact rfl
  case hQ0r => exact fun _ _ _ h => h
  case hy0r =>
    refine Or.inl ⟨by rfl, ?_⟩
    intro w' hSw
    obtain ⟨e0, e1, e2, e3, -⟩ := hSw
    go_simp
    try with_reducible rfl
  simp only [Act.put, List.setIfInBounds_toArray, List.set_cons_zero, List.set_cons_succ]
  refine wpAnyH_take (i := 1) (oi := ?o1r) (v := ?v1r) ?hi1r (by kernel_rfl) (by kernel_rfl) (by kernel_rfl) ?hQ1r ?hy1r HS0 ?more1r
  case hi1r => rw [List.getElem?_toArray]; exact rfl
  case hQ1r => exact fun _ _ _ h => h
  case hy1r =>
    refine Or.inl ⟨by rfl, ?_⟩
    intro w' hSw
    obtain ⟨e0, e1, e2, e3, -⟩ := hSw
    go_simp
    try with_reducible rfl
  simp only [Act.put, List.setIfInBounds_toArray, List.set_cons_zero, List.set_cons_succ]
  refine wpAnyH_take (i := 2) (oi := ?o2r) (v := ?v2r) ?hi2r (by kernel_rfl) (by kernel_rfl) (by kernel_rfl) ?hQ2r ?hy2r HS0 ?more2r
  case hi2r => rw [List.getElem?_toArray]; exact rfl
  case hQ2r => exact fun _ _ _ h => h
  case hy2r =>
    refine Or.inl ⟨by rfl, ?_⟩
    intro w' hSw
    obtain ⟨e0, e1, e2, e3, -⟩ := hSw
    go_simp
    try with_reducible rfl
  simp only [Act.put, List.setIfInBounds_toArray, List.set_cons_zero, List.set_cons_succ]
  refine wpAnyH_take (i := 4) (oi := ?o4r) (v := ?v4r) ?hi4r (by kernel_rfl) (by kernel_rfl) (by kernel_rfl) ?hQ4r ?hy4r HS0 ?more4r
  case hi4r => rw [List.getElem?_toArray]; exact rfl
  case hQ4r => exact fun _ _ _ h => h
  case hy4r =>
    refine Or.inl ⟨by rfl, ?_⟩
    intro w' hSw
    obtain ⟨e0, e1, e2, e3, -⟩ := hSw
    go_simp
    try with_reducible rfl
  simp only [Act.put, List.setIfInBounds_toArray, List.set_cons_zero, List.set_cons_succ]
  refine wpAnyH_take (i := 5) (oi := ?o5r) (v := ?v5r) ?hi5r (by kernel_rfl) (by kernel_rfl) (by kernel_rfl) ?hQ5r ?hy5r HS0 ?more5r
  case hi5r => rw [List.getElem?_toArray]; exact rfl
  case hQ5r => exact fun _ _ _ h => h
  case hy5r =>
    refine Or.inl ⟨by rfl, ?_⟩
    intro w' hSw
    obtain ⟨e0, e1, e2, e3, -⟩ := hSw
    go_simp
    try with_reducible rfl
  simp only [Act.put, List.setIfInBounds_toArray, List.set_cons_zero, List.set_cons_succ]
  refine wpAnyH_take (i := 6) (oi := ?o6r) (v := ?v6r) ?hi6r (by kernel_rfl) (by kernel_rfl) (by kernel_rfl) ?hQ6r ?hy6r HS0 ?more6r
  case hi6r => rw [List.getElem?_toArray]; exact rfl
  case hQ6r => exact fun _ _ _ h => h
  case hy6r =>
    refine Or.inl ⟨by rfl, ?_⟩
    intro w' hSw
    obtain ⟨e0, e1, e2, e3, -⟩ := hSw
    go_simp
    try with_reducible rfl
  simp only [Act.put, List.setIfInBounds_toArray, List.set_cons_zero, List.set_cons_succ]
  refine wpAnyH_one (i := 3) (o := ?o3r) (by kernel_rfl) ?hi3r ?hw3r ?st3r
  case hi3r => rw [List.getElem?_toArray]; exact rfl
  case hw3r => exact rfl
  intro K hK
  have HK3r : Hid _ := hK
  clear hK
  go_simp
  refine (fapp_any g P S R s HZ.out.1 _ HB.out.1).mono ?_
  rintro e w1 ⟨rfl, hF1, hb1⟩
  have HM : Hid _ := mid_f HG.out hb1 HB.out.2.1 HB.out.2.2.1 HB.out.2.2.2
  have H1 : Hid (_ ∧ _) := ⟨hF1, HM.out⟩
  clear hF1 hb1 HM
  go_wp2_with fail
  refine HK3r.out _ _ ⟨H1.out.2.2.1, ?_⟩
  clear HK3r K
  try simp only [Act.put, List.setIfInBounds_toArray, List.set_cons_zero, List.set_cons_succ]
  refine wpAnyH_one (i := 7) (o := ?o7r) (by kernel_rfl) ?hi7r ?hw7r ?st7r
  case hi7r => rw [List.getElem?_toArray]; exact rfl
  case hw7r => exact rfl
  intro K hK
  have HK7r : Hid _ := hK
  clear hK
  go_simp
  refine (rapp_any r S R s HZ.out.1 HZ.out.2 _ H1.out.2.1).mono ?_
  rintro e w2 ⟨rfl, hR2, hb2⟩
  have HM : Hid _ := mid_r HG.out hb2 H1.out.1 H1.out.2.2.1 H1.out.2.2.2
  have H2 : Hid (_ ∧ _) := ⟨hR2, HM.out⟩
  clear hR2 hb2 H1 HM
  go_wp2_with fail
  refine HK7r.out _ _ ⟨H2.out.2.2.1, ?_⟩
  clear HK7r K
  try simp only [Act.put, List.setIfInBounds_toArray, List.set_cons_zero, List.set_cons_succ]
  refine wpAnyH_take (i := 8) (oi := ?o8r) (v := ?v8r) ?hi8r (by kernel_rfl) (by kernel_rfl) (by kernel_rfl) ?hQ8r ?hy8r H2.out.2.2.1 ?more8r
  case hi8r => rw [List.getElem?_toArray]; exact rfl
  case hQ8r => exact fun _ _ _ h => h
  case hy8r =>
    refine Or.inl ⟨by rfl, ?_⟩
    intro w' hSw
    obtain ⟨e0, e1, e2, e3, -⟩ := hSw
    go_simp
    try with_reducible rfl
  simp only [Act.put, List.setIfInBounds_toArray, List.set_cons_zero, List.set_cons_succ]
  refine wpAnyH_take (i := 9) (oi := ?o9r) (v := ?v9r) ?hi9r (by kernel_rfl) (by kernel_rfl) (by kernel_rfl) ?hQ9r ?hy9r H2.out.2.2.1 ?more9r
  case hi9r => rw [List.getElem?_toArray]; exact rfl
  case hQ9r => exact fun _ _ _ h => h
  case hy9r =>
    refine Or.inl ⟨by rfl, ?_⟩
    intro w' hSw
    obtain ⟨e0, e1, e2, e3, -⟩ := hSw
    go_simp
    try with_reducible rfl
  simp only [Act.put, List.setIfInBounds_toArray, List.set_cons_zero, List.set_cons_succ]
  refine wpAnyH_done (by kernel_rfl) ?_ _
  clear HS0 HB
  go_wp2_with fail
  go_ret
  exact ⟨rfl, S, apR (S.size + R.size) R s, H2.out.2.1, H2.out.1, apR_size S R s HZ.out.1, H2.out.2.2.2⟩
set_option maxHeartbeats 2000000 in
theorem does1 (g r : Nat) (P : Nat → Prop) (S R s : ByteArray) (N M : Int) (hz : S.size + R.size ≤ 1048576) (hs : s.size < 140737488351233) (w : World) (hF : FileAt (w.alloc (.cells #[.int .i64 1, .int .i64 N, .int .i64 M, .string s] 30)) g P S.size (S ++ R)) (hR : RefAt (w.alloc (.cells #[.int .i64 1, .int .i64 N, .int .i64 M, .string s] 30)) r S R) (hG : Geo g r w.heap.size P) :
    Calls Try.prog 8 #[.pointer (some ⟨g, 0, none⟩), .pointer (some ⟨r, 0, none⟩), .agg #[.int .i64 1, .int .i64 N, .int .i64 M, .string s]] w fun e w' => e = .returned (.bool true) ∧ ∃ S' R', FileAt w' g P S'.size (S' ++ R') ∧ RefAt w' r S' R' ∧ S'.size + R'.size ≤ 1048576 ∧ Below g w w' := by
  have hb0 : Below w.heap.size w (w.alloc (.cells #[.int .i64 1, .int .i64 N, .int .i64 M, .string s] 30)) := below_alloc0 (Below.refl _ _) _
  have HZ : Hid (S.size + R.size ≤ 1048576 ∧ s.size < 140737488351233) := ⟨hz, hs⟩
  have HS0 : StepAt (w.alloc (.cells #[.int .i64 1, .int .i64 N, .int .i64 M, .string s] 30)).drew w.heap.size 1 N M s := by
    refine ⟨?_, ?_, ?_, ?_, ?_⟩ <;> simp [go_sem]
  have HB : Hid (FileAt (w.alloc (.cells #[.int .i64 1, .int .i64 N, .int .i64 M, .string s] 30)).drew g P S.size (S ++ R) ∧ RefAt (w.alloc (.cells #[.int .i64 1, .int .i64 N, .int .i64 M, .string s] 30)).drew r S R ∧ StepAt (w.alloc (.cells #[.int .i64 1, .int .i64 N, .int .i64 M, .string s] 30)).drew w.heap.size 1 N M s ∧ Below g w (w.alloc (.cells #[.int .i64 1, .int .i64 N, .int .i64 M, .string s] 30)).drew) := ⟨hF.drew, hR.drewN (n := 1), HS0, (hb0.drew).mono (by have := hG.1; have := hG.2.1; omega)⟩
  have HG : Hid (Geo g r w.heap.size P) := hG
  clear hz hs hF hR hG hb0
  go_enter Try.func8, Try.ntmps8
  go_wp2_with fail
  refine wp_region_H (fun w' => StepAt w' w.heap.size 1 N M s) 10 rfl (by kernel_rfl) ?_
  refine wpAnyH_take (i := 0) (oi := ?o0r) (v := ?v0r) ?hi0r (by kernel_rfl) (by kernel_rfl) (by kernel_rfl) ?hQ0r ?hy0r HS0 ?more0r
  case hi0r => rw [List.getElem?_toArray]; exact rfl
  case hQ0r => exact fun _ _ _ h => h
  case hy0r =>
    refine Or.inl ⟨by rfl, ?_⟩
    intro w' hSw
    obtain ⟨e0, e1, e2, e3, -⟩ := hSw
    go_simp
    try with_reducible rfl
  simp only [Act.put, List.setIfInBounds_toArray, List.set_cons_zero, List.set_cons_succ]
  refine wpAnyH_take (i := 1) (oi := ?o1r) (v := ?v1r) ?hi1r (by kernel_rfl) (by kernel_rfl) (by kernel_rfl) ?hQ1r ?hy1r HS0 ?more1r
  case hi1r => rw [List.getElem?_toArray]; exact rfl
  case hQ1r => exact fun _ _ _ h => h
  case hy1r =>
    refine Or.inl ⟨by rfl, ?_⟩
    intro w' hSw
    obtain ⟨e0, e1, e2, e3, -⟩ := hSw
    go_simp
    try with_reducible rfl
  simp only [Act.put, List.setIfInBounds_toArray, List.set_cons_zero, List.set_cons_succ]
  refine wpAnyH_take (i := 2) (oi := ?o2r) (v := ?v2r) ?hi2r (by kernel_rfl) (by kernel_rfl) (by kernel_rfl) ?hQ2r ?hy2r HS0 ?more2r
  case hi2r => rw [List.getElem?_toArray]; exact rfl
  case hQ2r => exact fun _ _ _ h => h
  case hy2r =>
    refine Or.inl ⟨by rfl, ?_⟩
    intro w' hSw
    obtain ⟨e0, e1, e2, e3, -⟩ := hSw
    go_simp
    try with_reducible rfl
  simp only [Act.put, List.setIfInBounds_toArray, List.set_cons_zero, List.set_cons_succ]
  refine wpAnyH_take (i := 4) (oi := ?o4r) (v := ?v4r) ?hi4r (by kernel_rfl) (by kernel_rfl) (by kernel_rfl) ?hQ4r ?hy4r HS0 ?more4r
  case hi4r => rw [List.getElem?_toArray]; exact rfl
  case hQ4r => exact fun _ _ _ h => h
  case hy4r =>
    refine Or.inl ⟨by rfl, ?_⟩
    intro w' hSw
    obtain ⟨e0, e1, e2, e3, -⟩ := hSw
    go_simp
    try with_reducible rfl
  simp only [Act.put, List.setIfInBounds_toArray, List.set_cons_zero, List.set_cons_succ]
  refine wpAnyH_take (i := 5) (oi := ?o5r) (v := ?v5r) ?hi5r (by kernel_rfl) (by kernel_rfl) (by kernel_rfl) ?hQ5r ?hy5r HS0 ?more5r
  case hi5r => rw [List.getElem?_toArray]; exact rfl
  case hQ5r => exact fun _ _ _ h => h
  case hy5r =>
    refine Or.inl ⟨by rfl, ?_⟩
    intro w' hSw
    obtain ⟨e0, e1, e2, e3, -⟩ := hSw
    go_simp
    try with_reducible rfl
  simp only [Act.put, List.setIfInBounds_toArray, List.set_cons_zero, List.set_cons_succ]
  refine wpAnyH_take (i := 6) (oi := ?o6r) (v := ?v6r) ?hi6r (by kernel_rfl) (by kernel_rfl) (by kernel_rfl) ?hQ6r ?hy6r HS0 ?more6r
  case hi6r => rw [List.getElem?_toArray]; exact rfl
  case hQ6r => exact fun _ _ _ h => h
  case hy6r =>
    refine Or.inl ⟨by rfl, ?_⟩
    intro w' hSw
    obtain ⟨e0, e1, e2, e3, -⟩ := hSw
    go_simp
    try with_reducible rfl
  simp only [Act.put, List.setIfInBounds_toArray, List.set_cons_zero, List.set_cons_succ]
  refine wpAnyH_one (i := 3) (o := ?o3r) (by kernel_rfl) ?hi3r ?hw3r ?st3r
  case hi3r => rw [List.getElem?_toArray]; exact rfl
  case hw3r => exact rfl
  intro K hK
  have HK3r : Hid _ := hK
  clear hK
  go_simp
  refine (fapp_any g P S R s HZ.out.1 _ HB.out.1).mono ?_
  rintro e w1 ⟨rfl, hF1, hb1⟩
  have HM : Hid _ := mid_f HG.out hb1 HB.out.2.1 HB.out.2.2.1 HB.out.2.2.2
  have H1 : Hid (_ ∧ _) := ⟨hF1, HM.out⟩
  clear hF1 hb1 HM
  go_wp2_with fail
  refine HK3r.out _ _ ⟨H1.out.2.2.1, ?_⟩
  clear HK3r K
  try simp only [Act.put, List.setIfInBounds_toArray, List.set_cons_zero, List.set_cons_succ]
  refine wpAnyH_one (i := 7) (o := ?o7r) (by kernel_rfl) ?hi7r ?hw7r ?st7r
  case hi7r => rw [List.getElem?_toArray]; exact rfl
  case hw7r => exact rfl
  intro K hK
  have HK7r : Hid _ := hK
  clear hK
  go_simp
  refine (rapp_any r S R s HZ.out.1 HZ.out.2 _ H1.out.2.1).mono ?_
  rintro e w2 ⟨rfl, hR2, hb2⟩
  have HM : Hid _ := mid_r HG.out hb2 H1.out.1 H1.out.2.2.1 H1.out.2.2.2
  have H2 : Hid (_ ∧ _) := ⟨hR2, HM.out⟩
  clear hR2 hb2 H1 HM
  go_wp2_with fail
  refine HK7r.out _ _ ⟨H2.out.2.2.1, ?_⟩
  clear HK7r K
  try simp only [Act.put, List.setIfInBounds_toArray, List.set_cons_zero, List.set_cons_succ]
  refine wpAnyH_take (i := 8) (oi := ?o8r) (v := ?v8r) ?hi8r (by kernel_rfl) (by kernel_rfl) (by kernel_rfl) ?hQ8r ?hy8r H2.out.2.2.1 ?more8r
  case hi8r => rw [List.getElem?_toArray]; exact rfl
  case hQ8r => exact fun _ _ _ h => h
  case hy8r =>
    refine Or.inl ⟨by rfl, ?_⟩
    intro w' hSw
    obtain ⟨e0, e1, e2, e3, -⟩ := hSw
    go_simp
    try with_reducible rfl
  simp only [Act.put, List.setIfInBounds_toArray, List.set_cons_zero, List.set_cons_succ]
  refine wpAnyH_take (i := 9) (oi := ?o9r) (v := ?v9r) ?hi9r (by kernel_rfl) (by kernel_rfl) (by kernel_rfl) ?hQ9r ?hy9r H2.out.2.2.1 ?more9r
  case hi9r => rw [List.getElem?_toArray]; exact rfl
  case hQ9r => exact fun _ _ _ h => h
  case hy9r =>
    refine Or.inl ⟨by rfl, ?_⟩
    intro w' hSw
    obtain ⟨e0, e1, e2, e3, -⟩ := hSw
    go_simp
    try with_reducible rfl
  simp only [Act.put, List.setIfInBounds_toArray, List.set_cons_zero, List.set_cons_succ]
  refine wpAnyH_done (by kernel_rfl) ?_ _
  clear HS0 HB
  go_wp2_with fail
  go_ret
  exact ⟨rfl, S, apR (S.size + R.size) R s, H2.out.2.1, H2.out.1, apR_size S R s HZ.out.1, H2.out.2.2.2⟩
set_option maxHeartbeats 2000000 in
theorem does3 (g r : Nat) (P : Nat → Prop) (S R s : ByteArray) (N M : Int) (hz : S.size + R.size ≤ 1048576) (hs : s.size < 140737488351233) (w : World) (hF : FileAt (w.alloc (.cells #[.int .i64 3, .int .i64 N, .int .i64 M, .string s] 30)) g P S.size (S ++ R)) (hR : RefAt (w.alloc (.cells #[.int .i64 3, .int .i64 N, .int .i64 M, .string s] 30)) r S R) (hG : Geo g r w.heap.size P) :
    Calls Try.prog 8 #[.pointer (some ⟨g, 0, none⟩), .pointer (some ⟨r, 0, none⟩), .agg #[.int .i64 3, .int .i64 N, .int .i64 M, .string s]] w fun e w' => e = .returned (.bool true) ∧ ∃ S' R', FileAt w' g P S'.size (S' ++ R') ∧ RefAt w' r S' R' ∧ S'.size + R'.size ≤ 1048576 ∧ Below g w w' := by
  have hb0 : Below w.heap.size w (w.alloc (.cells #[.int .i64 3, .int .i64 N, .int .i64 M, .string s] 30)) := below_alloc0 (Below.refl _ _) _
  have HZ : Hid (S.size + R.size ≤ 1048576 ∧ s.size < 140737488351233) := ⟨hz, hs⟩
  have HS0 : StepAt (w.alloc (.cells #[.int .i64 3, .int .i64 N, .int .i64 M, .string s] 30)).drew w.heap.size 3 N M s := by
    refine ⟨?_, ?_, ?_, ?_, ?_⟩ <;> simp [go_sem]
  have HB : Hid (FileAt (w.alloc (.cells #[.int .i64 3, .int .i64 N, .int .i64 M, .string s] 30)).drew g P S.size (S ++ R) ∧ RefAt (w.alloc (.cells #[.int .i64 3, .int .i64 N, .int .i64 M, .string s] 30)).drew r S R ∧ StepAt (w.alloc (.cells #[.int .i64 3, .int .i64 N, .int .i64 M, .string s] 30)).drew w.heap.size 3 N M s ∧ Below g w (w.alloc (.cells #[.int .i64 3, .int .i64 N, .int .i64 M, .string s] 30)).drew) := ⟨hF.drew, hR.drewN (n := 1), HS0, (hb0.drew).mono (by have := hG.1; have := hG.2.1; omega)⟩
  have HG : Hid (Geo g r w.heap.size P) := hG
  clear hz hs hF hR hG hb0
  go_enter Try.func8, Try.ntmps8
  go_wp2_with fail
  refine wp_region_H (fun w' => StepAt w' w.heap.size 3 N M s) 10 rfl (by kernel_rfl) ?_
  refine wpAnyH_take (i := 0) (oi := ?o0r) (v := ?v0r) ?hi0r (by kernel_rfl) (by kernel_rfl) (by kernel_rfl) ?hQ0r ?hy0r HS0 ?more0r
  case hi0r => rw [List.getElem?_toArray]; exact rfl
  case hQ0r => exact fun _ _ _ h => h
  case hy0r =>
    refine Or.inl ⟨by rfl, ?_⟩
    intro w' hSw
    obtain ⟨e0, e1, e2, e3, -⟩ := hSw
    go_simp
    try with_reducible rfl
  simp only [Act.put, List.setIfInBounds_toArray, List.set_cons_zero, List.set_cons_succ]
  refine wpAnyH_take (i := 1) (oi := ?o1r) (v := ?v1r) ?hi1r (by kernel_rfl) (by kernel_rfl) (by kernel_rfl) ?hQ1r ?hy1r HS0 ?more1r
  case hi1r => rw [List.getElem?_toArray]; exact rfl
  case hQ1r => exact fun _ _ _ h => h
  case hy1r =>
    refine Or.inl ⟨by rfl, ?_⟩
    intro w' hSw
    obtain ⟨e0, e1, e2, e3, -⟩ := hSw
    go_simp
    try with_reducible rfl
  simp only [Act.put, List.setIfInBounds_toArray, List.set_cons_zero, List.set_cons_succ]
  refine wpAnyH_take (i := 2) (oi := ?o2r) (v := ?v2r) ?hi2r (by kernel_rfl) (by kernel_rfl) (by kernel_rfl) ?hQ2r ?hy2r HS0 ?more2r
  case hi2r => rw [List.getElem?_toArray]; exact rfl
  case hQ2r => exact fun _ _ _ h => h
  case hy2r =>
    refine Or.inl ⟨by rfl, ?_⟩
    intro w' hSw
    obtain ⟨e0, e1, e2, e3, -⟩ := hSw
    go_simp
    try with_reducible rfl
  simp only [Act.put, List.setIfInBounds_toArray, List.set_cons_zero, List.set_cons_succ]
  refine wpAnyH_take (i := 4) (oi := ?o4r) (v := ?v4r) ?hi4r (by kernel_rfl) (by kernel_rfl) (by kernel_rfl) ?hQ4r ?hy4r HS0 ?more4r
  case hi4r => rw [List.getElem?_toArray]; exact rfl
  case hQ4r => exact fun _ _ _ h => h
  case hy4r =>
    refine Or.inl ⟨by rfl, ?_⟩
    intro w' hSw
    obtain ⟨e0, e1, e2, e3, -⟩ := hSw
    go_simp
    try with_reducible rfl
  simp only [Act.put, List.setIfInBounds_toArray, List.set_cons_zero, List.set_cons_succ]
  refine wpAnyH_take (i := 5) (oi := ?o5r) (v := ?v5r) ?hi5r (by kernel_rfl) (by kernel_rfl) (by kernel_rfl) ?hQ5r ?hy5r HS0 ?more5r
  case hi5r => rw [List.getElem?_toArray]; exact rfl
  case hQ5r => exact fun _ _ _ h => h
  case hy5r =>
    refine Or.inl ⟨by rfl, ?_⟩
    intro w' hSw
    obtain ⟨e0, e1, e2, e3, -⟩ := hSw
    go_simp
    try with_reducible rfl
  simp only [Act.put, List.setIfInBounds_toArray, List.set_cons_zero, List.set_cons_succ]
  refine wpAnyH_take (i := 6) (oi := ?o6r) (v := ?v6r) ?hi6r (by kernel_rfl) (by kernel_rfl) (by kernel_rfl) ?hQ6r ?hy6r HS0 ?more6r
  case hi6r => rw [List.getElem?_toArray]; exact rfl
  case hQ6r => exact fun _ _ _ h => h
  case hy6r =>
    refine Or.inl ⟨by rfl, ?_⟩
    intro w' hSw
    obtain ⟨e0, e1, e2, e3, -⟩ := hSw
    go_simp
    try with_reducible rfl
  simp only [Act.put, List.setIfInBounds_toArray, List.set_cons_zero, List.set_cons_succ]
  refine wpAnyH_one (i := 3) (o := ?o3r) (by kernel_rfl) ?hi3r ?hw3r ?st3r
  case hi3r => rw [List.getElem?_toArray]; exact rfl
  case hw3r => exact rfl
  intro K hK
  have HK3r : Hid _ := hK
  clear hK
  go_simp
  refine (fct_any g P N S R HZ.out.1 _ HB.out.1).mono ?_
  rintro e w1 ⟨rfl, hF1, hb1⟩
  have HM : Hid _ := mid_f HG.out hb1 HB.out.2.1 HB.out.2.2.1 HB.out.2.2.2
  have H1 : Hid (_ ∧ _) := ⟨hF1, HM.out⟩
  clear hF1 hb1 HM
  go_wp2_with fail
  refine HK3r.out _ _ ⟨H1.out.2.2.1, ?_⟩
  clear HK3r K
  try simp only [Act.put, List.setIfInBounds_toArray, List.set_cons_zero, List.set_cons_succ]
  refine wpAnyH_one (i := 7) (o := ?o7r) (by kernel_rfl) ?hi7r ?hw7r ?st7r
  case hi7r => rw [List.getElem?_toArray]; exact rfl
  case hw7r => exact rfl
  intro K hK
  have HK7r : Hid _ := hK
  clear hK
  go_simp
  refine (rct_any r N S R HZ.out.1 _ H1.out.2.1).mono ?_
  rintro e w2 ⟨rfl, hR2, hb2⟩
  have HM : Hid _ := mid_r HG.out hb2 H1.out.1 H1.out.2.2.1 H1.out.2.2.2
  have H2 : Hid (_ ∧ _) := ⟨hR2, HM.out⟩
  clear hR2 hb2 H1 HM
  go_wp2_with fail
  refine HK7r.out _ _ ⟨H2.out.2.2.1, ?_⟩
  clear HK7r K
  try simp only [Act.put, List.setIfInBounds_toArray, List.set_cons_zero, List.set_cons_succ]
  refine wpAnyH_take (i := 8) (oi := ?o8r) (v := ?v8r) ?hi8r (by kernel_rfl) (by kernel_rfl) (by kernel_rfl) ?hQ8r ?hy8r H2.out.2.2.1 ?more8r
  case hi8r => rw [List.getElem?_toArray]; exact rfl
  case hQ8r => exact fun _ _ _ h => h
  case hy8r =>
    refine Or.inl ⟨by rfl, ?_⟩
    intro w' hSw
    obtain ⟨e0, e1, e2, e3, -⟩ := hSw
    go_simp
    try with_reducible rfl
  simp only [Act.put, List.setIfInBounds_toArray, List.set_cons_zero, List.set_cons_succ]
  refine wpAnyH_take (i := 9) (oi := ?o9r) (v := ?v9r) ?hi9r (by kernel_rfl) (by kernel_rfl) (by kernel_rfl) ?hQ9r ?hy9r H2.out.2.2.1 ?more9r
  case hi9r => rw [List.getElem?_toArray]; exact rfl
  case hQ9r => exact fun _ _ _ h => h
  case hy9r =>
    refine Or.inl ⟨by rfl, ?_⟩
    intro w' hSw
    obtain ⟨e0, e1, e2, e3, -⟩ := hSw
    go_simp
    try with_reducible rfl
  simp only [Act.put, List.setIfInBounds_toArray, List.set_cons_zero, List.set_cons_succ]
  refine wpAnyH_done (by kernel_rfl) ?_ _
  clear HS0 HB
  go_wp2_with fail
  go_ret
  exact ⟨rfl, ctS N S R, ctR N S R, H2.out.2.1, H2.out.1, ct_size N S R HZ.out.1, H2.out.2.2.2⟩
set_option maxHeartbeats 2000000 in
theorem does4 (g r : Nat) (P : Nat → Prop) (S R s : ByteArray) (N M : Int) (hz : S.size + R.size ≤ 1048576) (hs : s.size < 140737488351233) (w : World) (hF : FileAt (w.alloc (.cells #[.int .i64 4, .int .i64 N, .int .i64 M, .string s] 30)) g P S.size (S ++ R)) (hR : RefAt (w.alloc (.cells #[.int .i64 4, .int .i64 N, .int .i64 M, .string s] 30)) r S R) (hG : Geo g r w.heap.size P) :
    Calls Try.prog 8 #[.pointer (some ⟨g, 0, none⟩), .pointer (some ⟨r, 0, none⟩), .agg #[.int .i64 4, .int .i64 N, .int .i64 M, .string s]] w fun e w' => e = .returned (.bool true) ∧ ∃ S' R', FileAt w' g P S'.size (S' ++ R') ∧ RefAt w' r S' R' ∧ S'.size + R'.size ≤ 1048576 ∧ Below g w w' := by
  have hb0 : Below w.heap.size w (w.alloc (.cells #[.int .i64 4, .int .i64 N, .int .i64 M, .string s] 30)) := below_alloc0 (Below.refl _ _) _
  have HZ : Hid (S.size + R.size ≤ 1048576 ∧ s.size < 140737488351233) := ⟨hz, hs⟩
  have HS0 : StepAt (w.alloc (.cells #[.int .i64 4, .int .i64 N, .int .i64 M, .string s] 30)).drew w.heap.size 4 N M s := by
    refine ⟨?_, ?_, ?_, ?_, ?_⟩ <;> simp [go_sem]
  have HB : Hid (FileAt (w.alloc (.cells #[.int .i64 4, .int .i64 N, .int .i64 M, .string s] 30)).drew g P S.size (S ++ R) ∧ RefAt (w.alloc (.cells #[.int .i64 4, .int .i64 N, .int .i64 M, .string s] 30)).drew r S R ∧ StepAt (w.alloc (.cells #[.int .i64 4, .int .i64 N, .int .i64 M, .string s] 30)).drew w.heap.size 4 N M s ∧ Below g w (w.alloc (.cells #[.int .i64 4, .int .i64 N, .int .i64 M, .string s] 30)).drew) := ⟨hF.drew, hR.drewN (n := 1), HS0, (hb0.drew).mono (by have := hG.1; have := hG.2.1; omega)⟩
  have HG : Hid (Geo g r w.heap.size P) := hG
  clear hz hs hF hR hG hb0
  go_enter Try.func8, Try.ntmps8
  go_wp2_with fail
  refine wp_region_H (fun w' => StepAt w' w.heap.size 4 N M s) 14 rfl (by kernel_rfl) ?_
  refine wpAnyH_take (i := 0) (oi := ?o0r) (v := ?v0r) ?hi0r (by kernel_rfl) (by kernel_rfl) (by kernel_rfl) ?hQ0r ?hy0r HS0 ?more0r
  case hi0r => rw [List.getElem?_toArray]; exact rfl
  case hQ0r => exact fun _ _ _ h => h
  case hy0r =>
    refine Or.inl ⟨by rfl, ?_⟩
    intro w' hSw
    obtain ⟨e0, e1, e2, e3, -⟩ := hSw
    go_simp
    try with_reducible rfl
  simp only [Act.put, List.setIfInBounds_toArray, List.set_cons_zero, List.set_cons_succ]
  refine wpAnyH_take (i := 1) (oi := ?o1r) (v := ?v1r) ?hi1r (by kernel_rfl) (by kernel_rfl) (by kernel_rfl) ?hQ1r ?hy1r HS0 ?more1r
  case hi1r => rw [List.getElem?_toArray]; exact rfl
  case hQ1r => exact fun _ _ _ h => h
  case hy1r =>
    refine Or.inl ⟨by rfl, ?_⟩
    intro w' hSw
    obtain ⟨e0, e1, e2, e3, -⟩ := hSw
    go_simp
    try with_reducible rfl
  simp only [Act.put, List.setIfInBounds_toArray, List.set_cons_zero, List.set_cons_succ]
  refine wpAnyH_take (i := 2) (oi := ?o2r) (v := ?v2r) ?hi2r (by kernel_rfl) (by kernel_rfl) (by kernel_rfl) ?hQ2r ?hy2r HS0 ?more2r
  case hi2r => rw [List.getElem?_toArray]; exact rfl
  case hQ2r => exact fun _ _ _ h => h
  case hy2r =>
    refine Or.inl ⟨by rfl, ?_⟩
    intro w' hSw
    obtain ⟨e0, e1, e2, e3, -⟩ := hSw
    go_simp
    try with_reducible rfl
  simp only [Act.put, List.setIfInBounds_toArray, List.set_cons_zero, List.set_cons_succ]
  refine wpAnyH_take (i := 3) (oi := ?o3r) (v := ?v3r) ?hi3r (by kernel_rfl) (by kernel_rfl) (by kernel_rfl) ?hQ3r ?hy3r HS0 ?more3r
  case hi3r => rw [List.getElem?_toArray]; exact rfl
  case hQ3r => exact fun _ _ _ h => h
  case hy3r =>
    refine Or.inl ⟨by rfl, ?_⟩
    intro w' hSw
    obtain ⟨e0, e1, e2, e3, -⟩ := hSw
    go_simp
    try with_reducible rfl
  simp only [Act.put, List.setIfInBounds_toArray, List.set_cons_zero, List.set_cons_succ]
  refine wpAnyH_take (i := 4) (oi := ?o4r) (v := ?v4r) ?hi4r (by kernel_rfl) (by kernel_rfl) (by kernel_rfl) ?hQ4r ?hy4r HS0 ?more4r
  case hi4r => rw [List.getElem?_toArray]; exact rfl
  case hQ4r => exact fun _ _ _ h => h
  case hy4r =>
    refine Or.inl ⟨by rfl, ?_⟩
    intro w' hSw
    obtain ⟨e0, e1, e2, e3, -⟩ := hSw
    go_simp
    try with_reducible rfl
  simp only [Act.put, List.setIfInBounds_toArray, List.set_cons_zero, List.set_cons_succ]
  refine wpAnyH_take (i := 6) (oi := ?o6r) (v := ?v6r) ?hi6r (by kernel_rfl) (by kernel_rfl) (by kernel_rfl) ?hQ6r ?hy6r HS0 ?more6r
  case hi6r => rw [List.getElem?_toArray]; exact rfl
  case hQ6r => exact fun _ _ _ h => h
  case hy6r =>
    refine Or.inl ⟨by rfl, ?_⟩
    intro w' hSw
    obtain ⟨e0, e1, e2, e3, -⟩ := hSw
    go_simp
    try with_reducible rfl
  simp only [Act.put, List.setIfInBounds_toArray, List.set_cons_zero, List.set_cons_succ]
  refine wpAnyH_take (i := 7) (oi := ?o7r) (v := ?v7r) ?hi7r (by kernel_rfl) (by kernel_rfl) (by kernel_rfl) ?hQ7r ?hy7r HS0 ?more7r
  case hi7r => rw [List.getElem?_toArray]; exact rfl
  case hQ7r => exact fun _ _ _ h => h
  case hy7r =>
    refine Or.inl ⟨by rfl, ?_⟩
    intro w' hSw
    obtain ⟨e0, e1, e2, e3, -⟩ := hSw
    go_simp
    try with_reducible rfl
  simp only [Act.put, List.setIfInBounds_toArray, List.set_cons_zero, List.set_cons_succ]
  refine wpAnyH_take (i := 8) (oi := ?o8r) (v := ?v8r) ?hi8r (by kernel_rfl) (by kernel_rfl) (by kernel_rfl) ?hQ8r ?hy8r HS0 ?more8r
  case hi8r => rw [List.getElem?_toArray]; exact rfl
  case hQ8r => exact fun _ _ _ h => h
  case hy8r =>
    refine Or.inl ⟨by rfl, ?_⟩
    intro w' hSw
    obtain ⟨e0, e1, e2, e3, -⟩ := hSw
    go_simp
    try with_reducible rfl
  simp only [Act.put, List.setIfInBounds_toArray, List.set_cons_zero, List.set_cons_succ]
  refine wpAnyH_take (i := 9) (oi := ?o9r) (v := ?v9r) ?hi9r (by kernel_rfl) (by kernel_rfl) (by kernel_rfl) ?hQ9r ?hy9r HS0 ?more9r
  case hi9r => rw [List.getElem?_toArray]; exact rfl
  case hQ9r => exact fun _ _ _ h => h
  case hy9r =>
    refine Or.inl ⟨by rfl, ?_⟩
    intro w' hSw
    obtain ⟨e0, e1, e2, e3, -⟩ := hSw
    go_simp
    try with_reducible rfl
  simp only [Act.put, List.setIfInBounds_toArray, List.set_cons_zero, List.set_cons_succ]
  refine wpAnyH_take (i := 10) (oi := ?o10r) (v := ?v10r) ?hi10r (by kernel_rfl) (by kernel_rfl) (by kernel_rfl) ?hQ10r ?hy10r HS0 ?more10r
  case hi10r => rw [List.getElem?_toArray]; exact rfl
  case hQ10r => exact fun _ _ _ h => h
  case hy10r =>
    refine Or.inl ⟨by rfl, ?_⟩
    intro w' hSw
    obtain ⟨e0, e1, e2, e3, -⟩ := hSw
    go_simp
    try with_reducible rfl
  simp only [Act.put, List.setIfInBounds_toArray, List.set_cons_zero, List.set_cons_succ]
  refine wpAnyH_one (i := 5) (o := ?o5r) (by kernel_rfl) ?hi5r ?hw5r ?st5r
  case hi5r => rw [List.getElem?_toArray]; exact rfl
  case hw5r => exact rfl
  intro K hK
  have HK5r : Hid _ := hK
  clear hK
  go_simp
  refine (fcr_any g P N M S R HZ.out.1 _ HB.out.1).mono ?_
  rintro e w1 ⟨rfl, hF1, hb1⟩
  have HM : Hid _ := mid_f HG.out hb1 HB.out.2.1 HB.out.2.2.1 HB.out.2.2.2
  have H1 : Hid (_ ∧ _) := ⟨hF1, HM.out⟩
  clear hF1 hb1 HM
  go_wp2_with fail
  refine HK5r.out _ _ ⟨H1.out.2.2.1, ?_⟩
  clear HK5r K
  try simp only [Act.put, List.setIfInBounds_toArray, List.set_cons_zero, List.set_cons_succ]
  refine wpAnyH_one (i := 11) (o := ?o11r) (by kernel_rfl) ?hi11r ?hw11r ?st11r
  case hi11r => rw [List.getElem?_toArray]; exact rfl
  case hw11r => exact rfl
  intro K hK
  have HK11r : Hid _ := hK
  clear hK
  go_simp
  refine (rcr_any r N M S R HZ.out.1 _ H1.out.2.1).mono ?_
  rintro e w2 ⟨rfl, hR2, hb2⟩
  have HM : Hid _ := mid_r HG.out hb2 H1.out.1 H1.out.2.2.1 H1.out.2.2.2
  have H2 : Hid (_ ∧ _) := ⟨hR2, HM.out⟩
  clear hR2 hb2 H1 HM
  go_wp2_with fail
  refine HK11r.out _ _ ⟨H2.out.2.2.1, ?_⟩
  clear HK11r K
  try simp only [Act.put, List.setIfInBounds_toArray, List.set_cons_zero, List.set_cons_succ]
  refine wpAnyH_take (i := 12) (oi := ?o12r) (v := ?v12r) ?hi12r (by kernel_rfl) (by kernel_rfl) (by kernel_rfl) ?hQ12r ?hy12r H2.out.2.2.1 ?more12r
  case hi12r => rw [List.getElem?_toArray]; exact rfl
  case hQ12r => exact fun _ _ _ h => h
  case hy12r =>
    refine Or.inl ⟨by rfl, ?_⟩
    intro w' hSw
    obtain ⟨e0, e1, e2, e3, -⟩ := hSw
    go_simp
    try with_reducible rfl
  simp only [Act.put, List.setIfInBounds_toArray, List.set_cons_zero, List.set_cons_succ]
  refine wpAnyH_take (i := 13) (oi := ?o13r) (v := ?v13r) ?hi13r (by kernel_rfl) (by kernel_rfl) (by kernel_rfl) ?hQ13r ?hy13r H2.out.2.2.1 ?more13r
  case hi13r => rw [List.getElem?_toArray]; exact rfl
  case hQ13r => exact fun _ _ _ h => h
  case hy13r =>
    refine Or.inl ⟨by rfl, ?_⟩
    intro w' hSw
    obtain ⟨e0, e1, e2, e3, -⟩ := hSw
    go_simp
    try with_reducible rfl
  simp only [Act.put, List.setIfInBounds_toArray, List.set_cons_zero, List.set_cons_succ]
  refine wpAnyH_done (by kernel_rfl) ?_ _
  clear HS0 HB
  go_wp2_with fail
  go_ret
  exact ⟨rfl, crS N M S R, crR N M R, H2.out.2.1, H2.out.1, cr_size N M S R HZ.out.1, H2.out.2.2.2⟩
end Go.Proofs.Ytlcinkhgjjpmmaa
