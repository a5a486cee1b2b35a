/- The law DiskSteps: the walk. -/
import Derived.Test.YtlcinkhgjjpmmaaDkV
namespace Go.Proofs.Ytlcinkhgjjpmmaa
open Go Go.RowKit Go.Lib

def StepsAt (w : World) (p o n : Nat) : Prop :=
  ∀ j, j < n → ∃ (W N M : Int) (s : ByteArray), w.cell? ⟨p, o + j * 4, none⟩ = some (.int .i64 W) ∧ w.cell? ⟨p, o + j * 4 + 1, none⟩ = some (.int .i64 N) ∧ w.cell? ⟨p, o + j * 4 + 2, none⟩ = some (.int .i64 M) ∧ w.cell? ⟨p, o + j * 4 + 3, none⟩ = some (.string s) ∧ s.size < 140737488351233 ∧ p < w.heap.size
set_option maxRecDepth 100000 in
set_option maxHeartbeats 4000000 in
theorem diskSteps_in (a0 : Option Addr) (p o n cap : Nat) (ha : 0 < n → a0 = some ⟨p, o, none⟩) (hn : n ≤ 300) (w : World) (hS : StepsAt w p o n) :
    Calls Try.prog 3 #[.slice a0 n cap] w fun e w' => e = .returned (.bool true) ∧ Below w.heap.size w w' := by
  have HS : Hid (StepsAt w p o n) := hS
  have HA : Hid (0 < n → a0 = some ⟨p, o, none⟩) := ha
  have n1 : ¬ ((300 : Int) < (n : Int)) := by omega
  clear hS ha
  go_enter Try.func3, Try.ntmps3
  go_wp2_with fail
  refine (new_any _).mono ?_
  rintro e w1 ⟨rfl, hF1, hb1, hz1⟩
  have H1 : Hid (FileAt w1 w.heap.size (From (w.heap.size + 1)) 0 ByteArray.empty ∧ Below w.heap.size w w1 ∧ w1.heap.size = w.heap.size + 1) := ⟨hF1, hb1, hz1⟩
  clear hF1 hb1 hz1
  have n1 : ¬ ((300 : Int) < (n : Int)) := by omega
  go_wp2_with fail
  rename_i Kr hKr
  have HKr : Hid _ := hKr
  clear hKr
  rw [H1.out.2.2]
  have H2 : Hid (FileAt (w1.alloc (.cells #[.string ⟨#[]⟩, .string ⟨#[]⟩] 28)) w.heap.size (From (w.heap.size + 2)) emp.size (emp ++ emp) ∧ RefAt (w1.alloc (.cells #[.string ⟨#[]⟩, .string ⟨#[]⟩] 28)) (w.heap.size + 1) emp emp ∧ Below w.heap.size w (w1.alloc (.cells #[.string ⟨#[]⟩, .string ⟨#[]⟩] 28))) := by
    obtain ⟨hF, hb, hz⟩ := H1.out
    have hb0 : Below w1.heap.size w1 (w1.alloc (.cells #[.string ⟨#[]⟩, .string ⟨#[]⟩] 28)) := below_alloc0 (Below.refl _ _) _
    refine ⟨?_, ⟨?_, ?_, fun o => ?_, ?_⟩, below_call0 hb hb0⟩
    · have e0 : (emp ++ emp : ByteArray) = ByteArray.empty := rfl
      rw [e0]
      obtain ⟨a, cap, c0, c1, fz, hg, hB, hR⟩ := hF.call hb0
      refine ⟨a, cap, c0, c1, fz, not_from (by omega), fun k hk => ?_, ?_⟩
      · simp at hk; show w.heap.size + 2 ≤ k; omega
      · rcases hR with h | ⟨b, h1, h2, h3, h4, _⟩
        · exact .inl h
        · exact absurd h2 (fun h => by
            have hR' := hF
            obtain ⟨a', cap', c0', _, _, _, _, hR'⟩ := hR'
            rcases hR' with ⟨q1, q2, q3⟩ | ⟨b', q1, q2, q3, _⟩
            · have := (hb0.cell (p := ⟨w.heap.size, 0, none⟩) (by show w.heap.size < w1.heap.size; omega)).trans c0'
              rw [c0] at this
              simp [h1, q1] at this
            · have := (hb0.cell (p := ⟨w.heap.size, 0, none⟩) (by show w.heap.size < w1.heap.size; omega)).trans c0'
              rw [c0] at this
              simp [h1, q1] at this
              obtain ⟨rfl, _⟩ := this
              have : w.heap.size + 1 ≤ b := q2
              omega)
    · rw [← hz]; simp [go_sem, emp]
    · rw [← hz]; simp [go_sem, emp]
    · rw [← hz]; simp [go_sem]
    · simp; omega
  clear H1
  go_loopw [26] (fun iv wr => ∃ (k : Nat) (S R : ByteArray), k ≤ n ∧ iv = .int .i64 (k : Nat) ∧ FileAt wr w.heap.size (From (w.heap.size + 2)) S.size (S ++ R) ∧ RefAt wr (w.heap.size + 1) S R ∧ S.size + R.size ≤ 1048576 ∧ Below w.heap.size w wr)
    (fun iv _ => n - (intOf iv).toNat)
  case atStart => exact ⟨0, emp, emp, Nat.zero_le _, rfl, H2.out.1, H2.out.2.1, by decide, H2.out.2.2⟩
  case round =>
    obtain ⟨k, S, R, hk, rfl, hF, hR, hz, hB⟩ := hrel
    rename World => wr
    clear H2
    have H3 : Hid (FileAt wr w.heap.size (From (w.heap.size + 2)) S.size (S ++ R) ∧ RefAt wr (w.heap.size + 1) S R ∧ S.size + R.size ≤ 1048576 ∧ Below w.heap.size w wr) := ⟨hF, hR, hz, hB⟩
    clear hF hR hz hB
    by_cases hlt : k < n
    · clear HKr
      obtain rfl := HA.out (Nat.lt_of_le_of_lt (Nat.zero_le _) hlt)
      obtain ⟨W, N, M, s, e0, e1, e2, e3, e4, e5⟩ := HS.out k hlt
      have g0 : wr.cell? ⟨p, o + k * 4, none⟩ = some (.int .i64 W) := (H3.out.2.2.2.cell (p := ⟨p, o + k * 4, none⟩) e5).trans e0
      have g1 : wr.cell? ⟨p, o + k * 4 + 1, none⟩ = some (.int .i64 N) := (H3.out.2.2.2.cell (p := ⟨p, o + k * 4 + 1, none⟩) e5).trans e1
      have g2 : wr.cell? ⟨p, o + k * 4 + 2, none⟩ = some (.int .i64 M) := (H3.out.2.2.2.cell (p := ⟨p, o + k * 4 + 2, none⟩) e5).trans e2
      have g3 : wr.cell? ⟨p, o + k * 4 + 3, none⟩ = some (.string s) := (H3.out.2.2.2.cell (p := ⟨p, o + k * 4 + 3, none⟩) e5).trans e3
      have HE : Hid (s.size < 140737488351233) := e4
      have hlt' : (k : Int) < (n : Int) := Int.ofNat_lt.2 hlt
      have hd : decide ((k : Int) < (n : Int)) = true := decide_eq_true hlt'
      clear e0 e1 e2 e3 e4 e5
      go_wp2_with fail
      have hbx : Below wr.heap.size wr (wr.alloc (.cells #[.int .i64 W, .int .i64 N, .int .i64 M, .string s] 30)) := below_alloc0 (Below.refl _ _) _
      have H4 : Hid (_ ∧ _ ∧ _) := ⟨H3.out.1.call hbx, H3.out.2.1.call hbx, below_call0 H3.out.2.2.2 hbx⟩
      clear hbx g0 g1 g2 g3
      refine (does_all w.heap.size S R s W N M H3.out.2.2.1 HE.out _ H4.out.1 H4.out.2.1).mono ?_
      rintro e w5 ⟨rfl, S', R', hF5, hR5, hz5, hb5⟩
      have H5 : Hid (FileAt w5 w.heap.size (From (w.heap.size + 2)) S'.size (S' ++ R') ∧ RefAt w5 (w.heap.size + 1) S' R' ∧ S'.size + R'.size ≤ 1048576 ∧ Below w.heap.size w w5) := ⟨hF5, hR5, hz5, H4.out.2.2.trans hb5⟩
      clear hF5 hR5 hz5 hb5 H4 H3
      go_wp2_with fail
      refine (flen_any _ _ _ _ _ H5.out.1).mono ?_
      rintro e w6 ⟨rfl, hF6, hb6⟩
      have H6 : Hid (FileAt w6 w.heap.size (From (w.heap.size + 2)) S'.size (S' ++ R') ∧ RefAt w6 (w.heap.size + 1) S' R' ∧ S'.size + R'.size ≤ 1048576 ∧ Below w.heap.size w w6) := ⟨hF6, H5.out.2.1.call hb6, H5.out.2.2.1, below_call0 H5.out.2.2.2 hb6⟩
      clear hF6 hb6 H5
      have es : (S' ++ R').size = S'.size + R'.size := ByteArray.size_append
      obtain ⟨c0, c1, -, -⟩ := H6.out.2.1
      obtain ⟨z, hz⟩ : ∃ z, z = S'.size + R'.size := ⟨_, rfl⟩
      have hz' : (S'.size : Int) + (R'.size : Int) = (z : Nat) := by omega
      rw [es, ← hz]
      have z1 : (S'.size : Int) ≤ 1048576 := by have := H6.out.2.2.1; omega
      have z2 : (R'.size : Int) ≤ 1048576 := by have := H6.out.2.2.1; omega
      have z4 : (z : Int) ≤ 1048576 := by have := H6.out.2.2.1; omega
      have z3 : ¬ (9223372036854775807 < S'.size + R'.size) := by have := H6.out.2.2.1; omega
      have tb : ((S' ++ R').toList == (S' ++ R').toList) = true := by simp only [BEq.rfl]
      have wz : IntKind.i64.wrap (z : Int) = (z : Nat) := by rw [IntKind.wrap_i64]; omega
      have K10 : Hid _ := fun w' h => fbytes_any w.heap.size (From (w.heap.size + 2)) S'.size (S' ++ R') w' h
      obtain ⟨ky, hky⟩ : ∃ q, q = k + 1 := ⟨_, rfl⟩
      have y1 : (k : Int) + 1 = (ky : Nat) := by rw [hky]; rfl
      have y2 : IntKind.i64.wrap (ky : Int) = (ky : Nat) := by rw [IntKind.wrap_i64]; omega
      have HKY : Hid (ky = k + 1) := hky
      clear es hz hky
      by_cases h5 : (z : Int) < 5000
      · have d5 : decide ((z : Int) < 5000) = true := decide_eq_true h5
        go_wp2_with fail
        go_quiet ((go_at_call 10; exact Calls.quiet_of_same (K10.out _ H6.out.1.drewN)))
        have H7 : Hid (FileAt (w6.drewN nq) w.heap.size (From (w.heap.size + 2)) S'.size (S' ++ R') ∧ RefAt (w6.drewN nq) (w.heap.size + 1) S' R' ∧ S'.size + R'.size ≤ 1048576 ∧ Below w.heap.size w (w6.drewN nq)) := ⟨H6.out.1.drewN, H6.out.2.1.drewN, H6.out.2.2.1, below_drewN H6.out.2.2.2 _⟩

        go_wp2_with fail
        go_roundw
        case rel => first | exact ⟨ky, S', R', by rw [HKY.out]; exact hlt, rfl, H7.out⟩ | ((repeat apply Exists.intro); exact ⟨⟨ky, S', R', by rw [HKY.out]; exact hlt, rfl, H7.out⟩, rfl⟩)
        case measure =>
          show n - (ky : Int).toNat < n - (k : Int).toNat
          rw [Int.toNat_natCast, Int.toNat_natCast, HKY.out]
          exact Nat.sub_succ_lt_self _ _ hlt
      · have d5 : decide ((z : Int) < 5000) = false := decide_eq_false h5
        go_wp2_with fail
        go_quiet (fail)
        have H7 : Hid (FileAt (w6.drewN nq) w.heap.size (From (w.heap.size + 2)) S'.size (S' ++ R') ∧ RefAt (w6.drewN nq) (w.heap.size + 1) S' R' ∧ S'.size + R'.size ≤ 1048576 ∧ Below w.heap.size w (w6.drewN nq)) := ⟨H6.out.1.drewN, H6.out.2.1.drewN, H6.out.2.2.1, below_drewN H6.out.2.2.2 _⟩

        go_wp2_with fail
        go_roundw
        case rel => first | exact ⟨ky, S', R', by rw [HKY.out]; exact hlt, rfl, H7.out⟩ | ((repeat apply Exists.intro); exact ⟨⟨ky, S', R', by rw [HKY.out]; exact hlt, rfl, H7.out⟩, rfl⟩)
        case measure =>
          show n - (ky : Int).toNat < n - (k : Int).toNat
          rw [Int.toNat_natCast, Int.toNat_natCast, HKY.out]
          exact Nat.sub_succ_lt_self _ _ hlt
    · obtain rfl : k = n := Nat.le_antisymm hk (Nat.le_of_not_lt hlt)
      have hnl : ¬ ((k : Int) < (k : Int)) := Int.lt_irrefl _
      have K10 : Hid _ := fun w' h => fbytes_any w.heap.size (From (w.heap.size + 2)) S.size (S ++ R) w' h
      have z3 : ¬ (9223372036854775807 < S.size + R.size) := by have := H3.out.2.2.1; omega
      have tb : ((S ++ R).toList == (S ++ R).toList) = true := by simp only [BEq.rfl]
      have HS1 : RefAt wr.drew (w.heap.size + 1) S R := H3.out.2.1
      clear hlt hk
      go_wp2_with fail
      refine HKr.out _ _ ?_
      clear HKr
      go_wp2_with fail
      refine wp_region_H (fun w' => RefAt w' (w.heap.size + 1) S R) 16 rfl (by kernel_rfl) ?_
      refine wpAnyH_take (i := 0) (oi := ?o0r) (v := ?v0r) ?hi0r (by kernel_rfl) (by kernel_rfl) (by kernel_rfl) ?hQ0r ?hy0r HS1 ?more0r
      case hi0r => rw [List.getElem?_toArray]; exact rfl
      case hQ0r => exact fun _ _ _ h => h
      case hy0r =>
        refine Or.inl ⟨by rfl, ?_⟩
        intro w' hSw
        obtain ⟨e0, e1, -, -⟩ := hSw
        go_simp
        try with_reducible rfl
      simp only [Act.put, List.setIfInBounds_toArray, List.set_cons_zero, List.set_cons_succ]
      refine wpAnyH_take (i := 2) (oi := ?o2r) (v := ?v2r) ?hi2r (by kernel_rfl) (by kernel_rfl) (by kernel_rfl) ?hQ2r ?hy2r HS1 ?more2r
      case hi2r => rw [List.getElem?_toArray]; exact rfl
      case hQ2r => exact fun _ _ _ h => h
      case hy2r =>
        refine Or.inl ⟨by rfl, ?_⟩
        intro w' hSw
        obtain ⟨e0, e1, -, -⟩ := hSw
        go_simp
        try with_reducible rfl
      simp only [Act.put, List.setIfInBounds_toArray, List.set_cons_zero, List.set_cons_succ]
      refine wpAnyH_take (i := 3) (oi := ?o3r) (v := ?v3r) ?hi3r (by kernel_rfl) (by kernel_rfl) (by kernel_rfl) ?hQ3r ?hy3r HS1 ?more3r
      case hi3r => rw [List.getElem?_toArray]; exact rfl
      case hQ3r => exact fun _ _ _ h => h
      case hy3r =>
        refine Or.inl ⟨by rfl, ?_⟩
        intro w' hSw
        obtain ⟨e0, e1, -, -⟩ := hSw
        go_simp
        try with_reducible rfl
      simp only [Act.put, List.setIfInBounds_toArray, List.set_cons_zero, List.set_cons_succ]
      refine wpAnyH_take (i := 4) (oi := ?o4r) (v := ?v4r) ?hi4r (by kernel_rfl) (by kernel_rfl) (by kernel_rfl) ?hQ4r ?hy4r HS1 ?more4r
      case hi4r => rw [List.getElem?_toArray]; exact rfl
      case hQ4r => exact fun _ _ _ h => h
      case hy4r =>
        refine Or.inl ⟨by rfl, ?_⟩
        intro w' hSw
        obtain ⟨e0, e1, -, -⟩ := hSw
        go_simp
        try with_reducible rfl
      simp only [Act.put, List.setIfInBounds_toArray, List.set_cons_zero, List.set_cons_succ]
      refine wpAnyH_take (i := 5) (oi := ?o5r) (v := ?v5r) ?hi5r (by kernel_rfl) (by kernel_rfl) (by kernel_rfl) ?hQ5r ?hy5r HS1 ?more5r
      case hi5r => rw [List.getElem?_toArray]; exact rfl
      case hQ5r => exact fun _ _ _ h => h
      case hy5r =>
        refine Or.inl ⟨by rfl, ?_⟩
        intro w' hSw
        obtain ⟨e0, e1, -, -⟩ := hSw
        go_simp
        try with_reducible rfl
      simp only [Act.put, List.setIfInBounds_toArray, List.set_cons_zero, List.set_cons_succ]
      refine wpAnyH_take (i := 6) (oi := ?o6r) (v := ?v6r) ?hi6r (by kernel_rfl) (by kernel_rfl) (by kernel_rfl) ?hQ6r ?hy6r HS1 ?more6r
      case hi6r => rw [List.getElem?_toArray]; exact rfl
      case hQ6r => exact fun _ _ _ h => h
      case hy6r =>
        refine Or.inl ⟨by rfl, ?_⟩
        intro w' hSw
        obtain ⟨e0, e1, -, -⟩ := hSw
        go_simp
        try with_reducible rfl
      simp only [Act.put, List.setIfInBounds_toArray, List.set_cons_zero, List.set_cons_succ]
      refine wpAnyH_take (i := 7) (oi := ?o7r) (v := ?v7r) ?hi7r (by kernel_rfl) (by kernel_rfl) (by kernel_rfl) ?hQ7r ?hy7r HS1 ?more7r
      case hi7r => rw [List.getElem?_toArray]; exact rfl
      case hQ7r => exact fun _ _ _ h => h
      case hy7r =>
        refine Or.inl ⟨by rfl, ?_⟩
        intro w' hSw
        obtain ⟨e0, e1, -, -⟩ := hSw
        go_simp
        try with_reducible rfl
      simp only [Act.put, List.setIfInBounds_toArray, List.set_cons_zero, List.set_cons_succ]
      refine wpAnyH_take (i := 8) (oi := ?o8r) (v := ?v8r) ?hi8r (by kernel_rfl) (by kernel_rfl) (by kernel_rfl) ?hQ8r ?hy8r HS1 ?more8r
      case hi8r => rw [List.getElem?_toArray]; exact rfl
      case hQ8r => exact fun _ _ _ h => h
      case hy8r =>
        refine Or.inl ⟨by rfl, ?_⟩
        intro w' hSw
        obtain ⟨e0, e1, -, -⟩ := hSw
        go_simp
        try with_reducible rfl
      simp only [Act.put, List.setIfInBounds_toArray, List.set_cons_zero, List.set_cons_succ]
      refine wpAnyH_take (i := 9) (oi := ?o9r) (v := ?v9r) ?hi9r (by kernel_rfl) (by kernel_rfl) (by kernel_rfl) ?hQ9r ?hy9r HS1 ?more9r
      case hi9r => rw [List.getElem?_toArray]; exact rfl
      case hQ9r => exact fun _ _ _ h => h
      case hy9r =>
        refine Or.inl ⟨by rfl, ?_⟩
        intro w' hSw
        obtain ⟨e0, e1, -, -⟩ := hSw
        go_simp
        try with_reducible rfl
      simp only [Act.put, List.setIfInBounds_toArray, List.set_cons_zero, List.set_cons_succ]
      refine wpAnyH_take (i := 10) (oi := ?o10r) (v := ?v10r) ?hi10r (by kernel_rfl) (by kernel_rfl) (by kernel_rfl) ?hQ10r ?hy10r HS1 ?more10r
      case hi10r => rw [List.getElem?_toArray]; exact rfl
      case hQ10r => exact fun _ _ _ h => h
      case hy10r =>
        refine Or.inl ⟨by rfl, ?_⟩
        intro w' hSw
        obtain ⟨e0, e1, -, -⟩ := hSw
        go_simp
        try with_reducible rfl
      simp only [Act.put, List.setIfInBounds_toArray, List.set_cons_zero, List.set_cons_succ]
      refine wpAnyH_one (i := 1) (o := ?o1r) (by kernel_rfl) ?hi1r ?hw1r ?st1r
      case hi1r => rw [List.getElem?_toArray]; exact rfl
      case hw1r => exact rfl
      intro K hK
      have HK1r : Hid _ := hK
      clear hK
      go_simp
      refine (K10.out _ H3.out.1.drew).mono ?_
      rintro e w4 ⟨rfl, rfl⟩
      go_wp2_with fail
      refine HK1r.out _ _ ⟨HS1, ?_⟩
      clear HK1r K
      try simp only [Act.put, List.setIfInBounds_toArray, List.set_cons_zero, List.set_cons_succ]
      refine wpAnyH_take (i := 11) (oi := ?o11r) (v := ?v11r) ?hi11r (by kernel_rfl) (by kernel_rfl) (by kernel_rfl) ?hQ11r ?hy11r HS1 ?more11r
      case hi11r => rw [List.getElem?_toArray]; exact rfl
      case hQ11r => exact fun _ _ _ h => h
      case hy11r =>
        refine Or.inl ⟨by rfl, ?_⟩
        intro w' hSw
        obtain ⟨e0, e1, -, -⟩ := hSw
        go_simp
        try with_reducible rfl
      simp only [Act.put, List.setIfInBounds_toArray, List.set_cons_zero, List.set_cons_succ]
      refine wpAnyH_take (i := 12) (oi := ?o12r) (v := ?v12r) ?hi12r (by kernel_rfl) (by kernel_rfl) (by kernel_rfl) ?hQ12r ?hy12r HS1 ?more12r
      case hi12r => rw [List.getElem?_toArray]; exact rfl
      case hQ12r => exact fun _ _ _ h => h
      case hy12r =>
        refine Or.inl ⟨by rfl, ?_⟩
        intro w' hSw
        obtain ⟨e0, e1, -, -⟩ := hSw
        go_simp
        try with_reducible rfl
      simp only [Act.put, List.setIfInBounds_toArray, List.set_cons_zero, List.set_cons_succ]
      refine wpAnyH_one (i := 13) (o := ?o13r) (by kernel_rfl) ?hi13r ?hw13r ?st13r
      case hi13r => rw [List.getElem?_toArray]; exact rfl
      case hw13r => exact rfl
      intro K hK
      have HK13r : Hid _ := hK
      clear hK
      go_simp
      refine (abc_any _).mono ?_
      rintro e w5 ⟨rfl, hb5⟩
      have H5 : Hid (RefAt w5 (w.heap.size + 1) S R ∧ Below w.heap.size w w5) := ⟨HS1.call hb5, below_call0 H3.out.2.2.2.drew hb5⟩
      clear hb5
      go_wp2_with fail
      refine HK13r.out _ _ ⟨H5.out.1, ?_⟩
      clear HK13r K
      try simp only [Act.put, List.setIfInBounds_toArray, List.set_cons_zero, List.set_cons_succ]
      refine wpAnyH_take (i := 14) (oi := ?o14r) (v := ?v14r) ?hi14r (by kernel_rfl) (by kernel_rfl) (by kernel_rfl) ?hQ14r ?hy14r H5.out.1 ?more14r
      case hi14r => rw [List.getElem?_toArray]; exact rfl
      case hQ14r => exact fun _ _ _ h => h
      case hy14r =>
        refine Or.inl ⟨by rfl, ?_⟩
        intro w' hSw
        obtain ⟨e0, e1, -, -⟩ := hSw
        go_simp
        try with_reducible rfl
      simp only [Act.put, List.setIfInBounds_toArray, List.set_cons_zero, List.set_cons_succ]
      refine wpAnyH_take (i := 15) (oi := ?o15r) (v := ?v15r) ?hi15r (by kernel_rfl) (by kernel_rfl) (by kernel_rfl) ?hQ15r ?hy15r H5.out.1 ?more15r
      case hi15r => rw [List.getElem?_toArray]; exact rfl
      case hQ15r => exact fun _ _ _ h => h
      case hy15r =>
        refine Or.inl ⟨by rfl, ?_⟩
        intro w' hSw
        obtain ⟨e0, e1, -, -⟩ := hSw
        go_simp
        try with_reducible rfl
      simp only [Act.put, List.setIfInBounds_toArray, List.set_cons_zero, List.set_cons_succ]
      refine wpAnyH_done (by kernel_rfl) ?_ _
      clear HS1
      go_wp2_with fail
      go_ret
      exact ⟨rfl, H5.out.2⟩
theorem diskSteps_long (a0 : Option Addr) (n cap : Nat) (hn : 300 < n) (w : World) : Calls Try.prog 3 #[.slice a0 n cap] w fun e w' => e = .returned (.bool true) ∧ Below w.heap.size w w' := by
  have n1 : ((300 : Int) < (n : Int)) := by omega
  go_enter Try.func3, Try.ntmps3
  go_wp2_with fail
  refine (new_any _).mono ?_
  rintro e w1 ⟨rfl, hF1, hb1, hz1⟩
  have H1 : Hid (Below w.heap.size w w1) := hb1
  clear hF1 hb1 hz1
  go_wp2_with fail
  refine (abc_any _).mono ?_
  rintro e w2 ⟨rfl, hb2⟩
  have H2 : Hid (Below w.heap.size w w2) := below_call0 H1.out hb2
  clear hb2 H1
  go_wp2_with fail
  go_ret
  exact ⟨rfl, H2.out⟩
end Go.Proofs.Ytlcinkhgjjpmmaa
