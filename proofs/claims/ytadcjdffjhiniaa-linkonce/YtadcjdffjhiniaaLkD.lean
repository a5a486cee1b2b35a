/- Package link: an end that takes, method by method. -/
import Derived.Test.YtadcjdffjhiniaaLkC
namespace Go.Proofs.Ytadcjdffjhiniaa
open Go Go.RowKit Go.Lib

/-- The life, the number and the text of a frame, if bytes are one. -/
def rdF (s : ByteArray) : Option (Nat × Nat × ByteArray) := match lkU 1 1 s with
  | some (l, n, [t]) => if n = 0 ∨ 7900 < t.size then none else some (l, n, t)
  | _ => none
theorem rdF_inv {s : ByteArray} {l n : Nat} {t : ByteArray} (h : rdF s = some (l, n, t)) : lkU 1 1 s = some (l, n, [t]) ∧ n ≠ 0 ∧ ¬ 7900 < t.size ∧ 1 ≤ l ∧ l ≤ 1099511627776 ∧ n ≤ 1099511627776 := by
  unfold rdF at h
  split at h
  · next l' n' t' e =>
    split at h
    · cases h
    · next c =>
      injection h with h
      injection h with h h'
      injection h' with h' h''
      subst h h' h''
      obtain ⟨a, b, _, _, _, _, _, _, h1, h2, h3⟩ := lkU_inv e
      exact ⟨e, fun q => c (.inl q), fun q => c (.inr q), h1, h2, h3⟩
  · cases h
theorem rdF_no {s : ByteArray} (h : rdF s = none) : lkU 1 1 s = none ∨ ∃ l n t, lkU 1 1 s = some (l, n, [t]) ∧ (n = 0 ∨ (n ≠ 0 ∧ 7900 < t.size)) := by
  match e : lkU 1 1 s with
  | none => exact .inl rfl
  | some (l, n, r) =>
    obtain ⟨a, b, _, _, _, h4, _⟩ := lkU_inv e
    match r, h4 with
    | [t], _ =>
      right
      refine ⟨l, n, t, rfl, ?_⟩
      unfold rdF at h
      rw [e] at h
      simp only [] at h
      by_cases h0 : n = 0
      · exact .inl h0
      · refine .inr ⟨h0, Classical.byContradiction fun c => ?_⟩
        rw [if_neg (fun q => q.elim h0 c)] at h
        cases h
def rfNo (w : World) (e : Ending) (w' : World) : Prop := e = .returned (.tuple #[.int .i64 0, .int .i64 0, .string ⟨#[]⟩, .int .i64 4]) ∧ Below w.heap.size w w'
theorem readFrame_no {s : ByteArray} (hs : s.size < 140737488351233) (h : rdF s = none) (w : World) : Calls Try.prog 31 #[.string s] w fun e w' => rfNo w e w' := by
  rcases rdF_no h with h | ⟨l, n, t, h, h0 | ⟨h0, ht⟩⟩
  · have KU : Hid _ := fun w' : World => lunpack_no (k := 1) (rest := 1) hs (by decide) h w'
    clear h hs
    go_enter Try.func31, Try.ntmps31
    go_wp2_with fail
    refine (KU.out _).mono ?_
    rintro e w1 ⟨rfl, hb1⟩
    have H1 : Hid _ := hb1
    clear hb1 KU
    go_wp2_with fail
    exact bodyPost_ret (v := .tuple #[.int .i64 0, .int .i64 0, .string ⟨#[]⟩, .int .i64 4]) (by simp [results, Try.results31, go_sem]) rfl ⟨rfl, H1.out⟩
  · have KU : Hid _ := fun w' : World => lunpack_in (k := 1) (rest := 1) hs (by decide) h w'
    subst h0
    clear h hs
    go_enter Try.func31, Try.ntmps31
    go_wp2_with fail
    refine (KU.out _).mono ?_
    rintro e w1 ⟨a, cap, rfl, hS1, hb1⟩
    have H1 : Hid _ := hb1
    clear hb1 KU hS1
    go_wp2_with fail
    exact bodyPost_ret (v := .tuple #[.int .i64 0, .int .i64 0, .string ⟨#[]⟩, .int .i64 4]) (by simp [results, Try.results31, go_sem]) rfl ⟨rfl, H1.out⟩
  · have KU : Hid _ := fun w' : World => lunpack_in (k := 1) (rest := 1) hs (by decide) h w'
    have ht' : (7900 : Int) < (t.size : Int) := by omega
    have h0' : ¬ ((n : Int) = 0) := by omega
    clear h hs h0 ht
    go_enter Try.func31, Try.ntmps31
    go_wp2_with fail
    refine (KU.out _).mono ?_
    rintro e w1 ⟨a, cap, rfl, hS1, hb1⟩
    obtain ⟨pb, po, rfl, hc0, hp0⟩ := hS1 0 t rfl
    rw [Nat.add_zero] at hc0
    have H1 : Hid _ := hb1
    clear hb1 KU hS1
    go_wp2_with fail
    exact bodyPost_ret (v := .tuple #[.int .i64 0, .int .i64 0, .string ⟨#[]⟩, .int .i64 4]) (by simp [results, Try.results31, go_sem]) rfl ⟨rfl, H1.out⟩
theorem readFrame_in {s : ByteArray} (hs : s.size < 140737488351233) {l n : Nat} {t : ByteArray} (h : rdF s = some (l, n, t)) (w : World) : Calls Try.prog 31 #[.string s] w fun e w' => e = .returned (.tuple #[.int .i64 (l : Nat), .int .i64 (n : Nat), .string t, .int .i64 0]) ∧ Below w.heap.size w w' := by
  obtain ⟨h1, h0, ht, -⟩ := rdF_inv h
  have KU : Hid _ := fun w' : World => lunpack_in (k := 1) (rest := 1) hs (by decide) h1 w'
  have ht' : ¬ ((7900 : Int) < (t.size : Int)) := by omega
  have h0' : ((n : Int) == 0) = false := by rw [beq_eq_false_iff_ne]; omega
  clear h hs h0 ht h1
  go_enter Try.func31, Try.ntmps31
  go_wp2_with fail
  refine (KU.out _).mono ?_
  rintro e w1 ⟨a, cap, rfl, hS1, hb1⟩
  obtain ⟨pb, po, rfl, hc0, hp0⟩ := hS1 0 t rfl
  rw [Nat.add_zero] at hc0
  have H1 : Hid _ := hb1
  clear hb1 KU hS1
  go_wp2_with fail
  go_quiet (fail)
  go_wp2_with fail
  exact bodyPost_ret (v := .tuple #[.int .i64 (l : Nat), .int .i64 (n : Nat), .string t, .int .i64 0]) (by simp [results, Try.results31, go_sem]) rfl ⟨rfl, below_drewN H1.out _⟩

/-- An end that takes, at block g: its sender's life, and how many came. -/
def TakerAt (w : World) (g l c : Nat) : Prop := w.cell? ⟨g, 0, none⟩ = some (.int .i64 (l : Nat)) ∧ w.cell? ⟨g, 1, none⟩ = some (.int .i64 (c : Nat)) ∧ (∀ o, w.frozen? ⟨g, o, none⟩ = false) ∧ g < w.heap.size
theorem TakerAt.call {w w' : World} {g l c : Nat} (h : TakerAt w g l c) (hb : Below w.heap.size w w') : TakerAt w' g l c :=
  ⟨(hb.cell (p := ⟨g, 0, none⟩) h.2.2.2).trans h.1, (hb.cell (p := ⟨g, 1, none⟩) h.2.2.2).trans h.2.1, fun o => (hb.frozen (p := ⟨g, o, none⟩) h.2.2.2).trans (h.2.2.1 o), Nat.lt_of_lt_of_le h.2.2.2 hb.size⟩
theorem TakerAt.off {w w' : World} {g l c : Nat} {P : Nat → Prop} (h : TakerAt w g l c) (hb : Off P w w') (hg : ¬ P g) : TakerAt w' g l c :=
  ⟨(hb.cell (p := ⟨g, 0, none⟩) hg).trans h.1, (hb.cell (p := ⟨g, 1, none⟩) hg).trans h.2.1, fun o => (hb.frozen (p := ⟨g, o, none⟩) hg).trans (h.2.2.1 o), Nat.lt_of_lt_of_le h.2.2.2 hb.size⟩
theorem TakerAt.drewN {w : World} {g l c n : Nat} (h : TakerAt w g l c) : TakerAt (w.drewN n) g l c := h
theorem TakerAt.set0 {w : World} {g l c v : Nat} (h : TakerAt w g l c) : TakerAt (w.setCell ⟨g, 0, none⟩ (.int .i64 (v : Nat))) g v c :=
  ⟨by rw [World.cell?_setCell_same _ _ _ h.1], by rw [World.cell?_setCell_other _ _ _ _ (by intro c; injection c with _ c2 _; omega)]; exact h.2.1, fun o => by rw [World.frozen?_setCell]; exact h.2.2.1 o, by rw [World.size_setCell]; exact h.2.2.2⟩
theorem TakerAt.set1 {w : World} {g l c v : Nat} (h : TakerAt w g l c) : TakerAt (w.setCell ⟨g, 1, none⟩ (.int .i64 (v : Nat))) g l v :=
  ⟨by rw [World.cell?_setCell_other _ _ _ _ (by intro c; injection c with _ c2 _; omega)]; exact h.1, by rw [World.cell?_setCell_same _ _ _ h.2.1], fun o => by rw [World.frozen?_setCell]; exact h.2.2.1 o, by rw [World.size_setCell]; exact h.2.2.2⟩
/-- What Take answers: the text, whether it is the next one, why not; the life and how many came behind it. -/
def tkR (s : ByteArray) (l c : Nat) : ByteArray × Bool × Int × Nat × Nat := match rdF s with
  | none => (⟨#[]⟩, false, 4, l, c)
  | some (l', n, t) => if l' < l then (⟨#[]⟩, false, 7, l, c)
    else if l < l' then (if n = 1 then (t, true, 0, l', 1) else (⟨#[]⟩, false, 0, l', 0))
    else if n = c + 1 then (t, true, 0, l, c + 1) else (⟨#[]⟩, false, 0, l, c)
def takePost (g : Nat) (r : ByteArray × Bool × Int × Nat × Nat) (w : World) (e : Ending) (w' : World) : Prop :=
  e = .returned (.tuple #[.string r.1, .bool r.2.1, .int .i64 r.2.2.1]) ∧ TakerAt w' g r.2.2.2.1 r.2.2.2.2 ∧ But g (From w.heap.size) w w'
theorem newTaker_any (w : World) : Calls Try.prog 18 #[] w fun e w' => e = .returned (.pointer (some ⟨w.heap.size, 0, none⟩)) ∧ TakerAt w' w.heap.size 0 0 ∧ Below w.heap.size w w' ∧ w'.heap.size = w.heap.size + 1 := by
  go_enter Try.func18, Try.ntmps18
  go_wp2
  go_ret
  refine ⟨rfl, ⟨?_, ?_, fun o => ?_, ?_⟩, below_alloc0 (Below.refl _ _) _, ?_⟩ <;> simp [go_sem]
set_option maxHeartbeats 1000000 in
theorem take_any (g l c : Nat) (hc : c ≤ 1099511627776) (s : ByteArray) (hs : s.size < 140737488351233) (w : World) (hT : TakerAt w g l c) :
    Calls Try.prog 19 #[.pointer (some ⟨g, 0, none⟩), .string s] w fun e w' => takePost g (tkR s l c) w e w' := by
  match h : rdF s with
  | none =>
    have er : tkR s l c = (⟨#[]⟩, false, 4, l, c) := by unfold tkR; rw [h]
    rw [er]
    have KU : Hid _ := fun w' : World => readFrame_no hs h w'
    have HT : Hid (TakerAt w g l c) := hT
    clear h er hs hT
    go_enter Try.func19, Try.ntmps19
    go_wp2_with fail
    refine (KU.out _).mono ?_
    rintro e w1 ⟨rfl, hb1⟩
    have H1 : Hid _ := hb1
    clear hb1 KU
    go_wp2_with fail
    exact bodyPost_ret (v := .tuple #[.string ⟨#[]⟩, .bool false, .int .i64 4]) (by simp [results, Try.results19, go_sem]) rfl ⟨rfl, HT.out.call H1.out, But.of_below H1.out⟩
  | some (l', n, t) =>
    have KU : Hid _ := fun w' : World => readFrame_in hs h w'
    obtain ⟨-, n0, -, -, l2, n2⟩ := rdF_inv h
    have er : tkR s l c = (if l' < l then (⟨#[]⟩, false, 7, l, c) else if l < l' then (if n = 1 then (t, true, 0, l', 1) else (⟨#[]⟩, false, 0, l', 0)) else if n = c + 1 then (t, true, 0, l, c + 1) else (⟨#[]⟩, false, 0, l, c)) := by unfold tkR; rw [h]
    rw [er]
    clear h er hs
    by_cases c1 : l' < l
    · rw [if_pos c1]
      have c1' : (l' : Int) < (l : Int) := by omega
      clear n0 l2 n2 c1
      go_enter Try.func19, Try.ntmps19
      go_wp2_with fail
      refine (KU.out _).mono ?_
      rintro e w1 ⟨rfl, hb1⟩
      have hT1 := hT.call hb1
      obtain ⟨t0, t1, tf, tg⟩ := hT1
      have H1 : Hid _ := hb1
      clear hb1 KU
      go_wp2_with fail
      exact bodyPost_ret (v := .tuple #[.string ⟨#[]⟩, .bool false, .int .i64 7]) (by simp [results, Try.results19, go_sem]) rfl ⟨rfl, hT.call H1.out, But.of_below H1.out⟩
    · rw [if_neg c1]
      have c1' : ¬ ((l' : Int) < (l : Int)) := by omega
      by_cases c2 : l < l'
      · rw [if_pos c2]
        have c2' : (l : Int) < (l' : Int) := by omega
        by_cases c3 : n = 1
        · rw [if_pos c3]
          subst c3
          clear n0 l2 n2 c1 c2
          go_enter Try.func19, Try.ntmps19
          go_wp2_with fail
          refine (KU.out _).mono ?_
          rintro e w1 ⟨rfl, hb1⟩
          have hT1 := hT.call hb1
          obtain ⟨t0, t1, tf, tg⟩ := hT1
          have f0 := tf 0
          have f1 := tf 1
          have H1 : Hid _ := hb1
          clear hb1 KU tf
          go_wp2_with fail
          exact bodyPost_ret (v := .tuple #[.string t, .bool true, .int .i64 0]) (by simp [results, Try.results19, go_sem]) rfl ⟨rfl, ((hT.call H1.out).set0.set1 (v := 0)).set1 (v := 1), (((But.of_below H1.out).set _).set _).set _⟩
        · rw [if_neg c3]
          have c3' : ¬ ((n : Int) = 1) := by omega
          clear n0 l2 n2 c1 c2 c3
          go_enter Try.func19, Try.ntmps19
          go_wp2_with fail
          refine (KU.out _).mono ?_
          rintro e w1 ⟨rfl, hb1⟩
          have hT1 := hT.call hb1
          obtain ⟨t0, t1, tf, tg⟩ := hT1
          have f0 := tf 0
          have f1 := tf 1
          have H1 : Hid _ := hb1
          clear hb1 KU tf
          go_wp2_with fail
          exact bodyPost_ret (v := .tuple #[.string ⟨#[]⟩, .bool false, .int .i64 0]) (by simp [results, Try.results19, go_sem]) rfl ⟨rfl, ((hT.call H1.out).set0.set1 (v := 0)), (((But.of_below H1.out).set _).set _)⟩
      · rw [if_neg c2]
        have c2' : ¬ ((l : Int) < (l' : Int)) := by omega
        obtain rfl : l = l' := by omega
        by_cases c3 : n = c + 1
        · rw [if_pos c3]
          have c3' : (n : Int) = (c : Int) + 1 := by omega
          have nb : (n : Int) ≤ 1099511627776 := by omega
          clear n0 l2 n2 c1 c2
          go_enter Try.func19, Try.ntmps19
          go_wp2_with fail
          refine (KU.out _).mono ?_
          rintro e w1 ⟨rfl, hb1⟩
          have hT1 := hT.call hb1
          obtain ⟨t0, t1, tf, tg⟩ := hT1
          have f1 := tf 1
          have H1 : Hid _ := hb1
          clear hb1 KU tf
          go_wp2_with fail
          exact bodyPost_ret (v := .tuple #[.string t, .bool true, .int .i64 0]) (by simp [results, Try.results19, go_sem]) rfl ⟨rfl, by have h := (hT.call H1.out).set1 (v := c + 1); rw [show (((c + 1 : Nat)) : Int) = (c : Int) + 1 from by omega] at h; exact h, (But.of_below H1.out).set _⟩
        · rw [if_neg c3]
          have c3' : ¬ ((n : Int) = (c : Int) + 1) := by omega
          clear n0 l2 n2 c1 c2 c3
          go_enter Try.func19, Try.ntmps19
          go_wp2_with fail
          refine (KU.out _).mono ?_
          rintro e w1 ⟨rfl, hb1⟩
          have hT1 := hT.call hb1
          obtain ⟨t0, t1, tf, tg⟩ := hT1
          have H1 : Hid _ := hb1
          clear hb1 KU tf
          go_wp2_with fail
          exact bodyPost_ret (v := .tuple #[.string ⟨#[]⟩, .bool false, .int .i64 0]) (by simp [results, Try.results19, go_sem]) rfl ⟨rfl, hT.call H1.out, But.of_below H1.out⟩
theorem came_taker (g l c : Nat) (w : World) (hT : TakerAt w g l c) : Calls Try.prog 21 #[.pointer (some ⟨g, 0, none⟩)] w fun e w' => e = .returned (.tuple #[.int .i64 (l : Nat), .int .i64 (c : Nat)]) ∧ Below w.heap.size w w' := by
  obtain ⟨t0, t1, -, -⟩ := hT
  go_enter Try.func21, Try.ntmps21
  go_wp2
  go_quiet (fail)
  go_wp2
  go_ret2
  exact ⟨rfl, below_drewN (Below.refl _ _) _⟩
/-- The ack of an end. -/
def akS (l c : Nat) : ByteArray := if l = 0 then ⟨#[]⟩ else letS 2 l c []
theorem take_nil (s : ByteArray) (hs : s.size < 140737488351233) (w : World) : Calls Try.prog 19 #[.pointer none, .string s] w fun e w' => e = .returned (.tuple #[.string ⟨#[]⟩, .bool false, .int .i64 (if rdF s = none then 4 else 7)]) ∧ Below w.heap.size w w' := by
  match h : rdF s with
  | none =>
    have KU : Hid _ := fun w' : World => readFrame_no hs h w'
    rw [if_pos rfl]
    clear h hs
    go_enter Try.func19, Try.ntmps19
    go_wp2_with fail
    refine (KU.out _).mono ?_
    rintro e w1 ⟨rfl, hb1⟩
    have H1 : Hid _ := hb1
    clear hb1 KU
    go_wp2_with fail
    exact bodyPost_ret (v := .tuple #[.string ⟨#[]⟩, .bool false, .int .i64 4]) (by simp [results, Try.results19, go_sem]) rfl ⟨rfl, H1.out⟩
  | some (l', n, t) =>
    have KU : Hid _ := fun w' : World => readFrame_in hs h w'
    rw [if_neg (by simp)]
    clear h hs
    go_enter Try.func19, Try.ntmps19
    go_wp2_with fail
    refine (KU.out _).mono ?_
    rintro e w1 ⟨rfl, hb1⟩
    have H1 : Hid _ := hb1
    clear hb1 KU
    go_wp2_with fail
    exact bodyPost_ret (v := .tuple #[.string ⟨#[]⟩, .bool false, .int .i64 7]) (by simp [results, Try.results19, go_sem]) rfl ⟨rfl, H1.out⟩
theorem came_nil (w : World) : Calls Try.prog 21 #[.pointer none] w fun e w' => e = .returned (.tuple #[.int .i64 0, .int .i64 0]) ∧ w' = w := by
  go_enter Try.func21, Try.ntmps21
  go_wp2
  go_ret2
  exact ⟨rfl, rfl⟩
theorem ack_nil (w : World) : Calls Try.prog 23 #[.pointer none] w fun e w' => e = .returned (.string ⟨#[]⟩) ∧ w' = w := by
  go_enter Try.func23, Try.ntmps23
  go_wp2
  go_ret
  exact ⟨rfl, rfl⟩
end Go.Proofs.Ytadcjdffjhiniaa
