/- Package link: the ack of an end that takes; an end that sends. -/
import Derived.Test.YtadcjdffjhiniaaLkD
import Derived.Test.YtadcjdffjhiniaaPcC
namespace Go.Proofs.Ytadcjdffjhiniaa
open Go Go.RowKit Go.Lib

set_option maxHeartbeats 1000000 in
theorem ack_any (g l c : Nat) (hl : l ≤ 1099511627776) (hc : c ≤ 1099511627776) (w : World) (hT : TakerAt w g l c) : Calls Try.prog 23 #[.pointer (some ⟨g, 0, none⟩)] w fun e w' => e = .returned (.string (akS l c)) ∧ Below w.heap.size w w' := by
  by_cases h0 : l = 0
  · subst h0
    obtain ⟨t0, t1, -, -⟩ := hT
    go_enter Try.func23, Try.ntmps23
    go_wp2
    go_ret
    exact ⟨rfl, Below.refl _ _⟩
  · have e1 : akS l c = letS 2 l c [] := if_neg h0
    rw [e1]
    have KP : Hid _ := fun w' : World => lpack_nil 2 l c hl hc w'
    obtain ⟨L, hL⟩ : ∃ L, L = letS 2 l c [] := ⟨_, rfl⟩
    rw [← hL] at KP ⊢
    have h0' : ((l : Int) == 0) = false := by rw [beq_eq_false_iff_ne]; omega
    have HT : Hid (TakerAt w g l c) := hT
    have t0 := hT.1
    clear hT hL h0 e1 hl hc
    go_enter Try.func23, Try.ntmps23
    go_wp2_with fail
    clear t0
    refine wp_region_N (fun w' => Below w.heap.size w w') 9 10 rfl (by kernel_rfl) ?_
    refine wpAnyN_take (i := 0) (oi := ?o0) (v := ?v0) ?hi0 (by kernel_rfl) (by kernel_rfl) (by kernel_rfl) (by kernel_rfl) (by decide) (by kernel_rfl) ?hQ0 ?hy0 (Below.drew (Below.refl _ _)) ?more0
    case hi0 => rw [List.getElem?_toArray]; exact rfl
    case hQ0 => exact fun _ _ _ h => h
    case hy0 =>
      refine Or.inl ⟨by rfl, ?_⟩
      intro w' hSw
      obtain ⟨t0, t1, -, -⟩ := HT.out.call hSw
      clear hSw
      go_simp
      try with_reducible rfl
    simp only [Act.put, List.setIfInBounds_toArray, List.set_cons_zero, List.set_cons_succ]
    refine wpAnyN_take (i := 1) (oi := ?o1) (v := ?v1) ?hi1 (by kernel_rfl) (by kernel_rfl) (by kernel_rfl) (by kernel_rfl) (by decide) (by kernel_rfl) ?hQ1 ?hy1 (Below.drew (Below.refl _ _)) ?more1
    case hi1 => rw [List.getElem?_toArray]; exact rfl
    case hQ1 => exact fun _ _ _ h => h
    case hy1 =>
      refine Or.inl ⟨by rfl, ?_⟩
      intro w' hSw
      obtain ⟨t0, t1, -, -⟩ := HT.out.call hSw
      clear hSw
      go_simp
      try with_reducible rfl
    simp only [Act.put, List.setIfInBounds_toArray, List.set_cons_zero, List.set_cons_succ]
    refine wpAnyN_take (i := 2) (oi := ?o2) (v := ?v2) ?hi2 (by kernel_rfl) (by kernel_rfl) (by kernel_rfl) (by kernel_rfl) (by decide) (by kernel_rfl) ?hQ2 ?hy2 (Below.drew (Below.refl _ _)) ?more2
    case hi2 => rw [List.getElem?_toArray]; exact rfl
    case hQ2 => exact fun _ _ _ h => h
    case hy2 =>
      refine Or.inl ⟨by rfl, ?_⟩
      intro w' hSw
      obtain ⟨t0, t1, -, -⟩ := HT.out.call hSw
      clear hSw
      go_simp
      try with_reducible rfl
    simp only [Act.put, List.setIfInBounds_toArray, List.set_cons_zero, List.set_cons_succ]
    refine wpAnyN_take (i := 3) (oi := ?o3) (v := ?v3) ?hi3 (by kernel_rfl) (by kernel_rfl) (by kernel_rfl) (by kernel_rfl) (by decide) (by kernel_rfl) ?hQ3 ?hy3 (Below.drew (Below.refl _ _)) ?more3
    case hi3 => rw [List.getElem?_toArray]; exact rfl
    case hQ3 => exact fun _ _ _ h => h
    case hy3 =>
      refine Or.inl ⟨by rfl, ?_⟩
      intro w' hSw
      obtain ⟨t0, t1, -, -⟩ := HT.out.call hSw
      clear hSw
      go_simp
      try with_reducible rfl
    simp only [Act.put, List.setIfInBounds_toArray, List.set_cons_zero, List.set_cons_succ]
    refine wpAnyN_take (i := 4) (oi := ?o4) (v := ?v4) ?hi4 (by kernel_rfl) (by kernel_rfl) (by kernel_rfl) (by kernel_rfl) (by decide) (by kernel_rfl) ?hQ4 ?hy4 (Below.drew (Below.refl _ _)) ?more4
    case hi4 => rw [List.getElem?_toArray]; exact rfl
    case hQ4 => exact fun _ _ _ h => h
    case hy4 =>
      refine Or.inl ⟨by rfl, ?_⟩
      intro w' hSw
      obtain ⟨t0, t1, -, -⟩ := HT.out.call hSw
      clear hSw
      go_simp
      try with_reducible rfl
    simp only [Act.put, List.setIfInBounds_toArray, List.set_cons_zero, List.set_cons_succ]
    refine wpAnyN_take (i := 5) (oi := ?o5) (v := ?v5) ?hi5 (by kernel_rfl) (by kernel_rfl) (by kernel_rfl) (by kernel_rfl) (by decide) (by kernel_rfl) ?hQ5 ?hy5 (Below.drew (Below.refl _ _)) ?more5
    case hi5 => rw [List.getElem?_toArray]; exact rfl
    case hQ5 => exact fun _ _ _ h => h
    case hy5 =>
      refine Or.inl ⟨by rfl, ?_⟩
      intro w' hSw
      obtain ⟨t0, t1, -, -⟩ := HT.out.call hSw
      clear hSw
      go_simp
      try with_reducible rfl
    simp only [Act.put, List.setIfInBounds_toArray, List.set_cons_zero, List.set_cons_succ]
    refine wpAnyN_take (i := 6) (oi := ?o6) (v := ?v6) ?hi6 (by kernel_rfl) (by kernel_rfl) (by kernel_rfl) (by kernel_rfl) (by decide) (by kernel_rfl) ?hQ6 ?hy6 (Below.drew (Below.refl _ _)) ?more6
    case hi6 => rw [List.getElem?_toArray]; exact rfl
    case hQ6 => exact fun _ _ _ h => h
    case hy6 =>
      refine Or.inl ⟨by rfl, ?_⟩
      intro w' hSw
      obtain ⟨t0, t1, -, -⟩ := HT.out.call hSw
      clear hSw
      go_simp
      try with_reducible rfl
    simp only [Act.put, List.setIfInBounds_toArray, List.set_cons_zero, List.set_cons_succ]
    refine wpAnyN_take (i := 7) (oi := ?o7) (v := ?v7) ?hi7 (by kernel_rfl) (by kernel_rfl) (by kernel_rfl) (by kernel_rfl) (by decide) (by kernel_rfl) ?hQ7 ?hy7 (Below.drew (Below.refl _ _)) ?more7
    case hi7 => rw [List.getElem?_toArray]; exact rfl
    case hQ7 => exact fun _ _ _ h => h
    case hy7 =>
      refine Or.inl ⟨by rfl, ?_⟩
      intro w' hSw
      obtain ⟨t0, t1, -, -⟩ := HT.out.call hSw
      clear hSw
      go_simp
      try with_reducible rfl
    simp only [Act.put, List.setIfInBounds_toArray, List.set_cons_zero, List.set_cons_succ]
    refine wpAnyN_one (i := 8) (o := ?o8) (by kernel_rfl) ?hi8 ?hw8 ?st8
    case hi8 => rw [List.getElem?_toArray]; exact rfl
    case hw8 => exact rfl
    intro K hK
    have HK8 : Hid _ := hK
    clear hK
    go_simp
    refine (KP.out _).mono ?_
    rintro e w8 ⟨rfl, hq⟩
    have H8 : Hid (Below w.heap.size w w8) := below_call0 (Below.drew (Below.refl _ _)) hq
    clear hq
    go_wp2_with fail
    refine HK8.out _ _ ⟨fun _ => H8.out, ?_⟩
    clear HK8 K
    try simp only [Act.put, List.setIfInBounds_toArray, List.set_cons_zero, List.set_cons_succ]
    refine wpAnyN_one (i := 9) (o := ?o9) (by kernel_rfl) ?hi9 ?hw9 ?st9
    case hi9 => rw [List.getElem?_toArray]; exact rfl
    case hw9 => exact rfl
    intro K hK
    have HK9 : Hid _ := hK
    clear hK
    go_simp
    refine HK9.out _ _ ⟨fun h => absurd h (by decide +kernel), ?_⟩
    clear HK9 K
    try simp only [Act.put, List.setIfInBounds_toArray, List.set_cons_zero, List.set_cons_succ]
    refine wpAnyN_done (by kernel_rfl) ?_ _
    go_wp2_with fail
    go_ret
    exact ⟨rfl, H8.out⟩

/-- An end that sends, at block g: its life, the last text's number, the texts that wait; their array a block of F. -/
def SenderAt (w : World) (g : Nat) (F : Nat → Prop) (life last : Nat) (l : List ByteArray) : Prop :=
  ∃ a cap, w.cell? ⟨g, 0, none⟩ = some (.int .i64 (life : Nat)) ∧ w.cell? ⟨g, 1, none⟩ = some (.int .i64 (last : Nat)) ∧ w.cell? ⟨g, 2, none⟩ = some (.slice a l.length cap) ∧ (∀ o, w.frozen? ⟨g, o, none⟩ = false) ∧ ¬ F g ∧ (∀ k, w.heap.size ≤ k → F k) ∧ RowV w F a (l.map Value.string) cap
theorem SenderAt.lt {w : World} {g life last : Nat} {F : Nat → Prop} {l : List ByteArray} (h : SenderAt w g F life last l) : g < w.heap.size := by
  obtain ⟨a, cap, _, _, _, _, hg, hB, _⟩ := h
  exact Nat.lt_of_not_le fun c => hg (hB g c)
theorem SenderAt.drewN {w : World} {g life last n : Nat} {F : Nat → Prop} {l : List ByteArray} (h : SenderAt w g F life last l) : SenderAt (w.drewN n) g F life last l := h
theorem SenderAt.call {w w' : World} {g life last : Nat} {F : Nat → Prop} {l : List ByteArray} (h : SenderAt w g F life last l) (hb : Below w.heap.size w w') : SenderAt w' g F life last l := by
  have hlt := h.lt
  obtain ⟨a, cap, c0, c1, c2, fz, hg, hB, hR⟩ := h
  exact ⟨a, cap, (hb.cell (p := ⟨g, 0, none⟩) hlt).trans c0, (hb.cell (p := ⟨g, 1, none⟩) hlt).trans c1, (hb.cell (p := ⟨g, 2, none⟩) hlt).trans c2, fun o => (hb.frozen (p := ⟨g, o, none⟩) hlt).trans (fz o), hg, fun k hk => hB k (Nat.le_trans hb.size hk), hR.call hb⟩
/-- Behind what turns only blocks of P, none of them the end's. -/
theorem SenderAt.off {w w' : World} {g life last : Nat} {F P : Nat → Prop} {l : List ByteArray} (h : SenderAt w g F life last l) (hb : Off P w w') (hg : ¬ P g) (hF : ∀ k, k < w.heap.size → F k → ¬ P k) : SenderAt w' g F life last l := by
  obtain ⟨a, cap, c0, c1, c2, fz, hg', hB, hR⟩ := h
  exact ⟨a, cap, (hb.cell (p := ⟨g, 0, none⟩) hg).trans c0, (hb.cell (p := ⟨g, 1, none⟩) hg).trans c1, (hb.cell (p := ⟨g, 2, none⟩) hg).trans c2, fun o => (hb.frozen (p := ⟨g, o, none⟩) hg).trans (fz o), hg', fun k hk => hB k (Nat.le_trans hb.size hk), hR.kept hb.size (fun k hk hz => hb.block k (hF k hz hk))⟩
theorem Off.of_but {w w' : World} {g : Nat} {P : Nat → Prop} (h : But g P w w') : Off (fun k => P k ∨ k = g) w w' :=
  ⟨h.os, h.tape, h.output, h.size, fun k hk => h.block k (fun c => hk (.inl c)) (fun c => hk (.inr c))⟩
theorem newSender_in (life : Nat) (hl : 1 ≤ life ∧ life ≤ 1099511627776) (w : World) : Calls Try.prog 8 #[.int .i64 (life : Nat)] w fun e w' => e = .returned (.tuple #[.pointer (some ⟨w.heap.size, 0, none⟩), .int .i64 0]) ∧ SenderAt w' w.heap.size (From (w.heap.size + 1)) life 0 [] ∧ Below w.heap.size w w' ∧ w'.heap.size = w.heap.size + 1 := by
  have KL : Hid _ := fun w' : World => isLife_any (life : Nat) w'
  rw [decide_eq_true (by omega)] at KL
  go_enter Try.func8, Try.ntmps8
  go_wp2_with fail
  refine (KL.out _).mono ?_
  rintro e w1 ⟨rfl, rfl⟩
  go_wp2_with fail
  go_ret2
  refine ⟨rfl, ⟨none, 0, ?_, ?_, ?_, fun o => ?_, not_from (by omega), fun k hk => ?_, RowV.nil _ _⟩, below_alloc0 (Below.refl _ _) _, ?_⟩
  · simp [go_sem]
  · simp [go_sem]
  · simp [go_sem]
  · simp [go_sem]
  · simpa [From] using hk
  · simp [go_sem]
theorem newSender_no (life : Int) (hl : ¬ (1 ≤ life ∧ life ≤ 1099511627776)) (w : World) : Calls Try.prog 8 #[.int .i64 life] w fun e w' => e = .returned (.tuple #[.pointer none, .int .i64 1]) ∧ Below w.heap.size w w' := by
  have KL : Hid _ := fun w' : World => isLife_any life w'
  rw [decide_eq_false hl] at KL
  go_enter Try.func8, Try.ntmps8
  go_wp2_with fail
  refine (KL.out _).mono ?_
  rintro e w1 ⟨rfl, rfl⟩
  go_wp2_with fail
  go_ret2
  exact ⟨rfl, Below.refl _ _⟩
theorem waiting_any (g : Nat) (F : Nat → Prop) (life last : Nat) (l : List ByteArray) (w : World) (hS : SenderAt w g F life last l) : Calls Try.prog 14 #[.pointer (some ⟨g, 0, none⟩)] w fun e w' => e = .returned (.int .i64 (l.length : Nat)) ∧ w' = w := by
  obtain ⟨a, cap, c0, c1, c2, -, -, -, -⟩ := hS
  go_enter Try.func14, Try.ntmps14
  go_wp2
  go_ret
  exact ⟨rfl, rfl⟩
theorem waiting_nil (w : World) : Calls Try.prog 14 #[.pointer none] w fun e w' => e = .returned (.int .i64 0) ∧ w' = w := by
  go_enter Try.func14, Try.ntmps14
  go_wp2
  go_ret
  exact ⟨rfl, rfl⟩
theorem frames_nil (w : World) : Calls Try.prog 16 #[.pointer none] w fun e w' => e = .returned (.slice none 0 0) ∧ w' = w := by
  go_enter Try.func16, Try.ntmps16
  go_wp2
  go_ret
  exact ⟨rfl, rfl⟩
theorem scame_any (g : Nat) (F : Nat → Prop) (life last : Nat) (l : List ByteArray) (hl : l.length ≤ last) (hb : last ≤ 1099511627776) (w : World) (hS : SenderAt w g F life last l) : Calls Try.prog 28 #[.pointer (some ⟨g, 0, none⟩)] w fun e w' => e = .returned (.int .i64 ((last - l.length : Nat) : Int)) ∧ Below w.heap.size w w' := by
  obtain ⟨a, cap, c0, c1, c2, -, -, -, -⟩ := hS
  obtain ⟨n, hn⟩ : ∃ n, n = l.length := ⟨_, rfl⟩
  rw [← hn] at c2 hl ⊢
  have e1 : ((last - n : Nat) : Int) = (last : Int) - (n : Int) := by omega
  have b1 : (n : Int) ≤ (last : Int) := by omega
  have b2 : (last : Int) ≤ 1099511627776 := by omega
  rw [e1]
  clear hn e1 hl hb
  go_enter Try.func28, Try.ntmps28
  go_wp2
  go_quiet (fail)
  go_wp2
  go_ret
  exact ⟨rfl, below_drewN (Below.refl _ _) _⟩
theorem push_long (p : Option Addr) (s : ByteArray) (hs : 7900 < s.size) (w : World) : Calls Try.prog 10 #[.pointer p, .string s] w fun e w' => e = .returned (.tuple #[.int .i64 0, .int .i64 2]) ∧ w' = w := by
  have hs' : (7900 : Int) < (s.size : Int) := by omega
  go_enter Try.func10, Try.ntmps10
  go_wp2
  go_ret2
  exact ⟨rfl, rfl⟩
theorem push_nil (s : ByteArray) (hs : ¬ 7900 < s.size) (w : World) : Calls Try.prog 10 #[.pointer none, .string s] w fun e w' => e = .returned (.tuple #[.int .i64 0, .int .i64 7]) ∧ w' = w := by
  have hs' : ¬ ((7900 : Int) < (s.size : Int)) := by omega
  go_enter Try.func10, Try.ntmps10
  go_wp2
  go_ret2
  exact ⟨rfl, rfl⟩
theorem push_full (g : Nat) (F : Nat → Prop) (life last : Nat) (l : List ByteArray) (s : ByteArray) (hs : ¬ 7900 < s.size) (hf : 64 ≤ l.length) (w : World) (hS : SenderAt w g F life last l) : Calls Try.prog 10 #[.pointer (some ⟨g, 0, none⟩), .string s] w fun e w' => e = .returned (.tuple #[.int .i64 0, .int .i64 5]) ∧ w' = w := by
  obtain ⟨a, cap, c0, c1, c2, -, -, -, -⟩ := hS
  have hs' : ¬ ((7900 : Int) < (s.size : Int)) := by omega
  have hf' : ((64 : Int) ≤ (l.length : Int)) := by omega
  go_enter Try.func10, Try.ntmps10
  go_wp2
  go_ret2
  exact ⟨rfl, rfl⟩
theorem cell_new1 (s : ByteArray) (w : World) (y : TypeId) : ∀ j u, [Value.string s][j]? = some u → (w.alloc (.cells #[.string s] y)).cell? ((⟨w.heap.size, 0, none⟩ : Addr).add j) = some u := fun j u hj => by
  match j, hj with
  | 0, hj => simp at hj; subst hj; simp [go_sem, Addr.add_lit]
  | j + 1, hj => simp at hj
set_option maxHeartbeats 1000000 in
theorem push_ok (g : Nat) (F : Nat → Prop) (life last : Nat) (l : List ByteArray) (s : ByteArray) (hs : ¬ 7900 < s.size) (hf : l.length < 64) (hlast : last < 1099511627776) (w : World) (hS : SenderAt w g F life last l) :
    Calls Try.prog 10 #[.pointer (some ⟨g, 0, none⟩), .string s] w fun e w' => e = .returned (.tuple #[.int .i64 ((last + 1 : Nat) : Int), .int .i64 0]) ∧ SenderAt w' g F life (last + 1) (l ++ [s]) ∧ But g F w w' := by
  obtain ⟨i0, hi, hz0, hz1, hz2⟩ := infoStr
  have hlt := hS.lt
  obtain ⟨a, cap, c0, c1, c2, fz, hg, hB, hR⟩ := hS
  obtain ⟨n, hn⟩ : ∃ n, n = l.length := ⟨_, rfl⟩
  rw [← hn] at c2
  have hs' : ¬ ((7900 : Int) < (s.size : Int)) := by omega
  have hf' : ¬ ((64 : Int) ≤ (n : Int)) := by omega
  have lb : (last : Int) < 1099511627776 := by omega
  have KC : Hid _ := fun w' : World => clone_any s w' (by omega)
  have HH : Hid ((∀ o, w.frozen? ⟨g, o, none⟩ = false) ∧ ¬ F g ∧ (∀ k, w.heap.size ≤ k → F k) ∧ RowV w F a (l.map Value.string) cap ∧ n = l.length ∧ n < 64 ∧ g < w.heap.size) := ⟨fz, hg, hB, hR, hn, by omega, hlt⟩
  have HC : Hid (w.cell? ⟨g, 0, none⟩ = some (.int .i64 (life : Nat)) ∧ w.cell? ⟨g, 1, none⟩ = some (.int .i64 (last : Nat)) ∧ w.cell? ⟨g, 2, none⟩ = some (.slice a n cap)) := ⟨c0, c1, c2⟩
  have hsz : ∀ w, (Go.sizeOf 9).run Try.prog w = .ok 1 w := fun _ => by kernel_rfl
  clear fz hg hB hR hn hlt hs hf hlast c0 c1
  go_enter Try.func10, Try.ntmps10
  go_wp2_with fail
  clear c2
  refine wp_region_N (fun w' => Below w.heap.size w w') 8 12 rfl (by kernel_rfl) ?_
  refine wpAnyN_takeF (i := 0) (oi := ?o0) (v := ?v0) ?hi0 (by kernel_rfl) (by kernel_rfl) (by kernel_rfl) (by decide) ?hQ0 ?hy0 (Below.drew (Below.refl _ _)) ?more0
  case hi0 => rw [List.getElem?_toArray]; exact rfl
  case hQ0 => exact fun _ _ _ h => h
  case hy0 =>
    refine Or.inl ⟨by rfl, ?_⟩
    intro w' hSw
    clear hSw
    go_simp
    try with_reducible rfl
  simp only [Act.put, List.setIfInBounds_toArray, List.set_cons_zero, List.set_cons_succ]
  refine wpAnyN_takeF (i := 1) (oi := ?o1) (v := ?v1) ?hi1 (by kernel_rfl) (by kernel_rfl) (by kernel_rfl) (by decide) ?hQ1 ?hy1 (Below.drew (Below.refl _ _)) ?more1
  case hi1 => rw [List.getElem?_toArray]; exact rfl
  case hQ1 => exact fun _ _ _ h => h
  case hy1 =>
    refine Or.inl ⟨by rfl, ?_⟩
    intro w' hSw
    clear hSw
    go_simp
    try with_reducible rfl
  simp only [Act.put, List.setIfInBounds_toArray, List.set_cons_zero, List.set_cons_succ]
  refine wpAnyN_takeF (i := 2) (oi := ?o2) (v := ?v2) ?hi2 (by kernel_rfl) (by kernel_rfl) (by kernel_rfl) (by decide) ?hQ2 ?hy2 (Below.drew (Below.refl _ _)) ?more2
  case hi2 => rw [List.getElem?_toArray]; exact rfl
  case hQ2 => exact fun _ _ _ h => h
  case hy2 =>
    refine Or.inl ⟨by rfl, ?_⟩
    intro w' hSw
    clear hSw
    go_simp
    try with_reducible rfl
  simp only [Act.put, List.setIfInBounds_toArray, List.set_cons_zero, List.set_cons_succ]
  refine wpAnyN_takeF (i := 3) (oi := ?o3) (v := ?v3) ?hi3 (by kernel_rfl) (by kernel_rfl) (by kernel_rfl) (by decide) ?hQ3 ?hy3 (Below.drew (Below.refl _ _)) ?more3
  case hi3 => rw [List.getElem?_toArray]; exact rfl
  case hQ3 => exact fun _ _ _ h => h
  case hy3 =>
    refine Or.inl ⟨by rfl, ?_⟩
    intro w' hSw
    clear hSw
    go_simp
    try with_reducible rfl
  simp only [Act.put, List.setIfInBounds_toArray, List.set_cons_zero, List.set_cons_succ]
  refine wpAnyN_take (i := 4) (oi := ?o4) (v := ?v4) ?hi4 (by kernel_rfl) (by kernel_rfl) (by kernel_rfl) (by kernel_rfl) (by decide) (by kernel_rfl) ?hQ4 ?hy4 (Below.drew (Below.refl _ _)) ?more4
  case hi4 => rw [List.getElem?_toArray]; exact rfl
  case hQ4 => exact fun _ _ _ h => h
  case hy4 =>
    refine Or.inl ⟨by rfl, ?_⟩
    intro w' hSw
    have c2 := (hSw.cell (p := ⟨g, 2, none⟩) HH.out.2.2.2.2.2.2).trans HC.out.2.2
    clear hSw
    go_simp
    try with_reducible rfl
  simp only [Act.put, List.setIfInBounds_toArray, List.set_cons_zero, List.set_cons_succ]
  refine wpAnyN_takeF (i := 5) (oi := ?o5) (v := ?v5) ?hi5 (by kernel_rfl) (by kernel_rfl) (by kernel_rfl) (by decide) ?hQ5 ?hy5 (Below.drew (Below.refl _ _)) ?more5
  case hi5 => rw [List.getElem?_toArray]; exact rfl
  case hQ5 => exact fun _ _ _ h => h
  case hy5 =>
    refine Or.inl ⟨by rfl, ?_⟩
    intro w' hSw
    clear hSw
    go_simp
    try with_reducible rfl
  simp only [Act.put, List.setIfInBounds_toArray, List.set_cons_zero, List.set_cons_succ]
  refine wpAnyN_one (i := 6) (o := ?o6) (by kernel_rfl) ?hi6 ?hw6 ?st6
  case hi6 => rw [List.getElem?_toArray]; exact rfl
  case hw6 => exact rfl
  intro K hK
  have HK6 : Hid _ := hK
  clear hK
  go_simp
  refine (KC.out _).mono ?_
  rintro e w6 ⟨rfl, hq⟩
  have H6 : Hid (Below w.heap.size w w6) := below_call0 (Below.drew (Below.refl _ _)) hq
  clear hq
  go_wp2_with fail
  refine HK6.out _ _ ⟨fun _ => H6.out, ?_⟩
  clear HK6 K
  try simp only [Act.put, List.setIfInBounds_toArray, List.set_cons_zero, List.set_cons_succ]
  refine wpAnyN_one (i := 7) (o := ?o7) (by kernel_rfl) ?hi7 ?hw7 ?st7
  case hi7 => rw [List.getElem?_toArray]; exact rfl
  case hw7 => exact rfl
  intro K hK
  have HK7 : Hid _ := hK
  clear hK
  go_simp
  refine HK7.out _ _ ⟨fun _ => (below_alloc0 H6.out _), ?_⟩
  clear HK7 K
  try simp only [Act.put, List.setIfInBounds_toArray, List.set_cons_zero, List.set_cons_succ]
  refine wpAnyN_one (i := 8) (o := ?o8) (by kernel_rfl) ?hi8 ?hw8 ?st8
  case hi8 => rw [List.getElem?_toArray]; exact rfl
  case hw8 => exact rfl
  intro K hK
  have HK8 : Hid _ := hK
  clear hK
  have HA : Hid (RowV (w6.alloc (.cells #[.string s] 9)) F a (l.map Value.string) cap ∧ (∀ k, (w6.alloc (.cells #[.string s] 9)).heap.size ≤ k → F k)) := ⟨HH.out.2.2.2.1.call (below_alloc0 H6.out _), fun k hk => HH.out.2.2.1 k (Nat.le_trans (below_alloc0 H6.out (.cells #[.string s] 9)).size hk)⟩
  refine owp_append_RowV _ (.tmp 24) (.tmp 27) 29 rfl F 9 i0 (.string ⟨#[]⟩) 16 Try.underlying29 hi hz0 rfl hz1 hz2 a n cap (l.map Value.string) [.string s] rfl (by rw [List.length_map]; exact HH.out.2.2.2.2.1) HA.out.1 (by rw [List.length_map, ← HH.out.2.2.2.2.1]; have := HH.out.2.2.2.2.2.1; unfold maxLen; simp; omega) (by rw [List.length_map, ← HH.out.2.2.2.2.1]; have := HH.out.2.2.2.2.2.1; simp; omega) HA.out.2 ⟨w6.heap.size, 0, none⟩ 1 1 rfl rfl (cell_new1 s w6 _) (str_one s) ?_
  intro a8 m8 c8 w8 hm8 hR8 hb8
  have H8 : Hid (m8 = n + 1 ∧ RowV w8 F a8 (l.map Value.string ++ [.string s]) c8 ∧ Off F w w8) := ⟨hm8, hR8, (Off.of_below (below_alloc0 H6.out _) HH.out.2.2.1).trans hb8⟩
  clear hm8 hR8 hb8
  have f2 : w8.cell? ⟨g, 2, none⟩ = some (.slice a n cap) := (H8.out.2.2.cell (p := ⟨g, 2, none⟩) HH.out.2.1).trans HC.out.2.2
  have z2 : w8.frozen? ⟨g, 2, none⟩ = false := (H8.out.2.2.frozen (p := ⟨g, 2, none⟩) HH.out.2.1).trans (HH.out.1 2)
  refine HK8.out _ _ ⟨fun h => absurd h (by decide +kernel), ?_⟩
  clear HK8 K
  try simp only [Act.put, List.setIfInBounds_toArray, List.set_cons_zero, List.set_cons_succ]
  refine wpAnyN_one (i := 9) (o := ?o9) (by kernel_rfl) ?hi9 ?hw9 ?st9
  case hi9 => rw [List.getElem?_toArray]; exact rfl
  case hw9 => exact rfl
  intro K hK
  have HK9 : Hid _ := hK
  clear hK
  go_simp
  refine HK9.out _ _ ⟨fun h => absurd h (by decide +kernel), ?_⟩
  clear HK9 K
  try simp only [Act.put, List.setIfInBounds_toArray, List.set_cons_zero, List.set_cons_succ]
  refine wpAnyN_one (i := 10) (o := ?o10) (by kernel_rfl) ?hi10 ?hw10 ?st10
  case hi10 => rw [List.getElem?_toArray]; exact rfl
  case hw10 => exact rfl
  intro K hK
  have HK10 : Hid _ := hK
  clear hK
  go_simp
  refine HK10.out _ _ ⟨fun h => absurd h (by decide +kernel), ?_⟩
  clear HK10 K
  try simp only [Act.put, List.setIfInBounds_toArray, List.set_cons_zero, List.set_cons_succ]
  refine wpAnyN_one (i := 11) (o := ?o11) (by kernel_rfl) ?hi11 ?hw11 ?st11
  case hi11 => rw [List.getElem?_toArray]; exact rfl
  case hw11 => exact rfl
  intro K hK
  have HK11 : Hid _ := hK
  clear hK
  go_simp
  refine HK11.out _ _ ⟨fun h => absurd h (by decide +kernel), ?_⟩
  clear HK11 K
  try simp only [Act.put, List.setIfInBounds_toArray, List.set_cons_zero, List.set_cons_succ]
  refine wpAnyN_done (by kernel_rfl) ?_ _
  have g1 : w8.cell? ⟨g, 1, none⟩ = some (.int .i64 (last : Nat)) := (H8.out.2.2.cell (p := ⟨g, 1, none⟩) HH.out.2.1).trans HC.out.2.1
  have z1 : w8.frozen? ⟨g, 1, none⟩ = false := (H8.out.2.2.frozen (p := ⟨g, 1, none⟩) HH.out.2.1).trans (HH.out.1 1)
  go_wp2_with fail
  go_ret2
  obtain ⟨fz, hg, hB, hR, hn, -, -⟩ := HH.out
  obtain ⟨hm, hR8, hb8⟩ := H8.out
  have e1 : (last : Int) + 1 = ((last + 1 : Nat) : Int) := by omega
  rw [e1]
  refine ⟨rfl, ⟨a8, c8, ?_, ?_, ?_, fun o => ?_, hg, fun k hk => ?_, ?_⟩, ((But.of_off hb8).set _).set _⟩
  · rw [World.cell?_setCell_other _ _ _ _ (by intro c; injection c with _ c2 _; omega), World.cell?_setCell_other _ _ _ _ (by intro c; injection c with _ c2 _; omega)]
    exact (hb8.cell (p := ⟨g, 0, none⟩) hg).trans HC.out.1
  · exact World.cell?_setCell_same _ _ _ (by rw [World.cell?_setCell_other _ _ _ _ (by intro c; injection c with _ c2 _; omega)]; exact g1)
  · rw [World.cell?_setCell_other _ _ _ _ (by intro c; injection c with _ c2 _; omega), World.cell?_setCell_same _ _ _ f2, hm, hn, List.length_append]
    rfl
  · rw [World.frozen?_setCell, World.frozen?_setCell]; exact (hb8.frozen (p := ⟨g, o, none⟩) hg).trans (fz o)
  · rw [World.size_setCell, World.size_setCell] at hk; exact hB k (Nat.le_trans hb8.size hk)
  · rw [List.map_append]; exact (hR8.set hg _).set hg _
end Go.Proofs.Ytadcjdffjhiniaa
