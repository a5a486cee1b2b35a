/- Package ledger: Read. -/
import Derived.Test.YtdnahobafhelhaaDoorLgU
namespace Go.Proofs.YtdnahobafhelhaaDoor
open Go Go.RowKit Go.Lib Go.Shelf
attribute [local go_sem] Oper.semAt_some

theorem cellnew1 (s : ByteArray) (w : World) (y : TypeId) : ∀ j u, [Value.string s][j]? = some u → (w.alloc (.cells #[.string s] y)).cell? ((⟨w.heap.size, 0, none⟩ : Addr).add j) = some u := fun j u hj => by
  match j, hj with
  | 0, hj => simp at hj; subst hj; simp [go_sem, Addr.add_lit]
  | j + 1, hj => simp at hj
theorem strone (s : ByteArray) : ∀ u ∈ [Value.string s], u.oneCell' = true := fun u hu => by simp at hu; subst hu; rfl
/-- How many bytes records have in a file. -/
def sizesN : List ByteArray → Nat
  | [] => 0
  | r :: xs => r.size + 6 + sizesN xs
theorem sizesN_append (a b : List ByteArray) : sizesN (a ++ b) = sizesN a + sizesN b := by
  induction a with
  | nil => simp [sizesN]
  | cons x xs ih => simp only [List.cons_append, sizesN, ih]; omega
theorem told_sizes {k : Nat} {b : ByteArray} {xs : List ByteArray} (h : Told k b xs) : sizesN xs ≤ b.size ∧ ∀ r ∈ xs, r.size ≤ 9000 := by
  induction h with
  | done => exact ⟨Nat.zero_le _, fun r hr => by simp at hr⟩
  | more h t ih =>
    have hs := firstS_size h
    refine ⟨?_, fun r hr => ?_⟩
    · have := ih.1
      rw [ByteArray.size_extract] at this
      simp only [sizesN]
      omega
    · simp only [List.mem_cons] at hr
      rcases hr with rfl | hr
      · exact hs.2
      · exact ih.2 r hr
theorem sizesN_len (xs : List ByteArray) : 6 * xs.length ≤ sizesN xs := by
  induction xs with
  | nil => simp [sizesN]
  | cons x xs ih => simp only [List.length_cons, sizesN]; omega
/-- What Read has behind so many records: the slice in block A, the sum in block A + 1; the rows' array a block from E on. -/
def RdI (w : World) (A E : Nat) (pre : List ByteArray) (W : World) : Prop :=
  ∃ a cap, W.cell? ⟨A, 0, none⟩ = some (.slice a pre.length cap) ∧ W.cell? ⟨A + 1, 0, none⟩ = some (.int .i64 (sizesN pre : Nat)) ∧ (∀ o, W.frozen? ⟨A, o, none⟩ = false) ∧ (∀ o, W.frozen? ⟨A + 1, o, none⟩ = false) ∧ A + 1 < W.heap.size ∧ RowV W (From E) a (pre.map Value.string) cap ∧ Below w.heap.size w W
theorem RdI.off {w : World} {A E : Nat} {pre : List ByteArray} {W W' : World} {P : Nat → Prop} (h : RdI w A E pre W) (hb : Off P W W') (h1 : ¬ P A) (h2 : ¬ P (A + 1)) (h3 : ∀ k, k < W.heap.size → E ≤ k → ¬ P k) (h4 : ∀ k, k < w.heap.size → ¬ P k) : RdI w A E pre W' := by
  obtain ⟨a, cap, c0, c1, f0, f1, hz, hR, hB⟩ := h
  exact ⟨a, cap, (hb.cell (p := ⟨A, 0, none⟩) h1).trans c0, (hb.cell (p := ⟨A + 1, 0, none⟩) h2).trans c1, fun o => (hb.frozen (p := ⟨A, o, none⟩) h1).trans (f0 o), fun o => (hb.frozen (p := ⟨A + 1, o, none⟩) h2).trans (f1 o), Nat.lt_of_lt_of_le hz hb.size, hR.kept hb.size (fun k hk hz' => hb.block k (h3 k hz' hk)), hB.trans ⟨hb.os, hb.tape, hb.output, hb.size, fun k hk => hb.block k (h4 k hk)⟩⟩
set_option maxRecDepth 20000 in
set_option maxHeartbeats 4000000 in
theorem read_any (b : ByteArray) (hb : b.size ≤ 1099511627776) (xs : List ByteArray) (hx : Told 0 b xs) (w : World) (hG : GlobD w) (hz : 1 < w.heap.size) :
    Calls Tryd.prog 9 #[.string b] w fun e w' => ∃ a cap, e = .returned (.tuple #[.slice a xs.length cap, .int .i64 (sizesN xs : Nat)]) ∧ RowV w' (From w.heap.size) a (xs.map Value.string) cap ∧ Below w.heap.size w w' := by
  obtain ⟨i0, hi, hz0, hz1, hz2⟩ := infoStr
  have hsz : ∀ w, (Go.sizeOf 9).run Tryd.prog w = .ok 1 w := fun _ => by kernel_rfl
  have HTS := told_sizes hx
  obtain ⟨A, hA⟩ : ∃ A, A = w.heap.size := ⟨_, rfl⟩
  have HA : Hid (A = w.heap.size) := hA
  have HG : Hid (GlobD w ∧ 1 < w.heap.size ∧ 0 < w.heap.size) := ⟨hG, hz, hG.2.1⟩
  have HT : Hid (Told 0 b xs ∧ sizesN xs ≤ b.size ∧ (∀ r ∈ xs, r.size ≤ 9000) ∧ b.size ≤ 1099511627776) := ⟨hx, HTS.1, HTS.2, hb⟩
  clear hx hG hz HTS hb hA
  refine (callsIn_wide (n := 3)).1 ?_
  refine callsIn_of_wp_marks Tryd.func9 rfl trivial ?_
  simp only [Tryd.ntmps9, List.size_toArray, List.length_cons, List.length_nil, Nat.reduceAdd, Nat.reduceSub, Array.replicate_succ, Array.replicate_zero, List.push_toArray, List.append_toArray, List.nil_append, List.cons_append]
  gi_wp2_with (refine ⟨trivial, ?_⟩; gi_at_call 24; refine (callsIn_wide.2 (told_box b _)).mono ?_; rintro e w1 ⟨rfl, hw1⟩)
  rw [← hw1, ← HA.out]
  have H1 : Hid (w1.cell? ⟨A, 0, none⟩ = some (.slice none 0 0) ∧ w1.cell? ⟨A + 1, 0, none⟩ = some (.int .i64 0) ∧ w1.cell? ⟨A + 1 + 1, 0, none⟩ = some (.string b) ∧ (∀ o, w1.frozen? ⟨A, o, none⟩ = false) ∧ (∀ o, w1.frozen? ⟨A + 1, o, none⟩ = false) ∧ w1.frozen? ⟨A + 1 + 1, 0, none⟩ = false ∧ w1.heap.size = A + 3 ∧ Below w.heap.size w w1) := by
    rw [hw1, HA.out]
    exact ⟨by simp [go_sem], by simp [go_sem], by simp [go_sem], fun o => by simp [go_sem], fun o => by simp [go_sem], by simp [go_sem], by simp, below_alloc0 (below_alloc0 (below_alloc0 (Below.refl _ _) _) _) _⟩
  clear hw1
  rename_i Kr hKr
  have HKr : Hid _ := hKr
  clear hKr
  refine wpIn_rangeFunc_box (D := A + 3) H1.out.2.2.2.2.2.2.1.symm rfl (by decide) (gf := 33) (lb := #[.pointer (some ⟨A + 1 + 1, 0, none⟩)]) rfl trivial (enters_of Tryd.func33 (by kernel_rfl) rfl) (encs := fun x : ByteArray => #[.string x]) (fun x => rfl) (c := A + 1 + 1) (by omega)
    (told_tells 2 (by decide) (A + 1 + 1) b (by have := HT.out.2.2.2; omega) xs HT.out.1 w1 (HG.out.1.call H1.out.2.2.2.2.2.2.2) (by have := HG.out.2.1; have := H1.out.2.2.2.2.2.2.1; have := HA.out; omega) H1.out.2.2.1 H1.out.2.2.2.2.2.1 (by have := H1.out.2.2.2.2.2.2.1; omega) ⟨by have := HG.out.2.2; have := HA.out; omega, by have := HG.out.2.1; have := HA.out; omega⟩) (Below.refl _ _)
    (fun k => k = A ∨ k = A + 1 ∨ A + 5 ≤ k) (fun k hk => by
      have h1 := HG.out.2.1; have h2 := HG.out.2.2; have h3 := HA.out
      rintro (h | h | h) <;> (rcases hk with rfl | rfl | rfl <;> omega)) (by omega) (by omega)
    (fun pre W => RdI w A (A + 5) pre W) (fun _ _ _ => False)
    (fun s V B hs ho => hs.off ho (by have := hs; obtain ⟨_, _, _, _, _, _, hz, _⟩ := this; omega) (by have := hs; obtain ⟨_, _, _, _, _, _, hz, _⟩ := this; omega) (fun k hk hE => by omega) (fun k hk => by have := HA.out; have := hs; obtain ⟨_, _, _, _, _, _, hz, _⟩ := this; omega)) (fun _ _ _ _ hs _ => hs)
    ⟨none, 0, H1.out.1, H1.out.2.1, H1.out.2.2.2.1, H1.out.2.2.2.2.1, by have := H1.out.2.2.2.2.2.2.1; omega, RowV.nil _ _, H1.out.2.2.2.2.2.2.2⟩
    (fun x => { tmps := #[.string b, undef, .slice none 0 0, .int .i64 0, .pointer (some ⟨A, 0, none⟩), .pointer (some ⟨A + 1, 0, none⟩), .string x, .string b, .func (.func 33) #[] #[.pointer (some ⟨A + 1 + 1, 0, none⟩)], .string x, undef, undef, undef, undef, undef, undef, undef, undef, undef, undef, undef], defers := [] }) ?assign ?body ?done ?stop
  case assign =>
    intro x W K hK
    gi_wp2
    exact hK
  case body =>
    rintro pre x W hpre hI hlt
    obtain ⟨a0, cap, q0, q1, f0, f1, hz, hR, hB⟩ := hI
    have hsum : sizesN (pre ++ [x]) ≤ sizesN xs := by
      obtain ⟨t, rfl⟩ := hpre
      rw [sizesN_append (pre ++ [x]) t]; omega
    have hxz : x.size ≤ 9000 := HT.out.2.2.1 x (by obtain ⟨t, rfl⟩ := hpre; simp)
    have hlen := sizesN_len pre
    rw [sizesN_append] at hsum
    simp only [sizesN] at hsum
    obtain ⟨np, hnp⟩ : ∃ m, m = pre.length := ⟨_, rfl⟩
    obtain ⟨sp, hsp⟩ : ∃ m, m = sizesN pre := ⟨_, rfl⟩
    rw [← hnp] at q0 hlen
    rw [← hsp] at q1 hlen hsum
    have hbb := HT.out.2.2.2
    have hbs := HT.out.2.1
    have HP : Hid (np = pre.length ∧ pre.length ≤ 1099511627776 ∧ sp = sizesN pre) := ⟨hnp, by rw [← hnp]; omega, hsp⟩
    have HB : Hid (W.cell? ⟨A, 0, none⟩ = some (.slice a0 np cap) ∧ W.cell? ⟨A + 1, 0, none⟩ = some (.int .i64 (sp : Nat)) ∧ (∀ o, W.frozen? ⟨A, o, none⟩ = false) ∧ (∀ o, W.frozen? ⟨A + 1, o, none⟩ = false) ∧ A < W.heap.size ∧ RowV W (From (A + 5)) a0 (pre.map Value.string) cap ∧ Below w.heap.size w W ∧ A + 5 ≤ W.heap.size) := ⟨q0, q1, f0, f1, by omega, hR, hB, by omega⟩
    have KC : Hid _ := fun w' : World => clone_any x w' (by omega)
    have KS : Hid _ := fun w' : World => lsize_any x (by omega) w'
    obtain ⟨q6, hq6⟩ : ∃ q6, q6 = x.size + 6 := ⟨_, rfl⟩
    rw [← hq6] at KS
    have HQ : Hid (q6 = x.size + 6) := hq6
    have bq : (q6 : Int) ≤ 9006 := by omega
    have bs : (sp : Int) ≤ 140737488351233 := by omega
    clear q0 q1 f0 f1 hz hR hB hsum hxz hlen hnp hsp hbb hbs hq6 hlt hpre
    gi_wp2
    refine wpIn_region_R (fun w' => Below W.heap.size W w') 4 6 rfl (by kernel_rfl) (by kernel_rfl) (by rintro ⟨a, w, h⟩; exact h) ?_
    refine wpAnyN_take (i := 0) (oi := ?o0a) (v := ?v0a) ?hi0a (by kernel_rfl) (by kernel_rfl) (by kernel_rfl) (by kernel_rfl) (by decide) (by kernel_rfl) ?hQ0a ?hy0a (Below.drew (Below.refl _ _)) ?more0a
    case hi0a => rw [List.getElem?_toArray]; exact rfl
    case hQ0a => exact fun _ _ _ h => h
    case hy0a =>
      refine Or.inl ⟨by rfl, ?_⟩
      intro w' hSw
      have q0 := (hSw.cell (p := ⟨A, 0, none⟩) HB.out.2.2.2.2.1).trans HB.out.1
      clear hSw
      go_simp
      try with_reducible rfl
    simp only [Act.put, List.setIfInBounds_toArray, List.set_cons_zero, List.set_cons_succ]
    refine wpAnyN_takeF (i := 1) (oi := ?o1a) (v := ?v1a) ?hi1a (by kernel_rfl) (by kernel_rfl) (by kernel_rfl) (by decide) ?hQ1a ?hy1a (Below.drew (Below.refl _ _)) ?more1a
    case hi1a => rw [List.getElem?_toArray]; exact rfl
    case hQ1a => exact fun _ _ _ h => h
    case hy1a =>
      refine Or.inl ⟨by rfl, ?_⟩
      intro w' hSw
      clear hSw
      go_simp
      try with_reducible rfl
    simp only [Act.put, List.setIfInBounds_toArray, List.set_cons_zero, List.set_cons_succ]
    refine wpAnyN_one (i := 2) (o := ?o2a) (by kernel_rfl) ?hi2a ?hw2a ?st2a
    case hi2a => rw [List.getElem?_toArray]; exact rfl
    case hw2a => exact rfl
    intro K hK
    have HK2 : Hid _ := hK
    clear hK
    go_simp
    refine (KC.out _).mono ?_
    rintro e w2 ⟨rfl, hq⟩
    have H2 : Hid (Below W.heap.size W w2) := below_call0 (Below.drew (Below.refl _ _)) hq
    clear hq
    go_wp2_with fail
    refine HK2.out _ _ ⟨fun _ => H2.out, ?_⟩
    clear HK2 K
    try simp only [Act.put, List.setIfInBounds_toArray, List.set_cons_zero, List.set_cons_succ]
    refine wpAnyN_one (i := 3) (o := ?o3a) (by kernel_rfl) ?hi3a ?hw3a ?st3a
    case hi3a => rw [List.getElem?_toArray]; exact rfl
    case hw3a => exact rfl
    intro K hK
    have HK3 : Hid _ := hK
    clear hK
    go_simp
    refine HK3.out _ _ ⟨fun _ => (below_alloc0 H2.out _), ?_⟩
    clear HK3 K
    try simp only [Act.put, List.setIfInBounds_toArray, List.set_cons_zero, List.set_cons_succ]
    refine wpAnyN_one (i := 4) (o := ?o4a) (by kernel_rfl) ?hi4a ?hw4a ?st4a
    case hi4a => rw [List.getElem?_toArray]; exact rfl
    case hw4a => exact rfl
    intro K hK
    have HK4 : Hid _ := hK
    clear hK
    have HA2 : Hid (RowV (w2.alloc (.cells #[.string x] 9)) (From (A + 5)) a0 (pre.map Value.string) cap ∧ (∀ k, (w2.alloc (.cells #[.string x] 9)).heap.size ≤ k → From (A + 5) k)) := ⟨HB.out.2.2.2.2.2.1.call (below_alloc0 H2.out _), fun k hk => Nat.le_trans HB.out.2.2.2.2.2.2.2 (Nat.le_trans (below_alloc0 H2.out (.cells #[.string x] 9)).size hk)⟩
    refine owp_append_RowV _ (.tmp 10) (.tmp 13) 23 rfl (From (A + 5)) 9 i0 (.string ⟨#[]⟩) 16 Tryd.underlying23 hi hz0 rfl hz1 hz2 a0 np cap (pre.map Value.string) [.string x] rfl (by rw [List.length_map]; exact HP.out.1) HA2.out.1 (by rw [List.length_map]; have := HP.out.2.1; unfold maxLen; simp; omega) (by rw [List.length_map]; have := HP.out.2.1; simp; omega) HA2.out.2 ⟨w2.heap.size, 0, none⟩ 1 1 rfl rfl (cellnew1 x w2 _) (strone x) ?_
    intro a8 m8 c8 w8 hm8 hR8 hb8
    have H8 : Hid (m8 = np + 1 ∧ RowV w8 (From (A + 5)) a8 (pre.map Value.string ++ [.string x]) c8 ∧ Off (From (A + 5)) W w8) := ⟨hm8, hR8, (Off.of_below (below_alloc0 H2.out _) (fun k hk => Nat.le_trans HB.out.2.2.2.2.2.2.2 hk)).trans hb8⟩
    clear hm8 hR8 hb8
    have q8 : w8.cell? ⟨A, 0, none⟩ = some (.slice a0 np cap) := (H8.out.2.2.cell (p := ⟨A, 0, none⟩) (not_from (by show A < A + 5; omega))).trans HB.out.1
    have z8 : w8.frozen? ⟨A, 0, none⟩ = false := (H8.out.2.2.frozen (p := ⟨A, 0, none⟩) (not_from (by show A < A + 5; omega))).trans (HB.out.2.2.1 0)
    refine HK4.out _ _ ⟨fun h => absurd h (by decide +kernel), ?_⟩
    clear HK4 K
    try simp only [Act.put, List.setIfInBounds_toArray, List.set_cons_zero, List.set_cons_succ]
    refine wpAnyN_one (i := 5) (o := ?o5a) (by kernel_rfl) ?hi5a ?hw5a ?st5a
    case hi5a => rw [List.getElem?_toArray]; exact rfl
    case hw5a => exact rfl
    intro K hK
    have HK5 : Hid _ := hK
    clear hK
    go_simp
    refine HK5.out _ _ ⟨fun h => absurd h (by decide +kernel), ?_⟩
    clear HK5 K
    try simp only [Act.put, List.setIfInBounds_toArray, List.set_cons_zero, List.set_cons_succ]
    refine wpAnyN_done (by kernel_rfl) ?_ _
    obtain ⟨W6, hW6⟩ : ∃ y, y = w8.setCell ⟨A, 0, none⟩ (.slice a8 m8 c8) := ⟨_, rfl⟩
    have H6 : Hid (W6.cell? ⟨A + 1, 0, none⟩ = some (.int .i64 (sp : Nat)) ∧ (∀ o, W6.frozen? ⟨A + 1, o, none⟩ = false) ∧ Off (fun k => k = A ∨ A + 5 ≤ k) W W6 ∧ A + 1 < W6.heap.size ∧ W6.cell? ⟨A, 0, none⟩ = some (.slice a8 m8 c8) ∧ (∀ o, W6.frozen? ⟨A, o, none⟩ = false) ∧ RowV W6 (From (A + 5)) a8 ((pre ++ [x]).map Value.string) c8) := by
      rw [hW6]
      obtain ⟨e1, e2, e3⟩ := H8.out
      obtain ⟨b1, b2, b3, b4, b5, b6, b7, b8⟩ := HB.out
      refine ⟨?_, fun o => ?_, ?_, ?_, World.cell?_setCell_same _ _ _ q8, fun o => ?_, ?_⟩
      · rw [World.cell?_setCell_other _ _ _ _ (by intro k; injection k with k1 _ _; omega)]
        exact (e3.cell (p := ⟨A + 1, 0, none⟩) (not_from (by show A + 1 < A + 5; omega))).trans b2
      · rw [World.frozen?_setCell]; exact (e3.frozen (p := ⟨A + 1, o, none⟩) (not_from (by show A + 1 < A + 5; omega))).trans (b4 o)
      · exact (e3.mono' (fun k hk => .inr hk)).trans (off_set w8 A 0 _ (fun k hk => .inl hk))
      · rw [World.size_setCell]; have := e3.size; omega
      · rw [World.frozen?_setCell]; exact (e3.frozen (p := ⟨A, o, none⟩) (not_from (by show A < A + 5; omega))).trans (b3 o)
      · rw [List.map_append]; exact e2.set (not_from (by omega)) _
    rw [← hW6]
    clear hW6 q8 z8
    gi_wp2
    refine wpIn_region_R (fun w' => Below W6.heap.size W6 w') 4 5 rfl (by kernel_rfl) (by kernel_rfl) (by rintro ⟨a, w, h⟩; exact h) ?_
    refine wpAnyN_take (i := 0) (oi := ?o0b) (v := ?v0b) ?hi0b (by kernel_rfl) (by kernel_rfl) (by kernel_rfl) (by kernel_rfl) (by decide) (by kernel_rfl) ?hQ0b ?hy0b (Below.drew (Below.refl _ _)) ?more0b
    case hi0b => rw [List.getElem?_toArray]; exact rfl
    case hQ0b => exact fun _ _ _ h => h
    case hy0b =>
      refine Or.inl ⟨by rfl, ?_⟩
      intro w' hSw
      have q1 := (hSw.cell (p := ⟨A + 1, 0, none⟩) H6.out.2.2.2.1).trans H6.out.1
      clear hSw
      go_simp
      try with_reducible rfl
    simp only [Act.put, List.setIfInBounds_toArray, List.set_cons_zero, List.set_cons_succ]
    refine wpAnyN_takeF (i := 1) (oi := ?o1b) (v := ?v1b) ?hi1b (by kernel_rfl) (by kernel_rfl) (by kernel_rfl) (by decide) ?hQ1b ?hy1b (Below.drew (Below.refl _ _)) ?more1b
    case hi1b => rw [List.getElem?_toArray]; exact rfl
    case hQ1b => exact fun _ _ _ h => h
    case hy1b =>
      refine Or.inl ⟨by rfl, ?_⟩
      intro w' hSw
      clear hSw
      go_simp
      try with_reducible rfl
    simp only [Act.put, List.setIfInBounds_toArray, List.set_cons_zero, List.set_cons_succ]
    refine wpAnyN_one (i := 2) (o := ?o2b) (by kernel_rfl) ?hi2b ?hw2b ?st2b
    case hi2b => rw [List.getElem?_toArray]; exact rfl
    case hw2b => exact rfl
    intro K hK
    have HK2 : Hid _ := hK
    clear hK
    go_simp
    refine (KS.out _).mono ?_
    rintro e w9 ⟨rfl, hq⟩
    have H9 : Hid (Below W6.heap.size W6 w9) := below_call0 (Below.drew (Below.refl _ _)) hq
    have q9 : w9.cell? ⟨A + 1, 0, none⟩ = some (.int .i64 (sp : Nat)) := (H9.out.cell (p := ⟨A + 1, 0, none⟩) H6.out.2.2.2.1).trans H6.out.1
    have z9 : w9.frozen? ⟨A + 1, 0, none⟩ = false := (H9.out.frozen (p := ⟨A + 1, 0, none⟩) H6.out.2.2.2.1).trans (H6.out.2.1 0)
    clear hq
    go_wp2_with fail
    refine HK2.out _ _ ⟨fun _ => H9.out, ?_⟩
    clear HK2 K
    try simp only [Act.put, List.setIfInBounds_toArray, List.set_cons_zero, List.set_cons_succ]
    refine wpAnyN_takeF (i := 3) (oi := ?o3b) (v := ?v3b) ?hi3b (by kernel_rfl) (by kernel_rfl) (by kernel_rfl) (by decide) ?hQ3b ?hy3b H9.out ?more3b
    case hi3b => rw [List.getElem?_toArray]; exact rfl
    case hQ3b => exact fun _ _ _ h => h
    case hy3b =>
      refine Or.inl ⟨by rfl, ?_⟩
      intro w' hSw
      clear hSw
      go_simp
      try with_reducible rfl
    simp only [Act.put, List.setIfInBounds_toArray, List.set_cons_zero, List.set_cons_succ]
    refine wpAnyN_one (i := 4) (o := ?o4b) (by kernel_rfl) ?hi4b ?hw4b ?st4b
    case hi4b => rw [List.getElem?_toArray]; exact rfl
    case hw4b => exact rfl
    intro K hK
    have HK4 : Hid _ := hK
    clear hK
    go_simp
    refine HK4.out _ _ ⟨fun h => absurd h (by decide +kernel), ?_⟩
    clear HK4 K
    try simp only [Act.put, List.setIfInBounds_toArray, List.set_cons_zero, List.set_cons_succ]
    refine wpAnyN_done (by kernel_rfl) ?_ _
    have e4 : IntKind.i64.wrap ((sp : Int) + (q6 : Int)) = ((sp + q6 : Nat) : Int) := by rw [IntKind.wrap_i64]; omega
    gi_wp2
    rw [e4]
    obtain ⟨c1, c2, c3, c4, c5, c6, c7⟩ := H6.out
    have hb9 := H9.out
    have o9 : Off (fun k => (k = A ∨ k = A + 1 ∨ A + 5 ≤ k) ∨ W.heap.size ≤ k) W (w9.setCell ⟨A + 1, 0, none⟩ (.int .i64 ((sp + q6 : Nat) : Int))) :=
      ((c3.mono' (fun k hk => .inl (hk.elim .inl (fun q => .inr (.inr q))))).trans (Off.of_below hb9 (fun k hk => .inr (Nat.le_trans c3.size hk)))).trans (off_set w9 (A + 1) 0 _ (fun k hk => .inl (.inr (.inl hk))))
    refine ⟨o9, a8, c8, ?_, ?_, fun o => ?_, fun o => ?_, ?_, ?_, ?_⟩
    · rw [World.cell?_setCell_other _ _ _ _ (by intro k; injection k with k1 _ _; omega), (hb9.cell (p := ⟨A, 0, none⟩) (by show A < W6.heap.size; omega)), c5, H8.out.1, HP.out.1, List.length_append]
      rfl
    · rw [World.cell?_setCell_same _ _ _ q9, sizesN_append, HP.out.2.2, HQ.out]
      rfl
    · rw [World.frozen?_setCell]; exact (hb9.frozen (p := ⟨A, o, none⟩) (by show A < W6.heap.size; omega)).trans (c6 o)
    · rw [World.frozen?_setCell]; exact (hb9.frozen (p := ⟨A + 1, o, none⟩) c4).trans (c2 o)
    · rw [World.size_setCell]; exact Nat.lt_of_lt_of_le c4 hb9.size
    · exact (c7.call hb9).set (not_from (by omega)) _
    · exact HB.out.2.2.2.2.2.2.1.trans ⟨o9.os, o9.tape, o9.output, o9.size, fun k hk => o9.block k (by
        have h1 := HA.out; have h2 := HB.out.2.2.2.2.2.2.1.size
        rintro ((h | h | h) | h) <;> omega)⟩
  case done =>
    rintro W ⟨a0, cap, q0, q1, f0, f1, hz, hR, hB⟩ hD
    have HB : Hid (RowV W (From (A + 5)) a0 (xs.map Value.string) cap ∧ Below w.heap.size w W ∧ W.heap[A + 3]? = some (.deferred (some []))) := ⟨hR, hB, hD⟩
    clear hR hB hD f0 f1 hz
    refine HKr.out _ _ ?_
    clear HKr
    gi_wp2
    refine wpIn_wide.2 ?_
    go_quiet (fail)
    gi_wp2
    refine ⟨by simp, .inl ⟨_, _, rfl, run_takeDeferred HB.out.2.2, ?_⟩⟩
    refine ⟨_, results_tmp2 rfl _ _ _, a0, cap, rfl, ?_, ?_⟩
    · have op := Off.put (W.drewN nq) (A + 3) (.deferred none)
      exact ((RowV.drewN (n := nq) HB.out.1).kept op.size (fun k hk _ => op.block k (fun q => by have : A + 5 ≤ k := hk; omega))).mono (fun k _ hk => by
        have h1 : A + 5 ≤ k := hk
        have h2 := HA.out
        show w.heap.size ≤ k
        omega)
    · have op := Off.put (W.drewN nq) (A + 3) (.deferred none)
      exact (below_drewN HB.out.2.1 nq).trans ⟨op.os, op.tape, op.output, op.size, fun k hk => op.block k (fun q => by have := HA.out; omega)⟩
  case stop =>
    rintro id pre W _ h _
    exact h.elim
end Go.Proofs.YtdnahobafhelhaaDoor
