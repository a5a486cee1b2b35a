/- Package link: the frames of an end that sends. -/
import Derived.Test.YtadcjdffjhiniaaLkF
import Derived.Test.YtadcjdffjhiniaaHeldB
namespace Go.Proofs.Ytadcjdffjhiniaa
open Go Go.RowKit Go.Lib

theorem wrapIn (n : Int) (h : -9223372036854775808 ≤ n ∧ n ≤ 9223372036854775807) : IntKind.i64.wrap n = n := by rw [IntKind.wrap_i64]; omega
/-- The frames of the first texts that wait. -/
def frL (life came : Nat) (l : List ByteArray) : List ByteArray := (List.range (min 16 l.length)).map fun i => letS 1 life (came + 1 + i) [l.getD i ⟨#[]⟩]
theorem frL_length (life came : Nat) (l : List ByteArray) : (frL life came l).length = min 16 l.length := by simp [frL]
def Str1 (w : World) (b : Nat) (t : ByteArray) : Prop := w.cell? ⟨b, 0, none⟩ = some (.string t) ∧ b < w.heap.size
theorem Str1.new {W : World} {b : Nat} {t : ByteArray} {y : TypeId} (h : b = W.heap.size) : Str1 (W.alloc (.cells #[.string t] y)) b t := by
  subst h; exact ⟨by simp [go_sem], by simp⟩
theorem Str1.call {W w1 : World} {b : Nat} {t : ByteArray} (h : Str1 W b t) (hb : Below W.heap.size W w1) : Str1 w1 b t := ⟨(hb.cell (p := ⟨b, 0, none⟩) h.2).trans h.1, Nat.lt_of_lt_of_le h.2 hb.size⟩
/-- A row of c texts at block g, the first i of them as f tells. -/
def PartS (w : World) (g c : Nat) (f : Nat → ByteArray) (i : Nat) : Prop :=
  (∀ j, j < i → w.cell? ⟨g, j, none⟩ = some (.string (f j))) ∧ (∀ j, j < c → (w.cell? ⟨g, j, none⟩).isSome = true) ∧ (∀ j, w.frozen? ⟨g, j, none⟩ = false) ∧ g < w.heap.size
theorem PartS.of_owns {w : World} {B g c : Nat} {xs : List Value} {f : Nat → ByteArray} (h : w.ownsRow B 9 1 (.slice (some ⟨g, 0, none⟩) c c) c xs) : PartS w g c f 0 := by
  rcases h.2 with ⟨h1, _⟩ | ⟨g', cap', cur, h1, h2, h3, h4, h5, h6, h7⟩
  · injection h1 with h1; cases h1
  · injection h1 with h1 _ h1c
    injection h1 with h1
    injection h1 with h1
    subst h1
    refine ⟨fun j hj => absurd hj (by omega), fun j hj => ?_, fun j => ?_, (Array.getElem?_eq_some_iff.1 h3).1⟩
    · rw [cell_of_row w g j cur _ (0, 0) h3]
      have hj' : j < cur.size := by omega
      simp [Array.getElem?_eq_getElem hj', Option.isSome]
    · simp [World.frozen?, h3]
theorem PartS.call {w w' : World} {g c i : Nat} {f : Nat → ByteArray} (h : PartS w g c f i) (hb : Below w.heap.size w w') : PartS w' g c f i :=
  ⟨fun j hj => (hb.cell (p := ⟨g, j, none⟩) h.2.2.2).trans (h.1 j hj), fun j hj => by rw [hb.cell (p := ⟨g, j, none⟩) h.2.2.2]; exact h.2.1 j hj, fun j => (hb.frozen (p := ⟨g, j, none⟩) h.2.2.2).trans (h.2.2.1 j), Nat.lt_of_lt_of_le h.2.2.2 hb.size⟩
theorem PartS.set {w : World} {g c i : Nat} {f : Nat → ByteArray} (h : PartS w g c f i) (hi : i < c) : PartS (w.setCell ⟨g, i, none⟩ (.string (f i))) g c f (i + 1) := by
  obtain ⟨h1, h2, h3, h4⟩ := h
  obtain ⟨v0, hv0⟩ := Option.isSome_iff_exists.1 (h2 i hi)
  refine ⟨fun j hj => ?_, fun j hj => ?_, fun j => by rw [World.frozen?_setCell]; exact h3 j, by rw [World.size_setCell]; exact h4⟩
  · by_cases e : j = i
    · subst e; exact World.cell?_setCell_same _ _ _ hv0
    · rw [World.cell?_setCell_other _ _ _ _ (by intro k; injection k with _ k2 _; omega)]; exact h1 j (by omega)
  · by_cases e : j = i
    · subst e; rw [World.cell?_setCell_same _ _ _ hv0]; rfl
    · rw [World.cell?_setCell_other _ _ _ _ (by intro k; injection k with _ k2 _; omega)]; exact h2 j hj
theorem PartS.strs {w : World} {g c : Nat} {life came : Nat} {l : List ByteArray} (h : PartS w g c (fun i => letS 1 life (came + 1 + i) [l.getD i ⟨#[]⟩]) c) (hc : c = min 16 l.length) : Strs w (some ⟨g, 0, none⟩) (frL life came l) := fun j s hj => by
  have hjc : j < c := by rw [hc, ← frL_length life came l]; exact (List.getElem?_eq_some_iff.1 hj).1
  unfold frL at hj
  rw [List.getElem?_map, List.getElem?_range (by rw [← hc]; exact hjc)] at hj
  simp at hj
  subst hj
  exact ⟨g, 0, rfl, by rw [Nat.zero_add]; simpa using h.1 j hjc, h.2.2.2⟩
set_option maxRecDepth 100000 in
set_option maxHeartbeats 4000000 in
theorem frames_any (g : Nat) (F : Nat → Prop) (life last : Nat) (l : List ByteArray) (hl : l.length ≤ last) (hlast : last ≤ 1099511627776) (hlife : life ≤ 1099511627776) (hz : ∀ s ∈ l, s.size ≤ 7900) (w : World) (hS : SenderAt w g F life last l) :
    Calls Try.prog 16 #[.pointer (some ⟨g, 0, none⟩)] w fun e w' => e = .returned (.slice (some ⟨w.heap.size, 0, none⟩) (min 16 l.length) (min 16 l.length)) ∧ Strs w' (some ⟨w.heap.size, 0, none⟩) (frL life (last - l.length) l) ∧ Below w.heap.size w w' := by
  obtain ⟨i0, hi, hz0, hz1, hz2⟩ := infoStr
  have hsz : ∀ w, (Go.sizeOf 9).run Try.prog w = .ok 1 w := fun _ => by kernel_rfl
  have HS : Hid (SenderAt w g F life last l) := hS
  have hlt := hS.lt
  have KC : Hid _ := fun (w' : World) (h : SenderAt w' g F life last l) => scame_any g F life last l hl hlast w' h
  obtain ⟨a, cap, c0, c1, c2, fz, hg, hB, hR⟩ := hS
  have hcap := hR.len
  rw [List.length_map] at hcap
  obtain ⟨n, hn⟩ : ∃ n, n = l.length := ⟨_, rfl⟩
  obtain ⟨C, hC⟩ : ∃ C, C = last - l.length := ⟨_, rfl⟩
  obtain ⟨c, hc⟩ : ∃ c, c = min 16 l.length := ⟨_, rfl⟩
  rw [← hC] at KC ⊢
  rw [← hc]
  rw [← hn] at c2
  have HR : Hid (Strs w a l) := hR.strs
  have HN : Hid (n = l.length ∧ C = last - l.length ∧ c = min 16 l.length ∧ c ≤ n ∧ C + n ≤ 1099511627776 ∧ life ≤ 1099511627776 ∧ (∀ s ∈ l, s.size ≤ 7900)) := ⟨hn, hC, hc, by omega, by omega, hlife, hz⟩
  have HG : Hid (g < w.heap.size ∧ w.cell? ⟨g, 0, none⟩ = some (.int .i64 (life : Nat)) ∧ w.cell? ⟨g, 2, none⟩ = some (.slice a n cap)) := ⟨hlt, c0, c2⟩
  have hmin : min (16 : Int) (n : Int) = (c : Nat) := by omega
  have hc16 : (c : Int) ≤ 16 := by omega
  have hcn : (c : Int) ≤ (n : Int) := by omega
  have hccap : (c : Int) ≤ (cap : Int) := by omega
  have HRn : Hid (RowV w F a (l.map Value.string) cap) := hR
  clear fz hg hB hR hn hC hc hl hlast hlife hz hcap c0 c1 hlt
  rcases Classical.em (a = none) with ha | ha
  · subst ha
    have hl0 : l = [] ∧ cap = 0 := by
      rcases HRn.out with ⟨_, h2, h3⟩ | ⟨b, o, h1, _⟩
      · exact ⟨List.map_eq_nil_iff.1 h2, h3⟩
      · cases h1
    obtain rfl : n = 0 := by rw [HN.out.1, hl0.1]; rfl
    obtain rfl : c = 0 := by have := HN.out.2.2.2.1; omega
    obtain rfl : cap = 0 := hl0.2
    have HL0 : Hid (l = []) := hl0.1
    clear hl0
    go_enter Try.func16, Try.ntmps16
    go_wp2_with (at_make; refine wpList_make_full _ rfl _ _ 29 rfl w.heap.size 9 i0 (.string ⟨#[]⟩) 1 Try.underlying29 hi hz0 hz1 .i64 .i64 ((0 : Nat) : Int) ((0 : Nat) : Int) 0 rfl rfl rfl rfl (by rw [hz2]; omega) (by unfold maxLen; omega) (Nat.le_refl _) ?_; intro w1 ho1 hg1; have H1 : Hid (Below w.heap.size w w1) := (Below.refl _ _).grown hg1 (Nat.le_refl _) (fun k hk => by cases hk); have e2 := (H1.out.cell (p := ⟨g, 2, none⟩) HG.out.1).trans HG.out.2.2; clear ho1 hg1)
    rename_i Kr hKr
    have HKr : Hid _ := hKr
    clear hKr
    go_loopw [24] (fun iv wr => iv = .int .i64 0 ∧ wr = w1) (fun _ _ => 0)
    case atStart => exact ⟨rfl, rfl⟩
    case round =>
      obtain ⟨rfl, rfl⟩ := hrel
      go_wp2_with fail
      refine HKr.out _ _ ?_
      clear HKr
      go_wp2_with fail
      go_ret
      exact ⟨rfl, by rw [HL0.out]; intro j s hj; simp [frL] at hj, H1.out⟩
  · obtain ⟨b, o, rfl⟩ : ∃ b o, a = some ⟨b, o, none⟩ := by
      rcases HRn.out with ⟨h1, _⟩ | ⟨b, o, h1, _⟩
      · exact absurd h1 ha
      · exact ⟨b, o, h1⟩
    clear ha
    obtain ⟨f, hf⟩ : ∃ f : Nat → ByteArray, f = fun i => letS 1 life (C + 1 + i) [l.getD i ⟨#[]⟩] := ⟨_, rfl⟩
    go_enter Try.func16, Try.ntmps16
    go_wp2_with (at_make; refine wpList_make_full _ rfl _ _ 29 rfl w.heap.size 9 i0 (.string ⟨#[]⟩) 1 Try.underlying29 hi hz0 hz1 .i64 .i64 (c : Nat) (c : Nat) c rfl rfl rfl rfl (by rw [hz2]; omega) (by unfold maxLen; omega) (Nat.le_refl _) ?_; intro w1 ho1 hg1; have H1 : Hid (PartS w1 w.heap.size c f 0 ∧ Below w.heap.size w w1) := ⟨PartS.of_owns ho1, (Below.refl _ _).grown hg1 (Nat.le_refl _) (fun k hk => by cases hk)⟩; have e2 := (H1.out.2.cell (p := ⟨g, 2, none⟩) HG.out.1).trans HG.out.2.2; clear ho1 hg1)
    rename_i Kr hKr
    have HKr : Hid _ := hKr
    clear hKr e2 c2 hmin
    go_loopw [24] (fun iv wr => ∃ i : Nat, i ≤ c ∧ iv = .int .i64 (i : Nat) ∧ PartS wr w.heap.size c f i ∧ Below w.heap.size w wr) (fun iv _ => c - (Go.RowKit.intOf iv).toNat)
    case atStart => exact ⟨0, Nat.zero_le _, rfl, H1.out⟩
    case round =>
      obtain ⟨i, hi', rfl, hP, hB⟩ := hrel
      rename World => wr
      have HP : Hid (PartS wr w.heap.size c f i ∧ Below w.heap.size w wr) := ⟨hP, hB⟩
      clear hP hB
      by_cases hlt : i < c
      · clear HKr
        have hlt' : (i : Int) < (c : Int) := Int.ofNat_lt.2 hlt
        have hil : i < l.length := by have := HN.out; omega
        obtain ⟨t, ht⟩ : ∃ t, t = (l[i]'hil) := ⟨_, rfl⟩
        obtain ⟨_, _, he, hcl, hb⟩ := HR.out.get hil
        cases he
        rw [← ht] at hcl
        have e3 : wr.cell? ⟨b, o + i, none⟩ = some (.string t) := (HP.out.2.cell (p := ⟨b, o + i, none⟩) hb).trans hcl
        have ib : (i : Int) ≤ 16 := by omega
        have Cb : (C : Int) ≤ 1099511627776 := by have := HN.out; omega
        obtain ⟨T, hT⟩ : ∃ T, T = f i := ⟨_, rfl⟩
        have KP : Hid (∀ (w' : World) (p : Nat), Str1 w' p t → Calls Try.prog 29 #[.int .i64 1, .int .i64 (life : Nat), .int .i64 (IntKind.i64.wrap (IntKind.i64.wrap ((C : Int) + 1) + (i : Int))), .slice (some ⟨p, 0, none⟩) 1 1] w' fun e w'' => e = .returned (.string T) ∧ Below w'.heap.size w' w'') := fun w' p h => by
          have e4 : IntKind.i64.wrap (IntKind.i64.wrap ((C : Int) + 1) + (i : Int)) = ((C + 1 + i : Nat) : Int) := by rw [wrapIn ((C : Int) + 1) (by omega), wrapIn _ (by omega)]; omega
          have e5 : T = letS 1 life (C + 1 + i) [t] := by rw [hT, hf, ht]; simp [List.getD, List.getElem?_eq_getElem hil]
          rw [e4, e5]
          exact lpack_one 1 life (C + 1 + i) HN.out.2.2.2.2.2.1 (by have := HN.out; omega) t (by have := HN.out.2.2.2.2.2.2 t (by rw [ht]; exact List.getElem_mem hil); omega) p 0 w' h.2 h.1
        have HT : Hid (T = f i) := hT
        have HSr : Hid (SenderAt wr g F life last l) := HS.out.call HP.out.2
        have HGr : Hid (wr.cell? ⟨g, 0, none⟩ = some (.int .i64 (life : Nat)) ∧ g < wr.heap.size) := ⟨(HP.out.2.cell (p := ⟨g, 0, none⟩) HG.out.1).trans HG.out.2.1, HSr.out.lt⟩
        clear ht hcl hb hT hf hil
        go_wp2_with fail
        refine wp_region_N (fun w' => Below wr.heap.size wr w') 15 16 rfl (by kernel_rfl) ?_
        refine wpAnyN_take (i := 0) (oi := ?o0) (v := ?v0) ?hi0 (by kernel_rfl) (by kernel_rfl) (by kernel_rfl) (by kernel_rfl) (by decide) (by kernel_rfl) ?hQ0 ?hy0 (Below.drew (Below.refl _ _)) ?more0
        case hi0 => rw [List.getElem?_toArray]; exact rfl
        case hQ0 => exact fun _ _ _ h => h
        case hy0 =>
          refine Or.inl ⟨by rfl, ?_⟩
          intro w' hSw
          have c0 := (hSw.cell (p := ⟨g, 0, none⟩) HGr.out.2).trans HGr.out.1
          clear hSw
          go_simp
          try with_reducible rfl
        simp only [Act.put, List.setIfInBounds_toArray, List.set_cons_zero, List.set_cons_succ]
        refine wpAnyN_take (i := 1) (oi := ?o1) (v := ?v1) ?hi1 (by kernel_rfl) (by kernel_rfl) (by kernel_rfl) (by kernel_rfl) (by decide) (by kernel_rfl) ?hQ1 ?hy1 (Below.drew (Below.refl _ _)) ?more1
        case hi1 => rw [List.getElem?_toArray]; exact rfl
        case hQ1 => exact fun _ _ _ h => h
        case hy1 =>
          refine Or.inl ⟨by rfl, ?_⟩
          intro w' hSw
          have c0 := (hSw.cell (p := ⟨g, 0, none⟩) HGr.out.2).trans HGr.out.1
          clear hSw
          go_simp
          try with_reducible rfl
        simp only [Act.put, List.setIfInBounds_toArray, List.set_cons_zero, List.set_cons_succ]
        refine wpAnyN_take (i := 2) (oi := ?o2) (v := ?v2) ?hi2 (by kernel_rfl) (by kernel_rfl) (by kernel_rfl) (by kernel_rfl) (by decide) (by kernel_rfl) ?hQ2 ?hy2 (Below.drew (Below.refl _ _)) ?more2
        case hi2 => rw [List.getElem?_toArray]; exact rfl
        case hQ2 => exact fun _ _ _ h => h
        case hy2 =>
          refine Or.inl ⟨by rfl, ?_⟩
          intro w' hSw
          have c0 := (hSw.cell (p := ⟨g, 0, none⟩) HGr.out.2).trans HGr.out.1
          clear hSw
          go_simp
          try with_reducible rfl
        simp only [Act.put, List.setIfInBounds_toArray, List.set_cons_zero, List.set_cons_succ]
        refine wpAnyN_take (i := 3) (oi := ?o3) (v := ?v3) ?hi3 (by kernel_rfl) (by kernel_rfl) (by kernel_rfl) (by kernel_rfl) (by decide) (by kernel_rfl) ?hQ3 ?hy3 (Below.drew (Below.refl _ _)) ?more3
        case hi3 => rw [List.getElem?_toArray]; exact rfl
        case hQ3 => exact fun _ _ _ h => h
        case hy3 =>
          refine Or.inl ⟨by rfl, ?_⟩
          intro w' hSw
          have c0 := (hSw.cell (p := ⟨g, 0, none⟩) HGr.out.2).trans HGr.out.1
          clear hSw
          go_simp
          try with_reducible rfl
        simp only [Act.put, List.setIfInBounds_toArray, List.set_cons_zero, List.set_cons_succ]
        refine wpAnyN_take (i := 4) (oi := ?o4) (v := ?v4) ?hi4 (by kernel_rfl) (by kernel_rfl) (by kernel_rfl) (by kernel_rfl) (by decide) (by kernel_rfl) ?hQ4 ?hy4 (Below.drew (Below.refl _ _)) ?more4
        case hi4 => rw [List.getElem?_toArray]; exact rfl
        case hQ4 => exact fun _ _ _ h => h
        case hy4 =>
          refine Or.inl ⟨by rfl, ?_⟩
          intro w' hSw
          have c0 := (hSw.cell (p := ⟨g, 0, none⟩) HGr.out.2).trans HGr.out.1
          clear hSw
          go_simp
          try with_reducible rfl
        simp only [Act.put, List.setIfInBounds_toArray, List.set_cons_zero, List.set_cons_succ]
        refine wpAnyN_take (i := 5) (oi := ?o5) (v := ?v5) ?hi5 (by kernel_rfl) (by kernel_rfl) (by kernel_rfl) (by kernel_rfl) (by decide) (by kernel_rfl) ?hQ5 ?hy5 (Below.drew (Below.refl _ _)) ?more5
        case hi5 => rw [List.getElem?_toArray]; exact rfl
        case hQ5 => exact fun _ _ _ h => h
        case hy5 =>
          refine Or.inl ⟨by rfl, ?_⟩
          intro w' hSw
          have c0 := (hSw.cell (p := ⟨g, 0, none⟩) HGr.out.2).trans HGr.out.1
          clear hSw
          go_simp
          try with_reducible rfl
        simp only [Act.put, List.setIfInBounds_toArray, List.set_cons_zero, List.set_cons_succ]
        refine wpAnyN_take (i := 6) (oi := ?o6) (v := ?v6) ?hi6 (by kernel_rfl) (by kernel_rfl) (by kernel_rfl) (by kernel_rfl) (by decide) (by kernel_rfl) ?hQ6 ?hy6 (Below.drew (Below.refl _ _)) ?more6
        case hi6 => rw [List.getElem?_toArray]; exact rfl
        case hQ6 => exact fun _ _ _ h => h
        case hy6 =>
          refine Or.inl ⟨by rfl, ?_⟩
          intro w' hSw
          have c0 := (hSw.cell (p := ⟨g, 0, none⟩) HGr.out.2).trans HGr.out.1
          clear hSw
          go_simp
          try with_reducible rfl
        simp only [Act.put, List.setIfInBounds_toArray, List.set_cons_zero, List.set_cons_succ]
        refine wpAnyN_take (i := 9) (oi := ?o9) (v := ?v9) ?hi9 (by kernel_rfl) (by kernel_rfl) (by kernel_rfl) (by kernel_rfl) (by decide) (by kernel_rfl) ?hQ9 ?hy9 (Below.drew (Below.refl _ _)) ?more9
        case hi9 => rw [List.getElem?_toArray]; exact rfl
        case hQ9 => exact fun _ _ _ h => h
        case hy9 =>
          refine Or.inl ⟨by rfl, ?_⟩
          intro w' hSw
          have c0 := (hSw.cell (p := ⟨g, 0, none⟩) HGr.out.2).trans HGr.out.1
          clear hSw
          go_simp
          try with_reducible rfl
        simp only [Act.put, List.setIfInBounds_toArray, List.set_cons_zero, List.set_cons_succ]
        refine wpAnyN_take (i := 11) (oi := ?o11) (v := ?v11) ?hi11 (by kernel_rfl) (by kernel_rfl) (by kernel_rfl) (by kernel_rfl) (by decide) (by kernel_rfl) ?hQ11 ?hy11 (Below.drew (Below.refl _ _)) ?more11
        case hi11 => rw [List.getElem?_toArray]; exact rfl
        case hQ11 => exact fun _ _ _ h => h
        case hy11 =>
          refine Or.inl ⟨by rfl, ?_⟩
          intro w' hSw
          have c0 := (hSw.cell (p := ⟨g, 0, none⟩) HGr.out.2).trans HGr.out.1
          clear hSw
          go_simp
          try with_reducible rfl
        simp only [Act.put, List.setIfInBounds_toArray, List.set_cons_zero, List.set_cons_succ]
        refine wpAnyN_two (i := 7) (j := 12) (o := ?o7x1) (p := ?o12x1) (by kernel_rfl) ?hi7x1 ?hi12x1 ?hw7x1 ?hw12x1 ?st7x1 ?st12x1
        case hi7x1 => rw [List.getElem?_toArray]; exact rfl
        case hw7x1 => exact rfl
        case hi12x1 => rw [List.getElem?_toArray]; exact rfl
        case hw12x1 => exact rfl
        case st7x1 =>
          intro K hK
          have HK7y2 : Hid _ := hK
          clear hK
          go_simp
          refine (KC.out _ (HSr.out.call (Below.drew (Below.refl _ _)))).mono ?_
          rintro e w7y2 ⟨rfl, hq⟩
          have H7y2 : Hid (Below wr.heap.size wr w7y2) := below_call0 (Below.drew (Below.refl _ _)) hq
          clear hq
          go_wp2_with fail
          refine HK7y2.out _ _ ⟨fun _ => H7y2.out, ?_⟩
          clear HK7y2 K
          try simp only [Act.put, List.setIfInBounds_toArray, List.set_cons_zero, List.set_cons_succ]
          refine wpAnyN_takeF (i := 8) (oi := ?o8y2) (v := ?v8y2) ?hi8y2 (by kernel_rfl) (by kernel_rfl) (by kernel_rfl) (by decide) ?hQ8y2 ?hy8y2 H7y2.out ?more8y2
          case hi8y2 => rw [List.getElem?_toArray]; exact rfl
          case hQ8y2 => exact fun _ _ _ h => h
          case hy8y2 =>
            refine Or.inl ⟨by rfl, ?_⟩
            intro w' hSw
            clear hSw
            go_simp
            try with_reducible rfl
          simp only [Act.put, List.setIfInBounds_toArray, List.set_cons_zero, List.set_cons_succ]
          refine wpAnyN_takeF (i := 10) (oi := ?o10y2) (v := ?v10y2) ?hi10y2 (by kernel_rfl) (by kernel_rfl) (by kernel_rfl) (by decide) ?hQ10y2 ?hy10y2 H7y2.out ?more10y2
          case hi10y2 => rw [List.getElem?_toArray]; exact rfl
          case hQ10y2 => exact fun _ _ _ h => h
          case hy10y2 =>
            refine Or.inl ⟨by rfl, ?_⟩
            intro w' hSw
            clear hSw
            go_simp
            try with_reducible rfl
          simp only [Act.put, List.setIfInBounds_toArray, List.set_cons_zero, List.set_cons_succ]
          refine wpAnyN_one (i := 12) (o := ?o12y2) (by kernel_rfl) ?hi12y2 ?hw12y2 ?st12y2
          case hi12y2 => rw [List.getElem?_toArray]; exact rfl
          case hw12y2 => exact rfl
          intro K hK
          have HK12y2 : Hid _ := hK
          clear hK
          go_simp
          refine HK12y2.out _ _ ⟨fun _ => (below_alloc0 H7y2.out _), ?_⟩
          clear HK12y2 K
          try simp only [Act.put, List.setIfInBounds_toArray, List.set_cons_zero, List.set_cons_succ]
          refine wpAnyN_one (i := 13) (o := ?o13y2) (by kernel_rfl) ?hi13y2 ?hw13y2 ?st13y2
          case hi13y2 => rw [List.getElem?_toArray]; exact rfl
          case hw13y2 => exact rfl
          intro K hK
          have HK13y2 : Hid _ := hK
          clear hK
          go_simp
          refine (KP.out _ _ (Str1.new (W := w7y2) rfl)).mono ?_
          rintro e w13y2 ⟨rfl, hq⟩
          have H13y2 : Hid (Below wr.heap.size wr w13y2) := below_call0 (below_alloc0 H7y2.out _) hq
          have P13y2 : Hid (Str1 w13y2 (w7y2.heap.size) t) := Str1.call (Str1.new (W := w7y2) rfl) hq
          clear hq
          go_wp2_with fail
          refine HK13y2.out _ _ ⟨fun _ => H13y2.out, ?_⟩
          clear HK13y2 K
          try simp only [Act.put, List.setIfInBounds_toArray, List.set_cons_zero, List.set_cons_succ]
          refine wpAnyN_takeF (i := 14) (oi := ?o14y2) (v := ?v14y2) ?hi14y2 (by kernel_rfl) (by kernel_rfl) (by kernel_rfl) (by decide) ?hQ14y2 ?hy14y2 H13y2.out ?more14y2
          case hi14y2 => rw [List.getElem?_toArray]; exact rfl
          case hQ14y2 => exact fun _ _ _ h => h
          case hy14y2 =>
            refine Or.inl ⟨by rfl, ?_⟩
            intro w' hSw
            clear hSw
            go_simp
            try with_reducible rfl
          simp only [Act.put, List.setIfInBounds_toArray, List.set_cons_zero, List.set_cons_succ]
          refine wpAnyN_one (i := 15) (o := ?o15y2) (by kernel_rfl) ?hi15y2 ?hw15y2 ?st15y2
          case hi15y2 => rw [List.getElem?_toArray]; exact rfl
          case hw15y2 => exact rfl
          intro K hK
          have HK15y2 : Hid _ := hK
          clear hK
          obtain ⟨v0, hv0⟩ := Option.isSome_iff_exists.1 ((HP.out.1.call H13y2.out).2.1 i hlt)
          have fz := (HP.out.1.call H13y2.out).2.2.1 i
          go_simp
          refine HK15y2.out _ _ ⟨fun h => absurd h (by decide +kernel), ?_⟩
          clear HK15y2 K
          try simp only [Act.put, List.setIfInBounds_toArray, List.set_cons_zero, List.set_cons_succ]
          refine wpAnyN_done (by kernel_rfl) ?_ _
          have HN2 : Hid (PartS (w13y2.setCell ⟨w.heap.size, i, none⟩ (.string T)) w.heap.size c f (i + 1) ∧ Below w.heap.size w (w13y2.setCell ⟨w.heap.size, i, none⟩ (.string T))) := by
            refine ⟨?_, (below_call0 HP.out.2 H13y2.out).setCell (Nat.le_refl _) _⟩
            rw [HT.out]
            exact (HP.out.1.call H13y2.out).set hlt
          clear hv0 fz
          go_wp2_with fail
          go_roundw
          case rel => first | exact ⟨i + 1, hlt, by go_num, HN2.out⟩ | ((repeat apply Exists.intro); exact ⟨⟨i + 1, hlt, by go_num, HN2.out⟩, rfl⟩)
          case measure => simp [Go.RowKit.intOf]; omega
        case st12x1 =>
          intro K hK
          have HK12y3 : Hid _ := hK
          clear hK
          go_simp
          refine HK12y3.out _ _ ⟨fun _ => (below_alloc0 (Below.drew (Below.refl _ _)) _), ?_⟩
          clear HK12y3 K
          try simp only [Act.put, List.setIfInBounds_toArray, List.set_cons_zero, List.set_cons_succ]
          refine wpAnyN_one (i := 7) (o := ?o7y3) (by kernel_rfl) ?hi7y3 ?hw7y3 ?st7y3
          case hi7y3 => rw [List.getElem?_toArray]; exact rfl
          case hw7y3 => exact rfl
          intro K hK
          have HK7y3 : Hid _ := hK
          clear hK
          go_simp
          refine (KC.out _ (HSr.out.call (below_alloc0 (Below.drew (Below.refl _ _)) _))).mono ?_
          rintro e w7y3 ⟨rfl, hq⟩
          have H7y3 : Hid (Below wr.heap.size wr w7y3) := below_call0 (below_alloc0 (Below.drew (Below.refl _ _)) _) hq
          have P7y3 : Hid (Str1 w7y3 (wr.heap.size) t) := Str1.call (Str1.new (W := wr.drew) rfl) hq
          clear hq
          go_wp2_with fail
          refine HK7y3.out _ _ ⟨fun _ => H7y3.out, ?_⟩
          clear HK7y3 K
          try simp only [Act.put, List.setIfInBounds_toArray, List.set_cons_zero, List.set_cons_succ]
          refine wpAnyN_takeF (i := 8) (oi := ?o8y3) (v := ?v8y3) ?hi8y3 (by kernel_rfl) (by kernel_rfl) (by kernel_rfl) (by decide) ?hQ8y3 ?hy8y3 H7y3.out ?more8y3
          case hi8y3 => rw [List.getElem?_toArray]; exact rfl
          case hQ8y3 => exact fun _ _ _ h => h
          case hy8y3 =>
            refine Or.inl ⟨by rfl, ?_⟩
            intro w' hSw
            clear hSw
            go_simp
            try with_reducible rfl
          simp only [Act.put, List.setIfInBounds_toArray, List.set_cons_zero, List.set_cons_succ]
          refine wpAnyN_takeF (i := 10) (oi := ?o10y3) (v := ?v10y3) ?hi10y3 (by kernel_rfl) (by kernel_rfl) (by kernel_rfl) (by decide) ?hQ10y3 ?hy10y3 H7y3.out ?more10y3
          case hi10y3 => rw [List.getElem?_toArray]; exact rfl
          case hQ10y3 => exact fun _ _ _ h => h
          case hy10y3 =>
            refine Or.inl ⟨by rfl, ?_⟩
            intro w' hSw
            clear hSw
            go_simp
            try with_reducible rfl
          simp only [Act.put, List.setIfInBounds_toArray, List.set_cons_zero, List.set_cons_succ]
          refine wpAnyN_one (i := 13) (o := ?o13y3) (by kernel_rfl) ?hi13y3 ?hw13y3 ?st13y3
          case hi13y3 => rw [List.getElem?_toArray]; exact rfl
          case hw13y3 => exact rfl
          intro K hK
          have HK13y3 : Hid _ := hK
          clear hK
          go_simp
          refine (KP.out _ _ P7y3.out).mono ?_
          rintro e w13y3 ⟨rfl, hq⟩
          have H13y3 : Hid (Below wr.heap.size wr w13y3) := below_call0 H7y3.out hq
          have P13y3 : Hid (Str1 w13y3 (wr.heap.size) t) := Str1.call P7y3.out hq
          clear hq
          go_wp2_with fail
          refine HK13y3.out _ _ ⟨fun _ => H13y3.out, ?_⟩
          clear HK13y3 K
          try simp only [Act.put, List.setIfInBounds_toArray, List.set_cons_zero, List.set_cons_succ]
          refine wpAnyN_takeF (i := 14) (oi := ?o14y3) (v := ?v14y3) ?hi14y3 (by kernel_rfl) (by kernel_rfl) (by kernel_rfl) (by decide) ?hQ14y3 ?hy14y3 H13y3.out ?more14y3
          case hi14y3 => rw [List.getElem?_toArray]; exact rfl
          case hQ14y3 => exact fun _ _ _ h => h
          case hy14y3 =>
            refine Or.inl ⟨by rfl, ?_⟩
            intro w' hSw
            clear hSw
            go_simp
            try with_reducible rfl
          simp only [Act.put, List.setIfInBounds_toArray, List.set_cons_zero, List.set_cons_succ]
          refine wpAnyN_one (i := 15) (o := ?o15y3) (by kernel_rfl) ?hi15y3 ?hw15y3 ?st15y3
          case hi15y3 => rw [List.getElem?_toArray]; exact rfl
          case hw15y3 => exact rfl
          intro K hK
          have HK15y3 : Hid _ := hK
          clear hK
          obtain ⟨v0, hv0⟩ := Option.isSome_iff_exists.1 ((HP.out.1.call H13y3.out).2.1 i hlt)
          have fz := (HP.out.1.call H13y3.out).2.2.1 i
          go_simp
          refine HK15y3.out _ _ ⟨fun h => absurd h (by decide +kernel), ?_⟩
          clear HK15y3 K
          try simp only [Act.put, List.setIfInBounds_toArray, List.set_cons_zero, List.set_cons_succ]
          refine wpAnyN_done (by kernel_rfl) ?_ _
          have HN2 : Hid (PartS (w13y3.setCell ⟨w.heap.size, i, none⟩ (.string T)) w.heap.size c f (i + 1) ∧ Below w.heap.size w (w13y3.setCell ⟨w.heap.size, i, none⟩ (.string T))) := by
            refine ⟨?_, (below_call0 HP.out.2 H13y3.out).setCell (Nat.le_refl _) _⟩
            rw [HT.out]
            exact (HP.out.1.call H13y3.out).set hlt
          clear hv0 fz
          go_wp2_with fail
          go_roundw
          case rel => first | exact ⟨i + 1, hlt, by go_num, HN2.out⟩ | ((repeat apply Exists.intro); exact ⟨⟨i + 1, hlt, by go_num, HN2.out⟩, rfl⟩)
          case measure => simp [Go.RowKit.intOf]; omega
      · obtain rfl : i = c := by omega
        have hnl : ¬ ((i : Int) < (i : Int)) := Int.lt_irrefl _
        clear hlt hi'
        go_wp2_with fail
        refine HKr.out _ _ ?_
        clear HKr
        go_wp2_with fail
        go_ret
        refine ⟨rfl, ?_, HP.out.2⟩
        have := HP.out.1
        rw [hf] at this
        exact this.strs HN.out.2.2.1
end Go.Proofs.Ytadcjdffjhiniaa
