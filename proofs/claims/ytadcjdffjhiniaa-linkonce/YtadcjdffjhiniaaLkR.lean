/- The reference of layer 12: the frames of an end that sends. -/
import Derived.Test.YtadcjdffjhiniaaLkM
namespace Go.Proofs.Ytadcjdffjhiniaa
open Go Go.RowKit Go.Lib

/-- The first j of the frames of texts behind the first so many. -/
def frP (life gone : Nat) (l : List ByteArray) (j : Nat) : List ByteArray := (List.range j).map fun i => letS 1 life (gone + 1 + i) [(l.drop gone).getD i ⟨#[]⟩]
theorem frP_length (life gone : Nat) (l : List ByteArray) (j : Nat) : (frP life gone l j).length = j := by simp [frP]
theorem frP_all (life gone : Nat) (l : List ByteArray) : frP life gone l (min 16 (l.drop gone).length) = frL life gone (l.drop gone) := rfl
theorem frP_succ (life gone : Nat) (l : List ByteArray) (j : Nat) (h : gone + j < l.length) : frP life gone l (j + 1) = frP life gone l j ++ [letS 1 life (gone + j + 1) [l[gone + j]]] := by
  unfold frP
  rw [List.range_succ, List.map_append]
  simp only [List.map_cons, List.map_nil]
  have e : (l.drop gone).getD j ⟨#[]⟩ = l[gone + j] := by simp [List.getD, List.getElem?_drop, List.getElem?_eq_getElem h]
  rw [e, show gone + 1 + j = gone + j + 1 from by omega]
set_option maxRecDepth 100000 in
set_option maxHeartbeats 4000000 in
theorem rframes_any (g : Nat) (F : Nat → Prop) (life gone : Nat) (l : List ByteArray) (hl : l.length ≤ 1000000) (hg1 : gone ≤ l.length) (hlife : life ≤ 1099511627776) (hz : ∀ s ∈ l, s.size ≤ 7900) (w : World) (hS : SenderAt w g F life gone l) :
    Calls Try.prog 17 #[.pointer (some ⟨g, 0, none⟩)] w fun e w' => ∃ a cap, e = .returned (.slice a (min 16 (l.drop gone).length) cap) ∧ Strs w' a (frL life gone (l.drop gone)) ∧ Below w.heap.size w w' := by
  obtain ⟨i0, hi, hz0, hz1, hz2⟩ := infoStr
  have hsz : ∀ w, (Go.sizeOf 9).run Try.prog w = .ok 1 w := fun _ => by kernel_rfl
  have hlt := hS.lt
  obtain ⟨a, cap, c0, c1, c2, fz, hg, hB, hR⟩ := hS
  obtain ⟨n, hn⟩ : ∃ n, n = l.length := ⟨_, rfl⟩
  rw [← hn] at c2 hl hg1
  obtain ⟨c, hc⟩ : ∃ c, c = min 16 (l.drop gone).length := ⟨_, rfl⟩
  have hc' : c = min 16 (n - gone) := by rw [hc, List.length_drop, hn]
  rw [← frP_all, ← hc]
  have HH : Hid (Strs w a l ∧ n = l.length ∧ g < w.heap.size ∧ (∀ s ∈ l, s.size ≤ 7900) ∧ life ≤ 1099511627776 ∧ c = min 16 (n - gone)) := ⟨hR.strs, hn, hlt, hz, hlife, hc'⟩
  have HC : Hid (w.cell? ⟨g, 0, none⟩ = some (.int .i64 (life : Nat)) ∧ w.cell? ⟨g, 1, none⟩ = some (.int .i64 (gone : Nat)) ∧ w.cell? ⟨g, 2, none⟩ = some (.slice a n cap)) := ⟨c0, c1, c2⟩
  have b1 : (n : Int) ≤ 1000000 := by omega
  have b2 : (gone : Int) ≤ (n : Int) := by omega
  clear fz hg hB hR hn hlt hz hlife hc hc' c0 c2 hl hg1
  go_enter Try.func17, Try.ntmps17
  go_wp2_with fail
  rename_i Kr hKr
  have HKr : Hid _ := hKr
  clear hKr c1
  go_loopw [3, 4] (fun ov iv wr => ∃ (j m cp : Nat) (ao : Option Addr), j ≤ c ∧ iv = .int .i64 ((gone + j : Nat) : Int) ∧ ov = .slice ao m cp ∧ m = j ∧ RowV wr (From w.heap.size) ao ((frP life gone l j).map Value.string) cp ∧ Below w.heap.size w wr) (fun _ iv _ => gone + c - (Go.RowKit.intOf iv).toNat)
  case atStart => exact ⟨0, 0, 0, none, Nat.zero_le _, rfl, rfl, rfl, RowV.nil _ _, Below.refl _ _⟩
  case round =>
    obtain ⟨j, m, cp, ao, hj, rfl, rfl, rfl, hR, hB⟩ := hrel
    rename World => wr
    have HR : Hid (RowV wr (From w.heap.size) ao ((frP life gone l m).map Value.string) cp ∧ Below w.heap.size w wr) := ⟨hR, hB⟩
    clear hR hB
    obtain ⟨i, hii⟩ : ∃ i, i = gone + m := ⟨_, rfl⟩
    rw [← hii]
    have HI : Hid (i = gone + m) := hii
    have d0 := (HR.out.2.cell (p := ⟨g, 0, none⟩) HH.out.2.2.1).trans HC.out.1
    have d1 := (HR.out.2.cell (p := ⟨g, 1, none⟩) HH.out.2.2.1).trans HC.out.2.1
    have d2 := (HR.out.2.cell (p := ⟨g, 2, none⟩) HH.out.2.2.1).trans HC.out.2.2
    by_cases hlt : m < c
    · clear HKr
      have e1 : (i : Int) < (n : Int) := by have := HH.out.2.2.2.2.2; omega
      have e1' : i < n := by omega
      have e2 : (i : Int) < (gone : Int) + 16 := by have := HH.out.2.2.2.2.2; omega
      have hil : gone + m < l.length := by rw [← HH.out.2.1, ← hii]; exact e1'
      obtain ⟨t, ht⟩ : ∃ t, t = (l[gone + m]'hil) := ⟨_, rfl⟩
      obtain ⟨pb, po, rfl, hcl, hpb⟩ := HH.out.1.get hil
      rw [← ht, ← hii] at hcl
      obtain ⟨T, hT⟩ : ∃ T, T = letS 1 life (i + 1) [t] := ⟨_, rfl⟩
      have hz' : t.size ≤ 7900 := HH.out.2.2.2.1 t (by rw [ht]; exact List.getElem_mem hil)
      have KP : Hid (∀ (w' : World), Calls Try.prog 30 #[.int .i64 (life : Nat), .int .i64 (IntKind.i64.wrap ((i : Int) + 1)), .string t] w' fun e w'' => e = .returned (.string T) ∧ Below w'.heap.size w' w'') := fun w' => by
        have e4 : IntKind.i64.wrap ((i : Int) + 1) = ((i + 1 : Nat) : Int) := by rw [wrapIn _ (by omega)]; omega
        rw [e4, hT]
        exact rframe_any life (i + 1) HH.out.2.2.2.2.1 (by omega) t (by omega) w'
      have HT : Hid ((frP life gone l (m + 1)).map Value.string = (frP life gone l m).map Value.string ++ [.string T]) := by
        rw [frP_succ life gone l m hil, List.map_append, hT, ht, hii]; rfl
      have HD : Hid (w.cell? ⟨pb, po + i, none⟩ = some (.string t) ∧ pb < w.heap.size) := ⟨hcl, hpb⟩
      have ml : m ≤ 16 := by have := HH.out.2.2.2.2.2; omega
      clear ht hcl hpb hT hz' hil hii
      go_wp2_with fail
      clear d0 d1 d2
      refine wp_region_N (fun w' => Below w.heap.size w w') 17 18 rfl (by kernel_rfl) ?_
      refine wpAnyN_take (i := 0) (oi := ?o0) (v := ?v0) ?hi0 (by kernel_rfl) (by kernel_rfl) (by kernel_rfl) (by kernel_rfl) (by decide) (by kernel_rfl) ?hQ0 ?hy0 (Below.drew HR.out.2) ?more0
      case hi0 => rw [List.getElem?_toArray]; exact rfl
      case hQ0 => exact fun _ _ _ h => h
      case hy0 =>
        refine Or.inl ⟨by rfl, ?_⟩
        intro w' hSw
        have d0 := (hSw.cell (p := ⟨g, 0, none⟩) HH.out.2.2.1).trans HC.out.1
        have d2 := (hSw.cell (p := ⟨g, 2, none⟩) HH.out.2.2.1).trans HC.out.2.2
        have dt := (hSw.cell (p := ⟨pb, po + i, none⟩) HD.out.2).trans HD.out.1
        clear hSw
        go_simp
        try with_reducible rfl
      simp only [Act.put, List.setIfInBounds_toArray, List.set_cons_zero, List.set_cons_succ]
      refine wpAnyN_take (i := 1) (oi := ?o1) (v := ?v1) ?hi1 (by kernel_rfl) (by kernel_rfl) (by kernel_rfl) (by kernel_rfl) (by decide) (by kernel_rfl) ?hQ1 ?hy1 (Below.drew HR.out.2) ?more1
      case hi1 => rw [List.getElem?_toArray]; exact rfl
      case hQ1 => exact fun _ _ _ h => h
      case hy1 =>
        refine Or.inl ⟨by rfl, ?_⟩
        intro w' hSw
        have d0 := (hSw.cell (p := ⟨g, 0, none⟩) HH.out.2.2.1).trans HC.out.1
        have d2 := (hSw.cell (p := ⟨g, 2, none⟩) HH.out.2.2.1).trans HC.out.2.2
        have dt := (hSw.cell (p := ⟨pb, po + i, none⟩) HD.out.2).trans HD.out.1
        clear hSw
        go_simp
        try with_reducible rfl
      simp only [Act.put, List.setIfInBounds_toArray, List.set_cons_zero, List.set_cons_succ]
      refine wpAnyN_take (i := 2) (oi := ?o2) (v := ?v2) ?hi2 (by kernel_rfl) (by kernel_rfl) (by kernel_rfl) (by kernel_rfl) (by decide) (by kernel_rfl) ?hQ2 ?hy2 (Below.drew HR.out.2) ?more2
      case hi2 => rw [List.getElem?_toArray]; exact rfl
      case hQ2 => exact fun _ _ _ h => h
      case hy2 =>
        refine Or.inl ⟨by rfl, ?_⟩
        intro w' hSw
        have d0 := (hSw.cell (p := ⟨g, 0, none⟩) HH.out.2.2.1).trans HC.out.1
        have d2 := (hSw.cell (p := ⟨g, 2, none⟩) HH.out.2.2.1).trans HC.out.2.2
        have dt := (hSw.cell (p := ⟨pb, po + i, none⟩) HD.out.2).trans HD.out.1
        clear hSw
        go_simp
        try with_reducible rfl
      simp only [Act.put, List.setIfInBounds_toArray, List.set_cons_zero, List.set_cons_succ]
      refine wpAnyN_take (i := 3) (oi := ?o3) (v := ?v3) ?hi3 (by kernel_rfl) (by kernel_rfl) (by kernel_rfl) (by kernel_rfl) (by decide) (by kernel_rfl) ?hQ3 ?hy3 (Below.drew HR.out.2) ?more3
      case hi3 => rw [List.getElem?_toArray]; exact rfl
      case hQ3 => exact fun _ _ _ h => h
      case hy3 =>
        refine Or.inl ⟨by rfl, ?_⟩
        intro w' hSw
        have d0 := (hSw.cell (p := ⟨g, 0, none⟩) HH.out.2.2.1).trans HC.out.1
        have d2 := (hSw.cell (p := ⟨g, 2, none⟩) HH.out.2.2.1).trans HC.out.2.2
        have dt := (hSw.cell (p := ⟨pb, po + i, none⟩) HD.out.2).trans HD.out.1
        clear hSw
        go_simp
        try with_reducible rfl
      simp only [Act.put, List.setIfInBounds_toArray, List.set_cons_zero, List.set_cons_succ]
      refine wpAnyN_take (i := 4) (oi := ?o4) (v := ?v4) ?hi4 (by kernel_rfl) (by kernel_rfl) (by kernel_rfl) (by kernel_rfl) (by decide) (by kernel_rfl) ?hQ4 ?hy4 (Below.drew HR.out.2) ?more4
      case hi4 => rw [List.getElem?_toArray]; exact rfl
      case hQ4 => exact fun _ _ _ h => h
      case hy4 =>
        refine Or.inl ⟨by rfl, ?_⟩
        intro w' hSw
        have d0 := (hSw.cell (p := ⟨g, 0, none⟩) HH.out.2.2.1).trans HC.out.1
        have d2 := (hSw.cell (p := ⟨g, 2, none⟩) HH.out.2.2.1).trans HC.out.2.2
        have dt := (hSw.cell (p := ⟨pb, po + i, none⟩) HD.out.2).trans HD.out.1
        clear hSw
        go_simp
        try with_reducible rfl
      simp only [Act.put, List.setIfInBounds_toArray, List.set_cons_zero, List.set_cons_succ]
      refine wpAnyN_take (i := 5) (oi := ?o5) (v := ?v5) ?hi5 (by kernel_rfl) (by kernel_rfl) (by kernel_rfl) (by kernel_rfl) (by decide) (by kernel_rfl) ?hQ5 ?hy5 (Below.drew HR.out.2) ?more5
      case hi5 => rw [List.getElem?_toArray]; exact rfl
      case hQ5 => exact fun _ _ _ h => h
      case hy5 =>
        refine Or.inl ⟨by rfl, ?_⟩
        intro w' hSw
        have d0 := (hSw.cell (p := ⟨g, 0, none⟩) HH.out.2.2.1).trans HC.out.1
        have d2 := (hSw.cell (p := ⟨g, 2, none⟩) HH.out.2.2.1).trans HC.out.2.2
        have dt := (hSw.cell (p := ⟨pb, po + i, none⟩) HD.out.2).trans HD.out.1
        clear hSw
        go_simp
        try with_reducible rfl
      simp only [Act.put, List.setIfInBounds_toArray, List.set_cons_zero, List.set_cons_succ]
      refine wpAnyN_take (i := 6) (oi := ?o6) (v := ?v6) ?hi6 (by kernel_rfl) (by kernel_rfl) (by kernel_rfl) (by kernel_rfl) (by decide) (by kernel_rfl) ?hQ6 ?hy6 (Below.drew HR.out.2) ?more6
      case hi6 => rw [List.getElem?_toArray]; exact rfl
      case hQ6 => exact fun _ _ _ h => h
      case hy6 =>
        refine Or.inl ⟨by rfl, ?_⟩
        intro w' hSw
        have d0 := (hSw.cell (p := ⟨g, 0, none⟩) HH.out.2.2.1).trans HC.out.1
        have d2 := (hSw.cell (p := ⟨g, 2, none⟩) HH.out.2.2.1).trans HC.out.2.2
        have dt := (hSw.cell (p := ⟨pb, po + i, none⟩) HD.out.2).trans HD.out.1
        clear hSw
        go_simp
        try with_reducible rfl
      simp only [Act.put, List.setIfInBounds_toArray, List.set_cons_zero, List.set_cons_succ]
      refine wpAnyN_take (i := 7) (oi := ?o7) (v := ?v7) ?hi7 (by kernel_rfl) (by kernel_rfl) (by kernel_rfl) (by kernel_rfl) (by decide) (by kernel_rfl) ?hQ7 ?hy7 (Below.drew HR.out.2) ?more7
      case hi7 => rw [List.getElem?_toArray]; exact rfl
      case hQ7 => exact fun _ _ _ h => h
      case hy7 =>
        refine Or.inl ⟨by rfl, ?_⟩
        intro w' hSw
        have d0 := (hSw.cell (p := ⟨g, 0, none⟩) HH.out.2.2.1).trans HC.out.1
        have d2 := (hSw.cell (p := ⟨g, 2, none⟩) HH.out.2.2.1).trans HC.out.2.2
        have dt := (hSw.cell (p := ⟨pb, po + i, none⟩) HD.out.2).trans HD.out.1
        clear hSw
        go_simp
        try with_reducible rfl
      simp only [Act.put, List.setIfInBounds_toArray, List.set_cons_zero, List.set_cons_succ]
      refine wpAnyN_take (i := 8) (oi := ?o8) (v := ?v8) ?hi8 (by kernel_rfl) (by kernel_rfl) (by kernel_rfl) (by kernel_rfl) (by decide) (by kernel_rfl) ?hQ8 ?hy8 (Below.drew HR.out.2) ?more8
      case hi8 => rw [List.getElem?_toArray]; exact rfl
      case hQ8 => exact fun _ _ _ h => h
      case hy8 =>
        refine Or.inl ⟨by rfl, ?_⟩
        intro w' hSw
        have d0 := (hSw.cell (p := ⟨g, 0, none⟩) HH.out.2.2.1).trans HC.out.1
        have d2 := (hSw.cell (p := ⟨g, 2, none⟩) HH.out.2.2.1).trans HC.out.2.2
        have dt := (hSw.cell (p := ⟨pb, po + i, none⟩) HD.out.2).trans HD.out.1
        clear hSw
        go_simp
        try with_reducible rfl
      simp only [Act.put, List.setIfInBounds_toArray, List.set_cons_zero, List.set_cons_succ]
      refine wpAnyN_take (i := 9) (oi := ?o9) (v := ?v9) ?hi9 (by kernel_rfl) (by kernel_rfl) (by kernel_rfl) (by kernel_rfl) (by decide) (by kernel_rfl) ?hQ9 ?hy9 (Below.drew HR.out.2) ?more9
      case hi9 => rw [List.getElem?_toArray]; exact rfl
      case hQ9 => exact fun _ _ _ h => h
      case hy9 =>
        refine Or.inl ⟨by rfl, ?_⟩
        intro w' hSw
        have d0 := (hSw.cell (p := ⟨g, 0, none⟩) HH.out.2.2.1).trans HC.out.1
        have d2 := (hSw.cell (p := ⟨g, 2, none⟩) HH.out.2.2.1).trans HC.out.2.2
        have dt := (hSw.cell (p := ⟨pb, po + i, none⟩) HD.out.2).trans HD.out.1
        clear hSw
        go_simp
        try with_reducible rfl
      simp only [Act.put, List.setIfInBounds_toArray, List.set_cons_zero, List.set_cons_succ]
      refine wpAnyN_take (i := 10) (oi := ?o10) (v := ?v10) ?hi10 (by kernel_rfl) (by kernel_rfl) (by kernel_rfl) (by kernel_rfl) (by decide) (by kernel_rfl) ?hQ10 ?hy10 (Below.drew HR.out.2) ?more10
      case hi10 => rw [List.getElem?_toArray]; exact rfl
      case hQ10 => exact fun _ _ _ h => h
      case hy10 =>
        refine Or.inl ⟨by rfl, ?_⟩
        intro w' hSw
        have d0 := (hSw.cell (p := ⟨g, 0, none⟩) HH.out.2.2.1).trans HC.out.1
        have d2 := (hSw.cell (p := ⟨g, 2, none⟩) HH.out.2.2.1).trans HC.out.2.2
        have dt := (hSw.cell (p := ⟨pb, po + i, none⟩) HD.out.2).trans HD.out.1
        clear hSw
        go_simp
        try with_reducible rfl
      simp only [Act.put, List.setIfInBounds_toArray, List.set_cons_zero, List.set_cons_succ]
      refine wpAnyN_take (i := 11) (oi := ?o11) (v := ?v11) ?hi11 (by kernel_rfl) (by kernel_rfl) (by kernel_rfl) (by kernel_rfl) (by decide) (by kernel_rfl) ?hQ11 ?hy11 (Below.drew HR.out.2) ?more11
      case hi11 => rw [List.getElem?_toArray]; exact rfl
      case hQ11 => exact fun _ _ _ h => h
      case hy11 =>
        refine Or.inl ⟨by rfl, ?_⟩
        intro w' hSw
        have d0 := (hSw.cell (p := ⟨g, 0, none⟩) HH.out.2.2.1).trans HC.out.1
        have d2 := (hSw.cell (p := ⟨g, 2, none⟩) HH.out.2.2.1).trans HC.out.2.2
        have dt := (hSw.cell (p := ⟨pb, po + i, none⟩) HD.out.2).trans HD.out.1
        clear hSw
        go_simp
        try with_reducible rfl
      simp only [Act.put, List.setIfInBounds_toArray, List.set_cons_zero, List.set_cons_succ]
      refine wpAnyN_take (i := 12) (oi := ?o12) (v := ?v12) ?hi12 (by kernel_rfl) (by kernel_rfl) (by kernel_rfl) (by kernel_rfl) (by decide) (by kernel_rfl) ?hQ12 ?hy12 (Below.drew HR.out.2) ?more12
      case hi12 => rw [List.getElem?_toArray]; exact rfl
      case hQ12 => exact fun _ _ _ h => h
      case hy12 =>
        refine Or.inl ⟨by rfl, ?_⟩
        intro w' hSw
        have d0 := (hSw.cell (p := ⟨g, 0, none⟩) HH.out.2.2.1).trans HC.out.1
        have d2 := (hSw.cell (p := ⟨g, 2, none⟩) HH.out.2.2.1).trans HC.out.2.2
        have dt := (hSw.cell (p := ⟨pb, po + i, none⟩) HD.out.2).trans HD.out.1
        clear hSw
        go_simp
        try with_reducible rfl
      simp only [Act.put, List.setIfInBounds_toArray, List.set_cons_zero, List.set_cons_succ]
      refine wpAnyN_take (i := 13) (oi := ?o13) (v := ?v13) ?hi13 (by kernel_rfl) (by kernel_rfl) (by kernel_rfl) (by kernel_rfl) (by decide) (by kernel_rfl) ?hQ13 ?hy13 (Below.drew HR.out.2) ?more13
      case hi13 => rw [List.getElem?_toArray]; exact rfl
      case hQ13 => exact fun _ _ _ h => h
      case hy13 =>
        refine Or.inl ⟨by rfl, ?_⟩
        intro w' hSw
        have d0 := (hSw.cell (p := ⟨g, 0, none⟩) HH.out.2.2.1).trans HC.out.1
        have d2 := (hSw.cell (p := ⟨g, 2, none⟩) HH.out.2.2.1).trans HC.out.2.2
        have dt := (hSw.cell (p := ⟨pb, po + i, none⟩) HD.out.2).trans HD.out.1
        clear hSw
        go_simp
        try with_reducible rfl
      simp only [Act.put, List.setIfInBounds_toArray, List.set_cons_zero, List.set_cons_succ]
      refine wpAnyN_one (i := 14) (o := ?o14) (by kernel_rfl) ?hi14 ?hw14 ?st14
      case hi14 => rw [List.getElem?_toArray]; exact rfl
      case hw14 => exact rfl
      intro K hK
      have HK14 : Hid _ := hK
      clear hK
      go_simp
      refine (KP.out _).mono ?_
      rintro e w14 ⟨rfl, hq⟩
      have H14 : Hid (Below w.heap.size w w14 ∧ RowV w14 (From w.heap.size) ao ((frP life gone l m).map Value.string) cp) := ⟨below_call0 (Below.drew HR.out.2) hq, (RowV.drew HR.out.1).call hq⟩
      clear hq
      go_wp2_with fail
      refine HK14.out _ _ ⟨fun _ => H14.out.1, ?_⟩
      clear HK14 K
      try simp only [Act.put, List.setIfInBounds_toArray, List.set_cons_zero, List.set_cons_succ]
      refine wpAnyN_one (i := 15) (o := ?o15) (by kernel_rfl) ?hi15 ?hw15 ?st15
      case hi15 => rw [List.getElem?_toArray]; exact rfl
      case hw15 => exact rfl
      intro K hK
      have HK15 : Hid _ := hK
      clear hK
      go_simp
      refine HK15.out _ _ ⟨fun _ => (below_alloc0 H14.out.1 _), ?_⟩
      clear HK15 K
      try simp only [Act.put, List.setIfInBounds_toArray, List.set_cons_zero, List.set_cons_succ]
      refine wpAnyN_one (i := 16) (o := ?o16) (by kernel_rfl) ?hi16 ?hw16 ?st16
      case hi16 => rw [List.getElem?_toArray]; exact rfl
      case hw16 => exact rfl
      intro K hK
      have HK16 : Hid _ := hK
      clear hK
      have HA : Hid (RowV (w14.alloc (.cells #[.string T] 9)) (From w.heap.size) ao ((frP life gone l m).map Value.string) cp ∧ (∀ k, (w14.alloc (.cells #[.string T] 9)).heap.size ≤ k → From w.heap.size k)) := ⟨H14.out.2.call (below_alloc0 (Below.refl _ _) _), fun k hk => Nat.le_trans (below_alloc0 H14.out.1 (.cells #[.string T] 9)).size hk⟩
      refine owp_append_RowV _ (.tmp 27) (.tmp 42) 29 rfl (From w.heap.size) 9 i0 (.string ⟨#[]⟩) 16 Try.underlying29 hi hz0 rfl hz1 hz2 ao m cp _ [.string T] rfl (by rw [List.length_map, frP_length]) HA.out.1 (by rw [List.length_map, frP_length]; unfold maxLen; simp; omega) (by rw [List.length_map, frP_length]; simp; omega) HA.out.2 ⟨w14.heap.size, 0, none⟩ 1 1 rfl rfl (cell_new1 T w14 _) (str_one T) ?_
      intro a8 m8 c8 w8 hm8 hR8 hb8
      have H8 : Hid (m8 = m + 1 ∧ RowV w8 (From w.heap.size) a8 ((frP life gone l (m + 1)).map Value.string) c8 ∧ Below w.heap.size w w8) := ⟨hm8, by rw [HT.out]; exact hR8, (below_alloc0 H14.out.1 _).trans ⟨hb8.os, hb8.tape, hb8.output, hb8.size, fun k hk => hb8.block k (not_from hk)⟩⟩
      clear hm8 hR8 hb8
      refine HK16.out _ _ ⟨fun _ => H8.out.2.2, ?_⟩
      clear HK16 K
      try simp only [Act.put, List.setIfInBounds_toArray, List.set_cons_zero, List.set_cons_succ]
      refine wpAnyN_one (i := 17) (o := ?o17) (by kernel_rfl) ?hi17 ?hw17 ?st17
      case hi17 => rw [List.getElem?_toArray]; exact rfl
      case hw17 => exact rfl
      intro K hK
      have HK17 : Hid _ := hK
      clear hK
      go_simp
      refine HK17.out _ _ ⟨fun h => absurd h (by decide +kernel), ?_⟩
      clear HK17 K
      try simp only [Act.put, List.setIfInBounds_toArray, List.set_cons_zero, List.set_cons_succ]
      refine wpAnyN_done (by kernel_rfl) ?_ _
      go_wp2_with fail
      go_roundw
      case rel => first | exact ⟨m + 1, m8, c8, a8, hlt, by have := HI.out; go_num, rfl, H8.out⟩ | ((repeat apply Exists.intro); exact ⟨⟨m + 1, m8, c8, a8, hlt, by have := HI.out; go_num, rfl, H8.out⟩, rfl⟩)
      case measure => have := HI.out; simp [Go.RowKit.intOf]; omega
    · obtain rfl : m = c := by omega
      have e0 : ¬ ((i : Int) < (n : Int) ∧ (i : Int) < (gone : Int) + 16) := by have := HH.out.2.2.2.2.2; omega
      by_cases e1 : i < n
      · have e2 : ¬ ((i : Int) < (gone : Int) + 16) := by omega
        have e1' : (i : Int) < (n : Int) := by omega
        clear hlt hj e0 hii
        go_wp2_with fail
        refine HKr.out _ _ ?_
        clear HKr
        go_wp2_with fail
        go_ret
        exact ⟨_, _, rfl, HR.out.1.strs, HR.out.2⟩
      · have e1' : ¬ ((i : Int) < (n : Int)) := by omega
        clear hlt hj e0 hii
        go_wp2_with fail
        refine HKr.out _ _ ?_
        clear HKr
        go_wp2_with fail
        go_ret
        exact ⟨_, _, rfl, HR.out.1.strs, HR.out.2⟩
end Go.Proofs.Ytadcjdffjhiniaa
