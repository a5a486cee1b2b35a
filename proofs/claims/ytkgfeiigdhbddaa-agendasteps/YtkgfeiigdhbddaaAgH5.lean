/- The law AgendaSteps: does. -/
import Derived.Test.YtkgfeiigdhbddaaAgH4
import Derived.Test.YtkgfeiigdhbddaaHeldR
namespace Go.Proofs.Ytkgfeiigdhbddaa
open Go Go.RowKit Go.Lib
set_option maxRecDepth 100000 in
set_option maxHeartbeats 2000000 in
theorem does_in (w0 : World) (B g r b : Nat) (X N M : Int) (s : ByteArray) (w : World) (h : BothB w0 w B g r b) (hb : b < 100000) (hs : s.size < 140737488351233) (hM : M ≤ 9223372036854775807) : Calls Try.prog 9 #[.pointer (some ⟨g, 0, none⟩), .pointer (some ⟨r, 0, none⟩), .agg #[.int .i64 X, .int .i64 N, .int .i64 M, .string s]] w fun e w' => e = .returned (.bool true) ∧ BothB w0 w' B g r (b + 1) := by
  have HE : Hid (BothE w0 (w.alloc (.cells #[.int .i64 X, .int .i64 N, .int .i64 M, .string s] 31)) B g r b w.heap.size) := h.beside _
  have y0 : (w.alloc (.cells #[.int .i64 X, .int .i64 N, .int .i64 M, .string s] 31)).cell? ⟨w.heap.size, 0, none⟩ = some (.int .i64 X) := by rw [World.cell?_alloc_new]; rfl
  have y1 : (w.alloc (.cells #[.int .i64 X, .int .i64 N, .int .i64 M, .string s] 31)).cell? ⟨w.heap.size, 1, none⟩ = some (.int .i64 N) := by rw [World.cell?_alloc_new]; rfl
  have y2 : (w.alloc (.cells #[.int .i64 X, .int .i64 N, .int .i64 M, .string s] 31)).cell? ⟨w.heap.size, 2, none⟩ = some (.int .i64 M) := by rw [World.cell?_alloc_new]; rfl
  have y3 : (w.alloc (.cells #[.int .i64 X, .int .i64 N, .int .i64 M, .string s] 31)).cell? ⟨w.heap.size, 3, none⟩ = some (.string s) := by rw [World.cell?_alloc_new]; rfl
  have HP : Hid (b < 100000 ∧ s.size < 140737488351233 ∧ M ≤ 9223372036854775807) := ⟨hb, hs, hM⟩
  clear h hb hs hM
  have hxc : X = 0 ∨ X = 1 ∨ X = 2 ∨ X = 3 ∨ X = 4 ∨ (¬ X = 0 ∧ ¬ X = 1 ∧ ¬ X = 2 ∧ ¬ X = 3 ∧ ¬ X = 4) := by omega
  rcases hxc with rfl | rfl | rfl | rfl | rfl | ⟨x0, x1, x2, x3, x4⟩
  · obtain ⟨v, c, hC⟩ := put_both w0 B g r b N s (w.alloc (.cells #[.int .i64 0, .int .i64 N, .int .i64 M, .string s] 31)) w.heap.size HE.out HP.out.1 HP.out.2.1
    have q1 : (v == v) = true := by simp
    have q2 : (c == c) = true := by simp
    go_enter Try.func9, Try.ntmps9
    go_wp2_with fail
    refine hC.mono ?_
    rintro e w1 ⟨rfl, hk1, hC2⟩
    have z0 := (World.cell?_of_block (w := (w.alloc (.cells #[.int .i64 0, .int .i64 N, .int .i64 M, .string s] 31))) (a := ⟨w.heap.size, 0, none⟩) hk1).trans y0
    have z1 := (World.cell?_of_block (w := (w.alloc (.cells #[.int .i64 0, .int .i64 N, .int .i64 M, .string s] 31))) (a := ⟨w.heap.size, 1, none⟩) hk1).trans y1
    have z2 := (World.cell?_of_block (w := (w.alloc (.cells #[.int .i64 0, .int .i64 N, .int .i64 M, .string s] 31))) (a := ⟨w.heap.size, 2, none⟩) hk1).trans y2
    have z3 := (World.cell?_of_block (w := (w.alloc (.cells #[.int .i64 0, .int .i64 N, .int .i64 M, .string s] 31))) (a := ⟨w.heap.size, 3, none⟩) hk1).trans y3
    clear hk1 hC
    go_wp2_with fail
    refine hC2.mono ?_
    rintro e w2 ⟨rfl, h2⟩
    have H2 : Hid (BothB w0 w2 B g r (b + 1)) := h2
    clear h2 hC2
    go_wp2_with fail
    go_ret
    exact ⟨by simp, H2.out⟩
  · obtain ⟨v, c, hC⟩ := put_both w0 B g r b N s (w.alloc (.cells #[.int .i64 1, .int .i64 N, .int .i64 M, .string s] 31)) w.heap.size HE.out HP.out.1 HP.out.2.1
    have q1 : (v == v) = true := by simp
    have q2 : (c == c) = true := by simp
    go_enter Try.func9, Try.ntmps9
    go_wp2_with fail
    refine hC.mono ?_
    rintro e w1 ⟨rfl, hk1, hC2⟩
    have z0 := (World.cell?_of_block (w := (w.alloc (.cells #[.int .i64 1, .int .i64 N, .int .i64 M, .string s] 31))) (a := ⟨w.heap.size, 0, none⟩) hk1).trans y0
    have z1 := (World.cell?_of_block (w := (w.alloc (.cells #[.int .i64 1, .int .i64 N, .int .i64 M, .string s] 31))) (a := ⟨w.heap.size, 1, none⟩) hk1).trans y1
    have z2 := (World.cell?_of_block (w := (w.alloc (.cells #[.int .i64 1, .int .i64 N, .int .i64 M, .string s] 31))) (a := ⟨w.heap.size, 2, none⟩) hk1).trans y2
    have z3 := (World.cell?_of_block (w := (w.alloc (.cells #[.int .i64 1, .int .i64 N, .int .i64 M, .string s] 31))) (a := ⟨w.heap.size, 3, none⟩) hk1).trans y3
    clear hk1 hC
    go_wp2_with fail
    refine hC2.mono ?_
    rintro e w2 ⟨rfl, h2⟩
    have H2 : Hid (BothB w0 w2 B g r (b + 1)) := h2
    clear h2 hC2
    go_wp2_with fail
    go_ret
    exact ⟨by simp, H2.out⟩
  · obtain ⟨v, c, hC⟩ := drop_both w0 B g r b M (w.alloc (.cells #[.int .i64 2, .int .i64 N, .int .i64 M, .string s] 31)) w.heap.size HE.out HP.out.2.2
    go_enter Try.func9, Try.ntmps9
    go_wp2_with fail
    refine hC.mono ?_
    rintro e w1 ⟨rfl, hk1, hC2⟩
    have z0 := (World.cell?_of_block (w := (w.alloc (.cells #[.int .i64 2, .int .i64 N, .int .i64 M, .string s] 31))) (a := ⟨w.heap.size, 0, none⟩) hk1).trans y0
    have z1 := (World.cell?_of_block (w := (w.alloc (.cells #[.int .i64 2, .int .i64 N, .int .i64 M, .string s] 31))) (a := ⟨w.heap.size, 1, none⟩) hk1).trans y1
    have z2 := (World.cell?_of_block (w := (w.alloc (.cells #[.int .i64 2, .int .i64 N, .int .i64 M, .string s] 31))) (a := ⟨w.heap.size, 2, none⟩) hk1).trans y2
    have z3 := (World.cell?_of_block (w := (w.alloc (.cells #[.int .i64 2, .int .i64 N, .int .i64 M, .string s] 31))) (a := ⟨w.heap.size, 3, none⟩) hk1).trans y3
    clear hk1 hC
    go_wp2_with fail
    refine hC2.mono ?_
    rintro e w2 ⟨rfl, h2⟩
    have H2 : Hid (BothB w0 w2 B g r (b + 1)) := h2
    clear h2 hC2
    go_wp2_with fail
    go_ret
    exact ⟨by simp, H2.out⟩
  · obtain ⟨c, hC⟩ := move_both w0 B g r b M N (w.alloc (.cells #[.int .i64 3, .int .i64 N, .int .i64 M, .string s] 31)).drew w.heap.size HE.out.drew HP.out.2.2
    go_enter Try.func9, Try.ntmps9
    go_wp2_with fail
    refine wp_region_H (fun w' => w'.cell? ⟨w.heap.size, 1, none⟩ = some (.int .i64 N) ∧ w'.cell? ⟨w.heap.size, 2, none⟩ = some (.int .i64 M)) 14 rfl (by kernel_rfl) ?_
    refine wpAnyH_take (i := 0) (oi := ?o0m) (v := ?v0m) ?hi0m (by kernel_rfl) (by kernel_rfl) (by kernel_rfl) ?hQ0m ?hy0m ⟨y1, y2⟩ ?more0m
    case hi0m => rw [List.getElem?_toArray]; exact rfl
    case hQ0m => exact fun _ _ _ h => h
    case hy0m =>
      refine Or.inl ⟨by rfl, ?_⟩
      intro w' hSw
      have s1 := hSw.1
      have s2 := hSw.2
      clear hSw
      go_simp
      try with_reducible rfl
    simp only [Act.put, List.setIfInBounds_toArray, List.set_cons_zero, List.set_cons_succ]
    refine wpAnyH_take (i := 1) (oi := ?o1m) (v := ?v1m) ?hi1m (by kernel_rfl) (by kernel_rfl) (by kernel_rfl) ?hQ1m ?hy1m ⟨y1, y2⟩ ?more1m
    case hi1m => rw [List.getElem?_toArray]; exact rfl
    case hQ1m => exact fun _ _ _ h => h
    case hy1m =>
      refine Or.inl ⟨by rfl, ?_⟩
      intro w' hSw
      have s1 := hSw.1
      have s2 := hSw.2
      clear hSw
      go_simp
      try with_reducible rfl
    simp only [Act.put, List.setIfInBounds_toArray, List.set_cons_zero, List.set_cons_succ]
    refine wpAnyH_take (i := 2) (oi := ?o2m) (v := ?v2m) ?hi2m (by kernel_rfl) (by kernel_rfl) (by kernel_rfl) ?hQ2m ?hy2m ⟨y1, y2⟩ ?more2m
    case hi2m => rw [List.getElem?_toArray]; exact rfl
    case hQ2m => exact fun _ _ _ h => h
    case hy2m =>
      refine Or.inl ⟨by rfl, ?_⟩
      intro w' hSw
      have s1 := hSw.1
      have s2 := hSw.2
      clear hSw
      go_simp
      try with_reducible rfl
    simp only [Act.put, List.setIfInBounds_toArray, List.set_cons_zero, List.set_cons_succ]
    refine wpAnyH_take (i := 3) (oi := ?o3m) (v := ?v3m) ?hi3m (by kernel_rfl) (by kernel_rfl) (by kernel_rfl) ?hQ3m ?hy3m ⟨y1, y2⟩ ?more3m
    case hi3m => rw [List.getElem?_toArray]; exact rfl
    case hQ3m => exact fun _ _ _ h => h
    case hy3m =>
      refine Or.inl ⟨by rfl, ?_⟩
      intro w' hSw
      have s1 := hSw.1
      have s2 := hSw.2
      clear hSw
      go_simp
      try with_reducible rfl
    simp only [Act.put, List.setIfInBounds_toArray, List.set_cons_zero, List.set_cons_succ]
    refine wpAnyH_take (i := 4) (oi := ?o4m) (v := ?v4m) ?hi4m (by kernel_rfl) (by kernel_rfl) (by kernel_rfl) ?hQ4m ?hy4m ⟨y1, y2⟩ ?more4m
    case hi4m => rw [List.getElem?_toArray]; exact rfl
    case hQ4m => exact fun _ _ _ h => h
    case hy4m =>
      refine Or.inl ⟨by rfl, ?_⟩
      intro w' hSw
      have s1 := hSw.1
      have s2 := hSw.2
      clear hSw
      go_simp
      try with_reducible rfl
    simp only [Act.put, List.setIfInBounds_toArray, List.set_cons_zero, List.set_cons_succ]
    refine wpAnyH_take (i := 6) (oi := ?o6m) (v := ?v6m) ?hi6m (by kernel_rfl) (by kernel_rfl) (by kernel_rfl) ?hQ6m ?hy6m ⟨y1, y2⟩ ?more6m
    case hi6m => rw [List.getElem?_toArray]; exact rfl
    case hQ6m => exact fun _ _ _ h => h
    case hy6m =>
      refine Or.inl ⟨by rfl, ?_⟩
      intro w' hSw
      have s1 := hSw.1
      have s2 := hSw.2
      clear hSw
      go_simp
      try with_reducible rfl
    simp only [Act.put, List.setIfInBounds_toArray, List.set_cons_zero, List.set_cons_succ]
    refine wpAnyH_take (i := 7) (oi := ?o7m) (v := ?v7m) ?hi7m (by kernel_rfl) (by kernel_rfl) (by kernel_rfl) ?hQ7m ?hy7m ⟨y1, y2⟩ ?more7m
    case hi7m => rw [List.getElem?_toArray]; exact rfl
    case hQ7m => exact fun _ _ _ h => h
    case hy7m =>
      refine Or.inl ⟨by rfl, ?_⟩
      intro w' hSw
      have s1 := hSw.1
      have s2 := hSw.2
      clear hSw
      go_simp
      try with_reducible rfl
    simp only [Act.put, List.setIfInBounds_toArray, List.set_cons_zero, List.set_cons_succ]
    refine wpAnyH_take (i := 8) (oi := ?o8m) (v := ?v8m) ?hi8m (by kernel_rfl) (by kernel_rfl) (by kernel_rfl) ?hQ8m ?hy8m ⟨y1, y2⟩ ?more8m
    case hi8m => rw [List.getElem?_toArray]; exact rfl
    case hQ8m => exact fun _ _ _ h => h
    case hy8m =>
      refine Or.inl ⟨by rfl, ?_⟩
      intro w' hSw
      have s1 := hSw.1
      have s2 := hSw.2
      clear hSw
      go_simp
      try with_reducible rfl
    simp only [Act.put, List.setIfInBounds_toArray, List.set_cons_zero, List.set_cons_succ]
    refine wpAnyH_take (i := 9) (oi := ?o9m) (v := ?v9m) ?hi9m (by kernel_rfl) (by kernel_rfl) (by kernel_rfl) ?hQ9m ?hy9m ⟨y1, y2⟩ ?more9m
    case hi9m => rw [List.getElem?_toArray]; exact rfl
    case hQ9m => exact fun _ _ _ h => h
    case hy9m =>
      refine Or.inl ⟨by rfl, ?_⟩
      intro w' hSw
      have s1 := hSw.1
      have s2 := hSw.2
      clear hSw
      go_simp
      try with_reducible rfl
    simp only [Act.put, List.setIfInBounds_toArray, List.set_cons_zero, List.set_cons_succ]
    refine wpAnyH_take (i := 10) (oi := ?o10m) (v := ?v10m) ?hi10m (by kernel_rfl) (by kernel_rfl) (by kernel_rfl) ?hQ10m ?hy10m ⟨y1, y2⟩ ?more10m
    case hi10m => rw [List.getElem?_toArray]; exact rfl
    case hQ10m => exact fun _ _ _ h => h
    case hy10m =>
      refine Or.inl ⟨by rfl, ?_⟩
      intro w' hSw
      have s1 := hSw.1
      have s2 := hSw.2
      clear hSw
      go_simp
      try with_reducible rfl
    simp only [Act.put, List.setIfInBounds_toArray, List.set_cons_zero, List.set_cons_succ]
    refine wpAnyH_one (i := 5) (o := ?o5m) (by kernel_rfl) ?hi5m ?hw5m ?st5m
    case hi5m => rw [List.getElem?_toArray]; exact rfl
    case hw5m => exact rfl
    intro K hK
    have HK5m : Hid _ := hK
    clear hK
    go_simp
    refine hC.mono ?_
    rintro e w1 ⟨rfl, hk1, hC2⟩
    have H1 : Hid (w1.cell? ⟨w.heap.size, 1, none⟩ = some (.int .i64 N) ∧ w1.cell? ⟨w.heap.size, 2, none⟩ = some (.int .i64 M)) := ⟨(World.cell?_of_block (w := (w.alloc (.cells #[.int .i64 3, .int .i64 N, .int .i64 M, .string s] 31)).drew) (a := ⟨w.heap.size, 1, none⟩) hk1).trans y1, (World.cell?_of_block (w := (w.alloc (.cells #[.int .i64 3, .int .i64 N, .int .i64 M, .string s] 31)).drew) (a := ⟨w.heap.size, 2, none⟩) hk1).trans y2⟩
    clear hk1
    go_wp2_with fail
    refine HK5m.out _ _ ⟨H1.out, ?_⟩
    clear HK5m K
    try simp only [Act.put, List.setIfInBounds_toArray, List.set_cons_zero, List.set_cons_succ]
    refine wpAnyH_one (i := 11) (o := ?o11m) (by kernel_rfl) ?hi11m ?hw11m ?st11m
    case hi11m => rw [List.getElem?_toArray]; exact rfl
    case hw11m => exact rfl
    intro K hK
    have HK11m : Hid _ := hK
    clear hK
    go_simp
    refine hC2.mono ?_
    rintro e w2 ⟨rfl, h2, h3⟩
    have H2 : Hid (BothB w0 w2 B g r (b + 1) ∧ w2.cell? ⟨w.heap.size, 1, none⟩ = some (.int .i64 N) ∧ w2.cell? ⟨w.heap.size, 2, none⟩ = some (.int .i64 M)) := ⟨h2, (World.cell?_of_block (w := w1) (a := ⟨w.heap.size, 1, none⟩) h3).trans H1.out.1, (World.cell?_of_block (w := w1) (a := ⟨w.heap.size, 2, none⟩) h3).trans H1.out.2⟩
    clear h2 h3
    go_wp2_with fail
    refine HK11m.out _ _ ⟨H2.out.2, ?_⟩
    clear HK11m K
    try simp only [Act.put, List.setIfInBounds_toArray, List.set_cons_zero, List.set_cons_succ]
    refine wpAnyH_take (i := 12) (oi := ?o12m) (v := ?v12m) ?hi12m (by kernel_rfl) (by kernel_rfl) (by kernel_rfl) ?hQ12m ?hy12m H2.out.2 ?more12m
    case hi12m => rw [List.getElem?_toArray]; exact rfl
    case hQ12m => exact fun _ _ _ h => h
    case hy12m =>
      refine Or.inl ⟨by rfl, ?_⟩
      intro w' hSw
      have s1 := hSw.1
      have s2 := hSw.2
      clear hSw
      go_simp
      try with_reducible rfl
    simp only [Act.put, List.setIfInBounds_toArray, List.set_cons_zero, List.set_cons_succ]
    refine wpAnyH_take (i := 13) (oi := ?o13m) (v := ?v13m) ?hi13m (by kernel_rfl) (by kernel_rfl) (by kernel_rfl) ?hQ13m ?hy13m H2.out.2 ?more13m
    case hi13m => rw [List.getElem?_toArray]; exact rfl
    case hQ13m => exact fun _ _ _ h => h
    case hy13m =>
      refine Or.inl ⟨by rfl, ?_⟩
      intro w' hSw
      have s1 := hSw.1
      have s2 := hSw.2
      clear hSw
      go_simp
      try with_reducible rfl
    simp only [Act.put, List.setIfInBounds_toArray, List.set_cons_zero, List.set_cons_succ]
    refine wpAnyH_done (by kernel_rfl) ?_ _
    go_wp2_with fail
    go_ret
    exact ⟨by simp, H2.out.1⟩
  · obtain ⟨c, n, T, hn, hn6, hC⟩ := take_both w0 B g r b N (w.alloc (.cells #[.int .i64 4, .int .i64 N, .int .i64 M, .string s] 31)) w.heap.size HE.out
    have HN : Hid (n = T.length ∧ n ≤ 600) := ⟨hn, hn6⟩
    clear hn hn6
    go_enter Try.func9, Try.ntmps9
    go_wp2_with fail
    refine hC.mono ?_
    rintro e w1 ⟨a, ca, rfl, hk1, hC2⟩
    have z0 := (World.cell?_of_block (w := (w.alloc (.cells #[.int .i64 4, .int .i64 N, .int .i64 M, .string s] 31))) (a := ⟨w.heap.size, 0, none⟩) hk1).trans y0
    have z1 := (World.cell?_of_block (w := (w.alloc (.cells #[.int .i64 4, .int .i64 N, .int .i64 M, .string s] 31))) (a := ⟨w.heap.size, 1, none⟩) hk1).trans y1
    have z2 := (World.cell?_of_block (w := (w.alloc (.cells #[.int .i64 4, .int .i64 N, .int .i64 M, .string s] 31))) (a := ⟨w.heap.size, 2, none⟩) hk1).trans y2
    have z3 := (World.cell?_of_block (w := (w.alloc (.cells #[.int .i64 4, .int .i64 N, .int .i64 M, .string s] 31))) (a := ⟨w.heap.size, 3, none⟩) hk1).trans y3
    clear hk1 hC
    go_wp2_with fail
    refine hC2.mono ?_
    rintro e w2 ⟨a', ca', rfl, hEa, hEb, h2⟩
    have H2 : Hid (BothB w0 w2 B g r (b + 1) ∧ EnsR w2 a T ∧ EnsR w2 a' T) := ⟨h2, hEa, hEb⟩
    clear h2 hC2 hEa hEb
    go_wp2_with fail
    refine (same_in a a' n ca ca' T HN.out.1 HN.out.2 w2 H2.out.2.1 H2.out.2.2).mono ?_
    rintro e w3 ⟨rfl, hb3⟩
    have H3 : Hid (BothB w0 w3 B g r (b + 1)) := H2.out.1.call hb3
    clear hb3
    go_wp2_with fail
    go_ret
    exact ⟨by simp, H3.out⟩
  · go_enter Try.func9, Try.ntmps9
    go_wp2_with fail
    go_ret
    exact ⟨rfl, HE.out.out.up (Nat.le_succ _)⟩
end Go.Proofs.Ytkgfeiigdhbddaa
