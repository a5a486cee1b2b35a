/- Package king: Send, Done, what is heard, how often each word was told. -/
import Derived.Test.YtcahfkfafdoilaaKgA
namespace Go.Proofs.Ytcahfkfafdoilaa
open Go Go.RowKit Go.Lib

theorem ksend_nil (w : World) : Calls Try.prog 11 #[.pointer none] w fun e w' => e = .returned (.int .i64 2) ∧ w' = w := by
  go_enter Try.func11, Try.ntmps11
  go_wp2_with fail
  refine (kgoes_nil _).mono ?_
  rintro e w1 ⟨rfl, rfl⟩
  go_wp2_with fail
  go_ret
  exact ⟨rfl, rfl⟩
/-- What a node sends. -/
def sendV (x : Kn) : Nat := if x.r < 3 * (x.f + 1) then x.v else 2
theorem ksend_in (g : Nat) (x : Kn) (w : World) (h : NodeAt w g x) : Calls Try.prog 11 #[.pointer (some ⟨g, 0, none⟩)] w fun e w' => e = .returned (.int .i64 (sendV x : Nat)) ∧ w' = w := by
  have H : Hid (NodeAt w g x) := h
  have c2 := h.c2
  by_cases hr : x.r < 3 * (x.f + 1)
  · have HD : Hid (decide (x.r < 3 * (x.f + 1)) = true) := decide_eq_true hr
    have HV : Hid (sendV x = x.v) := if_pos hr
    clear h hr
    go_enter Try.func11, Try.ntmps11
    go_wp2_with fail
    refine (kgoes_in g x _ H.out).mono ?_
    rintro e w1 ⟨rfl, rfl⟩
    rw [HD.out]
    go_wp2_with fail
    go_ret
    rw [HV.out]
    exact ⟨rfl, rfl⟩
  · have HD : Hid (decide (x.r < 3 * (x.f + 1)) = false) := decide_eq_false hr
    have HV : Hid (sendV x = 2) := if_neg hr
    clear h hr
    go_enter Try.func11, Try.ntmps11
    go_wp2_with fail
    refine (kgoes_in g x _ H.out).mono ?_
    rintro e w1 ⟨rfl, rfl⟩
    rw [HD.out]
    go_wp2_with fail
    go_ret
    rw [HV.out]
    exact ⟨rfl, rfl⟩
theorem kdone_nil (w : World) : Calls Try.prog 18 #[.pointer none] w fun e w' => e = .returned (.tuple #[.int .i64 0, .bool false]) ∧ w' = w := by
  go_enter Try.func18, Try.ntmps18
  go_wp2_with fail
  refine (kisNone_nil _).mono ?_
  rintro e w1 ⟨rfl, rfl⟩
  go_wp2_with fail
  go_ret2
  exact ⟨rfl, rfl⟩
theorem kdone_no (g : Nat) (x : Kn) (w : World) (h : NodeAt w g x) (hr : x.r < 3 * (x.f + 1)) : Calls Try.prog 18 #[.pointer (some ⟨g, 0, none⟩)] w fun e w' => e = .returned (.tuple #[.int .i64 0, .bool false]) ∧ w' = w := by
  have H : Hid (NodeAt w g x) := h
  have HD : Hid (decide (x.r < 3 * (x.f + 1)) = true) := decide_eq_true hr
  clear h hr
  go_enter Try.func18, Try.ntmps18
  go_wp2_with fail
  refine (kisNone_in g x _ H.out).mono ?_
  rintro e w1 ⟨rfl, rfl⟩
  go_wp2_with fail
  refine (kgoes_in g x _ H.out).mono ?_
  rintro e w1 ⟨rfl, rfl⟩
  rw [HD.out]
  go_wp2_with fail
  go_ret2
  exact ⟨rfl, rfl⟩
theorem kdone_yes (g : Nat) (x : Kn) (w : World) (h : NodeAt w g x) (hr : ¬ x.r < 3 * (x.f + 1)) : Calls Try.prog 18 #[.pointer (some ⟨g, 0, none⟩)] w fun e w' => e = .returned (.tuple #[.int .i64 (x.v : Nat), .bool true]) ∧ w' = w := by
  have H : Hid (NodeAt w g x) := h
  have c2 := h.c2
  have HD : Hid (decide (x.r < 3 * (x.f + 1)) = false) := decide_eq_false hr
  clear h hr
  go_enter Try.func18, Try.ntmps18
  go_wp2_with fail
  refine (kisNone_in g x _ H.out).mono ?_
  rintro e w1 ⟨rfl, rfl⟩
  go_wp2_with fail
  refine (kgoes_in g x _ H.out).mono ?_
  rintro e w1 ⟨rfl, rfl⟩
  rw [HD.out]
  go_wp2_with fail
  go_ret2
  exact ⟨rfl, rfl⟩
theorem kheard_any (x : Int) (w : World) : Calls Try.prog 30 #[.int .i64 x] w fun e w' => e = .returned (.int .i64 (hw x : Nat)) ∧ w' = w := by
  have hc : (x < 0 ∧ hw x = 2) ∨ (0 ≤ x ∧ 2 < x ∧ hw x = 2) ∨ (x = 0) ∨ x = 1 ∨ x = 2 := by
    unfold hw
    by_cases h0 : x = 0
    · simp [h0]
    · by_cases h1 : x = 1
      · simp [h1]
      · rw [if_neg h0, if_neg h1]; omega
  rcases hc with ⟨h1, h2⟩ | ⟨h1, h2, h3⟩ | h | h | h
  · have HV : Hid _ := h2
    clear h2
    go_enter Try.func30, Try.ntmps30
    go_wp2_with fail
    go_ret
    rw [HV.out]
    exact ⟨rfl, rfl⟩
  · have HV : Hid _ := h3
    clear h3
    go_enter Try.func30, Try.ntmps30
    go_wp2_with fail
    go_ret
    rw [HV.out]
    exact ⟨rfl, rfl⟩
  all_goals
    subst h
    go_enter Try.func30, Try.ntmps30
    go_wp2_with fail
    go_ret
    exact ⟨rfl, rfl⟩
/-- Three counts in block B. -/
def Three (w : World) (B a b c : Nat) : Prop :=
  B < w.heap.size ∧ w.cell? ⟨B, 0, none⟩ = some (.int .i64 (a : Nat)) ∧ w.cell? ⟨B, 1, none⟩ = some (.int .i64 (b : Nat)) ∧ w.cell? ⟨B, 2, none⟩ = some (.int .i64 (c : Nat)) ∧ ∀ o, w.frozen? ⟨B, o, none⟩ = false
theorem Three.new (w : World) (a b c : Nat) (t : TypeId) : Three (w.alloc (Obj.cells #[.int .i64 (a : Nat), .int .i64 (b : Nat), .int .i64 (c : Nat)] t)) w.heap.size a b c :=
  have e : ∀ (c : Array Value) (t : TypeId) (o : Nat), (w.alloc (Obj.cells c t)).cell? ⟨w.heap.size, o, none⟩ = c[o]? := fun c t o => World.cell?_alloc_new _ _ _ _
  ⟨by simp, by rw [e]; rfl, by rw [e]; rfl, by rw [e]; rfl, fun o => World.frozen?_alloc_new _ _ _ _⟩
theorem Three.call {w w' : World} {B a b c : Nat} (h : Three w B a b c) (hb : Below w.heap.size w w') : Three w' B a b c :=
  ⟨Nat.lt_of_lt_of_le h.1 hb.size, (hb.cell (p := ⟨B, _, none⟩) h.1).trans h.2.1, (hb.cell (p := ⟨B, _, none⟩) h.1).trans h.2.2.1, (hb.cell (p := ⟨B, _, none⟩) h.1).trans h.2.2.2.1, fun o => (hb.frozen (p := ⟨B, o, none⟩) h.1).trans (h.2.2.2.2 o)⟩
theorem Three.block {w w' : World} {B a b c : Nat} (h : Three w B a b c) (hz : w.heap.size ≤ w'.heap.size) (hb : w'.heap[B]? = w.heap[B]?) : Three w' B a b c :=
  have e : ∀ o, w'.cell? ⟨B, o, none⟩ = w.cell? ⟨B, o, none⟩ := fun o => World.cell?_of_block (w := w) (a := ⟨B, o, none⟩) hb
  ⟨Nat.lt_of_lt_of_le h.1 hz, (e _).trans h.2.1, (e _).trans h.2.2.1, (e _).trans h.2.2.2.1, fun o => (World.frozen?_of_block (w := w) (a := ⟨B, o, none⟩) hb).trans (h.2.2.2.2 o)⟩
theorem Three.set0 {w : World} {B a b c d : Nat} (h : Three w B a b c) : Three (w.setCell ⟨B, 0, none⟩ (.int .i64 (d : Nat))) B d b c :=
  ⟨by rw [World.size_setCell]; exact h.1, World.cell?_setCell_same _ _ _ h.2.1, by rw [World.cell?_setCell_other _ _ _ _ (by intro k; injection k with _ k2 _; omega)]; exact h.2.2.1, by rw [World.cell?_setCell_other _ _ _ _ (by intro k; injection k with _ k2 _; omega)]; exact h.2.2.2.1, fun o => by rw [World.frozen?_setCell]; exact h.2.2.2.2 o⟩
theorem Three.set1 {w : World} {B a b c d : Nat} (h : Three w B a b c) : Three (w.setCell ⟨B, 1, none⟩ (.int .i64 (d : Nat))) B a d c :=
  ⟨by rw [World.size_setCell]; exact h.1, by rw [World.cell?_setCell_other _ _ _ _ (by intro k; injection k with _ k2 _; omega)]; exact h.2.1, World.cell?_setCell_same _ _ _ h.2.2.1, by rw [World.cell?_setCell_other _ _ _ _ (by intro k; injection k with _ k2 _; omega)]; exact h.2.2.2.1, fun o => by rw [World.frozen?_setCell]; exact h.2.2.2.2 o⟩
theorem Three.set2 {w : World} {B a b c d : Nat} (h : Three w B a b c) : Three (w.setCell ⟨B, 2, none⟩ (.int .i64 (d : Nat))) B a b d :=
  ⟨by rw [World.size_setCell]; exact h.1, by rw [World.cell?_setCell_other _ _ _ _ (by intro k; injection k with _ k2 _; omega)]; exact h.2.1, by rw [World.cell?_setCell_other _ _ _ _ (by intro k; injection k with _ k2 _; omega)]; exact h.2.2.1, World.cell?_setCell_same _ _ _ h.2.2.2.1, fun o => by rw [World.frozen?_setCell]; exact h.2.2.2.2 o⟩
theorem cnt_take0 (l : List Int) {i : Nat} {x : Int} (h : l[i]? = some x) : hw x = 0 → cnt (l.take (i + 1)) 0 = cnt (l.take i) 0 + 1 ∧ cnt (l.take (i + 1)) 1 = cnt (l.take i) 1 ∧ cnt (l.take (i + 1)) 2 = cnt (l.take i) 2 := fun e => by
  rw [take_snoc h, cnt_snoc, cnt_snoc, cnt_snoc, e]; exact ⟨rfl, rfl, rfl⟩
theorem cnt_take1 (l : List Int) {i : Nat} {x : Int} (h : l[i]? = some x) : hw x = 1 → cnt (l.take (i + 1)) 0 = cnt (l.take i) 0 ∧ cnt (l.take (i + 1)) 1 = cnt (l.take i) 1 + 1 ∧ cnt (l.take (i + 1)) 2 = cnt (l.take i) 2 := fun e => by
  rw [take_snoc h, cnt_snoc, cnt_snoc, cnt_snoc, e]; exact ⟨rfl, rfl, rfl⟩
theorem cnt_take2 (l : List Int) {i : Nat} {x : Int} (h : l[i]? = some x) : hw x = 2 → cnt (l.take (i + 1)) 0 = cnt (l.take i) 0 ∧ cnt (l.take (i + 1)) 1 = cnt (l.take i) 1 ∧ cnt (l.take (i + 1)) 2 = cnt (l.take i) 2 + 1 := fun e => by
  rw [take_snoc h, cnt_snoc, cnt_snoc, cnt_snoc, e]; exact ⟨rfl, rfl, rfl⟩
theorem below_set {B : Nat} {a w : World} {g o : Nat} {v : Value} (h : Below B a w) (hg : B ≤ g) : Below B a (w.setCell ⟨g, o, none⟩ v) := h.setCell (p := ⟨g, o, none⟩) hg v
theorem cnt_take_le (l : List Int) (i k : Nat) : cnt (l.take i) k ≤ i := Nat.le_trans (cnt_le _ _) (by rw [List.length_take]; omega)
set_option maxHeartbeats 4000000 in
theorem kcount_any (a : Option Addr) (l : List Int) (cap : Nat) (hl : l.length ≤ 10) (w : World) (hI : IntsAt w a l) :
    Calls Try.prog 27 #[.slice a l.length cap] w fun e w' => e = .returned (.agg #[.int .i64 (cnt l 0 : Nat), .int .i64 (cnt l 1 : Nat), .int .i64 (cnt l 2 : Nat)]) ∧ Below w.heap.size w w' := by
  obtain ⟨n, hn⟩ : ∃ n, n = l.length := ⟨_, rfl⟩
  rw [← hn]
  have HN : Hid (n = l.length ∧ n ≤ 10) := ⟨hn, by omega⟩
  have n10 : (n : Int) ≤ 10 := by omega
  have HI : Hid (IntsAt w a l) := hI
  clear hn hl hI
  go_enter Try.func27, Try.ntmps27
  go_wp2_with fail
  rename_i Kr hKr
  have HKr : Hid _ := hKr
  clear hKr
  obtain ⟨W, hWW⟩ : ∃ W : World, W = ((w.alloc (Obj.cells #[.int .i64 0, .int .i64 0, .int .i64 0] 55)).alloc (Obj.cells #[.int .i64 0, .int .i64 0, .int .i64 0] 55)) := ⟨_, rfl⟩
  obtain ⟨A, hA⟩ : ∃ A, A = w.heap.size := ⟨_, rfl⟩
  have HP : Hid (Three W A 0 0 0 ∧ Three W (A + 1) 0 0 0 ∧ Below A w W) := by
    rw [hWW, hA]
    have t1 := Three.new w 0 0 0 55
    have t2 := Three.new (w.alloc (Obj.cells #[.int .i64 (0 : Nat), .int .i64 (0 : Nat), .int .i64 (0 : Nat)] 55)) 0 0 0 55
    exact ⟨t1.call (below_alloc0 (Below.refl _ _) _), by simpa using t2, below_alloc0 (below_alloc0 (Below.refl _ _) _) _⟩
  rw [← hWW, ← hA]
  have HA : Hid _ := hA
  clear hWW hA
  go_loopw [8] (fun iv wr => ∃ i : Nat, i ≤ n ∧ iv = .int .i64 (i : Nat) ∧ Three wr A 0 0 0 ∧ Three wr (A + 1) (cnt (l.take i) 0) (cnt (l.take i) 1) (cnt (l.take i) 2) ∧ Below A w wr) (fun iv _ => n - (Go.RowKit.intOf iv).toNat)
  case atStart => exact ⟨0, Nat.zero_le _, rfl, HP.out⟩
  case round =>
    obtain ⟨i, hi, rfl, hT, hC, hB⟩ := hrel
    rename World => wr
    have HB : Hid (_ ∧ _ ∧ _) := ⟨hT, hC, hB⟩
    by_cases hlt : i < n
    · clear HKr
      have hil : i < l.length := by rw [← HN.out.1]; exact hlt
      have hlt' : (i : Int) < (n : Int) := by omega
      obtain ⟨p, o, ha, cp, pl⟩ := ((show IntsAt w a l from HI.out).call (by rw [← HA.out]; exact hB)).get hil
      subst ha
      obtain ⟨x, hx⟩ : ∃ x, x = (l[i]'hil) := ⟨_, rfl⟩
      rw [← hx] at cp
      have hx' : l[i]? = some x := by rw [hx]; exact List.getElem?_eq_getElem hil
      have b0 : ((cnt (l.take i) 0 : Nat) : Int) ≤ 10 := by have := cnt_take_le l i 0; have := HN.out.2; omega
      have b1 : ((cnt (l.take i) 1 : Nat) : Int) ≤ 10 := by have := cnt_take_le l i 1; have := HN.out.2; omega
      have b2 : ((cnt (l.take i) 2 : Nat) : Int) ≤ 10 := by have := cnt_take_le l i 2; have := HN.out.2; omega
      obtain ⟨_, d0, d1, d2, df⟩ := hC
      have f0 := df 0
      have f1 := df 1
      have f2 := df 2
      have T0 := cnt_take0 l hx'
      have T1 := cnt_take1 l hx'
      have T2 := cnt_take2 l hx'
      generalize cnt (l.take i) 0 = c0 at *
      generalize cnt (l.take i) 1 = c1 at *
      generalize cnt (l.take i) 2 = c2 at *
      have HT : Hid (_ ∧ _ ∧ _) := ⟨T0, T1, T2⟩
      have HLT : Hid (i < n) := hlt
      have h2 := hw_le x
      have K1 : Hid (∀ w, Calls Try.prog 30 #[.int .i64 x] w fun e w' => e = .returned (.int .i64 (hw x : Nat)) ∧ w' = w) := kheard_any x
      obtain ⟨y, hy⟩ : ∃ y, y = hw x := ⟨_, rfl⟩
      rw [← hy] at K1 h2 HT
      clear hx hx' hT df hB hil hi hlt T0 T1 T2 hy pl
      have hc : y = 0 ∨ y = 1 ∨ y = 2 := by omega
      clear h2
      rcases hc with hc | hc | hc
      · subst hc
        go_wp2_with fail
        refine (K1.out _).mono ?_
        rintro e w1 ⟨rfl, rfl⟩
        go_wp2_with fail
        go_roundw
        case rel =>
          have q := HT.out.1 (by first | rfl | trivial)
          have t : Three (w1.setCell ⟨A + 1, 0, none⟩ (.int .i64 ((c0 + 1 : Nat) : Int))) A 0 0 0 ∧ Three (w1.setCell ⟨A + 1, 0, none⟩ (.int .i64 ((c0 + 1 : Nat) : Int))) (A + 1) (cnt (l.take (i + 1)) 0) (cnt (l.take (i + 1)) 1) (cnt (l.take (i + 1)) 2) ∧ Below A w (w1.setCell ⟨A + 1, 0, none⟩ (.int .i64 ((c0 + 1 : Nat) : Int))) :=
            ⟨HB.out.1.block (by rw [World.size_setCell]; exact Nat.le_refl _) (Below.heap_setCell _ _ _ _ (by simp)), by rw [q.1, q.2.1, q.2.2]; exact HB.out.2.1.set0, below_set HB.out.2.2 (by omega)⟩
          first | exact ⟨i + 1, HLT.out, by go_num, t⟩ | ((repeat apply Exists.intro); exact ⟨⟨i + 1, HLT.out, by go_num, t⟩, rfl⟩)
        case measure => have h1 := HLT.out; simp [Go.RowKit.intOf]; omega
      · subst hc
        go_wp2_with fail
        refine (K1.out _).mono ?_
        rintro e w1 ⟨rfl, rfl⟩
        go_wp2_with fail
        go_roundw
        case rel =>
          have q := HT.out.2.1 (by first | rfl | trivial)
          have t : Three (w1.setCell ⟨A + 1, 1, none⟩ (.int .i64 ((c1 + 1 : Nat) : Int))) A 0 0 0 ∧ Three (w1.setCell ⟨A + 1, 1, none⟩ (.int .i64 ((c1 + 1 : Nat) : Int))) (A + 1) (cnt (l.take (i + 1)) 0) (cnt (l.take (i + 1)) 1) (cnt (l.take (i + 1)) 2) ∧ Below A w (w1.setCell ⟨A + 1, 1, none⟩ (.int .i64 ((c1 + 1 : Nat) : Int))) :=
            ⟨HB.out.1.block (by rw [World.size_setCell]; exact Nat.le_refl _) (Below.heap_setCell _ _ _ _ (by simp)), by rw [q.1, q.2.1, q.2.2]; exact HB.out.2.1.set1, below_set HB.out.2.2 (by omega)⟩
          first | exact ⟨i + 1, HLT.out, by go_num, t⟩ | ((repeat apply Exists.intro); exact ⟨⟨i + 1, HLT.out, by go_num, t⟩, rfl⟩)
        case measure => have h1 := HLT.out; simp [Go.RowKit.intOf]; omega
      · subst hc
        go_wp2_with fail
        refine (K1.out _).mono ?_
        rintro e w1 ⟨rfl, rfl⟩
        go_wp2_with fail
        go_roundw
        case rel =>
          have q := HT.out.2.2 (by first | rfl | trivial)
          have t : Three (w1.setCell ⟨A + 1, 2, none⟩ (.int .i64 ((c2 + 1 : Nat) : Int))) A 0 0 0 ∧ Three (w1.setCell ⟨A + 1, 2, none⟩ (.int .i64 ((c2 + 1 : Nat) : Int))) (A + 1) (cnt (l.take (i + 1)) 0) (cnt (l.take (i + 1)) 1) (cnt (l.take (i + 1)) 2) ∧ Below A w (w1.setCell ⟨A + 1, 2, none⟩ (.int .i64 ((c2 + 1 : Nat) : Int))) :=
            ⟨HB.out.1.block (by rw [World.size_setCell]; exact Nat.le_refl _) (Below.heap_setCell _ _ _ _ (by simp)), by rw [q.1, q.2.1, q.2.2]; exact HB.out.2.1.set2, below_set HB.out.2.2 (by omega)⟩
          first | exact ⟨i + 1, HLT.out, by go_num, t⟩ | ((repeat apply Exists.intro); exact ⟨⟨i + 1, HLT.out, by go_num, t⟩, rfl⟩)
        case measure => have h1 := HLT.out; simp [Go.RowKit.intOf]; omega
    · obtain rfl : i = n := by omega
      have hnl : ¬ ((i : Int) < (i : Int)) := Int.lt_irrefl _
      have ht : l.take i = l := List.take_of_length_le (by rw [← HN.out.1]; exact Nat.le_refl _)
      rw [ht] at hC
      have HE : Hid (Below A w wr) := hB
      obtain ⟨_, d0, d1, d2, df⟩ := hC
      obtain ⟨_, e0, e1, e2, ef⟩ := hT
      have f0 := ef 0
      have f1 := ef 1
      have f2 := ef 2
      clear hlt hi hB ht df ef HB
      go_wp2_with fail
      refine HKr.out _ _ ?_
      clear HKr
      go_wp2_with fail
      rw [← HA.out]
      refine bodyPost_ret (v := .agg #[.int .i64 (cnt l 0 : Nat), .int .i64 (cnt l 1 : Nat), .int .i64 (cnt l 2 : Nat)]) ?_ rfl ⟨rfl, below_set (below_set (below_set HE.out (Nat.le_refl _)) (Nat.le_refl _)) (Nat.le_refl _)⟩
      simp [results, Try.results27, go_sem, e0, e1, e2]
end Go.Proofs.Ytcahfkfafdoilaa
