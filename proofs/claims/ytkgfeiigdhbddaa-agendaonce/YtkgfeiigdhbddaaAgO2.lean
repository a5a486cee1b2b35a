/- The law AgendaOnce. -/
import Derived.Test.YtkgfeiigdhbddaaAgO1
namespace Go.Proofs.Ytkgfeiigdhbddaa
open Go Go.RowKit Go.Lib
theorem StepsA.callO {w w' : World} {a : Option Addr} {n B : Nat} (h : StepsA w a n) (hB : B = w.heap.size) (hb : Below B w w') : StepsA w' a n := fun j hj => by
  obtain ⟨b, o, X, N, M, s, h1, h2, h3, h4, h5, h6, h7, h8⟩ := h j hj
  subst hB
  exact ⟨b, o, X, N, M, s, h1, (hb.cell (p := ⟨b, _, none⟩) h7).trans h2, (hb.cell (p := ⟨b, _, none⟩) h7).trans h3, (hb.cell (p := ⟨b, _, none⟩) h7).trans h4, (hb.cell (p := ⟨b, _, none⟩) h7).trans h5, h6, Nat.lt_of_lt_of_le h7 hb.size, h8⟩
/-- What the law keeps. -/
def OnK (w0 w : World) (B g b n : Nat) (a : Option Addr) (cap : Nat) : Prop := ∃ l L S A, l ≤ b ∧ n = A.length ∧ AtI A L l ∧ OnR w0 w B g l L S a cap A
theorem OnK.call {w0 w w' : World} {B g b n cap : Nat} {a : Option Addr} (h : OnK w0 w B g b n a cap) (hb : Below w.heap.size w w') : OnK w0 w' B g b n a cap := by
  obtain ⟨l, L, S, A, h1, h2, h3, h4⟩ := h
  exact ⟨l, L, S, A, h1, h2, h3, h4.call hb⟩
theorem OnK.up {w0 w : World} {B g b c n cap : Nat} {a : Option Addr} (h : OnK w0 w B g b n a cap) (hb : b ≤ c) : OnK w0 w B g c n a cap := by
  obtain ⟨l, L, S, A, h1, h2⟩ := h
  exact ⟨l, L, S, A, Nat.le_trans h1 hb, h2⟩
/-- What the loop over what was told keeps. -/
structure LpI (w0 wx : World) (B g l : Nat) (L Lr : List En) (S : Nat → Prop) (q o cap : Nat) (A : List Int) (a4 : Option Addr) (cap4 m4 : Nat) (T : List En) (E m i : Nat) : Prop where
  on : OnR w0 wx B g l Lr S (some ⟨q, o, none⟩) cap A
  at' : AtI A (L.drop i) l
  row : RwO wx a4 cap4 m4 (enF T)
  ce : wx.cell? ⟨E, 1, none⟩ = some (.int .i64 (m : Nat))
  ez : E < wx.heap.size
theorem LpI.call {w0 wx w' : World} {B g l q o cap cap4 m4 E m i : Nat} {L Lr T : List En} {S : Nat → Prop} {A : List Int} {a4 : Option Addr} (h : LpI w0 wx B g l L Lr S q o cap A a4 cap4 m4 T E m i) (hb : Below wx.heap.size wx w') : LpI w0 w' B g l L Lr S q o cap A a4 cap4 m4 T E m i :=
  ⟨h.on.call hb, h.at', h.row.call hb, (hb.cell (p := ⟨E, 1, none⟩) h.ez).trans h.ce, Nat.lt_of_lt_of_le h.ez hb.size⟩
theorem LpI.step {w0 wx : World} {B g l q o cap cap4 m4 E m i : Nat} {L Lr T R : List En} {S : Nat → Prop} {A : List Int} {a4 : Option Addr} {x : En} {v : Int} (h : LpI w0 wx B g l L Lr S q o cap A a4 cap4 m4 T E m i) (hd : L.drop i = x :: R) (hR : L.drop (i + 1) = R) (hs : Srt (x :: R)) (hdd : Dst (x :: R)) (hv : A[x.t]? = some v) (hqE : q ≠ E) (hq4 : ∀ q', a4 = some ⟨q', 0, none⟩ → q' ≠ q) :
    LpI w0 (wx.setCell ⟨q, o + x.t, none⟩ (.int .i64 (-1))) B g l L Lr S q o cap (A.set x.t (-1)) a4 cap4 m4 T E m (i + 1) := by
  have ha := h.at'
  rw [hd] at ha
  refine ⟨h.on.set hv, by rw [hR]; exact at_step hs hdd ha, h.row.block (by rw [World.size_setCell]; exact Nat.le_refl _) (fun q' hq' _ => Below.heap_setCell _ _ _ _ (hq4 q' hq')), ?_, by rw [World.size_setCell]; exact h.ez⟩
  rw [World.cell?_setCell_other _ _ _ _ (by intro c; injection c with c _ _; exact hqE c)]
  exact h.ce
theorem Dst.drop {L : List En} (h : Dst L) (i : Nat) : Dst (L.drop i) := fun x hx y hy => h x (List.mem_of_mem_drop hx) y (List.mem_of_mem_drop hy)
theorem Srt.drop {L : List En} (h : Srt L) (i : Nat) : Srt (L.drop i) := List.Pairwise.drop h
theorem due_get {m i : Nat} {L : List En} (hi : i < (due m L).length) : ∃ x, L[i]? = some x ∧ enF (due m L) i = x ∧ x.m ≤ m ∧ x ∈ L := by
  obtain ⟨x, hx⟩ : ∃ x, (due m L)[i]? = some x := ⟨_, List.getElem?_eq_getElem hi⟩
  have hp : due m L ++ rest m L = L := List.takeWhile_append_dropWhile
  have hL : L[i]? = some x := by rw [← hp, List.getElem?_append_left hi]; exact hx
  refine ⟨x, hL, by unfold enF; simp [List.getD, hx], ?_, List.mem_of_getElem? hL⟩
  have hm : x ∈ due m L := List.mem_of_getElem? hx
  have h3 : (due m L).all (fun x => decide (x.m ≤ m)) = true := List.all_takeWhile
  exact of_decide_eq_true (List.all_eq_true.1 h3 x hm)
theorem drop_due (m : Nat) (L : List En) : L.drop (due m L).length = rest m L := by
  have hp : due m L ++ rest m L = L := List.takeWhile_append_dropWhile
  have h2 : (due m L ++ rest m L).drop (due m L).length = rest m L := List.drop_left
  rwa [hp] at h2
set_option maxRecDepth 100000 in
set_option maxHeartbeats 1000000 in
theorem agendaOnce_no (a : Option Addr) (n cap : Nat) (w : World) (h : 300 < n) : Calls Try.prog 4 #[.slice a n cap] w fun e w' => e = .returned (.bool true) ∧ Below w.heap.size w w' := by
  have d1 : (300 : Int) < (n : Nat) := by omega
  clear h
  go_enter Try.func4, Try.ntmps4
  go_wp2_with fail
  refine (anew_in (From w.heap.size) w (fun k hk => hk)).mono ?_
  rintro e w1 ⟨rfl, hA1, hb1⟩
  have H1 : Hid (Below w.heap.size w w1) := hb1
  clear hA1 hb1
  go_wp2_with fail
  refine (three_any _).mono ?_
  rintro e w2 ⟨rfl, hb2⟩
  have H2 : Hid (Below w.heap.size w w2) := below_call0 H1.out hb2
  clear hb2
  go_wp2_with fail
  go_ret
  exact ⟨rfl, H2.out⟩
set_option maxRecDepth 100000 in
set_option maxHeartbeats 8000000 in
theorem agendaOnce_ok (a : Option Addr) (n cap : Nat) (hn : n ≤ 300) (w : World) (hS : StepsA w a n) : Calls Try.prog 4 #[.slice a n cap] w fun e w' => e = .returned (.bool true) ∧ Below w.heap.size w w' := by
  have HS : Hid (StepsA w a n ∧ n ≤ 300) := ⟨hS, hn⟩
  have d1 : ¬ ((300 : Int) < (n : Nat)) := by omega
  have n2 : (n : Int) ≤ 300 := by omega
  obtain ⟨g, hg⟩ : ∃ g, g = w.heap.size := ⟨_, rfl⟩
  have HG : Hid (g = w.heap.size) := hg
  clear hS hn
  go_enter Try.func4, Try.ntmps4
  go_wp2_with fail
  refine (anew_in (From g) w (fun k hk => by show g ≤ k; rw [HG.out]; exact hk)).mono ?_
  rintro e w1 ⟨rfl, hA1, hb1⟩
  rw [← hg] at hA1 hb1 ⊢
  have HA1 : Hid (AgZ w1 (From g) g 0 [] ∧ Below g w w1) := ⟨hA1, hb1⟩
  clear hg hA1 hb1
  go_wp2_with fail
  rename_i Kr hKr
  have HKr : Hid _ := hKr
  clear hKr
  have H1 : Hid (OnK w (w1.alloc (.cells #[.int .i64 (-1)] 3)) g g 0 1 (some ⟨w1.heap.size, 0, none⟩) 1) := by
    obtain ⟨hA1, hb1⟩ := HA1.out
    have hbr : Below w1.heap.size w1 (w1.alloc (.cells #[.int .i64 (-1)] 3)) := below_alloc0 (Below.refl _ _) _
    have hzr : (w1.alloc (.cells #[.int .i64 (-1)] 3)).heap.size = w1.heap.size + 1 := by simp
    have r0 : (w1.alloc (.cells #[.int .i64 (-1)] 3)).cell? ⟨w1.heap.size, 0, none⟩ = some (.int .i64 (-1)) := by rw [World.cell?_alloc_new]; rfl
    have hgw : g ≤ w1.heap.size := Nat.le_trans (Nat.le_of_eq HG.out) hb1.size
    refine ⟨0, [], fun k => g ≤ k ∧ k < w1.heap.size, [-1], Nat.le_refl _, rfl, at_zero, ⟨(hA1.mono (fun k hk hz => ⟨hz, hk⟩)).call hbr, ?_, fun k hk => hk.1, fun k hk => by rw [hzr]; have := hk.2; omega, Nat.le_trans hgw hbr.size, hb1.trans (hbr.mono hgw)⟩⟩
    refine .inr ⟨w1.heap.size, 0, rfl, ⟨fun c => by have := c.2; omega, hgw⟩, by rw [hzr]; exact Nat.lt_succ_self _, Nat.le_refl _, by unfold maxLen; decide, fun j u hj => ?_, fun j hj => ?_, fun j => World.frozen?_alloc_new _ _ _ _⟩
    · match j, hj with
      | 0, hj => cases hj; exact r0
      | j + 1, hj => simp at hj
    · obtain rfl : j = 0 := by omega
      rw [r0]; rfl
  clear HA1
  generalize w1.alloc (.cells #[.int .i64 (-1)] 3) = W1 at *
  generalize w1.heap.size = q1 at *
  go_loopw [4, 33] (fun av iv wr => ∃ (k nA : Nat) (a : Option Addr) (cap : Nat), k ≤ n ∧ iv = .int .i64 (k : Nat) ∧ av = .slice a nA cap ∧ OnK w wr g g k nA a cap) (fun _ iv _ => n - (Go.RowKit.intOf iv).toNat)
  case atStart => exact ⟨0, 1, some ⟨q1, 0, none⟩, 1, Nat.zero_le _, rfl, rfl, H1.out⟩
  case round =>
    obtain ⟨k, nA, aA, capA, hk, rfl, rfl, hB⟩ := hrel
    rename World => wr
    have HR : Hid (OnK w wr g g k nA aA capA) := hB
    have hbl : Below g w wr := by obtain ⟨_, _, _, _, _, _, _, h⟩ := hB; exact h.hb
    by_cases hlt : k < n
    · obtain ⟨b, o, X, N, M, s, ha, c0, c1, c2, c3, hs, hbz, hN, hM⟩ := (HS.out.1.callO HG.out hbl) k hlt
      subst ha
      have HX : Hid (s.size < 140737488351233 ∧ M ≤ 9223372036854775807 ∧ k < n ∧ k ≤ 300) := ⟨hs, hM.2, hlt, by have := HS.out.2; omega⟩
      have i1 : (k : Int) < (n : Int) := by omega
      obtain ⟨l, L, S, A, hl, hnA, hAt, hOn⟩ := hB
      have nA5 : nA ≤ 302 := by rw [hnA, hAt.1]; have := HS.out.2; omega
      have HL : Hid (l ≤ k ∧ nA = A.length ∧ AtI A L l ∧ OnR w wr g g l L S aA capA A ∧ nA = l + 1 ∧ nA ≤ 302) := ⟨hl, hnA, hAt, hOn, by rw [hnA, hAt.1], nA5⟩
      have nA6 : (nA : Int) ≤ 302 := by omega
      clear HKr hk hbl hlt hs hbz hN hM H1 hl hnA hAt hOn nA5
      have hxc : X = 0 ∨ X = 1 ∨ X = 2 ∨ X = 3 ∨ X = 4 ∨ (¬ X = 0 ∧ ¬ X = 1 ∧ ¬ X = 2 ∧ ¬ X = 3 ∧ ¬ X = 4) := by omega
      rcases hxc with rfl | rfl | rfl | rfl | rfl | ⟨x0, x1, x2, x3, x4⟩
      · as_aux_lemma =>
          have HV : Hid (OnR w (wr.alloc (.cells #[.int .i64 0, .int .i64 N, .int .i64 M, .string s] 31)) g g l L S aA capA A ∧ ¬ S wr.heap.size ∧ (wr.alloc (.cells #[.int .i64 0, .int .i64 N, .int .i64 M, .string s] 31)).heap.size = wr.heap.size + 1) := ⟨HL.out.2.2.2.1.call (below_alloc0 (Below.refl _ _) _), fun c => absurd (HL.out.2.2.2.1.sl _ c) (Nat.lt_irrefl _), by simp⟩
          have y0 : (wr.alloc (.cells #[.int .i64 0, .int .i64 N, .int .i64 M, .string s] 31)).cell? ⟨wr.heap.size, 0, none⟩ = some (.int .i64 0) := by rw [World.cell?_alloc_new]; rfl
          have y1 : (wr.alloc (.cells #[.int .i64 0, .int .i64 N, .int .i64 M, .string s] 31)).cell? ⟨wr.heap.size, 1, none⟩ = some (.int .i64 N) := by rw [World.cell?_alloc_new]; rfl
          have y2 : (wr.alloc (.cells #[.int .i64 0, .int .i64 N, .int .i64 M, .string s] 31)).cell? ⟨wr.heap.size, 2, none⟩ = some (.int .i64 M) := by rw [World.cell?_alloc_new]; rfl
          have y3 : (wr.alloc (.cells #[.int .i64 0, .int .i64 N, .int .i64 M, .string s] 31)).cell? ⟨wr.heap.size, 3, none⟩ = some (.string s) := by rw [World.cell?_alloc_new]; rfl
          have HK : Hid (OnK w (wr.alloc (.cells #[.int .i64 0, .int .i64 N, .int .i64 M, .string s] 31)) g g (k + 1) nA aA capA) := ⟨l, L, S, A, Nat.le_succ_of_le HL.out.1, HL.out.2.1, HL.out.2.2.1, HV.out.1⟩
          by_cases hm : 0 ≤ N ∧ N ≤ 1099511627776
          · obtain ⟨m, rfl⟩ : ∃ m : Nat, N = (m : Int) := ⟨N.toNat, by omega⟩
            have hm' : m ≤ 1099511627776 := by omega
            have HM : Hid (m ≤ 1099511627776) := hm'
            clear hm hm'
            by_cases h5 : 512 ≤ L.length
            · have H5 : Hid (512 ≤ L.length) := h5
              clear h5
              go_wp2_with fail
              refine (aput_full g l m S L s HM.out (wr.alloc (.cells #[.int .i64 0, .int .i64 ((m : Nat) : Int), .int .i64 M, .string s] 31)) HV.out.1.ag H5.out).mono ?_
              rintro e w2 ⟨rfl, rfl⟩
              go_wp2_with fail
              go_roundw
              case rel => first | exact ⟨k + 1, nA, aA, capA, HX.out.2.2.1, by go_num, rfl, HK.out⟩ | ((repeat apply Exists.intro); exact ⟨⟨k + 1, nA, aA, capA, HX.out.2.2.1, by go_num, rfl, HK.out⟩, rfl⟩)
              case measure => have h1 := HX.out.2.2.1; simp [Go.RowKit.intOf]; omega
            · have H5 : Hid (L.length < 512) := by exact (by omega : L.length < 512)
              clear h5
              go_wp2_with fail
              refine (aput_ok g l nA m HL.out.2.2.2.2.1 (fun k => S k ∨ (wr.alloc (.cells #[.int .i64 0, .int .i64 ((m : Nat) : Int), .int .i64 M, .string s] 31)).heap.size ≤ k) L s HM.out (wr.alloc (.cells #[.int .i64 0, .int .i64 ((m : Nat) : Int), .int .i64 M, .string s] 31)) (fun k hk => .inr hk) (HV.out.1.ag.mono (fun k _ hk => .inl hk)) H5.out (by have := HL.out.1; have := HX.out.2.2.2; omega) (by have := HX.out.1; omega)).mono ?_
              rintro e w2 ⟨rfl, hA2, hO2⟩
              have hEn : ¬ (S wr.heap.size ∨ (wr.alloc (.cells #[.int .i64 0, .int .i64 ((m : Nat) : Int), .int .i64 M, .string s] 31)).heap.size ≤ wr.heap.size) := fun c => c.elim HV.out.2.1 (fun c => by have := HV.out.2.2; omega)
              have z1 := (hO2.cell (p := ⟨wr.heap.size, 1, none⟩) hEn).trans y1
              have H2 := HV.out.1.op hA2 hO2
              obtain ⟨a9, cap9, w9, happ, h9⟩ := H2.app HL.out.2.1 (by have := HL.out.2.2.2.2.2; omega) (m : Int)
              obtain ⟨n1, hn1⟩ : ∃ n1, n1 = nA + 1 := ⟨_, rfl⟩
              have H9 : Hid (OnK w w9 g g (k + 1) (nA + 1) a9 cap9) := ⟨nA, _, _, _, by have := HL.out.1; have := HL.out.2.2.2.2.1; omega, by rw [List.length_append, HL.out.2.1]; rfl, by have h := at_put (m := m) (s := s) HL.out.2.2.1; rw [← HL.out.2.2.2.2.1] at h; exact h, h9⟩
              have HN1 : Hid (n1 = nA + 1) := hn1
              rw [← hn1] at happ
              clear hA2 hO2 hEn H2 h9 hn1
              go_wp2_with (at_builtin; refine wpList_append_run rfl _ _ 40 rfl rfl rfl happ ?_)
              go_roundw
              case rel => first | exact ⟨k + 1, n1, a9, cap9, HX.out.2.2.1, by go_num, rfl, by rw [HN1.out]; exact H9.out⟩ | ((repeat apply Exists.intro); exact ⟨⟨k + 1, n1, a9, cap9, HX.out.2.2.1, by go_num, rfl, by rw [HN1.out]; exact H9.out⟩, rfl⟩)
              case measure => have h1 := HX.out.2.2.1; simp [Go.RowKit.intOf]; omega
          · have HM : Hid (¬ (0 ≤ N ∧ N ≤ 1099511627776)) := hm
            clear hm
            go_wp2_with fail
            refine (aput_arg (some ⟨g, 0, none⟩) N s HM.out (wr.alloc (.cells #[.int .i64 0, .int .i64 N, .int .i64 M, .string s] 31))).mono ?_
            rintro e w2 ⟨rfl, rfl⟩
            go_wp2_with fail
            go_roundw
            case rel => first | exact ⟨k + 1, nA, aA, capA, HX.out.2.2.1, by go_num, rfl, HK.out⟩ | ((repeat apply Exists.intro); exact ⟨⟨k + 1, nA, aA, capA, HX.out.2.2.1, by go_num, rfl, HK.out⟩, rfl⟩)
            case measure => have h1 := HX.out.2.2.1; simp [Go.RowKit.intOf]; omega
      · as_aux_lemma =>
          have HV : Hid (OnR w (wr.alloc (.cells #[.int .i64 1, .int .i64 N, .int .i64 M, .string s] 31)) g g l L S aA capA A ∧ ¬ S wr.heap.size ∧ (wr.alloc (.cells #[.int .i64 1, .int .i64 N, .int .i64 M, .string s] 31)).heap.size = wr.heap.size + 1) := ⟨HL.out.2.2.2.1.call (below_alloc0 (Below.refl _ _) _), fun c => absurd (HL.out.2.2.2.1.sl _ c) (Nat.lt_irrefl _), by simp⟩
          have y0 : (wr.alloc (.cells #[.int .i64 1, .int .i64 N, .int .i64 M, .string s] 31)).cell? ⟨wr.heap.size, 0, none⟩ = some (.int .i64 1) := by rw [World.cell?_alloc_new]; rfl
          have y1 : (wr.alloc (.cells #[.int .i64 1, .int .i64 N, .int .i64 M, .string s] 31)).cell? ⟨wr.heap.size, 1, none⟩ = some (.int .i64 N) := by rw [World.cell?_alloc_new]; rfl
          have y2 : (wr.alloc (.cells #[.int .i64 1, .int .i64 N, .int .i64 M, .string s] 31)).cell? ⟨wr.heap.size, 2, none⟩ = some (.int .i64 M) := by rw [World.cell?_alloc_new]; rfl
          have y3 : (wr.alloc (.cells #[.int .i64 1, .int .i64 N, .int .i64 M, .string s] 31)).cell? ⟨wr.heap.size, 3, none⟩ = some (.string s) := by rw [World.cell?_alloc_new]; rfl
          have HK : Hid (OnK w (wr.alloc (.cells #[.int .i64 1, .int .i64 N, .int .i64 M, .string s] 31)) g g (k + 1) nA aA capA) := ⟨l, L, S, A, Nat.le_succ_of_le HL.out.1, HL.out.2.1, HL.out.2.2.1, HV.out.1⟩
          by_cases hm : 0 ≤ N ∧ N ≤ 1099511627776
          · obtain ⟨m, rfl⟩ : ∃ m : Nat, N = (m : Int) := ⟨N.toNat, by omega⟩
            have hm' : m ≤ 1099511627776 := by omega
            have HM : Hid (m ≤ 1099511627776) := hm'
            clear hm hm'
            by_cases h5 : 512 ≤ L.length
            · have H5 : Hid (512 ≤ L.length) := h5
              clear h5
              go_wp2_with fail
              refine (aput_full g l m S L s HM.out (wr.alloc (.cells #[.int .i64 1, .int .i64 ((m : Nat) : Int), .int .i64 M, .string s] 31)) HV.out.1.ag H5.out).mono ?_
              rintro e w2 ⟨rfl, rfl⟩
              go_wp2_with fail
              go_roundw
              case rel => first | exact ⟨k + 1, nA, aA, capA, HX.out.2.2.1, by go_num, rfl, HK.out⟩ | ((repeat apply Exists.intro); exact ⟨⟨k + 1, nA, aA, capA, HX.out.2.2.1, by go_num, rfl, HK.out⟩, rfl⟩)
              case measure => have h1 := HX.out.2.2.1; simp [Go.RowKit.intOf]; omega
            · have H5 : Hid (L.length < 512) := by exact (by omega : L.length < 512)
              clear h5
              go_wp2_with fail
              refine (aput_ok g l nA m HL.out.2.2.2.2.1 (fun k => S k ∨ (wr.alloc (.cells #[.int .i64 1, .int .i64 ((m : Nat) : Int), .int .i64 M, .string s] 31)).heap.size ≤ k) L s HM.out (wr.alloc (.cells #[.int .i64 1, .int .i64 ((m : Nat) : Int), .int .i64 M, .string s] 31)) (fun k hk => .inr hk) (HV.out.1.ag.mono (fun k _ hk => .inl hk)) H5.out (by have := HL.out.1; have := HX.out.2.2.2; omega) (by have := HX.out.1; omega)).mono ?_
              rintro e w2 ⟨rfl, hA2, hO2⟩
              have hEn : ¬ (S wr.heap.size ∨ (wr.alloc (.cells #[.int .i64 1, .int .i64 ((m : Nat) : Int), .int .i64 M, .string s] 31)).heap.size ≤ wr.heap.size) := fun c => c.elim HV.out.2.1 (fun c => by have := HV.out.2.2; omega)
              have z1 := (hO2.cell (p := ⟨wr.heap.size, 1, none⟩) hEn).trans y1
              have H2 := HV.out.1.op hA2 hO2
              obtain ⟨a9, cap9, w9, happ, h9⟩ := H2.app HL.out.2.1 (by have := HL.out.2.2.2.2.2; omega) (m : Int)
              obtain ⟨n1, hn1⟩ : ∃ n1, n1 = nA + 1 := ⟨_, rfl⟩
              have H9 : Hid (OnK w w9 g g (k + 1) (nA + 1) a9 cap9) := ⟨nA, _, _, _, by have := HL.out.1; have := HL.out.2.2.2.2.1; omega, by rw [List.length_append, HL.out.2.1]; rfl, by have h := at_put (m := m) (s := s) HL.out.2.2.1; rw [← HL.out.2.2.2.2.1] at h; exact h, h9⟩
              have HN1 : Hid (n1 = nA + 1) := hn1
              rw [← hn1] at happ
              clear hA2 hO2 hEn H2 h9 hn1
              go_wp2_with (at_builtin; refine wpList_append_run rfl _ _ 40 rfl rfl rfl happ ?_)
              go_roundw
              case rel => first | exact ⟨k + 1, n1, a9, cap9, HX.out.2.2.1, by go_num, rfl, by rw [HN1.out]; exact H9.out⟩ | ((repeat apply Exists.intro); exact ⟨⟨k + 1, n1, a9, cap9, HX.out.2.2.1, by go_num, rfl, by rw [HN1.out]; exact H9.out⟩, rfl⟩)
              case measure => have h1 := HX.out.2.2.1; simp [Go.RowKit.intOf]; omega
          · have HM : Hid (¬ (0 ≤ N ∧ N ≤ 1099511627776)) := hm
            clear hm
            go_wp2_with fail
            refine (aput_arg (some ⟨g, 0, none⟩) N s HM.out (wr.alloc (.cells #[.int .i64 1, .int .i64 N, .int .i64 M, .string s] 31))).mono ?_
            rintro e w2 ⟨rfl, rfl⟩
            go_wp2_with fail
            go_roundw
            case rel => first | exact ⟨k + 1, nA, aA, capA, HX.out.2.2.1, by go_num, rfl, HK.out⟩ | ((repeat apply Exists.intro); exact ⟨⟨k + 1, nA, aA, capA, HX.out.2.2.1, by go_num, rfl, HK.out⟩, rfl⟩)
            case measure => have h1 := HX.out.2.2.1; simp [Go.RowKit.intOf]; omega
      · as_aux_lemma =>
          have HV : Hid (OnR w (wr.alloc (.cells #[.int .i64 2, .int .i64 N, .int .i64 M, .string s] 31)) g g l L S aA capA A ∧ ¬ S wr.heap.size ∧ (wr.alloc (.cells #[.int .i64 2, .int .i64 N, .int .i64 M, .string s] 31)).heap.size = wr.heap.size + 1) := ⟨HL.out.2.2.2.1.call (below_alloc0 (Below.refl _ _) _), fun c => absurd (HL.out.2.2.2.1.sl _ c) (Nat.lt_irrefl _), by simp⟩
          have y0 : (wr.alloc (.cells #[.int .i64 2, .int .i64 N, .int .i64 M, .string s] 31)).cell? ⟨wr.heap.size, 0, none⟩ = some (.int .i64 2) := by rw [World.cell?_alloc_new]; rfl
          have y1 : (wr.alloc (.cells #[.int .i64 2, .int .i64 N, .int .i64 M, .string s] 31)).cell? ⟨wr.heap.size, 1, none⟩ = some (.int .i64 N) := by rw [World.cell?_alloc_new]; rfl
          have y2 : (wr.alloc (.cells #[.int .i64 2, .int .i64 N, .int .i64 M, .string s] 31)).cell? ⟨wr.heap.size, 2, none⟩ = some (.int .i64 M) := by rw [World.cell?_alloc_new]; rfl
          have y3 : (wr.alloc (.cells #[.int .i64 2, .int .i64 N, .int .i64 M, .string s] 31)).cell? ⟨wr.heap.size, 3, none⟩ = some (.string s) := by rw [World.cell?_alloc_new]; rfl
          have HK : Hid (OnK w (wr.alloc (.cells #[.int .i64 2, .int .i64 N, .int .i64 M, .string s] 31)) g g (k + 1) nA aA capA) := ⟨l, L, S, A, Nat.le_succ_of_le HL.out.1, HL.out.2.1, HL.out.2.2.1, HV.out.1⟩
          by_cases hm : 1 ≤ M
          · obtain ⟨t, rfl⟩ : ∃ t : Nat, M = (t : Int) := ⟨M.toNat, by omega⟩
            have ht63 : t < 9223372036854775808 := by have := HX.out.2.1; omega
            have HT : Hid (1 ≤ t ∧ t < 9223372036854775808) := ⟨by omega, ht63⟩
            have t63 : (t : Int) < 9223372036854775808 := by omega
            clear hm ht63
            by_cases hx : ∃ x ∈ L, x.t = t
            · obtain ⟨x, hx, hxt⟩ := hx
              have htl : t ≤ l := by have := (HV.out.1.ag.mem x hx).2.1; omega
              obtain ⟨v, hv, hmo⟩ := at_get HL.out.2.2.1 htl
              have hvm : v = (x.m : Nat) := mom_in HV.out.1.ag.dst hx (by rw [hxt]; exact hmo)
              have HXX : Hid (x ∈ L ∧ x.t = t ∧ A[t]? = some v) := ⟨hx, hxt, hv⟩
              have g1 : (t : Int) < (nA : Int) := by have := HL.out.2.2.2.2.1; omega
              have g1d : decide ((t : Int) < (nA : Int)) = true := decide_eq_true g1
              have g1n : decide (t < nA) = true := decide_eq_true (by omega)
              have g2 : (0 : Int) ≤ v := by rw [hvm]; omega
              have g2d : decide ((0 : Int) ≤ v) = true := decide_eq_true g2
              clear hx hxt hv hmo hvm htl
              go_wp2_with fail
              refine (adrop_yes g l t (fun k => S k ∨ (wr.alloc (.cells #[.int .i64 2, .int .i64 N, .int .i64 ((t : Nat) : Int), .string s] 31)).heap.size ≤ k) L x (wr.alloc (.cells #[.int .i64 2, .int .i64 N, .int .i64 ((t : Nat) : Int), .string s] 31)) (fun k hk => .inr hk) (HV.out.1.ag.mono (fun k _ hk => .inl hk)) HXX.out.1 HXX.out.2.1 HT.out.2).mono ?_
              rintro e w2 ⟨rfl, hA2, hO2⟩
              have hEn : ¬ (S wr.heap.size ∨ (wr.alloc (.cells #[.int .i64 2, .int .i64 N, .int .i64 ((t : Nat) : Int), .string s] 31)).heap.size ≤ wr.heap.size) := fun c => c.elim HV.out.2.1 (fun c => by have := HV.out.2.2; omega)
              have z2 := (hO2.cell (p := ⟨wr.heap.size, 2, none⟩) hEn).trans y2
              have H2 := HV.out.1.op hA2 hO2
              obtain ⟨q, o, rfl, cq, fq, _, _, _⟩ := H2.at HXX.out.2.2
              have H9 : Hid (OnK w (w2.setCell ⟨q, o + t, none⟩ (.int .i64 (-1))) g g (k + 1) nA (some ⟨q, o, none⟩) capA) := ⟨l, _, _, _, Nat.le_succ_of_le HL.out.1, by rw [List.length_set]; exact HL.out.2.1, at_drop HL.out.2.2.1, H2.set HXX.out.2.2⟩
              clear hA2 hO2 hEn H2
              go_wp2_with fail
              go_roundw
              case rel => first | exact ⟨k + 1, nA, some ⟨q, o, none⟩, capA, HX.out.2.2.1, by go_num, rfl, H9.out⟩ | ((repeat apply Exists.intro); exact ⟨⟨k + 1, nA, some ⟨q, o, none⟩, capA, HX.out.2.2.1, by go_num, rfl, H9.out⟩, rfl⟩)
              case measure => have h1 := HX.out.2.2.1; simp [Go.RowKit.intOf]; omega
            · have hx' : ∀ e ∈ L, e.t ≠ t := fun e he c => hx ⟨e, he, c⟩
              have HXX : Hid (∀ e ∈ L, e.t ≠ t) := hx'
              clear hx hx'
              by_cases htl : t < nA
              · obtain ⟨v, hv, hmo⟩ := at_get (t := t) HL.out.2.2.1 (by have := HL.out.2.2.2.2.1; omega)
                obtain rfl : v = -1 := mom_no HXX.out hmo
                obtain ⟨q, o, rfl, cq, fq, _, _, _⟩ := HV.out.1.at hv
                have g1 : (t : Int) < (nA : Int) := by omega
                have g1d : decide ((t : Int) < (nA : Int)) = true := decide_eq_true g1
                have g1n : decide (t < nA) = true := decide_eq_true htl
                clear hv hmo
                go_wp2_with fail
                refine (adrop_no g l t S L (wr.alloc (.cells #[.int .i64 2, .int .i64 N, .int .i64 ((t : Nat) : Int), .string s] 31)) HV.out.1.ag HT.out.1 HT.out.2 HXX.out).mono ?_
                rintro e w2 ⟨rfl, hw2⟩
                rw [hw2]
                clear hw2 w2
                go_wp2_with fail
                go_roundw
                case rel => first | exact ⟨k + 1, nA, some ⟨q, o, none⟩, capA, HX.out.2.2.1, by go_num, rfl, HK.out⟩ | ((repeat apply Exists.intro); exact ⟨⟨k + 1, nA, some ⟨q, o, none⟩, capA, HX.out.2.2.1, by go_num, rfl, HK.out⟩, rfl⟩)
                case measure => have h1 := HX.out.2.2.1; simp [Go.RowKit.intOf]; omega
              · have g1 : ¬ ((t : Int) < (nA : Int)) := by omega
                have g1d : decide ((t : Int) < (nA : Int)) = false := decide_eq_false g1
                have g1n : decide (t < nA) = false := decide_eq_false htl
                go_wp2_with fail
                refine (adrop_no g l t S L (wr.alloc (.cells #[.int .i64 2, .int .i64 N, .int .i64 ((t : Nat) : Int), .string s] 31)) HV.out.1.ag HT.out.1 HT.out.2 HXX.out).mono ?_
                rintro e w2 ⟨rfl, hw2⟩
                rw [hw2]
                clear hw2 w2
                go_wp2_with fail
                go_roundw
                case rel => first | exact ⟨k + 1, nA, aA, capA, HX.out.2.2.1, by go_num, rfl, HK.out⟩ | ((repeat apply Exists.intro); exact ⟨⟨k + 1, nA, aA, capA, HX.out.2.2.1, by go_num, rfl, HK.out⟩, rfl⟩)
                case measure => have h1 := HX.out.2.2.1; simp [Go.RowKit.intOf]; omega
          · have HM : Hid (¬ 1 ≤ M) := hm
            clear hm
            go_wp2_with fail
            refine (adrop_arg (some ⟨g, 0, none⟩) M (by have := HM.out; omega) (wr.alloc (.cells #[.int .i64 2, .int .i64 N, .int .i64 M, .string s] 31))).mono ?_
            rintro e w2 ⟨rfl, hw2⟩
            rw [hw2]
            clear hw2 w2
            go_wp2_with fail
            go_roundw
            case rel => first | exact ⟨k + 1, nA, aA, capA, HX.out.2.2.1, by go_num, rfl, HK.out⟩ | ((repeat apply Exists.intro); exact ⟨⟨k + 1, nA, aA, capA, HX.out.2.2.1, by go_num, rfl, HK.out⟩, rfl⟩)
            case measure => have h1 := HX.out.2.2.1; simp [Go.RowKit.intOf]; omega
      · as_aux_lemma =>
          have HV : Hid (OnR w (wr.alloc (.cells #[.int .i64 3, .int .i64 N, .int .i64 M, .string s] 31)) g g l L S aA capA A ∧ ¬ S wr.heap.size ∧ (wr.alloc (.cells #[.int .i64 3, .int .i64 N, .int .i64 M, .string s] 31)).heap.size = wr.heap.size + 1) := ⟨HL.out.2.2.2.1.call (below_alloc0 (Below.refl _ _) _), fun c => absurd (HL.out.2.2.2.1.sl _ c) (Nat.lt_irrefl _), by simp⟩
          have y0 : (wr.alloc (.cells #[.int .i64 3, .int .i64 N, .int .i64 M, .string s] 31)).cell? ⟨wr.heap.size, 0, none⟩ = some (.int .i64 3) := by rw [World.cell?_alloc_new]; rfl
          have y1 : (wr.alloc (.cells #[.int .i64 3, .int .i64 N, .int .i64 M, .string s] 31)).cell? ⟨wr.heap.size, 1, none⟩ = some (.int .i64 N) := by rw [World.cell?_alloc_new]; rfl
          have y2 : (wr.alloc (.cells #[.int .i64 3, .int .i64 N, .int .i64 M, .string s] 31)).cell? ⟨wr.heap.size, 2, none⟩ = some (.int .i64 M) := by rw [World.cell?_alloc_new]; rfl
          have y3 : (wr.alloc (.cells #[.int .i64 3, .int .i64 N, .int .i64 M, .string s] 31)).cell? ⟨wr.heap.size, 3, none⟩ = some (.string s) := by rw [World.cell?_alloc_new]; rfl
          have HK : Hid (OnK w (wr.alloc (.cells #[.int .i64 3, .int .i64 N, .int .i64 M, .string s] 31)) g g (k + 1) nA aA capA) := ⟨l, L, S, A, Nat.le_succ_of_le HL.out.1, HL.out.2.1, HL.out.2.2.1, HV.out.1⟩
          by_cases hm : 1 ≤ M ∧ 0 ≤ N ∧ N ≤ 1099511627776
          · obtain ⟨t, rfl⟩ : ∃ t : Nat, M = (t : Int) := ⟨M.toNat, by omega⟩
            obtain ⟨m, rfl⟩ : ∃ m : Nat, N = (m : Int) := ⟨N.toNat, by omega⟩
            have HT : Hid (1 ≤ t ∧ t < 9223372036854775808 ∧ m ≤ 1099511627776) := ⟨by omega, by have := HX.out.2.1; omega, by omega⟩
            have t63 : (t : Int) < 9223372036854775808 := by have := HX.out.2.1; omega
            have t1 : ¬ ((t : Int) < 1) := by omega
            have t1d : decide ((t : Int) < 1) = false := decide_eq_false t1
            clear hm
            by_cases hx : ∃ x ∈ L, x.t = t
            · obtain ⟨x, hx, hxt⟩ := hx
              have htl : t ≤ l := by have := (HV.out.1.ag.mem x hx).2.1; omega
              obtain ⟨v, hv, hmo⟩ := at_get HL.out.2.2.1 htl
              have hvm : v = (x.m : Nat) := mom_in HV.out.1.ag.dst hx (by rw [hxt]; exact hmo)
              have HXX : Hid (x ∈ L ∧ x.t = t ∧ A[t]? = some v) := ⟨hx, hxt, hv⟩
              have g1 : ¬ ((nA : Int) ≤ (t : Int)) := by have := HL.out.2.2.2.2.1; omega
              have g1d : decide ((nA : Int) ≤ (t : Int)) = false := decide_eq_false g1
              have g1n : decide (nA ≤ t) = false := decide_eq_false (by omega)
              have g3 : (t : Int) < (nA : Int) := by omega
              have g2 : ¬ (v < (0 : Int)) := by rw [hvm]; omega
              have g2d : decide (v < (0 : Int)) = false := decide_eq_false g2
              clear hx hxt hv hmo hvm htl
              go_wp2_with fail
              refine (amove_yes g l t m (fun k => S k ∨ (wr.alloc (.cells #[.int .i64 3, .int .i64 ((m : Nat) : Int), .int .i64 ((t : Nat) : Int), .string s] 31)).heap.size ≤ k) L x (wr.alloc (.cells #[.int .i64 3, .int .i64 ((m : Nat) : Int), .int .i64 ((t : Nat) : Int), .string s] 31)) (fun k hk => .inr hk) (HV.out.1.ag.mono (fun k _ hk => .inl hk)) HXX.out.1 HXX.out.2.1 HT.out.2.1 HT.out.2.2).mono ?_
              rintro e w2 ⟨rfl, hA2, hO2⟩
              have hEn : ¬ (S wr.heap.size ∨ (wr.alloc (.cells #[.int .i64 3, .int .i64 ((m : Nat) : Int), .int .i64 ((t : Nat) : Int), .string s] 31)).heap.size ≤ wr.heap.size) := fun c => c.elim HV.out.2.1 (fun c => by have := HV.out.2.2; omega)
              have z1 := (hO2.cell (p := ⟨wr.heap.size, 1, none⟩) hEn).trans y1
              have z2 := (hO2.cell (p := ⟨wr.heap.size, 2, none⟩) hEn).trans y2
              have H2 := HV.out.1.op hA2 hO2
              obtain ⟨q, o, rfl, cq, fq, _, _, _⟩ := H2.at HXX.out.2.2
              have H9 : Hid (OnK w (w2.setCell ⟨q, o + t, none⟩ (.int .i64 (m : Nat))) g g (k + 1) nA (some ⟨q, o, none⟩) capA) := ⟨l, _, _, _, Nat.le_succ_of_le HL.out.1, by rw [List.length_set]; exact HL.out.2.1, at_move HL.out.2.2.1, H2.set HXX.out.2.2⟩
              clear hA2 hO2 hEn H2
              go_wp2_with fail
              go_roundw
              case rel => first | exact ⟨k + 1, nA, some ⟨q, o, none⟩, capA, HX.out.2.2.1, by go_num, rfl, H9.out⟩ | ((repeat apply Exists.intro); exact ⟨⟨k + 1, nA, some ⟨q, o, none⟩, capA, HX.out.2.2.1, by go_num, rfl, H9.out⟩, rfl⟩)
              case measure => have h1 := HX.out.2.2.1; simp [Go.RowKit.intOf]; omega
            · have hx' : ∀ e ∈ L, e.t ≠ t := fun e he c => hx ⟨e, he, c⟩
              have HXX : Hid (∀ e ∈ L, e.t ≠ t) := hx'
              clear hx hx'
              go_wp2_with fail
              refine (amove_no g l t m S L (wr.alloc (.cells #[.int .i64 3, .int .i64 ((m : Nat) : Int), .int .i64 ((t : Nat) : Int), .string s] 31)) HV.out.1.ag HT.out.1 HT.out.2.1 HT.out.2.2 HXX.out).mono ?_
              rintro e w2 ⟨rfl, hw2⟩
              rw [hw2]
              clear hw2 w2
              go_wp2_with fail
              go_roundw
              case rel => first | exact ⟨k + 1, nA, aA, capA, HX.out.2.2.1, by go_num, rfl, HK.out⟩ | ((repeat apply Exists.intro); exact ⟨⟨k + 1, nA, aA, capA, HX.out.2.2.1, by go_num, rfl, HK.out⟩, rfl⟩)
              case measure => have h1 := HX.out.2.2.1; simp [Go.RowKit.intOf]; omega
          · have HM : Hid (¬ (1 ≤ M ∧ 0 ≤ N ∧ N ≤ 1099511627776)) := hm
            clear hm
            go_wp2_with fail
            refine (amove_arg (some ⟨g, 0, none⟩) M N HM.out (wr.alloc (.cells #[.int .i64 3, .int .i64 N, .int .i64 M, .string s] 31))).mono ?_
            rintro e w2 ⟨rfl, hw2⟩
            rw [hw2]
            clear hw2 w2
            go_wp2_with fail
            go_roundw
            case rel => first | exact ⟨k + 1, nA, aA, capA, HX.out.2.2.1, by go_num, rfl, HK.out⟩ | ((repeat apply Exists.intro); exact ⟨⟨k + 1, nA, aA, capA, HX.out.2.2.1, by go_num, rfl, HK.out⟩, rfl⟩)
            case measure => have h1 := HX.out.2.2.1; simp [Go.RowKit.intOf]; omega
      · as_aux_lemma =>
          have HV : Hid (OnR w (wr.alloc (.cells #[.int .i64 4, .int .i64 N, .int .i64 M, .string s] 31)) g g l L S aA capA A ∧ ¬ S wr.heap.size ∧ (wr.alloc (.cells #[.int .i64 4, .int .i64 N, .int .i64 M, .string s] 31)).heap.size = wr.heap.size + 1) := ⟨HL.out.2.2.2.1.call (below_alloc0 (Below.refl _ _) _), fun c => absurd (HL.out.2.2.2.1.sl _ c) (Nat.lt_irrefl _), by simp⟩
          have y0 : (wr.alloc (.cells #[.int .i64 4, .int .i64 N, .int .i64 M, .string s] 31)).cell? ⟨wr.heap.size, 0, none⟩ = some (.int .i64 4) := by rw [World.cell?_alloc_new]; rfl
          have y1 : (wr.alloc (.cells #[.int .i64 4, .int .i64 N, .int .i64 M, .string s] 31)).cell? ⟨wr.heap.size, 1, none⟩ = some (.int .i64 N) := by rw [World.cell?_alloc_new]; rfl
          have y2 : (wr.alloc (.cells #[.int .i64 4, .int .i64 N, .int .i64 M, .string s] 31)).cell? ⟨wr.heap.size, 2, none⟩ = some (.int .i64 M) := by rw [World.cell?_alloc_new]; rfl
          have y3 : (wr.alloc (.cells #[.int .i64 4, .int .i64 N, .int .i64 M, .string s] 31)).cell? ⟨wr.heap.size, 3, none⟩ = some (.string s) := by rw [World.cell?_alloc_new]; rfl
          have HK : Hid (OnK w (wr.alloc (.cells #[.int .i64 4, .int .i64 N, .int .i64 M, .string s] 31)) g g (k + 1) nA aA capA) := ⟨l, L, S, A, Nat.le_succ_of_le HL.out.1, HL.out.2.1, HL.out.2.2.1, HV.out.1⟩
          by_cases hm : 0 ≤ N ∧ N ≤ 1099511627776
          · obtain ⟨m, rfl⟩ : ∃ m : Nat, N = (m : Int) := ⟨N.toNat, by omega⟩
            have HM : Hid (m ≤ 1099511627776) := by exact (by omega : m ≤ 1099511627776)
            clear hm
            go_wp2_with fail
            refine (atake_ok g l m (fun k => S k ∨ (wr.alloc (.cells #[.int .i64 4, .int .i64 ((m : Nat) : Int), .int .i64 M, .string s] 31)).heap.size ≤ k) L HM.out (wr.alloc (.cells #[.int .i64 4, .int .i64 ((m : Nat) : Int), .int .i64 M, .string s] 31)) (fun k hk => .inr hk) (HV.out.1.ag.mono (fun k _ hk => .inl hk))).mono ?_
            rintro e w2 ⟨a4, m4, cap4, rfl, hm4, hR4, hq4, hA2, hO2⟩
            have hEn : ¬ (S wr.heap.size ∨ (wr.alloc (.cells #[.int .i64 4, .int .i64 ((m : Nat) : Int), .int .i64 M, .string s] 31)).heap.size ≤ wr.heap.size) := fun c => c.elim HV.out.2.1 (fun c => by have := HV.out.2.2; omega)
            have z1 := (hO2.cell (p := ⟨wr.heap.size, 1, none⟩) hEn).trans y1
            have H2 := HV.out.1.op hA2 hO2
            have hml : m4 ≤ 512 := by have h1 := HV.out.1.ag.len5; have h2 : (due m L).length ≤ L.length := by { unfold due; exact (List.takeWhile_prefix _).length_le }; omega
            obtain ⟨v0, hv0, _⟩ := at_get HL.out.2.2.1 (Nat.zero_le l)
            obtain ⟨q, o, rfl, _, _, hqz, _, _⟩ := HL.out.2.2.2.1.at hv0
            have HT0 : Hid (LpI w w2 g g l L (rest m L) (fun k => (S k ∨ (wr.alloc (.cells #[.int .i64 4, .int .i64 ((m : Nat) : Int), .int .i64 M, .string s] 31)).heap.size ≤ k) ∧ k < w2.heap.size) q o capA A a4 cap4 m4 (due m L) wr.heap.size m 0) := ⟨H2, HL.out.2.2.1, hR4, z1, by have := hO2.size; have := HV.out.2.2; omega⟩
            have HT1 : Hid (m4 = (due m L).length ∧ m4 ≤ 512 ∧ q ≠ wr.heap.size ∧ (∀ q', a4 = some ⟨q', 0, none⟩ → q' ≠ q) ∧ Srt L ∧ Dst L ∧ ∀ e ∈ L, 1 ≤ e.t ∧ e.t ≤ l) := ⟨hm4, hml, by omega, fun q' h => by have := hq4 q' h; have := HV.out.2.2; omega, HV.out.1.ag.srt, HV.out.1.ag.dst, fun e he => ⟨(HV.out.1.ag.mem e he).1, (HV.out.1.ag.mem e he).2.1⟩⟩
            have m45 : (m4 : Int) ≤ 512 := by omega
            have mm5 : (m : Int) ≤ 1099511627776 := by have := HM.out; omega
            clear hm4 hR4 hq4 hA2 hO2 hEn z1 H2 hml hv0 hqz y0 y1 y2 y3 HK c0 c1 c2 c3
            go_wp2_with fail
            rename_i Kr2 hKr2
            have HKr2 : Hid _ := hKr2
            clear hKr2
            go_loopw [139] (fun iv wx => ∃ (i : Nat) (A' : List Int), iv = .int .i64 (i : Nat) ∧ i ≤ m4 ∧ LpI w wx g g l L (rest m L) (fun k => (S k ∨ (wr.alloc (.cells #[.int .i64 4, .int .i64 ((m : Nat) : Int), .int .i64 M, .string s] 31)).heap.size ≤ k) ∧ k < w2.heap.size) q o capA A' a4 cap4 m4 (due m L) wr.heap.size m i) (fun iv _ => m4 - (Go.RowKit.intOf iv).toNat)
            case atStart => exact ⟨0, A, rfl, Nat.zero_le _, HT0.out⟩
            case round =>
              obtain ⟨i, A', rfl, hi, hI⟩ := hrel
              rename World => wx
              have HI : Hid (LpI w wx g g l L (rest m L) (fun k => (S k ∨ (wr.alloc (.cells #[.int .i64 4, .int .i64 ((m : Nat) : Int), .int .i64 M, .string s] 31)).heap.size ≤ k) ∧ k < w2.heap.size) q o capA A' a4 cap4 m4 (due m L) wr.heap.size m i) := hI
              by_cases hlt : i < m4
              · obtain ⟨x, hLx, heF, hxm, hxL⟩ := due_get (by rw [← HT1.out.1]; exact hlt)
                have hdr : L.drop i = x :: L.drop (i + 1) := by obtain ⟨h1, rfl⟩ := List.getElem?_eq_some_iff.1 hLx; exact List.drop_eq_getElem_cons h1
                obtain ⟨v, hv, hmo⟩ := at_get hI.at' (HT1.out.2.2.2.2.2.2 x hxL).2
                have hvm : v = (x.m : Nat) := mom_in (HT1.out.2.2.2.2.2.1.drop i) (by rw [hdr]; exact List.mem_cons_self ..) hmo
                subst hvm
                have hrow := hI.row
                rcases hrow with ⟨_, h0, _⟩ | ⟨q4, ha4, hrow⟩
                · omega
                subst ha4
                have e0 := hrow.c0 i hlt
                have e1 := hrow.c1 i hlt
                have e2 := hrow.c2 i hlt
                rw [heF] at e0 e1 e2
                have hq4z := hrow.lt
                obtain ⟨q', o', hqo, cq, fq, hqz, _, _⟩ := hI.on.at hv
                cases hqo
                have ce := hI.ce
                have ez := hI.ez
                have HX2 : Hid (i < m4 ∧ L[i]? = some x ∧ L.drop i = x :: L.drop (i + 1) ∧ A'[x.t]? = some ((x.m : Nat) : Int)) := ⟨hlt, hLx, hdr, hv⟩
                have k1 : (i : Int) < (m4 : Int) := by omega
                have hx1 := (HT1.out.2.2.2.2.2.2 x hxL)
                have k2 : ¬ ((x.t : Int) < 1) := by omega
                have k2d : decide ((x.t : Int) < 1) = false := decide_eq_false k2
                have k2n : decide (x.t < 1) = false := decide_eq_false (by omega)
                have hxn : x.t < nA := by have := HL.out.2.2.2.2.1; omega
                have k3 : ¬ ((nA : Int) ≤ (x.t : Int)) := by omega
                have k3d : decide ((nA : Int) ≤ (x.t : Int)) = false := decide_eq_false k3
                have k3n : decide (nA ≤ x.t) = false := decide_eq_false (by omega)
                have k4 : (x.t : Int) < (nA : Int) := by omega
                have k5 : ¬ ((m : Int) < (x.m : Int)) := by omega
                have k5d : decide ((m : Int) < (x.m : Int)) = false := decide_eq_false k5
                have k5n : decide (m < x.m) = false := decide_eq_false (by omega)
                have hbA : Below wx.heap.size wx (wx.alloc (.cells #[.int .i64 (x.t : Nat), .int .i64 (x.m : Nat), .string x.s] 34)) := below_alloc0 (Below.refl _ _) _
                have f0 : (wx.alloc (.cells #[.int .i64 (x.t : Nat), .int .i64 (x.m : Nat), .string x.s] 34)).cell? ⟨wx.heap.size, 0, none⟩ = some (.int .i64 (x.t : Nat)) := by rw [World.cell?_alloc_new]; rfl
                have f1 : (wx.alloc (.cells #[.int .i64 (x.t : Nat), .int .i64 (x.m : Nat), .string x.s] 34)).cell? ⟨wx.heap.size, 1, none⟩ = some (.int .i64 (x.m : Nat)) := by rw [World.cell?_alloc_new]; rfl
                have cq' := (hbA.cell (p := ⟨q, _, none⟩) hqz).trans cq
                have fq' : ∀ j, (wx.alloc (.cells #[.int .i64 (x.t : Nat), .int .i64 (x.m : Nat), .string x.s] 34)).frozen? ⟨q, j, none⟩ = false := fun j => (hbA.frozen (p := ⟨q, j, none⟩) hqz).trans (fq j)
                have ce' := (hbA.cell (p := ⟨wr.heap.size, 1, none⟩) ez).trans ce
                have H9 : Hid (LpI w ((wx.alloc (.cells #[.int .i64 (x.t : Nat), .int .i64 (x.m : Nat), .string x.s] 34)).setCell ⟨q, o + x.t, none⟩ (.int .i64 (-1))) g g l L (rest m L) (fun k => (S k ∨ (wr.alloc (.cells #[.int .i64 4, .int .i64 ((m : Nat) : Int), .int .i64 M, .string s] 31)).heap.size ≤ k) ∧ k < w2.heap.size) q o capA (A'.set x.t (-1)) (some ⟨q4, 0, none⟩) cap4 m4 (due m L) wr.heap.size m (i + 1)) := (HI.out.call hbA).step hdr rfl (by rw [← hdr]; exact HT1.out.2.2.2.2.1.drop i) (by rw [← hdr]; exact HT1.out.2.2.2.2.2.1.drop i) hv HT1.out.2.2.1 HT1.out.2.2.2.1
                have hio : i = 0 ∨ ∃ j, i = j + 1 := by cases i with | zero => exact .inl rfl | succ j => exact .inr ⟨j, rfl⟩
                rcases hio with rfl | ⟨j, hj⟩
                · clear hI hi hlt hLx heF hxm hxL hdr hv hmo hrow hqz hx1 hxn HKr2 cq fq ce
                  go_wp2_with fail
                  generalize wx.alloc (.cells #[.int .i64 (x.t : Nat), .int .i64 (x.m : Nat), .string x.s] 34) = V5 at *
                  go_quiet (fail)
                  go_wp2_with fail
                  go_quiet (fail)
                  go_wp2_with fail
                  go_roundw
                  case rel => first | exact ⟨1, A'.set x.t (-1), by go_num, HX2.out.1, H9.out.call ⟨rfl, rfl, rfl, Nat.le_refl _, fun _ _ => rfl⟩⟩ | ((repeat apply Exists.intro); exact ⟨⟨1, A'.set x.t (-1), by go_num, HX2.out.1, H9.out.call ⟨rfl, rfl, rfl, Nat.le_refl _, fun _ _ => rfl⟩⟩, rfl⟩)
                  case measure => have h1 := HX2.out.1; simp [Go.RowKit.intOf]; omega
                · obtain ⟨p, hLp⟩ : ∃ p, L[j]? = some p := ⟨_, List.getElem?_eq_getElem (by have := (List.getElem?_eq_some_iff.1 hLx).1; omega)⟩
                  have hpx : eLt p x := srt_next HT1.out.2.2.2.2.1 hLp (by rw [← hj]; exact hLx)
                  have heP : enF (due m L) j = p := by
                    obtain ⟨p', h1, h2, _⟩ := due_get (m := m) (i := j) (L := L) (by rw [← HT1.out.1]; omega)
                    rw [hLp] at h1
                    cases h1
                    exact h2
                  have p0 := hrow.c0 j (by omega)
                  have p1 := hrow.c1 j (by omega)
                  rw [heP] at p0 p1
                  replace p0 := (hbA.cell (p := ⟨q4, _, none⟩) hq4z).trans p0
                  replace p1 := (hbA.cell (p := ⟨q4, _, none⟩) hq4z).trans p1
                  have j1 : (i : Int) - 1 = (j : Int) := by omega
                  have j2 : (0 : Int) < (i : Nat) := by omega
                  have j2d : decide ((0 : Int) < (i : Nat)) = true := decide_eq_true j2
                  have j2n : decide (0 < i) = true := decide_eq_true (by omega)
                  have j3 : (j : Int) < (m4 : Int) := by omega
                  have j4 : (j : Int) ≤ 512 := by omega
                  have i512 : (i : Int) ≤ 512 := by omega
                  have hpc : p.m < x.m ∨ (p.m = x.m ∧ p.t < x.t) := hpx
                  clear hI hi hlt hLx heF hxm hxL hdr hv hmo hrow hqz hx1 hxn HKr2 cq fq ce hj hLp hpx heP
                  rcases hpc with hp | ⟨hp, hp2⟩
                  · have r1 : ¬ ((x.m : Int) < (p.m : Int)) := by omega
                    have r1d : decide ((x.m : Int) < (p.m : Int)) = false := decide_eq_false r1
                    have r1n : decide (x.m < p.m) = false := decide_eq_false (by omega)
                    have r2 : ¬ ((p.m : Int) = (x.m : Int)) := by omega
                    have r2d : ((p.m : Int) == (x.m : Int)) = false := by simpa using r2
                    have r2n : (p.m == x.m) = false := by simpa using (by omega : ¬ p.m = x.m)
                    clear hp
                    go_wp2_with fail
                    generalize wx.alloc (.cells #[.int .i64 (x.t : Nat), .int .i64 (x.m : Nat), .string x.s] 34) = V5 at *
                    go_quiet (fail)
                    go_wp2_with fail
                    go_quiet (fail)
                    go_wp2_with fail
                    go_roundw
                    case rel => first | exact ⟨i + 1, A'.set x.t (-1), by go_num, HX2.out.1, H9.out.call ⟨rfl, rfl, rfl, Nat.le_refl _, fun _ _ => rfl⟩⟩ | ((repeat apply Exists.intro); exact ⟨⟨i + 1, A'.set x.t (-1), by go_num, HX2.out.1, H9.out.call ⟨rfl, rfl, rfl, Nat.le_refl _, fun _ _ => rfl⟩⟩, rfl⟩)
                    case measure => have h1 := HX2.out.1; simp [Go.RowKit.intOf]; omega
                  · have r1 : ¬ ((x.m : Int) < (p.m : Int)) := by omega
                    have r1d : decide ((x.m : Int) < (p.m : Int)) = false := decide_eq_false r1
                    have r1n : decide (x.m < p.m) = false := decide_eq_false (by omega)
                    have r2 : ((p.m : Int) = (x.m : Int)) := by omega
                    have r2d : ((p.m : Int) == (x.m : Int)) = true := by simpa using r2
                    have r2n : (p.m == x.m) = true := by simpa using hp
                    have r3 : ¬ ((x.t : Int) ≤ (p.t : Int)) := by omega
                    have r3d : decide ((x.t : Int) ≤ (p.t : Int)) = false := decide_eq_false r3
                    have r3n : decide (x.t ≤ p.t) = false := decide_eq_false (by omega)
                    clear hp hp2 r2
                    go_wp2_with fail
                    generalize wx.alloc (.cells #[.int .i64 (x.t : Nat), .int .i64 (x.m : Nat), .string x.s] 34) = V5 at *
                    go_quiet (fail)
                    go_wp2_with fail
                    go_quiet (fail)
                    go_wp2_with fail
                    go_roundw
                    case rel => first | exact ⟨i + 1, A'.set x.t (-1), by go_num, HX2.out.1, H9.out.call ⟨rfl, rfl, rfl, Nat.le_refl _, fun _ _ => rfl⟩⟩ | ((repeat apply Exists.intro); exact ⟨⟨i + 1, A'.set x.t (-1), by go_num, HX2.out.1, H9.out.call ⟨rfl, rfl, rfl, Nat.le_refl _, fun _ _ => rfl⟩⟩, rfl⟩)
                    case measure => have h1 := HX2.out.1; simp [Go.RowKit.intOf]; omega
              · obtain rfl : i = m4 := by omega
                have hnl : ¬ ((i : Int) < (i : Int)) := Int.lt_irrefl _
                have hat := hI.at'
                rw [HT1.out.1, drop_due] at hat
                have HF : Hid (OnK w wx g g (k + 1) nA (some ⟨q, o, none⟩) capA) := ⟨l, rest m L, _, A', Nat.le_succ_of_le HL.out.1, by rw [hat.1]; exact HL.out.2.2.2.2.1, hat, hI.on⟩
                have HAt : Hid (AtI A' (rest m L) l) := hat
                have ce := hI.ce
                clear hlt hi hI hat
                go_wp2_with fail
                refine HKr2.out _ _ ?_
                clear HKr2
                go_wp2_with fail
                rename_i Kr3 hKr3
                have HKr3 : Hid _ := hKr3
                clear hKr3
                go_loopw [213] (fun iv wy => ∃ j : Nat, iv = .int .i64 (j : Nat) ∧ j ≤ nA ∧ wx = wy) (fun iv _ => nA - (Go.RowKit.intOf iv).toNat)
                case atStart => exact ⟨0, rfl, Nat.zero_le _, rfl⟩
                case round =>
                  obtain ⟨j, rfl, hj, rfl⟩ := hrel
                  by_cases hlt : j < nA
                  · obtain ⟨v, hv, hmo⟩ := at_get (t := j) HAt.out (by have := HL.out.2.2.2.2.1; omega)
                    obtain ⟨q', o', hqo, cq, _, _, _, _⟩ := HI.out.on.at hv
                    cases hqo
                    have j1 : (j : Int) < (nA : Int) := by omega
                    have HJ : Hid (j < nA) := hlt
                    have hvc : v < 0 ∨ (0 ≤ v ∧ (m : Int) < v) := by
                      rcases hmo with ⟨y, hy, _, h2⟩ | ⟨_, h2⟩
                      · have := rest_gt HT1.out.2.2.2.2.1 y hy
                        right; omega
                      · left; omega
                    clear hv hmo hlt hj HKr3
                    rcases hvc with h1 | ⟨h1, h2⟩
                    · have r1 : ¬ ((0 : Int) ≤ v) := by omega
                      have r1d : decide ((0 : Int) ≤ v) = false := decide_eq_false r1
                      go_wp2_with fail
                      go_roundw
                      case rel => first | exact ⟨j + 1, by go_num, HJ.out, trivial⟩ | exact ⟨j + 1, by go_num, HJ.out, rfl⟩ | ((repeat apply Exists.intro); exact ⟨⟨j + 1, by go_num, HJ.out, rfl⟩, rfl⟩)
                      case measure => have h1 := HJ.out; simp [Go.RowKit.intOf]; omega
                    · have r1d : decide ((0 : Int) ≤ v) = true := decide_eq_true h1
                      have r2 : ¬ (v ≤ (m : Int)) := by omega
                      have r2d : decide (v ≤ (m : Int)) = false := decide_eq_false r2
                      go_wp2_with fail
                      go_roundw
                      case rel => first | exact ⟨j + 1, by go_num, HJ.out, trivial⟩ | exact ⟨j + 1, by go_num, HJ.out, rfl⟩ | ((repeat apply Exists.intro); exact ⟨⟨j + 1, by go_num, HJ.out, rfl⟩, rfl⟩)
                      case measure => have h1 := HJ.out; simp [Go.RowKit.intOf]; omega
                  · obtain rfl : j = nA := by omega
                    have hnl2 : ¬ ((j : Int) < (j : Int)) := Int.lt_irrefl _
                    clear hlt hj
                    clear HKr3
                    go_wp2_with fail
                    go_roundw
                    case rel => first | exact ⟨k + 1, j, some ⟨q, o, none⟩, capA, HX.out.2.2.1, by go_num, rfl, HF.out⟩ | ((repeat apply Exists.intro); exact ⟨⟨k + 1, j, some ⟨q, o, none⟩, capA, HX.out.2.2.1, by go_num, rfl, HF.out⟩, rfl⟩)
                    case measure => have h1 := HX.out.2.2.1; simp [Go.RowKit.intOf]; omega
          · have HM : Hid (¬ (0 ≤ N ∧ N ≤ 1099511627776)) := hm
            clear hm
            go_wp2_with fail
            refine (atake_arg (some ⟨g, 0, none⟩) N HM.out (wr.alloc (.cells #[.int .i64 4, .int .i64 N, .int .i64 M, .string s] 31))).mono ?_
            rintro e w2 ⟨rfl, hw2⟩
            rw [hw2]
            clear hw2 w2
            go_wp2_with fail
            go_roundw
            case rel => first | exact ⟨k + 1, nA, aA, capA, HX.out.2.2.1, by go_num, rfl, HK.out⟩ | ((repeat apply Exists.intro); exact ⟨⟨k + 1, nA, aA, capA, HX.out.2.2.1, by go_num, rfl, HK.out⟩, rfl⟩)
            case measure => have h1 := HX.out.2.2.1; simp [Go.RowKit.intOf]; omega
      · as_aux_lemma =>
          have HV : Hid (OnR w (wr.alloc (.cells #[.int .i64 X, .int .i64 N, .int .i64 M, .string s] 31)) g g l L S aA capA A ∧ ¬ S wr.heap.size ∧ (wr.alloc (.cells #[.int .i64 X, .int .i64 N, .int .i64 M, .string s] 31)).heap.size = wr.heap.size + 1) := ⟨HL.out.2.2.2.1.call (below_alloc0 (Below.refl _ _) _), fun c => absurd (HL.out.2.2.2.1.sl _ c) (Nat.lt_irrefl _), by simp⟩
          have y0 : (wr.alloc (.cells #[.int .i64 X, .int .i64 N, .int .i64 M, .string s] 31)).cell? ⟨wr.heap.size, 0, none⟩ = some (.int .i64 X) := by rw [World.cell?_alloc_new]; rfl
          have y1 : (wr.alloc (.cells #[.int .i64 X, .int .i64 N, .int .i64 M, .string s] 31)).cell? ⟨wr.heap.size, 1, none⟩ = some (.int .i64 N) := by rw [World.cell?_alloc_new]; rfl
          have y2 : (wr.alloc (.cells #[.int .i64 X, .int .i64 N, .int .i64 M, .string s] 31)).cell? ⟨wr.heap.size, 2, none⟩ = some (.int .i64 M) := by rw [World.cell?_alloc_new]; rfl
          have y3 : (wr.alloc (.cells #[.int .i64 X, .int .i64 N, .int .i64 M, .string s] 31)).cell? ⟨wr.heap.size, 3, none⟩ = some (.string s) := by rw [World.cell?_alloc_new]; rfl
          have HK : Hid (OnK w (wr.alloc (.cells #[.int .i64 X, .int .i64 N, .int .i64 M, .string s] 31)) g g (k + 1) nA aA capA) := ⟨l, L, S, A, Nat.le_succ_of_le HL.out.1, HL.out.2.1, HL.out.2.2.1, HV.out.1⟩
          clear y0 y1 y2 y3
          go_wp2_with fail
          go_roundw
          case rel => first | exact ⟨k + 1, nA, aA, capA, HX.out.2.2.1, by go_num, rfl, HK.out⟩ | ((repeat apply Exists.intro); exact ⟨⟨k + 1, nA, aA, capA, HX.out.2.2.1, by go_num, rfl, HK.out⟩, rfl⟩)
          case measure => have h1 := HX.out.2.2.1; simp [Go.RowKit.intOf]; omega
    · obtain rfl : k = n := by omega
      have hnl : ¬ ((k : Int) < (k : Int)) := Int.lt_irrefl _
      have HB : Hid (Below g w wr) := hbl
      clear hlt hk hB hbl
      go_wp2_with fail
      refine HKr.out _ _ ?_
      clear HKr
      go_wp2_with fail
      refine (three_any _).mono ?_
      rintro e w6 ⟨rfl, hb6⟩
      have H6 : Hid (Below g w w6) := HB.out.trans (hb6.mono (Nat.le_trans (Nat.le_of_eq HG.out) HB.out.size))
      clear hb6
      go_wp2_with fail
      go_ret
      exact ⟨rfl, by rw [← HG.out]; exact H6.out⟩
theorem agendaOnce_in (a : Option Addr) (n cap : Nat) (w : World) (hS : StepsA w a n) : Calls Try.prog 4 #[.slice a n cap] w fun e w' => e = .returned (.bool true) ∧ Below w.heap.size w w' := by
  by_cases h : 300 < n
  · exact agendaOnce_no a n cap w h
  · exact agendaOnce_ok a n cap (by omega) w hS
end Go.Proofs.Ytkgfeiigdhbddaa
