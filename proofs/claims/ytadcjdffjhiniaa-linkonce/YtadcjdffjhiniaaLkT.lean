/- The law LinkSends: the walk. -/
import Derived.Test.YtadcjdffjhiniaaLkS
import Derived.Test.YtadcjdffjhiniaaLkR
namespace Go.Proofs.Ytadcjdffjhiniaa
open Go Go.RowKit Go.Lib

theorem Snd.new {w1 : World} {G life i j : Nat} (hS : SenderAt w1 G (From (G + 1)) life 0 []) (hz : w1.heap.size = G + 1) (h : i ≠ j) : Snd w1 (fun k => if k = G then j else 0) i j G life 0 [] :=
  ⟨if_pos rfl, h, hS.mono (fun q => q.elim (fun q => by have q' : (if G = G then j else 0) = i := q; rw [if_pos rfl] at q'; exact h q'.symm) (fun q => by omega)) (fun k hk => .inr hk) (fun k hk hF => by have : G + 1 ≤ k := hF; omega)⟩
theorem Snd.fresh {w1 : World} {c : Nat → Nat} {i j life : Nat} {y : TypeId} (h : i ≠ j) : Snd (w1.alloc (.cells #[.int .i64 (life : Nat), .int .i64 0, .slice none 0 0] y)) (paint c w1 (w1.alloc (.cells #[.int .i64 (life : Nat), .int .i64 0, .slice none 0 0] y)) j) i j w1.heap.size life 0 [] := by
  have hn : paint c w1 (w1.alloc (.cells #[.int .i64 (life : Nat), .int .i64 0, .slice none 0 0] y)) j w1.heap.size = j := paint_new (Nat.le_refl _) (by simp)
  refine ⟨hn, h, none, 0, by simp [go_sem], by simp [go_sem], by simp [go_sem], fun o => by simp [go_sem], fun q => ?_, fun k hk => .inr hk, RowV.nil _ _⟩
  rcases q with q | q
  · rw [hn] at q; exact h q.symm
  · rw [World.size_alloc] at q; omega
def SendsAt (w : World) (p o n : Nat) : Prop :=
  ∀ j, j < n → ∃ (X : Int) (s : ByteArray), w.cell? ⟨p, o + j * 2, none⟩ = some (.int .i64 X) ∧ w.cell? ⟨p, o + j * 2 + 1, none⟩ = some (.string s) ∧ s.size < 140737488351233 ∧ p < w.heap.size
theorem linkSends_no (life : Int) (hl : ¬ (1 ≤ life ∧ life ≤ 1099511627776)) (v : Value) (w : World) : Calls Try.prog 3 #[.int .i64 life, v] w fun e w' => e = .returned (.bool true) ∧ Below w.heap.size w w' := by
  have K1 : Hid _ := fun w : World => newSender_no life hl w
  have K2 : Hid _ := fun w : World => ltwo_any w
  by_cases h1 : life < 1
  · clear hl
    go_enter Try.func3, Try.ntmps3
    go_wp2_with fail
    refine (K1.out _).mono ?_
    rintro e w1 ⟨rfl, hb1⟩
    have H1 : Hid _ := hb1
    clear hb1
    go_wp2_with fail
    refine (K2.out _).mono ?_
    rintro e w2 ⟨rfl, hb2⟩
    have H2 : Hid _ := below_call0 H1.out hb2
    clear hb2
    go_wp2_with fail
    go_ret
    exact ⟨rfl, H2.out⟩
  · have h2 : 1099511627776 < life := by omega
    clear hl
    go_enter Try.func3, Try.ntmps3
    go_wp2_with fail
    refine (K1.out _).mono ?_
    rintro e w1 ⟨rfl, hb1⟩
    have H1 : Hid _ := hb1
    clear hb1
    go_wp2_with fail
    refine (K2.out _).mono ?_
    rintro e w2 ⟨rfl, hb2⟩
    have H2 : Hid _ := below_call0 H1.out hb2
    clear hb2
    go_wp2_with fail
    go_ret
    exact ⟨rfl, H2.out⟩
theorem linkSends_long (life : Nat) (hl : 1 ≤ life ∧ life ≤ 1099511627776) (a : Option Addr) (n cap : Nat) (hn : 300 < n) (w : World) : Calls Try.prog 3 #[.int .i64 (life : Nat), .slice a n cap] w fun e w' => e = .returned (.bool true) ∧ Below w.heap.size w w' := by
  have K1 : Hid _ := fun w : World => newSender_in life hl w
  have K2 : Hid _ := fun w : World => ltwo_any w
  have l1 : ¬ ((life : Int) < 1) := by omega
  have l2 : ¬ ((1099511627776 : Int) < (life : Int)) := by omega
  have n1 : (300 : Int) < (n : Int) := by omega
  clear hl hn
  go_enter Try.func3, Try.ntmps3
  go_wp2_with fail
  refine (K1.out _).mono ?_
  rintro e w1 ⟨rfl, -, hb1, -⟩
  have H1 : Hid _ := hb1
  clear hb1
  go_wp2_with fail
  refine (K2.out _).mono ?_
  rintro e w2 ⟨rfl, hb2⟩
  have H2 : Hid _ := below_call0 H1.out hb2
  clear hb2
  go_wp2_with fail
  go_ret
  exact ⟨rfl, H2.out⟩
/-- The law's state: both ends. -/
def Both (w wr : World) (c : Nat → Nat) (G H life gone : Nat) (L : List ByteArray) (m : Nat) : Prop :=
  Snd wr c 1 11 G life L.length (L.drop gone) ∧ Snd wr c 2 12 H life gone L ∧ gone ≤ L.length ∧ L.length ≤ m ∧ (∀ s ∈ L, s.size ≤ 7900) ∧ (∀ k, k < w.heap.size → k < wr.heap.size ∧ c k = 0) ∧ Below w.heap.size w wr
theorem Both.call {w wr w' : World} {c : Nat → Nat} {G H life gone : Nat} {L : List ByteArray} {m : Nat} (h : Both w wr c G H life gone L m) (hb : Below wr.heap.size wr w') : Both w w' (paint c wr w' 0) G H life gone L m :=
  ⟨h.1.call hb (by decide) (by decide), h.2.1.call hb (by decide) (by decide), h.2.2.1, h.2.2.2.1, h.2.2.2.2.1, fun k hk => ⟨Nat.lt_of_lt_of_le (h.2.2.2.2.2.1 k hk).1 hb.size, by rw [paint_old (h.2.2.2.2.2.1 k hk).1]; exact (h.2.2.2.2.2.1 k hk).2⟩, below_call0 h.2.2.2.2.2.2 hb⟩
theorem zero_paint {w wr w' : World} {c : Nat → Nat} {i : Nat} (h : ∀ k, k < w.heap.size → k < wr.heap.size ∧ c k = 0) (hz : wr.heap.size ≤ w'.heap.size) : ∀ k, k < w.heap.size → k < w'.heap.size ∧ paint c wr w' i k = 0 :=
  fun k hk => ⟨Nat.lt_of_lt_of_le (h k hk).1 hz, by rw [paint_old (h k hk).1]; exact (h k hk).2⟩
set_option maxRecDepth 100000 in
set_option maxHeartbeats 8000000 in
theorem linkSends_in (life : Nat) (hl : 1 ≤ life ∧ life ≤ 1099511627776) (a0 : Option Addr) (p o n cap : Nat) (ha : 0 < n → a0 = some ⟨p, o, none⟩) (hn : n ≤ 300) (w : World) (hS : SendsAt w p o n) :
    Calls Try.prog 3 #[.int .i64 (life : Nat), .slice a0 n cap] w fun e w' => e = .returned (.bool true) ∧ Below w.heap.size w w' := by
  have K1 : Hid _ := fun w : World => newSender_in life hl w
  have K2 : Hid _ := fun w : World => ltwo_any w
  have HS : Hid (SendsAt w p o n) := hS
  have HA : Hid (0 < n → a0 = some ⟨p, o, none⟩) := ha
  have HLf : Hid (1 ≤ life ∧ life ≤ 1099511627776) := hl
  have l1 : ¬ ((life : Int) < 1) := by omega
  have l2 : ¬ ((1099511627776 : Int) < (life : Int)) := by omega
  have n1 : ¬ ((300 : Int) < (n : Int)) := by omega
  have N3 : Hid (n ≤ 300) := hn
  clear hS ha hl hn
  go_enter Try.func3, Try.ntmps3
  go_wp2_with fail
  refine (K1.out _).mono ?_
  rintro e w1 ⟨rfl, hS1, hb1, hs1⟩
  obtain ⟨G, hG⟩ : ∃ G, G = w.heap.size := ⟨_, rfl⟩
  obtain ⟨H, hH⟩ : ∃ H, H = w1.heap.size := ⟨_, rfl⟩
  obtain ⟨w2, hw2⟩ : ∃ y, y = w1.alloc (.cells #[.int .i64 (life : Nat), .int .i64 0, .slice none 0 0] 31) := ⟨_, rfl⟩
  have H2 : Hid (∃ c, Both w w2 c G H life 0 [] 0) := by
    rw [hw2, hH, hG]
    have hb : Below w1.heap.size w1 (w1.alloc (.cells #[.int .i64 (life : Nat), .int .i64 0, .slice none 0 0] 31)) := below_alloc0 (Below.refl _ _) _
    refine ⟨paint (fun k => if k = w.heap.size then 11 else 0) w1 _ 12, (Snd.new hS1 hs1 (by decide)).keep (Chg.of_below hb (i := 12) (j := 12)) (by decide) (by decide) (by decide) (by decide), Snd.fresh (by decide), Nat.le_refl _, Nat.le_refl _, fun s hs => by simp at hs, zero_paint (fun k hk => ⟨by omega, if_neg (by omega)⟩) hb.size, below_call0 hb1 hb⟩
  rw [← hG]
  have HG : Hid (G = w.heap.size) := hG
  clear hS1 hs1 hb1 hG
  go_wp2_with fail
  rename_i Kr hKr
  have HKr : Hid _ := hKr
  clear hKr K1
  rw [← hw2, ← hH]
  clear hw2 hH
  go_loopw [63] (fun iv wr => ∃ (k : Nat) (c : Nat → Nat) (gone : Nat) (L : List ByteArray), k ≤ n ∧ iv = .int .i64 (k : Nat) ∧ Both w wr c G H life gone L k) (fun iv _ => n - (Go.RowKit.intOf iv).toNat)
  case atStart =>
    obtain ⟨c, hc⟩ := H2.out
    exact ⟨0, c, 0, [], Nat.zero_le _, rfl, hc⟩
  case round =>
    obtain ⟨k, c, gone, L, hk, rfl, hR⟩ := hrel
    rename World => wr
    have HR : Hid (Both w wr c G H life gone L k) := hR
    clear hR H2
    by_cases hlt : k < n
    · clear HKr K2
      have hlt' : (k : Int) < (n : Int) := Int.ofNat_lt.2 hlt
      obtain rfl := HA.out (Nat.lt_of_le_of_lt (Nat.zero_le _) hlt)
      obtain ⟨X, s, e0, e1, sz, pz⟩ := HS.out k hlt
      have g0 : wr.cell? ⟨p, o + k * 2, none⟩ = some (.int .i64 X) := (HR.out.2.2.2.2.2.2.cell (p := ⟨p, o + k * 2, none⟩) pz).trans e0
      have g1 : wr.cell? ⟨p, o + k * 2 + 1, none⟩ = some (.string s) := (HR.out.2.2.2.2.2.2.cell (p := ⟨p, o + k * 2 + 1, none⟩) pz).trans e1
      have n300 : k < 300 := by have := N3.out; omega
      have HZs : Hid (s.size < 140737488351233) := sz
      clear e0 e1 pz sz
      obtain ⟨wx, hwx⟩ : ∃ y, y = wr.alloc (.cells #[.int .i64 X, .string s] 33) := ⟨_, rfl⟩
      obtain ⟨cx, hcx⟩ : ∃ y, y = paint c wr wx 0 := ⟨_, rfl⟩
      have HX : Hid (Both w wx cx G H life gone L k) := by rw [hcx, hwx]; exact HR.out.call (below_alloc0 (Below.refl _ _) _)
      have HX2 : Hid (wr.heap.size < wx.heap.size ∧ cx wr.heap.size = 0) := by
        rw [hcx, hwx]
        exact ⟨by simp, paint_new (Nat.le_refl _) (by simp)⟩
      have HW : Hid (wx = wr.alloc (.cells #[.int .i64 X, .string s] 33)) := hwx
      clear hcx
      by_cases h2 : X = 2
      · subst h2
        have KA : Hid _ := fun (F : Nat → Prop) (w' : World) (h : SenderAt w' G F life L.length (L.drop gone)) => heard_all G F life gone L s HZs.out HX.out.2.2.1 (by have := HX.out.2.2.2.1; omega) w' h
        have KB : Hid _ := fun (F : Nat → Prop) (w' : World) (h : SenderAt w' H F life gone L) => rheard_any H F life gone L (by have := HX.out.2.2.2.1; omega) HX.out.2.2.1 s HZs.out w' h
        have hle := hdR_le s life gone L.length HX.out.2.2.1
        obtain ⟨r, hr⟩ : ∃ r, r = hdR s life gone L.length := ⟨_, rfl⟩
        rw [← hr] at KA KB hle
        obtain ⟨pn, pe, gz⟩ := r
        have HP : Hid (gz ≤ L.length ∧ L.length ≤ k + 1 ∧ ∀ s ∈ L, s.size ≤ 7900) := ⟨hle, Nat.le_succ_of_le HX.out.2.2.2.1, HX.out.2.2.2.2.1⟩
        clear hr hle
        subst hwx
        go_wp2_with fail
        refine (HX.out.1.op (fun F hS => KA.out F _ hS)).mono ?_
        rintro e w4 ⟨rfl, hS4, hC4⟩
        have c4 : w4.cell? ⟨wr.heap.size, 1, none⟩ = some (.string s) := (hC4.cell HX2.out.1 (by rw [HX2.out.2]; decide) (by rw [HX2.out.2]; decide)).trans (by simp [go_sem])
        have H4 : Hid (Snd w4 (paint cx (wr.alloc (.cells #[.int .i64 2, .string s] 33)) w4 1) 1 11 G life L.length (L.drop gz) ∧ Snd w4 (paint cx (wr.alloc (.cells #[.int .i64 2, .string s] 33)) w4 1) 2 12 H life gone L ∧ (∀ k, k < w.heap.size → k < w4.heap.size ∧ paint cx (wr.alloc (.cells #[.int .i64 2, .string s] 33)) w4 1 k = 0) ∧ Below w.heap.size w w4) := ⟨hS4, HX.out.2.1.keep hC4 (by decide) (by decide) (by decide) (by decide), zero_paint HX.out.2.2.2.2.2.1 (Off.size hC4), HX.out.2.2.2.2.2.2.trans (hC4.under HX.out.2.2.2.2.2.1 (by decide) (by decide))⟩
        clear hS4 hC4
        go_wp2_with fail
        refine (H4.out.2.1.op (fun F hS => KB.out F _ hS)).mono ?_
        rintro e w5 ⟨rfl, hS5, hC5⟩
        have HZ : Hid (Both w w5 (paint (paint cx (wr.alloc (.cells #[.int .i64 2, .string s] 33)) w4 1) w4 w5 2) G H life gz L (k + 1)) := ⟨H4.out.1.keep hC5 (by decide) (by decide) (by decide) (by decide), hS5, HP.out.1, HP.out.2.1, HP.out.2.2, zero_paint H4.out.2.2.1 (Off.size hC5), H4.out.2.2.2.trans (hC5.under H4.out.2.2.1 (by decide) (by decide))⟩
        clear hS5 hC5 c4
        go_wp2_with fail
        obtain ⟨tl, htl⟩ : ∃ x, x = (L.drop gz).length := ⟨_, rfl⟩
        obtain ⟨ln, hln⟩ : ∃ x, x = L.length := ⟨_, rfl⟩
        obtain ⟨fr, hfr⟩ : ∃ x, x = frL life gz (L.drop gz) := ⟨_, rfl⟩
        have hdl : (L.drop gz).length = L.length - gz := List.length_drop ..
        obtain ⟨aH, cH, -, dh1, dh2, -⟩ := HZ.out.2.1.2.2
        rw [← hln] at dh2
        have HD : Hid (w5.cell? ⟨H, 1, none⟩ = some (.int .i64 (gz : Nat)) ∧ w5.cell? ⟨H, 2, none⟩ = some (.slice aH ln cH) ∧ H < w5.heap.size) := ⟨dh1, dh2, HZ.out.2.1.lt⟩
        have lk : L.length ≤ 301 := by have := HZ.out.2.2.2.1; have := n300; omega
        have gl := HZ.out.2.2.1
        have KW : Hid _ := fun (w' : World) (h : SenderAt w' G (fun k => (paint (paint cx (wr.alloc (.cells #[.int .i64 2, .string s] 33)) w4 1) w4 w5 2) k = 1 ∨ w5.heap.size ≤ k) life L.length (L.drop gz)) => waiting_any G _ life L.length (L.drop gz) w' h
        rw [← htl] at KW
        have KF : Hid (∀ w' : World, SenderAt w' G (fun k => (paint (paint cx (wr.alloc (.cells #[.int .i64 2, .string s] 33)) w4 1) w4 w5 2) k = 1 ∨ w5.heap.size ≤ k) life L.length (L.drop gz) → Calls Try.prog 16 #[.pointer (some ⟨G, 0, none⟩)] w' fun e w'' => e = .returned (.slice (some ⟨w'.heap.size, 0, none⟩) (min 16 tl) (min 16 tl)) ∧ Strs w'' (some ⟨w'.heap.size, 0, none⟩) fr ∧ Below w'.heap.size w' w'') := fun w' h => by
          have := frames_any G _ life L.length (L.drop gz) (by omega) (by omega) HLf.out.2 (fun s hs => HZ.out.2.2.2.2.1 s (List.mem_of_mem_drop hs)) w' h
          rw [show L.length - (L.drop gz).length = gz from by omega, ← hfr, ← htl] at this
          exact this
        have KR : Hid (∀ w' : World, SenderAt w' H (fun k => (paint (paint cx (wr.alloc (.cells #[.int .i64 2, .string s] 33)) w4 1) w4 w5 2) k = 2 ∨ w5.heap.size ≤ k) life gz L → Calls Try.prog 17 #[.pointer (some ⟨H, 0, none⟩)] w' fun e w'' => ∃ a cap, e = .returned (.slice a (min 16 tl) cap) ∧ Strs w'' a fr ∧ Below w'.heap.size w' w'') := fun w' h => by
          have := rframes_any H _ life gz L (by omega) gl HLf.out.2 HZ.out.2.2.2.2.1 w' h
          rw [← hfr, ← htl] at this
          exact this
        have frl : fr.length = min 16 tl := by rw [hfr, frL_length, htl]
        have KT : Hid (∀ (w' : World) (a b : Option Addr) (ca cb : Nat), Strs w' a fr → Strs w' b fr → Calls Try.prog 15 #[.slice a (min 16 tl) ca, .slice b (min 16 tl) cb] w' fun e w'' => e = .returned (.bool true) ∧ Below w'.heap.size w' w'') := fun w' a b ca cb h1 h2 => by
          have := texts_any a b fr fr ca cb (by omega) w' h1 h2
          rw [decide_eq_true rfl, frl] at this
          exact this
        have ew : IntKind.i64.wrap ((ln : Int) - (gz : Int)) = (tl : Nat) := by rw [wrapIn _ (by omega)]; omega
        clear htl hln hfr hdl dh1 dh2 lk gl frl
        refine wp_region_N (fun w' => Below w5.heap.size w5 w') 15 21 rfl (by kernel_rfl) ?_
        refine wpAnyN_takeF (i := 0) (oi := ?o0qH) (v := ?v0qH) ?hi0qH (by kernel_rfl) (by kernel_rfl) (by kernel_rfl) (by decide) ?hQ0qH ?hy0qH (Below.drew (Below.refl _ _)) ?more0qH
        case hi0qH => rw [List.getElem?_toArray]; exact rfl
        case hQ0qH => exact fun _ _ _ h => h
        case hy0qH =>
          refine Or.inl ⟨by rfl, ?_⟩
          intro w' hSw
          clear hSw
          go_simp
          try with_reducible rfl
        simp only [Act.put, List.setIfInBounds_toArray, List.set_cons_zero, List.set_cons_succ]
        refine wpAnyN_takeF (i := 2) (oi := ?o2qH) (v := ?v2qH) ?hi2qH (by kernel_rfl) (by kernel_rfl) (by kernel_rfl) (by decide) ?hQ2qH ?hy2qH (Below.drew (Below.refl _ _)) ?more2qH
        case hi2qH => rw [List.getElem?_toArray]; exact rfl
        case hQ2qH => exact fun _ _ _ h => h
        case hy2qH =>
          refine Or.inl ⟨by rfl, ?_⟩
          intro w' hSw
          clear hSw
          go_simp
          try with_reducible rfl
        simp only [Act.put, List.setIfInBounds_toArray, List.set_cons_zero, List.set_cons_succ]
        refine wpAnyN_takeF (i := 3) (oi := ?o3qH) (v := ?v3qH) ?hi3qH (by kernel_rfl) (by kernel_rfl) (by kernel_rfl) (by decide) ?hQ3qH ?hy3qH (Below.drew (Below.refl _ _)) ?more3qH
        case hi3qH => rw [List.getElem?_toArray]; exact rfl
        case hQ3qH => exact fun _ _ _ h => h
        case hy3qH =>
          refine Or.inl ⟨by rfl, ?_⟩
          intro w' hSw
          clear hSw
          go_simp
          try with_reducible rfl
        simp only [Act.put, List.setIfInBounds_toArray, List.set_cons_zero, List.set_cons_succ]
        refine wpAnyN_takeF (i := 4) (oi := ?o4qH) (v := ?v4qH) ?hi4qH (by kernel_rfl) (by kernel_rfl) (by kernel_rfl) (by decide) ?hQ4qH ?hy4qH (Below.drew (Below.refl _ _)) ?more4qH
        case hi4qH => rw [List.getElem?_toArray]; exact rfl
        case hQ4qH => exact fun _ _ _ h => h
        case hy4qH =>
          refine Or.inl ⟨by rfl, ?_⟩
          intro w' hSw
          clear hSw
          go_simp
          try with_reducible rfl
        simp only [Act.put, List.setIfInBounds_toArray, List.set_cons_zero, List.set_cons_succ]
        refine wpAnyN_takeL (i := 5) (oi := ?o5qH) (v := ?v5qH) [6, 11, 12, 13, 15] ?hi5qH (by kernel_rfl) (by kernel_rfl) (by kernel_rfl) (by kernel_rfl) (by decide) (by decide) (by kernel_rfl) ?hQ5qH ?hy5qH (Below.drew (Below.refl _ _)) ?more5qH
        case hi5qH => rw [List.getElem?_toArray]; exact rfl
        case hQ5qH => exact fun _ _ _ h => h
        case hy5qH =>
          refine Or.inl ⟨by rfl, ?_⟩
          intro w' hSw
          have d1 := (hSw.cell (p := ⟨H, 1, none⟩) HD.out.2.2).trans HD.out.1
          have d2 := (hSw.cell (p := ⟨H, 2, none⟩) HD.out.2.2).trans HD.out.2.1
          clear hSw
          go_simp
          try with_reducible rfl
        simp only [Act.put, List.setIfInBounds_toArray, List.set_cons_zero, List.set_cons_succ]
        refine wpAnyN_takeF (i := 6) (oi := ?o6qH) (v := ?v6qH) ?hi6qH (by kernel_rfl) (by kernel_rfl) (by kernel_rfl) (by decide) ?hQ6qH ?hy6qH (Below.drew (Below.refl _ _)) ?more6qH
        case hi6qH => rw [List.getElem?_toArray]; exact rfl
        case hQ6qH => exact fun _ _ _ h => h
        case hy6qH =>
          refine Or.inl ⟨by rfl, ?_⟩
          intro w' hSw
          clear hSw
          go_simp
          try with_reducible rfl
        simp only [Act.put, List.setIfInBounds_toArray, List.set_cons_zero, List.set_cons_succ]
        refine wpAnyN_takeF (i := 7) (oi := ?o7qH) (v := ?v7qH) ?hi7qH (by kernel_rfl) (by kernel_rfl) (by kernel_rfl) (by decide) ?hQ7qH ?hy7qH (Below.drew (Below.refl _ _)) ?more7qH
        case hi7qH => rw [List.getElem?_toArray]; exact rfl
        case hQ7qH => exact fun _ _ _ h => h
        case hy7qH =>
          refine Or.inl ⟨by rfl, ?_⟩
          intro w' hSw
          clear hSw
          go_simp
          try with_reducible rfl
        simp only [Act.put, List.setIfInBounds_toArray, List.set_cons_zero, List.set_cons_succ]
        refine wpAnyN_takeF (i := 8) (oi := ?o8qH) (v := ?v8qH) ?hi8qH (by kernel_rfl) (by kernel_rfl) (by kernel_rfl) (by decide) ?hQ8qH ?hy8qH (Below.drew (Below.refl _ _)) ?more8qH
        case hi8qH => rw [List.getElem?_toArray]; exact rfl
        case hQ8qH => exact fun _ _ _ h => h
        case hy8qH =>
          refine Or.inl ⟨by rfl, ?_⟩
          intro w' hSw
          clear hSw
          go_simp
          try with_reducible rfl
        simp only [Act.put, List.setIfInBounds_toArray, List.set_cons_zero, List.set_cons_succ]
        refine wpAnyN_takeF (i := 9) (oi := ?o9qH) (v := ?v9qH) ?hi9qH (by kernel_rfl) (by kernel_rfl) (by kernel_rfl) (by decide) ?hQ9qH ?hy9qH (Below.drew (Below.refl _ _)) ?more9qH
        case hi9qH => rw [List.getElem?_toArray]; exact rfl
        case hQ9qH => exact fun _ _ _ h => h
        case hy9qH =>
          refine Or.inl ⟨by rfl, ?_⟩
          intro w' hSw
          clear hSw
          go_simp
          try with_reducible rfl
        simp only [Act.put, List.setIfInBounds_toArray, List.set_cons_zero, List.set_cons_succ]
        refine wpAnyN_takeL (i := 10) (oi := ?o10qH) (v := ?v10qH) [11, 12, 13, 15] ?hi10qH (by kernel_rfl) (by kernel_rfl) (by kernel_rfl) (by kernel_rfl) (by decide) (by decide) (by kernel_rfl) ?hQ10qH ?hy10qH (Below.drew (Below.refl _ _)) ?more10qH
        case hi10qH => rw [List.getElem?_toArray]; exact rfl
        case hQ10qH => exact fun _ _ _ h => h
        case hy10qH =>
          refine Or.inl ⟨by rfl, ?_⟩
          intro w' hSw
          have d1 := (hSw.cell (p := ⟨H, 1, none⟩) HD.out.2.2).trans HD.out.1
          have d2 := (hSw.cell (p := ⟨H, 2, none⟩) HD.out.2.2).trans HD.out.2.1
          clear hSw
          go_simp
          try with_reducible rfl
        simp only [Act.put, List.setIfInBounds_toArray, List.set_cons_zero, List.set_cons_succ]
        refine wpAnyN_takeF (i := 11) (oi := ?o11qH) (v := ?v11qH) ?hi11qH (by kernel_rfl) (by kernel_rfl) (by kernel_rfl) (by decide) ?hQ11qH ?hy11qH (Below.drew (Below.refl _ _)) ?more11qH
        case hi11qH => rw [List.getElem?_toArray]; exact rfl
        case hQ11qH => exact fun _ _ _ h => h
        case hy11qH =>
          refine Or.inl ⟨by rfl, ?_⟩
          intro w' hSw
          clear hSw
          go_simp
          try with_reducible rfl
        simp only [Act.put, List.setIfInBounds_toArray, List.set_cons_zero, List.set_cons_succ]
        refine wpAnyN_one (i := 1) (o := ?o1qH) (by kernel_rfl) ?hi1qH ?hw1qH ?st1qH
        case hi1qH => rw [List.getElem?_toArray]; exact rfl
        case hw1qH => exact rfl
        intro K hK
        have HK1 : Hid _ := hK
        clear hK
        go_simp
        refine (KW.out _ (HZ.out.1.2.2.call (Below.drew (Below.refl _ _)))).mono ?_
        rintro e w31 ⟨rfl, rfl⟩
        go_wp2_with fail
        refine HK1.out _ _ ⟨fun _ => (Below.drew (Below.refl _ _)), ?_⟩
        clear HK1 K
        try simp only [Act.put, List.setIfInBounds_toArray, List.set_cons_zero, List.set_cons_succ]
        refine wpAnyN_takeF (i := 12) (oi := ?o12qH) (v := ?v12qH) ?hi12qH (by kernel_rfl) (by kernel_rfl) (by kernel_rfl) (by decide) ?hQ12qH ?hy12qH (Below.drew (Below.refl _ _)) ?more12qH
        case hi12qH => rw [List.getElem?_toArray]; exact rfl
        case hQ12qH => exact fun _ _ _ h => h
        case hy12qH =>
          refine Or.inl ⟨by rfl, ?_⟩
          intro w' hSw
          clear hSw
          go_simp
          try with_reducible rfl
        simp only [Act.put, List.setIfInBounds_toArray, List.set_cons_zero, List.set_cons_succ]
        refine wpAnyN_takeF (i := 13) (oi := ?o13qH) (v := ?v13qH) ?hi13qH (by kernel_rfl) (by kernel_rfl) (by kernel_rfl) (by decide) ?hQ13qH ?hy13qH (Below.drew (Below.refl _ _)) ?more13qH
        case hi13qH => rw [List.getElem?_toArray]; exact rfl
        case hQ13qH => exact fun _ _ _ h => h
        case hy13qH =>
          refine Or.inl ⟨by rfl, ?_⟩
          intro w' hSw
          clear hSw
          go_simp
          try with_reducible rfl
        simp only [Act.put, List.setIfInBounds_toArray, List.set_cons_zero, List.set_cons_succ]
        refine wpAnyN_takeF (i := 14) (oi := ?o14qH) (v := ?v14qH) ?hi14qH (by kernel_rfl) (by kernel_rfl) (by kernel_rfl) (by decide) ?hQ14qH ?hy14qH (Below.drew (Below.refl _ _)) ?more14qH
        case hi14qH => rw [List.getElem?_toArray]; exact rfl
        case hQ14qH => exact fun _ _ _ h => h
        case hy14qH =>
          refine Or.inl ⟨by rfl, ?_⟩
          intro w' hSw
          clear hSw
          go_simp
          try with_reducible rfl
        simp only [Act.put, List.setIfInBounds_toArray, List.set_cons_zero, List.set_cons_succ]
        refine wpAnyN_takeF (i := 16) (oi := ?o16qH) (v := ?v16qH) ?hi16qH (by kernel_rfl) (by kernel_rfl) (by kernel_rfl) (by decide) ?hQ16qH ?hy16qH (Below.drew (Below.refl _ _)) ?more16qH
        case hi16qH => rw [List.getElem?_toArray]; exact rfl
        case hQ16qH => exact fun _ _ _ h => h
        case hy16qH =>
          refine Or.inl ⟨by rfl, ?_⟩
          intro w' hSw
          clear hSw
          go_simp
          try with_reducible rfl
        simp only [Act.put, List.setIfInBounds_toArray, List.set_cons_zero, List.set_cons_succ]
        refine wpAnyN_one (i := 15) (o := ?o15qH) (by kernel_rfl) ?hi15qH ?hw15qH ?st15qH
        case hi15qH => rw [List.getElem?_toArray]; exact rfl
        case hw15qH => exact rfl
        intro K hK
        have HK15 : Hid _ := hK
        clear hK
        go_simp
        refine (KF.out _ (HZ.out.1.2.2.call (Below.drew (Below.refl _ _)))).mono ?_
        rintro e w15 ⟨rfl, hS15, hq⟩
        obtain ⟨p15, hp15⟩ : ∃ p, p = w5.drew.heap.size := ⟨_, rfl⟩
        rw [← hp15] at hS15 ⊢
        have H15 : Hid (Below w5.heap.size w5 w15 ∧ Strs w15 (some ⟨p15, 0, none⟩) fr) := ⟨below_call0 (Below.drew (Below.refl _ _)) hq, hS15⟩
        clear hq hS15 hp15
        go_wp2_with fail
        refine HK15.out _ _ ⟨fun _ => H15.out.1, ?_⟩
        clear HK15 K
        try simp only [Act.put, List.setIfInBounds_toArray, List.set_cons_zero, List.set_cons_succ]
        refine wpAnyN_one (i := 17) (o := ?o17qH) (by kernel_rfl) ?hi17qH ?hw17qH ?st17qH
        case hi17qH => rw [List.getElem?_toArray]; exact rfl
        case hw17qH => exact rfl
        intro K hK
        have HK17 : Hid _ := hK
        clear hK
        go_simp
        refine (KR.out _ (HZ.out.2.1.2.2.call H15.out.1)).mono ?_
        rintro e w17 ⟨a17, cap17, rfl, hS17, hq⟩
        have H17 : Hid (Below w5.heap.size w5 w17 ∧ Strs w17 (some ⟨p15, 0, none⟩) fr ∧ Strs w17 a17 fr) := ⟨below_call0 H15.out.1 hq, H15.out.2.call hq, hS17⟩
        clear hq hS17
        go_wp2_with fail
        refine HK17.out _ _ ⟨fun _ => H17.out.1, ?_⟩
        clear HK17 K
        try simp only [Act.put, List.setIfInBounds_toArray, List.set_cons_zero, List.set_cons_succ]
        refine wpAnyN_one (i := 18) (o := ?o18qH) (by kernel_rfl) ?hi18qH ?hw18qH ?st18qH
        case hi18qH => rw [List.getElem?_toArray]; exact rfl
        case hw18qH => exact rfl
        intro K hK
        have HK18 : Hid _ := hK
        clear hK
        go_simp
        refine (KT.out _ _ _ _ _ H17.out.2.1 H17.out.2.2).mono ?_
        rintro e w18 ⟨rfl, hq⟩
        have H18 : Hid (Below w5.heap.size w5 w18) := below_call0 H17.out.1 hq
        clear hq
        go_wp2_with fail
        refine HK18.out _ _ ⟨fun _ => H18.out, ?_⟩
        clear HK18 K
        try simp only [Act.put, List.setIfInBounds_toArray, List.set_cons_zero, List.set_cons_succ]
        refine wpAnyN_takeF (i := 19) (oi := ?o19qH) (v := ?v19qH) ?hi19qH (by kernel_rfl) (by kernel_rfl) (by kernel_rfl) (by decide) ?hQ19qH ?hy19qH H18.out ?more19qH
        case hi19qH => rw [List.getElem?_toArray]; exact rfl
        case hQ19qH => exact fun _ _ _ h => h
        case hy19qH =>
          refine Or.inl ⟨by rfl, ?_⟩
          intro w' hSw
          clear hSw
          go_simp
          try with_reducible rfl
        simp only [Act.put, List.setIfInBounds_toArray, List.set_cons_zero, List.set_cons_succ]
        refine wpAnyN_one (i := 20) (o := ?o20qH) (by kernel_rfl) ?hi20qH ?hw20qH ?st20qH
        case hi20qH => rw [List.getElem?_toArray]; exact rfl
        case hw20qH => exact rfl
        intro K hK
        have HK20 : Hid _ := hK
        clear hK
        go_simp
        refine HK20.out _ _ ⟨fun h => absurd h (by decide +kernel), ?_⟩
        clear HK20 K
        try simp only [Act.put, List.setIfInBounds_toArray, List.set_cons_zero, List.set_cons_succ]
        refine wpAnyN_done (by kernel_rfl) ?_ _
        go_wp2_with fail
        have HE : Hid (Both w w18 (paint (paint (paint cx (wr.alloc (.cells #[.int .i64 2, .string s] 33)) w4 1) w4 w5 2) w5 w18 0) G H life gz L (k + 1)) := HZ.out.call H18.out
        go_roundw
        case rel => first | exact ⟨k + 1, _, gz, L, hlt, by go_num, HE.out⟩ | ((repeat apply Exists.intro); exact ⟨⟨k + 1, _, gz, L, hlt, by go_num, HE.out⟩, rfl⟩)
        case measure => simp [Go.RowKit.intOf]; omega
      · by_cases h01 : X = 0 ∨ X = 1
        · have KA : Hid _ := fun (F : Nat → Prop) (w' : World) (h : SenderAt w' G F life L.length (L.drop gone)) => push_all G F life gone L s HX.out.2.2.1 (by have := HX.out.2.2.2.1; omega) w' h
          have KB : Hid _ := fun (F : Nat → Prop) (w' : World) (h : SenderAt w' H F life gone L) => rpush_all H F life gone L s HX.out.2.2.1 (by have := HX.out.2.2.2.1; omega) w' h
          have hle := psR_le (s := s) HX.out.2.2.1 HX.out.2.2.2.2.1
          obtain ⟨r, hr⟩ : ∃ r, r = psR s gone L := ⟨_, rfl⟩
          rw [← hr] at KA KB hle
          obtain ⟨pn, pe, LZ⟩ := r
          have HP : Hid (gone ≤ LZ.length ∧ LZ.length ≤ k + 1 ∧ ∀ s ∈ LZ, s.size ≤ 7900) := ⟨hle.1, Nat.le_trans hle.2.1 (Nat.succ_le_succ HX.out.2.2.2.1), hle.2.2⟩
          clear hr hle h2
          subst hwx
          rcases h01 with h0 | h1
          · subst h0
            go_wp2_with fail
            refine (HX.out.1.op (fun F hS => KA.out F _ hS)).mono ?_
            rintro e w4 ⟨rfl, hS4, hC4⟩
            have c4 : w4.cell? ⟨wr.heap.size, 1, none⟩ = some (.string s) := (hC4.cell HX2.out.1 (by rw [HX2.out.2]; decide) (by rw [HX2.out.2]; decide)).trans (by simp [go_sem])
            have H4 : Hid (Snd w4 (paint cx (wr.alloc (.cells #[.int .i64 0, .string s] 33)) w4 1) 1 11 G life LZ.length (LZ.drop gone) ∧ Snd w4 (paint cx (wr.alloc (.cells #[.int .i64 0, .string s] 33)) w4 1) 2 12 H life gone L ∧ (∀ k, k < w.heap.size → k < w4.heap.size ∧ paint cx (wr.alloc (.cells #[.int .i64 0, .string s] 33)) w4 1 k = 0) ∧ Below w.heap.size w w4) := ⟨hS4, HX.out.2.1.keep hC4 (by decide) (by decide) (by decide) (by decide), zero_paint HX.out.2.2.2.2.2.1 (Off.size hC4), HX.out.2.2.2.2.2.2.trans (hC4.under HX.out.2.2.2.2.2.1 (by decide) (by decide))⟩
            clear hS4 hC4
            go_wp2_with fail
            refine (H4.out.2.1.op (fun F hS => KB.out F _ hS)).mono ?_
            rintro e w5 ⟨rfl, hS5, hC5⟩
            have HZ : Hid (Both w w5 (paint (paint cx (wr.alloc (.cells #[.int .i64 0, .string s] 33)) w4 1) w4 w5 2) G H life gone LZ (k + 1)) := ⟨H4.out.1.keep hC5 (by decide) (by decide) (by decide) (by decide), hS5, HP.out.1, HP.out.2.1, HP.out.2.2, zero_paint H4.out.2.2.1 (Off.size hC5), H4.out.2.2.2.trans (hC5.under H4.out.2.2.1 (by decide) (by decide))⟩
            clear hS5 hC5 c4
            go_wp2_with fail
            obtain ⟨tl, htl⟩ : ∃ x, x = (LZ.drop gone).length := ⟨_, rfl⟩
            obtain ⟨ln, hln⟩ : ∃ x, x = LZ.length := ⟨_, rfl⟩
            obtain ⟨fr, hfr⟩ : ∃ x, x = frL life gone (LZ.drop gone) := ⟨_, rfl⟩
            have hdl : (LZ.drop gone).length = LZ.length - gone := List.length_drop ..
            obtain ⟨aH, cH, -, dh1, dh2, -⟩ := HZ.out.2.1.2.2
            rw [← hln] at dh2
            have HD : Hid (w5.cell? ⟨H, 1, none⟩ = some (.int .i64 (gone : Nat)) ∧ w5.cell? ⟨H, 2, none⟩ = some (.slice aH ln cH) ∧ H < w5.heap.size) := ⟨dh1, dh2, HZ.out.2.1.lt⟩
            have lk : LZ.length ≤ 301 := by have := HZ.out.2.2.2.1; have := n300; omega
            have gl := HZ.out.2.2.1
            have KW : Hid _ := fun (w' : World) (h : SenderAt w' G (fun k => (paint (paint cx (wr.alloc (.cells #[.int .i64 0, .string s] 33)) w4 1) w4 w5 2) k = 1 ∨ w5.heap.size ≤ k) life LZ.length (LZ.drop gone)) => waiting_any G _ life LZ.length (LZ.drop gone) w' h
            rw [← htl] at KW
            have KF : Hid (∀ w' : World, SenderAt w' G (fun k => (paint (paint cx (wr.alloc (.cells #[.int .i64 0, .string s] 33)) w4 1) w4 w5 2) k = 1 ∨ w5.heap.size ≤ k) life LZ.length (LZ.drop gone) → Calls Try.prog 16 #[.pointer (some ⟨G, 0, none⟩)] w' fun e w'' => e = .returned (.slice (some ⟨w'.heap.size, 0, none⟩) (min 16 tl) (min 16 tl)) ∧ Strs w'' (some ⟨w'.heap.size, 0, none⟩) fr ∧ Below w'.heap.size w' w'') := fun w' h => by
              have := frames_any G _ life LZ.length (LZ.drop gone) (by omega) (by omega) HLf.out.2 (fun s hs => HZ.out.2.2.2.2.1 s (List.mem_of_mem_drop hs)) w' h
              rw [show LZ.length - (LZ.drop gone).length = gone from by omega, ← hfr, ← htl] at this
              exact this
            have KR : Hid (∀ w' : World, SenderAt w' H (fun k => (paint (paint cx (wr.alloc (.cells #[.int .i64 0, .string s] 33)) w4 1) w4 w5 2) k = 2 ∨ w5.heap.size ≤ k) life gone LZ → Calls Try.prog 17 #[.pointer (some ⟨H, 0, none⟩)] w' fun e w'' => ∃ a cap, e = .returned (.slice a (min 16 tl) cap) ∧ Strs w'' a fr ∧ Below w'.heap.size w' w'') := fun w' h => by
              have := rframes_any H _ life gone LZ (by omega) gl HLf.out.2 HZ.out.2.2.2.2.1 w' h
              rw [← hfr, ← htl] at this
              exact this
            have frl : fr.length = min 16 tl := by rw [hfr, frL_length, htl]
            have KT : Hid (∀ (w' : World) (a b : Option Addr) (ca cb : Nat), Strs w' a fr → Strs w' b fr → Calls Try.prog 15 #[.slice a (min 16 tl) ca, .slice b (min 16 tl) cb] w' fun e w'' => e = .returned (.bool true) ∧ Below w'.heap.size w' w'') := fun w' a b ca cb h1 h2 => by
              have := texts_any a b fr fr ca cb (by omega) w' h1 h2
              rw [decide_eq_true rfl, frl] at this
              exact this
            have ew : IntKind.i64.wrap ((ln : Int) - (gone : Int)) = (tl : Nat) := by rw [wrapIn _ (by omega)]; omega
            clear htl hln hfr hdl dh1 dh2 lk gl frl
            refine wp_region_N (fun w' => Below w5.heap.size w5 w') 15 21 rfl (by kernel_rfl) ?_
            refine wpAnyN_takeF (i := 0) (oi := ?o0qA) (v := ?v0qA) ?hi0qA (by kernel_rfl) (by kernel_rfl) (by kernel_rfl) (by decide) ?hQ0qA ?hy0qA (Below.drew (Below.refl _ _)) ?more0qA
            case hi0qA => rw [List.getElem?_toArray]; exact rfl
            case hQ0qA => exact fun _ _ _ h => h
            case hy0qA =>
              refine Or.inl ⟨by rfl, ?_⟩
              intro w' hSw
              clear hSw
              go_simp
              try with_reducible rfl
            simp only [Act.put, List.setIfInBounds_toArray, List.set_cons_zero, List.set_cons_succ]
            refine wpAnyN_takeF (i := 2) (oi := ?o2qA) (v := ?v2qA) ?hi2qA (by kernel_rfl) (by kernel_rfl) (by kernel_rfl) (by decide) ?hQ2qA ?hy2qA (Below.drew (Below.refl _ _)) ?more2qA
            case hi2qA => rw [List.getElem?_toArray]; exact rfl
            case hQ2qA => exact fun _ _ _ h => h
            case hy2qA =>
              refine Or.inl ⟨by rfl, ?_⟩
              intro w' hSw
              clear hSw
              go_simp
              try with_reducible rfl
            simp only [Act.put, List.setIfInBounds_toArray, List.set_cons_zero, List.set_cons_succ]
            refine wpAnyN_takeF (i := 3) (oi := ?o3qA) (v := ?v3qA) ?hi3qA (by kernel_rfl) (by kernel_rfl) (by kernel_rfl) (by decide) ?hQ3qA ?hy3qA (Below.drew (Below.refl _ _)) ?more3qA
            case hi3qA => rw [List.getElem?_toArray]; exact rfl
            case hQ3qA => exact fun _ _ _ h => h
            case hy3qA =>
              refine Or.inl ⟨by rfl, ?_⟩
              intro w' hSw
              clear hSw
              go_simp
              try with_reducible rfl
            simp only [Act.put, List.setIfInBounds_toArray, List.set_cons_zero, List.set_cons_succ]
            refine wpAnyN_takeF (i := 4) (oi := ?o4qA) (v := ?v4qA) ?hi4qA (by kernel_rfl) (by kernel_rfl) (by kernel_rfl) (by decide) ?hQ4qA ?hy4qA (Below.drew (Below.refl _ _)) ?more4qA
            case hi4qA => rw [List.getElem?_toArray]; exact rfl
            case hQ4qA => exact fun _ _ _ h => h
            case hy4qA =>
              refine Or.inl ⟨by rfl, ?_⟩
              intro w' hSw
              clear hSw
              go_simp
              try with_reducible rfl
            simp only [Act.put, List.setIfInBounds_toArray, List.set_cons_zero, List.set_cons_succ]
            refine wpAnyN_takeL (i := 5) (oi := ?o5qA) (v := ?v5qA) [6, 11, 12, 13, 15] ?hi5qA (by kernel_rfl) (by kernel_rfl) (by kernel_rfl) (by kernel_rfl) (by decide) (by decide) (by kernel_rfl) ?hQ5qA ?hy5qA (Below.drew (Below.refl _ _)) ?more5qA
            case hi5qA => rw [List.getElem?_toArray]; exact rfl
            case hQ5qA => exact fun _ _ _ h => h
            case hy5qA =>
              refine Or.inl ⟨by rfl, ?_⟩
              intro w' hSw
              have d1 := (hSw.cell (p := ⟨H, 1, none⟩) HD.out.2.2).trans HD.out.1
              have d2 := (hSw.cell (p := ⟨H, 2, none⟩) HD.out.2.2).trans HD.out.2.1
              clear hSw
              go_simp
              try with_reducible rfl
            simp only [Act.put, List.setIfInBounds_toArray, List.set_cons_zero, List.set_cons_succ]
            refine wpAnyN_takeF (i := 6) (oi := ?o6qA) (v := ?v6qA) ?hi6qA (by kernel_rfl) (by kernel_rfl) (by kernel_rfl) (by decide) ?hQ6qA ?hy6qA (Below.drew (Below.refl _ _)) ?more6qA
            case hi6qA => rw [List.getElem?_toArray]; exact rfl
            case hQ6qA => exact fun _ _ _ h => h
            case hy6qA =>
              refine Or.inl ⟨by rfl, ?_⟩
              intro w' hSw
              clear hSw
              go_simp
              try with_reducible rfl
            simp only [Act.put, List.setIfInBounds_toArray, List.set_cons_zero, List.set_cons_succ]
            refine wpAnyN_takeF (i := 7) (oi := ?o7qA) (v := ?v7qA) ?hi7qA (by kernel_rfl) (by kernel_rfl) (by kernel_rfl) (by decide) ?hQ7qA ?hy7qA (Below.drew (Below.refl _ _)) ?more7qA
            case hi7qA => rw [List.getElem?_toArray]; exact rfl
            case hQ7qA => exact fun _ _ _ h => h
            case hy7qA =>
              refine Or.inl ⟨by rfl, ?_⟩
              intro w' hSw
              clear hSw
              go_simp
              try with_reducible rfl
            simp only [Act.put, List.setIfInBounds_toArray, List.set_cons_zero, List.set_cons_succ]
            refine wpAnyN_takeF (i := 8) (oi := ?o8qA) (v := ?v8qA) ?hi8qA (by kernel_rfl) (by kernel_rfl) (by kernel_rfl) (by decide) ?hQ8qA ?hy8qA (Below.drew (Below.refl _ _)) ?more8qA
            case hi8qA => rw [List.getElem?_toArray]; exact rfl
            case hQ8qA => exact fun _ _ _ h => h
            case hy8qA =>
              refine Or.inl ⟨by rfl, ?_⟩
              intro w' hSw
              clear hSw
              go_simp
              try with_reducible rfl
            simp only [Act.put, List.setIfInBounds_toArray, List.set_cons_zero, List.set_cons_succ]
            refine wpAnyN_takeF (i := 9) (oi := ?o9qA) (v := ?v9qA) ?hi9qA (by kernel_rfl) (by kernel_rfl) (by kernel_rfl) (by decide) ?hQ9qA ?hy9qA (Below.drew (Below.refl _ _)) ?more9qA
            case hi9qA => rw [List.getElem?_toArray]; exact rfl
            case hQ9qA => exact fun _ _ _ h => h
            case hy9qA =>
              refine Or.inl ⟨by rfl, ?_⟩
              intro w' hSw
              clear hSw
              go_simp
              try with_reducible rfl
            simp only [Act.put, List.setIfInBounds_toArray, List.set_cons_zero, List.set_cons_succ]
            refine wpAnyN_takeL (i := 10) (oi := ?o10qA) (v := ?v10qA) [11, 12, 13, 15] ?hi10qA (by kernel_rfl) (by kernel_rfl) (by kernel_rfl) (by kernel_rfl) (by decide) (by decide) (by kernel_rfl) ?hQ10qA ?hy10qA (Below.drew (Below.refl _ _)) ?more10qA
            case hi10qA => rw [List.getElem?_toArray]; exact rfl
            case hQ10qA => exact fun _ _ _ h => h
            case hy10qA =>
              refine Or.inl ⟨by rfl, ?_⟩
              intro w' hSw
              have d1 := (hSw.cell (p := ⟨H, 1, none⟩) HD.out.2.2).trans HD.out.1
              have d2 := (hSw.cell (p := ⟨H, 2, none⟩) HD.out.2.2).trans HD.out.2.1
              clear hSw
              go_simp
              try with_reducible rfl
            simp only [Act.put, List.setIfInBounds_toArray, List.set_cons_zero, List.set_cons_succ]
            refine wpAnyN_takeF (i := 11) (oi := ?o11qA) (v := ?v11qA) ?hi11qA (by kernel_rfl) (by kernel_rfl) (by kernel_rfl) (by decide) ?hQ11qA ?hy11qA (Below.drew (Below.refl _ _)) ?more11qA
            case hi11qA => rw [List.getElem?_toArray]; exact rfl
            case hQ11qA => exact fun _ _ _ h => h
            case hy11qA =>
              refine Or.inl ⟨by rfl, ?_⟩
              intro w' hSw
              clear hSw
              go_simp
              try with_reducible rfl
            simp only [Act.put, List.setIfInBounds_toArray, List.set_cons_zero, List.set_cons_succ]
            refine wpAnyN_one (i := 1) (o := ?o1qA) (by kernel_rfl) ?hi1qA ?hw1qA ?st1qA
            case hi1qA => rw [List.getElem?_toArray]; exact rfl
            case hw1qA => exact rfl
            intro K hK
            have HK1 : Hid _ := hK
            clear hK
            go_simp
            refine (KW.out _ (HZ.out.1.2.2.call (Below.drew (Below.refl _ _)))).mono ?_
            rintro e w31 ⟨rfl, rfl⟩
            go_wp2_with fail
            refine HK1.out _ _ ⟨fun _ => (Below.drew (Below.refl _ _)), ?_⟩
            clear HK1 K
            try simp only [Act.put, List.setIfInBounds_toArray, List.set_cons_zero, List.set_cons_succ]
            refine wpAnyN_takeF (i := 12) (oi := ?o12qA) (v := ?v12qA) ?hi12qA (by kernel_rfl) (by kernel_rfl) (by kernel_rfl) (by decide) ?hQ12qA ?hy12qA (Below.drew (Below.refl _ _)) ?more12qA
            case hi12qA => rw [List.getElem?_toArray]; exact rfl
            case hQ12qA => exact fun _ _ _ h => h
            case hy12qA =>
              refine Or.inl ⟨by rfl, ?_⟩
              intro w' hSw
              clear hSw
              go_simp
              try with_reducible rfl
            simp only [Act.put, List.setIfInBounds_toArray, List.set_cons_zero, List.set_cons_succ]
            refine wpAnyN_takeF (i := 13) (oi := ?o13qA) (v := ?v13qA) ?hi13qA (by kernel_rfl) (by kernel_rfl) (by kernel_rfl) (by decide) ?hQ13qA ?hy13qA (Below.drew (Below.refl _ _)) ?more13qA
            case hi13qA => rw [List.getElem?_toArray]; exact rfl
            case hQ13qA => exact fun _ _ _ h => h
            case hy13qA =>
              refine Or.inl ⟨by rfl, ?_⟩
              intro w' hSw
              clear hSw
              go_simp
              try with_reducible rfl
            simp only [Act.put, List.setIfInBounds_toArray, List.set_cons_zero, List.set_cons_succ]
            refine wpAnyN_takeF (i := 14) (oi := ?o14qA) (v := ?v14qA) ?hi14qA (by kernel_rfl) (by kernel_rfl) (by kernel_rfl) (by decide) ?hQ14qA ?hy14qA (Below.drew (Below.refl _ _)) ?more14qA
            case hi14qA => rw [List.getElem?_toArray]; exact rfl
            case hQ14qA => exact fun _ _ _ h => h
            case hy14qA =>
              refine Or.inl ⟨by rfl, ?_⟩
              intro w' hSw
              clear hSw
              go_simp
              try with_reducible rfl
            simp only [Act.put, List.setIfInBounds_toArray, List.set_cons_zero, List.set_cons_succ]
            refine wpAnyN_takeF (i := 16) (oi := ?o16qA) (v := ?v16qA) ?hi16qA (by kernel_rfl) (by kernel_rfl) (by kernel_rfl) (by decide) ?hQ16qA ?hy16qA (Below.drew (Below.refl _ _)) ?more16qA
            case hi16qA => rw [List.getElem?_toArray]; exact rfl
            case hQ16qA => exact fun _ _ _ h => h
            case hy16qA =>
              refine Or.inl ⟨by rfl, ?_⟩
              intro w' hSw
              clear hSw
              go_simp
              try with_reducible rfl
            simp only [Act.put, List.setIfInBounds_toArray, List.set_cons_zero, List.set_cons_succ]
            refine wpAnyN_one (i := 15) (o := ?o15qA) (by kernel_rfl) ?hi15qA ?hw15qA ?st15qA
            case hi15qA => rw [List.getElem?_toArray]; exact rfl
            case hw15qA => exact rfl
            intro K hK
            have HK15 : Hid _ := hK
            clear hK
            go_simp
            refine (KF.out _ (HZ.out.1.2.2.call (Below.drew (Below.refl _ _)))).mono ?_
            rintro e w15 ⟨rfl, hS15, hq⟩
            obtain ⟨p15, hp15⟩ : ∃ p, p = w5.drew.heap.size := ⟨_, rfl⟩
            rw [← hp15] at hS15 ⊢
            have H15 : Hid (Below w5.heap.size w5 w15 ∧ Strs w15 (some ⟨p15, 0, none⟩) fr) := ⟨below_call0 (Below.drew (Below.refl _ _)) hq, hS15⟩
            clear hq hS15 hp15
            go_wp2_with fail
            refine HK15.out _ _ ⟨fun _ => H15.out.1, ?_⟩
            clear HK15 K
            try simp only [Act.put, List.setIfInBounds_toArray, List.set_cons_zero, List.set_cons_succ]
            refine wpAnyN_one (i := 17) (o := ?o17qA) (by kernel_rfl) ?hi17qA ?hw17qA ?st17qA
            case hi17qA => rw [List.getElem?_toArray]; exact rfl
            case hw17qA => exact rfl
            intro K hK
            have HK17 : Hid _ := hK
            clear hK
            go_simp
            refine (KR.out _ (HZ.out.2.1.2.2.call H15.out.1)).mono ?_
            rintro e w17 ⟨a17, cap17, rfl, hS17, hq⟩
            have H17 : Hid (Below w5.heap.size w5 w17 ∧ Strs w17 (some ⟨p15, 0, none⟩) fr ∧ Strs w17 a17 fr) := ⟨below_call0 H15.out.1 hq, H15.out.2.call hq, hS17⟩
            clear hq hS17
            go_wp2_with fail
            refine HK17.out _ _ ⟨fun _ => H17.out.1, ?_⟩
            clear HK17 K
            try simp only [Act.put, List.setIfInBounds_toArray, List.set_cons_zero, List.set_cons_succ]
            refine wpAnyN_one (i := 18) (o := ?o18qA) (by kernel_rfl) ?hi18qA ?hw18qA ?st18qA
            case hi18qA => rw [List.getElem?_toArray]; exact rfl
            case hw18qA => exact rfl
            intro K hK
            have HK18 : Hid _ := hK
            clear hK
            go_simp
            refine (KT.out _ _ _ _ _ H17.out.2.1 H17.out.2.2).mono ?_
            rintro e w18 ⟨rfl, hq⟩
            have H18 : Hid (Below w5.heap.size w5 w18) := below_call0 H17.out.1 hq
            clear hq
            go_wp2_with fail
            refine HK18.out _ _ ⟨fun _ => H18.out, ?_⟩
            clear HK18 K
            try simp only [Act.put, List.setIfInBounds_toArray, List.set_cons_zero, List.set_cons_succ]
            refine wpAnyN_takeF (i := 19) (oi := ?o19qA) (v := ?v19qA) ?hi19qA (by kernel_rfl) (by kernel_rfl) (by kernel_rfl) (by decide) ?hQ19qA ?hy19qA H18.out ?more19qA
            case hi19qA => rw [List.getElem?_toArray]; exact rfl
            case hQ19qA => exact fun _ _ _ h => h
            case hy19qA =>
              refine Or.inl ⟨by rfl, ?_⟩
              intro w' hSw
              clear hSw
              go_simp
              try with_reducible rfl
            simp only [Act.put, List.setIfInBounds_toArray, List.set_cons_zero, List.set_cons_succ]
            refine wpAnyN_one (i := 20) (o := ?o20qA) (by kernel_rfl) ?hi20qA ?hw20qA ?st20qA
            case hi20qA => rw [List.getElem?_toArray]; exact rfl
            case hw20qA => exact rfl
            intro K hK
            have HK20 : Hid _ := hK
            clear hK
            go_simp
            refine HK20.out _ _ ⟨fun h => absurd h (by decide +kernel), ?_⟩
            clear HK20 K
            try simp only [Act.put, List.setIfInBounds_toArray, List.set_cons_zero, List.set_cons_succ]
            refine wpAnyN_done (by kernel_rfl) ?_ _
            go_wp2_with fail
            have HE : Hid (Both w w18 (paint (paint (paint cx (wr.alloc (.cells #[.int .i64 0, .string s] 33)) w4 1) w4 w5 2) w5 w18 0) G H life gone LZ (k + 1)) := HZ.out.call H18.out
            go_roundw
            case rel => first | exact ⟨k + 1, _, gone, LZ, hlt, by go_num, HE.out⟩ | ((repeat apply Exists.intro); exact ⟨⟨k + 1, _, gone, LZ, hlt, by go_num, HE.out⟩, rfl⟩)
            case measure => simp [Go.RowKit.intOf]; omega
          · subst h1
            go_wp2_with fail
            refine (HX.out.1.op (fun F hS => KA.out F _ hS)).mono ?_
            rintro e w4 ⟨rfl, hS4, hC4⟩
            have c4 : w4.cell? ⟨wr.heap.size, 1, none⟩ = some (.string s) := (hC4.cell HX2.out.1 (by rw [HX2.out.2]; decide) (by rw [HX2.out.2]; decide)).trans (by simp [go_sem])
            have H4 : Hid (Snd w4 (paint cx (wr.alloc (.cells #[.int .i64 1, .string s] 33)) w4 1) 1 11 G life LZ.length (LZ.drop gone) ∧ Snd w4 (paint cx (wr.alloc (.cells #[.int .i64 1, .string s] 33)) w4 1) 2 12 H life gone L ∧ (∀ k, k < w.heap.size → k < w4.heap.size ∧ paint cx (wr.alloc (.cells #[.int .i64 1, .string s] 33)) w4 1 k = 0) ∧ Below w.heap.size w w4) := ⟨hS4, HX.out.2.1.keep hC4 (by decide) (by decide) (by decide) (by decide), zero_paint HX.out.2.2.2.2.2.1 (Off.size hC4), HX.out.2.2.2.2.2.2.trans (hC4.under HX.out.2.2.2.2.2.1 (by decide) (by decide))⟩
            clear hS4 hC4
            go_wp2_with fail
            refine (H4.out.2.1.op (fun F hS => KB.out F _ hS)).mono ?_
            rintro e w5 ⟨rfl, hS5, hC5⟩
            have HZ : Hid (Both w w5 (paint (paint cx (wr.alloc (.cells #[.int .i64 1, .string s] 33)) w4 1) w4 w5 2) G H life gone LZ (k + 1)) := ⟨H4.out.1.keep hC5 (by decide) (by decide) (by decide) (by decide), hS5, HP.out.1, HP.out.2.1, HP.out.2.2, zero_paint H4.out.2.2.1 (Off.size hC5), H4.out.2.2.2.trans (hC5.under H4.out.2.2.1 (by decide) (by decide))⟩
            clear hS5 hC5 c4
            go_wp2_with fail
            obtain ⟨tl, htl⟩ : ∃ x, x = (LZ.drop gone).length := ⟨_, rfl⟩
            obtain ⟨ln, hln⟩ : ∃ x, x = LZ.length := ⟨_, rfl⟩
            obtain ⟨fr, hfr⟩ : ∃ x, x = frL life gone (LZ.drop gone) := ⟨_, rfl⟩
            have hdl : (LZ.drop gone).length = LZ.length - gone := List.length_drop ..
            obtain ⟨aH, cH, -, dh1, dh2, -⟩ := HZ.out.2.1.2.2
            rw [← hln] at dh2
            have HD : Hid (w5.cell? ⟨H, 1, none⟩ = some (.int .i64 (gone : Nat)) ∧ w5.cell? ⟨H, 2, none⟩ = some (.slice aH ln cH) ∧ H < w5.heap.size) := ⟨dh1, dh2, HZ.out.2.1.lt⟩
            have lk : LZ.length ≤ 301 := by have := HZ.out.2.2.2.1; have := n300; omega
            have gl := HZ.out.2.2.1
            have KW : Hid _ := fun (w' : World) (h : SenderAt w' G (fun k => (paint (paint cx (wr.alloc (.cells #[.int .i64 1, .string s] 33)) w4 1) w4 w5 2) k = 1 ∨ w5.heap.size ≤ k) life LZ.length (LZ.drop gone)) => waiting_any G _ life LZ.length (LZ.drop gone) w' h
            rw [← htl] at KW
            have KF : Hid (∀ w' : World, SenderAt w' G (fun k => (paint (paint cx (wr.alloc (.cells #[.int .i64 1, .string s] 33)) w4 1) w4 w5 2) k = 1 ∨ w5.heap.size ≤ k) life LZ.length (LZ.drop gone) → Calls Try.prog 16 #[.pointer (some ⟨G, 0, none⟩)] w' fun e w'' => e = .returned (.slice (some ⟨w'.heap.size, 0, none⟩) (min 16 tl) (min 16 tl)) ∧ Strs w'' (some ⟨w'.heap.size, 0, none⟩) fr ∧ Below w'.heap.size w' w'') := fun w' h => by
              have := frames_any G _ life LZ.length (LZ.drop gone) (by omega) (by omega) HLf.out.2 (fun s hs => HZ.out.2.2.2.2.1 s (List.mem_of_mem_drop hs)) w' h
              rw [show LZ.length - (LZ.drop gone).length = gone from by omega, ← hfr, ← htl] at this
              exact this
            have KR : Hid (∀ w' : World, SenderAt w' H (fun k => (paint (paint cx (wr.alloc (.cells #[.int .i64 1, .string s] 33)) w4 1) w4 w5 2) k = 2 ∨ w5.heap.size ≤ k) life gone LZ → Calls Try.prog 17 #[.pointer (some ⟨H, 0, none⟩)] w' fun e w'' => ∃ a cap, e = .returned (.slice a (min 16 tl) cap) ∧ Strs w'' a fr ∧ Below w'.heap.size w' w'') := fun w' h => by
              have := rframes_any H _ life gone LZ (by omega) gl HLf.out.2 HZ.out.2.2.2.2.1 w' h
              rw [← hfr, ← htl] at this
              exact this
            have frl : fr.length = min 16 tl := by rw [hfr, frL_length, htl]
            have KT : Hid (∀ (w' : World) (a b : Option Addr) (ca cb : Nat), Strs w' a fr → Strs w' b fr → Calls Try.prog 15 #[.slice a (min 16 tl) ca, .slice b (min 16 tl) cb] w' fun e w'' => e = .returned (.bool true) ∧ Below w'.heap.size w' w'') := fun w' a b ca cb h1 h2 => by
              have := texts_any a b fr fr ca cb (by omega) w' h1 h2
              rw [decide_eq_true rfl, frl] at this
              exact this
            have ew : IntKind.i64.wrap ((ln : Int) - (gone : Int)) = (tl : Nat) := by rw [wrapIn _ (by omega)]; omega
            clear htl hln hfr hdl dh1 dh2 lk gl frl
            refine wp_region_N (fun w' => Below w5.heap.size w5 w') 15 21 rfl (by kernel_rfl) ?_
            refine wpAnyN_takeF (i := 0) (oi := ?o0qB) (v := ?v0qB) ?hi0qB (by kernel_rfl) (by kernel_rfl) (by kernel_rfl) (by decide) ?hQ0qB ?hy0qB (Below.drew (Below.refl _ _)) ?more0qB
            case hi0qB => rw [List.getElem?_toArray]; exact rfl
            case hQ0qB => exact fun _ _ _ h => h
            case hy0qB =>
              refine Or.inl ⟨by rfl, ?_⟩
              intro w' hSw
              clear hSw
              go_simp
              try with_reducible rfl
            simp only [Act.put, List.setIfInBounds_toArray, List.set_cons_zero, List.set_cons_succ]
            refine wpAnyN_takeF (i := 2) (oi := ?o2qB) (v := ?v2qB) ?hi2qB (by kernel_rfl) (by kernel_rfl) (by kernel_rfl) (by decide) ?hQ2qB ?hy2qB (Below.drew (Below.refl _ _)) ?more2qB
            case hi2qB => rw [List.getElem?_toArray]; exact rfl
            case hQ2qB => exact fun _ _ _ h => h
            case hy2qB =>
              refine Or.inl ⟨by rfl, ?_⟩
              intro w' hSw
              clear hSw
              go_simp
              try with_reducible rfl
            simp only [Act.put, List.setIfInBounds_toArray, List.set_cons_zero, List.set_cons_succ]
            refine wpAnyN_takeF (i := 3) (oi := ?o3qB) (v := ?v3qB) ?hi3qB (by kernel_rfl) (by kernel_rfl) (by kernel_rfl) (by decide) ?hQ3qB ?hy3qB (Below.drew (Below.refl _ _)) ?more3qB
            case hi3qB => rw [List.getElem?_toArray]; exact rfl
            case hQ3qB => exact fun _ _ _ h => h
            case hy3qB =>
              refine Or.inl ⟨by rfl, ?_⟩
              intro w' hSw
              clear hSw
              go_simp
              try with_reducible rfl
            simp only [Act.put, List.setIfInBounds_toArray, List.set_cons_zero, List.set_cons_succ]
            refine wpAnyN_takeF (i := 4) (oi := ?o4qB) (v := ?v4qB) ?hi4qB (by kernel_rfl) (by kernel_rfl) (by kernel_rfl) (by decide) ?hQ4qB ?hy4qB (Below.drew (Below.refl _ _)) ?more4qB
            case hi4qB => rw [List.getElem?_toArray]; exact rfl
            case hQ4qB => exact fun _ _ _ h => h
            case hy4qB =>
              refine Or.inl ⟨by rfl, ?_⟩
              intro w' hSw
              clear hSw
              go_simp
              try with_reducible rfl
            simp only [Act.put, List.setIfInBounds_toArray, List.set_cons_zero, List.set_cons_succ]
            refine wpAnyN_takeL (i := 5) (oi := ?o5qB) (v := ?v5qB) [6, 11, 12, 13, 15] ?hi5qB (by kernel_rfl) (by kernel_rfl) (by kernel_rfl) (by kernel_rfl) (by decide) (by decide) (by kernel_rfl) ?hQ5qB ?hy5qB (Below.drew (Below.refl _ _)) ?more5qB
            case hi5qB => rw [List.getElem?_toArray]; exact rfl
            case hQ5qB => exact fun _ _ _ h => h
            case hy5qB =>
              refine Or.inl ⟨by rfl, ?_⟩
              intro w' hSw
              have d1 := (hSw.cell (p := ⟨H, 1, none⟩) HD.out.2.2).trans HD.out.1
              have d2 := (hSw.cell (p := ⟨H, 2, none⟩) HD.out.2.2).trans HD.out.2.1
              clear hSw
              go_simp
              try with_reducible rfl
            simp only [Act.put, List.setIfInBounds_toArray, List.set_cons_zero, List.set_cons_succ]
            refine wpAnyN_takeF (i := 6) (oi := ?o6qB) (v := ?v6qB) ?hi6qB (by kernel_rfl) (by kernel_rfl) (by kernel_rfl) (by decide) ?hQ6qB ?hy6qB (Below.drew (Below.refl _ _)) ?more6qB
            case hi6qB => rw [List.getElem?_toArray]; exact rfl
            case hQ6qB => exact fun _ _ _ h => h
            case hy6qB =>
              refine Or.inl ⟨by rfl, ?_⟩
              intro w' hSw
              clear hSw
              go_simp
              try with_reducible rfl
            simp only [Act.put, List.setIfInBounds_toArray, List.set_cons_zero, List.set_cons_succ]
            refine wpAnyN_takeF (i := 7) (oi := ?o7qB) (v := ?v7qB) ?hi7qB (by kernel_rfl) (by kernel_rfl) (by kernel_rfl) (by decide) ?hQ7qB ?hy7qB (Below.drew (Below.refl _ _)) ?more7qB
            case hi7qB => rw [List.getElem?_toArray]; exact rfl
            case hQ7qB => exact fun _ _ _ h => h
            case hy7qB =>
              refine Or.inl ⟨by rfl, ?_⟩
              intro w' hSw
              clear hSw
              go_simp
              try with_reducible rfl
            simp only [Act.put, List.setIfInBounds_toArray, List.set_cons_zero, List.set_cons_succ]
            refine wpAnyN_takeF (i := 8) (oi := ?o8qB) (v := ?v8qB) ?hi8qB (by kernel_rfl) (by kernel_rfl) (by kernel_rfl) (by decide) ?hQ8qB ?hy8qB (Below.drew (Below.refl _ _)) ?more8qB
            case hi8qB => rw [List.getElem?_toArray]; exact rfl
            case hQ8qB => exact fun _ _ _ h => h
            case hy8qB =>
              refine Or.inl ⟨by rfl, ?_⟩
              intro w' hSw
              clear hSw
              go_simp
              try with_reducible rfl
            simp only [Act.put, List.setIfInBounds_toArray, List.set_cons_zero, List.set_cons_succ]
            refine wpAnyN_takeF (i := 9) (oi := ?o9qB) (v := ?v9qB) ?hi9qB (by kernel_rfl) (by kernel_rfl) (by kernel_rfl) (by decide) ?hQ9qB ?hy9qB (Below.drew (Below.refl _ _)) ?more9qB
            case hi9qB => rw [List.getElem?_toArray]; exact rfl
            case hQ9qB => exact fun _ _ _ h => h
            case hy9qB =>
              refine Or.inl ⟨by rfl, ?_⟩
              intro w' hSw
              clear hSw
              go_simp
              try with_reducible rfl
            simp only [Act.put, List.setIfInBounds_toArray, List.set_cons_zero, List.set_cons_succ]
            refine wpAnyN_takeL (i := 10) (oi := ?o10qB) (v := ?v10qB) [11, 12, 13, 15] ?hi10qB (by kernel_rfl) (by kernel_rfl) (by kernel_rfl) (by kernel_rfl) (by decide) (by decide) (by kernel_rfl) ?hQ10qB ?hy10qB (Below.drew (Below.refl _ _)) ?more10qB
            case hi10qB => rw [List.getElem?_toArray]; exact rfl
            case hQ10qB => exact fun _ _ _ h => h
            case hy10qB =>
              refine Or.inl ⟨by rfl, ?_⟩
              intro w' hSw
              have d1 := (hSw.cell (p := ⟨H, 1, none⟩) HD.out.2.2).trans HD.out.1
              have d2 := (hSw.cell (p := ⟨H, 2, none⟩) HD.out.2.2).trans HD.out.2.1
              clear hSw
              go_simp
              try with_reducible rfl
            simp only [Act.put, List.setIfInBounds_toArray, List.set_cons_zero, List.set_cons_succ]
            refine wpAnyN_takeF (i := 11) (oi := ?o11qB) (v := ?v11qB) ?hi11qB (by kernel_rfl) (by kernel_rfl) (by kernel_rfl) (by decide) ?hQ11qB ?hy11qB (Below.drew (Below.refl _ _)) ?more11qB
            case hi11qB => rw [List.getElem?_toArray]; exact rfl
            case hQ11qB => exact fun _ _ _ h => h
            case hy11qB =>
              refine Or.inl ⟨by rfl, ?_⟩
              intro w' hSw
              clear hSw
              go_simp
              try with_reducible rfl
            simp only [Act.put, List.setIfInBounds_toArray, List.set_cons_zero, List.set_cons_succ]
            refine wpAnyN_one (i := 1) (o := ?o1qB) (by kernel_rfl) ?hi1qB ?hw1qB ?st1qB
            case hi1qB => rw [List.getElem?_toArray]; exact rfl
            case hw1qB => exact rfl
            intro K hK
            have HK1 : Hid _ := hK
            clear hK
            go_simp
            refine (KW.out _ (HZ.out.1.2.2.call (Below.drew (Below.refl _ _)))).mono ?_
            rintro e w31 ⟨rfl, rfl⟩
            go_wp2_with fail
            refine HK1.out _ _ ⟨fun _ => (Below.drew (Below.refl _ _)), ?_⟩
            clear HK1 K
            try simp only [Act.put, List.setIfInBounds_toArray, List.set_cons_zero, List.set_cons_succ]
            refine wpAnyN_takeF (i := 12) (oi := ?o12qB) (v := ?v12qB) ?hi12qB (by kernel_rfl) (by kernel_rfl) (by kernel_rfl) (by decide) ?hQ12qB ?hy12qB (Below.drew (Below.refl _ _)) ?more12qB
            case hi12qB => rw [List.getElem?_toArray]; exact rfl
            case hQ12qB => exact fun _ _ _ h => h
            case hy12qB =>
              refine Or.inl ⟨by rfl, ?_⟩
              intro w' hSw
              clear hSw
              go_simp
              try with_reducible rfl
            simp only [Act.put, List.setIfInBounds_toArray, List.set_cons_zero, List.set_cons_succ]
            refine wpAnyN_takeF (i := 13) (oi := ?o13qB) (v := ?v13qB) ?hi13qB (by kernel_rfl) (by kernel_rfl) (by kernel_rfl) (by decide) ?hQ13qB ?hy13qB (Below.drew (Below.refl _ _)) ?more13qB
            case hi13qB => rw [List.getElem?_toArray]; exact rfl
            case hQ13qB => exact fun _ _ _ h => h
            case hy13qB =>
              refine Or.inl ⟨by rfl, ?_⟩
              intro w' hSw
              clear hSw
              go_simp
              try with_reducible rfl
            simp only [Act.put, List.setIfInBounds_toArray, List.set_cons_zero, List.set_cons_succ]
            refine wpAnyN_takeF (i := 14) (oi := ?o14qB) (v := ?v14qB) ?hi14qB (by kernel_rfl) (by kernel_rfl) (by kernel_rfl) (by decide) ?hQ14qB ?hy14qB (Below.drew (Below.refl _ _)) ?more14qB
            case hi14qB => rw [List.getElem?_toArray]; exact rfl
            case hQ14qB => exact fun _ _ _ h => h
            case hy14qB =>
              refine Or.inl ⟨by rfl, ?_⟩
              intro w' hSw
              clear hSw
              go_simp
              try with_reducible rfl
            simp only [Act.put, List.setIfInBounds_toArray, List.set_cons_zero, List.set_cons_succ]
            refine wpAnyN_takeF (i := 16) (oi := ?o16qB) (v := ?v16qB) ?hi16qB (by kernel_rfl) (by kernel_rfl) (by kernel_rfl) (by decide) ?hQ16qB ?hy16qB (Below.drew (Below.refl _ _)) ?more16qB
            case hi16qB => rw [List.getElem?_toArray]; exact rfl
            case hQ16qB => exact fun _ _ _ h => h
            case hy16qB =>
              refine Or.inl ⟨by rfl, ?_⟩
              intro w' hSw
              clear hSw
              go_simp
              try with_reducible rfl
            simp only [Act.put, List.setIfInBounds_toArray, List.set_cons_zero, List.set_cons_succ]
            refine wpAnyN_one (i := 15) (o := ?o15qB) (by kernel_rfl) ?hi15qB ?hw15qB ?st15qB
            case hi15qB => rw [List.getElem?_toArray]; exact rfl
            case hw15qB => exact rfl
            intro K hK
            have HK15 : Hid _ := hK
            clear hK
            go_simp
            refine (KF.out _ (HZ.out.1.2.2.call (Below.drew (Below.refl _ _)))).mono ?_
            rintro e w15 ⟨rfl, hS15, hq⟩
            obtain ⟨p15, hp15⟩ : ∃ p, p = w5.drew.heap.size := ⟨_, rfl⟩
            rw [← hp15] at hS15 ⊢
            have H15 : Hid (Below w5.heap.size w5 w15 ∧ Strs w15 (some ⟨p15, 0, none⟩) fr) := ⟨below_call0 (Below.drew (Below.refl _ _)) hq, hS15⟩
            clear hq hS15 hp15
            go_wp2_with fail
            refine HK15.out _ _ ⟨fun _ => H15.out.1, ?_⟩
            clear HK15 K
            try simp only [Act.put, List.setIfInBounds_toArray, List.set_cons_zero, List.set_cons_succ]
            refine wpAnyN_one (i := 17) (o := ?o17qB) (by kernel_rfl) ?hi17qB ?hw17qB ?st17qB
            case hi17qB => rw [List.getElem?_toArray]; exact rfl
            case hw17qB => exact rfl
            intro K hK
            have HK17 : Hid _ := hK
            clear hK
            go_simp
            refine (KR.out _ (HZ.out.2.1.2.2.call H15.out.1)).mono ?_
            rintro e w17 ⟨a17, cap17, rfl, hS17, hq⟩
            have H17 : Hid (Below w5.heap.size w5 w17 ∧ Strs w17 (some ⟨p15, 0, none⟩) fr ∧ Strs w17 a17 fr) := ⟨below_call0 H15.out.1 hq, H15.out.2.call hq, hS17⟩
            clear hq hS17
            go_wp2_with fail
            refine HK17.out _ _ ⟨fun _ => H17.out.1, ?_⟩
            clear HK17 K
            try simp only [Act.put, List.setIfInBounds_toArray, List.set_cons_zero, List.set_cons_succ]
            refine wpAnyN_one (i := 18) (o := ?o18qB) (by kernel_rfl) ?hi18qB ?hw18qB ?st18qB
            case hi18qB => rw [List.getElem?_toArray]; exact rfl
            case hw18qB => exact rfl
            intro K hK
            have HK18 : Hid _ := hK
            clear hK
            go_simp
            refine (KT.out _ _ _ _ _ H17.out.2.1 H17.out.2.2).mono ?_
            rintro e w18 ⟨rfl, hq⟩
            have H18 : Hid (Below w5.heap.size w5 w18) := below_call0 H17.out.1 hq
            clear hq
            go_wp2_with fail
            refine HK18.out _ _ ⟨fun _ => H18.out, ?_⟩
            clear HK18 K
            try simp only [Act.put, List.setIfInBounds_toArray, List.set_cons_zero, List.set_cons_succ]
            refine wpAnyN_takeF (i := 19) (oi := ?o19qB) (v := ?v19qB) ?hi19qB (by kernel_rfl) (by kernel_rfl) (by kernel_rfl) (by decide) ?hQ19qB ?hy19qB H18.out ?more19qB
            case hi19qB => rw [List.getElem?_toArray]; exact rfl
            case hQ19qB => exact fun _ _ _ h => h
            case hy19qB =>
              refine Or.inl ⟨by rfl, ?_⟩
              intro w' hSw
              clear hSw
              go_simp
              try with_reducible rfl
            simp only [Act.put, List.setIfInBounds_toArray, List.set_cons_zero, List.set_cons_succ]
            refine wpAnyN_one (i := 20) (o := ?o20qB) (by kernel_rfl) ?hi20qB ?hw20qB ?st20qB
            case hi20qB => rw [List.getElem?_toArray]; exact rfl
            case hw20qB => exact rfl
            intro K hK
            have HK20 : Hid _ := hK
            clear hK
            go_simp
            refine HK20.out _ _ ⟨fun h => absurd h (by decide +kernel), ?_⟩
            clear HK20 K
            try simp only [Act.put, List.setIfInBounds_toArray, List.set_cons_zero, List.set_cons_succ]
            refine wpAnyN_done (by kernel_rfl) ?_ _
            go_wp2_with fail
            have HE : Hid (Both w w18 (paint (paint (paint cx (wr.alloc (.cells #[.int .i64 1, .string s] 33)) w4 1) w4 w5 2) w5 w18 0) G H life gone LZ (k + 1)) := HZ.out.call H18.out
            go_roundw
            case rel => first | exact ⟨k + 1, _, gone, LZ, hlt, by go_num, HE.out⟩ | ((repeat apply Exists.intro); exact ⟨⟨k + 1, _, gone, LZ, hlt, by go_num, HE.out⟩, rfl⟩)
            case measure => simp [Go.RowKit.intOf]; omega
        · have x0 : ¬ (X = 0) := fun q => h01 (.inl q)
          have x1 : ¬ (X = 1) := fun q => h01 (.inr q)
          clear h01
          go_wp2_with fail
          rw [← hwx]
          have HZ : Hid (Both w wx cx G H life gone L (k + 1)) := ⟨HX.out.1, HX.out.2.1, HX.out.2.2.1, Nat.le_succ_of_le HX.out.2.2.2.1, HX.out.2.2.2.2⟩
          clear hwx
          obtain ⟨tl, htl⟩ : ∃ x, x = (L.drop gone).length := ⟨_, rfl⟩
          obtain ⟨ln, hln⟩ : ∃ x, x = L.length := ⟨_, rfl⟩
          obtain ⟨fr, hfr⟩ : ∃ x, x = frL life gone (L.drop gone) := ⟨_, rfl⟩
          have hdl : (L.drop gone).length = L.length - gone := List.length_drop ..
          obtain ⟨aH, cH, -, dh1, dh2, -⟩ := HZ.out.2.1.2.2
          rw [← hln] at dh2
          have HD : Hid (wx.cell? ⟨H, 1, none⟩ = some (.int .i64 (gone : Nat)) ∧ wx.cell? ⟨H, 2, none⟩ = some (.slice aH ln cH) ∧ H < wx.heap.size) := ⟨dh1, dh2, HZ.out.2.1.lt⟩
          have lk : L.length ≤ 301 := by have := HZ.out.2.2.2.1; have := n300; omega
          have gl := HZ.out.2.2.1
          have KW : Hid _ := fun (w' : World) (h : SenderAt w' G (fun k => cx k = 1 ∨ wx.heap.size ≤ k) life L.length (L.drop gone)) => waiting_any G _ life L.length (L.drop gone) w' h
          rw [← htl] at KW
          have KF : Hid (∀ w' : World, SenderAt w' G (fun k => cx k = 1 ∨ wx.heap.size ≤ k) life L.length (L.drop gone) → Calls Try.prog 16 #[.pointer (some ⟨G, 0, none⟩)] w' fun e w'' => e = .returned (.slice (some ⟨w'.heap.size, 0, none⟩) (min 16 tl) (min 16 tl)) ∧ Strs w'' (some ⟨w'.heap.size, 0, none⟩) fr ∧ Below w'.heap.size w' w'') := fun w' h => by
            have := frames_any G _ life L.length (L.drop gone) (by omega) (by omega) HLf.out.2 (fun s hs => HZ.out.2.2.2.2.1 s (List.mem_of_mem_drop hs)) w' h
            rw [show L.length - (L.drop gone).length = gone from by omega, ← hfr, ← htl] at this
            exact this
          have KR : Hid (∀ w' : World, SenderAt w' H (fun k => cx k = 2 ∨ wx.heap.size ≤ k) life gone L → Calls Try.prog 17 #[.pointer (some ⟨H, 0, none⟩)] w' fun e w'' => ∃ a cap, e = .returned (.slice a (min 16 tl) cap) ∧ Strs w'' a fr ∧ Below w'.heap.size w' w'') := fun w' h => by
            have := rframes_any H _ life gone L (by omega) gl HLf.out.2 HZ.out.2.2.2.2.1 w' h
            rw [← hfr, ← htl] at this
            exact this
          have frl : fr.length = min 16 tl := by rw [hfr, frL_length, htl]
          have KT : Hid (∀ (w' : World) (a b : Option Addr) (ca cb : Nat), Strs w' a fr → Strs w' b fr → Calls Try.prog 15 #[.slice a (min 16 tl) ca, .slice b (min 16 tl) cb] w' fun e w'' => e = .returned (.bool true) ∧ Below w'.heap.size w' w'') := fun w' a b ca cb h1 h2 => by
            have := texts_any a b fr fr ca cb (by omega) w' h1 h2
            rw [decide_eq_true rfl, frl] at this
            exact this
          have ew : IntKind.i64.wrap ((ln : Int) - (gone : Int)) = (tl : Nat) := by rw [wrapIn _ (by omega)]; omega
          clear htl hln hfr hdl dh1 dh2 lk gl frl
          refine wp_region_N (fun w' => Below wx.heap.size wx w') 15 21 rfl (by kernel_rfl) ?_
          refine wpAnyN_takeF (i := 0) (oi := ?o0qC) (v := ?v0qC) ?hi0qC (by kernel_rfl) (by kernel_rfl) (by kernel_rfl) (by decide) ?hQ0qC ?hy0qC (Below.drew (Below.refl _ _)) ?more0qC
          case hi0qC => rw [List.getElem?_toArray]; exact rfl
          case hQ0qC => exact fun _ _ _ h => h
          case hy0qC =>
            refine Or.inl ⟨by rfl, ?_⟩
            intro w' hSw
            clear hSw
            go_simp
            try with_reducible rfl
          simp only [Act.put, List.setIfInBounds_toArray, List.set_cons_zero, List.set_cons_succ]
          refine wpAnyN_takeF (i := 2) (oi := ?o2qC) (v := ?v2qC) ?hi2qC (by kernel_rfl) (by kernel_rfl) (by kernel_rfl) (by decide) ?hQ2qC ?hy2qC (Below.drew (Below.refl _ _)) ?more2qC
          case hi2qC => rw [List.getElem?_toArray]; exact rfl
          case hQ2qC => exact fun _ _ _ h => h
          case hy2qC =>
            refine Or.inl ⟨by rfl, ?_⟩
            intro w' hSw
            clear hSw
            go_simp
            try with_reducible rfl
          simp only [Act.put, List.setIfInBounds_toArray, List.set_cons_zero, List.set_cons_succ]
          refine wpAnyN_takeF (i := 3) (oi := ?o3qC) (v := ?v3qC) ?hi3qC (by kernel_rfl) (by kernel_rfl) (by kernel_rfl) (by decide) ?hQ3qC ?hy3qC (Below.drew (Below.refl _ _)) ?more3qC
          case hi3qC => rw [List.getElem?_toArray]; exact rfl
          case hQ3qC => exact fun _ _ _ h => h
          case hy3qC =>
            refine Or.inl ⟨by rfl, ?_⟩
            intro w' hSw
            clear hSw
            go_simp
            try with_reducible rfl
          simp only [Act.put, List.setIfInBounds_toArray, List.set_cons_zero, List.set_cons_succ]
          refine wpAnyN_takeF (i := 4) (oi := ?o4qC) (v := ?v4qC) ?hi4qC (by kernel_rfl) (by kernel_rfl) (by kernel_rfl) (by decide) ?hQ4qC ?hy4qC (Below.drew (Below.refl _ _)) ?more4qC
          case hi4qC => rw [List.getElem?_toArray]; exact rfl
          case hQ4qC => exact fun _ _ _ h => h
          case hy4qC =>
            refine Or.inl ⟨by rfl, ?_⟩
            intro w' hSw
            clear hSw
            go_simp
            try with_reducible rfl
          simp only [Act.put, List.setIfInBounds_toArray, List.set_cons_zero, List.set_cons_succ]
          refine wpAnyN_takeL (i := 5) (oi := ?o5qC) (v := ?v5qC) [6, 11, 12, 13, 15] ?hi5qC (by kernel_rfl) (by kernel_rfl) (by kernel_rfl) (by kernel_rfl) (by decide) (by decide) (by kernel_rfl) ?hQ5qC ?hy5qC (Below.drew (Below.refl _ _)) ?more5qC
          case hi5qC => rw [List.getElem?_toArray]; exact rfl
          case hQ5qC => exact fun _ _ _ h => h
          case hy5qC =>
            refine Or.inl ⟨by rfl, ?_⟩
            intro w' hSw
            have d1 := (hSw.cell (p := ⟨H, 1, none⟩) HD.out.2.2).trans HD.out.1
            have d2 := (hSw.cell (p := ⟨H, 2, none⟩) HD.out.2.2).trans HD.out.2.1
            clear hSw
            go_simp
            try with_reducible rfl
          simp only [Act.put, List.setIfInBounds_toArray, List.set_cons_zero, List.set_cons_succ]
          refine wpAnyN_takeF (i := 6) (oi := ?o6qC) (v := ?v6qC) ?hi6qC (by kernel_rfl) (by kernel_rfl) (by kernel_rfl) (by decide) ?hQ6qC ?hy6qC (Below.drew (Below.refl _ _)) ?more6qC
          case hi6qC => rw [List.getElem?_toArray]; exact rfl
          case hQ6qC => exact fun _ _ _ h => h
          case hy6qC =>
            refine Or.inl ⟨by rfl, ?_⟩
            intro w' hSw
            clear hSw
            go_simp
            try with_reducible rfl
          simp only [Act.put, List.setIfInBounds_toArray, List.set_cons_zero, List.set_cons_succ]
          refine wpAnyN_takeF (i := 7) (oi := ?o7qC) (v := ?v7qC) ?hi7qC (by kernel_rfl) (by kernel_rfl) (by kernel_rfl) (by decide) ?hQ7qC ?hy7qC (Below.drew (Below.refl _ _)) ?more7qC
          case hi7qC => rw [List.getElem?_toArray]; exact rfl
          case hQ7qC => exact fun _ _ _ h => h
          case hy7qC =>
            refine Or.inl ⟨by rfl, ?_⟩
            intro w' hSw
            clear hSw
            go_simp
            try with_reducible rfl
          simp only [Act.put, List.setIfInBounds_toArray, List.set_cons_zero, List.set_cons_succ]
          refine wpAnyN_takeF (i := 8) (oi := ?o8qC) (v := ?v8qC) ?hi8qC (by kernel_rfl) (by kernel_rfl) (by kernel_rfl) (by decide) ?hQ8qC ?hy8qC (Below.drew (Below.refl _ _)) ?more8qC
          case hi8qC => rw [List.getElem?_toArray]; exact rfl
          case hQ8qC => exact fun _ _ _ h => h
          case hy8qC =>
            refine Or.inl ⟨by rfl, ?_⟩
            intro w' hSw
            clear hSw
            go_simp
            try with_reducible rfl
          simp only [Act.put, List.setIfInBounds_toArray, List.set_cons_zero, List.set_cons_succ]
          refine wpAnyN_takeF (i := 9) (oi := ?o9qC) (v := ?v9qC) ?hi9qC (by kernel_rfl) (by kernel_rfl) (by kernel_rfl) (by decide) ?hQ9qC ?hy9qC (Below.drew (Below.refl _ _)) ?more9qC
          case hi9qC => rw [List.getElem?_toArray]; exact rfl
          case hQ9qC => exact fun _ _ _ h => h
          case hy9qC =>
            refine Or.inl ⟨by rfl, ?_⟩
            intro w' hSw
            clear hSw
            go_simp
            try with_reducible rfl
          simp only [Act.put, List.setIfInBounds_toArray, List.set_cons_zero, List.set_cons_succ]
          refine wpAnyN_takeL (i := 10) (oi := ?o10qC) (v := ?v10qC) [11, 12, 13, 15] ?hi10qC (by kernel_rfl) (by kernel_rfl) (by kernel_rfl) (by kernel_rfl) (by decide) (by decide) (by kernel_rfl) ?hQ10qC ?hy10qC (Below.drew (Below.refl _ _)) ?more10qC
          case hi10qC => rw [List.getElem?_toArray]; exact rfl
          case hQ10qC => exact fun _ _ _ h => h
          case hy10qC =>
            refine Or.inl ⟨by rfl, ?_⟩
            intro w' hSw
            have d1 := (hSw.cell (p := ⟨H, 1, none⟩) HD.out.2.2).trans HD.out.1
            have d2 := (hSw.cell (p := ⟨H, 2, none⟩) HD.out.2.2).trans HD.out.2.1
            clear hSw
            go_simp
            try with_reducible rfl
          simp only [Act.put, List.setIfInBounds_toArray, List.set_cons_zero, List.set_cons_succ]
          refine wpAnyN_takeF (i := 11) (oi := ?o11qC) (v := ?v11qC) ?hi11qC (by kernel_rfl) (by kernel_rfl) (by kernel_rfl) (by decide) ?hQ11qC ?hy11qC (Below.drew (Below.refl _ _)) ?more11qC
          case hi11qC => rw [List.getElem?_toArray]; exact rfl
          case hQ11qC => exact fun _ _ _ h => h
          case hy11qC =>
            refine Or.inl ⟨by rfl, ?_⟩
            intro w' hSw
            clear hSw
            go_simp
            try with_reducible rfl
          simp only [Act.put, List.setIfInBounds_toArray, List.set_cons_zero, List.set_cons_succ]
          refine wpAnyN_one (i := 1) (o := ?o1qC) (by kernel_rfl) ?hi1qC ?hw1qC ?st1qC
          case hi1qC => rw [List.getElem?_toArray]; exact rfl
          case hw1qC => exact rfl
          intro K hK
          have HK1 : Hid _ := hK
          clear hK
          go_simp
          refine (KW.out _ (HZ.out.1.2.2.call (Below.drew (Below.refl _ _)))).mono ?_
          rintro e w31 ⟨rfl, rfl⟩
          go_wp2_with fail
          refine HK1.out _ _ ⟨fun _ => (Below.drew (Below.refl _ _)), ?_⟩
          clear HK1 K
          try simp only [Act.put, List.setIfInBounds_toArray, List.set_cons_zero, List.set_cons_succ]
          refine wpAnyN_takeF (i := 12) (oi := ?o12qC) (v := ?v12qC) ?hi12qC (by kernel_rfl) (by kernel_rfl) (by kernel_rfl) (by decide) ?hQ12qC ?hy12qC (Below.drew (Below.refl _ _)) ?more12qC
          case hi12qC => rw [List.getElem?_toArray]; exact rfl
          case hQ12qC => exact fun _ _ _ h => h
          case hy12qC =>
            refine Or.inl ⟨by rfl, ?_⟩
            intro w' hSw
            clear hSw
            go_simp
            try with_reducible rfl
          simp only [Act.put, List.setIfInBounds_toArray, List.set_cons_zero, List.set_cons_succ]
          refine wpAnyN_takeF (i := 13) (oi := ?o13qC) (v := ?v13qC) ?hi13qC (by kernel_rfl) (by kernel_rfl) (by kernel_rfl) (by decide) ?hQ13qC ?hy13qC (Below.drew (Below.refl _ _)) ?more13qC
          case hi13qC => rw [List.getElem?_toArray]; exact rfl
          case hQ13qC => exact fun _ _ _ h => h
          case hy13qC =>
            refine Or.inl ⟨by rfl, ?_⟩
            intro w' hSw
            clear hSw
            go_simp
            try with_reducible rfl
          simp only [Act.put, List.setIfInBounds_toArray, List.set_cons_zero, List.set_cons_succ]
          refine wpAnyN_takeF (i := 14) (oi := ?o14qC) (v := ?v14qC) ?hi14qC (by kernel_rfl) (by kernel_rfl) (by kernel_rfl) (by decide) ?hQ14qC ?hy14qC (Below.drew (Below.refl _ _)) ?more14qC
          case hi14qC => rw [List.getElem?_toArray]; exact rfl
          case hQ14qC => exact fun _ _ _ h => h
          case hy14qC =>
            refine Or.inl ⟨by rfl, ?_⟩
            intro w' hSw
            clear hSw
            go_simp
            try with_reducible rfl
          simp only [Act.put, List.setIfInBounds_toArray, List.set_cons_zero, List.set_cons_succ]
          refine wpAnyN_takeF (i := 16) (oi := ?o16qC) (v := ?v16qC) ?hi16qC (by kernel_rfl) (by kernel_rfl) (by kernel_rfl) (by decide) ?hQ16qC ?hy16qC (Below.drew (Below.refl _ _)) ?more16qC
          case hi16qC => rw [List.getElem?_toArray]; exact rfl
          case hQ16qC => exact fun _ _ _ h => h
          case hy16qC =>
            refine Or.inl ⟨by rfl, ?_⟩
            intro w' hSw
            clear hSw
            go_simp
            try with_reducible rfl
          simp only [Act.put, List.setIfInBounds_toArray, List.set_cons_zero, List.set_cons_succ]
          refine wpAnyN_one (i := 15) (o := ?o15qC) (by kernel_rfl) ?hi15qC ?hw15qC ?st15qC
          case hi15qC => rw [List.getElem?_toArray]; exact rfl
          case hw15qC => exact rfl
          intro K hK
          have HK15 : Hid _ := hK
          clear hK
          go_simp
          refine (KF.out _ (HZ.out.1.2.2.call (Below.drew (Below.refl _ _)))).mono ?_
          rintro e w15 ⟨rfl, hS15, hq⟩
          obtain ⟨p15, hp15⟩ : ∃ p, p = wx.drew.heap.size := ⟨_, rfl⟩
          rw [← hp15] at hS15 ⊢
          have H15 : Hid (Below wx.heap.size wx w15 ∧ Strs w15 (some ⟨p15, 0, none⟩) fr) := ⟨below_call0 (Below.drew (Below.refl _ _)) hq, hS15⟩
          clear hq hS15 hp15
          go_wp2_with fail
          refine HK15.out _ _ ⟨fun _ => H15.out.1, ?_⟩
          clear HK15 K
          try simp only [Act.put, List.setIfInBounds_toArray, List.set_cons_zero, List.set_cons_succ]
          refine wpAnyN_one (i := 17) (o := ?o17qC) (by kernel_rfl) ?hi17qC ?hw17qC ?st17qC
          case hi17qC => rw [List.getElem?_toArray]; exact rfl
          case hw17qC => exact rfl
          intro K hK
          have HK17 : Hid _ := hK
          clear hK
          go_simp
          refine (KR.out _ (HZ.out.2.1.2.2.call H15.out.1)).mono ?_
          rintro e w17 ⟨a17, cap17, rfl, hS17, hq⟩
          have H17 : Hid (Below wx.heap.size wx w17 ∧ Strs w17 (some ⟨p15, 0, none⟩) fr ∧ Strs w17 a17 fr) := ⟨below_call0 H15.out.1 hq, H15.out.2.call hq, hS17⟩
          clear hq hS17
          go_wp2_with fail
          refine HK17.out _ _ ⟨fun _ => H17.out.1, ?_⟩
          clear HK17 K
          try simp only [Act.put, List.setIfInBounds_toArray, List.set_cons_zero, List.set_cons_succ]
          refine wpAnyN_one (i := 18) (o := ?o18qC) (by kernel_rfl) ?hi18qC ?hw18qC ?st18qC
          case hi18qC => rw [List.getElem?_toArray]; exact rfl
          case hw18qC => exact rfl
          intro K hK
          have HK18 : Hid _ := hK
          clear hK
          go_simp
          refine (KT.out _ _ _ _ _ H17.out.2.1 H17.out.2.2).mono ?_
          rintro e w18 ⟨rfl, hq⟩
          have H18 : Hid (Below wx.heap.size wx w18) := below_call0 H17.out.1 hq
          clear hq
          go_wp2_with fail
          refine HK18.out _ _ ⟨fun _ => H18.out, ?_⟩
          clear HK18 K
          try simp only [Act.put, List.setIfInBounds_toArray, List.set_cons_zero, List.set_cons_succ]
          refine wpAnyN_takeF (i := 19) (oi := ?o19qC) (v := ?v19qC) ?hi19qC (by kernel_rfl) (by kernel_rfl) (by kernel_rfl) (by decide) ?hQ19qC ?hy19qC H18.out ?more19qC
          case hi19qC => rw [List.getElem?_toArray]; exact rfl
          case hQ19qC => exact fun _ _ _ h => h
          case hy19qC =>
            refine Or.inl ⟨by rfl, ?_⟩
            intro w' hSw
            clear hSw
            go_simp
            try with_reducible rfl
          simp only [Act.put, List.setIfInBounds_toArray, List.set_cons_zero, List.set_cons_succ]
          refine wpAnyN_one (i := 20) (o := ?o20qC) (by kernel_rfl) ?hi20qC ?hw20qC ?st20qC
          case hi20qC => rw [List.getElem?_toArray]; exact rfl
          case hw20qC => exact rfl
          intro K hK
          have HK20 : Hid _ := hK
          clear hK
          go_simp
          refine HK20.out _ _ ⟨fun h => absurd h (by decide +kernel), ?_⟩
          clear HK20 K
          try simp only [Act.put, List.setIfInBounds_toArray, List.set_cons_zero, List.set_cons_succ]
          refine wpAnyN_done (by kernel_rfl) ?_ _
          go_wp2_with fail
          have HE : Hid (Both w w18 (paint cx wx w18 0) G H life gone L (k + 1)) := HZ.out.call H18.out
          go_roundw
          case rel => first | exact ⟨k + 1, _, gone, L, hlt, by go_num, HE.out⟩ | ((repeat apply Exists.intro); exact ⟨⟨k + 1, _, gone, L, hlt, by go_num, HE.out⟩, rfl⟩)
          case measure => simp [Go.RowKit.intOf]; omega
    · obtain rfl : k = n := by omega
      have hnl : ¬ ((k : Int) < (k : Int)) := Int.lt_irrefl _
      clear hlt hk
      go_wp2_with fail
      refine HKr.out _ _ ?_
      clear HKr
      go_wp2_with fail
      refine (K2.out _).mono ?_
      rintro e w3 ⟨rfl, hb3⟩
      have H3 : Hid (Below w.heap.size w w3) := below_call0 HR.out.2.2.2.2.2.2 hb3
      clear hb3 K2
      go_wp2_with fail
      go_ret
      exact ⟨rfl, H3.out⟩
end Go.Proofs.Ytadcjdffjhiniaa
