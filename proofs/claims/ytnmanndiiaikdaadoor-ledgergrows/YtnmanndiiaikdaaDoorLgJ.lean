/- Package wardmotelaw11: LedgerGrows. -/
import Derived.Test.YtnmanndiiaikdaaDoorLgK
namespace Go.Proofs.YtnmanndiiaikdaaDoor
open Go Go.RowKit Go.Lib

/-- What LedgerGrows has behind i texts. -/
def GrI (w : World) (G L i : Nat) (rs : List ByteArray) (bs : ByteArray) (c : Nat → Nat) (W : World) : Prop :=
  Fil W c 1 11 G 0 bs ∧ Led W c G L rs ∧ Glb W c ∧ Below w.heap.size w W ∧ (∀ k, k < w.heap.size → k < W.heap.size ∧ c k = 0) ∧ bs.size ≤ 2006 * i ∧ rs.length ≤ i ∧ ∀ x ∈ rs, x.size ≤ 2000
theorem GrI.call {w : World} {G L i : Nat} {rs : List ByteArray} {bs : ByteArray} {c : Nat → Nat} {W W' : World} (h : GrI w G L i rs bs c W) (hb : Below W.heap.size W W') : GrI w G L i rs bs (paint c W W' 3) W' := by
  obtain ⟨h1, h2, h3, h4, h5, h6, h7, h8⟩ := h
  exact ⟨h1.keep 3 (Chg.of_below hb (i := 0) (j := 0)) (by decide) (by decide) (by decide) (by decide), h2.keep 3 (Chg.of_below hb (i := 0) (j := 0)) (by decide) (by decide) (by decide) (by decide), h3.keep 3 (Chg.of_below hb (i := 9) (j := 9)) (by decide) (by decide), h4.trans (hb.mono h4.size), zero_paint h5 hb.size, h6, h7, h8⟩
theorem app_pre (a b : ByteArray) : (a ++ b).extract 0 a.size = a := by
  refine ba_ext ?_
  rw [ba_extract, ba_append, List.drop_zero, Nat.sub_zero, List.take_append_of_le_length (by rw [ba_len]; exact Nat.le_refl _), List.take_of_length_le (by rw [ba_len]; exact Nat.le_refl _)]
set_option maxRecDepth 20000 in
set_option maxHeartbeats 4000000 in
theorem ledgerGrows_any (a0 : Option Addr) (l : List ByteArray) (cap0 : Nat) (r : ByteArray) (w : World) (hS : Strs w a0 l) (hG : GlobD w) (h1 : 0 < w.heap.size) (h2 : 1 < w.heap.size) :
    Calls Tryd.prog 7 #[.slice a0 l.length cap0, .string r] w fun e w' => e = .returned (.bool true) ∧ Below w.heap.size w w' := by
  have KO : Hid (∀ w' : World, Below w.heap.size w w' → Calls Tryd.prog 8 #[] w' fun e w'' => e = .returned (.bool true) ∧ Below w'.heap.size w' w'') := fun w' hb => one11_any w' (hG.call hb) (Nat.lt_of_lt_of_le h1 hb.size) (Nat.lt_of_lt_of_le h2 hb.size)
  have KN : Hid _ := fnew_fil w hG h1 h2
  obtain ⟨n, hn⟩ : ∃ n, n = l.length := ⟨_, rfl⟩
  rw [← hn]
  have HS : Hid (∀ i, (q : i < n) → ∃ p o t, a0 = some ⟨p, o, none⟩ ∧ w.cell? ⟨p, o + i, none⟩ = some (.string t) ∧ p < w.heap.size) := fun i q => by
    obtain ⟨p, o, e1, e2, e3⟩ := hS.get (k := i) (by omega)
    exact ⟨p, o, _, e1, e2, e3⟩
  clear hS hG h1 h2 hn
  by_cases hn20 : 20 < n
  · have k0 : (20 : Int) < (n : Int) := by omega
    clear hn20
    go_enter Tryd.func7, Tryd.ntmps7
    go_wp2_with fail
    refine Calls.mono (KO.out _ (Below.refl _ _)) ?_
    rintro e w1 ⟨rfl, hb1⟩
    have H1 : Hid _ := hb1
    clear hb1
    go_wp2_with fail
    go_ret
    exact ⟨rfl, H1.out⟩
  have k0 : ¬ (20 : Int) < (n : Int) := by omega
  by_cases hr : 3000 < r.size
  · have k1 : (3000 : Int) < (r.size : Int) := by omega
    clear hn20 hr
    go_enter Tryd.func7, Tryd.ntmps7
    go_wp2_with fail
    refine Calls.mono (KO.out _ (Below.refl _ _)) ?_
    rintro e w1 ⟨rfl, hb1⟩
    have H1 : Hid _ := hb1
    clear hb1
    go_wp2_with fail
    go_ret
    exact ⟨rfl, H1.out⟩
  have k1 : ¬ (3000 : Int) < (r.size : Int) := by omega
  have KP : Hid (∀ (c : Nat → Nat) (G : Nat) (w' : World), Fil w' c 1 11 G 0 ByteArray.empty → Glb w' c → Calls Tryd.prog 13 #[.pointer (some ⟨G, 0, none⟩)] w' fun e w'' => ∃ (L : Nat) (c' : Nat → Nat), e = .returned (.tuple #[.pointer (some ⟨L, 0, none⟩), .int .i64 0]) ∧ Fil w'' c' 1 11 G 0 ByteArray.empty ∧ Led w'' c' G L [] ∧ Glb w'' c' ∧ Chg w' c 1 11 w'' ∧ ∀ k, k < w'.heap.size → c' k = c k) := fun c G w' hF hG => by
    refine (lopen_any c G 0 ByteArray.empty (by decide) [] (told_empty 0) w' hF hG).mono ?_
    rintro e w'' ⟨L, c', e1, e2, e3, e4, e5, _, e7⟩
    exact ⟨L, c', e1, e2, e3, e4, e5, e7⟩
  have HN : Hid (n ≤ 20 ∧ r.size ≤ 3000) := ⟨by omega, by omega⟩
  have rb : (r.size : Int) ≤ 3000 := by omega
  clear hn20 hr
  go_enter Tryd.func7, Tryd.ntmps7
  go_wp2_with fail
  refine Calls.mono KN.out ?_
  rintro e w4 ⟨rfl, c4, hF4, hG4, hb4, hk4⟩
  obtain ⟨G, hGG⟩ : ∃ G, G = w.heap.size := ⟨_, rfl⟩
  rw [← hGG] at hF4 ⊢
  have H4 : Hid (Fil w4 c4 1 11 G 0 ByteArray.empty ∧ Glb w4 c4 ∧ Below w.heap.size w w4 ∧ ∀ k, k < w.heap.size → k < w4.heap.size ∧ c4 k = 0) := ⟨hF4, hG4, by rw [← hGG]; exact hGG ▸ hb4, fun k hk => hk4 k (by omega)⟩
  have HGG : Hid (G = w.heap.size) := hGG
  clear hF4 hG4 hb4 hk4 hGG KN
  go_wp2_with fail
  refine (KP.out _ G w4 H4.out.1 H4.out.2.1).mono ?_
  rintro e w6 ⟨L, c6, rfl, hF6, hD6, hG6, hC6, hk6⟩
  have H6 : Hid (GrI w G L 0 [] ByteArray.empty c6 w6) := by
    have hu := hC6.under H4.out.2.2.2 (by decide) (by decide)
    exact ⟨hF6, hD6, hG6, H4.out.2.2.1.trans hu, fun k hk => ⟨Nat.lt_of_lt_of_le (H4.out.2.2.2 k hk).1 hu.size, by rw [hk6 k (H4.out.2.2.2 k hk).1]; exact (H4.out.2.2.2 k hk).2⟩, by decide, by decide, fun x hx => by cases hx⟩
  clear hF6 hD6 hG6 hC6 hk6 H4 KP
  rw [HGG.out]
  rw [← HGG.out]
  go_wp2_with fail
  rename_i Kr hKr
  have HKr : Hid _ := hKr
  clear hKr
  go_loopw [41] (fun iv wr => ∃ (i : Nat) (rs : List ByteArray) (bs : ByteArray) (c : Nat → Nat), i ≤ n ∧ iv = .int .i64 (i : Nat) ∧ GrI w G L i rs bs c wr) (fun iv _ => n - (Go.RowKit.intOf iv).toNat)
  case atStart => exact ⟨0, [], ByteArray.empty, c6, Nat.zero_le _, rfl, H6.out⟩
  case round =>
    obtain ⟨i, rs, bs, c, hi', rfl, hI⟩ := hrel
    rename World => wr
    have HI : Hid (GrI w G L i rs bs c wr) := hI
    clear hI
    by_cases hlt : i < n
    · clear HKr
      have hlt' : (i : Int) < (n : Int) := Int.ofNat_lt.2 hlt
      have ib : (i : Int) ≤ 20 := by omega
      obtain ⟨p, o, t, rfl, hcl, hp⟩ := HS.out i hlt
      have e3 : wr.cell? ⟨p, o + i, none⟩ = some (.string t) := (HI.out.2.2.2.1.cell (p := ⟨p, o + i, none⟩) hp).trans hcl
      clear hcl hp
      by_cases ht : t.size ≤ 2000
      · have ht' : (t.size : Int) ≤ 2000 := by omega
        have KA : Hid _ := lappend_ok c G L 0 bs t rs (by omega) (by have := HI.out.2.2.2.2.2.1; omega) (by have := HI.out.2.2.2.2.2.2.1; omega) wr HI.out.1 HI.out.2.1 HI.out.2.2.1
        have HT : Hid (t.size ≤ 2000) := ht
        clear ht
        go_wp2_with fail
        refine Calls.mono KA.out ?_
        rintro e w8 ⟨rfl, c8, hF8, hD8, hG8, hC8, hk8⟩
        have H8 : Hid (GrI w G L (i + 1) (rs ++ [t]) (bs ++ recS rs.length t) c8 w8) := by
          obtain ⟨h1, h2, h3, h4, h5, h6, h7, h8⟩ := HI.out
          have hu := hC8.under h5
          refine ⟨hF8, hD8, hG8, h4.trans hu, fun k hk => ⟨Nat.lt_of_lt_of_le (h5 k hk).1 hu.size, by rw [hk8 k (h5 k hk).1]; exact (h5 k hk).2⟩, ?_, ?_, ?_⟩
          · rw [ByteArray.size_append, recS_size]; have := HT.out; omega
          · simp; exact h7
          · intro x hx
            simp only [List.mem_append, List.mem_singleton] at hx
            rcases hx with hx | rfl
            · exact h8 x hx
            · exact HT.out
        clear hF8 hD8 hG8 hC8 hk8 e3 KA
        go_wp2_with fail
        go_roundw
        case rel => first | exact ⟨i + 1, _, _, _, hlt, by go_num, H8.out⟩ | ((repeat apply Exists.intro); exact ⟨⟨i + 1, _, _, _, hlt, by go_num, H8.out⟩, rfl⟩)
        case measure => simp [Go.RowKit.intOf]; omega
      · have ht' : ¬ (t.size : Int) ≤ 2000 := by omega
        have H8 : Hid (GrI w G L (i + 1) rs bs c wr) := by
          obtain ⟨h1, h2, h3, h4, h5, h6, h7, h8⟩ := HI.out
          exact ⟨h1, h2, h3, h4, h5, by omega, by omega, h8⟩
        clear ht
        go_wp2_with fail
        go_roundw
        case rel => first | exact ⟨i + 1, _, _, _, hlt, by go_num, H8.out⟩ | ((repeat apply Exists.intro); exact ⟨⟨i + 1, _, _, _, hlt, by go_num, H8.out⟩, rfl⟩)
        case measure => simp [Go.RowKit.intOf]; omega
    · obtain rfl : i = n := by omega
      have hnl : ¬ ((i : Int) < (i : Int)) := Int.lt_irrefl _
      obtain ⟨k, hk⟩ : ∃ k, k = rs.length := ⟨_, rfl⟩
      have hkb : (k : Int) ≤ 20 := by have := HI.out.2.2.2.2.2.2.1; have := HN.out; omega
      have hbb : (bs.size : Int) ≤ 40120 := by have := HI.out.2.2.2.2.2.1; have := HN.out; omega
      obtain ⟨Z, hZ⟩ : ∃ Z, Z = bs ++ recS k r := ⟨_, rfl⟩
      have eZ : (Z.size : Int) = (bs.size : Int) + (r.size : Int) + 6 := by rw [hZ, ByteArray.size_append, recS_size]; omega
      have pZ : Z.extract 0 bs.size = bs := by rw [hZ]; exact app_pre _ _
      have lZ : (bs.size : Int) ≤ (Z.size : Int) := by omega
      have KB : Hid _ := fbytes_any G _ 0 bs wr HI.out.1.2.2
      have KL : Hid _ := llen_zero c G L bs rs wr HI.out.1 HI.out.2.1 HI.out.2.2.1
      have KA : Hid (∀ (w' : World) (c' : Nat → Nat), GrI w G L i rs bs c' w' → Calls Tryd.prog 18 #[.pointer (some ⟨L, 0, none⟩), .string r] w' fun e w'' => e = .returned (.tuple #[.int .i64 (k : Nat), .int .i64 0]) ∧ ∃ c'', Fil w'' c'' 1 11 G 0 Z ∧ Led w'' c'' G L (rs ++ [r]) ∧ Below w.heap.size w w'') := fun w' c' h => by
        refine (lappend_ok c' G L 0 bs r rs (by have := HN.out; omega) (by have := HN.out; have := h.2.2.2.2.2.1; omega) (by have := HN.out; have := h.2.2.2.2.2.2.1; omega) w' h.1 h.2.1 h.2.2.1).mono ?_
        rintro e w'' ⟨e1, c'', e2, e3, _, e5, _⟩
        exact ⟨by rw [hk]; exact e1, c'', by rw [hZ, hk]; exact e2, e3, h.2.2.2.1.trans (e5.under h.2.2.2.2.1)⟩
      have KC : Hid (∀ (c' : Nat → Nat) (w' : World), Fil w' c' 1 11 G 0 Z → Calls Tryd.prog 17 #[.pointer (some ⟨G, 0, none⟩)] w' fun e w'' => e = .returned (.string Z) ∧ w'' = w') := fun c' w' hF => fbytes_any G _ 0 Z w' hF.2.2
      have KG : Hid (∀ (c' : Nat → Nat) (w' : World), Led w' c' G L (rs ++ [r]) → Calls Tryd.prog 23 #[.pointer (some ⟨L, 0, none⟩), .int .i64 (k : Nat)] w' fun e w'' => e = .returned (.tuple #[.string r, .int .i64 0]) ∧ Below w'.heap.size w' w'') := fun c' w' hD => by
        have h := lget_ok c' G L k (rs ++ [r]) (by rw [hk]; simp) (fun x hx => by
          simp only [List.mem_append, List.mem_singleton] at hx
          rcases hx with hx | rfl
          · have := HI.out.2.2.2.2.2.2.2 x hx; omega
          · have := HN.out; omega) w' hD
        have e : (rs ++ [r])[k]'(by rw [hk]; simp) = r := by simp [hk]
        rw [e] at h
        exact h
      rw [← hk] at KL
      clear hlt hi' hk hZ
      go_wp2_with fail
      refine HKr.out _ _ ?_
      clear HKr
      go_wp2_with fail
      refine Calls.mono KB.out ?_
      rintro e v1 ⟨rfl, rfl⟩
      go_wp2_with fail
      refine Calls.mono KL.out ?_
      rintro e v2 ⟨rfl, hb2⟩
      have I2 : Hid _ := HI.out.call hb2
      clear hb2 KB KL
      go_wp2_with fail
      refine (KA.out _ _ I2.out).mono ?_
      rintro e v3 ⟨rfl, c3, hF3, hD3, hb3⟩
      have I3 : Hid (Fil v3 c3 1 11 G 0 Z ∧ Led v3 c3 G L (rs ++ [r]) ∧ Below w.heap.size w v3) := ⟨hF3, hD3, hb3⟩
      clear hF3 hD3 hb3 KA I2
      go_wp2_with fail
      refine (KC.out c3 v3 I3.out.1).mono ?_
      rintro e v3' ⟨rfl, rfl⟩
      go_wp2_with fail
      refine (KG.out c3 v3' I3.out.2.1).mono ?_
      rintro e v4 ⟨rfl, hb4⟩
      have I4 : Hid (Below w.heap.size w v4) := I3.out.2.2.trans (hb4.mono I3.out.2.2.size)
      clear hb4 KG KC
      go_wp2_with fail
      refine (KO.out _ I4.out).mono ?_
      rintro e v5 ⟨rfl, hb5⟩
      have I5 : Hid (Below w.heap.size w v5) := I4.out.trans (hb5.mono I4.out.size)
      clear hb5
      go_wp2_with fail
      go_ret
      exact ⟨rfl, I5.out⟩
end Go.Proofs.YtnmanndiiaikdaaDoor
