/- The law LedgerTorn. -/
import Derived.Test.YtdnahobafhelhaaDoorLgP
namespace Go.Proofs.YtdnahobafhelhaaDoor
open Go Go.RowKit Go.Lib

theorem sizes_le : ∀ (rs : List ByteArray), (∀ x ∈ rs, x.size ≤ 2000) → sizesN rs ≤ 2006 * rs.length
  | [], _ => Nat.le_refl _
  | r :: rs, h => by
    have h1 := sizes_le rs (fun x hx => h x (by simp [hx]))
    have h2 := h r (by simp)
    simp only [sizesN, List.length_cons]
    omega
theorem sizes_take : ∀ (rs : List ByteArray) (n : Nat), sizesN (rs.take n) ≤ sizesN rs
  | [], n => by simp [sizesN]
  | r :: rs, 0 => Nat.zero_le _
  | r :: rs, n + 1 => by
    have := sizes_take rs n
    simp only [List.take_succ_cons, sizesN]
    omega
set_option maxRecDepth 100000 in
set_option maxHeartbeats 8000000 in
theorem ledgerTorn_any (a0 b0 : Option Addr) (la lb : List ByteArray) (ca cb : Nat) (X N M : Int) (s : ByteArray) (w : World) (hSA : Strs w a0 la) (hSB : Strs w b0 lb) (hG : GlobD w) (h1 : 0 < w.heap.size) (h2 : 1 < w.heap.size) :
    Calls Tryd.prog 5 #[.slice a0 la.length ca, .slice b0 lb.length cb, .agg #[.int .i64 X, .int .i64 N, .int .i64 M, .string s]] w fun e w' => e = .returned (.bool true) ∧ Below w.heap.size w w' := by
  have KO : Hid (∀ w' : World, Below w.heap.size w w' → Calls Tryd.prog 8 #[] w' fun e w'' => e = .returned (.bool true) ∧ Below w'.heap.size w' w'') := fun w' hb => one11_any w' (hG.call hb) (Nat.lt_of_lt_of_le h1 hb.size) (Nat.lt_of_lt_of_le h2 hb.size)
  obtain ⟨na, hna⟩ : ∃ n, n = la.length := ⟨_, rfl⟩
  obtain ⟨nb, hnb⟩ : ∃ n, n = lb.length := ⟨_, rfl⟩
  rw [← hna, ← hnb]
  by_cases hn20 : 20 < na
  · have k0 : (20 : Int) < (na : Int) := by omega
    clear hn20 hna hnb hSA hSB
    go_enter Tryd.func5, Tryd.ntmps5
    go_wp2_with fail
    refine Calls.mono (KO.out _ (below_alloc0 (Below.refl _ _) _)) ?_
    rintro e w1 ⟨rfl, hb1⟩
    have H1 : Hid _ := hb1
    clear hb1
    go_wp2_with fail
    go_ret
    exact ⟨rfl, below_call0 (below_alloc0 (Below.refl _ _) _) H1.out⟩
  have k0 : ¬ (20 : Int) < (na : Int) := by omega
  by_cases hn20b : 20 < nb
  · have k1 : (20 : Int) < (nb : Int) := by omega
    clear hn20 hn20b hna hnb hSA hSB
    go_enter Tryd.func5, Tryd.ntmps5
    go_wp2_with fail
    refine Calls.mono (KO.out _ (below_alloc0 (Below.refl _ _) _)) ?_
    rintro e w1 ⟨rfl, hb1⟩
    have H1 : Hid _ := hb1
    clear hb1
    go_wp2_with fail
    go_ret
    exact ⟨rfl, below_call0 (below_alloc0 (Below.refl _ _) _) H1.out⟩
  have k1 : ¬ (20 : Int) < (nb : Int) := by omega
  obtain ⟨w0, hw0⟩ : ∃ w0, w0 = w.alloc (.cells #[.int .i64 X, .int .i64 N, .int .i64 M, .string s] 44) := ⟨_, rfl⟩
  obtain ⟨B0, hB0⟩ : ∃ B0, B0 = w.heap.size := ⟨_, rfl⟩
  have hb0 : Below w.heap.size w w0 := by rw [hw0]; exact below_alloc0 (Below.refl _ _) _
  have H00 : Hid (Below w.heap.size w w0) := hb0
  have HB0 : Hid (w0.cell? ⟨B0, 1, none⟩ = some (.int .i64 N) ∧ w0.cell? ⟨B0, 2, none⟩ = some (.int .i64 M) ∧ B0 < w0.heap.size) := by rw [hw0, hB0]; exact ⟨by simp [go_sem], by simp [go_sem], by simp⟩
  have HSA : Hid (∀ i, (q : i < na) → ∃ p o t, a0 = some ⟨p, o, none⟩ ∧ w0.cell? ⟨p, o + i, none⟩ = some (.string t) ∧ p < w0.heap.size) := fun i q => by
    obtain ⟨p, o, e1, e2, e3⟩ := hSA.get (k := i) (by omega)
    exact ⟨p, o, _, e1, (hb0.cell (p := ⟨p, o + i, none⟩) e3).trans e2, Nat.lt_of_lt_of_le e3 hb0.size⟩
  have HSB : Hid (∀ i, (q : i < nb) → ∃ p o t, b0 = some ⟨p, o, none⟩ ∧ w0.cell? ⟨p, o + i, none⟩ = some (.string t) ∧ p < w0.heap.size) := fun i q => by
    obtain ⟨p, o, e1, e2, e3⟩ := hSB.get (k := i) (by omega)
    exact ⟨p, o, _, e1, (hb0.cell (p := ⟨p, o + i, none⟩) e3).trans e2, Nat.lt_of_lt_of_le e3 hb0.size⟩
  have KN : Hid _ := fnew_fil w0 (hG.call hb0) (Nat.lt_of_lt_of_le h1 hb0.size) (Nat.lt_of_lt_of_le h2 hb0.size)
  have HN : Hid (na ≤ 20 ∧ nb ≤ 20) := ⟨by omega, by omega⟩
  obtain ⟨i0, hi0, hz0, hz1, hz2⟩ := infoStr
  have HSI : Hid (Tryd.prog.info? 9 = some i0 ∧ i0.zero = some (.string ⟨#[]⟩) ∧ i0.size = 1 ∧ i0.bytes = 16) := ⟨hi0, hz0, hz1, hz2⟩
  have HW0 : Hid (w0 = w.alloc (.cells #[.int .i64 X, .int .i64 N, .int .i64 M, .string s] 44) ∧ B0 = w.heap.size) := ⟨hw0, hB0⟩
  have KP : Hid (∀ (c : Nat → Nat) (G : Nat) (w' : World), Fil w' c 1 11 G 0 ByteArray.empty → Glb w' c → Calls Tryd.prog 13 #[.pointer (some ⟨G, 0, none⟩)] w' fun e w'' => ∃ (L : Nat) (c' : Nat → Nat), e = .returned (.tuple #[.pointer (some ⟨L, 0, none⟩), .int .i64 0]) ∧ Fil w'' c' 1 11 G 0 ByteArray.empty ∧ Led w'' c' G L [] ∧ Glb w'' c' ∧ Chg w' c 1 11 w'' ∧ ∀ k, k < w'.heap.size → c' k = c k) := fun c G w' hF hG => by
    refine (lopen_any c G 0 ByteArray.empty (by decide) [] (told_empty 0) w' hF hG).mono ?_
    rintro e w'' ⟨L, c', e1, e2, e3, e4, e5, _, e7⟩
    exact ⟨L, c', e1, e2, e3, e4, e5, e7⟩
  clear hn20 hn20b hna hnb hSA hSB hG h1 h2 hw0 hB0 hb0 hi0 hz0 hz1 hz2
  go_enter Tryd.func5, Tryd.ntmps5
  go_wp2_with fail
  rw [← HW0.out.1, ← HW0.out.2]
  refine Calls.mono KN.out ?_
  rintro e w4 ⟨rfl, c4, hF4, hG4, hb4, hk4⟩
  obtain ⟨G, hGG⟩ : ∃ G, G = w0.heap.size := ⟨_, rfl⟩
  rw [← hGG] at hF4 ⊢
  have H4 : Hid (Fil w4 c4 1 11 G 0 ByteArray.empty ∧ Glb w4 c4 ∧ Below w0.heap.size w0 w4 ∧ ∀ k, k < w0.heap.size → k < w4.heap.size ∧ c4 k = 0) := ⟨hF4, hG4, hGG ▸ hb4, fun k hk => hk4 k (by omega)⟩
  clear hF4 hG4 hb4 hk4 hGG KN HW0
  go_wp2_with fail
  refine (KP.out _ G w4 H4.out.1 H4.out.2.1).mono ?_
  rintro e w6 ⟨L, c6, rfl, hF6, hD6, hG6, hC6, hk6⟩
  have H6 : Hid (Tr w0 w6 c6 G L 0 [] none 0 []) := by
    have hu := hC6.under H4.out.2.2.2 (by decide) (by decide)
    exact ⟨hF6, hD6, hG6, H4.out.2.2.1.trans hu, zero_of H4.out.2.2.2 hu.size hk6, .inl ⟨rfl, rfl, rfl⟩⟩
  clear hF6 hD6 hG6 hC6 hk6 H4 KP
  go_wp2_with fail
  rename ∀ (a : Act) (w : World), Code.wp Tryd.prog _ _ a w → _ => hKrA
  have HKrA : Hid _ := hKrA
  clear hKrA
  go_loopw [10, 47] (fun sv iv wr => ∃ (i : Nat) (rs : List ByteArray) (c : Nat → Nat) (aa : Option Addr) (capA nA : Nat), i ≤ na ∧ sv = .slice aa nA capA ∧ nA = rs.length ∧ iv = .int .i64 (i : Nat) ∧ Tr w0 wr c G L 0 rs aa capA rs ∧ rs.length ≤ 0 + i ∧ (∀ x ∈ rs, x.size ≤ 2000) ∧ True) (fun _ iv _ => na - (Go.RowKit.intOf iv).toNat)
  case atStart => exact ⟨0, [], c6, none, 0, 0, Nat.zero_le _, rfl, rfl, rfl, H6.out, Nat.zero_le _, fun x hx => (by cases hx), trivial⟩
  case round =>
    obtain ⟨i, rs, c, aa, capA, nA, hi', rfl, hnA, rfl, hI, hlen, hsz, hkp⟩ := hrel
    rename World => wr
    have HI : Hid (Tr w0 wr c G L 0 rs aa capA rs ∧ rs.length ≤ 0 + i ∧ (∀ x ∈ rs, x.size ≤ 2000) ∧ (True) ∧ nA = rs.length) := ⟨hI, hlen, hsz, hkp, hnA⟩
    have nAb : (nA : Int) ≤ 40 := by have := HN.out; omega
    clear hI hlen hsz hkp hnA
    by_cases hlt : i < na
    · clear HKrA
      have hlt' : (i : Int) < (na : Nat) := Int.ofNat_lt.2 hlt
      have ib : (i : Int) ≤ 20 := by have := HN.out; omega
      obtain ⟨p, o, t, rfl, hcl, hp⟩ := HSA.out i hlt
      have e3 : wr.cell? ⟨p, o + i, none⟩ = some (.string t) := (HI.out.1.bel.cell (p := ⟨p, o + i, none⟩) hp).trans hcl
      clear hcl hp
      have HLT : Hid (i < na) := hlt
      by_cases ht : t.size ≤ 2000
      · have ht' : (t.size : Int) ≤ 2000 := by omega
        have HB : Hid ((logS 0 rs).size ≤ 2006 * 40 ∧ rs.length ≤ 40) := by
          have h3 := HI.out.2.1
          have h4 := HN.out
          have h5 := sizes_le rs HI.out.2.2.1
          rw [logS_size]
          exact ⟨Nat.le_trans h5 (Nat.mul_le_mul_left _ (by omega)), by omega⟩
        have KA : Hid _ := lappend_ok c G L 0 (logS 0 rs) t rs (by omega) (by have := HB.out.1; omega) (by have := HB.out.2; omega) wr HI.out.1.fil HI.out.1.led HI.out.1.glb
        have HT : Hid (t.size ≤ 2000) := ht
        clear ht hi' hlt
        go_wp2_with fail
        refine Calls.mono KA.out ?_
        rintro e w8 ⟨rfl, c8, hF8, hD8, hG8, hC8, hk8⟩
        have H8 : Hid (Tr w0 (w8.alloc (.cells #[.string t] 9)) (paint c8 w8 (w8.alloc (.cells #[.string t] 9)) 3) G L 0 (rs ++ [t]) aa capA rs) := (HI.out.1.app hF8 hD8 hG8 hC8 hk8).call 3 (below_alloc0 (Below.refl _ _) _)
        have HS8 : Hid (∀ j u, ([Value.string t] : List Value)[j]? = some u → (w8.alloc (.cells #[.string t] 9)).cell? ((⟨w8.heap.size, 0, none⟩ : Addr).add j) = some u) := fun j u hj => by
          rw [Addr.add_lit, Nat.zero_add, World.cell?_alloc_new, List.getElem?_toArray]; exact hj
        clear hF8 hD8 hG8 hC8 hk8 e3 KA
        go_wp2_with (at_builtin; refine wpList_append_RowV _ rfl (.tmp 57) (.tmp 59) 23 rfl (fun k => paint c8 w8 (w8.alloc (.cells #[.string t] 9)) 3 k = 4 ∨ (w8.alloc (.cells #[.string t] 9)).heap.size ≤ k) 9 i0 (.string ⟨#[]⟩) 16 Tryd.underlying23 HSI.out.1 HSI.out.2.1 rfl HSI.out.2.2.1 HSI.out.2.2.2 aa nA capA (rs.map Value.string) [.string t] rfl (by rw [List.length_map]; exact HI.out.2.2.2.2) H8.out.row (by rw [List.length_map]; have := HB.out.2; unfold maxLen; simp; omega) (by rw [List.length_map]; have := HB.out.2; simp; omega) (fun k hk => .inr hk) ⟨w8.heap.size, 0, none⟩ 1 1 rfl rfl HS8.out (by intro u hu; simp at hu; subst hu; rfl) ?_; intro a9 m9 cap9 w9 hm9 hR9 hb9; have H9 : Hid (m9 = nA + 1 ∧ Tr w0 w9 (paint (paint c8 w8 (w8.alloc (.cells #[.string t] 9)) 3) (w8.alloc (.cells #[.string t] 9)) w9 4) G L 0 (rs ++ [t]) a9 cap9 (rs ++ [t])) := ⟨hm9, H8.out.push hR9 hb9⟩; clear hm9 hR9 hb9)
        have HE : Hid (m9 = (rs ++ [t]).length ∧ (rs ++ [t]).length ≤ 0 + (i + 1) ∧ (∀ x ∈ rs ++ [t], x.size ≤ 2000) ∧ (True)) := by
          refine ⟨by rw [H9.out.1, HI.out.2.2.2.2]; simp, by have := HI.out.2.1; simp; omega, fun x hx => ?_, trivial⟩
          simp only [List.mem_append, List.mem_singleton] at hx
          rcases hx with hx | rfl
          · exact HI.out.2.2.1 x hx
          · exact HT.out
        go_roundw
        case rel => first | exact ⟨i + 1, rs ++ [t], _, a9, cap9, m9, HLT.out, rfl, HE.out.1, by go_num, H9.out.2, HE.out.2.1, HE.out.2.2.1, HE.out.2.2.2⟩ | ((repeat apply Exists.intro); exact ⟨⟨i + 1, rs ++ [t], _, a9, cap9, m9, HLT.out, rfl, HE.out.1, by go_num, H9.out.2, HE.out.2.1, HE.out.2.2.1, HE.out.2.2.2⟩, rfl⟩)
        case measure => have h1 := HLT.out; simp [Go.RowKit.intOf]; omega
      · have ht' : ¬ (t.size : Int) ≤ 2000 := by omega
        clear ht hi' hlt
        go_wp2_with fail
        go_roundw
        case rel => first | exact ⟨i + 1, rs, c, aa, capA, nA, HLT.out, rfl, HI.out.2.2.2.2, by go_num, HI.out.1, by have := HI.out.2.1; omega, HI.out.2.2.1, HI.out.2.2.2.1⟩ | ((repeat apply Exists.intro); exact ⟨⟨i + 1, rs, c, aa, capA, nA, HLT.out, rfl, HI.out.2.2.2.2, by go_num, HI.out.1, by have := HI.out.2.1; omega, HI.out.2.2.1, HI.out.2.2.2.1⟩, rfl⟩)
        case measure => have h1 := HLT.out; simp [Go.RowKit.intOf]; omega
    · obtain rfl : i = na := by omega
      have hnl : ¬ ((i : Int) < (i : Int)) := Int.lt_irrefl _
      clear hlt hi'
      go_wp2_with fail
      refine HKrA.out _ _ ?_
      clear HKrA
      obtain ⟨rsA, hrsA⟩ : ∃ rsA, rsA = rs := ⟨_, rfl⟩
      have KS : Hid _ := lsync_ok c G L 0 (logS 0 rs) rs (by
        have h5 := sizes_le rs HI.out.2.2.1
        have h3 := HI.out.2.1
        have h4 := HN.out
        rw [logS_size]; exact Nat.le_trans h5 (Nat.le_trans (Nat.mul_le_mul_left _ (show rs.length ≤ 40 by omega)) (by decide))) wr HI.out.1.fil HI.out.1.led HI.out.1.glb
      go_wp2_with fail
      refine Calls.mono KS.out ?_
      rintro e w5 ⟨rfl, c5, hF5, hD5, hG5, hC5, hk5⟩
      obtain ⟨least, hle⟩ : ∃ least, least = nA := ⟨_, rfl⟩
      have HLE : Hid (least = rsA.length) := by show least = rsA.length; rw [hle, hrsA]; exact HI.out.2.2.2.2
      have HA : Hid (Tr w0 w5 c5 G L (sizesN rsA) rsA aa capA rsA ∧ rsA.length ≤ 20 ∧ (∀ x ∈ rsA, x.size ≤ 2000) ∧ nA = rsA.length) := by
        rw [hrsA]
        exact ⟨HI.out.1.sync hF5 hD5 hG5 hC5 hk5, by have := HI.out.2.1; have := HN.out; omega, HI.out.2.2.1, HI.out.2.2.2.2⟩
      clear hF5 hD5 hG5 hC5 hk5 KS HI hrsA
      subst hle
      go_wp2_with fail
      rename ∀ (a : Act) (w : World), Code.wp Tryd.prog _ _ a w → _ => hKrB
      have HKrB : Hid _ := hKrB
      clear hKrB
      go_loopw [10, 68] (fun sv iv wr => ∃ (i : Nat) (rs : List ByteArray) (c : Nat → Nat) (aa : Option Addr) (capA nA : Nat), i ≤ nb ∧ sv = .slice aa nA capA ∧ nA = rs.length ∧ iv = .int .i64 (i : Nat) ∧ Tr w0 wr c G L (sizesN rsA) rs aa capA rs ∧ rs.length ≤ 20 + i ∧ (∀ x ∈ rs, x.size ≤ 2000) ∧ rsA.length ≤ rs.length ∧ rs.take rsA.length = rsA) (fun _ iv _ => nb - (Go.RowKit.intOf iv).toNat)
      case atStart => exact ⟨0, rsA, c5, aa, capA, least, Nat.zero_le _, rfl, HA.out.2.2.2, rfl, HA.out.1, HA.out.2.1, HA.out.2.2.1, Nat.le_refl _, List.take_length⟩
      case round =>
        obtain ⟨i, rs, c, aa, capA, nA, hi', rfl, hnA, rfl, hI, hlen, hsz, hkp⟩ := hrel
        rename World => wr
        have HI : Hid (Tr w0 wr c G L (sizesN rsA) rs aa capA rs ∧ rs.length ≤ 20 + i ∧ (∀ x ∈ rs, x.size ≤ 2000) ∧ (rsA.length ≤ rs.length ∧ rs.take rsA.length = rsA) ∧ nA = rs.length) := ⟨hI, hlen, hsz, hkp, hnA⟩
        have nAb : (nA : Int) ≤ 40 := by have := HN.out; omega
        clear hI hlen hsz hkp hnA
        by_cases hlt : i < nb
        · clear HKrB
          have hlt' : (i : Int) < (nb : Nat) := Int.ofNat_lt.2 hlt
          have ib : (i : Int) ≤ 20 := by have := HN.out; omega
          obtain ⟨p, o, t, rfl, hcl, hp⟩ := HSB.out i hlt
          have e3 : wr.cell? ⟨p, o + i, none⟩ = some (.string t) := (HI.out.1.bel.cell (p := ⟨p, o + i, none⟩) hp).trans hcl
          clear hcl hp
          have HLT : Hid (i < nb) := hlt
          by_cases ht : t.size ≤ 2000
          · have ht' : (t.size : Int) ≤ 2000 := by omega
            have HB : Hid ((logS 0 rs).size ≤ 2006 * 40 ∧ rs.length ≤ 40) := by
              have h3 := HI.out.2.1
              have h4 := HN.out
              have h5 := sizes_le rs HI.out.2.2.1
              rw [logS_size]
              exact ⟨Nat.le_trans h5 (Nat.mul_le_mul_left _ (by omega)), by omega⟩
            have KA : Hid _ := lappend_ok c G L (sizesN rsA) (logS 0 rs) t rs (by omega) (by have := HB.out.1; omega) (by have := HB.out.2; omega) wr HI.out.1.fil HI.out.1.led HI.out.1.glb
            have HT : Hid (t.size ≤ 2000) := ht
            clear ht hi' hlt
            go_wp2_with fail
            refine Calls.mono KA.out ?_
            rintro e w8 ⟨rfl, c8, hF8, hD8, hG8, hC8, hk8⟩
            have H8 : Hid (Tr w0 (w8.alloc (.cells #[.string t] 9)) (paint c8 w8 (w8.alloc (.cells #[.string t] 9)) 3) G L (sizesN rsA) (rs ++ [t]) aa capA rs) := (HI.out.1.app hF8 hD8 hG8 hC8 hk8).call 3 (below_alloc0 (Below.refl _ _) _)
            have HS8 : Hid (∀ j u, ([Value.string t] : List Value)[j]? = some u → (w8.alloc (.cells #[.string t] 9)).cell? ((⟨w8.heap.size, 0, none⟩ : Addr).add j) = some u) := fun j u hj => by
              rw [Addr.add_lit, Nat.zero_add, World.cell?_alloc_new, List.getElem?_toArray]; exact hj
            clear hF8 hD8 hG8 hC8 hk8 e3 KA
            go_wp2_with (at_builtin; refine wpList_append_RowV _ rfl (.tmp 78) (.tmp 80) 23 rfl (fun k => paint c8 w8 (w8.alloc (.cells #[.string t] 9)) 3 k = 4 ∨ (w8.alloc (.cells #[.string t] 9)).heap.size ≤ k) 9 i0 (.string ⟨#[]⟩) 16 Tryd.underlying23 HSI.out.1 HSI.out.2.1 rfl HSI.out.2.2.1 HSI.out.2.2.2 aa nA capA (rs.map Value.string) [.string t] rfl (by rw [List.length_map]; exact HI.out.2.2.2.2) H8.out.row (by rw [List.length_map]; have := HB.out.2; unfold maxLen; simp; omega) (by rw [List.length_map]; have := HB.out.2; simp; omega) (fun k hk => .inr hk) ⟨w8.heap.size, 0, none⟩ 1 1 rfl rfl HS8.out (by intro u hu; simp at hu; subst hu; rfl) ?_; intro a9 m9 cap9 w9 hm9 hR9 hb9; have H9 : Hid (m9 = nA + 1 ∧ Tr w0 w9 (paint (paint c8 w8 (w8.alloc (.cells #[.string t] 9)) 3) (w8.alloc (.cells #[.string t] 9)) w9 4) G L (sizesN rsA) (rs ++ [t]) a9 cap9 (rs ++ [t])) := ⟨hm9, H8.out.push hR9 hb9⟩; clear hm9 hR9 hb9)
            have HE : Hid (m9 = (rs ++ [t]).length ∧ (rs ++ [t]).length ≤ 20 + (i + 1) ∧ (∀ x ∈ rs ++ [t], x.size ≤ 2000) ∧ (rsA.length ≤ (rs ++ [t]).length ∧ (rs ++ [t]).take rsA.length = rsA)) := by
              refine ⟨by rw [H9.out.1, HI.out.2.2.2.2]; simp, by have := HI.out.2.1; simp; omega, fun x hx => ?_, by have := HI.out.2.2.2.1.1; simp; omega, by rw [List.take_append_of_le_length HI.out.2.2.2.1.1]; exact HI.out.2.2.2.1.2⟩
              simp only [List.mem_append, List.mem_singleton] at hx
              rcases hx with hx | rfl
              · exact HI.out.2.2.1 x hx
              · exact HT.out
            go_roundw
            case rel => first | exact ⟨i + 1, rs ++ [t], _, a9, cap9, m9, HLT.out, rfl, HE.out.1, by go_num, H9.out.2, HE.out.2.1, HE.out.2.2.1, HE.out.2.2.2⟩ | ((repeat apply Exists.intro); exact ⟨⟨i + 1, rs ++ [t], _, a9, cap9, m9, HLT.out, rfl, HE.out.1, by go_num, H9.out.2, HE.out.2.1, HE.out.2.2.1, HE.out.2.2.2⟩, rfl⟩)
            case measure => have h1 := HLT.out; simp [Go.RowKit.intOf]; omega
          · have ht' : ¬ (t.size : Int) ≤ 2000 := by omega
            clear ht hi' hlt
            go_wp2_with fail
            go_roundw
            case rel => first | exact ⟨i + 1, rs, c, aa, capA, nA, HLT.out, rfl, HI.out.2.2.2.2, by go_num, HI.out.1, by have := HI.out.2.1; omega, HI.out.2.2.1, HI.out.2.2.2.1⟩ | ((repeat apply Exists.intro); exact ⟨⟨i + 1, rs, c, aa, capA, nA, HLT.out, rfl, HI.out.2.2.2.2, by go_num, HI.out.1, by have := HI.out.2.1; omega, HI.out.2.2.1, HI.out.2.2.2.1⟩, rfl⟩)
            case measure => have h1 := HLT.out; simp [Go.RowKit.intOf]; omega
        · obtain rfl : i = nb := by omega
          have hnl : ¬ ((i : Int) < (i : Int)) := Int.lt_irrefl _
          clear hlt hi'
          go_wp2_with fail
          refine HKrB.out _ _ ?_
          clear HKrB
          obtain ⟨m0, hm0⟩ : ∃ m0, m0 = sizesN rsA := ⟨_, rfl⟩
          rw [← hm0] at HI
          have HQ : Hid (m0 ≤ (logS 0 rs).size ∧ (logS 0 rs).size ≤ 1048576 ∧ sizesN (rs.take least) ≤ m0 ∧ least ≤ rs.length ∧ ∀ x ∈ rs, x.size ≤ 9000) := by
            have h5 := sizes_le rs HI.out.2.2.1
            have h3 := HI.out.2.1
            have h4 := HN.out
            have e : rs.take least = rsA := by rw [HLE.out]; exact HI.out.2.2.2.1.2
            refine ⟨?_, ?_, by rw [e, hm0]; exact Nat.le_refl _, by rw [HLE.out]; exact HI.out.2.2.2.1.1, fun x hx => Nat.le_trans (HI.out.2.2.1 x hx) (by decide)⟩
            · rw [logS_size, hm0, ← e]; exact sizes_take rs least
            · rw [logS_size]; exact Nat.le_trans h5 (Nat.le_trans (Nat.mul_le_mul_left _ (show rs.length ≤ 40 by omega)) (by decide))
          have x1 : wr.cell? ⟨B0, 1, none⟩ = some (.int .i64 N) := (HI.out.1.bel.cell (p := ⟨B0, 1, none⟩) HB0.out.2.2).trans HB0.out.1
          have x2 : wr.cell? ⟨B0, 2, none⟩ = some (.int .i64 M) := (HI.out.1.bel.cell (p := ⟨B0, 2, none⟩) HB0.out.2.2).trans HB0.out.2.1
          clear hm0 hnl
          by_cases hcr : N < 0 ∨ ((logS 0 rs).size : Int) - (m0 : Int) < N ∨ M < 0 ∨ 255 < M
          · as_aux_lemma =>
              have KC : Hid (∀ w', Fil w' c 1 11 G m0 (logS 0 rs) → Calls Tryd.prog 21 #[.pointer (some ⟨G, 0, none⟩), .int .i64 N, .int .i64 M] w' fun e w'' => e = .returned (.int .i64 1) ∧ Fil w'' (paint c w' w'' 1) 1 11 G m0 (logS 0 rs) ∧ Chg w' c 1 11 w'') :=
                fun w' hF => hF.op fun P hf => fcrash_no G P m0 N M (logS 0 rs) HQ.out.1 HQ.out.2.1 hcr w' hf
              clear hcr
              go_wp2_with fail
              refine (KC.out _ HI.out.1.fil).mono ?_
              rintro e w5 ⟨rfl, hF5, hC5⟩
              have H5 : Hid (Below w0.heap.size w0 w5) := HI.out.1.bel.trans (hC5.under HI.out.1.zero (by decide) (by decide))
              clear hF5 hC5
              go_wp2_with fail
              refine Calls.mono (KO.out _ (H00.out.trans (H5.out.mono H00.out.size))) ?_
              rintro e w6 ⟨rfl, hb6⟩
              have H6 : Hid _ := hb6
              clear hb6
              go_wp2_with fail
              go_ret
              exact ⟨rfl, below_call0 (H00.out.trans (H5.out.mono H00.out.size)) H6.out⟩
          · obtain ⟨k, hk⟩ : ∃ k : Nat, N = (k : Nat) := ⟨N.toNat, by omega⟩
            obtain ⟨q, hq⟩ : ∃ q : Nat, M = (q : Nat) := ⟨M.toNat, by omega⟩
            have kb : m0 + k ≤ (logS 0 rs).size := by have := HQ.out.1; omega
            have qb : q < 256 := by omega
            have hfin : ∃ (m1 : Nat) (bs1 : ByteArray) (j : Nat), (∀ w', Fil w' c 1 11 G m0 (logS 0 rs) → Calls Tryd.prog 21 #[.pointer (some ⟨G, 0, none⟩), .int .i64 N, .int .i64 M] w' fun e w'' => e = .returned (.int .i64 0) ∧ Fil w'' (paint c w' w'' 1) 1 11 G m1 bs1 ∧ Chg w' c 1 11 w'') ∧ j ≤ rs.length ∧ least ≤ j ∧ Told 0 bs1 (rs.take j) ∧ bs1.extract 0 (sizesN (rs.take j)) = logS 0 (rs.take j) ∧ bs1.size ≤ 1048576 := by
              by_cases hc : q = 0 ∨ m0 + k = (logS 0 rs).size
              · obtain ⟨j, j1, j2, j3, j4⟩ := torn_cut rs least (m0 + k) HQ.out.2.2.2.2 HQ.out.2.2.2.1 (Nat.le_trans HQ.out.2.2.1 (Nat.le_add_right _ _))
                exact ⟨m0 + k, (logS 0 rs).extract 0 (m0 + k), j, fun w' hF => by rw [hk, hq]; exact hF.op fun P hf => fcrash_ok G P m0 k q (logS 0 rs) kb HQ.out.2.1 qb hc w' hf, j1, j2, j3, j4, by rw [ByteArray.size_extract]; have := HQ.out.2.1; omega⟩
              · have kl : m0 + k < (logS 0 rs).size := by omega
                obtain ⟨j, j1, j2, j3, j4⟩ := torn_byte rs least (m0 + k) q HQ.out.2.2.2.2 HQ.out.2.2.2.1 (Nat.le_trans HQ.out.2.2.1 (Nat.le_add_right _ _)) kl (by omega) qb
                exact ⟨m0 + k + 1, _, j, fun w' hF => by rw [hk, hq]; exact hF.op fun P hf => fcrash_byte G P m0 k q (logS 0 rs) kl HQ.out.2.1 qb (by omega) w' hf, j1, j2, j3, j4, by rw [ByteArray.size_append, ByteArray.size_extract]; have := HQ.out.2.1; show _ + 1 ≤ _; omega⟩
            obtain ⟨m1, bs1, j, hKC, hj1, hj2, hj3, hj4, hbz⟩ := hfin
            clear hcr hk hq kb qb
            have KC : Hid (∀ w', Fil w' c 1 11 G m0 (logS 0 rs) → Calls Tryd.prog 21 #[.pointer (some ⟨G, 0, none⟩), .int .i64 N, .int .i64 M] w' fun e w'' => e = .returned (.int .i64 0) ∧ Fil w'' (paint c w' w'' 1) 1 11 G m1 bs1 ∧ Chg w' c 1 11 w'') := hKC
            obtain ⟨ts, hts⟩ : ∃ ts, ts = rs.take j := ⟨_, rfl⟩
            rw [← hts] at hj3 hj4
            obtain ⟨nt, hnt⟩ : ∃ nt, nt = ts.length := ⟨_, rfl⟩
            have ntj : nt = j := by rw [hnt, hts, List.length_take]; omega
            have tsz : ∀ x ∈ ts, x.size ≤ 2000 := fun x hx => HI.out.2.2.1 x (by rw [hts] at hx; exact List.mem_of_mem_take hx)
            have HTS : Hid (nt = ts.length ∧ ts = rs.take nt ∧ (∀ x ∈ ts, x.size ≤ 2000) ∧ nt ≤ 40 ∧ Told 0 bs1 ts ∧ bs1.extract 0 (sizesN ts) = logS 0 ts ∧ bs1.size ≤ 1048576 ∧ nt ≤ rs.length) := ⟨hnt, by rw [ntj]; exact hts, tsz, by have := HN.out; have := HI.out.2.1; omega, hj3, hj4, hbz, by omega⟩
            have q1 : ¬ ((nt : Int) < (least : Int)) := by omega
            have q2 : ¬ ((nA : Int) < (nt : Int)) := by have := HI.out.2.2.2.2; omega
            have q3 : (nt : Int) ≤ (nA : Int) := by have := HI.out.2.2.2.2; omega
            have q4 : nt ≤ nA := by have := HI.out.2.2.2.2; omega
            have q5 : (nt : Int) ≤ 40 := by have := HTS.out.2.2.2.1; omega
            have q6 : (nt : Int) ≤ (capA : Int) := by have h := RowV.len HI.out.1.row; rw [List.length_map, ← HI.out.2.2.2.2] at h; omega
            clear hj1 hj2 hj3 hj4 hts hnt ntj tsz hbz hKC
            go_wp2_with fail
            refine (KC.out _ HI.out.1.fil).mono ?_
            rintro e w5 ⟨rfl, hF5, hC5⟩
            have H5 : Hid (Fil w5 (paint c wr w5 1) 1 11 G m1 bs1 ∧ Glb w5 (paint c wr w5 1) ∧ Below w0.heap.size w0 w5 ∧ (∀ k, k < w0.heap.size → k < w5.heap.size ∧ paint c wr w5 1 k = 0) ∧ Row w5 (paint c wr w5 1) 4 aa (rs.map Value.string) capA) :=
              ⟨hF5, HI.out.1.glb.keep 1 hC5 (by decide) (by decide), HI.out.1.bel.trans (hC5.under HI.out.1.zero (by decide) (by decide)), zero_paint HI.out.1.zero (Off.size hC5), HI.out.1.row.keep 1 hC5 (by decide) (by decide)⟩
            obtain ⟨c5, hc5⟩ : ∃ c5, c5 = paint c wr w5 1 := ⟨_, rfl⟩
            rw [← hc5] at H5
            clear hF5 hC5 hc5 x1 x2
            have KO5 : Hid _ := lopen_any c5 G m1 bs1 HTS.out.2.2.2.2.2.2.1 ts HTS.out.2.2.2.2.1 w5 H5.out.1 H5.out.2.1
            go_wp2_with fail
            refine Calls.mono KO5.out ?_
            rintro e w6 ⟨L2, c6, rfl, hF6, hD6, hG6, hC6, hL6, hk6⟩
            rw [HTS.out.2.2.2.2.2.1] at hF6
            have H6 : Hid (Tr w0 w6 c6 G L2 (sizesN ts) ts aa capA rs) := ⟨hF6, hD6, hG6, H5.out.2.2.1.trans (hC6.under H5.out.2.2.2.1 (by decide) (by decide)), zero_of H5.out.2.2.2.1 (Off.size hC6) hk6, H5.out.2.2.2.2.off hC6 (fun k hz hc q => by rw [hc] at q; omega) hk6⟩
            clear hF6 hD6 hG6 hC6 hL6 hk6 KO5 H5
            have KR : Hid _ := lrecords_ok c6 G L2 ts (by have := HTS.out; omega) (fun x hx => Nat.le_trans (HTS.out.2.2.1 x hx) (by decide)) w6 H6.out.led
            rw [← HTS.out.1] at KR
            go_wp2_with fail
            refine Calls.mono KR.out ?_
            rintro e w7 ⟨rfl, hS7, hb7⟩
            obtain ⟨bg, hbg⟩ : ∃ bg, bg = w6.heap.size := ⟨_, rfl⟩
            rw [← hbg] at hS7 ⊢
            have H7 : Hid (Tr w0 w7 (paint c6 w6 w7 5) G L2 (sizesN ts) ts aa capA rs ∧ Gs w7 (paint c6 w6 w7 5) bg ts) := ⟨H6.out.call 5 hb7, by rw [hbg] at hS7 ⊢; exact Gs.mk hS7⟩
            obtain ⟨c7, hc7⟩ : ∃ c7, c7 = paint c6 w6 w7 5 := ⟨_, rfl⟩
            rw [← hc7] at H7
            clear hS7 hb7 hbg hc7 KR H6
            have KT : Hid (Calls Tryd.prog 15 #[.slice (some ⟨bg, 0, none⟩) nt nt, .slice aa nt capA] w7 fun e w'' => e = .returned (.bool true) ∧ Below w7.heap.size w7 w'') := by
              have hA7 : Strs w7 aa ts := by
                have h := rowV_strs H7.out.1.row
                rw [HTS.out.2.1]
                intro i s hi
                exact h i s (by rw [List.getElem?_take] at hi; split at hi; exact hi; cases hi)
              have h := texts_any (some ⟨bg, 0, none⟩) aa ts ts nt capA (by have := HTS.out; omega) w7 H7.out.2.1 hA7
              rw [← HTS.out.1, decide_eq_true rfl] at h
              exact h
            go_wp2_with fail
            refine Calls.mono KT.out ?_
            rintro e w8 ⟨rfl, hb8⟩
            have H8 : Hid (Tr w0 w8 (paint c7 w7 w8 3) G L2 (sizesN ts) ts aa capA rs ∧ Gs w8 (paint c7 w7 w8 3) bg ts) := ⟨H7.out.1.call 3 hb8, H7.out.2.call 3 hb8⟩
            obtain ⟨c8, hc8⟩ : ∃ c8, c8 = paint c7 w7 w8 3 := ⟨_, rfl⟩
            rw [← hc8] at H8
            clear hb8 hc8 KT H7
            obtain ⟨mo, hmo⟩ : ∃ mo : ByteArray, mo = ⟨#[109, 111, 114, 101]⟩ := ⟨_, rfl⟩
            have HMO : Hid (mo.size = 4) := by rw [hmo]; rfl
            have HSZ : Hid ((logS 0 ts).size ≤ 2006 * 40) := by
              have h5 := sizes_le ts HTS.out.2.2.1
              show (logS 0 ts).size ≤ _
              rw [logS_size]
              exact Nat.le_trans h5 (Nat.mul_le_mul_left _ (by have := HTS.out.1; have := HTS.out.2.2.2.1; omega))
            have KA : Hid _ := lappend_ok c8 G L2 (sizesN ts) (logS 0 ts) mo ts (by have := HMO.out; omega) (by have := HMO.out; have := HSZ.out; omega) (by have := HTS.out.1; have := HTS.out.2.2.2.1; omega) w8 H8.out.1.fil H8.out.1.led H8.out.1.glb
            rw [hmo, ← HTS.out.1] at KA
            go_wp2_with fail
            refine Calls.mono KA.out ?_
            rw [← hmo]
            rintro e w9 ⟨rfl, c9, hF9, hD9, hG9, hC9, hk9⟩
            have H9 : Hid (Tr w0 w9 c9 G L2 (sizesN ts) (ts ++ [mo]) aa capA rs ∧ Gs w9 c9 bg ts) := ⟨H8.out.1.app (by rw [← HTS.out.1]; exact hF9) hD9 hG9 hC9 hk9, H8.out.2.off hC9 (fun k hz hc q => by rw [hc] at q; omega) hk9⟩
            clear hF9 hD9 hG9 hC9 hk9 KA H8
            obtain ⟨xs, hxs⟩ : ∃ xs, xs = ts ++ [mo] := ⟨_, rfl⟩
            obtain ⟨nx, hnx⟩ : ∃ nx, nx = xs.length := ⟨_, rfl⟩
            have HXS : Hid (xs = ts ++ [mo] ∧ nx = xs.length ∧ nx = nt + 1 ∧ (∀ x ∈ xs, x.size ≤ 9000) ∧ (logS 0 xs).size ≤ 1048576) := by
              refine ⟨hxs, hnx, by rw [hnx, hxs, List.length_append, ← HTS.out.1]; rfl, fun x hx => ?_, ?_⟩
              · rw [hxs] at hx
                simp only [List.mem_append, List.mem_singleton] at hx
                rcases hx with hx | rfl
                · exact Nat.le_trans (HTS.out.2.2.1 x hx) (by decide)
                · have := HMO.out; omega
              · rw [hxs, log_snoc, ByteArray.size_append, recS_size]; have := HSZ.out; have := HMO.out; omega
            rw [← hxs] at H9
            have KO9 : Hid _ := lopen_any c9 G (sizesN ts) (logS 0 xs) HXS.out.2.2.2.2 xs (told_log xs 0 HXS.out.2.2.2.1) w9 H9.out.1.fil H9.out.1.glb
            clear hxs hnx
            go_wp2_with fail
            refine Calls.mono KO9.out ?_
            rintro e w10 ⟨L3, c10, rfl, hF10, hD10, hG10, hC10, hL10, hk10⟩
            have H10 : Hid (Tr w0 w10 c10 G L3 (sizesN xs) xs aa capA rs ∧ Gs w10 c10 bg ts) := by
              have e : (logS 0 xs).extract 0 (sizesN xs) = logS 0 xs := by
                have h := log_take xs 0 xs.length (Nat.le_refl _)
                rw [List.take_length] at h
                exact h
              rw [e] at hF10
              exact ⟨⟨hF10, hD10, hG10, H9.out.1.bel.trans (hC10.under H9.out.1.zero (by decide) (by decide)), zero_of H9.out.1.zero (Off.size hC10) hk10, H9.out.1.row.off hC10 (fun k hz hc q => by rw [hc] at q; omega) hk10⟩, H9.out.2.off hC10 (fun k hz hc q => by rw [hc] at q; omega) hk10⟩
            clear hF10 hD10 hG10 hC10 hL10 hk10 KO9 H9
            have HG10 : Hid (∀ j u, (ts.map Value.string)[j]? = some u → w10.cell? ((⟨bg, 0, none⟩ : Addr).add j) = some u) := fun j u hj => by
              rw [List.getElem?_map] at hj
              cases hq : ts[j]? with
              | none => rw [hq] at hj; cases hj
              | some x =>
                rw [hq] at hj
                obtain ⟨p, o, e, cc, _⟩ := H10.out.2.1 j x hq
                injection e with e
                injection e with e1 e2
                subst e1
                subst e2
                rw [Addr.add_lit, cc]
                exact hj
            go_wp2_with (at_builtin; first | (refine wpList_append_RowV _ rfl (.tmp 146) (.tmp 147) 23 rfl (fun k => c10 k = 6 ∨ w10.heap.size ≤ k) 9 i0 (.string ⟨#[]⟩) 16 Tryd.underlying23 HSI.out.1 HSI.out.2.1 rfl HSI.out.2.2.1 HSI.out.2.2.2 none 0 0 [] (ts.map Value.string) rfl rfl (.inl ⟨rfl, rfl, rfl⟩) (by rw [List.length_map]; have := HTS.out; unfold maxLen; simp; omega) (by rw [List.length_map]; have := HTS.out; simp; omega) (fun k hk => .inr hk) ⟨bg, 0, none⟩ nt nt rfl (by rw [List.length_map]; exact HTS.out.1) HG10.out (by intro u hu; obtain ⟨x, _, rfl⟩ := List.mem_map.1 hu; rfl) ?_; intro a11 m11 cap11 w11 hm11 hR11 hb11; have H11 : Hid (m11 = nt ∧ Tr w0 w11 (paint c10 w10 w11 6) G L3 (sizesN xs) xs aa capA rs ∧ Row w11 (paint c10 w10 w11 6) 6 a11 (ts.map Value.string) cap11) := ⟨by rw [hm11]; omega, H10.out.1.chg (Row.chg hb11) (by decide) (by decide) (by decide) (by decide) (by decide) (by decide), Row.done hR11 hb11⟩; clear hm11 hR11 hb11 H10 HG10; have HA11 : Hid (Tr w0 (w11.alloc (.cells #[.string ⟨#[109, 111, 114, 101]⟩] 9)) (paint (paint c10 w10 w11 6) w11 (w11.alloc (.cells #[.string ⟨#[109, 111, 114, 101]⟩] 9)) 3) G L3 (sizesN xs) xs aa capA rs ∧ Row (w11.alloc (.cells #[.string ⟨#[109, 111, 114, 101]⟩] 9)) (paint (paint c10 w10 w11 6) w11 (w11.alloc (.cells #[.string ⟨#[109, 111, 114, 101]⟩] 9)) 3) 6 a11 (ts.map Value.string) cap11) := ⟨H11.out.2.1.call 3 (below_alloc0 (Below.refl _ _) _), H11.out.2.2.keep 3 (Chg.of_below (below_alloc0 (Below.refl _ _) _) (i := 0) (j := 0)) (by decide) (by decide)⟩; have HC11 : Hid (∀ j u, ([Value.string ⟨#[109, 111, 114, 101]⟩] : List Value)[j]? = some u → (w11.alloc (.cells #[.string ⟨#[109, 111, 114, 101]⟩] 9)).cell? ((⟨w11.heap.size, 0, none⟩ : Addr).add j) = some u) := (fun j u hj => by rw [Addr.add_lit, Nat.zero_add, World.cell?_alloc_new, List.getElem?_toArray]; exact hj)) | (refine wpList_append_RowV _ rfl (.tmp 149) (.tmp 150) 23 rfl (fun k => (paint (paint c10 w10 w11 6) w11 (w11.alloc (.cells #[.string ⟨#[109, 111, 114, 101]⟩] 9)) 3) k = 6 ∨ (w11.alloc (.cells #[.string ⟨#[109, 111, 114, 101]⟩] 9)).heap.size ≤ k) 9 i0 (.string ⟨#[]⟩) 16 Tryd.underlying23 HSI.out.1 HSI.out.2.1 rfl HSI.out.2.2.1 HSI.out.2.2.2 a11 m11 cap11 (ts.map Value.string) [.string ⟨#[109, 111, 114, 101]⟩] rfl (by rw [List.length_map, ← HTS.out.1]; exact H11.out.1) HA11.out.2 (by rw [List.length_map]; have := HTS.out; unfold maxLen; simp; omega) (by rw [List.length_map]; have := HTS.out; simp; omega) (fun k hk => .inr hk) ⟨w11.heap.size, 0, none⟩ 1 1 rfl rfl HC11.out (by intro u hu; simp at hu; subst hu; rfl) ?_; intro a12 m12 cap12 w12 hm12 hR12 hb12; have H12 : Hid (m12 = nx ∧ Tr w0 w12 (paint (paint (paint c10 w10 w11 6) w11 (w11.alloc (.cells #[.string ⟨#[109, 111, 114, 101]⟩] 9)) 3) (w11.alloc (.cells #[.string ⟨#[109, 111, 114, 101]⟩] 9)) w12 6) G L3 (sizesN xs) xs aa capA rs ∧ Row w12 (paint (paint (paint c10 w10 w11 6) w11 (w11.alloc (.cells #[.string ⟨#[109, 111, 114, 101]⟩] 9)) 3) (w11.alloc (.cells #[.string ⟨#[109, 111, 114, 101]⟩] 9)) w12 6) 6 a12 (xs.map Value.string) cap12) := ⟨(by rw [hm12, H11.out.1, HXS.out.2.2.1]), HA11.out.1.chg (Row.chg hb12) (by decide) (by decide) (by decide) (by decide) (by decide) (by decide), (by have e : xs.map Value.string = ts.map Value.string ++ [.string ⟨#[109, 111, 114, 101]⟩] := (by rw [HXS.out.1, List.map_append, hmo]; rfl); rw [e]; exact Row.done hR12 hb12)⟩; clear hm12 hR12 hb12))
            obtain ⟨c12, hc12⟩ : ∃ c12, c12 = paint (paint (paint c10 w10 w11 6) w11 (w11.alloc (.cells #[.string ⟨#[109, 111, 114, 101]⟩] 9)) 3) (w11.alloc (.cells #[.string ⟨#[109, 111, 114, 101]⟩] 9)) w12 6 := ⟨_, rfl⟩
            rw [← hc12] at H12
            have KR : Hid _ := lrecords_ok c12 G L3 xs (by have := HXS.out; have := HTS.out; omega) HXS.out.2.2.2.1 w12 H12.out.2.1.led
            rw [← HXS.out.2.1] at KR
            clear hc12
            refine Calls.mono KR.out ?_
            rintro e w13 ⟨rfl, hS13, hb13⟩
            obtain ⟨b13, hb13'⟩ : ∃ b, b = w12.heap.size := ⟨_, rfl⟩
            rw [← hb13'] at hS13 ⊢
            have H13 : Hid (Below w0.heap.size w0 w13) := H12.out.2.1.bel.trans (hb13.mono H12.out.2.1.bel.size)
            have KT2 : Hid (Calls Tryd.prog 15 #[.slice (some ⟨b13, 0, none⟩) nx nx, .slice a12 m12 cap12] w13 fun e w'' => e = .returned (.bool true) ∧ Below w13.heap.size w13 w'') := by
              have hA13 : Strs w13 a12 xs := rowV_strs (H12.out.2.2.keep 3 (Chg.of_below hb13 (i := 0) (j := 0)) (by decide) (by decide))
              have h := texts_any (some ⟨b13, 0, none⟩) a12 xs xs nx cap12 (by have := HXS.out; have := HTS.out; omega) w13 hS13 hA13
              rw [decide_eq_true rfl, ← HXS.out.2.1] at h
              rw [H12.out.1]
              exact h
            clear hS13 hb13 hb13' KR
            go_wp2_with fail
            refine Calls.mono KT2.out ?_
            rintro e w14 ⟨rfl, hb14⟩
            have H14 : Hid (Below w0.heap.size w0 w14) := H13.out.trans (hb14.mono H13.out.size)
            clear hb14 KT2
            go_wp2_with fail
            refine Calls.mono (KO.out _ (H00.out.trans (H14.out.mono H00.out.size))) ?_
            rintro e w15 ⟨rfl, hb15⟩
            have H15 : Hid _ := hb15
            clear hb15
            go_wp2_with fail
            go_ret
            exact ⟨rfl, below_call0 (H00.out.trans (H14.out.mono H00.out.size)) H15.out⟩
end Go.Proofs.YtdnahobafhelhaaDoor
