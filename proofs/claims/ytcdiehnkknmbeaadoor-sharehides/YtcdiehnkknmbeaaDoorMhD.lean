/- Several texts laid together. -/
import Derived.Test.YtcdiehnkknmbeaaDoorMhC
import Derived.Test.YtcdiehnkknmbeaaDoorFieldG
import Derived.Test.YtcdiehnkknmbeaaDoorMhB
import Derived.Test.YtcdiehnkknmbeaaDoorHeldN
namespace Go.Proofs.YtcdiehnkknmbeaaDoor
open Go Go.RowKit Go.Lib

def negN (o : Nat) : Nat := subM QQ 0 o
/-- The numbers of all nodes but the i'th. -/
def othI (l : List Int) (i : Nat) : List Nat := (l.eraseIdx i).map Int.toNat
def negs (l : List Int) (i : Nat) : List Nat := (othI l i).map negN
theorem othI_same {l : List Int} {k : Nat} (hk : k < l.length) : othI (l.take (k + 1)) k = othI (l.take k) k := by
  unfold othI
  have e : (l.take k).length = k := by rw [List.length_take]; omega
  rw [List.take_succ_eq_append_getElem hk, List.eraseIdx_append_of_length_le (by omega), e, Nat.sub_self, List.eraseIdx_of_length_le (l := l.take k) (by omega)]
  simp
theorem othI_other {l : List Int} {k i : Nat} (hk : k < l.length) (hi : k ≠ i) : othI (l.take (k + 1)) i = othI (l.take k) i ++ [(l[k]'hk).toNat] := by
  unfold othI
  have e : (l.take k).length = k := by rw [List.length_take]; omega
  rw [List.take_succ_eq_append_getElem hk]
  rcases Nat.lt_or_ge i k with c | c
  · rw [List.eraseIdx_append_of_lt_length (by omega), List.map_append]; rfl
  · rw [List.eraseIdx_append_of_length_le (by omega), List.eraseIdx_of_length_le (l := l.take k) (by omega), e, List.eraseIdx_of_length_le (by simp; omega), List.map_append]; rfl
theorem negs_length (l : List Int) (i : Nat) : (negs l i).length ≤ l.length := by
  unfold negs othI
  rw [List.length_map, List.length_map, List.length_eraseIdx]
  split <;> omega
set_option maxRecDepth 100000 in
set_option maxHeartbeats 8000000 in
theorem others_any (g i : Nat) (a : Option Addr) (l : List Int) (c : Nat) (hl : l.length ≤ 10) (hi : i < l.length) (hP : NodesP l) (w : World) (hM : FieldB w g QQ) (hN : IntsAt w a l) :
    Calls Tryd.prog 53 #[.agg #[.pointer (some ⟨g, 0, none⟩)], .slice a l.length c, .int .i64 (i : Nat)] w fun e w' => ∃ a' cap', e = .returned (.slice a' (negs l i).length cap') ∧ RowN w' w.heap.size a' (negs l i) cap' ∧ Below w.heap.size w w' := by
  obtain ⟨n, hn⟩ : ∃ n, n = l.length := ⟨_, rfl⟩
  rw [← hn]
  have HL : Hid (n = l.length ∧ IntsAt w a l ∧ NodesP l ∧ FieldB w g QQ ∧ i < n) := ⟨hn, hN, hP, hM, by omega⟩
  have n10 : (n : Int) ≤ 10 := by omega
  obtain ⟨ns, hns⟩ : ∃ ns, ns = negs l i := ⟨_, rfl⟩
  rw [← hns]
  have HS : Hid (ns = negs l i) := hns
  clear hn hl hN hP hM hi hns
  go_enter Tryd.func53, Tryd.ntmps53
  go_wp2_with fail
  obtain ⟨w0, hw0⟩ : ∃ y, y = w.alloc (.cells #[.pointer (some ⟨g, 0, none⟩)] 67) := ⟨_, rfl⟩
  have H0 : Hid (Ptr1 w0 w.heap.size g ∧ Below w.heap.size w w0 ∧ w.heap.size + 1 = w0.heap.size) := by
    rw [hw0]; exact ⟨Ptr1.new _ _ _, below_alloc0 (Below.refl _ _) _, by simp⟩
  rw [← hw0]
  clear hw0
  rename_i Kr hKr
  have HKr : Hid _ := hKr
  clear hKr
  go_loopw [7, 14] (fun ov iv wr => ∃ k m cap : Nat, ∃ a' : Option Addr, k ≤ n ∧ iv = .int .i64 (k : Nat) ∧ ov = .slice a' m cap ∧ m = (negs (l.take k) i).length ∧ RowN wr w0.heap.size a' (negs (l.take k) i) cap ∧ Below w0.heap.size w0 wr) (fun _ iv _ => n - (Go.RowKit.intOf iv).toNat)
  case atStart => exact ⟨0, 0, 0, none, Nat.zero_le _, rfl, rfl, rfl, RowN.nil _ _, Below.refl _ _⟩
  case round =>
    obtain ⟨k, m, cap, a', hk, rfl, rfl, hm, hR, hB⟩ := hrel
    rename World => wr
    have HR : Hid (m = (negs (l.take k) i).length ∧ RowN wr w0.heap.size a' (negs (l.take k) i) cap ∧ Below w0.heap.size w0 wr) := ⟨hm, hR, hB⟩
    clear hm hR hB
    by_cases hlt : k < n
    · clear HKr
      have hkl : k < l.length := by rw [← HL.out.1]; exact hlt
      have hlt' : (k : Int) < (n : Int) := Int.ofNat_lt.2 hlt
      obtain ⟨p, o, rfl, c0, pz⟩ := ((HL.out.2.1.call H0.out.2.1).call HR.out.2.2).get hkl
      obtain ⟨z, hz⟩ : ∃ z, z = (l[k]'hkl) := ⟨_, rfl⟩
      rw [← hz] at c0
      by_cases hki : k = i
      · subst hki
        have HE : Hid (m = (negs (l.take (k + 1)) k).length ∧ RowN wr w0.heap.size a' (negs (l.take (k + 1)) k) cap ∧ Below w0.heap.size w0 wr) := by
          unfold negs
          rw [othI_same hkl]
          exact HR.out
        clear hz
        go_wp2_with fail
        go_roundw
        case rel => first | exact ⟨k + 1, m, cap, a', hlt, by go_num, rfl, HE.out⟩ | ((repeat apply Exists.intro); exact ⟨⟨k + 1, m, cap, a', hlt, by go_num, rfl, HE.out⟩, rfl⟩)
        case measure => simp [intOf]; omega
      · have hz1 := HL.out.2.2.1.1 z (by rw [hz]; exact List.getElem_mem hkl)
        obtain ⟨y, rfl⟩ : ∃ y : Nat, z = (y : Int) := ⟨z.toNat, by omega⟩
        have e1 : ((k : Int) == (i : Int)) = false := by simp; omega
        have e2 : ¬ ((k : Int) = (i : Int)) := by omega
        have yq : y < QQ := Nat.lt_of_le_of_lt (show y ≤ 10 by omega) (by decide)
        obtain ⟨v, hv⟩ : ∃ v, v = negN y := ⟨_, rfl⟩
        have KS : Hid (∀ w, Calls Tryd.prog 39 #[.int .i64 (y : Nat)] w fun e w' => e = .returned (.agg #[.int .u64 (limb (y) 0 : Nat), .int .u64 (limb (y) 1 : Nat), .int .u64 (limb (y) 2 : Nat), .int .u64 (limb (y) 3 : Nat)]) ∧ Below w.heap.size w w') := fun w => scalar_any y (by omega) w
        have KN : Hid (∀ w, FieldB w g QQ → Calls Tryd.prog 64 #[.pointer (some ⟨g, 0, none⟩), .agg #[.int .u64 (limb (y) 0 : Nat), .int .u64 (limb (y) 1 : Nat), .int .u64 (limb (y) 2 : Nat), .int .u64 (limb (y) 3 : Nat)]] w fun e w' => e = .returned (.tuple #[.agg #[.int .u64 (limb (v) 0 : Nat), .int .u64 (limb (v) 1 : Nat), .int .u64 (limb (v) 2 : Nat), .int .u64 (limb (v) 3 : Nat)], .int .i64 0]) ∧ Below w.heap.size w w') := fun w h => by rw [hv]; exact fneg_in g QQ y FM_Q yq w h
        have HV : Hid (negs (l.take (k + 1)) i = negs (l.take k) i ++ [v]) := by
          unfold negs
          rw [othI_other hkl hki, List.map_append, ← hz, hv]
          rfl
        have HF : Hid (Ptr1 wr w.heap.size g ∧ FieldB wr g QQ) := ⟨H0.out.1.call HR.out.2.2, (HL.out.2.2.2.1.call H0.out.2.1).call HR.out.2.2⟩
        have HLN : Hid ((negs (l.take k) i).length ≤ 1000000) := by
          have h1 := negs_length (l.take k) i
          rw [List.length_take] at h1
          unfold Hid
          omega
        clear hz hz1 yq hv hki
        go_wp2_with fail
        refine wp_region_N (fun w' => Below wr.heap.size wr w') 9 11 rfl (by kernel_rfl) ?_
        refine wpAnyN_take (i := 0) (oi := ?o0) (v := ?v0) ?hi0 (by kernel_rfl) (by kernel_rfl) (by kernel_rfl) (by kernel_rfl) (by decide) (by kernel_rfl) ?hQ0 ?hy0 (Below.drew (Below.refl _ _)) ?more0
        case hi0 => rw [List.getElem?_toArray]; exact rfl
        case hQ0 => exact fun _ _ _ h => h
        case hy0 =>
          refine Or.inl ⟨by rfl, ?_⟩
          intro w' hSw
          obtain ⟨r0, rz⟩ := HF.out.1.call hSw
          clear hSw
          go_simp
          try with_reducible rfl
        simp only [Act.put, List.setIfInBounds_toArray, List.set_cons_zero, List.set_cons_succ]
        refine wpAnyN_take (i := 1) (oi := ?o1) (v := ?v1) ?hi1 (by kernel_rfl) (by kernel_rfl) (by kernel_rfl) (by kernel_rfl) (by decide) (by kernel_rfl) ?hQ1 ?hy1 (Below.drew (Below.refl _ _)) ?more1
        case hi1 => rw [List.getElem?_toArray]; exact rfl
        case hQ1 => exact fun _ _ _ h => h
        case hy1 =>
          refine Or.inl ⟨by rfl, ?_⟩
          intro w' hSw
          obtain ⟨r0, rz⟩ := HF.out.1.call hSw
          clear hSw
          go_simp
          try with_reducible rfl
        simp only [Act.put, List.setIfInBounds_toArray, List.set_cons_zero, List.set_cons_succ]
        refine wpAnyN_takeF (i := 2) (oi := ?o2) (v := ?v2) ?hi2 (by kernel_rfl) (by kernel_rfl) (by kernel_rfl) (by decide) ?hQ2 ?hy2 (Below.drew (Below.refl _ _)) ?more2
        case hi2 => rw [List.getElem?_toArray]; exact rfl
        case hQ2 => exact fun _ _ _ h => h
        case hy2 =>
          refine Or.inl ⟨by rfl, ?_⟩
          intro w' hSw
          clear hSw
          go_simp
          try with_reducible rfl
        simp only [Act.put, List.setIfInBounds_toArray, List.set_cons_zero, List.set_cons_succ]
        refine wpAnyN_two (i := 3) (j := 8) (o := ?o3x1) (p := ?o8x1) (by kernel_rfl) ?hi3x1 ?hi8x1 ?hw3x1 ?hw8x1 ?st3x1 ?st8x1
        case hi3x1 => rw [List.getElem?_toArray]; exact rfl
        case hw3x1 => exact rfl
        case hi8x1 => rw [List.getElem?_toArray]; exact rfl
        case hw8x1 => exact rfl
        case st3x1 =>
          intro K hK
          have HK3y2 : Hid _ := hK
          clear hK
          go_simp
          refine (KS.out _).mono ?_
          rintro e w3y2 ⟨rfl, hq⟩
          have H3y2 : Hid (Below wr.heap.size wr w3y2) := below_call0 (Below.drew (Below.refl _ _)) hq
          clear hq
          go_wp2_with fail
          refine HK3y2.out _ _ ⟨fun _ => H3y2.out, ?_⟩
          clear HK3y2 K
          try simp only [Act.put, List.setIfInBounds_toArray, List.set_cons_zero, List.set_cons_succ]
          refine wpAnyN_two (i := 4) (j := 8) (o := ?o4y2x3) (p := ?o8y2x3) (by kernel_rfl) ?hi4y2x3 ?hi8y2x3 ?hw4y2x3 ?hw8y2x3 ?st4y2x3 ?st8y2x3
          case hi4y2x3 => rw [List.getElem?_toArray]; exact rfl
          case hw4y2x3 => exact rfl
          case hi8y2x3 => rw [List.getElem?_toArray]; exact rfl
          case hw8y2x3 => exact rfl
          case st4y2x3 =>
            intro K hK
            have HK4y4 : Hid _ := hK
            clear hK
            go_simp
            refine (KN.out _ (HF.out.2.call H3y2.out)).mono ?_
            rintro e w4y4 ⟨rfl, hq⟩
            have H4y4 : Hid (Below wr.heap.size wr w4y4) := below_call0 H3y2.out hq
            clear hq
            go_wp2_with fail
            refine HK4y4.out _ _ ⟨fun _ => H4y4.out, ?_⟩
            clear HK4y4 K
            try simp only [Act.put, List.setIfInBounds_toArray, List.set_cons_zero, List.set_cons_succ]
            refine wpAnyN_takeF (i := 5) (oi := ?o5y4) (v := ?v5y4) ?hi5y4 (by kernel_rfl) (by kernel_rfl) (by kernel_rfl) (by decide) ?hQ5y4 ?hy5y4 H4y4.out ?more5y4
            case hi5y4 => rw [List.getElem?_toArray]; exact rfl
            case hQ5y4 => exact fun _ _ _ h => h
            case hy5y4 =>
              refine Or.inl ⟨by rfl, ?_⟩
              intro w' hSw
              clear hSw
              go_simp
              try with_reducible rfl
            simp only [Act.put, List.setIfInBounds_toArray, List.set_cons_zero, List.set_cons_succ]
            refine wpAnyN_takeF (i := 6) (oi := ?o6y4) (v := ?v6y4) ?hi6y4 (by kernel_rfl) (by kernel_rfl) (by kernel_rfl) (by decide) ?hQ6y4 ?hy6y4 H4y4.out ?more6y4
            case hi6y4 => rw [List.getElem?_toArray]; exact rfl
            case hQ6y4 => exact fun _ _ _ h => h
            case hy6y4 =>
              refine Or.inl ⟨by rfl, ?_⟩
              intro w' hSw
              clear hSw
              go_simp
              try with_reducible rfl
            simp only [Act.put, List.setIfInBounds_toArray, List.set_cons_zero, List.set_cons_succ]
            refine wpAnyN_takeF (i := 7) (oi := ?o7y4) (v := ?v7y4) ?hi7y4 (by kernel_rfl) (by kernel_rfl) (by kernel_rfl) (by decide) ?hQ7y4 ?hy7y4 H4y4.out ?more7y4
            case hi7y4 => rw [List.getElem?_toArray]; exact rfl
            case hQ7y4 => exact fun _ _ _ h => h
            case hy7y4 =>
              refine Or.inl ⟨by rfl, ?_⟩
              intro w' hSw
              clear hSw
              go_simp
              try with_reducible rfl
            simp only [Act.put, List.setIfInBounds_toArray, List.set_cons_zero, List.set_cons_succ]
            refine wpAnyN_one (i := 8) (o := ?o8y4) (by kernel_rfl) ?hi8y4 ?hw8y4 ?st8y4
            case hi8y4 => rw [List.getElem?_toArray]; exact rfl
            case hw8y4 => exact rfl
            intro K hK
            have HK8y4 : Hid _ := hK
            clear hK
            go_simp
            refine HK8y4.out _ _ ⟨fun _ => (below_alloc0 H4y4.out _), ?_⟩
            clear HK8y4 K
            try simp only [Act.put, List.setIfInBounds_toArray, List.set_cons_zero, List.set_cons_succ]
            refine wpAnyN_one (i := 9) (o := ?o9y4) (by kernel_rfl) ?hi9y4 ?hw9y4 ?st9y4
            case hi9y4 => rw [List.getElem?_toArray]; exact rfl
            case hw9y4 => exact rfl
            intro K hK
            have HK9y4 : Hid _ := hK
            clear hK
            obtain ⟨⟨o0, o1, o2, o3⟩, ⟨f0, f1, f2, f3⟩, oz⟩ := Pend.facts (Pend.new' (W := w4y4) (t := 25) rfl)
            try simp only [World.size_alloc] at o0 o1 o2 o3 f0 f1 f2 f3 oz
            go_simp
            refine HK9y4.out _ _ ⟨fun h => absurd h (by decide +kernel), ?_⟩
            clear HK9y4 K
            try simp only [Act.put, List.setIfInBounds_toArray, List.set_cons_zero, List.set_cons_succ]
            refine wpAnyN_one (i := 10) (o := ?o10y4) (by kernel_rfl) ?hi10y4 ?hw10y4 ?st10y4
            case hi10y4 => rw [List.getElem?_toArray]; exact rfl
            case hw10y4 => exact rfl
            intro K hK
            have HK10y4 : Hid _ := hK
            clear hK
            go_simp
            refine HK10y4.out _ _ ⟨fun h => absurd h (by decide +kernel), ?_⟩
            clear HK10y4 K
            try simp only [Act.put, List.setIfInBounds_toArray, List.set_cons_zero, List.set_cons_succ]
            refine wpAnyN_done (by kernel_rfl) ?_ _
            obtain ⟨wS, hwS⟩ : ∃ y, y = w4y4.alloc (.cells #[.int .u64 (limb v 0 : Nat), .int .u64 (limb v 1 : Nat), .int .u64 (limb v 2 : Nat), .int .u64 (limb v 3 : Nat)] 25) := ⟨_, rfl⟩
            have HT : Hid (Own4 wS (w4y4.heap.size) v ∧ Below wr.heap.size wr wS) := by rw [hwS]; exact ⟨Own4.new' rfl, below_alloc0 H4y4.out _⟩
            rw [← hwS]
            clear hwS o0 o1 o2 o3 f0 f1 f2 f3 oz
            obtain ⟨⟨q0, q1, q2, q3⟩, _, qz⟩ := HT.out.1.facts
            have HA : Hid (RowN (wS.alloc (.cells #[.int .u64 (limb v 0 : Nat), .int .u64 (limb v 1 : Nat), .int .u64 (limb v 2 : Nat), .int .u64 (limb v 3 : Nat)] 25)) w0.heap.size a' (negs (l.take k) i) cap ∧ Num4 (wS.alloc (.cells #[.int .u64 (limb v 0 : Nat), .int .u64 (limb v 1 : Nat), .int .u64 (limb v 2 : Nat), .int .u64 (limb v 3 : Nat)] 25)) wS.heap.size v ∧ Below w0.heap.size w0 (wS.alloc (.cells #[.int .u64 (limb v 0 : Nat), .int .u64 (limb v 1 : Nat), .int .u64 (limb v 2 : Nat), .int .u64 (limb v 3 : Nat)] 25))) := ⟨(HR.out.2.1.call HT.out.2).alloc, Num4.new _ _ _, below_alloc0 (below_call0 HR.out.2.2 HT.out.2) _⟩
            go_wp2_with (at_builtin; refine wpList_append_RowN _ rfl (.tmp 30) (.tmp 32) rfl w0.heap.size a' m cap (negs (l.take k) i) v rfl HR.out.1 HA.out.1 HA.out.2.2.size HLN.out wS.heap.size 1 rfl HA.out.2.1 ?_; intro a5 m5 cap5 w5 hm5 hR5 hb5; have H5 : Hid (m5 = m + 1 ∧ RowN w5 w0.heap.size a5 (negs (l.take k) i ++ [v]) cap5 ∧ Below w0.heap.size w0 w5) := ⟨hm5, hR5, HA.out.2.2.trans hb5⟩; clear hm5 hR5 hb5)
            have HG : Hid (m5 = (negs (l.take (k + 1)) i).length ∧ RowN w5 w0.heap.size a5 (negs (l.take (k + 1)) i) cap5 ∧ Below w0.heap.size w0 w5) := by
              rw [HV.out]
              exact ⟨by rw [H5.out.1, HR.out.1, List.length_append]; rfl, H5.out.2⟩
            go_roundw
            case rel => first | exact ⟨k + 1, m5, cap5, a5, hlt, by go_num, rfl, HG.out⟩ | ((repeat apply Exists.intro); exact ⟨⟨k + 1, m5, cap5, a5, hlt, by go_num, rfl, HG.out⟩, rfl⟩)
            case measure => simp [intOf]; omega
          case st8y2x3 =>
            intro K hK
            have HK8y5 : Hid _ := hK
            clear hK
            go_simp
            refine HK8y5.out _ _ ⟨fun _ => (below_alloc0 H3y2.out _), ?_⟩
            clear HK8y5 K
            try simp only [Act.put, List.setIfInBounds_toArray, List.set_cons_zero, List.set_cons_succ]
            refine wpAnyN_one (i := 4) (o := ?o4y5) (by kernel_rfl) ?hi4y5 ?hw4y5 ?st4y5
            case hi4y5 => rw [List.getElem?_toArray]; exact rfl
            case hw4y5 => exact rfl
            intro K hK
            have HK4y5 : Hid _ := hK
            clear hK
            go_simp
            refine (KN.out _ (HF.out.2.call (below_alloc0 H3y2.out _))).mono ?_
            rintro e w4y5 ⟨rfl, hq⟩
            have H4y5 : Hid (Below wr.heap.size wr w4y5) := below_call0 (below_alloc0 H3y2.out _) hq
            have P4y5 : Hid (Pend w4y5 (w3y2.heap.size)) := Pend.call (Pend.new' (W := w3y2) (t := 25) rfl) hq
            clear hq
            go_wp2_with fail
            refine HK4y5.out _ _ ⟨fun _ => H4y5.out, ?_⟩
            clear HK4y5 K
            try simp only [Act.put, List.setIfInBounds_toArray, List.set_cons_zero, List.set_cons_succ]
            refine wpAnyN_takeF (i := 5) (oi := ?o5y5) (v := ?v5y5) ?hi5y5 (by kernel_rfl) (by kernel_rfl) (by kernel_rfl) (by decide) ?hQ5y5 ?hy5y5 H4y5.out ?more5y5
            case hi5y5 => rw [List.getElem?_toArray]; exact rfl
            case hQ5y5 => exact fun _ _ _ h => h
            case hy5y5 =>
              refine Or.inl ⟨by rfl, ?_⟩
              intro w' hSw
              clear hSw
              go_simp
              try with_reducible rfl
            simp only [Act.put, List.setIfInBounds_toArray, List.set_cons_zero, List.set_cons_succ]
            refine wpAnyN_takeF (i := 6) (oi := ?o6y5) (v := ?v6y5) ?hi6y5 (by kernel_rfl) (by kernel_rfl) (by kernel_rfl) (by decide) ?hQ6y5 ?hy6y5 H4y5.out ?more6y5
            case hi6y5 => rw [List.getElem?_toArray]; exact rfl
            case hQ6y5 => exact fun _ _ _ h => h
            case hy6y5 =>
              refine Or.inl ⟨by rfl, ?_⟩
              intro w' hSw
              clear hSw
              go_simp
              try with_reducible rfl
            simp only [Act.put, List.setIfInBounds_toArray, List.set_cons_zero, List.set_cons_succ]
            refine wpAnyN_takeF (i := 7) (oi := ?o7y5) (v := ?v7y5) ?hi7y5 (by kernel_rfl) (by kernel_rfl) (by kernel_rfl) (by decide) ?hQ7y5 ?hy7y5 H4y5.out ?more7y5
            case hi7y5 => rw [List.getElem?_toArray]; exact rfl
            case hQ7y5 => exact fun _ _ _ h => h
            case hy7y5 =>
              refine Or.inl ⟨by rfl, ?_⟩
              intro w' hSw
              clear hSw
              go_simp
              try with_reducible rfl
            simp only [Act.put, List.setIfInBounds_toArray, List.set_cons_zero, List.set_cons_succ]
            refine wpAnyN_one (i := 9) (o := ?o9y5) (by kernel_rfl) ?hi9y5 ?hw9y5 ?st9y5
            case hi9y5 => rw [List.getElem?_toArray]; exact rfl
            case hw9y5 => exact rfl
            intro K hK
            have HK9y5 : Hid _ := hK
            clear hK
            obtain ⟨⟨o0, o1, o2, o3⟩, ⟨f0, f1, f2, f3⟩, oz⟩ := Pend.facts P4y5.out
            try simp only [World.size_alloc] at o0 o1 o2 o3 f0 f1 f2 f3 oz
            go_simp
            refine HK9y5.out _ _ ⟨fun h => absurd h (by decide +kernel), ?_⟩
            clear HK9y5 K
            try simp only [Act.put, List.setIfInBounds_toArray, List.set_cons_zero, List.set_cons_succ]
            refine wpAnyN_one (i := 10) (o := ?o10y5) (by kernel_rfl) ?hi10y5 ?hw10y5 ?st10y5
            case hi10y5 => rw [List.getElem?_toArray]; exact rfl
            case hw10y5 => exact rfl
            intro K hK
            have HK10y5 : Hid _ := hK
            clear hK
            go_simp
            refine HK10y5.out _ _ ⟨fun h => absurd h (by decide +kernel), ?_⟩
            clear HK10y5 K
            try simp only [Act.put, List.setIfInBounds_toArray, List.set_cons_zero, List.set_cons_succ]
            refine wpAnyN_done (by kernel_rfl) ?_ _
            obtain ⟨wS, hwS⟩ : ∃ y, y = ((((w4y5.setCell ⟨w3y2.heap.size, 0, none⟩ (.int .u64 (limb v 0 : Nat))).setCell ⟨w3y2.heap.size, 1, none⟩ (.int .u64 (limb v 1 : Nat))).setCell ⟨w3y2.heap.size, 2, none⟩ (.int .u64 (limb v 2 : Nat))).setCell ⟨w3y2.heap.size, 3, none⟩ (.int .u64 (limb v 3 : Nat))) := ⟨_, rfl⟩
            have HT : Hid (Own4 wS (w3y2.heap.size) v ∧ Below wr.heap.size wr wS) := by rw [hwS]; exact ⟨Pend.own P4y5.out, Below.setCell (Below.setCell (Below.setCell (Below.setCell H4y5.out (Below.size H3y2.out) _) (Below.size H3y2.out) _) (Below.size H3y2.out) _) (Below.size H3y2.out) _⟩
            rw [← hwS]
            clear hwS o0 o1 o2 o3 f0 f1 f2 f3 oz
            obtain ⟨⟨q0, q1, q2, q3⟩, _, qz⟩ := HT.out.1.facts
            have HA : Hid (RowN (wS.alloc (.cells #[.int .u64 (limb v 0 : Nat), .int .u64 (limb v 1 : Nat), .int .u64 (limb v 2 : Nat), .int .u64 (limb v 3 : Nat)] 25)) w0.heap.size a' (negs (l.take k) i) cap ∧ Num4 (wS.alloc (.cells #[.int .u64 (limb v 0 : Nat), .int .u64 (limb v 1 : Nat), .int .u64 (limb v 2 : Nat), .int .u64 (limb v 3 : Nat)] 25)) wS.heap.size v ∧ Below w0.heap.size w0 (wS.alloc (.cells #[.int .u64 (limb v 0 : Nat), .int .u64 (limb v 1 : Nat), .int .u64 (limb v 2 : Nat), .int .u64 (limb v 3 : Nat)] 25))) := ⟨(HR.out.2.1.call HT.out.2).alloc, Num4.new _ _ _, below_alloc0 (below_call0 HR.out.2.2 HT.out.2) _⟩
            go_wp2_with (at_builtin; refine wpList_append_RowN _ rfl (.tmp 30) (.tmp 32) rfl w0.heap.size a' m cap (negs (l.take k) i) v rfl HR.out.1 HA.out.1 HA.out.2.2.size HLN.out wS.heap.size 1 rfl HA.out.2.1 ?_; intro a5 m5 cap5 w5 hm5 hR5 hb5; have H5 : Hid (m5 = m + 1 ∧ RowN w5 w0.heap.size a5 (negs (l.take k) i ++ [v]) cap5 ∧ Below w0.heap.size w0 w5) := ⟨hm5, hR5, HA.out.2.2.trans hb5⟩; clear hm5 hR5 hb5)
            have HG : Hid (m5 = (negs (l.take (k + 1)) i).length ∧ RowN w5 w0.heap.size a5 (negs (l.take (k + 1)) i) cap5 ∧ Below w0.heap.size w0 w5) := by
              rw [HV.out]
              exact ⟨by rw [H5.out.1, HR.out.1, List.length_append]; rfl, H5.out.2⟩
            go_roundw
            case rel => first | exact ⟨k + 1, m5, cap5, a5, hlt, by go_num, rfl, HG.out⟩ | ((repeat apply Exists.intro); exact ⟨⟨k + 1, m5, cap5, a5, hlt, by go_num, rfl, HG.out⟩, rfl⟩)
            case measure => simp [intOf]; omega
        case st8x1 =>
          intro K hK
          have HK8y6 : Hid _ := hK
          clear hK
          go_simp
          refine HK8y6.out _ _ ⟨fun _ => (below_alloc0 (Below.drew (Below.refl _ _)) _), ?_⟩
          clear HK8y6 K
          try simp only [Act.put, List.setIfInBounds_toArray, List.set_cons_zero, List.set_cons_succ]
          refine wpAnyN_one (i := 3) (o := ?o3y6) (by kernel_rfl) ?hi3y6 ?hw3y6 ?st3y6
          case hi3y6 => rw [List.getElem?_toArray]; exact rfl
          case hw3y6 => exact rfl
          intro K hK
          have HK3y6 : Hid _ := hK
          clear hK
          go_simp
          refine (KS.out _).mono ?_
          rintro e w3y6 ⟨rfl, hq⟩
          have H3y6 : Hid (Below wr.heap.size wr w3y6) := below_call0 (below_alloc0 (Below.drew (Below.refl _ _)) _) hq
          have P3y6 : Hid (Pend w3y6 (wr.heap.size)) := Pend.call (Pend.new' (W := wr.drew) (t := 25) rfl) hq
          clear hq
          go_wp2_with fail
          refine HK3y6.out _ _ ⟨fun _ => H3y6.out, ?_⟩
          clear HK3y6 K
          try simp only [Act.put, List.setIfInBounds_toArray, List.set_cons_zero, List.set_cons_succ]
          refine wpAnyN_one (i := 4) (o := ?o4y6) (by kernel_rfl) ?hi4y6 ?hw4y6 ?st4y6
          case hi4y6 => rw [List.getElem?_toArray]; exact rfl
          case hw4y6 => exact rfl
          intro K hK
          have HK4y6 : Hid _ := hK
          clear hK
          go_simp
          refine (KN.out _ (HF.out.2.call H3y6.out)).mono ?_
          rintro e w4y6 ⟨rfl, hq⟩
          have H4y6 : Hid (Below wr.heap.size wr w4y6) := below_call0 H3y6.out hq
          have P4y6 : Hid (Pend w4y6 (wr.heap.size)) := Pend.call P3y6.out hq
          clear hq
          go_wp2_with fail
          refine HK4y6.out _ _ ⟨fun _ => H4y6.out, ?_⟩
          clear HK4y6 K
          try simp only [Act.put, List.setIfInBounds_toArray, List.set_cons_zero, List.set_cons_succ]
          refine wpAnyN_takeF (i := 5) (oi := ?o5y6) (v := ?v5y6) ?hi5y6 (by kernel_rfl) (by kernel_rfl) (by kernel_rfl) (by decide) ?hQ5y6 ?hy5y6 H4y6.out ?more5y6
          case hi5y6 => rw [List.getElem?_toArray]; exact rfl
          case hQ5y6 => exact fun _ _ _ h => h
          case hy5y6 =>
            refine Or.inl ⟨by rfl, ?_⟩
            intro w' hSw
            clear hSw
            go_simp
            try with_reducible rfl
          simp only [Act.put, List.setIfInBounds_toArray, List.set_cons_zero, List.set_cons_succ]
          refine wpAnyN_takeF (i := 6) (oi := ?o6y6) (v := ?v6y6) ?hi6y6 (by kernel_rfl) (by kernel_rfl) (by kernel_rfl) (by decide) ?hQ6y6 ?hy6y6 H4y6.out ?more6y6
          case hi6y6 => rw [List.getElem?_toArray]; exact rfl
          case hQ6y6 => exact fun _ _ _ h => h
          case hy6y6 =>
            refine Or.inl ⟨by rfl, ?_⟩
            intro w' hSw
            clear hSw
            go_simp
            try with_reducible rfl
          simp only [Act.put, List.setIfInBounds_toArray, List.set_cons_zero, List.set_cons_succ]
          refine wpAnyN_takeF (i := 7) (oi := ?o7y6) (v := ?v7y6) ?hi7y6 (by kernel_rfl) (by kernel_rfl) (by kernel_rfl) (by decide) ?hQ7y6 ?hy7y6 H4y6.out ?more7y6
          case hi7y6 => rw [List.getElem?_toArray]; exact rfl
          case hQ7y6 => exact fun _ _ _ h => h
          case hy7y6 =>
            refine Or.inl ⟨by rfl, ?_⟩
            intro w' hSw
            clear hSw
            go_simp
            try with_reducible rfl
          simp only [Act.put, List.setIfInBounds_toArray, List.set_cons_zero, List.set_cons_succ]
          refine wpAnyN_one (i := 9) (o := ?o9y6) (by kernel_rfl) ?hi9y6 ?hw9y6 ?st9y6
          case hi9y6 => rw [List.getElem?_toArray]; exact rfl
          case hw9y6 => exact rfl
          intro K hK
          have HK9y6 : Hid _ := hK
          clear hK
          obtain ⟨⟨o0, o1, o2, o3⟩, ⟨f0, f1, f2, f3⟩, oz⟩ := Pend.facts P4y6.out
          try simp only [World.size_alloc] at o0 o1 o2 o3 f0 f1 f2 f3 oz
          go_simp
          refine HK9y6.out _ _ ⟨fun h => absurd h (by decide +kernel), ?_⟩
          clear HK9y6 K
          try simp only [Act.put, List.setIfInBounds_toArray, List.set_cons_zero, List.set_cons_succ]
          refine wpAnyN_one (i := 10) (o := ?o10y6) (by kernel_rfl) ?hi10y6 ?hw10y6 ?st10y6
          case hi10y6 => rw [List.getElem?_toArray]; exact rfl
          case hw10y6 => exact rfl
          intro K hK
          have HK10y6 : Hid _ := hK
          clear hK
          go_simp
          refine HK10y6.out _ _ ⟨fun h => absurd h (by decide +kernel), ?_⟩
          clear HK10y6 K
          try simp only [Act.put, List.setIfInBounds_toArray, List.set_cons_zero, List.set_cons_succ]
          refine wpAnyN_done (by kernel_rfl) ?_ _
          obtain ⟨wS, hwS⟩ : ∃ y, y = ((((w4y6.setCell ⟨wr.heap.size, 0, none⟩ (.int .u64 (limb v 0 : Nat))).setCell ⟨wr.heap.size, 1, none⟩ (.int .u64 (limb v 1 : Nat))).setCell ⟨wr.heap.size, 2, none⟩ (.int .u64 (limb v 2 : Nat))).setCell ⟨wr.heap.size, 3, none⟩ (.int .u64 (limb v 3 : Nat))) := ⟨_, rfl⟩
          have HT : Hid (Own4 wS (wr.heap.size) v ∧ Below wr.heap.size wr wS) := by rw [hwS]; exact ⟨Pend.own P4y6.out, Below.setCell (Below.setCell (Below.setCell (Below.setCell H4y6.out (Nat.le_refl _) _) (Nat.le_refl _) _) (Nat.le_refl _) _) (Nat.le_refl _) _⟩
          rw [← hwS]
          clear hwS o0 o1 o2 o3 f0 f1 f2 f3 oz
          obtain ⟨⟨q0, q1, q2, q3⟩, _, qz⟩ := HT.out.1.facts
          have HA : Hid (RowN (wS.alloc (.cells #[.int .u64 (limb v 0 : Nat), .int .u64 (limb v 1 : Nat), .int .u64 (limb v 2 : Nat), .int .u64 (limb v 3 : Nat)] 25)) w0.heap.size a' (negs (l.take k) i) cap ∧ Num4 (wS.alloc (.cells #[.int .u64 (limb v 0 : Nat), .int .u64 (limb v 1 : Nat), .int .u64 (limb v 2 : Nat), .int .u64 (limb v 3 : Nat)] 25)) wS.heap.size v ∧ Below w0.heap.size w0 (wS.alloc (.cells #[.int .u64 (limb v 0 : Nat), .int .u64 (limb v 1 : Nat), .int .u64 (limb v 2 : Nat), .int .u64 (limb v 3 : Nat)] 25))) := ⟨(HR.out.2.1.call HT.out.2).alloc, Num4.new _ _ _, below_alloc0 (below_call0 HR.out.2.2 HT.out.2) _⟩
          go_wp2_with (at_builtin; refine wpList_append_RowN _ rfl (.tmp 30) (.tmp 32) rfl w0.heap.size a' m cap (negs (l.take k) i) v rfl HR.out.1 HA.out.1 HA.out.2.2.size HLN.out wS.heap.size 1 rfl HA.out.2.1 ?_; intro a5 m5 cap5 w5 hm5 hR5 hb5; have H5 : Hid (m5 = m + 1 ∧ RowN w5 w0.heap.size a5 (negs (l.take k) i ++ [v]) cap5 ∧ Below w0.heap.size w0 w5) := ⟨hm5, hR5, HA.out.2.2.trans hb5⟩; clear hm5 hR5 hb5)
          have HG : Hid (m5 = (negs (l.take (k + 1)) i).length ∧ RowN w5 w0.heap.size a5 (negs (l.take (k + 1)) i) cap5 ∧ Below w0.heap.size w0 w5) := by
            rw [HV.out]
            exact ⟨by rw [H5.out.1, HR.out.1, List.length_append]; rfl, H5.out.2⟩
          go_roundw
          case rel => first | exact ⟨k + 1, m5, cap5, a5, hlt, by go_num, rfl, HG.out⟩ | ((repeat apply Exists.intro); exact ⟨⟨k + 1, m5, cap5, a5, hlt, by go_num, rfl, HG.out⟩, rfl⟩)
          case measure => simp [intOf]; omega
    · obtain rfl : k = n := by omega
      have hnl : ¬ ((k : Int) < (k : Int)) := Int.lt_irrefl _
      have HF : Hid (m = ns.length ∧ RowN wr w0.heap.size a' ns cap) := by
        have e1 : l.take k = l := List.take_of_length_le (by rw [← HL.out.1]; exact Nat.le_refl _)
        have h := HR.out
        rw [e1, ← HS.out] at h
        exact ⟨h.1, h.2.1⟩
      clear hlt hk
      go_wp2_with fail
      refine HKr.out _ _ ?_
      clear HKr
      go_wp2_with fail
      go_ret
      refine ⟨a', cap, by rw [HF.out.1]; rfl, ?_, below_call0 H0.out.2.1 HR.out.2.2⟩
      exact ⟨HF.out.2.1, by
        rcases HF.out.2.2 with h | ⟨q, cap', cur, h1, h2, h3⟩
        · exact .inl h
        · exact .inr ⟨q, cap', cur, h1, Nat.le_trans (by have := H0.out.2.2; omega) h2, h3⟩⟩
end Go.Proofs.YtcdiehnkknmbeaaDoor

namespace Go.Proofs.YtcdiehnkknmbeaaDoor
open Go Go.RowKit Go.Lib

theorem gapN_snoc (q x a : Nat) : ∀ (l : List Nat) (out : Nat), gapN q x out (l ++ [a]) = gapN q x out l * ((x + a) % q) % q
  | [], _ => rfl
  | b :: l, out => gapN_snoc q x a l (out * ((x + b) % q) % q)
theorem gapN_lt (q x : Nat) (hq : 0 < q) : ∀ (l : List Nat) (out : Nat), out < q → gapN q x out l < q
  | [], _, h => h
  | _ :: l, _, _ => gapN_lt q x hq l _ (Nat.mod_lt _ hq)
set_option maxRecDepth 100000 in
set_option maxHeartbeats 8000000 in
theorem gaps_any (g x : Nat) (a : Option Addr) (l : List Nat) (c : Nat) (hl : l.length ≤ 1000000) (hx : x < QQ) (hQ : ∀ z ∈ l, z < QQ) (w : World) (hM : FieldB w g QQ) (hN : Nums w a l) :
    Calls Tryd.prog 54 #[.func (.func 34) #[.agg #[.pointer (some ⟨g, 0, none⟩)]] #[], .func (.func 35) #[.agg #[.pointer (some ⟨g, 0, none⟩)]] #[], .agg #[.int .u64 (limb (x) 0 : Nat), .int .u64 (limb (x) 1 : Nat), .int .u64 (limb (x) 2 : Nat), .int .u64 (limb (x) 3 : Nat)], .slice a l.length c] w fun e w' => e = .returned (.agg #[.int .u64 (limb (gapN QQ x 1 l) 0 : Nat), .int .u64 (limb (gapN QQ x 1 l) 1 : Nat), .int .u64 (limb (gapN QQ x 1 l) 2 : Nat), .int .u64 (limb (gapN QQ x 1 l) 3 : Nat)]) ∧ Below w.heap.size w w' := by
  obtain ⟨n, hn⟩ : ∃ n, n = l.length := ⟨_, rfl⟩
  rw [← hn]
  obtain ⟨V, hV⟩ : ∃ V, V = gapN QQ x 1 l := ⟨_, rfl⟩
  rw [← hV]
  have HL : Hid (n = l.length ∧ Nums w a l ∧ FieldB w g QQ ∧ x < QQ ∧ (∀ z ∈ l, z < QQ) ∧ V = gapN QQ x 1 l) := ⟨hn, hN, hM, hx, hQ, hV⟩
  have n6 : (n : Int) ≤ 1000000 := by omega
  clear hn hl hN hM hx hQ hV
  go_enter Tryd.func54, Tryd.ntmps54
  go_wp2_with fail
  obtain ⟨w2, hw2⟩ : ∃ y, y = (w.alloc (.cells #[.int .u64 (limb x 0 : Nat), .int .u64 (limb x 1 : Nat), .int .u64 (limb x 2 : Nat), .int .u64 (limb x 3 : Nat)] 25)).alloc (.cells #[.int .u64 0, .int .u64 0, .int .u64 0, .int .u64 0] 25) := ⟨_, rfl⟩
  have hz2 : w.heap.size + 1 + 1 = w2.heap.size := by rw [hw2]; simp
  have H2 : Hid (Own4 w2 w.heap.size x ∧ Pend w2 (w.heap.size + 1) ∧ Below w.heap.size w w2 ∧ FieldB w2 g QQ) := by
    rw [hw2]
    exact ⟨(Own4.new _ _ _).alloc, Pend.new' (by simp), below_alloc0 (below_alloc0 (Below.refl _ _) _) _, HL.out.2.2.1.alloc.alloc⟩
  rw [← hw2, hz2]
  clear hw2 hz2
  obtain ⟨w5, hw5⟩ : ∃ y, y = w2.alloc (.cells #[.int .u64 1, .int .u64 0, .int .u64 0, .int .u64 0] 25) := ⟨_, rfl⟩
  have H5 : Hid (Own4 w5 w2.heap.size 1 ∧ Below w2.heap.size w2 w5) := by
    rw [hw5]
    have h := Own4.new w2 1 25
    rw [limb_one.1, limb_one.2.1, limb_one.2.2.1, limb_one.2.2.2] at h
    exact ⟨h, below_alloc0 (Below.refl _ _) _⟩
  rw [← hw5]
  clear hw5
  rename_i Kr hKr
  have HKr : Hid _ := hKr
  clear hKr
  go_loopw [15] (fun iv wr => ∃ k : Nat, k ≤ n ∧ iv = .int .i64 (k : Nat) ∧ Own4 wr w2.heap.size (gapN QQ x 1 (l.take k)) ∧ Below w2.heap.size w2 wr) (fun iv _ => n - (Go.RowKit.intOf iv).toNat)
  case atStart => exact ⟨0, Nat.zero_le _, rfl, H5.out.1, H5.out.2⟩
  case round =>
    obtain ⟨k, hk, rfl, hO, hB⟩ := hrel
    rename World => wr
    obtain ⟨v, hv⟩ : ∃ v, v = gapN QQ x 1 (l.take k) := ⟨_, rfl⟩
    rw [← hv] at hO
    have HR : Hid (Own4 wr w2.heap.size v ∧ Below w2.heap.size w2 wr ∧ v = gapN QQ x 1 (l.take k)) := ⟨hO, hB, hv⟩
    clear hO hB hv
    by_cases hlt : k < n
    · clear HKr
      have hkl : k < l.length := by rw [← HL.out.1]; exact hlt
      have hlt' : (k : Int) < (n : Int) := Int.ofNat_lt.2 hlt
      obtain ⟨p, o, rfl, ⟨c0, c1, c2, c3⟩, pz⟩ := ((HL.out.2.1.call H2.out.2.2.1).call HR.out.2.1).get hkl
      obtain ⟨m, hm⟩ : ∃ m, m = (l[k]'hkl) := ⟨_, rfl⟩
      rw [← hm] at c0 c1 c2 c3
      have hmq : m < QQ := by rw [hm]; exact HL.out.2.2.2.2.1 _ (List.getElem_mem hkl)
      have hvq : v < QQ := by rw [HR.out.2.2]; exact gapN_lt _ _ QQ_pos _ _ FM_Q.pos
      obtain ⟨t, ht⟩ : ∃ t, t = (x + m) % QQ := ⟨_, rfl⟩
      obtain ⟨u, hu⟩ : ∃ u, u = v * t % QQ := ⟨_, rfl⟩
      have htq : t < QQ := by rw [ht]; exact Nat.mod_lt _ QQ_pos
      have KP : Hid (∀ w, FieldB w g QQ → Calls Tryd.prog 34 #[.agg #[.pointer (some ⟨g, 0, none⟩)], .agg #[.int .u64 (limb (x) 0 : Nat), .int .u64 (limb (x) 1 : Nat), .int .u64 (limb (x) 2 : Nat), .int .u64 (limb (x) 3 : Nat)], .agg #[.int .u64 (limb (m) 0 : Nat), .int .u64 (limb (m) 1 : Nat), .int .u64 (limb (m) 2 : Nat), .int .u64 (limb (m) 3 : Nat)]] w fun e w' => e = .returned (.agg #[.int .u64 (limb (t) 0 : Nat), .int .u64 (limb (t) 1 : Nat), .int .u64 (limb (t) 2 : Nat), .int .u64 (limb (t) 3 : Nat)]) ∧ Below w.heap.size w w') := fun w h => by rw [ht]; exact rplus_any g x m HL.out.2.2.2.1 hmq w h
      have KT : Hid (∀ w, FieldB w g QQ → Calls Tryd.prog 35 #[.agg #[.pointer (some ⟨g, 0, none⟩)], .agg #[.int .u64 (limb (v) 0 : Nat), .int .u64 (limb (v) 1 : Nat), .int .u64 (limb (v) 2 : Nat), .int .u64 (limb (v) 3 : Nat)], .agg #[.int .u64 (limb (t) 0 : Nat), .int .u64 (limb (t) 1 : Nat), .int .u64 (limb (t) 2 : Nat), .int .u64 (limb (t) 3 : Nat)]] w fun e w' => e = .returned (.agg #[.int .u64 (limb (u) 0 : Nat), .int .u64 (limb (u) 1 : Nat), .int .u64 (limb (u) 2 : Nat), .int .u64 (limb (u) 3 : Nat)]) ∧ Below w.heap.size w w') := fun w h => by rw [hu]; exact rtimes_any g v t hvq htq w h
      have HU : Hid (u = gapN QQ x 1 (l.take (k + 1))) := by
        rw [List.take_succ_eq_append_getElem hkl, gapN_snoc, ← HR.out.2.2, ← hm, ← ht]; exact hu
      clear hm hmq hvq htq ht hu
      go_wp2_with fail
      obtain ⟨w8, hw8⟩ : ∃ z, z = wr.alloc (.cells #[.int .u64 (limb m 0 : Nat), .int .u64 (limb m 1 : Nat), .int .u64 (limb m 2 : Nat), .int .u64 (limb m 3 : Nat)] 25) := ⟨_, rfl⟩
      have H8 : Hid (Own4 w8 w2.heap.size v ∧ Own4 w8 wr.heap.size m ∧ Own4 w8 w.heap.size x ∧ FieldB w8 g QQ ∧ Below w2.heap.size w2 w8) := by
        rw [hw8]
        exact ⟨HR.out.1.alloc, Own4.new _ _ _, (H2.out.1.call HR.out.2.1).alloc, (H2.out.2.2.2.call HR.out.2.1).alloc, below_alloc0 HR.out.2.1 _⟩
      rw [← hw8]
      clear hw8 c0 c1 c2 c3 pz
      refine wp_region_N (fun w' => Below w8.heap.size w8 w') 7 8 rfl (by kernel_rfl) ?_
      refine wpAnyN_takeF (i := 0) (oi := ?o0) (v := ?v0) ?hi0 (by kernel_rfl) (by kernel_rfl) (by kernel_rfl) (by decide) ?hQ0 ?hy0 (Below.drew (Below.refl _ _)) ?more0
      case hi0 => rw [List.getElem?_toArray]; exact rfl
      case hQ0 => exact fun _ _ _ h => h
      case hy0 =>
        refine Or.inl ⟨by rfl, ?_⟩
        intro w' hSw
        clear hSw
        go_simp
        try with_reducible rfl
      simp only [Act.put, List.setIfInBounds_toArray, List.set_cons_zero, List.set_cons_succ]
      refine wpAnyN_take (i := 1) (oi := ?o1) (v := ?v1) ?hi1 (by kernel_rfl) (by kernel_rfl) (by kernel_rfl) (by kernel_rfl) (by decide) (by kernel_rfl) ?hQ1 ?hy1 (Below.drew (Below.refl _ _)) ?more1
      case hi1 => rw [List.getElem?_toArray]; exact rfl
      case hQ1 => exact fun _ _ _ h => h
      case hy1 =>
        refine Or.inl ⟨by rfl, ?_⟩
        intro w' hSw
        obtain ⟨⟨o0, o1, o2, o3⟩, _, oz⟩ := (H8.out.1.call hSw).facts
        obtain ⟨⟨m0, m1, m2, m3⟩, _, mz⟩ := (H8.out.2.1.call hSw).facts
        obtain ⟨⟨x0, x1, x2, x3⟩, _, xz⟩ := (H8.out.2.2.1.call hSw).facts
        clear hSw
        go_simp
        try with_reducible rfl
      simp only [Act.put, List.setIfInBounds_toArray, List.set_cons_zero, List.set_cons_succ]
      refine wpAnyN_takeF (i := 2) (oi := ?o2) (v := ?v2) ?hi2 (by kernel_rfl) (by kernel_rfl) (by kernel_rfl) (by decide) ?hQ2 ?hy2 (Below.drew (Below.refl _ _)) ?more2
      case hi2 => rw [List.getElem?_toArray]; exact rfl
      case hQ2 => exact fun _ _ _ h => h
      case hy2 =>
        refine Or.inl ⟨by rfl, ?_⟩
        intro w' hSw
        clear hSw
        go_simp
        try with_reducible rfl
      simp only [Act.put, List.setIfInBounds_toArray, List.set_cons_zero, List.set_cons_succ]
      refine wpAnyN_take (i := 3) (oi := ?o3) (v := ?v3) ?hi3 (by kernel_rfl) (by kernel_rfl) (by kernel_rfl) (by kernel_rfl) (by decide) (by kernel_rfl) ?hQ3 ?hy3 (Below.drew (Below.refl _ _)) ?more3
      case hi3 => rw [List.getElem?_toArray]; exact rfl
      case hQ3 => exact fun _ _ _ h => h
      case hy3 =>
        refine Or.inl ⟨by rfl, ?_⟩
        intro w' hSw
        obtain ⟨⟨o0, o1, o2, o3⟩, _, oz⟩ := (H8.out.1.call hSw).facts
        obtain ⟨⟨m0, m1, m2, m3⟩, _, mz⟩ := (H8.out.2.1.call hSw).facts
        obtain ⟨⟨x0, x1, x2, x3⟩, _, xz⟩ := (H8.out.2.2.1.call hSw).facts
        clear hSw
        go_simp
        try with_reducible rfl
      simp only [Act.put, List.setIfInBounds_toArray, List.set_cons_zero, List.set_cons_succ]
      refine wpAnyN_take (i := 4) (oi := ?o4) (v := ?v4) ?hi4 (by kernel_rfl) (by kernel_rfl) (by kernel_rfl) (by kernel_rfl) (by decide) (by kernel_rfl) ?hQ4 ?hy4 (Below.drew (Below.refl _ _)) ?more4
      case hi4 => rw [List.getElem?_toArray]; exact rfl
      case hQ4 => exact fun _ _ _ h => h
      case hy4 =>
        refine Or.inl ⟨by rfl, ?_⟩
        intro w' hSw
        obtain ⟨⟨o0, o1, o2, o3⟩, _, oz⟩ := (H8.out.1.call hSw).facts
        obtain ⟨⟨m0, m1, m2, m3⟩, _, mz⟩ := (H8.out.2.1.call hSw).facts
        obtain ⟨⟨x0, x1, x2, x3⟩, _, xz⟩ := (H8.out.2.2.1.call hSw).facts
        clear hSw
        go_simp
        try with_reducible rfl
      simp only [Act.put, List.setIfInBounds_toArray, List.set_cons_zero, List.set_cons_succ]
      refine wpAnyN_one (i := 5) (o := ?o5) (by kernel_rfl) ?hi5 ?hw5 ?st5
      case hi5 => rw [List.getElem?_toArray]; exact rfl
      case hw5 => exact rfl
      intro K hK
      have HK5 : Hid _ := hK
      clear hK
      go_simp
      refine (KP.out _ (FieldB.drew H8.out.2.2.2.1)).mono ?_
      rintro e w6 ⟨rfl, hq⟩
      have H6 : Hid (Below w8.heap.size w8 w6) := below_call0 (Below.drew (Below.refl _ _)) hq
      clear hq
      go_wp2_with fail
      refine HK5.out _ _ ⟨fun _ => H6.out, ?_⟩
      clear HK5 K
      try simp only [Act.put, List.setIfInBounds_toArray, List.set_cons_zero, List.set_cons_succ]
      refine wpAnyN_one (i := 6) (o := ?o6) (by kernel_rfl) ?hi6 ?hw6 ?st6
      case hi6 => rw [List.getElem?_toArray]; exact rfl
      case hw6 => exact rfl
      intro K hK
      have HK6 : Hid _ := hK
      clear hK
      go_simp
      refine (KT.out _ (H8.out.2.2.2.1.call H6.out)).mono ?_
      rintro e w7 ⟨rfl, hq⟩
      have H7 : Hid (Below w8.heap.size w8 w7) := below_call0 H6.out hq
      obtain ⟨⟨o0, o1, o2, o3⟩, ⟨f0, f1, f2, f3⟩, oz⟩ := (H8.out.1.call H7.out).facts
      clear hq
      go_wp2_with fail
      refine HK6.out _ _ ⟨fun _ => H7.out, ?_⟩
      clear HK6 K
      try simp only [Act.put, List.setIfInBounds_toArray, List.set_cons_zero, List.set_cons_succ]
      refine wpAnyN_one (i := 7) (o := ?o7) (by kernel_rfl) ?hi7 ?hw7 ?st7
      case hi7 => rw [List.getElem?_toArray]; exact rfl
      case hw7 => exact rfl
      intro K hK
      have HK7 : Hid _ := hK
      clear hK
      go_simp
      refine HK7.out _ _ ⟨fun h => absurd h (by decide +kernel), ?_⟩
      clear HK7 K
      try simp only [Act.put, List.setIfInBounds_toArray, List.set_cons_zero, List.set_cons_succ]
      refine wpAnyN_done (by kernel_rfl) ?_ _
      have HE : Hid (Own4 ((((w7.setCell ⟨w2.heap.size, 0, none⟩ (.int .u64 (limb u 0 : Nat))).setCell ⟨w2.heap.size, 1, none⟩ (.int .u64 (limb u 1 : Nat))).setCell ⟨w2.heap.size, 2, none⟩ (.int .u64 (limb u 2 : Nat))).setCell ⟨w2.heap.size, 3, none⟩ (.int .u64 (limb u 3 : Nat))) w2.heap.size (gapN QQ x 1 (l.take (k + 1))) ∧ Below w2.heap.size w2 ((((w7.setCell ⟨w2.heap.size, 0, none⟩ (.int .u64 (limb u 0 : Nat))).setCell ⟨w2.heap.size, 1, none⟩ (.int .u64 (limb u 1 : Nat))).setCell ⟨w2.heap.size, 2, none⟩ (.int .u64 (limb u 2 : Nat))).setCell ⟨w2.heap.size, 3, none⟩ (.int .u64 (limb u 3 : Nat)))) := by
        refine ⟨?_, ?_⟩
        · rw [← HU.out]; exact (H8.out.1.call H7.out).put
        · exact Below.setCell (Below.setCell (Below.setCell (Below.setCell (below_call0 H8.out.2.2.2.2 H7.out) (Nat.le_refl _) _) (Nat.le_refl _) _) (Nat.le_refl _) _) (Nat.le_refl _) _
      clear o0 o1 o2 o3 f0 f1 f2 f3 oz
      go_wp2_with fail
      go_roundw
      case rel => first | exact ⟨k + 1, hlt, by go_num, HE.out⟩ | ((repeat apply Exists.intro); exact ⟨⟨k + 1, hlt, by go_num, HE.out⟩, rfl⟩)
      case measure => simp [intOf]; omega
    · obtain rfl : k = n := by omega
      have hnl : ¬ ((k : Int) < (k : Int)) := Int.lt_irrefl _
      have HVV : Hid (v = V) := by
        have e1 : l.take k = l := List.take_of_length_le (by rw [← HL.out.1]; exact Nat.le_refl _)
        rw [HR.out.2.2, e1, ← HL.out.2.2.2.2.2]; rfl
      clear hlt hk
      go_wp2_with fail
      refine HKr.out _ _ ?_
      clear HKr
      obtain ⟨⟨o0, o1, o2, o3⟩, _, oz⟩ := HR.out.1.facts
      rw [HVV.out] at o0 o1 o2 o3
      obtain ⟨⟨s0, s1, s2, s3⟩, ⟨t0, t1, t2, t3⟩, sz⟩ := (H2.out.2.1.call HR.out.2.1).facts
      go_wp2_with fail
      refine bodyPost_ret (v := .agg #[.int .u64 (limb (V) 0 : Nat), .int .u64 (limb (V) 1 : Nat), .int .u64 (limb (V) 2 : Nat), .int .u64 (limb (V) 3 : Nat)]) ?_ rfl ⟨rfl, ?_⟩
      · simp [results, Tryd.results54, go_sem, s0, s1, s2, s3]
      · have HW := below_call0 H2.out.2.2.1 HR.out.2.1
        ((repeat' (first | with_reducible exact HW | with_reducible exact Below.refl _ _ | exact (And.left (by assumption)) | with_reducible refine Below.setCell ?_ ?_ _ | with_reducible refine below_alloc0 ?_ _ | with_reducible refine below_drewN ?_ _ | with_reducible refine Below.drew ?_ | refine below_call0 ?_ (by assumption))) <;> (first | omega | (simp; done) | (simp; omega)))
end Go.Proofs.YtcdiehnkknmbeaaDoor

namespace Go.Proofs.YtcdiehnkknmbeaaDoor
open Go Go.RowKit Go.Lib

theorem z4_num' : z4 = .agg #[.int .u64 (limb (0) 0 : Nat), .int .u64 (limb (0) 1 : Nat), .int .u64 (limb (0) 2 : Nat), .int .u64 (limb (0) 3 : Nat)] := by rw [limb_nought, limb_nought, limb_nought, limb_nought]; rfl
theorem negN_eq (o : Nat) : negN o = (QQ - o) % QQ := by unfold negN subM; rw [Nat.zero_add]
theorem negs_eq (l : List Int) (i : Nat) : negs l i = (othI l i).map fun o => (QQ - o) % QQ := by
  unfold negs
  exact List.map_congr_left fun o _ => negN_eq o
theorem negs_lt (l : List Int) (i : Nat) : ∀ z ∈ negs l i, z < QQ := fun z hz => by
  rw [negs_eq] at hz
  obtain ⟨o, _, rfl⟩ := List.mem_map.1 hz
  exact Nat.mod_lt _ QQ_pos
def invQ (b : Nat) : Nat := b ^ (QQ - 2) % QQ
theorem finv_all (g b : Nat) (hb : b < QQ) (w : World) (hM : FieldB w g QQ) :
    Calls Tryd.prog 55 #[.pointer (some ⟨g, 0, none⟩), .agg #[.int .u64 (limb (b) 0 : Nat), .int .u64 (limb (b) 1 : Nat), .int .u64 (limb (b) 2 : Nat), .int .u64 (limb (b) 3 : Nat)]] w fun e w' => (∃ ec, e = .returned (.tuple #[.agg #[.int .u64 (limb (invQ b) 0 : Nat), .int .u64 (limb (invQ b) 1 : Nat), .int .u64 (limb (invQ b) 2 : Nat), .int .u64 (limb (invQ b) 3 : Nat)], .int .i64 ec])) ∧ Below w.heap.size w w' := by
  by_cases h0 : b = 0
  · have e0 : ∀ E, 0 < E → b ^ E % QQ = 0 := fun E hE => by rw [h0, Nat.zero_pow hE, Nat.zero_mod]
    have e : invQ b = 0 := e0 (QQ - 2) (by decide)
    rw [e, h0, ← z4_num']
    exact (finv_zero g QQ FM_Q w hM).mono fun e w' h => ⟨⟨21, h.1⟩, h.2⟩
  · exact (finv_in g QQ b (invQ b) FM_Q hb h0 rfl w hM).mono fun e w' h => ⟨⟨0, h.1⟩, h.2⟩
theorem cw_eq (x y : Nat) (l : List Int) (i : Nat) : cwN QQ x y (othI l i) = gapN QQ x 1 (negs l i) * invQ (gapN QQ y 1 (negs l i)) % QQ := by
  rw [negs_eq]; rfl
set_option maxRecDepth 100000 in
set_option maxHeartbeats 8000000 in
theorem weight_any (g i x : Nat) (a : Option Addr) (l : List Int) (c y : Nat) (hl : l.length ≤ 10) (hi : i < l.length) (hP : NodesP l) (hy : (y : Int) = (l[i]'hi)) (hx : x < QQ) (w : World) (hM : FieldB w g QQ) (hN : IntsAt w a l) :
    Calls Tryd.prog 41 #[.agg #[.pointer (some ⟨g, 0, none⟩)], .slice a l.length c, .int .i64 (i : Nat), .agg #[.int .u64 (limb (x) 0 : Nat), .int .u64 (limb (x) 1 : Nat), .int .u64 (limb (x) 2 : Nat), .int .u64 (limb (x) 3 : Nat)]] w fun e w' => e = .returned (.agg #[.int .u64 (limb (cwN QQ x y (othI l i)) 0 : Nat), .int .u64 (limb (cwN QQ x y (othI l i)) 1 : Nat), .int .u64 (limb (cwN QQ x y (othI l i)) 2 : Nat), .int .u64 (limb (cwN QQ x y (othI l i)) 3 : Nat)]) ∧ Below w.heap.size w w' := by
  have hz1 := hP.1 _ (List.getElem_mem hi)
  have yq : y < QQ := Nat.lt_of_le_of_lt (show y ≤ 10 by omega) (by decide)
  obtain ⟨p, o, rfl, c0, pz⟩ := hN.get hi
  rw [← hy] at c0
  have k1 := fun w hM hN => others_any g i (some ⟨p, o, none⟩) l c hl hi hP w hM hN
  obtain ⟨n, hn⟩ : ∃ n, n = l.length := ⟨_, rfl⟩
  rw [← hn] at k1
  rw [← hn]
  have K1 : Hid _ := k1
  rw [cw_eq]
  obtain ⟨ns, hns⟩ : ∃ ns, ns = negs l i := ⟨_, rfl⟩
  have hlt' : (i : Int) < (n : Int) := by omega
  have HNS : Hid (ns = negs l i ∧ (∀ z ∈ ns, z < QQ) ∧ ns.length ≤ 1000000) := ⟨hns, by rw [hns]; exact negs_lt l i, by rw [hns]; have := negs_length l i; omega⟩
  rw [← hns]
  obtain ⟨t, ht⟩ : ∃ t, t = gapN QQ x 1 ns := ⟨_, rfl⟩
  obtain ⟨b, hb⟩ : ∃ b, b = gapN QQ y 1 ns := ⟨_, rfl⟩
  obtain ⟨v, hv⟩ : ∃ v, v = invQ b := ⟨_, rfl⟩
  obtain ⟨V, hV⟩ : ∃ V, V = t * v % QQ := ⟨_, rfl⟩
  rw [← ht, ← hb, ← hv, ← hV]
  have tq : t < QQ := by rw [ht]; exact gapN_lt _ _ QQ_pos _ _ FM_Q.pos
  have bq : b < QQ := by rw [hb]; exact gapN_lt _ _ QQ_pos _ _ FM_Q.pos
  have vq : v < QQ := by rw [hv]; exact Nat.mod_lt _ QQ_pos
  have KG : Hid (∀ (a2 : Option Addr) (c2 : Nat) (w : World), FieldB w g QQ → Nums w a2 ns → Calls Tryd.prog 54 #[.func (.func 34) #[.agg #[.pointer (some ⟨g, 0, none⟩)]] #[], .func (.func 35) #[.agg #[.pointer (some ⟨g, 0, none⟩)]] #[], .agg #[.int .u64 (limb (x) 0 : Nat), .int .u64 (limb (x) 1 : Nat), .int .u64 (limb (x) 2 : Nat), .int .u64 (limb (x) 3 : Nat)], .slice a2 ns.length c2] w fun e w' => e = .returned (.agg #[.int .u64 (limb (t) 0 : Nat), .int .u64 (limb (t) 1 : Nat), .int .u64 (limb (t) 2 : Nat), .int .u64 (limb (t) 3 : Nat)]) ∧ Below w.heap.size w w') := fun a2 c2 w h1 h2 => by rw [ht]; exact gaps_any g x a2 ns c2 HNS.out.2.2 hx HNS.out.2.1 w h1 h2
  have KB : Hid (∀ (a2 : Option Addr) (c2 : Nat) (w : World), FieldB w g QQ → Nums w a2 ns → Calls Tryd.prog 54 #[.func (.func 34) #[.agg #[.pointer (some ⟨g, 0, none⟩)]] #[], .func (.func 35) #[.agg #[.pointer (some ⟨g, 0, none⟩)]] #[], .agg #[.int .u64 (limb (y) 0 : Nat), .int .u64 (limb (y) 1 : Nat), .int .u64 (limb (y) 2 : Nat), .int .u64 (limb (y) 3 : Nat)], .slice a2 ns.length c2] w fun e w' => e = .returned (.agg #[.int .u64 (limb (b) 0 : Nat), .int .u64 (limb (b) 1 : Nat), .int .u64 (limb (b) 2 : Nat), .int .u64 (limb (b) 3 : Nat)]) ∧ Below w.heap.size w w') := fun a2 c2 w h1 h2 => by rw [hb]; exact gaps_any g y a2 ns c2 HNS.out.2.2 yq HNS.out.2.1 w h1 h2
  have KS : Hid (∀ w, Calls Tryd.prog 39 #[.int .i64 (y : Nat)] w fun e w' => e = .returned (.agg #[.int .u64 (limb (y) 0 : Nat), .int .u64 (limb (y) 1 : Nat), .int .u64 (limb (y) 2 : Nat), .int .u64 (limb (y) 3 : Nat)]) ∧ Below w.heap.size w w') := fun w => scalar_any y (by omega) w
  have KI : Hid (∀ w, FieldB w g QQ → Calls Tryd.prog 55 #[.pointer (some ⟨g, 0, none⟩), .agg #[.int .u64 (limb (b) 0 : Nat), .int .u64 (limb (b) 1 : Nat), .int .u64 (limb (b) 2 : Nat), .int .u64 (limb (b) 3 : Nat)]] w fun e w' => (∃ ec, e = .returned (.tuple #[.agg #[.int .u64 (limb (v) 0 : Nat), .int .u64 (limb (v) 1 : Nat), .int .u64 (limb (v) 2 : Nat), .int .u64 (limb (v) 3 : Nat)], .int .i64 ec])) ∧ Below w.heap.size w w') := fun w h => by rw [hv]; exact finv_all g b bq w h
  have KT : Hid (∀ w, FieldB w g QQ → Calls Tryd.prog 35 #[.agg #[.pointer (some ⟨g, 0, none⟩)], .agg #[.int .u64 (limb (t) 0 : Nat), .int .u64 (limb (t) 1 : Nat), .int .u64 (limb (t) 2 : Nat), .int .u64 (limb (t) 3 : Nat)], .agg #[.int .u64 (limb (v) 0 : Nat), .int .u64 (limb (v) 1 : Nat), .int .u64 (limb (v) 2 : Nat), .int .u64 (limb (v) 3 : Nat)]] w fun e w' => e = .returned (.agg #[.int .u64 (limb (V) 0 : Nat), .int .u64 (limb (V) 1 : Nat), .int .u64 (limb (V) 2 : Nat), .int .u64 (limb (V) 3 : Nat)]) ∧ Below w.heap.size w w') := fun w h => by rw [hV]; exact rtimes_any g t v tq vq w h
  have H0 : Hid (FieldB w g QQ ∧ IntsAt w (some ⟨p, o, none⟩) l ∧ w.cell? ⟨p, o + i, none⟩ = some (.int .i64 (y : Nat)) ∧ p < w.heap.size) := ⟨hM, hN, c0, pz⟩
  clear hl hi hP hy hx hM hN hz1 yq c0 pz k1 hn hns ht hb hv hV tq bq vq
  obtain ⟨wb, hwb⟩ : ∃ y, y = ((w.alloc (.cells #[.pointer (some ⟨g, 0, none⟩)] 67)).alloc (.cells #[.int .u64 (limb x 0 : Nat), .int .u64 (limb x 1 : Nat), .int .u64 (limb x 2 : Nat), .int .u64 (limb x 3 : Nat)] 25)).alloc (.cells #[.int .u64 0, .int .u64 0, .int .u64 0, .int .u64 0] 25) := ⟨_, rfl⟩
  have HB : Hid (Ptr1 wb w.heap.size g ∧ Own4 wb (w.heap.size + 1) x ∧ Pend wb (w.heap.size + 1 + 1) ∧ Below w.heap.size w wb) := by
    rw [hwb]
    exact ⟨(Ptr1.new _ _ _).alloc.alloc, (Own4.new' (by simp)).alloc, Pend.new' (by simp), below_alloc0 (below_alloc0 (below_alloc0 (Below.refl _ _) _) _) _⟩
  go_enter Tryd.func41, Tryd.ntmps41
  go_wp2_with fail
  rw [← hwb]
  refine (K1.out _ (H0.out.1.call HB.out.2.2.2) (H0.out.2.1.call HB.out.2.2.2)).mono ?_
  rintro e w1 ⟨a2, c2, rfl, hR1, hb1⟩
  rw [← HNS.out.1] at hR1
  rw [← HNS.out.1]
  have H1 : Hid (Ptr1 w1 w.heap.size g ∧ Own4 w1 (w.heap.size + 1) x ∧ Pend w1 (w.heap.size + 1 + 1) ∧ Below w.heap.size w w1 ∧ Nums w1 a2 ns) := ⟨HB.out.1.call hb1, HB.out.2.1.call hb1, HB.out.2.2.1.call hb1, below_call0 HB.out.2.2.2 hb1, hR1.nums⟩
  clear hR1 hb1 hwb
  obtain ⟨⟨x0, x1, x2, x3⟩, _, xz⟩ := H1.out.2.1.facts
  obtain ⟨r0, rz⟩ := H1.out.1
  go_wp2_with fail
  refine (KG.out _ _ _ (H0.out.1.call H1.out.2.2.2.1) H1.out.2.2.2.2).mono ?_
  rintro e w2 ⟨rfl, hb2⟩
  obtain ⟨w3, hw3⟩ : ∃ y, y = w2.alloc (.cells #[.int .u64 (limb t 0 : Nat), .int .u64 (limb t 1 : Nat), .int .u64 (limb t 2 : Nat), .int .u64 (limb t 3 : Nat)] 25) := ⟨_, rfl⟩
  have H3 : Hid (Ptr1 w3 w.heap.size g ∧ Pend w3 (w.heap.size + 1 + 1) ∧ Below w.heap.size w w3 ∧ Nums w3 a2 ns ∧ Own4 w3 w2.heap.size t ∧ FieldB w3 g QQ ∧ (w3.cell? ⟨p, o + i, none⟩ = some (.int .i64 (y : Nat)) ∧ p < w3.heap.size)) := by
    rw [hw3]
    have hB : Below w.heap.size w (w2.alloc (.cells #[.int .u64 (limb t 0 : Nat), .int .u64 (limb t 1 : Nat), .int .u64 (limb t 2 : Nat), .int .u64 (limb t 3 : Nat)] 25)) := below_alloc0 (below_call0 H1.out.2.2.2.1 hb2) _
    exact ⟨(H1.out.1.call hb2).alloc, (H1.out.2.2.1.call hb2).alloc, hB, (H1.out.2.2.2.2.call hb2).alloc, Own4.new _ _ _, H0.out.1.call hB, (hB.cell (p := ⟨p, o + i, none⟩) H0.out.2.2.2).trans H0.out.2.2.1, Nat.lt_of_lt_of_le H0.out.2.2.2 hB.size⟩
  clear hb2 x0 x1 x2 x3 xz r0 rz
  go_wp2_with fail
  rw [← hw3]
  clear hw3
  refine wp_region_N (fun w' => Below w3.heap.size w3 w') 12 13 rfl (by kernel_rfl) ?_
  refine wpAnyN_take (i := 0) (oi := ?o0) (v := ?v0) ?hi0 (by kernel_rfl) (by kernel_rfl) (by kernel_rfl) (by kernel_rfl) (by decide) (by kernel_rfl) ?hQ0 ?hy0 (Below.drew (Below.refl _ _)) ?more0
  case hi0 => rw [List.getElem?_toArray]; exact rfl
  case hQ0 => exact fun _ _ _ h => h
  case hy0 =>
    refine Or.inl ⟨by rfl, ?_⟩
    intro w' hSw
    obtain ⟨r0, rz⟩ := H3.out.1.call hSw
    have hc : w'.cell? ⟨p, o + i, none⟩ = some (.int .i64 (y : Nat)) := (hSw.cell (p := ⟨p, o + i, none⟩) H3.out.2.2.2.2.2.2.2).trans H3.out.2.2.2.2.2.2.1
    clear hSw
    go_simp
    try with_reducible rfl
  simp only [Act.put, List.setIfInBounds_toArray, List.set_cons_zero, List.set_cons_succ]
  refine wpAnyN_take (i := 1) (oi := ?o1) (v := ?v1) ?hi1 (by kernel_rfl) (by kernel_rfl) (by kernel_rfl) (by kernel_rfl) (by decide) (by kernel_rfl) ?hQ1 ?hy1 (Below.drew (Below.refl _ _)) ?more1
  case hi1 => rw [List.getElem?_toArray]; exact rfl
  case hQ1 => exact fun _ _ _ h => h
  case hy1 =>
    refine Or.inl ⟨by rfl, ?_⟩
    intro w' hSw
    obtain ⟨r0, rz⟩ := H3.out.1.call hSw
    have hc : w'.cell? ⟨p, o + i, none⟩ = some (.int .i64 (y : Nat)) := (hSw.cell (p := ⟨p, o + i, none⟩) H3.out.2.2.2.2.2.2.2).trans H3.out.2.2.2.2.2.2.1
    clear hSw
    go_simp
    try with_reducible rfl
  simp only [Act.put, List.setIfInBounds_toArray, List.set_cons_zero, List.set_cons_succ]
  refine wpAnyN_take (i := 2) (oi := ?o2) (v := ?v2) ?hi2 (by kernel_rfl) (by kernel_rfl) (by kernel_rfl) (by kernel_rfl) (by decide) (by kernel_rfl) ?hQ2 ?hy2 (Below.drew (Below.refl _ _)) ?more2
  case hi2 => rw [List.getElem?_toArray]; exact rfl
  case hQ2 => exact fun _ _ _ h => h
  case hy2 =>
    refine Or.inl ⟨by rfl, ?_⟩
    intro w' hSw
    obtain ⟨r0, rz⟩ := H3.out.1.call hSw
    have hc : w'.cell? ⟨p, o + i, none⟩ = some (.int .i64 (y : Nat)) := (hSw.cell (p := ⟨p, o + i, none⟩) H3.out.2.2.2.2.2.2.2).trans H3.out.2.2.2.2.2.2.1
    clear hSw
    go_simp
    try with_reducible rfl
  simp only [Act.put, List.setIfInBounds_toArray, List.set_cons_zero, List.set_cons_succ]
  refine wpAnyN_take (i := 3) (oi := ?o3) (v := ?v3) ?hi3 (by kernel_rfl) (by kernel_rfl) (by kernel_rfl) (by kernel_rfl) (by decide) (by kernel_rfl) ?hQ3 ?hy3 (Below.drew (Below.refl _ _)) ?more3
  case hi3 => rw [List.getElem?_toArray]; exact rfl
  case hQ3 => exact fun _ _ _ h => h
  case hy3 =>
    refine Or.inl ⟨by rfl, ?_⟩
    intro w' hSw
    obtain ⟨r0, rz⟩ := H3.out.1.call hSw
    have hc : w'.cell? ⟨p, o + i, none⟩ = some (.int .i64 (y : Nat)) := (hSw.cell (p := ⟨p, o + i, none⟩) H3.out.2.2.2.2.2.2.2).trans H3.out.2.2.2.2.2.2.1
    clear hSw
    go_simp
    try with_reducible rfl
  simp only [Act.put, List.setIfInBounds_toArray, List.set_cons_zero, List.set_cons_succ]
  refine wpAnyN_takeF (i := 4) (oi := ?o4) (v := ?v4) ?hi4 (by kernel_rfl) (by kernel_rfl) (by kernel_rfl) (by decide) ?hQ4 ?hy4 (Below.drew (Below.refl _ _)) ?more4
  case hi4 => rw [List.getElem?_toArray]; exact rfl
  case hQ4 => exact fun _ _ _ h => h
  case hy4 =>
    refine Or.inl ⟨by rfl, ?_⟩
    intro w' hSw
    clear hSw
    go_simp
    try with_reducible rfl
  simp only [Act.put, List.setIfInBounds_toArray, List.set_cons_zero, List.set_cons_succ]
  refine wpAnyN_takeF (i := 5) (oi := ?o5) (v := ?v5) ?hi5 (by kernel_rfl) (by kernel_rfl) (by kernel_rfl) (by decide) ?hQ5 ?hy5 (Below.drew (Below.refl _ _)) ?more5
  case hi5 => rw [List.getElem?_toArray]; exact rfl
  case hQ5 => exact fun _ _ _ h => h
  case hy5 =>
    refine Or.inl ⟨by rfl, ?_⟩
    intro w' hSw
    clear hSw
    go_simp
    try with_reducible rfl
  simp only [Act.put, List.setIfInBounds_toArray, List.set_cons_zero, List.set_cons_succ]
  refine wpAnyN_takeF (i := 6) (oi := ?o6) (v := ?v6) ?hi6 (by kernel_rfl) (by kernel_rfl) (by kernel_rfl) (by decide) ?hQ6 ?hy6 (Below.drew (Below.refl _ _)) ?more6
  case hi6 => rw [List.getElem?_toArray]; exact rfl
  case hQ6 => exact fun _ _ _ h => h
  case hy6 =>
    refine Or.inl ⟨by rfl, ?_⟩
    intro w' hSw
    clear hSw
    go_simp
    try with_reducible rfl
  simp only [Act.put, List.setIfInBounds_toArray, List.set_cons_zero, List.set_cons_succ]
  refine wpAnyN_take (i := 7) (oi := ?o7) (v := ?v7) ?hi7 (by kernel_rfl) (by kernel_rfl) (by kernel_rfl) (by kernel_rfl) (by decide) (by kernel_rfl) ?hQ7 ?hy7 (Below.drew (Below.refl _ _)) ?more7
  case hi7 => rw [List.getElem?_toArray]; exact rfl
  case hQ7 => exact fun _ _ _ h => h
  case hy7 =>
    refine Or.inl ⟨by rfl, ?_⟩
    intro w' hSw
    obtain ⟨r0, rz⟩ := H3.out.1.call hSw
    have hc : w'.cell? ⟨p, o + i, none⟩ = some (.int .i64 (y : Nat)) := (hSw.cell (p := ⟨p, o + i, none⟩) H3.out.2.2.2.2.2.2.2).trans H3.out.2.2.2.2.2.2.1
    clear hSw
    go_simp
    try with_reducible rfl
  simp only [Act.put, List.setIfInBounds_toArray, List.set_cons_zero, List.set_cons_succ]
  refine wpAnyN_takeF (i := 9) (oi := ?o9) (v := ?v9) ?hi9 (by kernel_rfl) (by kernel_rfl) (by kernel_rfl) (by decide) ?hQ9 ?hy9 (Below.drew (Below.refl _ _)) ?more9
  case hi9 => rw [List.getElem?_toArray]; exact rfl
  case hQ9 => exact fun _ _ _ h => h
  case hy9 =>
    refine Or.inl ⟨by rfl, ?_⟩
    intro w' hSw
    clear hSw
    go_simp
    try with_reducible rfl
  simp only [Act.put, List.setIfInBounds_toArray, List.set_cons_zero, List.set_cons_succ]
  refine wpAnyN_two (i := 8) (j := 11) (o := ?o8x1) (p := ?o11x1) (by kernel_rfl) ?hi8x1 ?hi11x1 ?hw8x1 ?hw11x1 ?st8x1 ?st11x1
  case hi8x1 => rw [List.getElem?_toArray]; exact rfl
  case hw8x1 => exact rfl
  case hi11x1 => rw [List.getElem?_toArray]; exact rfl
  case hw11x1 => exact rfl
  case st8x1 =>
    intro K hK
    have HK8y2 : Hid _ := hK
    clear hK
    go_simp
    refine (KS.out _).mono ?_
    rintro e w8y2 ⟨rfl, hq⟩
    have H8y2 : Hid (Below w3.heap.size w3 w8y2) := below_call0 (Below.drew (Below.refl _ _)) hq
    clear hq
    go_wp2_with fail
    refine HK8y2.out _ _ ⟨fun _ => H8y2.out, ?_⟩
    clear HK8y2 K
    try simp only [Act.put, List.setIfInBounds_toArray, List.set_cons_zero, List.set_cons_succ]
    refine wpAnyN_two (i := 10) (j := 11) (o := ?o10y2x3) (p := ?o11y2x3) (by kernel_rfl) ?hi10y2x3 ?hi11y2x3 ?hw10y2x3 ?hw11y2x3 ?st10y2x3 ?st11y2x3
    case hi10y2x3 => rw [List.getElem?_toArray]; exact rfl
    case hw10y2x3 => exact rfl
    case hi11y2x3 => rw [List.getElem?_toArray]; exact rfl
    case hw11y2x3 => exact rfl
    case st10y2x3 =>
      intro K hK
      have HK10y4 : Hid _ := hK
      clear hK
      go_simp
      refine (KB.out _ _ _ (H3.out.2.2.2.2.2.1.call H8y2.out) (H3.out.2.2.2.1.call H8y2.out)).mono ?_
      rintro e w10y4 ⟨rfl, hq⟩
      have H10y4 : Hid (Below w3.heap.size w3 w10y4) := below_call0 H8y2.out hq
      clear hq
      go_wp2_with fail
      refine HK10y4.out _ _ ⟨fun _ => H10y4.out, ?_⟩
      clear HK10y4 K
      try simp only [Act.put, List.setIfInBounds_toArray, List.set_cons_zero, List.set_cons_succ]
      refine wpAnyN_one (i := 11) (o := ?o11y4) (by kernel_rfl) ?hi11y4 ?hw11y4 ?st11y4
      case hi11y4 => rw [List.getElem?_toArray]; exact rfl
      case hw11y4 => exact rfl
      intro K hK
      have HK11y4 : Hid _ := hK
      clear hK
      go_simp
      refine HK11y4.out _ _ ⟨fun _ => (below_alloc0 H10y4.out _), ?_⟩
      clear HK11y4 K
      try simp only [Act.put, List.setIfInBounds_toArray, List.set_cons_zero, List.set_cons_succ]
      refine wpAnyN_one (i := 12) (o := ?o12y4) (by kernel_rfl) ?hi12y4 ?hw12y4 ?st12y4
      case hi12y4 => rw [List.getElem?_toArray]; exact rfl
      case hw12y4 => exact rfl
      intro K hK
      have HK12y4 : Hid _ := hK
      clear hK
      obtain ⟨⟨o0, o1, o2, o3⟩, ⟨f0, f1, f2, f3⟩, oz⟩ := Pend.facts (Pend.new' (W := w10y4) (t := 25) rfl)
      try simp only [World.size_alloc] at o0 o1 o2 o3 f0 f1 f2 f3 oz
      go_simp
      refine HK12y4.out _ _ ⟨fun h => absurd h (by decide +kernel), ?_⟩
      clear HK12y4 K
      try simp only [Act.put, List.setIfInBounds_toArray, List.set_cons_zero, List.set_cons_succ]
      refine wpAnyN_done (by kernel_rfl) ?_ _
      obtain ⟨wS, hwS⟩ : ∃ y, y = w10y4.alloc (.cells #[.int .u64 (limb b 0 : Nat), .int .u64 (limb b 1 : Nat), .int .u64 (limb b 2 : Nat), .int .u64 (limb b 3 : Nat)] 25) := ⟨_, rfl⟩
      have HT : Hid (Own4 wS (w10y4.heap.size) b ∧ Below w3.heap.size w3 wS) := by rw [hwS]; exact ⟨Own4.new' rfl, below_alloc0 H10y4.out _⟩
      rw [← hwS]
      clear hwS o0 o1 o2 o3 f0 f1 f2 f3 oz
      obtain ⟨⟨b0, b1, b2, b3⟩, _, bz⟩ := HT.out.1.facts
      obtain ⟨r0, rz⟩ := H3.out.1.call HT.out.2
      go_wp2_with fail
      refine (KI.out _ (H3.out.2.2.2.2.2.1.call HT.out.2)).mono ?_
      rintro e w20 ⟨⟨ec, rfl⟩, hb20⟩
      obtain ⟨w21, hw21⟩ : ∃ y, y = w20.alloc (.cells #[.int .u64 (limb v 0 : Nat), .int .u64 (limb v 1 : Nat), .int .u64 (limb v 2 : Nat), .int .u64 (limb v 3 : Nat)] 25) := ⟨_, rfl⟩
      have H21 : Hid (Below w3.heap.size w3 w21 ∧ Own4 w21 w20.heap.size v) := by rw [hw21]; exact ⟨below_alloc0 (below_call0 HT.out.2 hb20) _, Own4.new _ _ _⟩
      clear hb20 b0 b1 b2 b3 bz r0 rz
      obtain ⟨⟨t0, t1, t2, t3⟩, _, tz⟩ := (H3.out.2.2.2.2.1.call H21.out.1).facts
      obtain ⟨⟨v0, v1, v2, v3⟩, _, vz⟩ := H21.out.2.facts
      obtain ⟨r0, rz⟩ := H3.out.1.call H21.out.1
      rw [hw21] at t0 t1 t2 t3 tz v0 v1 v2 v3 vz r0 rz
      go_wp2_with fail
      rw [← hw21]
      refine (KT.out _ (H3.out.2.2.2.2.2.1.call H21.out.1)).mono ?_
      rintro e w22 ⟨rfl, hb22⟩
      have HW : Hid (Below w.heap.size w w22) := below_call0 (below_call0 H3.out.2.2.1 H21.out.1) hb22
      obtain ⟨⟨s0, s1, s2, s3⟩, ⟨f0, f1, f2, f3⟩, sz⟩ := ((H3.out.2.1.call H21.out.1).call hb22).facts
      clear hb22 t0 t1 t2 t3 tz v0 v1 v2 v3 vz r0 rz hw21
      go_wp2_with fail
      refine bodyPost_ret (v := .agg #[.int .u64 (limb (V) 0 : Nat), .int .u64 (limb (V) 1 : Nat), .int .u64 (limb (V) 2 : Nat), .int .u64 (limb (V) 3 : Nat)]) ?_ rfl ⟨rfl, ?_⟩
      · simp [results, Tryd.results41, go_sem, s0, s1, s2, s3]
      · have HW := HW.out
        ((repeat' (first | with_reducible exact HW | with_reducible exact Below.refl _ _ | exact (And.left (by assumption)) | with_reducible refine Below.setCell ?_ ?_ _ | with_reducible refine below_alloc0 ?_ _ | with_reducible refine below_drewN ?_ _ | with_reducible refine Below.drew ?_ | refine below_call0 ?_ (by assumption))) <;> (first | omega | (simp; done) | (simp; omega)))
    case st11y2x3 =>
      intro K hK
      have HK11y5 : Hid _ := hK
      clear hK
      go_simp
      refine HK11y5.out _ _ ⟨fun _ => (below_alloc0 H8y2.out _), ?_⟩
      clear HK11y5 K
      try simp only [Act.put, List.setIfInBounds_toArray, List.set_cons_zero, List.set_cons_succ]
      refine wpAnyN_one (i := 10) (o := ?o10y5) (by kernel_rfl) ?hi10y5 ?hw10y5 ?st10y5
      case hi10y5 => rw [List.getElem?_toArray]; exact rfl
      case hw10y5 => exact rfl
      intro K hK
      have HK10y5 : Hid _ := hK
      clear hK
      go_simp
      refine (KB.out _ _ _ (H3.out.2.2.2.2.2.1.call (below_alloc0 H8y2.out _)) (H3.out.2.2.2.1.call (below_alloc0 H8y2.out _))).mono ?_
      rintro e w10y5 ⟨rfl, hq⟩
      have H10y5 : Hid (Below w3.heap.size w3 w10y5) := below_call0 (below_alloc0 H8y2.out _) hq
      have P10y5 : Hid (Pend w10y5 (w8y2.heap.size)) := Pend.call (Pend.new' (W := w8y2) (t := 25) rfl) hq
      clear hq
      go_wp2_with fail
      refine HK10y5.out _ _ ⟨fun _ => H10y5.out, ?_⟩
      clear HK10y5 K
      try simp only [Act.put, List.setIfInBounds_toArray, List.set_cons_zero, List.set_cons_succ]
      refine wpAnyN_one (i := 12) (o := ?o12y5) (by kernel_rfl) ?hi12y5 ?hw12y5 ?st12y5
      case hi12y5 => rw [List.getElem?_toArray]; exact rfl
      case hw12y5 => exact rfl
      intro K hK
      have HK12y5 : Hid _ := hK
      clear hK
      obtain ⟨⟨o0, o1, o2, o3⟩, ⟨f0, f1, f2, f3⟩, oz⟩ := Pend.facts P10y5.out
      try simp only [World.size_alloc] at o0 o1 o2 o3 f0 f1 f2 f3 oz
      go_simp
      refine HK12y5.out _ _ ⟨fun h => absurd h (by decide +kernel), ?_⟩
      clear HK12y5 K
      try simp only [Act.put, List.setIfInBounds_toArray, List.set_cons_zero, List.set_cons_succ]
      refine wpAnyN_done (by kernel_rfl) ?_ _
      obtain ⟨wS, hwS⟩ : ∃ y, y = ((((w10y5.setCell ⟨w8y2.heap.size, 0, none⟩ (.int .u64 (limb b 0 : Nat))).setCell ⟨w8y2.heap.size, 1, none⟩ (.int .u64 (limb b 1 : Nat))).setCell ⟨w8y2.heap.size, 2, none⟩ (.int .u64 (limb b 2 : Nat))).setCell ⟨w8y2.heap.size, 3, none⟩ (.int .u64 (limb b 3 : Nat))) := ⟨_, rfl⟩
      have HT : Hid (Own4 wS (w8y2.heap.size) b ∧ Below w3.heap.size w3 wS) := by rw [hwS]; exact ⟨Pend.own P10y5.out, Below.setCell (Below.setCell (Below.setCell (Below.setCell H10y5.out (Below.size H8y2.out) _) (Below.size H8y2.out) _) (Below.size H8y2.out) _) (Below.size H8y2.out) _⟩
      rw [← hwS]
      clear hwS o0 o1 o2 o3 f0 f1 f2 f3 oz
      obtain ⟨⟨b0, b1, b2, b3⟩, _, bz⟩ := HT.out.1.facts
      obtain ⟨r0, rz⟩ := H3.out.1.call HT.out.2
      go_wp2_with fail
      refine (KI.out _ (H3.out.2.2.2.2.2.1.call HT.out.2)).mono ?_
      rintro e w20 ⟨⟨ec, rfl⟩, hb20⟩
      obtain ⟨w21, hw21⟩ : ∃ y, y = w20.alloc (.cells #[.int .u64 (limb v 0 : Nat), .int .u64 (limb v 1 : Nat), .int .u64 (limb v 2 : Nat), .int .u64 (limb v 3 : Nat)] 25) := ⟨_, rfl⟩
      have H21 : Hid (Below w3.heap.size w3 w21 ∧ Own4 w21 w20.heap.size v) := by rw [hw21]; exact ⟨below_alloc0 (below_call0 HT.out.2 hb20) _, Own4.new _ _ _⟩
      clear hb20 b0 b1 b2 b3 bz r0 rz
      obtain ⟨⟨t0, t1, t2, t3⟩, _, tz⟩ := (H3.out.2.2.2.2.1.call H21.out.1).facts
      obtain ⟨⟨v0, v1, v2, v3⟩, _, vz⟩ := H21.out.2.facts
      obtain ⟨r0, rz⟩ := H3.out.1.call H21.out.1
      rw [hw21] at t0 t1 t2 t3 tz v0 v1 v2 v3 vz r0 rz
      go_wp2_with fail
      rw [← hw21]
      refine (KT.out _ (H3.out.2.2.2.2.2.1.call H21.out.1)).mono ?_
      rintro e w22 ⟨rfl, hb22⟩
      have HW : Hid (Below w.heap.size w w22) := below_call0 (below_call0 H3.out.2.2.1 H21.out.1) hb22
      obtain ⟨⟨s0, s1, s2, s3⟩, ⟨f0, f1, f2, f3⟩, sz⟩ := ((H3.out.2.1.call H21.out.1).call hb22).facts
      clear hb22 t0 t1 t2 t3 tz v0 v1 v2 v3 vz r0 rz hw21
      go_wp2_with fail
      refine bodyPost_ret (v := .agg #[.int .u64 (limb (V) 0 : Nat), .int .u64 (limb (V) 1 : Nat), .int .u64 (limb (V) 2 : Nat), .int .u64 (limb (V) 3 : Nat)]) ?_ rfl ⟨rfl, ?_⟩
      · simp [results, Tryd.results41, go_sem, s0, s1, s2, s3]
      · have HW := HW.out
        ((repeat' (first | with_reducible exact HW | with_reducible exact Below.refl _ _ | exact (And.left (by assumption)) | with_reducible refine Below.setCell ?_ ?_ _ | with_reducible refine below_alloc0 ?_ _ | with_reducible refine below_drewN ?_ _ | with_reducible refine Below.drew ?_ | refine below_call0 ?_ (by assumption))) <;> (first | omega | (simp; done) | (simp; omega)))
  case st11x1 =>
    intro K hK
    have HK11y6 : Hid _ := hK
    clear hK
    go_simp
    refine HK11y6.out _ _ ⟨fun _ => (below_alloc0 (Below.drew (Below.refl _ _)) _), ?_⟩
    clear HK11y6 K
    try simp only [Act.put, List.setIfInBounds_toArray, List.set_cons_zero, List.set_cons_succ]
    refine wpAnyN_one (i := 8) (o := ?o8y6) (by kernel_rfl) ?hi8y6 ?hw8y6 ?st8y6
    case hi8y6 => rw [List.getElem?_toArray]; exact rfl
    case hw8y6 => exact rfl
    intro K hK
    have HK8y6 : Hid _ := hK
    clear hK
    go_simp
    refine (KS.out _).mono ?_
    rintro e w8y6 ⟨rfl, hq⟩
    have H8y6 : Hid (Below w3.heap.size w3 w8y6) := below_call0 (below_alloc0 (Below.drew (Below.refl _ _)) _) hq
    have P8y6 : Hid (Pend w8y6 (w3.heap.size)) := Pend.call (Pend.new' (W := w3.drew) (t := 25) rfl) hq
    clear hq
    go_wp2_with fail
    refine HK8y6.out _ _ ⟨fun _ => H8y6.out, ?_⟩
    clear HK8y6 K
    try simp only [Act.put, List.setIfInBounds_toArray, List.set_cons_zero, List.set_cons_succ]
    refine wpAnyN_one (i := 10) (o := ?o10y6) (by kernel_rfl) ?hi10y6 ?hw10y6 ?st10y6
    case hi10y6 => rw [List.getElem?_toArray]; exact rfl
    case hw10y6 => exact rfl
    intro K hK
    have HK10y6 : Hid _ := hK
    clear hK
    go_simp
    refine (KB.out _ _ _ (H3.out.2.2.2.2.2.1.call H8y6.out) (H3.out.2.2.2.1.call H8y6.out)).mono ?_
    rintro e w10y6 ⟨rfl, hq⟩
    have H10y6 : Hid (Below w3.heap.size w3 w10y6) := below_call0 H8y6.out hq
    have P10y6 : Hid (Pend w10y6 (w3.heap.size)) := Pend.call P8y6.out hq
    clear hq
    go_wp2_with fail
    refine HK10y6.out _ _ ⟨fun _ => H10y6.out, ?_⟩
    clear HK10y6 K
    try simp only [Act.put, List.setIfInBounds_toArray, List.set_cons_zero, List.set_cons_succ]
    refine wpAnyN_one (i := 12) (o := ?o12y6) (by kernel_rfl) ?hi12y6 ?hw12y6 ?st12y6
    case hi12y6 => rw [List.getElem?_toArray]; exact rfl
    case hw12y6 => exact rfl
    intro K hK
    have HK12y6 : Hid _ := hK
    clear hK
    obtain ⟨⟨o0, o1, o2, o3⟩, ⟨f0, f1, f2, f3⟩, oz⟩ := Pend.facts P10y6.out
    try simp only [World.size_alloc] at o0 o1 o2 o3 f0 f1 f2 f3 oz
    go_simp
    refine HK12y6.out _ _ ⟨fun h => absurd h (by decide +kernel), ?_⟩
    clear HK12y6 K
    try simp only [Act.put, List.setIfInBounds_toArray, List.set_cons_zero, List.set_cons_succ]
    refine wpAnyN_done (by kernel_rfl) ?_ _
    obtain ⟨wS, hwS⟩ : ∃ y, y = ((((w10y6.setCell ⟨w3.heap.size, 0, none⟩ (.int .u64 (limb b 0 : Nat))).setCell ⟨w3.heap.size, 1, none⟩ (.int .u64 (limb b 1 : Nat))).setCell ⟨w3.heap.size, 2, none⟩ (.int .u64 (limb b 2 : Nat))).setCell ⟨w3.heap.size, 3, none⟩ (.int .u64 (limb b 3 : Nat))) := ⟨_, rfl⟩
    have HT : Hid (Own4 wS (w3.heap.size) b ∧ Below w3.heap.size w3 wS) := by rw [hwS]; exact ⟨Pend.own P10y6.out, Below.setCell (Below.setCell (Below.setCell (Below.setCell H10y6.out (Nat.le_refl _) _) (Nat.le_refl _) _) (Nat.le_refl _) _) (Nat.le_refl _) _⟩
    rw [← hwS]
    clear hwS o0 o1 o2 o3 f0 f1 f2 f3 oz
    obtain ⟨⟨b0, b1, b2, b3⟩, _, bz⟩ := HT.out.1.facts
    obtain ⟨r0, rz⟩ := H3.out.1.call HT.out.2
    go_wp2_with fail
    refine (KI.out _ (H3.out.2.2.2.2.2.1.call HT.out.2)).mono ?_
    rintro e w20 ⟨⟨ec, rfl⟩, hb20⟩
    obtain ⟨w21, hw21⟩ : ∃ y, y = w20.alloc (.cells #[.int .u64 (limb v 0 : Nat), .int .u64 (limb v 1 : Nat), .int .u64 (limb v 2 : Nat), .int .u64 (limb v 3 : Nat)] 25) := ⟨_, rfl⟩
    have H21 : Hid (Below w3.heap.size w3 w21 ∧ Own4 w21 w20.heap.size v) := by rw [hw21]; exact ⟨below_alloc0 (below_call0 HT.out.2 hb20) _, Own4.new _ _ _⟩
    clear hb20 b0 b1 b2 b3 bz r0 rz
    obtain ⟨⟨t0, t1, t2, t3⟩, _, tz⟩ := (H3.out.2.2.2.2.1.call H21.out.1).facts
    obtain ⟨⟨v0, v1, v2, v3⟩, _, vz⟩ := H21.out.2.facts
    obtain ⟨r0, rz⟩ := H3.out.1.call H21.out.1
    rw [hw21] at t0 t1 t2 t3 tz v0 v1 v2 v3 vz r0 rz
    go_wp2_with fail
    rw [← hw21]
    refine (KT.out _ (H3.out.2.2.2.2.2.1.call H21.out.1)).mono ?_
    rintro e w22 ⟨rfl, hb22⟩
    have HW : Hid (Below w.heap.size w w22) := below_call0 (below_call0 H3.out.2.2.1 H21.out.1) hb22
    obtain ⟨⟨s0, s1, s2, s3⟩, ⟨f0, f1, f2, f3⟩, sz⟩ := ((H3.out.2.1.call H21.out.1).call hb22).facts
    clear hb22 t0 t1 t2 t3 tz v0 v1 v2 v3 vz r0 rz hw21
    go_wp2_with fail
    refine bodyPost_ret (v := .agg #[.int .u64 (limb (V) 0 : Nat), .int .u64 (limb (V) 1 : Nat), .int .u64 (limb (V) 2 : Nat), .int .u64 (limb (V) 3 : Nat)]) ?_ rfl ⟨rfl, ?_⟩
    · simp [results, Tryd.results41, go_sem, s0, s1, s2, s3]
    · have HW := HW.out
      ((repeat' (first | with_reducible exact HW | with_reducible exact Below.refl _ _ | exact (And.left (by assumption)) | with_reducible refine Below.setCell ?_ ?_ _ | with_reducible refine below_alloc0 ?_ _ | with_reducible refine below_drewN ?_ _ | with_reducible refine Below.drew ?_ | refine below_call0 ?_ (by assumption))) <;> (first | omega | (simp; done) | (simp; omega)))
end Go.Proofs.YtcdiehnkknmbeaaDoor
