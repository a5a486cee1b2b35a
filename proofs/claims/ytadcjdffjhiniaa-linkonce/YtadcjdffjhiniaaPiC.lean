/- Numbers' bytes: parcel.Ints, parcel.Int. -/
import Derived.Test.YtadcjdffjhiniaaPiB
namespace Go.Proofs.Ytadcjdffjhiniaa
open Go Go.RowKit Go.Lib

theorem one_cells (x : UInt8) (w : World) (t : TypeId) : ∀ j u, (strCells (one x))[j]? = some u → (w.alloc (.cells #[.int .u8 (x.toNat : Int)] t)).cell? ((⟨w.heap.size, 0, none⟩ : Addr).add j) = some u := fun j u hj => by
  match j, hj with
  | 0, hj => simp [strCells, one] at hj; subst hj; simp [go_sem, Addr.add_lit]
  | j + 1, hj => simp [strCells, one] at hj
theorem one_size (x : UInt8) : (one x).size = 1 := rfl
theorem one_ofL (l : List UInt8) (x : UInt8) : ofL l ++ one x = ofL (l ++ [x]) := ba_ext (by rw [ba_append, ofL_data, ofL_data]; rfl)
set_option maxRecDepth 100000 in
set_option maxHeartbeats 8000000 in
theorem ints_any (a : Option Addr) (l : List Int) (cap : Nat) (w : World) (hS : IntsAt w a l) (hr : ∀ n ∈ l, n < 9223372036854775808) :
    Calls Try.prog 46 #[.slice a l.length cap] w fun e w' => e = .returned (.tuple #[.string (inS l), .int .i64 (inE l)]) ∧ Below w.heap.size w w' := by
  obtain ⟨n, hn⟩ : ∃ n, n = l.length := ⟨_, rfl⟩
  by_cases h1 : 1000 < l.length
  · have h1' : (1000 : Int) < (n : Int) := by omega
    have HF : Hid (_ ∧ _) := in_long h1
    rw [← hn]
    clear hn h1 hS hr
    go_enter Try.func46, Try.ntmps46
    go_wp2_with fail
    go_ret2
    exact ⟨ret_pair' (by rw [HF.out.2]; rfl) (by rw [HF.out.1]; rfl), Below.refl _ _⟩
  obtain ⟨i0, hi, hz0, hz1, hz2⟩ := infoU8'
  have hsz : ∀ w, (Go.sizeOf 5).run Try.prog w = .ok 1 w := fun _ => by kernel_rfl
  have h1' : ¬ ((1000 : Int) < (n : Int)) := by omega
  have n1 : (n : Int) ≤ 1000 := by omega
  have HL : Hid (n = l.length ∧ ¬ 1000 < l.length) := ⟨hn, h1⟩
  have HS : Hid (IntsAt w a l ∧ ∀ n ∈ l, n < 9223372036854775808) := ⟨hS, hr⟩
  rw [← hn]
  clear hn h1 hS hr
  go_enter Try.func46, Try.ntmps46
  go_wp2_with (at_make; refine wpList_make_own _ rfl _ _ 94 rfl w.heap.size 5 i0 (.int .u8 0) 1 Try.underlying94 hi hz0 hz1 .i64 .i64 (8 * (n : Nat)) (8 * n) rfl rfl (by omega) (by rw [hz2]; omega) (by unfold maxLen; omega) (Nat.le_refl _) ?_; intro w1 ho1 hg1; have H1 : Hid (RowB w1 (From w.heap.size) (some ⟨w.heap.size, 0, none⟩) (ofL []) (8 * n) ∧ Below w.heap.size w w1) := ⟨by obtain ⟨a', cap', hv, hR⟩ := RowB.of_owns (bs := ofL []) (P := From w.heap.size) ho1 (fun _ h => h); injection hv with hv1 _ hv2; subst hv1 hv2; exact hR, (Below.refl _ _).grown hg1 (Nat.le_refl _) (fun k hk => by cases hk)⟩; clear ho1 hg1)
  rename_i Kr hKr
  have HKr : Hid _ := hKr
  clear hKr
  go_loopw [4, 17] (fun ov iv wr => ∃ (k m c : Nat) (ao : Option Addr), k ≤ n ∧ iv = .int .i64 (k : Nat) ∧ ov = .slice ao m c ∧ m = (ofL (inL (l.take k))).size ∧ inB (l.take k) = true ∧ RowB wr (From w.heap.size) ao (ofL (inL (l.take k))) c ∧ Below w.heap.size w wr)
    (fun _ iv _ => n - (Go.RowKit.intOf iv).toNat)
  case atStart => exact ⟨0, 0, 8 * n, _, Nat.zero_le _, rfl, rfl, rfl, rfl, H1.out.1, H1.out.2⟩
  case round =>
    obtain ⟨k, m, c, ao, hk, rfl, rfl, hm, hok, hR, hB⟩ := hrel
    rename World => wr
    clear H1
    have HB : Hid (m = (ofL (inL (l.take k))).size ∧ inB (l.take k) = true ∧ RowB wr (From w.heap.size) ao (ofL (inL (l.take k))) c ∧ Below w.heap.size w wr) := ⟨hm, hok, hR, hB⟩
    clear hm hok hR hB
    by_cases hlt : k < n
    · clear HKr
      have hkl : k < l.length := by rw [← HL.out.1]; exact hlt
      obtain ⟨p, o, rfl, hc, hp⟩ := HS.out.1.get hkl
      obtain ⟨x, hx⟩ : ∃ x, x = (l[k]'hkl) := ⟨_, rfl⟩
      rw [← hx] at hc
      have hc' : wr.cell? ⟨p, o + k, none⟩ = some (.int .i64 x) := (HB.out.2.2.2.cell (p := ⟨p, o + k, none⟩) hp).trans hc
      have hlt' : (k : Int) < (n : Int) := Int.ofNat_lt.2 hlt
      have hd : decide ((k : Int) < (n : Int)) = true := decide_eq_true hlt'
      by_cases h0 : x < 0
      · have HF : Hid (_ ∧ _) := in_neg HL.out.2 (inB_false hkl (by rw [← hx]; exact h0))
        clear hx hc hp hlt
        go_wp2_with fail
        go_ret2
        exact ⟨ret_pair' (by rw [HF.out.2]; rfl) (by rw [HF.out.1]; rfl), HB.out.2.2.2⟩
      · have hxr : x < 9223372036854775808 := HS.out.2 x (by rw [hx]; exact List.getElem_mem hkl)
        obtain ⟨q, rfl⟩ : ∃ q : Nat, x = (q : Nat) := ⟨x.toNat, by omega⟩
        have HQ : Hid (inL (l.take (k + 1)) = inL (l.take k) ++ numL q 8 ∧ inB (l.take (k + 1)) = true ∧ (inL (l.take k)).length ≤ 8000) := by
          refine ⟨?_, ?_, ?_⟩
          · rw [inL_take_succ hkl, ← hx, Int.toNat_natCast]
          · rw [inB_take_succ hkl, HB.out.2.1, ← hx, decide_eq_true (show 0 ≤ (q : Int) by omega)]; rfl
          · rw [inL_length, List.length_take]
            have := HL.out.2
            omega
        obtain ⟨T, hT⟩ : ∃ T, T = inL (l.take k) := ⟨_, rfl⟩
        rw [← hT] at HQ HB
        clear hx hc hp hxr hT h0
        go_wp2_with fail
        rename_i Kr2 hKr2 hq0
        have HKr2 : Hid _ := hKr2
        clear hKr2
        go_loopw [4, 7] (fun ov sv wi => ∃ (j mj cj : Nat) (aj : Option Addr), j ≤ 8 ∧ sv = .int .i64 (56 - 8 * (j : Int)) ∧ ov = .slice aj mj cj ∧ mj = (ofL (T ++ (numL q 8).take j)).size ∧ RowB wi (From w.heap.size) aj (ofL (T ++ (numL q 8).take j)) cj ∧ Below w.heap.size w wi)
          (fun _ sv _ => (Go.RowKit.intOf sv + 8).toNat)
        case atStart => exact ⟨0, m, c, ao, Nat.zero_le _, rfl, rfl, by rw [HB.out.1]; simp, by have := HB.out.2.2.1; simpa using this, HB.out.2.2.2⟩
        case round =>
          obtain ⟨j, mj, cj, aj, hj, rfl, rfl, hmj, hRj, hBj⟩ := hrel
          rename World => wi
          have HJ : Hid (mj = (ofL (T ++ (numL q 8).take j)).size ∧ RowB wi (From w.heap.size) aj (ofL (T ++ (numL q 8).take j)) cj ∧ Below w.heap.size w wi) := ⟨hmj, hRj, hBj⟩
          clear hmj hRj hBj hc'
          by_cases hj8 : j < 8
          · clear HKr2
            obtain ⟨u, hu⟩ : ∃ u, u = UInt8.ofNat (q / 256 ^ (7 - j)) := ⟨_, rfl⟩
            have HU : Hid (u = UInt8.ofNat (q / 256 ^ (7 - j)) ∧ ofL (T ++ (numL q 8).take j) ++ one u = ofL (T ++ (numL q 8).take (j + 1)) ∧ (ofL (T ++ (numL q 8).take j)).size ≤ 9000) := by
              refine ⟨hu, ?_, ?_⟩
              · rw [one_ofL, num8_take q j hj8, hu, List.append_assoc]
              · rw [ofL_size, List.length_append, List.length_take, numL_length]
                have := HQ.out.2.2
                omega
            have hb0 : Below wi.heap.size wi (wi.alloc (.cells #[.int .u8 (u.toNat : Int)] 5)) := below_alloc0 (Below.refl _ _) _
            have HA : Hid (RowB (wi.alloc (.cells #[.int .u8 (u.toNat : Int)] 5)) (From w.heap.size) aj (ofL (T ++ (numL q 8).take j)) cj ∧ (∀ k', (wi.alloc (.cells #[.int .u8 (u.toNat : Int)] 5)).heap.size ≤ k' → From w.heap.size k') ∧ Below w.heap.size w (wi.alloc (.cells #[.int .u8 (u.toNat : Int)] 5))) :=
              ⟨HJ.out.2.1.call hb0, fun k' hk' => Nat.le_trans (Nat.le_trans HJ.out.2.2.size hb0.size) hk', below_call0 HJ.out.2.2 hb0⟩
            have wu : ∀ d : Nat, d = 256 ^ (7 - j) → (q : Int) / (d : Int) % 256 = (u.toNat : Int) := fun d hd => by
              have h := u8wrap (q / d)
              rw [hd, ← hu, IntKind.wrap_u8] at h
              rw [hd]
              exact h
            have WU : Hid _ := wu
            clear hu wu hb0
            obtain ⟨Z, hZ⟩ : ∃ Z, Z = ofL (T ++ (numL q 8).take j) := ⟨_, rfl⟩
            rw [← hZ] at HJ HU HA
            have HR : Hid (∀ (a4 : Option Addr) (m4 c4 : Nat) (w4 : World), m4 = mj + (one u).size → RowB w4 (From w.heap.size) a4 (Z ++ one u) c4 → Off (From w.heap.size) (wi.alloc (.cells #[.int .u8 (u.toNat : Int)] 5)) w4 → m4 = (ofL (T ++ (numL q 8).take (j + 1))).size ∧ RowB w4 (From w.heap.size) a4 (ofL (T ++ (numL q 8).take (j + 1))) c4 ∧ Below w.heap.size w w4) := fun a4 m4 c4 w4 h4 hR4 hb4 => by
              refine ⟨?_, ?_, HA.out.2.2.trans ⟨hb4.os, hb4.tape, hb4.output, hb4.size, fun k' hk' => hb4.block k' (not_from hk')⟩⟩
              · rw [← HU.out.2.1, h4, HJ.out.1, ByteArray.size_append]
              · rw [← HU.out.2.1]; exact hR4
            clear hZ
            obtain rfl | rfl | rfl | rfl | rfl | rfl | rfl | rfl : j = 0 ∨ j = 1 ∨ j = 2 ∨ j = 3 ∨ j = 4 ∨ j = 5 ∨ j = 6 ∨ j = 7 := by omega
            · have w1 : (q : Int) / 72057594037927936 % 256 = (u.toNat : Int) := WU.out 72057594037927936 (by decide)
              clear WU
              go_wp2_with (at_builtin; refine wpList_append_RowB_slice _ rfl (.tmp 27) (.tmp 32) 94 rfl (From w.heap.size) 5 i0 Try.underlying94 hi hz0 hz1 hz2 aj mj cj Z (one u) rfl HJ.out.1 HA.out.1 (by rw [one_size]; have := HU.out.2.2; omega) HA.out.2.1 ⟨wi.heap.size, 0, none⟩ 1 1 rfl rfl (one_cells u wi _) ?_; intro a4 m4 c4 w4 hm4 hR4 hb4; have H4 : Hid (_ ∧ _ ∧ _) := HR.out a4 m4 c4 w4 hm4 hR4 hb4; clear hm4 hR4 hb4)
              go_roundw
              case rel => first | exact ⟨1, m4, c4, a4, by omega, by go_num, rfl, H4.out⟩ | ((repeat apply Exists.intro); exact ⟨⟨1, m4, c4, a4, by omega, by go_num, rfl, H4.out⟩, rfl⟩)
              case measure => simp [Go.RowKit.intOf]
            · have w1 : (q : Int) / 281474976710656 % 256 = (u.toNat : Int) := WU.out 281474976710656 (by decide)
              clear WU
              go_wp2_with (at_builtin; refine wpList_append_RowB_slice _ rfl (.tmp 27) (.tmp 32) 94 rfl (From w.heap.size) 5 i0 Try.underlying94 hi hz0 hz1 hz2 aj mj cj Z (one u) rfl HJ.out.1 HA.out.1 (by rw [one_size]; have := HU.out.2.2; omega) HA.out.2.1 ⟨wi.heap.size, 0, none⟩ 1 1 rfl rfl (one_cells u wi _) ?_; intro a4 m4 c4 w4 hm4 hR4 hb4; have H4 : Hid (_ ∧ _ ∧ _) := HR.out a4 m4 c4 w4 hm4 hR4 hb4; clear hm4 hR4 hb4)
              go_roundw
              case rel => first | exact ⟨2, m4, c4, a4, by omega, by go_num, rfl, H4.out⟩ | ((repeat apply Exists.intro); exact ⟨⟨2, m4, c4, a4, by omega, by go_num, rfl, H4.out⟩, rfl⟩)
              case measure => simp [Go.RowKit.intOf]
            · have w1 : (q : Int) / 1099511627776 % 256 = (u.toNat : Int) := WU.out 1099511627776 (by decide)
              clear WU
              go_wp2_with (at_builtin; refine wpList_append_RowB_slice _ rfl (.tmp 27) (.tmp 32) 94 rfl (From w.heap.size) 5 i0 Try.underlying94 hi hz0 hz1 hz2 aj mj cj Z (one u) rfl HJ.out.1 HA.out.1 (by rw [one_size]; have := HU.out.2.2; omega) HA.out.2.1 ⟨wi.heap.size, 0, none⟩ 1 1 rfl rfl (one_cells u wi _) ?_; intro a4 m4 c4 w4 hm4 hR4 hb4; have H4 : Hid (_ ∧ _ ∧ _) := HR.out a4 m4 c4 w4 hm4 hR4 hb4; clear hm4 hR4 hb4)
              go_roundw
              case rel => first | exact ⟨3, m4, c4, a4, by omega, by go_num, rfl, H4.out⟩ | ((repeat apply Exists.intro); exact ⟨⟨3, m4, c4, a4, by omega, by go_num, rfl, H4.out⟩, rfl⟩)
              case measure => simp [Go.RowKit.intOf]
            · have w1 : (q : Int) / 4294967296 % 256 = (u.toNat : Int) := WU.out 4294967296 (by decide)
              clear WU
              go_wp2_with (at_builtin; refine wpList_append_RowB_slice _ rfl (.tmp 27) (.tmp 32) 94 rfl (From w.heap.size) 5 i0 Try.underlying94 hi hz0 hz1 hz2 aj mj cj Z (one u) rfl HJ.out.1 HA.out.1 (by rw [one_size]; have := HU.out.2.2; omega) HA.out.2.1 ⟨wi.heap.size, 0, none⟩ 1 1 rfl rfl (one_cells u wi _) ?_; intro a4 m4 c4 w4 hm4 hR4 hb4; have H4 : Hid (_ ∧ _ ∧ _) := HR.out a4 m4 c4 w4 hm4 hR4 hb4; clear hm4 hR4 hb4)
              go_roundw
              case rel => first | exact ⟨4, m4, c4, a4, by omega, by go_num, rfl, H4.out⟩ | ((repeat apply Exists.intro); exact ⟨⟨4, m4, c4, a4, by omega, by go_num, rfl, H4.out⟩, rfl⟩)
              case measure => simp [Go.RowKit.intOf]
            · have w1 : (q : Int) / 16777216 % 256 = (u.toNat : Int) := WU.out 16777216 (by decide)
              clear WU
              go_wp2_with (at_builtin; refine wpList_append_RowB_slice _ rfl (.tmp 27) (.tmp 32) 94 rfl (From w.heap.size) 5 i0 Try.underlying94 hi hz0 hz1 hz2 aj mj cj Z (one u) rfl HJ.out.1 HA.out.1 (by rw [one_size]; have := HU.out.2.2; omega) HA.out.2.1 ⟨wi.heap.size, 0, none⟩ 1 1 rfl rfl (one_cells u wi _) ?_; intro a4 m4 c4 w4 hm4 hR4 hb4; have H4 : Hid (_ ∧ _ ∧ _) := HR.out a4 m4 c4 w4 hm4 hR4 hb4; clear hm4 hR4 hb4)
              go_roundw
              case rel => first | exact ⟨5, m4, c4, a4, by omega, by go_num, rfl, H4.out⟩ | ((repeat apply Exists.intro); exact ⟨⟨5, m4, c4, a4, by omega, by go_num, rfl, H4.out⟩, rfl⟩)
              case measure => simp [Go.RowKit.intOf]
            · have w1 : (q : Int) / 65536 % 256 = (u.toNat : Int) := WU.out 65536 (by decide)
              clear WU
              go_wp2_with (at_builtin; refine wpList_append_RowB_slice _ rfl (.tmp 27) (.tmp 32) 94 rfl (From w.heap.size) 5 i0 Try.underlying94 hi hz0 hz1 hz2 aj mj cj Z (one u) rfl HJ.out.1 HA.out.1 (by rw [one_size]; have := HU.out.2.2; omega) HA.out.2.1 ⟨wi.heap.size, 0, none⟩ 1 1 rfl rfl (one_cells u wi _) ?_; intro a4 m4 c4 w4 hm4 hR4 hb4; have H4 : Hid (_ ∧ _ ∧ _) := HR.out a4 m4 c4 w4 hm4 hR4 hb4; clear hm4 hR4 hb4)
              go_roundw
              case rel => first | exact ⟨6, m4, c4, a4, by omega, by go_num, rfl, H4.out⟩ | ((repeat apply Exists.intro); exact ⟨⟨6, m4, c4, a4, by omega, by go_num, rfl, H4.out⟩, rfl⟩)
              case measure => simp [Go.RowKit.intOf]
            · have w1 : (q : Int) / 256 % 256 = (u.toNat : Int) := WU.out 256 (by decide)
              clear WU
              go_wp2_with (at_builtin; refine wpList_append_RowB_slice _ rfl (.tmp 27) (.tmp 32) 94 rfl (From w.heap.size) 5 i0 Try.underlying94 hi hz0 hz1 hz2 aj mj cj Z (one u) rfl HJ.out.1 HA.out.1 (by rw [one_size]; have := HU.out.2.2; omega) HA.out.2.1 ⟨wi.heap.size, 0, none⟩ 1 1 rfl rfl (one_cells u wi _) ?_; intro a4 m4 c4 w4 hm4 hR4 hb4; have H4 : Hid (_ ∧ _ ∧ _) := HR.out a4 m4 c4 w4 hm4 hR4 hb4; clear hm4 hR4 hb4)
              go_roundw
              case rel => first | exact ⟨7, m4, c4, a4, by omega, by go_num, rfl, H4.out⟩ | ((repeat apply Exists.intro); exact ⟨⟨7, m4, c4, a4, by omega, by go_num, rfl, H4.out⟩, rfl⟩)
              case measure => simp [Go.RowKit.intOf]
            · have w1 : (q : Int) % 256 = (u.toNat : Int) := by have := WU.out 1 (by decide); simpa using this
              clear WU
              go_wp2_with (at_builtin; refine wpList_append_RowB_slice _ rfl (.tmp 27) (.tmp 32) 94 rfl (From w.heap.size) 5 i0 Try.underlying94 hi hz0 hz1 hz2 aj mj cj Z (one u) rfl HJ.out.1 HA.out.1 (by rw [one_size]; have := HU.out.2.2; omega) HA.out.2.1 ⟨wi.heap.size, 0, none⟩ 1 1 rfl rfl (one_cells u wi _) ?_; intro a4 m4 c4 w4 hm4 hR4 hb4; have H4 : Hid (_ ∧ _ ∧ _) := HR.out a4 m4 c4 w4 hm4 hR4 hb4; clear hm4 hR4 hb4)
              go_roundw
              case rel => first | exact ⟨8, m4, c4, a4, by omega, by go_num, rfl, H4.out⟩ | ((repeat apply Exists.intro); exact ⟨⟨8, m4, c4, a4, by omega, by go_num, rfl, H4.out⟩, rfl⟩)
              case measure => simp [Go.RowKit.intOf]
          · obtain rfl : j = 8 := by omega
            have e8 : (numL q 8).take 8 = numL q 8 := List.take_of_length_le (by rw [numL_length]; exact Nat.le_refl _)
            have HJ2 : Hid (mj = (ofL (inL (l.take (k + 1)))).size ∧ inB (l.take (k + 1)) = true ∧ RowB wi (From w.heap.size) aj (ofL (inL (l.take (k + 1)))) cj ∧ Below w.heap.size w wi) := by
              have := HJ.out
              rw [e8, ← HQ.out.1] at this
              exact ⟨this.1, HQ.out.2.1, this.2.1, this.2.2⟩
            clear e8 hj8 hj
            go_wp2_with fail
            refine HKr2.out _ _ ?_
            clear HKr2
            go_wp2_with fail
            go_roundw
            case rel => first | exact ⟨k + 1, mj, cj, aj, hlt, by go_num, rfl, HJ2.out⟩ | ((repeat apply Exists.intro); exact ⟨⟨k + 1, mj, cj, aj, hlt, by go_num, rfl, HJ2.out⟩, rfl⟩)
            case measure => simp [Go.RowKit.intOf]; omega
    · obtain rfl : k = n := by omega
      have hnl : ¬ ((k : Int) < (k : Int)) := Int.lt_irrefl _
      have et : l.take k = l := by rw [HL.out.1]; exact List.take_of_length_le (Nat.le_refl _)
      rw [et] at HB
      have HF : Hid (_ ∧ _) := in_ok HL.out.2 HB.out.2.1
      rw [HB.out.1]
      have hcv := run_string_RowB (P := Try.prog) wr (From w.heap.size) 94 5 9 Try.underlying94 Try.underlying5 Try.underlying9 ao c _ HB.out.2.2.1
      clear et hlt hk
      go_wp2_with fail
      refine HKr.out _ _ ?_
      clear HKr
      go_wp2_with fail
      go_ret2
      exact ⟨ret_pair' (by rw [HF.out.2]; rfl) (by rw [HF.out.1]; rfl), HB.out.2.2.2⟩
end Go.Proofs.Ytadcjdffjhiniaa
