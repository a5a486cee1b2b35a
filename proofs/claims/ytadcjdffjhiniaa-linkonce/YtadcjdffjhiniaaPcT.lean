/- Package parcel: split. -/
import Derived.Test.YtadcjdffjhiniaaPcC
import Derived.Test.YtadcjdffjhiniaaPcM
import Derived.WalkMore
namespace Go.Proofs.Ytadcjdffjhiniaa
open Go Go.RowKit Go.Lib

theorem byte0 {t : ByteArray} {x y : UInt8} {r : List UInt8} (h : t.data.toList = x :: y :: r) : (∀ q, (t[0]'q) = x) ∧ (∀ q, (t[1]'q) = y) := by
  constructor
  · intro q
    have : t.data.toList[0]? = some x := by rw [h]; rfl
    rw [List.getElem?_eq_getElem (by rw [ba_len]; exact q)] at this
    exact Option.some.inj this
  · intro q
    have : t.data.toList[1]? = some y := by rw [h]; rfl
    rw [List.getElem?_eq_getElem (by rw [ba_len]; exact q)] at this
    exact Option.some.inj this
theorem ext2 {t : ByteArray} {x y : UInt8} {r : List UInt8} (h : t.data.toList = x :: y :: r) : t.extract 2 t.size = ofL r := by
  apply ba_ext
  rw [ba_extract, h, ofL_data]
  have := ba_len t
  rw [h] at this
  simp only [List.length_cons] at this
  exact List.take_of_length_le (by simp; omega)
theorem bits_or64 (a b : Nat) (ha : a < 4611686018427387904) (hb : b < 4611686018427387904) : bits .or .i64 (a : Int) (b : Int) = ((a ||| b : Nat) : Int) := by
  show IntKind.i64.wrap ((BitVec.ofInt 64 (a : Int) ||| BitVec.ofInt 64 (b : Int)).toNat : Int) = _
  have h : a ||| b < 2 ^ 62 := Nat.or_lt_two_pow (n := 62) ha hb
  rw [BitVec.toNat_or]
  have ea : (BitVec.ofInt 64 (a : Int)).toNat = a := by simp; omega
  have eb : (BitVec.ofInt 64 (b : Int)).toNat = b := by simp; omega
  rw [ea, eb, IntKind.wrap_i64]
  omega
theorem or_bytes (x y : UInt8) : bits .or .i64 ((x.toNat : Int) * 256) (y.toNat : Int) = ((256 * x.toNat + y.toNat : Nat) : Int) := by
  have hx := x.toNat_lt
  have hy := y.toNat_lt
  have e : (x.toNat : Int) * 256 = ((x.toNat * 256 : Nat) : Int) := by omega
  rw [e, bits_or64 _ _ (by omega) (by omega)]
  have h := Nat.shiftLeft_add_eq_or_of_lt (i := 8) (b := y.toNat) hy x.toNat
  rw [Nat.shiftLeft_eq] at h
  have h' : x.toNat * 256 ||| y.toNat = x.toNat * 256 + y.toNat := h.symm
  rw [h']
  omega
set_option maxRecDepth 100000 in
set_option maxHeartbeats 4000000 in
theorem split_any (s : ByteArray) (c : Nat) (hc : c ≤ 40) (hs : s.size ≤ 20000) (w : World) :
    Calls Try.prog 44 #[.string s, .int .i64 (c : Nat)] w fun e w' => ∃ a cap, e = .returned (.tuple #[.slice a (splitL c s.data.toList).1.length cap, .string (ofL (splitL c s.data.toList).2.1), .int .i64 (splitL c s.data.toList).2.2]) ∧ RowS w' w.heap.size a (splitL c s.data.toList).1 cap ∧ Below w.heap.size w w' := by
  obtain ⟨i0, hi, hz0, hz1, hz2⟩ := infoStr
  have c40 : (c : Int) ≤ 40 := by omega
  have HC : Hid (c ≤ 40 ∧ s.size ≤ 20000) := ⟨hc, hs⟩
  clear hc hs
  go_enter Try.func44, Try.ntmps44
  go_wp2_with fail
  go_step3
  go_wp2_with (at_make; refine wpList_make_own _ rfl _ _ 29 rfl w.heap.size 9 i0 (.string ⟨#[]⟩) 1 Try.underlying29 hi hz0 hz1 .i64 .i64 (c : Nat) c rfl rfl rfl (by rw [hz2]; have := HC.out.1; omega) (by unfold maxLen; have := HC.out.1; omega) (Nat.le_refl _) ?_; intro w1 ho1 hg1; have H1 : Hid (RowS w1 w.heap.size (some ⟨w.heap.size, 0, none⟩) [] c ∧ Below w.heap.size w w1) := ⟨ho1, (Below.refl _ _).grown hg1 (Nat.le_refl _) (fun k hk => by cases hk)⟩; clear ho1 hg1)
  go_step3
  go_wp2_with fail
  rename_i Kr hKr
  have HKr : Hid _ := hKr
  clear hKr
  go_loopw [0, 7, 8, 13] (fun sv lv ev iv wr => ∃ (i m cap : Nat) (t : ByteArray) (a : Option Addr) (acc : List ByteArray), i ≤ c ∧ iv = .int .i64 (i : Nat) ∧ sv = .string t ∧ ev = .int .i64 0 ∧ lv = .slice a m cap ∧ m = acc.length ∧ acc.length = i ∧ t.size ≤ 20000 ∧ RowS wr w.heap.size a acc cap ∧ Below w.heap.size w wr ∧ splitL c s.data.toList = (acc ++ (splitL (c - i) t.data.toList).1, (splitL (c - i) t.data.toList).2))
    (fun _ _ _ iv _ => c - (Go.RowKit.intOf iv).toNat)
  case atStart => exact ⟨0, 0, c, s, _, [], Nat.zero_le _, rfl, rfl, rfl, rfl, rfl, rfl, HC.out.2, H1.out.1, H1.out.2, rfl⟩
  case round =>
    obtain ⟨i, m, cap, t, a, acc, hi', rfl, rfl, rfl, rfl, hm, hacc, ht, hR, hB, hsp⟩ := hrel
    rename World => wr
    clear H1
    have HI : Hid (m = acc.length ∧ acc.length = i ∧ t.size ≤ 20000 ∧ RowS wr w.heap.size a acc cap ∧ Below w.heap.size w wr ∧ splitL c s.data.toList = (acc ++ (splitL (c - i) t.data.toList).1, (splitL (c - i) t.data.toList).2)) := ⟨hm, hacc, ht, hR, hB, hsp⟩
    clear hm hacc ht hR hB hsp
    by_cases hlt : i < c
    · have hlt' : (i : Int) < (c : Int) := Int.ofNat_lt.2 hlt
      by_cases h2 : t.size < 2
      · have h2' : (t.size : Int) < 2 := by omega
        have HE : Hid (splitL c s.data.toList = (acc, t.data.toList, 90)) := by
          rw [HI.out.2.2.2.2.2, show c - i = (c - i - 1) + 1 from by omega, splitL_short _ _ (by rw [ba_len]; exact h2)]
          exact congrArg (fun z => (z, t.data.toList, (90 : Int))) (List.append_nil acc)
        clear hlt
        go_wp2_with fail
        refine HKr.out _ _ ?_
        clear HKr
        go_wp2_with fail
        rw [Exit.noGoto_ret]
        refine bodyPost_ret (v := .tuple #[.slice a m cap, .string t, .int .i64 90]) (by simp [results, Try.results44, go_sem]) rfl ⟨a, cap, ?_, ?_, HI.out.2.2.2.2.1⟩
        · rw [HE.out, HI.out.1, ofL_of]
        · rw [HE.out]; exact HI.out.2.2.2.1
      · have h2' : ¬ ((t.size : Int) < 2) := by omega
        obtain ⟨x, y, r, hxy⟩ : ∃ x y r, t.data.toList = x :: y :: r := by
          have := ba_len t
          match e : t.data.toList with
          | [] => rw [e] at this; simp at this; omega
          | [x] => rw [e] at this; simp at this; omega
          | x :: y :: r => exact ⟨x, y, r, rfl⟩
        obtain ⟨b0, b1⟩ := byte0 hxy
        have bx := ext2 hxy
        have t2 : 2 ≤ t.size := by omega
        have HX : Hid (t.data.toList = x :: y :: r) := hxy
        clear hxy
        have xb : (x.toNat : Int) < 256 := by have := x.toNat_lt; omega
        have yb : (y.toNat : Int) < 256 := by have := y.toNat_lt; omega
        obtain ⟨N, hN⟩ : ∃ N, N = 256 * x.toNat + y.toNat := ⟨_, rfl⟩
        have hor : bits .or .i64 ((x.toNat : Int) * 256) (y.toNat : Int) = (N : Nat) := by rw [hN]; exact or_bytes x y
        have HN : Hid (N = 256 * x.toNat + y.toNat) := hN
        obtain ⟨L, hL⟩ : ∃ L, L = r.length := ⟨_, rfl⟩
        have rl : (ofL r).size = L := by rw [hL]; exact ofL_size r
        have HL : Hid (L = r.length) := hL
        clear hN h2 hL
        have HK : Hid (splitL c s.data.toList = (acc ++ (splitL (c - i) (x :: y :: r)).1, (splitL (c - i) (x :: y :: r)).2)) := by
          have := HI.out.2.2.2.2.2
          rw [HX.out] at this
          exact this
        have ec : c - i = (c - i - 1) + 1 := by omega
        have rt : r.length ≤ 20000 := by
          have h1 := ba_len t
          rw [HX.out] at h1
          have h2 := HI.out.2.2.1
          simp only [List.length_cons] at h1
          omega
        by_cases h8 : 8000 < N
        · have h8' : (8000 : Int) < (N : Int) := by omega
          have HE : Hid (splitL c s.data.toList = (acc, r, 2)) := by
            rw [HK.out, ec, splitL_long _ _ _ _ (by rw [← HN.out]; exact h8)]
            exact congrArg (fun z => (z, r, (2 : Int))) (List.append_nil acc)
          clear hlt h8 rt ec HK
          go_wp2_with fail
          go_quiet (fail)
          go_wp2_with fail
          refine HKr.out _ _ ?_
          clear HKr
          go_wp2_with fail
          rw [Exit.noGoto_ret]
          refine bodyPost_ret (v := .tuple #[.slice a m cap, .string (ofL r), .int .i64 2]) (by simp [results, Try.results44, go_sem]) rfl ⟨a, cap, ?_, ?_, below_drewN HI.out.2.2.2.2.1 _⟩
          · rw [HE.out, HI.out.1]
          · rw [HE.out]; exact HI.out.2.2.2.1
        by_cases h9 : r.length < N
        · have h8' : ¬ ((8000 : Int) < (N : Int)) := by omega
          have h9' : (L : Int) < (N : Int) := by have := HL.out; omega
          have HE : Hid (splitL c s.data.toList = (acc, r, 90)) := by
            rw [HK.out, ec, splitL_cut _ _ _ _ (by rw [← HN.out]; exact h8) (by rw [← HN.out]; exact h9)]
            exact congrArg (fun z => (z, r, (90 : Int))) (List.append_nil acc)
          have H89 : Hid (¬ ((8000 : Int) < (N : Int)) ∧ (L : Int) < (N : Int)) := ⟨h8', h9'⟩
          clear hlt h8 rt ec HK h9 h8' h9'
          go_wp2_with fail
          go_quiet (fail)
          obtain ⟨h8', h9'⟩ := H89.out
          go_wp2_with fail
          refine HKr.out _ _ ?_
          clear HKr
          go_wp2_with fail
          rw [Exit.noGoto_ret]
          refine bodyPost_ret (v := .tuple #[.slice a m cap, .string (ofL r), .int .i64 90]) (by simp [results, Try.results44, go_sem]) rfl ⟨a, cap, ?_, ?_, below_drewN HI.out.2.2.2.2.1 _⟩
          · rw [HE.out, HI.out.1]
          · rw [HE.out]; exact HI.out.2.2.2.1
        clear HKr
        have h8' : ¬ ((8000 : Int) < (N : Int)) := by omega
        have h9' : ¬ ((L : Int) < (N : Int)) := by have := HL.out; omega
        have h9a : (N : Int) ≤ (L : Int) := by omega
        have h9b : N ≤ L := by omega
        have x1 : (ofL r).extract 0 N = ofL (r.take N) := ba_ext (by rw [ba_extract, ofL_data, ofL_data]; simp)
        have x2 : (ofL r).extract N L = ofL (r.drop N) := ba_ext (by rw [HL.out, ba_extract, ofL_data, ofL_data]; exact List.take_of_length_le (by simp))
        have HE : Hid (splitL c s.data.toList = ((acc ++ [ofL (r.take N)]) ++ (splitL (c - (i + 1)) (ofL (r.drop N)).data.toList).1, (splitL (c - (i + 1)) (ofL (r.drop N)).data.toList).2)) := by
          rw [HK.out, ec, splitL_one _ _ _ _ (by rw [← HN.out]; exact h8) (by rw [← HN.out]; exact h9), ← HN.out, ofL_data, show c - (i + 1) = c - i - 1 from by omega]
          exact congrArg (fun z => (z, (splitL (c - i - 1) (r.drop N)).2)) (List.append_cons acc _ _)
        have HT : Hid ((ofL (r.take N)).size ≤ 281474976710656 ∧ (ofL (r.drop N)).size ≤ 20000) := by
          rw [ofL_size, ofL_size, List.length_take, List.length_drop]
          exact ⟨by omega, by omega⟩
        have hsz : ∀ w, (Go.sizeOf 9).run Try.prog w = .ok 1 w := fun _ => by kernel_rfl
        obtain ⟨u, hu⟩ : ∃ u, u = ofL (r.take N) := ⟨_, rfl⟩
        obtain ⟨v, hv⟩ : ∃ v, v = ofL (r.drop N) := ⟨_, rfl⟩
        rw [← hu] at x1
        rw [← hv] at x2
        rw [← hu, ← hv] at HE HT
        have H89 : Hid (¬ ((8000 : Int) < (N : Int)) ∧ ¬ (L : Int) < (N : Int) ∧ (N : Int) ≤ (L : Int) ∧ N ≤ L) := ⟨h8', h9', h9a, h9b⟩
        clear h8 h9 rt ec HK hu hv h8' h9' h9a h9b
        go_wp2_with fail
        go_quiet (fail)
        obtain ⟨h8', h9', h9a, h9b⟩ := H89.out
        go_wp2_with fail
        refine (clone_any u _ HT.out.1).mono ?_
        rintro e w3 ⟨rfl, hb3⟩
        have hb4 : Below wr.heap.size wr w3 := below_call0 (below_drewN (Below.refl _ _) _) hb3
        have hb5 : Below wr.heap.size wr (w3.alloc (.cells #[.string u] 9)) := below_alloc0 hb4 _
        have HB : Hid (RowS (w3.alloc (.cells #[.string u] 9)) w.heap.size a acc cap ∧ Below w.heap.size w (w3.alloc (.cells #[.string u] 9)) ∧ (w3.alloc (.cells #[.string u] 9)).cell? ⟨w3.heap.size, 0, none⟩ = some (.string u)) := ⟨HI.out.2.2.2.1.call hb5, below_call0 HI.out.2.2.2.2.1 hb5, by simp [go_sem]⟩
        clear hb3 hb4 hb5
        go_wp2_with (at_builtin; refine wpList_append_RowS _ rfl (.tmp 36) (.tmp 41) rfl w.heap.size a m cap acc u rfl HI.out.1 HB.out.1 HB.out.2.1.size (by rw [HI.out.2.1]; have := HC.out.1; omega) ⟨w3.heap.size, 0, none⟩ 1 rfl HB.out.2.2 ?_; intro a5 m5 cap5 w5 hm5 hR5 hb5; have H5 : Hid (m5 = m + 1 ∧ RowS w5 w.heap.size a5 (acc ++ [u]) cap5 ∧ Below w.heap.size w w5) := ⟨hm5, hR5, HB.out.2.1.trans hb5⟩; clear hm5 hR5 hb5)
        have HF : Hid (m5 = (acc ++ [u]).length ∧ (acc ++ [u]).length = i + 1) := by
          rw [H5.out.1, HI.out.1, List.length_append, HI.out.2.1]
          exact ⟨rfl, rfl⟩
        go_roundw
        case rel => first | exact ⟨i + 1, m5, cap5, v, a5, acc ++ [u], hlt, by go_num, rfl, rfl, rfl, HF.out.1, HF.out.2, HT.out.2, H5.out.2.1, H5.out.2.2, HE.out⟩ | ((repeat apply Exists.intro); exact ⟨⟨i + 1, m5, cap5, v, a5, acc ++ [u], hlt, by go_num, rfl, rfl, rfl, HF.out.1, HF.out.2, HT.out.2, H5.out.2.1, H5.out.2.2, HE.out⟩, rfl⟩)
        case measure => simp [Go.RowKit.intOf]; omega
    · obtain rfl : i = c := by omega
      have hnl : ¬ ((i : Int) < (i : Int)) := Int.lt_irrefl _
      have HE : Hid (splitL i s.data.toList = (acc, t.data.toList, 0)) := by
        rw [HI.out.2.2.2.2.2, Nat.sub_self, splitL_zero]
        exact congrArg (fun z => (z, t.data.toList, (0 : Int))) (List.append_nil acc)
      clear hlt hi'
      go_wp2_with fail
      refine HKr.out _ _ ?_
      clear HKr
      go_wp2_with fail
      rw [Exit.noGoto_ret]
      refine bodyPost_ret (v := .tuple #[.slice a m cap, .string t, .int .i64 0]) (by simp [results, Try.results44, go_sem]) rfl ⟨a, cap, ?_, ?_, HI.out.2.2.2.2.1⟩
      · rw [HE.out, HI.out.1, ofL_of]
      · rw [HE.out]; exact HI.out.2.2.2.1
end Go.Proofs.Ytadcjdffjhiniaa
