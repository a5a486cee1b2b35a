/- The numbers that bytes are: the reference's ToInts. -/
import Derived.Test.YtadcjdffjhiniaaPiE
namespace Go.Proofs.Ytadcjdffjhiniaa
open Go Go.RowKit Go.Lib

theorem foldl_join (r : List UInt8) : ∀ c : Nat, r.foldl (fun n b => 256 * n + b.toNat) c = c * 256 ^ r.length + joinN r := by
  induction r with
  | nil => intro c; simp [joinN]
  | cons b r ih =>
    intro c
    unfold joinN
    rw [List.foldl_cons, List.foldl_cons, ih, ih, List.length_cons, Nat.pow_succ]
    have : (256 * c + b.toNat) * 256 ^ r.length = c * (256 ^ r.length * 256) + b.toNat * 256 ^ r.length := by
      rw [Nat.add_mul, Nat.mul_comm 256 c, Nat.mul_assoc, Nat.mul_comm 256]
    rw [this, Nat.mul_zero, Nat.zero_add]
    omega
theorem joinN_cons (b : UInt8) (r : List UInt8) : joinN (b :: r) = b.toNat * 256 ^ r.length + joinN r := by
  have := foldl_join r b.toNat
  unfold joinN
  rw [List.foldl_cons, Nat.mul_zero, Nat.zero_add]
  exact this
theorem joinN_append (a b : List UInt8) : joinN a ≤ joinN (a ++ b) := by
  have h : joinN (a ++ b) = joinN a * 256 ^ b.length + joinN b := by
    rw [← foldl_join]
    unfold joinN
    rw [List.foldl_append]
  rw [h]
  have : joinN a * 1 ≤ joinN a * 256 ^ b.length := Nat.mul_le_mul_left _ (Nat.pow_pos (by decide))
  omega
theorem joinN_take (t : List UInt8) (j : Nat) : joinN (t.take j) ≤ joinN t := by
  have := joinN_append (t.take j) (t.drop j)
  rwa [List.take_append_drop] at this
theorem chunk_len {t : List UInt8} {i : Nat} (h : 8 * i + 8 ≤ t.length) : ((t.drop (8 * i)).take 8).length = 8 := by
  rw [List.length_take, List.length_drop]; omega
theorem high_bit {t : List UInt8} {i : Nat} {b : UInt8} {r : List UInt8} (h : 8 * i + 8 ≤ t.length) (hd : t.drop (8 * i) = b :: r) : (127 < b.toNat ↔ ¬ valAt t i < 9223372036854775808) := by
  have hl := chunk_len h
  unfold valAt
  rw [hd] at hl ⊢
  rw [List.take_succ_cons] at hl ⊢
  simp only [List.length_cons] at hl
  have hl' : (r.take 7).length = 7 := by omega
  have h1 := joinN_lt (r.take 7)
  rw [hl'] at h1
  rw [joinN_cons, hl']
  have e : (256 : Nat) ^ 7 = 72057594037927936 := by decide
  rw [e] at h1 ⊢
  omega
set_option maxRecDepth 100000 in
set_option maxHeartbeats 4000000 in
theorem rtoInts_any (s : ByteArray) (hs : s.size < 140737488351233) (w : World) :
    Calls Try.prog 42 #[.string s] w fun e w' => tiPost w s e w' := by
  by_cases h8n : ¬ s.size % 8 = 0
  · have h8 := h8n
    have HF : Hid (tiB s.data.toList = false) := by
      show tiB s.data.toList = false
      unfold tiB; rw [ba_len, decide_eq_false h8, Bool.false_and, Bool.false_and]
    have h8' : ¬ ((s.size : Int) % 8 = 0) := by omega
    have s47 : (s.size : Int) < 140737488351233 := by omega
    clear h8 hs h8n
    go_enter Try.func42, Try.ntmps42
    go_wp2_with fail
    exact bodyPost_ret (v := .tuple #[.slice none 0 0, .int .i64 4]) (by simp [results, Try.results42, go_sem]) rfl (tiPost_no HF.out (Below.refl _ _))
  have h8 : s.size % 8 = 0 := Classical.not_not.1 h8n
  clear h8n
  by_cases hk : 8000 < s.size
  · have HF : Hid (tiB s.data.toList = false) := by
      show tiB s.data.toList = false
      unfold tiB; rw [ba_len, decide_eq_false (show ¬ s.size ≤ 8000 by omega), Bool.and_false, Bool.false_and]
    have h8' : ((s.size : Int) % 8 = 0) := by omega
    have hk' : (8000 : Int) < (s.size : Int) := by omega
    have s47 : (s.size : Int) < 140737488351233 := by omega
    clear h8 hs hk
    go_enter Try.func42, Try.ntmps42
    go_wp2_with fail
    exact bodyPost_ret (v := .tuple #[.slice none 0 0, .int .i64 4]) (by simp [results, Try.results42, go_sem]) rfl (tiPost_no HF.out (Below.refl _ _))
  obtain ⟨c, hc⟩ : ∃ c, c = s.size / 8 := ⟨_, rfl⟩
  have HC : Hid (c = s.size / 8 ∧ s.size % 8 = 0 ∧ s.size ≤ 8000 ∧ s.size = 8 * c) := ⟨hc, h8, by omega, by omega⟩
  have h8' : ((s.size : Int) % 8 = 0) := by omega
  have hk' : ¬ ((8000 : Int) < (s.size : Int)) := by omega
  have hsz : ∀ w, (Go.sizeOf 3).run Try.prog w = .ok 1 w := fun _ => by kernel_rfl
  clear h8 hs hk hc
  go_enter Try.func42, Try.ntmps42
  go_wp2_with fail
  rename_i Kr hKr
  have HKr : Hid _ := hKr
  clear hKr h8' hk'
  go_loopw [4, 5] (fun ov iv wr => ∃ (i m cap : Nat) (a : Option Addr), i ≤ c ∧ iv = .int .i64 ((8 * i : Nat) : Int) ∧ ov = .slice a m cap ∧ m = ((List.range i).map fun j => (valAt s.data.toList j : Int)).length ∧ RowI wr w.heap.size a ((List.range i).map fun j => (valAt s.data.toList j : Int)) cap ∧ (∀ j, j < i → valAt s.data.toList j < 9223372036854775808) ∧ Below w.heap.size w wr)
    (fun _ iv _ => 8 * c - (Go.RowKit.intOf iv).toNat)
  case atStart => exact ⟨0, 0, 0, none, Nat.zero_le _, rfl, rfl, rfl, RowI.nil _ _, fun j hj => absurd hj (by omega), Below.refl _ _⟩
  case round =>
    obtain ⟨i, m, cap, a, hi', rfl, rfl, hm, hR, hall, hB⟩ := hrel
    rename World => wr
    obtain ⟨l, hl⟩ : ∃ l, l = ((List.range i).map fun j => (valAt s.data.toList j : Int)) := ⟨_, rfl⟩
    rw [← hl] at hm hR
    have HI : Hid (m = l.length ∧ RowI wr w.heap.size a l cap ∧ (∀ j, j < i → valAt s.data.toList j < 9223372036854775808) ∧ Below w.heap.size w wr ∧ l = ((List.range i).map fun j => (valAt s.data.toList j : Int))) := ⟨hm, hR, hall, hB, hl⟩
    clear hm hR hall hB hl
    obtain ⟨I, hI⟩ : ∃ I, I = 8 * i := ⟨_, rfl⟩
    rw [← hI]
    have HII : Hid (I = 8 * i) := hI
    clear hI
    by_cases hlt : i < c
    · clear HKr
      have hlt' : (I : Int) < (s.size : Int) := by have h1 := HC.out; have h2 := HII.out; omega
      have hI8 : 8 * i + 8 ≤ s.data.toList.length := by rw [ba_len]; have h1 := HC.out; omega
      obtain ⟨b, r, hbr⟩ : ∃ b r, s.data.toList.drop (8 * i) = b :: r := by
        match e : s.data.toList.drop (8 * i) with
        | [] => have := congrArg List.length e; rw [List.length_drop, List.length_nil] at this; omega
        | b :: r => exact ⟨b, r, rfl⟩
      have hb := high_bit hI8 hbr
      have bx : ∀ q, (s[I]'q) = b := by
        intro q
        have h1 : (s.data.toList.drop (8 * i))[0]? = some b := by rw [hbr]; rfl
        rw [List.getElem?_drop, Nat.add_zero, ← HII.out, List.getElem?_eq_getElem (by rw [ba_len]; exact q)] at h1
        exact Option.some.inj h1
      have I8 : (I : Int) + 8 ≤ (s.size : Int) := by have h1 := HC.out; have h2 := HII.out; omega
      have s8 : (s.size : Int) ≤ 8000 := by have h1 := HC.out; omega
      have bb : (b.toNat : Int) < 256 := by have := b.toNat_lt; omega
      by_cases hbig : 127 < b.toNat
      · have hbig' : (127 : Int) < (b.toNat : Int) := by omega
        have HF : Hid (tiB s.data.toList = false) := tiB_bad (i := i) (by rw [ba_len, ← HC.out.1]; exact hlt) (hb.1 hbig)
        clear hbig hlt hbr hb hI8
        go_wp2_with fail
        exact bodyPost_ret (v := .tuple #[.slice none 0 0, .int .i64 4]) (by simp [results, Try.results42, go_sem]) rfl (tiPost_no HF.out HI.out.2.2.2.1)
      · have hbig' : ¬ ((127 : Int) < (b.toNat : Int)) := by omega
        have HV : Hid (valAt s.data.toList i < 9223372036854775808 ∧ 8 * i + 8 ≤ s.data.toList.length) := ⟨Classical.not_not.1 fun h => hbig (hb.2 h), hI8⟩
        clear hbig hbr hb hI8
        go_wp2_with fail
        rename_i Kr2 hKr2
        have HKr2 : Hid _ := hKr2
        clear hKr2 bx hbig'
        go_loop [6, 7] (fun nv kv => ∃ j : Nat, j ≤ 8 ∧ kv = .int .i64 ((I + j : Nat) : Int) ∧ nv = .int .i64 (joinN (((s.data.toList.drop (8 * i)).take 8).take j) : Nat)) (fun _ kv => I + 8 - (Go.RowKit.intOf kv).toNat)
        case atStart => exact ⟨0, Nat.zero_le _, rfl, rfl⟩
        case round =>
          obtain ⟨j, hj, rfl, rfl⟩ := hrel
          by_cases hj8 : j < 8
          · clear HKr2
            have hcl := chunk_len HV.out.2
            obtain ⟨K, hK⟩ : ∃ K, K = I + j := ⟨_, rfl⟩
            rw [← hK]
            obtain ⟨ch, hch⟩ : ∃ ch, ch = (s.data.toList.drop (8 * i)).take 8 := ⟨_, rfl⟩
            rw [← hch] at hcl ⊢
            obtain ⟨d, hd⟩ : ∃ d, d = ch[j]'(by omega) := ⟨_, rfl⟩
            have hks : K < s.size := by have := HV.out.2; rw [ba_len] at this; have := HII.out; omega
            have dx : ∀ q, (s[K]'q) = d := by
              intro q
              have h1 : ch[j]? = some d := by rw [hd]; exact List.getElem?_eq_getElem _
              rw [hch, List.getElem?_take_of_lt hj8, List.getElem?_drop, ← HII.out, ← hK, List.getElem?_eq_getElem (by rw [ba_len]; exact q)] at h1
              exact Option.some.inj h1
            obtain ⟨v, hv⟩ : ∃ v, v = joinN (ch.take j) := ⟨_, rfl⟩
            rw [← hv]
            have hv2 : joinN (ch.take (j + 1)) = 256 * v + d.toNat := by
              rw [List.take_succ_eq_append_getElem (by omega), joinN_snoc, ← hv, ← hd]
            have hv3 : 256 * v + d.toNat < 9223372036854775808 := by
              rw [← hv2]
              refine Nat.lt_of_le_of_lt (joinN_take ch (j + 1)) ?_
              rw [hch]
              exact HV.out.1
            obtain ⟨u, hu⟩ : ∃ u, u = 256 * v + d.toNat := ⟨_, rfl⟩
            obtain ⟨x, hx⟩ : ∃ x, x = 256 * v := ⟨_, rfl⟩
            have m1 : (256 : Int) * (v : Int) = (x : Nat) := by omega
            have m2 : (x : Int) + (d.toNat : Int) = (u : Nat) := by omega
            have m3 : (x : Int) < 9223372036854775808 := by omega
            have m4 : (u : Int) < 9223372036854775808 := by omega
            have m5 : (K : Int) < (I : Int) + 8 := by omega
            have m6 : (K : Int) < (s.size : Int) := by omega
            have m7 : (d.toNat : Int) < 256 := by have := d.toNat_lt; omega
            have HN : Hid (u = joinN (ch.take (j + 1)) ∧ (K : Int) + 1 = ((I + (j + 1) : Nat) : Int) ∧ K = I + j ∧ j < 8) := ⟨by rw [hv2]; exact hu, by omega, hK, hj8⟩
            have hks' : K < s.size := hks
            clear hcl hK hch hd hks hv hv2 hv3 hu hx hj8 hj
            go_wp2_with fail
            go_round
            case rel => exact ⟨j + 1, HN.out.2.2.2, by rw [← HN.out.2.1], by rw [← HN.out.1]⟩
            case measure =>
              have h1 := HN.out.2.2.1
              have h2 := HN.out.2.2.2
              simp [Go.RowKit.intOf]; omega
          · obtain rfl : j = 8 := by omega
            have e8 : joinN (((s.data.toList.drop (8 * i)).take 8).take 8) = valAt s.data.toList i := by
              unfold valAt; rw [List.take_take]; rfl
            rw [e8]
            obtain ⟨v, hv⟩ : ∃ v, v = valAt s.data.toList i := ⟨_, rfl⟩
            rw [← hv]
            have hnl : ¬ ((I : Int) + 8 < (I : Int) + 8) := Int.lt_irrefl _
            have ek : ((I + 8 : Nat) : Int) = (I : Int) + 8 := by omega
            rw [ek]
            have HN : Hid (l ++ [(v : Int)] = (List.range (i + 1)).map (fun j => (valAt s.data.toList j : Int)) ∧ (∀ j, j < i + 1 → valAt s.data.toList j < 9223372036854775808) ∧ (I : Int) + 8 = ((8 * (i + 1) : Nat) : Int)) := by
              refine ⟨?_, fun j hj => ?_, by have := HII.out; omega⟩
              · rw [List.range_succ, List.map_append, ← HI.out.2.2.2.2, hv]; rfl
              · rcases Nat.lt_or_ge j i with c1 | c1
                · exact HI.out.2.2.1 j c1
                · obtain rfl : j = i := by omega
                  exact HV.out.1
            have hb0 : Below wr.heap.size wr (wr.alloc (.cells #[.int .i64 (v : Int)] 3)) := below_alloc0 (Below.refl _ _) _
            have HA : Hid (RowI (wr.alloc (.cells #[.int .i64 (v : Int)] 3)) w.heap.size a l cap ∧ Below w.heap.size w (wr.alloc (.cells #[.int .i64 (v : Int)] 3)) ∧ (wr.alloc (.cells #[.int .i64 (v : Int)] 3)).cell? ⟨wr.heap.size, 0, none⟩ = some (.int .i64 (v : Int)) ∧ l.length ≤ 1000000) :=
              ⟨HI.out.2.1.call hb0, below_call0 HI.out.2.2.2.1 hb0, by simp [go_sem], by rw [HI.out.2.2.2.2, List.length_map, List.length_range]; have := HC.out; omega⟩
            clear hb0 hv e8 ek hj8 hj
            go_wp2_with fail
            refine HKr2.out _ _ ?_
            clear HKr2
            go_wp2_with (at_builtin; refine wpList_append_RowI _ rfl (.tmp 41) (.tmp 43) rfl w.heap.size a m cap l (v : Int) rfl HI.out.1 HA.out.1 HA.out.2.1.size HA.out.2.2.2 ⟨wr.heap.size, 0, none⟩ 1 rfl HA.out.2.2.1 ?_; intro a5 m5 cap5 w5 hm5 hR5 hb5; have H5 : Hid (m5 = m + 1 ∧ RowI w5 w.heap.size a5 (l ++ [(v : Int)]) cap5 ∧ Below w.heap.size w w5) := ⟨hm5, hR5, HA.out.2.1.trans hb5⟩; clear hm5 hR5 hb5)
            have HG : Hid (m5 = ((List.range (i + 1)).map fun j => (valAt s.data.toList j : Int)).length ∧ RowI w5 w.heap.size a5 ((List.range (i + 1)).map fun j => (valAt s.data.toList j : Int)) cap5) := by
              have h5 := H5.out
              rw [← HN.out.1]
              exact ⟨by rw [h5.1, HI.out.1, List.length_append]; rfl, h5.2.1⟩
            go_roundw
            case rel => first | exact ⟨i + 1, m5, cap5, a5, hlt, by rw [← HN.out.2.2], rfl, HG.out.1, HG.out.2, HN.out.2.1, H5.out.2.2⟩ | ((repeat apply Exists.intro); exact ⟨⟨i + 1, m5, cap5, a5, hlt, by rw [← HN.out.2.2], rfl, HG.out.1, HG.out.2, HN.out.2.1, H5.out.2.2⟩, rfl⟩)
            case measure =>
              have h1 := HII.out
              simp [Go.RowKit.intOf]; omega
    · obtain rfl : i = c := by omega
      have hnl : ¬ ((I : Int) < (s.size : Int)) := by have h1 := HC.out; have h2 := HII.out; omega
      have HF : Hid (tiB s.data.toList = true) := tiB_all (by rw [ba_len]; exact HC.out.2.1) (by rw [ba_len]; exact HC.out.2.2.1) (fun j hj => HI.out.2.2.1 j (by rw [ba_len, ← HC.out.1] at hj; exact hj))
      clear hlt hi'
      go_wp2_with fail
      refine HKr.out _ _ ?_
      clear HKr
      go_wp2_with fail
      refine bodyPost_ret (v := .tuple #[.slice a m cap, .int .i64 0]) (by simp [results, Try.results42, go_sem]) rfl ?_
      obtain ⟨g1, g2⟩ := ti_yes HF.out
      rw [ba_len, ← HC.out.1, ← HI.out.2.2.2.2] at g2
      exact ⟨a, cap, by rw [g1, g2, HI.out.1], by rw [g2]; exact HI.out.2.1.ints, HI.out.2.2.2.1⟩
end Go.Proofs.Ytadcjdffjhiniaa
