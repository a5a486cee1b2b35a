/- Package link: which bytes are a letter of a kind, its bytes. -/
import Derived.Test.YtadcjdffjhiniaaPiG
import Derived.Test.YtadcjdffjhiniaaPcX
import Derived.Test.YtadcjdffjhiniaaRowV
namespace Go.Proofs.Ytadcjdffjhiniaa
open Go Go.RowKit Go.Lib

/-- The number that eight bytes are, if it is one. -/
def n8v (s : ByteArray) : Option Nat := if s.size = 8 ∧ valAt s.data.toList 0 < 9223372036854775808 then some (valAt s.data.toList 0) else none
theorem n8v_ti {s : ByteArray} (h8 : s.size = 8) : tiB s.data.toList = decide (valAt s.data.toList 0 < 9223372036854775808) := by
  unfold tiB
  rw [ba_len, h8]
  simp [List.range, List.range.loop]
theorem n8v_some {s : ByteArray} {v : Nat} (h : n8v s = some v) : s.size = 8 ∧ tiE s.data.toList = 0 ∧ tiL s.data.toList = [(v : Int)] := by
  unfold n8v at h
  split at h
  · next c =>
    injection h with h
    have hB : tiB s.data.toList = true := by rw [n8v_ti c.1, decide_eq_true c.2]
    obtain ⟨h1, h2⟩ := ti_yes hB
    refine ⟨c.1, h1, ?_⟩
    rw [h2, ba_len, c.1, ← h]
    rfl
  · cases h
theorem n8v_none {s : ByteArray} (h : n8v s = none) : s.size ≠ 8 ∨ (tiE s.data.toList = 4 ∧ tiL s.data.toList = []) := by
  by_cases h8 : s.size = 8
  · right
    refine ti_no ?_
    rw [n8v_ti h8]
    unfold n8v at h
    split at h
    · cases h
    · next c => exact decide_eq_false fun q => c ⟨h8, q⟩
  · exact .inl h8
theorem toInt_some {s : ByteArray} {v : Nat} (h : n8v s = some v) (w : World) : Calls Try.prog 38 #[.string s] w fun e w' => e = .returned (.tuple #[.int .i64 (v : Nat), .int .i64 0]) ∧ Below w.heap.size w w' :=
  toInt_in s v (n8v_some h).1 (n8v_some h).2.1 (n8v_some h).2.2 w
theorem toInt_none {s : ByteArray} (hz : s.size < 140737488351233) (h : n8v s = none) (w : World) : Calls Try.prog 38 #[.string s] w fun e w' => e = .returned (.tuple #[.int .i64 0, .int .i64 4]) ∧ Below w.heap.size w w' := by
  rcases n8v_none h with h | h
  · exact toInt_size s h w
  · exact toInt_bad s hz h.1 h.2 w
theorem n8v_lt {s : ByteArray} {v : Nat} (h : n8v s = some v) : v < 9223372036854775808 := by
  unfold n8v at h
  split at h
  · next c => injection h with h; omega
  · cases h
theorem n8v_in (n : Nat) (hn : n < 9223372036854775808) : n8v (inS [(n : Int)]) = some n := by
  have hb : inB [(n : Int)] = true := by simp [inB]
  obtain ⟨h1, h2⟩ := in_ok (l := [(n : Int)]) (by simp) hb
  have hv := valAt_inL [(n : Int)] (fun m hm => by simp at hm; subst hm; omega) 0 (by simp)
  have hl : (ofL (inL [(n : Int)])).size = 8 := by rw [ofL_size, inL_length]; rfl
  have hv' : valAt (inL [(n : Int)]) 0 = n := by simp at hv; omega
  unfold n8v
  rw [h2, hl, ofL_data, hv', if_pos ⟨rfl, hn⟩]

/-- The life, the number and what else there is of a letter of kind k with so many items besides; if bytes are one. -/
def lkU (k rest : Nat) (s : ByteArray) : Option (Nat × Nat × List ByteArray) :=
  if upE s.data.toList = 0 ∧ upK s.data.toList = (k : Nat) then
    match upL s.data.toList with
    | a :: b :: r => if r.length = rest then
        match n8v a, n8v b with
        | some l, some n => if 1 ≤ l ∧ l ≤ 1099511627776 ∧ n ≤ 1099511627776 then some (l, n, r) else none
        | _, _ => none
      else none
    | _ => none
  else none
theorem lkU_inv {k rest : Nat} {s : ByteArray} {l n : Nat} {r : List ByteArray} (h : lkU k rest s = some (l, n, r)) :
    ∃ a b, upE s.data.toList = 0 ∧ upK s.data.toList = (k : Nat) ∧ upL s.data.toList = a :: b :: r ∧ r.length = rest ∧ n8v a = some l ∧ n8v b = some n ∧ 1 ≤ l ∧ l ≤ 1099511627776 ∧ n ≤ 1099511627776 := by
  unfold lkU at h
  split at h
  · next c =>
    split at h
    · next a b r' e =>
      split at h
      · next c2 =>
        split at h
        · next l' n' e1 e2 =>
          split at h
          · next c3 =>
            injection h with h
            injection h with h h'
            injection h' with h' h''
            subst h h' h''
            exact ⟨a, b, c.1, c.2, e, c2, e1, e2, c3⟩
          · cases h
        · cases h
      · cases h
    · cases h
  · cases h
theorem lkU_no {k rest : Nat} {s : ByteArray} (h : lkU k rest s = none) :
    upE s.data.toList ≠ 0 ∨ (upE s.data.toList = 0 ∧ upK s.data.toList ≠ (k : Nat)) ∨ (upE s.data.toList = 0 ∧ upK s.data.toList = (k : Nat) ∧ (upL s.data.toList).length ≠ 2 + rest) ∨
    ∃ a b r, upE s.data.toList = 0 ∧ upK s.data.toList = (k : Nat) ∧ upL s.data.toList = a :: b :: r ∧ r.length = rest ∧ (n8v a = none ∨ (∃ l, n8v a = some l ∧ ¬ (1 ≤ l ∧ l ≤ 1099511627776)) ∨
      ∃ l, n8v a = some l ∧ (1 ≤ l ∧ l ≤ 1099511627776) ∧ (n8v b = none ∨ ∃ n, n8v b = some n ∧ ¬ n ≤ 1099511627776)) := by
  by_cases h1 : upE s.data.toList = 0
  · by_cases h2 : upK s.data.toList = (k : Nat)
    · by_cases h3 : (upL s.data.toList).length = 2 + rest
      · right; right; right
        match e : upL s.data.toList with
        | [] => rw [e] at h3; simp at h3; omega
        | [a] => rw [e] at h3; simp at h3; omega
        | a :: b :: r =>
          rw [e] at h3
          have hr : r.length = rest := by simp at h3; omega
          refine ⟨a, b, r, h1, h2, rfl, hr, ?_⟩
          unfold lkU at h
          rw [if_pos ⟨h1, h2⟩, e] at h
          simp only [hr, if_true] at h
          match ea : n8v a with
          | none => exact .inl rfl
          | some l =>
            right
            by_cases hl : 1 ≤ l ∧ l ≤ 1099511627776
            · right
              refine ⟨l, rfl, hl, ?_⟩
              match eb : n8v b with
              | none => exact .inl rfl
              | some n =>
                right
                refine ⟨n, rfl, fun hn => ?_⟩
                rw [ea, eb] at h
                simp only [hl.1, hl.2, hn, and_self, if_true] at h
                cases h
            · exact .inl ⟨l, rfl, hl⟩
      · exact .inr (.inr (.inl ⟨h1, h2, h3⟩))
    · exact .inr (.inl ⟨h1, h2⟩)
  · exact .inl h1
theorem lkU_yes {k rest : Nat} {s : ByteArray} {a b : ByteArray} {r : List ByteArray} {l n : Nat} (h1 : upE s.data.toList = 0) (h2 : upK s.data.toList = (k : Nat)) (h3 : upL s.data.toList = a :: b :: r) (h4 : r.length = rest) (h5 : n8v a = some l) (h6 : n8v b = some n) (h7 : 1 ≤ l ∧ l ≤ 1099511627776 ∧ n ≤ 1099511627776) : lkU k rest s = some (l, n, r) := by
  unfold lkU
  rw [if_pos ⟨h1, h2⟩, h3]
  simp only [h4, if_true, h5, h6, h7, and_self]

/-- A letter's bytes. -/
def letS (k : Nat) (l n : Nat) (r : List ByteArray) : ByteArray := pkS (k : Nat) (inS [(l : Int)] :: inS [(n : Int)] :: r)
theorem inS_size (n : Nat) : (inS [(n : Int)]).size = 8 := by
  obtain ⟨_, h2⟩ := in_ok (l := [(n : Int)]) (by simp) (by simp [inB])
  rw [h2, ofL_size, inL_length]; rfl
theorem let_fit {l n : Nat} {r : List ByteArray} (hr : r.length ≤ 1) (hs : ∀ s ∈ r, s.size ≤ 8000) : fitB (inS [(l : Int)] :: inS [(n : Int)] :: r) = true := by
  have h1 := inS_size l
  have h2 := inS_size n
  unfold fitB okS
  match r, hr, hs with
  | [], _, _ => simp [h1, h2, sumN]
  | [t], _, hs =>
    have ht := hs t (by simp)
    simp [h1, h2, sumN, ht]
    omega
theorem lkU_let {k l n : Nat} {r : List ByteArray} (hk : kindB (k : Nat) = true) (hr : r.length ≤ 1) (hs : ∀ s ∈ r, s.size ≤ 8000) (hl : 1 ≤ l ∧ l ≤ 1099511627776 ∧ n ≤ 1099511627776) : lkU k r.length (letS k l n r) = some (l, n, r) := by
  have hf := let_fit (l := l) (n := n) hr hs
  have hp : letS k l n r = ofL (packL k (inS [(l : Int)] :: inS [(n : Int)] :: r)) := (pk_yes hk hf).1
  obtain ⟨u1, u2, u3⟩ := up_pack hk hf
  rw [hp]
  exact lkU_yes (by rw [ofL_data]; exact u1) (by rw [ofL_data]; exact u2) (by rw [ofL_data]; exact u3) rfl (n8v_in l (by omega)) (n8v_in n (by omega)) hl

theorem isLife_any (n : Int) (w : World) : Calls Try.prog 25 #[.int .i64 n] w fun e w' => e = .returned (.bool (decide (1 ≤ n ∧ n ≤ 1099511627776))) ∧ w' = w := by
  by_cases h1 : 1 ≤ n
  · by_cases h2 : n ≤ 1099511627776
    · rw [decide_eq_true ⟨h1, h2⟩]
      go_enter Try.func25, Try.ntmps25
      go_wp2
      go_ret
      exact ⟨rfl, rfl⟩
    · rw [decide_eq_false (fun c => h2 c.2)]
      go_enter Try.func25, Try.ntmps25
      go_wp2
      go_ret
      exact ⟨rfl, rfl⟩
  · rw [decide_eq_false (fun c => h1 c.1)]
    go_enter Try.func25, Try.ntmps25
    go_wp2
    go_ret
    exact ⟨rfl, rfl⟩
theorem upE_not {t : List UInt8} (h : upE t ≠ 0) : upK t = 0 ∧ upL t = [] := ⟨(up_no rfl h).1, (up_no rfl h).2.1⟩
def noPost (w : World) (e : Ending) (w' : World) : Prop := e = .returned (.tuple #[.int .i64 0, .int .i64 0, .slice none 0 0, .int .i64 4]) ∧ Below w.heap.size w w'
theorem upL_ok {t : List UInt8} (h : upE t = 0) : ∀ s ∈ upL t, s.size ≤ 8000 := fun s hs => by
  have hf := (pack_up h).2.1
  unfold fitB at hf
  simp only [Bool.and_eq_true, decide_eq_true_eq] at hf
  have := List.all_eq_true.1 hf.1.2 s hs
  simpa using this
set_option maxHeartbeats 2000000 in
theorem lunpack_no {k rest : Nat} {s : ByteArray} (hs : s.size < 140737488351233) (hr : rest ≤ 40) (h : lkU k rest s = none) (w : World) : Calls Try.prog 27 #[.string s, .int .i64 (k : Nat), .int .i64 (rest : Nat)] w fun e w' => noPost w e w' := by
  rcases lkU_no h with h1 | ⟨h1, h2⟩ | ⟨h1, h2, h3⟩ | ⟨a, b, r, h1, h2, h3, h4, h5⟩
  · have KU : Hid _ := fun w' : World => unpack_any s hs w'
    unfold upPost at KU
    obtain ⟨E, hE⟩ : ∃ E, E = upE s.data.toList := ⟨_, rfl⟩
    rw [← hE] at KU h1
    rw [(upE_not (t := s.data.toList) (by rw [← hE]; exact h1)).1, (upE_not (t := s.data.toList) (by rw [← hE]; exact h1)).2] at KU
    clear h hE
    go_enter Try.func27, Try.ntmps27
    go_wp2_with fail
    refine (KU.out _).mono ?_
    rintro e w1 ⟨p, cap, rfl, -, hb1⟩
    have H1 : Hid _ := hb1
    clear hb1 KU
    go_wp2_with fail
    exact bodyPost_ret (v := .tuple #[.int .i64 0, .int .i64 0, .slice none 0 0, .int .i64 4]) (by simp [results, Try.results27, go_sem]) rfl ⟨rfl, H1.out⟩
  · have KU : Hid _ := fun w' : World => unpack_any s hs w'
    unfold upPost at KU
    obtain ⟨K, hK⟩ : ∃ K, K = upK s.data.toList := ⟨_, rfl⟩
    rw [← hK] at KU h2
    rw [h1] at KU
    clear h hK h1
    go_enter Try.func27, Try.ntmps27
    go_wp2_with fail
    refine (KU.out _).mono ?_
    rintro e w1 ⟨p, cap, rfl, -, hb1⟩
    have H1 : Hid _ := hb1
    clear hb1 KU
    go_wp2_with fail
    exact bodyPost_ret (v := .tuple #[.int .i64 0, .int .i64 0, .slice none 0 0, .int .i64 4]) (by simp [results, Try.results27, go_sem]) rfl ⟨rfl, H1.out⟩
  · have KU : Hid _ := fun w' : World => unpack_any s hs w'
    unfold upPost at KU
    obtain ⟨n, hn⟩ : ∃ n, n = (upL s.data.toList).length := ⟨_, rfl⟩
    rw [← hn] at KU h3
    rw [h1, h2] at KU
    have h3' : ¬ ((n : Int) = 2 + (rest : Int)) := by omega
    clear h hn h1 h2 h3
    go_enter Try.func27, Try.ntmps27
    go_wp2_with fail
    refine (KU.out _).mono ?_
    rintro e w1 ⟨p, cap, rfl, -, hb1⟩
    have H1 : Hid _ := hb1
    clear hb1 KU
    go_wp2_with fail
    exact bodyPost_ret (v := .tuple #[.int .i64 0, .int .i64 0, .slice none 0 0, .int .i64 4]) (by simp [results, Try.results27, go_sem]) rfl ⟨rfl, H1.out⟩
  · have hz := upL_ok h1
    rw [h3] at hz
    have az : a.size < 140737488351233 := by have := hz a (by simp); omega
    have bz : b.size < 140737488351233 := by have := hz b (by simp); omega
    have KU : Hid (∀ w' : World, Calls Try.prog 37 #[.string s] w' fun e w'' => ∃ p cap, e = .returned (.tuple #[.int .i64 (k : Nat), .slice p (2 + rest) cap, .int .i64 0]) ∧ Strs w'' p (a :: b :: r) ∧ Below w'.heap.size w' w'') := fun w' => by
      have := unpack_any s hs w'
      unfold upPost at this
      rw [h1, h2, h3] at this
      have e : (a :: b :: r).length = 2 + rest := by simp; omega
      rw [e] at this
      exact this
    clear h h1 h2 h3 hz h4
    rcases h5 with h5 | ⟨l, h5, h6⟩ | ⟨l, h5, h6, h7⟩
    · have KA : Hid _ := fun w' : World => toInt_none az h5 w'
      clear h5 az bz
      go_enter Try.func27, Try.ntmps27
      go_wp2_with fail
      refine (KU.out _).mono ?_
      rintro e w1 ⟨p, cap, rfl, hS1, hb1⟩
      obtain ⟨pb, po, rfl, hc0, hp0⟩ := hS1 0 a rfl
      rw [Nat.add_zero] at hc0
      have H1 : Hid _ := hb1
      clear hb1 KU hS1
      go_wp2_with fail
      refine (KA.out _).mono ?_
      rintro e w2 ⟨rfl, hb2⟩
      have H2 : Hid _ := below_call0 H1.out hb2
      clear hb2 KA H1
      go_wp2_with fail
      exact bodyPost_ret (v := .tuple #[.int .i64 0, .int .i64 0, .slice none 0 0, .int .i64 4]) (by simp [results, Try.results27, go_sem]) rfl ⟨rfl, H2.out⟩
    · have KA : Hid _ := fun w' : World => toInt_some h5 w'
      have KL : Hid _ := fun w' : World => isLife_any (l : Nat) w'
      rw [decide_eq_false (by omega)] at KL
      clear h5 az bz
      go_enter Try.func27, Try.ntmps27
      go_wp2_with fail
      refine (KU.out _).mono ?_
      rintro e w1 ⟨p, cap, rfl, hS1, hb1⟩
      obtain ⟨pb, po, rfl, hc0, hp0⟩ := hS1 0 a rfl
      rw [Nat.add_zero] at hc0
      have H1 : Hid _ := hb1
      clear hb1 KU hS1
      go_wp2_with fail
      refine (KA.out _).mono ?_
      rintro e w2 ⟨rfl, hb2⟩
      have H2 : Hid _ := below_call0 H1.out hb2
      clear hb2 KA H1
      go_wp2_with fail
      refine (KL.out _).mono ?_
      rintro e w3 ⟨rfl, rfl⟩
      go_wp2_with fail
      exact bodyPost_ret (v := .tuple #[.int .i64 0, .int .i64 0, .slice none 0 0, .int .i64 4]) (by simp [results, Try.results27, go_sem]) rfl ⟨rfl, H2.out⟩
    · have KA : Hid _ := fun w' : World => toInt_some h5 w'
      have KL : Hid _ := fun w' : World => isLife_any (l : Nat) w'
      rw [decide_eq_true (by omega)] at KL
      rcases h7 with h7 | ⟨n, h7, h8⟩
      · have KB : Hid _ := fun w' : World => toInt_none bz h7 w'
        clear h5 az bz h7
        go_enter Try.func27, Try.ntmps27
        go_wp2_with fail
        refine (KU.out _).mono ?_
        rintro e w1 ⟨p, cap, rfl, hS1, hb1⟩
        obtain ⟨pb, po, rfl, hc0, hp0⟩ := hS1 0 a rfl
        rw [Nat.add_zero] at hc0
        obtain ⟨pb', po', he, hc1, -⟩ := hS1 1 b rfl
        cases he
        have H1 : Hid _ := hb1
        clear hb1 KU hS1
        go_wp2_with fail
        refine (KA.out _).mono ?_
        rintro e w2 ⟨rfl, hb2⟩
        have hc1' : w2.cell? ⟨pb, po + 1, none⟩ = some (.string b) := (hb2.cell (p := ⟨pb, po + 1, none⟩) hp0).trans hc1
        have H2 : Hid _ := below_call0 H1.out hb2
        clear hb2 KA H1
        go_wp2_with fail
        refine (KL.out _).mono ?_
        rintro e w3 ⟨rfl, rfl⟩
        go_wp2_with fail
        refine (KB.out _).mono ?_
        rintro e w4 ⟨rfl, hb4⟩
        have H4 : Hid _ := below_call0 H2.out hb4
        clear hb4 KB H2
        go_wp2_with fail
        exact bodyPost_ret (v := .tuple #[.int .i64 0, .int .i64 0, .slice none 0 0, .int .i64 4]) (by simp [results, Try.results27, go_sem]) rfl ⟨rfl, H4.out⟩
      · have KB : Hid _ := fun w' : World => toInt_some h7 w'
        have h8' : (1099511627776 : Int) < (n : Int) := by omega
        clear h5 az bz h7
        go_enter Try.func27, Try.ntmps27
        go_wp2_with fail
        refine (KU.out _).mono ?_
        rintro e w1 ⟨p, cap, rfl, hS1, hb1⟩
        obtain ⟨pb, po, rfl, hc0, hp0⟩ := hS1 0 a rfl
        rw [Nat.add_zero] at hc0
        obtain ⟨pb', po', he, hc1, -⟩ := hS1 1 b rfl
        cases he
        have H1 : Hid _ := hb1
        clear hb1 KU hS1
        go_wp2_with fail
        refine (KA.out _).mono ?_
        rintro e w2 ⟨rfl, hb2⟩
        have hc1' : w2.cell? ⟨pb, po + 1, none⟩ = some (.string b) := (hb2.cell (p := ⟨pb, po + 1, none⟩) hp0).trans hc1
        have H2 : Hid _ := below_call0 H1.out hb2
        clear hb2 KA H1
        go_wp2_with fail
        refine (KL.out _).mono ?_
        rintro e w3 ⟨rfl, rfl⟩
        go_wp2_with fail
        refine (KB.out _).mono ?_
        rintro e w4 ⟨rfl, hb4⟩
        have H4 : Hid _ := below_call0 H2.out hb4
        clear hb4 KB H2
        go_wp2_with fail
        exact bodyPost_ret (v := .tuple #[.int .i64 0, .int .i64 0, .slice none 0 0, .int .i64 4]) (by simp [results, Try.results27, go_sem]) rfl ⟨rfl, H4.out⟩
end Go.Proofs.Ytadcjdffjhiniaa
