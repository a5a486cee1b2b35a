/- The law CastReady: the walk. -/
import Derived.Test.YtdfadinpeeigkaaCaF
namespace Go.Proofs.Ytdfadinpeeigkaa
open Go Go.RowKit Go.Lib

/-- What the one mark is, behind i texts. -/
def RI (fl : Nat → Bool) (H : List ByteArray) (n i : Nat) (o : ByteArray) : Prop := ∀ (j : Nat) (t : ByteArray), j < i → j < n → fl j = false → H[j]? = some t → t ≠ ⟨#[]⟩ → t = o
theorem RI.skip {fl : Nat → Bool} {H : List ByteArray} {n i : Nat} {o : ByteArray} (h : RI fl H n i o) (hs : ∀ t, i < n → fl i = false → H[i]? = some t → t ≠ ⟨#[]⟩ → t = o) : RI fl H n (i + 1) o :=
  fun j t hj hn hf ht he => if e : j = i then by subst e; exact hs t hn hf ht he else h j t (by omega) hn hf ht he
theorem RI.all {fl : Nat → Bool} {H : List ByteArray} {n : Nat} {o : ByteArray} (h : RI fl H n H.length o) : ∀ i, i < n → fl i = false → H.getD i ⟨#[]⟩ ≠ ⟨#[]⟩ → H.getD i ⟨#[]⟩ = o := fun i hi hf he => by
  rw [List.getD_eq_getElem?_getD] at he ⊢
  cases e : H[i]? with
  | none => rw [e] at he; exact absurd rfl he
  | some t =>
    rw [e] at he
    exact h i t (List.getElem?_eq_some_iff.1 e).1 hi hf e he
set_option maxRecDepth 100000 in
set_option maxHeartbeats 8000000 in
theorem castReady_ok (n f : Nat) (s : Int) (ha aa ba : Option Addr) (H A B : List ByteArray) (hl hc al ac bl bc : Nat) (h43 : H.length ≤ 8796093022208) (w : World) (hT : TIn w n f ha aa ba H A B hl al bl) :
    Calls Try.prog 5 #[.int .i64 (n : Nat), .int .i64 (f : Nat), .agg #[.int .i64 s, .slice ha hl hc, .slice aa al ac, .slice ba bl bc]] w fun e w' => e = .returned (.bool true) ∧ Below w.heap.size w w' := by
  have HD : Hid (decide (1 ≤ (n : Int) ∧ (n : Int) ≤ 10 ∧ 0 ≤ (f : Int) ∧ 3 * (f : Int) < (n : Int)) = true) := decide_eq_true (by have := hT.n1; have := hT.n10; have := hT.hf; omega)
  obtain ⟨w1, hw1⟩ : ∃ w1, w1 = w.alloc (.cells #[.int .i64 s, .slice ha hl hc, .slice aa al ac, .slice ba bl bc] 32) := ⟨_, rfl⟩
  obtain ⟨p0, p1, p2, p3, hz1, hB1⟩ := told_world hw1
  obtain ⟨Q, hQ⟩ : ∃ Q, Q = w.heap.size := ⟨_, rfl⟩
  rw [← hQ] at p0 p1 p2 p3
  have HT : Hid (TIn w1 n f ha aa ba H A B hl al bl ∧ Below w.heap.size w w1 ∧ w1.heap.size = Q + 1) := ⟨hT.call hB1, hB1, by omega⟩
  obtain ⟨P1, hP1⟩ : ∃ P1, P1 = pick (n - f) (vL (flB s f) H A n) := ⟨_, rfl⟩
  obtain ⟨P2, hP2⟩ : ∃ P2, P2 = pick (f + 1) (vL (flB s f) H B n) := ⟨_, rfl⟩
  have HP : Hid (∀ o, RI (flB s f) H n H.length o → ∀ a, P1 = some a → a = o ∧ P2 = some o) := fun o hR a e1 => by rw [hP2]; exact all_ready (flB_le s f n) hT.hf hR.all (hP1.symm.trans e1)
  have K1 : Hid (∀ w' ra rc, Strs w' ra (vL (flB s f) H A n) → Calls Try.prog 10 #[.int .i64 (n : Nat), .int .i64 (f : Nat), .slice ra n rc] w' fun e w'' => e = .returned (.tuple #[.string (pikS P1), .bool (pikB P1), .int .i64 0]) ∧ Below w'.heap.size w' w'') := fun w' ra rc h => by rw [hP1]; exact sure_ok n f ra _ rc (vL_ok hT.n1 hT.n10 hT.hf hT.zh hT.za) w' h
  have K2 : Hid (∀ w' ra rc, Strs w' ra (vL (flB s f) H B n) → Calls Try.prog 9 #[.int .i64 (n : Nat), .int .i64 (f : Nat), .slice ra n rc] w' fun e w'' => e = .returned (.tuple #[.string (pikS P2), .bool (pikB P2), .int .i64 0]) ∧ Below w'.heap.size w' w'') := fun w' ra rc h => by rw [hP2]; exact ready_ok n f ra _ rc (vL_ok hT.n1 hT.n10 hT.hf hT.zh hT.zb) w' h
  have l43 : (hl : Int) ≤ 8796093022208 := by have := hT.lh; omega
  clear hz1 hB1 hT hP1 hP2 h43
  go_enter Try.func5, Try.ntmps5
  go_wp2_with fail
  refine (crtable_any _ _ _).mono ?_
  rintro e w2 ⟨rfl, hw2⟩
  rw [HD.out]
  obtain rfl : w2 = w1 := hw2.trans hw1.symm
  rw [← hQ]
  clear hw1 hQ hw2
  go_wp2_with fail
  rename_i Kr hKr
  have HKr : Hid _ := hKr
  clear hKr
  go_loopw [7, 23] (fun ov iv wr => ∃ (i : Nat) (x : ByteArray), i ≤ hl ∧ iv = .int .i64 (i : Nat) ∧ ov = .string x ∧ RI (flB s f) H n i x ∧ w2 = wr) (fun _ iv _ => hl - (Go.RowKit.intOf iv).toNat)
  case atStart => exact ⟨0, ⟨#[]⟩, Nat.zero_le _, rfl, rfl, fun j t hj => absurd hj (by omega), rfl⟩
  case round =>
    obtain ⟨i, x, hi, rfl, rfl, hR, hwr⟩ := hrel
    subst hwr
    have HR : Hid (RI (flB s f) H n i x) := hR
    clear hR
    by_cases hlt : i < hl
    · have hlt' : (i : Int) < (hl : Int) := by omega
      have HLT : Hid (i < hl) := hlt
      have hi0 : (0 : Int) ≤ (i : Int) := by omega
      clear HKr hi
      by_cases hin : n ≤ i
      · have hin' : (n : Int) ≤ (i : Int) := by omega
        have HX : Hid (RI (flB s f) H n (i + 1) x) := HR.out.skip (fun t h => absurd h (by omega))
        clear hlt hin
        go_wp2_with fail
        go_roundw
        case rel => first | exact ⟨i + 1, x, HLT.out, by go_num, rfl, HX.out, by first | rfl | trivial⟩ | ((repeat apply Exists.intro); exact ⟨⟨i + 1, x, HLT.out, by go_num, rfl, HX.out, by first | rfl | trivial⟩, rfl⟩)
        case measure => have h1 := HLT.out; simp [Go.RowKit.intOf]; omega
      · have hin' : ¬ ((n : Int) ≤ (i : Int)) := by omega
        have KF : Hid (∀ w, Calls Try.prog 15 #[.int .i64 s, .int .i64 (f : Nat), .int .i64 (i : Nat)] w fun e w' => e = .returned (.bool (flB s f i)) ∧ w' = w) := fun w => bad_any s f i (by have := HT.out.1.hf; have := HT.out.1.n10; omega) (by have := HT.out.1.n10; omega) w
        obtain ⟨D, hD⟩ : ∃ D, D = flB s f i := ⟨_, rfl⟩
        rw [← hD] at KF
        have HDD : Hid (D = flB s f i) := hD
        clear hin hD
        have e := List.getElem?_eq_getElem (show i < H.length from by have := HT.out.1.lh; omega)
        obtain ⟨t, ht⟩ : ∃ t, H[i]? = some t := ⟨_, e⟩
        obtain ⟨pp, oo, hpa, cp, _⟩ := HT.out.1.sh i t ht
        subst hpa
        have HTT : Hid (H[i]? = some t) := ht
        clear ht e hlt
        cases D with
        | true =>
          have HX : Hid (RI (flB s f) H n (i + 1) x) := HR.out.skip (fun t _ h => absurd (HDD.out.trans h) (by decide))
          go_wp2_with fail
          refine (KF.out _).mono ?_
          rintro e w6 ⟨rfl, hw6⟩
          obtain rfl : w2 = w6 := hw6.symm
          go_wp2_with fail
          go_roundw
          case rel => first | exact ⟨i + 1, x, HLT.out, by go_num, rfl, HX.out, by first | rfl | trivial⟩ | ((repeat apply Exists.intro); exact ⟨⟨i + 1, x, HLT.out, by go_num, rfl, HX.out, by first | rfl | trivial⟩, rfl⟩)
          case measure => have h1 := HLT.out; simp [Go.RowKit.intOf]; omega
        | false =>
          by_cases hte : t = ⟨#[]⟩
          · have HX : Hid (RI (flB s f) H n (i + 1) x) := HR.out.skip (fun t' _ _ h he => absurd (by rw [HTT.out] at h; cases h; exact hte) he)
            subst hte
            go_wp2_with fail
            refine (KF.out _).mono ?_
            rintro e w6 ⟨rfl, hw6⟩
            obtain rfl : w2 = w6 := hw6.symm
            go_wp2_with fail
            go_roundw
            case rel => first | exact ⟨i + 1, x, HLT.out, by go_num, rfl, HX.out, by first | rfl | trivial⟩ | ((repeat apply Exists.intro); exact ⟨⟨i + 1, x, HLT.out, by go_num, rfl, HX.out, by first | rfl | trivial⟩, rfl⟩)
            case measure => have h1 := HLT.out; simp [Go.RowKit.intOf]; omega
          · obtain ⟨f1, f2, f3, f4⟩ := full_facts hte
            have HTE : Hid (t ≠ ⟨#[]⟩) := hte
            clear hte
            by_cases hxe : x = ⟨#[]⟩
            · have HX : Hid (RI (flB s f) H n (i + 1) t) := fun j y hj hn hf hy he => by
                by_cases e : j = i
                · subst e; rw [HTT.out] at hy; cases hy; rfl
                · exact absurd (HR.out j y (by omega) hn hf hy he) (fun c => he (by rw [c, hxe]))
              subst hxe
              go_wp2_with fail
              refine (KF.out _).mono ?_
              rintro e w6 ⟨rfl, hw6⟩
              obtain rfl : w2 = w6 := hw6.symm
              go_wp2_with fail
              go_roundw
              case rel => first | exact ⟨i + 1, t, HLT.out, by go_num, rfl, HX.out, by first | rfl | trivial⟩ | ((repeat apply Exists.intro); exact ⟨⟨i + 1, t, HLT.out, by go_num, rfl, HX.out, by first | rfl | trivial⟩, rfl⟩)
              case measure => have h1 := HLT.out; simp [Go.RowKit.intOf]; omega
            · obtain ⟨r1, r2, r3, r4⟩ := full_facts hxe
              clear hxe
              by_cases htx : t = x
              · have HX : Hid (RI (flB s f) H n (i + 1) t) := by
                  rw [htx]
                  exact HR.out.skip (fun t' _ _ h _ => by rw [HTT.out] at h; cases h; exact htx)
                have q1 : (t.toList == x.toList) = true := by rw [htx]; simp only [BEq.rfl]
                have q2 : (t.toList != x.toList) = false := by rw [bne, q1]; rfl
                clear htx
                go_wp2_with fail
                refine (KF.out _).mono ?_
                rintro e w6 ⟨rfl, hw6⟩
                obtain rfl : w2 = w6 := hw6.symm
                go_wp2_with fail
                go_roundw
                case rel => first | exact ⟨i + 1, t, HLT.out, by go_num, rfl, HX.out, by first | rfl | trivial⟩ | ((repeat apply Exists.intro); exact ⟨⟨i + 1, t, HLT.out, by go_num, rfl, HX.out, by first | rfl | trivial⟩, rfl⟩)
                case measure => have h1 := HLT.out; simp [Go.RowKit.intOf]; omega
              · have q1 : (t.toList == x.toList) = false := toList_neC htx
                have q2 : (t.toList != x.toList) = true := by rw [bne, q1]; rfl
                clear htx
                go_wp2_with fail
                refine (KF.out _).mono ?_
                rintro e w6 ⟨rfl, hw6⟩
                obtain rfl : w2 = w6 := hw6.symm
                go_wp2_with fail
                refine (four_any _).mono ?_
                rintro e w7 ⟨rfl, hb⟩
                have HB : Hid (Below w.heap.size w w7) := below_call0 HT.out.2.1 hb
                clear hb
                go_wp2_with fail
                go_ret
                exact ⟨rfl, HB.out⟩
    · obtain rfl : i = hl := by omega
      have hnl : ¬ ((i : Int) < (i : Int)) := Int.lt_irrefl _
      have HRA : Hid (RI (flB s f) H n H.length x) := by rw [← HT.out.1.lh]; exact HR.out
      clear hlt hi
      go_wp2_with fail
      refine HKr.out _ _ ?_
      clear HKr
      go_wp2_with fail
      refine (votes_any n f HT.out.1.n10 (by have := HT.out.1.hf; have := HT.out.1.n10; omega) s ha aa ba aa hc al ac bl bc ac H A i al HT.out.1.lh HT.out.1.la _ HT.out.1.sh HT.out.1.sa).mono ?_
      rintro e w3 ⟨ra, rc, rfl, hS3, hb3⟩
      have H3 : Hid (Strs w3 ra (vL (flB s f) H A n) ∧ TIn w3 n f ha aa ba H A B i al bl ∧ Below w2.heap.size w2 w3) := ⟨hS3, HT.out.1.call hb3, hb3⟩
      clear hS3 hb3
      go_wp2_with fail
      refine (K1.out _ ra rc H3.out.1).mono ?_
      rintro e w4 ⟨rfl, hb4⟩
      have H4 : Hid (TIn w4 n f ha aa ba H A B i al bl ∧ Below w2.heap.size w2 w4) := ⟨H3.out.2.1.call hb4, below_call0 H3.out.2.2 hb4⟩
      have ec : ∀ o, w4.cell? ⟨Q, o, none⟩ = w2.cell? ⟨Q, o, none⟩ := fun o => H4.out.2.cell (p := ⟨Q, o, none⟩) (by have := HT.out.2.2; show Q < _; omega)
      have r0 := (ec 0).trans p0
      have r1 := (ec 1).trans p1
      have r2 := (ec 2).trans p2
      have r3 := (ec 3).trans p3
      clear hb4 ec p0 p1 p2 p3
      go_wp2_with fail
      refine (votes_any n f HT.out.1.n10 (by have := HT.out.1.hf; have := HT.out.1.n10; omega) s ha aa ba ba hc al ac bl bc bc H B i bl HT.out.1.lh HT.out.1.lb _ H4.out.1.sh H4.out.1.sb).mono ?_
      rintro e w5 ⟨rb, rd, rfl, hS5, hb5⟩
      have H5 : Hid (Strs w5 rb (vL (flB s f) H B n) ∧ Below w2.heap.size w2 w5) := ⟨hS5, below_call0 H4.out.2 hb5⟩
      clear hS5 hb5 r0 r1 r2 r3
      go_wp2_with fail
      refine (K2.out _ rb rd H5.out.1).mono ?_
      rintro e w6 ⟨rfl, hb6⟩
      have H6 : Hid (Below w.heap.size w w6) := below_call0 HT.out.2.1 (below_call0 H5.out.2 hb6)
      clear hb6
      cases P1 with
      | none =>
        cases P2 with
        | none =>
          simp only [pikB, pikS]
          go_wp2_with fail
          refine (four_any _).mono ?_
          rintro e w7 ⟨rfl, hb⟩
          have HB : Hid (Below w.heap.size w w7) := below_call0 H6.out hb
          clear hb
          go_wp2_with fail
          go_ret
          exact ⟨rfl, HB.out⟩
        | some b =>
          simp only [pikB, pikS]
          go_wp2_with fail
          refine (four_any _).mono ?_
          rintro e w7 ⟨rfl, hb⟩
          have HB : Hid (Below w.heap.size w w7) := below_call0 H6.out hb
          clear hb
          go_wp2_with fail
          go_ret
          exact ⟨rfl, HB.out⟩
      | some a =>
        obtain ⟨rfl, rfl⟩ := HP.out x HRA.out a rfl
        have qa : (a.toList == a.toList) = true := by simp only [BEq.rfl]
        simp only [pikB, pikS]
        go_wp2_with fail
        refine (four_any _).mono ?_
        rintro e w7 ⟨rfl, hb⟩
        have HB : Hid (Below w.heap.size w w7) := below_call0 H6.out hb
        clear hb
        go_wp2_with fail
        go_ret
        exact ⟨rfl, HB.out⟩
theorem castReady_any (n f : Int) (s : Int) (ha aa ba : Option Addr) (H A B : List ByteArray) (hc ac bc : Nat) (zh : ∀ s ∈ H, s.size < 140737488351233) (za : ∀ s ∈ A, s.size < 140737488351233) (zb : ∀ s ∈ B, s.size < 140737488351233) (h43 : H.length ≤ 8796093022208) (w : World) (sh : Strs w ha H) (sa : Strs w aa A) (sb : Strs w ba B) :
    Calls Try.prog 5 #[.int .i64 n, .int .i64 f, .agg #[.int .i64 s, .slice ha H.length hc, .slice aa A.length ac, .slice ba B.length bc]] w fun e w' => e = .returned (.bool true) ∧ Below w.heap.size w w' := by
  by_cases h : TabOk n f
  · have ht := h
    unfold TabOk at ht
    obtain ⟨N, rfl⟩ : ∃ N : Nat, n = N := ⟨n.toNat, by omega⟩
    obtain ⟨F, rfl⟩ : ∃ F : Nat, f = F := ⟨f.toNat, by omega⟩
    exact castReady_ok N F s ha aa ba H A B _ hc _ ac _ bc h43 w ⟨by omega, by omega, by omega, rfl, rfl, rfl, sh, sa, sb, zh, za, zb⟩
  · exact castReady_no n f s _ _ _ h w
end Go.Proofs.Ytdfadinpeeigkaa
