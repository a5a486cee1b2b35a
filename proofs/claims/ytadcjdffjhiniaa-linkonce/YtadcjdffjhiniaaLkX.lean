/- The law LinkOnce: the walk. -/
import Derived.Test.YtadcjdffjhiniaaLkW
import Derived.Deep.CutBlock
namespace Go.Proofs.Ytadcjdffjhiniaa
open Go Go.RowKit Go.Lib

theorem nils_2 (w : World) (y : TypeId) : ∀ j u, ([.slice none 0 0, .slice none 0 0] : List Value)[j]? = some u → (w.alloc (.cells #[.slice none 0 0, .slice none 0 0] y)).cell? ((⟨w.heap.size, 0, none⟩ : Addr).add j) = some u := fun j u hj => by
  match j, hj with
  | 0, hj => simp at hj; subst hj; simp [go_sem, Addr.add_lit]
  | 1, hj => simp at hj; subst hj; simp [go_sem, Addr.add_lit]
  | j + 2, hj => simp at hj
theorem nils_1 (w : World) (y : TypeId) : ∀ j u, ([.slice none 0 0] : List Value)[j]? = some u → (w.alloc (.cells #[.slice none 0 0] y)).cell? ((⟨w.heap.size, 0, none⟩ : Addr).add j) = some u := fun j u hj => by
  match j, hj with
  | 0, hj => simp at hj; subst hj; simp [go_sem, Addr.add_lit]
  | j + 1, hj => simp at hj
theorem nils_one2 : ∀ u ∈ ([.slice none 0 0, .slice none 0 0] : List Value), u.oneCell' = true := fun u hu => by simp at hu; subst hu; rfl
theorem nils_one1 : ∀ u ∈ ([.slice none 0 0] : List Value), u.oneCell' = true := fun u hu => by simp at hu; subst hu; rfl
theorem strs_cells {w : World} {b : Nat} {l : List ByteArray} (h : Strs w (some ⟨b, 0, none⟩) l) : ∀ j u, (l.map Value.string)[j]? = some u → w.cell? ((⟨b, 0, none⟩ : Addr).add j) = some u := fun j u hj => by
  rw [List.getElem?_map, Option.map_eq_some_iff] at hj
  obtain ⟨q, hq, rfl⟩ := hj
  obtain ⟨_, _, e1, e2, _⟩ := h j q hq
  cases e1
  rw [Addr.add_lit]
  exact e2
theorem strs_one (l : List ByteArray) : ∀ u ∈ l.map Value.string, u.oneCell' = true := fun u hu => by
  rw [List.mem_map] at hu
  obtain ⟨q, _, rfl⟩ := hu
  rfl
theorem OInv.start : OInv 1 0 [[], []] [[], []] [] [] 0 0 0 := by
  have nil2 : ∀ (i : Nat) (x : List ByteArray), ([[], []] : List (List ByteArray))[i]? = some x → x = [] := fun i x hx => by
    match i, hx with
    | 0, hx => simpa using hx.symm
    | 1, hx => simpa using hx.symm
    | i + 2, hx => simp at hx
  refine ⟨rfl, rfl, by decide, by decide, Nat.zero_le _, ?_, ?_, .inl ⟨rfl, rfl⟩, fun i x _ hx => nil2 i x hx, fun f hf => by simp at hf, by decide, by decide, fun a ha => by simp at ha⟩
  · intro i x hx
    rw [nil2 i x hx]
    exact ⟨Nat.zero_le _, fun s hs => by simp at hs⟩
  · intro i x y hx hy
    rw [nil2 i x hx]
    exact ⟨by simp, Nat.zero_le _⟩
theorem OInv.tcb {lf gone : Nat} {P K : List (List ByteArray)} {F A : List ByteArray} {tl tc k : Nat} (h : OInv lf gone P K F A tl tc k) (hk : k ≤ 1000) : tc ≤ 1099511627776 := by
  rcases h.tk with ⟨_, q⟩ | ⟨_, q2, x, q3, q4⟩
  · omega
  · have hP := getD_of (P := P) (i := tl) (by rw [h.lp]; omega)
    have := (h.pre _ x _ q3 hP).2
    have := (h.pz _ _ hP).1
    omega
set_option maxRecDepth 100000 in
set_option maxHeartbeats 8000000 in
theorem linkOnce_in (a0 : Option Addr) (p o n cap : Nat) (ha : 0 < n → a0 = some ⟨p, o, none⟩) (hn : n ≤ 200) (w : World) (hS : NetsAt w p o n) :
    Calls Try.prog 5 #[.slice a0 n cap] w fun e w' => e = .returned (.bool true) ∧ Below w.heap.size w w' := by
  obtain ⟨i0, hi, hz0, hz1, hz2⟩ := infoStr
  obtain ⟨j0, hj, kz0, kz1, kz2⟩ := infoSl
  have hsz : ∀ w, (Go.sizeOf 9).run Try.prog w = .ok 1 w := fun _ => by kernel_rfl
  have hsy : ∀ w, (Go.sizeOf 29).run Try.prog w = .ok 1 w := fun _ => by kernel_rfl
  have K1 : Hid (∀ w : World, Calls Try.prog 8 #[.int .i64 1] w fun e w' => e = .returned (.tuple #[.pointer (some ⟨w.heap.size, 0, none⟩), .int .i64 0]) ∧ SenderAt w' w.heap.size (From (w.heap.size + 1)) 1 0 [] ∧ Below w.heap.size w w' ∧ w'.heap.size = w.heap.size + 1) := fun w : World => newSender_in 1 (by decide) w
  have K2 : Hid _ := fun w : World => ltwo_any w
  have K3 : Hid _ := fun w : World => newTaker_any w
  have HS : Hid (NetsAt w p o n) := hS
  have HA : Hid (0 < n → a0 = some ⟨p, o, none⟩) := ha
  have N2 : Hid (n ≤ 200) := hn
  have n1 : ¬ ((200 : Int) < (n : Int)) := by omega
  clear hS ha hn
  go_enter Try.func5, Try.ntmps5
  go_wp2_with fail
  refine (K1.out _).mono ?_
  rintro e w1 ⟨rfl, hS1, hb1, hs1⟩
  obtain ⟨G, hG⟩ : ∃ G, G = w.heap.size := ⟨_, rfl⟩
  have H1 : Hid (Snd w1 (fun k => if k = G then 11 else 0) 1 11 G 1 0 [] ∧ Below w.heap.size w w1 ∧ w1.heap.size = G + 1 ∧ G = w.heap.size) := by
    rw [← hG] at hS1 hs1
    exact ⟨Snd.new hS1 hs1 (by decide), hb1, hs1, hG⟩
  rw [← hG]
  clear hS1 hs1 hb1 hG K1
  go_wp2_with fail
  refine (K3.out _).mono ?_
  rintro e w2 ⟨rfl, hT2, hb2, hs2⟩
  obtain ⟨T, hT⟩ : ∃ T, T = w1.heap.size := ⟨_, rfl⟩
  obtain ⟨c2, hc2⟩ : ∃ x, x = paint (fun k => if k = G then 11 else 0) w1 w2 15 := ⟨_, rfl⟩
  have H2 : Hid (Mem w w2 c2 T G 1 0 [] [] [] [] [] 0 0 none none none none 0 0 0 0) := by
    rw [hT, hc2]
    exact ⟨H1.out.1.keepx 15 (Chg.of_below hb2 (i := 15) (j := 15)) (by decide) (by decide) (by decide) (by decide), ⟨paint_new (Nat.le_refl _) (by omega), hT2⟩, ⟨[], rfl, RowV.nil _ _, fun i x hx => by simp at hx⟩, ⟨[], rfl, RowV.nil _ _, fun i x hx => by simp at hx⟩, RowV.nil _ _, RowV.nil _ _, zero_paint (fun k hk => ⟨by have := H1.out.2.2; omega, if_neg (by have := H1.out.2.2.2; omega)⟩) hb2.size, below_call0 H1.out.2.1 hb2⟩
  rw [← hT]
  clear hT2 hb2 hs2 hT K3 H1 hc2
  go_wp2_with (first | (at_builtin; refine wpList_append_RowV _ rfl _ _ 56 rfl (fun k => d5 k = 6 ∨ w5.heap.size ≤ k) 29 j0 (.slice none 0 0) 24 Try.underlying56 hj kz0 rfl kz1 kz2 none 0 0 ([] : List Value) [.slice none 0 0, .slice none 0 0] rfl rfl (RowV.call (RowV.nil _ _) (below_alloc0 (Below.refl _ _) _)) (by unfold maxLen; simp) (by simp) (fun k hk => .inr (Nat.le_trans (by simp) hk)) ⟨w5.heap.size, 0, none⟩ 2 2 rfl rfl (nils_2 _ _) nils_one2 ?_; intro a6 m6 c6 w6 hm6 hR6 hb6; have H6 : Hid (m6 = 0 + 2 ∧ Row w6 (paint d5 w5 w6 6) 6 a6 (([] : List Value) ++ [.slice none 0 0, .slice none 0 0]) c6 ∧ Chg w5 d5 6 6 w6) := ⟨hm6, Row.done hR6 ((Off.of_below (below_alloc0 (Below.refl _ _) _) (fun k hk => .inr hk)).trans hb6), Row.chg ((Off.of_below (below_alloc0 (Below.refl _ _) _) (fun k hk => .inr hk)).trans hb6)⟩; clear hm6 hR6 hb6; have M6 : Hid (Mem w w6 (paint d5 w5 w6 6) T G 1 0 [] [[], []] [[], []] [] [] 0 0 a5 a6 none none c5 c6 0 0) := M5.out.tab6 H6.out.2.2 (Tab.first H6.out.2.1)) | (at_builtin; refine wpList_append_RowV _ rfl _ _ 56 rfl (fun k => c2 k = 5 ∨ w2.heap.size ≤ k) 29 j0 (.slice none 0 0) 24 Try.underlying56 hj kz0 rfl kz1 kz2 none 0 0 ([] : List Value) [.slice none 0 0, .slice none 0 0] rfl rfl (RowV.call (RowV.nil _ _) (below_alloc0 (Below.refl _ _) _)) (by unfold maxLen; simp) (by simp) (fun k hk => .inr (Nat.le_trans (by simp) hk)) ⟨w2.heap.size, 0, none⟩ 2 2 rfl rfl (nils_2 _ _) nils_one2 ?_; intro a5 m5 c5 w5 hm5 hR5 hb5; have H5 : Hid (m5 = 0 + 2 ∧ Row w5 (paint c2 w2 w5 5) 5 a5 (([] : List Value) ++ [.slice none 0 0, .slice none 0 0]) c5 ∧ Chg w2 c2 5 5 w5) := ⟨hm5, Row.done hR5 ((Off.of_below (below_alloc0 (Below.refl _ _) _) (fun k hk => .inr hk)).trans hb5), Row.chg ((Off.of_below (below_alloc0 (Below.refl _ _) _) (fun k hk => .inr hk)).trans hb5)⟩; clear hm5 hR5 hb5; obtain ⟨d5, hd5⟩ : ∃ x, x = paint c2 w2 w5 5 := ⟨_, rfl⟩; have M5 : Hid (Mem w w5 d5 T G 1 0 [] [[], []] [] [] [] 0 0 a5 none none none c5 0 0 0) := (by rw [hd5]; exact H2.out.tab5 H5.out.2.2 (Tab.first H5.out.2.1)); clear hd5))
  rename_i Kr hKr
  have HKr : Hid _ := hKr
  clear hKr
  go_loopw [3, 6, 7, 8, 9, 10, 66] (fun s3 s6 s7 s8 s9 s10 iv wr => ∃ k : Nat, k ≤ n ∧ iv = .int .i64 (k : Nat) ∧ OnceS w wr T k s3 s6 s7 s8 s9 s10) (fun _ _ _ _ _ _ iv _ => n - (Go.RowKit.intOf iv).toNat)
  case atStart => exact ⟨0, Nat.zero_le _, rfl, OnceS.mk (lf := 1) (gone := 0) (P := [[], []]) (K := [[], []]) (F := []) (A := []) (by rw [H5.out.1]; rfl) (by rw [H6.out.1]; rfl) rfl rfl OInv.start M6.out⟩
  case round =>
    obtain ⟨k, hk, rfl, c, G0, lf, gone, P, K, F, A, tl, tc, ap, ak, al, aa, np, nk, nl, na, cp, ck, cl, ca, rfl, rfl, rfl, rfl, rfl, rfl, hnp, hnk, hnl, hna, hI, hM⟩ := hrel
    rename World => wr
    have HR : Hid (OInv lf gone P K F A tl tc k ∧ Mem w wr c T G0 lf (P.getD lf []).length ((P.getD lf []).drop gone) P K F A tl tc ap ak al aa cp ck cl ca ∧ np = P.length ∧ nk = K.length ∧ nl = F.length ∧ na = A.length) := ⟨hI, hM, hnp, hnk, hnl, hna⟩
    clear hI hM hnp hnk hnl hna M6 M5 H5 H6 H2
    by_cases hlt : k < n
    · clear HKr K2
      have hlt' : (k : Int) < (n : Int) := Int.ofNat_lt.2 hlt
      obtain rfl := HA.out (Nat.lt_of_le_of_lt (Nat.zero_le _) hlt)
      obtain ⟨X, N, s, e0, e1, e2, sz, pz⟩ := HS.out k hlt
      have hBw : Below w.heap.size w wr := HR.out.2.1.2.2.2.2.2.2.2
      have g0 : wr.cell? ⟨p, o + k * 3, none⟩ = some (.int .i64 X) := (hBw.cell (p := ⟨p, o + k * 3, none⟩) pz).trans e0
      have g1 : wr.cell? ⟨p, o + k * 3 + 1, none⟩ = some (.int .i64 N) := (hBw.cell (p := ⟨p, o + k * 3 + 1, none⟩) pz).trans e1
      have g2 : wr.cell? ⟨p, o + k * 3 + 2, none⟩ = some (.string s) := (hBw.cell (p := ⟨p, o + k * 3 + 2, none⟩) pz).trans e2
      have HK2 : Hid (k < 200 ∧ s.size < 140737488351233) := ⟨by have := N2.out; omega, sz⟩
      clear e0 e1 e2 pz hBw sz
      obtain ⟨wx, hwx⟩ : ∃ y, y = wr.alloc (.cells #[.int .i64 X, .int .i64 N, .string s] 58) := ⟨_, rfl⟩
      obtain ⟨cx, hcx⟩ : ∃ y, y = paint c wr wx 0 := ⟨_, rfl⟩
      obtain ⟨xb, hxb⟩ : ∃ y, y = wr.heap.size := ⟨_, rfl⟩
      have HX : Hid (Mem w wx cx T G0 lf (P.getD lf []).length ((P.getD lf []).drop gone) P K F A tl tc ap ak al aa cp ck cl ca) := by rw [hcx, hwx]; exact HR.out.2.1.call (below_alloc0 (Below.refl _ _) _)
      have HX2 : Hid (xb < wx.heap.size ∧ cx xb = 0) := by
        rw [hcx, hwx, hxb]
        exact ⟨by simp, paint_new (Nat.le_refl _) (by simp)⟩
      have HX3 : Hid (wx.cell? ⟨xb, 0, none⟩ = some (.int .i64 X) ∧ wx.cell? ⟨xb, 1, none⟩ = some (.int .i64 N) ∧ wx.cell? ⟨xb, 2, none⟩ = some (.string s)) := by
        rw [hwx, hxb]
        exact ⟨by simp [go_sem], by simp [go_sem], by simp [go_sem]⟩
      have HW : Hid (wx = wr.alloc (.cells #[.int .i64 X, .int .i64 N, .string s] 58) ∧ xb = wr.heap.size) := ⟨hwx, hxb⟩
      clear hwx hxb hcx
      go_upto_block 2 with fail
      rw [← HW.out.1, ← HW.out.2]
      obtain ⟨x0, x1, x2⟩ := HX3.out
      clear g0 g1 g2 HW
      go_cut [3, 6, 7, 8, 9, 10, 13, 14, 15, 16, 17, 18, 19, 20, 21, 22, 23] from 72 to 191 (fun s3 s6 s7 s8 s9 s10 _s13 _s14 _s15 _s16 _s17 _s18 _s19 _s20 _s21 _s22 _s23 wc => OnceS w wc T (k + 1) s3 s6 s7 s8 s9 s10)
      case first =>
        by_cases e0 : X = 0
        · subst e0
          as_aux_lemma =>
            obtain ⟨L, hL⟩ : ∃ x, x = P.getD lf [] := ⟨_, rfl⟩
            rw [← hL] at HX
            have KA : Hid _ := fun (F' : Nat → Prop) (w' : World) (h : SenderAt w' G0 F' lf L.length (L.drop gone)) => push_all G0 F' lf gone L s (by rw [hL]; exact HR.out.1.go) (by have := (HR.out.1.pz lf _ HR.out.1.cur).1; rw [← hL] at this; have := HK2.out.1; omega) w' h
            by_cases h7 : 7900 < s.size ∨ 64 ≤ L.length - gone
            · obtain ⟨pe, hpe, er⟩ : ∃ pe : Int, pe ≠ 0 ∧ psR s gone L = (0, pe, L) := by
                unfold psR
                by_cases q : 7900 < s.size
                · exact ⟨2, by decide, by rw [if_pos q]⟩
                · exact ⟨5, by decide, by rw [if_neg q, if_pos (h7.resolve_left q)]⟩
              rw [er] at KA
              clear er h7
              go_wp2_with fail
              refine (HX.out.1.op (fun F' hS => KA.out F' _ hS)).mono ?_
              rintro e w4 ⟨rfl, hS4, hC4⟩
              have M4 : Hid (Mem w w4 (paint cx wx w4 1) T G0 lf L.length (L.drop gone) P K F A tl tc ap ak al aa cp ck cl ca) := HX.out.snd hC4 hS4
              rw [hL] at M4
              clear hS4 hC4 x0 x1 x2
              go_wp2_with fail
              go_meet
              exact OnceS.mk HR.out.2.2.1 HR.out.2.2.2.1 HR.out.2.2.2.2.1 HR.out.2.2.2.2.2 HR.out.1.next M4.out
            · have er : psR s gone L = (L.length + 1, 0, L ++ [s]) := by unfold psR; rw [if_neg (fun q => h7 (.inl q)), if_neg (fun q => h7 (.inr q))]
              rw [er] at KA
              have H7 : Hid (s.size ≤ 7900) := Nat.le_of_not_lt (fun q => h7 (.inl q))
              clear er h7
              have lfp : (lf : Int) < (np : Int) := by have h1 := HR.out.2.2.1; have h2 := HR.out.1.lp; omega
              go_wp2_with fail
              refine (HX.out.1.op (fun F' hS => KA.out F' _ hS)).mono ?_
              rintro e w4 ⟨rfl, hS4, hC4⟩
              have M4 : Hid (Mem w w4 (paint cx wx w4 1) T G0 lf (L ++ [s]).length ((L ++ [s]).drop gone) P K F A tl tc ap ak al aa cp ck cl ca) := HX.out.snd hC4 hS4
              have y2 : w4.cell? ⟨xb, 2, none⟩ = some (.string s) := (hC4.cell HX2.out.1 (by rw [HX2.out.2]; decide) (by rw [HX2.out.2]; decide)).trans x2
              obtain ⟨c4, hc4⟩ : ∃ x, x = paint cx wx w4 1 := ⟨_, rfl⟩
              rw [← hc4] at M4
              have hcur := HR.out.1.cur
              rw [← hL] at hcur
              obtain ⟨tb, tq, ai, ci, rfl, k1, k2, k3, k4, k5⟩ := M4.out.2.2.1.get hcur
              obtain ⟨nL, hnL⟩ : ∃ m, m = L.length := ⟨_, rfl⟩
              rw [← hnL] at k1
              have HB : Hid (nL = L.length ∧ L.length ≤ 300 ∧ tb < w4.heap.size ∧ c4 tb = 5 ∧ w4.cell? ⟨tb, tq + lf, none⟩ = some (.slice ai nL ci) ∧ (∀ o, w4.frozen? ⟨tb, o, none⟩ = false) ∧ Row w4 c4 (100 + 2 * lf) ai (L.map Value.string) ci) := ⟨hnL, by have := (HR.out.1.pz lf _ hcur).1; have := HK2.out.1; omega, k2, k3, k1, k4, k5⟩
              clear hS4 hC4 x0 x1 x2 hc4 hcur k2 k3 k4 k5 hnL
              go_wp2_with (at_builtin; refine wpList_append_RowV _ rfl _ _ 29 rfl (fun k => c4 k = (100 + 2 * lf) ∨ w4.heap.size ≤ k) 9 i0 (.string ⟨#[]⟩) 16 Try.underlying29 hi hz0 rfl hz1 hz2 ai nL ci (L.map Value.string) [.string s] rfl (by rw [List.length_map]; exact HB.out.1) (RowV.call HB.out.2.2.2.2.2.2 (below_alloc0 (Below.refl _ _) _)) (by rw [List.length_map]; have := HB.out.2.1; unfold maxLen; simp; omega) (by rw [List.length_map]; have := HB.out.2.1; simp; omega) (fun k hk => .inr (Nat.le_trans (by simp) hk)) ⟨w4.heap.size, 0, none⟩ 1 1 rfl rfl (cell_new1 s w4 _) (str_one s) ?_; intro a8 m8 c8 w8 hm8 hR8 hb8; have H8 : Hid (m8 = nL + 1 ∧ Row w8 (paint c4 w4 w8 (100 + 2 * lf)) (100 + 2 * lf) a8 ((L.map Value.string) ++ [.string s]) c8 ∧ Chg w4 c4 (100 + 2 * lf) (100 + 2 * lf) w8) := ⟨hm8, Row.done hR8 ((Off.of_below (below_alloc0 (Below.refl _ _) _) (fun k hk => .inr hk)).trans hb8), Row.chg ((Off.of_below (below_alloc0 (Below.refl _ _) _) (fun k hk => .inr hk)).trans hb8)⟩; clear hm8 hR8 hb8; have d8 : w8.cell? ⟨tb, tq + lf, none⟩ = some (.slice ai nL ci) := (H8.out.2.2.cell HB.out.2.2.1 (by rw [HB.out.2.2.2.1]; omega) (by rw [HB.out.2.2.2.1]; omega)).trans HB.out.2.2.2.2.1; have z8 : w8.frozen? ⟨tb, tq + lf, none⟩ = false := (World.frozen?_of_block (w := w4) (a := ⟨tb, tq + lf, none⟩) (H8.out.2.2.block HB.out.2.2.1 (by rw [HB.out.2.2.2.1]; omega) (by rw [HB.out.2.2.2.1]; omega))).trans (HB.out.2.2.2.2.2.1 _))
              go_meet
              have hm : m8 = (L ++ [s]).length := by rw [H8.out.1, HB.out.1]; simp
              rw [hm]
              have hg := M4.out.put5 (i := lf) (y := L ++ [s]) (by rw [HR.out.1.lp]; omega) H8.out.2.2 (by rw [List.map_append]; exact H8.out.2.1)
              have hI := HR.out.1.push H7.out
              rw [← hL] at hI
              refine OnceS.mk (c := paint c4 w4 w8 (100 + 2 * lf)) (P := P.set lf (L ++ [s])) (by rw [List.length_set]; exact HR.out.2.2.1) HR.out.2.2.2.1 HR.out.2.2.2.2.1 HR.out.2.2.2.2.2 hI ?_
              rw [getD_set (by rw [HR.out.1.lp]; omega)]
              exact hg
        · by_cases e1 : X = 1
          · subst e1
            as_aux_lemma =>
              obtain ⟨L, hL⟩ : ∃ x, x = P.getD lf [] := ⟨_, rfl⟩
              rw [← hL] at HX
              have hI := HR.out.1
              have l300 : L.length ≤ 300 := by have := (hI.pz lf _ hI.cur).1; rw [← hL] at this; have := HK2.out.1; omega
              have hgo : gone ≤ L.length := by rw [hL]; exact hI.go
              have hdl : (L.drop gone).length = L.length - gone := List.length_drop ..
              obtain ⟨fr, hfr⟩ : ∃ x, x = frL lf gone (L.drop gone) := ⟨_, rfl⟩
              obtain ⟨cc, hcc⟩ : ∃ x, x = min 16 (L.drop gone).length := ⟨_, rfl⟩
              have KF : Hid (∀ (F' : Nat → Prop) (w' : World), SenderAt w' G0 F' lf L.length (L.drop gone) → Calls Try.prog 16 #[.pointer (some ⟨G0, 0, none⟩)] w' fun e w'' => e = .returned (.slice (some ⟨w'.heap.size, 0, none⟩) cc cc) ∧ Strs w'' (some ⟨w'.heap.size, 0, none⟩) fr ∧ Below w'.heap.size w' w'') := fun F' w' h => by
                have := frames_any G0 F' lf L.length (L.drop gone) (by omega) (by omega) (by have := hI.l2; have := HK2.out.1; omega) (fun s' hs' => (hI.pz lf _ hI.cur).2 s' (by rw [← hL]; exact List.mem_of_mem_drop hs')) w' h
                rw [show L.length - (L.drop gone).length = gone from by omega, ← hfr, ← hcc] at this
                exact this
              have HF : Hid (fr = frL lf gone (L.drop gone) ∧ cc = fr.length ∧ F.length ≤ 3200 ∧ cc ≤ 16) := ⟨hfr, by rw [hfr, frL_length]; exact hcc, by have := hI.ll; have := HK2.out.1; omega, by omega⟩
              clear hfr hcc hdl hgo l300 hI
              go_wp2_with fail
              refine (KF.out _ _ HX.out.1.2.2).mono ?_
              rintro e w5 ⟨rfl, hS5, hb5⟩
              obtain ⟨p5, hp5⟩ : ∃ p, p = wx.heap.size := ⟨_, rfl⟩
              rw [← hp5] at hS5 ⊢
              obtain ⟨d5, hd5⟩ : ∃ x, x = paint cx wx w5 0 := ⟨_, rfl⟩
              have M5 : Hid (Mem w w5 d5 T G0 lf L.length (L.drop gone) P K F A tl tc ap ak al aa cp ck cl ca) := by rw [hd5]; exact HX.out.call hb5
              have H5 : Hid (Strs w5 (some ⟨p5, 0, none⟩) fr) := hS5
              clear hS5 hb5 hp5 hd5 KF x0 x1 x2
              go_wp2_with (at_builtin; refine wpList_append_RowV _ rfl _ _ 29 rfl (fun k => d5 k = 7 ∨ w5.heap.size ≤ k) 9 i0 (.string ⟨#[]⟩) 16 Try.underlying29 hi hz0 rfl hz1 hz2 al nl cl (F.map Value.string) (fr.map Value.string) rfl (by rw [List.length_map]; exact HR.out.2.2.2.2.1) M5.out.2.2.2.2.1 (by rw [List.length_map, List.length_map, ← HF.out.2.1]; have := HF.out.2.2; unfold maxLen; simp; omega) (by rw [List.length_map, List.length_map, ← HF.out.2.1]; have := HF.out.2.2; simp; omega) (fun k hk => .inr hk) ⟨p5, 0, none⟩ cc cc rfl (by rw [List.length_map]; exact HF.out.2.1) (strs_cells H5.out) (strs_one fr) ?_; intro a8 m8 c8 w8 hm8 hR8 hb8; have H8 : Hid (m8 = nl + cc ∧ Row w8 (paint d5 w5 w8 7) 7 a8 ((F.map Value.string) ++ (fr.map Value.string)) c8 ∧ Chg w5 d5 7 7 w8) := ⟨hm8, Row.done hR8 hb8, Row.chg hb8⟩; clear hm8 hR8 hb8)
              go_meet
              have hI := HR.out.1.frames HK2.out.1
              rw [← hL, ← HF.out.1] at hI
              have hg := M5.out.row7 (F' := F ++ fr) H8.out.2.2 (by rw [List.map_append]; exact H8.out.2.1)
              rw [hL] at hg
              exact OnceS.mk HR.out.2.2.1 HR.out.2.2.2.1 (by rw [H8.out.1, HR.out.2.2.2.2.1, HF.out.2.1, List.length_append]) HR.out.2.2.2.2.2 hI hg
          · by_cases e2 : X = 2
            · subst e2
              as_aux_lemma =>
                by_cases hN : 0 ≤ N
                · obtain ⟨m, rfl⟩ : ∃ m : Nat, N = (m : Nat) := ⟨N.toNat, by omega⟩
                  by_cases hm : m < nl
                  · have hm1 : (m : Int) < (nl : Int) := Int.ofNat_lt.2 hm
                    have hm0 : (0 : Int) ≤ (m : Int) := Int.natCast_nonneg _
                    have hml : m < F.length := by rw [← HR.out.2.2.2.2.1]; exact hm
                    obtain ⟨f, hf⟩ : ∃ f, f = (F[m]'hml) := ⟨_, rfl⟩
                    have hfm : f ∈ F := by rw [hf]; exact List.getElem_mem hml
                    obtain ⟨lb, lo, rfl, q1, q2, -, -⟩ := HX.out.2.2.2.2.1.at (j := m) (u := .string f) (by rw [List.getElem?_map, List.getElem?_eq_getElem hml, hf]; rfl)
                    have tcb : tc ≤ 1099511627776 := OInv.tcb HR.out.1 (by have := HK2.out.1; omega)
                    have fz : f.size < 140737488351233 := by
                      obtain ⟨l, n', t, rfl, _⟩ := HR.out.1.let' f hfm
                      exact let_size
                    have KT : Hid _ := fun (w' : World) (h : TakerAt w' T tl tc) => take_any T tl tc tcb f fz w' h
                    unfold takePost at KT
                    obtain ⟨r, hr⟩ : ∃ r, r = tkR f tl tc := ⟨_, rfl⟩
                    rw [← hr] at KT
                    obtain ⟨tx, is, er, tl', tc'⟩ := r
                    obtain ⟨u1, u2, u3, u4⟩ := HR.out.1.next.take (by have := HK2.out.1; omega) hfm hr.symm
                    have ub : tl' ≤ 1099511627776 ∧ tc' ≤ 1099511627776 := by
                      have := tkR_le f tl tc (by rcases HR.out.1.tk with ⟨q, _⟩ | ⟨_, q, _⟩ <;> (have := HR.out.1.l2; have := HK2.out.1; omega)) tcb
                      rw [← hr] at this
                      exact this
                    have KC : Hid _ := fun (w' : World) (h : TakerAt w' T tl' tc') => came_taker T tl' tc' w' h
                    have KK : Hid _ := fun (w' : World) (h : TakerAt w' T tl' tc') => ack_any T tl' tc' ub.1 ub.2 w' h
                    obtain ⟨ac, hac⟩ : ∃ x, x = akS tl' tc' := ⟨_, rfl⟩
                    rw [← hac] at KK
                    have HAZ : Hid (ac.size < 140737488351233) := by rw [hac]; exact akS_size _ _
                    have HAL : Hid (A.length ≤ 300) := by have := HR.out.1.la; have := HK2.out.1; show A.length ≤ 300; omega
                    have v1 : ¬ ((tl' : Int) < 1) := by omega
                    have v2 : ¬ ((lf : Int) < (tl' : Int)) := by omega
                    have v2n : ¬ (lf < tl') := by omega
                    have v3 : (tl' : Int) < (nk : Int) := by have h1 := HR.out.2.2.2.1; have h2 := HR.out.1.lk; omega
                    have HU : Hid (1 ≤ tl' ∧ tl' ≤ lf ∧ (is = false → OInv lf gone P K F A tl' tc' (k + 1)) ∧ (is = true → OInv lf gone P (K.set tl' (K.getD tl' [] ++ [tx])) F A tl' tc' (k + 1))) := ⟨u1, u2, u3, u4⟩
                    clear hm hml hf hfm q2 tcb fz hr u1 u2 u3 u4 ub hac hN
                    rcases Bool.eq_false_or_eq_true is with hb | hb
                    · subst hb
                      have HI' : Hid (OInv lf gone P (K.set tl' (K.getD tl' [] ++ [tx])) F A tl' tc' (k + 1)) := HU.out.2.2.2 rfl
                      go_wp2_with fail
                      refine (KT.out _ HX.out.2.1.2).mono ?_
                      rintro e w4 ⟨rfl, hT4, hb4⟩
                      obtain ⟨c4, hc4⟩ : ∃ x, x = paint cx wx w4 0 := ⟨_, rfl⟩
                      have M4 : Hid (Mem w w4 c4 T G0 lf (P.getD lf []).length ((P.getD lf []).drop gone) P K F A tl' tc' ap ak (some ⟨lb, lo, none⟩) aa cp ck cl ca) := by rw [hc4]; exact HX.out.tkr hb4 hT4
                      clear hT4 hb4 hc4 q1 x0 x1 x2
                      go_wp2_with fail
                      refine (KC.out _ M4.out.2.1.2).mono ?_
                      rintro e w5 ⟨rfl, hb5⟩
                      obtain ⟨c5, hc5⟩ : ∃ x, x = paint c4 w4 w5 0 := ⟨_, rfl⟩
                      have M5 : Hid (Mem w w5 c5 T G0 lf (P.getD lf []).length ((P.getD lf []).drop gone) P K F A tl' tc' ap ak (some ⟨lb, lo, none⟩) aa cp ck cl ca) := by rw [hc5]; exact M4.out.call hb5
                      clear hb5 hc5
                      have hKx := getD_of (P := K) (i := tl') (by rw [HR.out.1.lk]; have := HU.out.2.1; omega)
                      obtain ⟨y, hy⟩ : ∃ y, y = K.getD tl' [] := ⟨_, rfl⟩
                      rw [← hy] at hKx HI'
                      obtain ⟨tb, tq, ai, ci, rfl, k1, k2, k3, k4, k5⟩ := M5.out.2.2.2.1.get hKx
                      obtain ⟨nL, hnL⟩ : ∃ m, m = y.length := ⟨_, rfl⟩
                      rw [← hnL] at k1
                      have hPx := getD_of (P := P) (i := tl') (by rw [HR.out.1.lp]; have := HU.out.2.1; omega)
                      have HB : Hid (nL = y.length ∧ y.length ≤ 300 ∧ tb < w5.heap.size ∧ c5 tb = 6 ∧ w5.cell? ⟨tb, tq + tl', none⟩ = some (.slice ai nL ci) ∧ (∀ o, w5.frozen? ⟨tb, o, none⟩ = false) ∧ Row w5 c5 (101 + 2 * tl') ai (y.map Value.string) ci) := ⟨hnL, by have := (HR.out.1.pre _ _ _ hKx hPx).2; have := (HR.out.1.pz _ _ hPx).1; have := HK2.out.1; omega, k2, k3, k1, k4, k5⟩
                      clear hKx k2 k3 k4 k5 hnL hPx hy
                      go_wp2_with (at_builtin; refine wpList_append_RowV _ rfl _ _ 29 rfl (fun k => c5 k = (101 + 2 * tl') ∨ w5.heap.size ≤ k) 9 i0 (.string ⟨#[]⟩) 16 Try.underlying29 hi hz0 rfl hz1 hz2 ai nL ci (y.map Value.string) [.string tx] rfl (by rw [List.length_map]; exact HB.out.1) (RowV.call HB.out.2.2.2.2.2.2 (below_alloc0 (Below.refl _ _) _)) (by rw [List.length_map]; have := HB.out.2.1; unfold maxLen; simp; omega) (by rw [List.length_map]; have := HB.out.2.1; simp; omega) (fun k hk => .inr (Nat.le_trans (by simp) hk)) ⟨w5.heap.size, 0, none⟩ 1 1 rfl rfl (cell_new1 tx w5 _) (str_one tx) ?_; intro a8 m8 c8 w8 hm8 hR8 hb8; have H8 : Hid (m8 = nL + 1 ∧ Row w8 (paint c5 w5 w8 (101 + 2 * tl')) (101 + 2 * tl') a8 ((y.map Value.string) ++ [.string tx]) c8 ∧ Chg w5 c5 (101 + 2 * tl') (101 + 2 * tl') w8) := ⟨hm8, Row.done hR8 ((Off.of_below (below_alloc0 (Below.refl _ _) _) (fun k hk => .inr hk)).trans hb8), Row.chg ((Off.of_below (below_alloc0 (Below.refl _ _) _) (fun k hk => .inr hk)).trans hb8)⟩; clear hm8 hR8 hb8; have d8 : w8.cell? ⟨tb, tq + tl', none⟩ = some (.slice ai nL ci) := (H8.out.2.2.cell HB.out.2.2.1 (by rw [HB.out.2.2.2.1]; omega) (by rw [HB.out.2.2.2.1]; omega)).trans HB.out.2.2.2.2.1; have z8 : w8.frozen? ⟨tb, tq + tl', none⟩ = false := (World.frozen?_of_block (w := w5) (a := ⟨tb, tq + tl', none⟩) (H8.out.2.2.block HB.out.2.2.1 (by rw [HB.out.2.2.2.1]; omega) (by rw [HB.out.2.2.2.1]; omega))).trans (HB.out.2.2.2.2.2.1 _))
                      have hm8 : m8 = (y ++ [tx]).length := by rw [H8.out.1, HB.out.1]; simp
                      obtain ⟨w6, hw6⟩ : ∃ x, x = w8.setCell ⟨tb, tq + tl', none⟩ (.slice a8 m8 c8) := ⟨_, rfl⟩
                      obtain ⟨c6, hc6⟩ : ∃ x, x = paint c5 w5 w8 (101 + 2 * tl') := ⟨_, rfl⟩
                      have M6 : Hid (Mem w w6 c6 T G0 lf (P.getD lf []).length ((P.getD lf []).drop gone) P (K.set tl' (y ++ [tx])) F A tl' tc' ap (some ⟨tb, tq, none⟩) (some ⟨lb, lo, none⟩) aa cp ck cl ca) := by
                        rw [hw6, hc6, hm8]
                        exact M5.out.put6 (i := tl') (y := y ++ [tx]) (by rw [HR.out.1.lk]; have := HU.out.2.1; omega) H8.out.2.2 (by rw [List.map_append]; exact H8.out.2.1)
                      rw [← hw6]
                      clear hw6 hc6 hm8 d8 z8
                      refine (KK.out _ M6.out.2.1.2).mono ?_
                      rintro e w7 ⟨rfl, hb7⟩
                      obtain ⟨d7, hd7⟩ : ∃ x, x = paint c6 w6 w7 0 := ⟨_, rfl⟩
                      have M7 : Hid (Mem w w7 d7 T G0 lf (P.getD lf []).length ((P.getD lf []).drop gone) P (K.set tl' (y ++ [tx])) F A tl' tc' ap (some ⟨tb, tq, none⟩) (some ⟨lb, lo, none⟩) aa cp ck cl ca) := by rw [hd7]; exact M6.out.call hb7
                      clear hb7 hd7 KK
                      go_wp2_with (at_builtin; refine wpList_append_RowV _ rfl _ _ 29 rfl (fun k => d7 k = 8 ∨ w7.heap.size ≤ k) 9 i0 (.string ⟨#[]⟩) 16 Try.underlying29 hi hz0 rfl hz1 hz2 aa na ca (A.map Value.string) [.string ac] rfl (by rw [List.length_map]; exact HR.out.2.2.2.2.2) (RowV.call M7.out.2.2.2.2.2.1 (below_alloc0 (Below.refl _ _) _)) (by rw [List.length_map]; have := HAL.out; unfold maxLen; simp; omega) (by rw [List.length_map]; have := HAL.out; simp; omega) (fun k hk => .inr (Nat.le_trans (by simp) hk)) ⟨w7.heap.size, 0, none⟩ 1 1 rfl rfl (cell_new1 ac w7 _) (str_one ac) ?_; intro a9 m9 c9 w9 hm9 hR9 hb9; have H9 : Hid (m9 = na + 1 ∧ Row w9 (paint d7 w7 w9 8) 8 a9 ((A.map Value.string) ++ [.string ac]) c9 ∧ Chg w7 d7 8 8 w9) := ⟨hm9, Row.done hR9 ((Off.of_below (below_alloc0 (Below.refl _ _) _) (fun k hk => .inr hk)).trans hb9), Row.chg ((Off.of_below (below_alloc0 (Below.refl _ _) _) (fun k hk => .inr hk)).trans hb9)⟩; clear hm9 hR9 hb9)
                      go_meet
                      have hg := M7.out.row8 (A' := A ++ [ac]) H9.out.2.2 (by rw [List.map_append]; exact H9.out.2.1)
                      exact OnceS.mk HR.out.2.2.1 (by rw [List.length_set]; exact HR.out.2.2.2.1) HR.out.2.2.2.2.1 (by rw [H9.out.1, HR.out.2.2.2.2.2]; simp) (OInv.ack (HI'.out) HR.out.1.la HAZ.out) hg
                    · subst hb
                      have HI' : Hid (OInv lf gone P K F A tl' tc' (k + 1)) := HU.out.2.2.1 rfl
                      go_wp2_with fail
                      refine (KT.out _ HX.out.2.1.2).mono ?_
                      rintro e w4 ⟨rfl, hT4, hb4⟩
                      obtain ⟨c4, hc4⟩ : ∃ x, x = paint cx wx w4 0 := ⟨_, rfl⟩
                      have M4 : Hid (Mem w w4 c4 T G0 lf (P.getD lf []).length ((P.getD lf []).drop gone) P K F A tl' tc' ap ak (some ⟨lb, lo, none⟩) aa cp ck cl ca) := by rw [hc4]; exact HX.out.tkr hb4 hT4
                      clear hT4 hb4 hc4 q1 x0 x1 x2
                      go_wp2_with fail
                      refine (KC.out _ M4.out.2.1.2).mono ?_
                      rintro e w5 ⟨rfl, hb5⟩
                      obtain ⟨c5, hc5⟩ : ∃ x, x = paint c4 w4 w5 0 := ⟨_, rfl⟩
                      have M5 : Hid (Mem w w5 c5 T G0 lf (P.getD lf []).length ((P.getD lf []).drop gone) P K F A tl' tc' ap ak (some ⟨lb, lo, none⟩) aa cp ck cl ca) := by rw [hc5]; exact M4.out.call hb5
                      clear hb5 hc5
                      go_wp2_with fail
                      refine (KK.out _ M5.out.2.1.2).mono ?_
                      rintro e w7 ⟨rfl, hb7⟩
                      obtain ⟨d7, hd7⟩ : ∃ x, x = paint c5 w5 w7 0 := ⟨_, rfl⟩
                      have M7 : Hid (Mem w w7 d7 T G0 lf (P.getD lf []).length ((P.getD lf []).drop gone) P K F A tl' tc' ap ak (some ⟨lb, lo, none⟩) aa cp ck cl ca) := by rw [hd7]; exact M5.out.call hb7
                      clear hb7 hd7 KK
                      go_wp2_with (at_builtin; refine wpList_append_RowV _ rfl _ _ 29 rfl (fun k => d7 k = 8 ∨ w7.heap.size ≤ k) 9 i0 (.string ⟨#[]⟩) 16 Try.underlying29 hi hz0 rfl hz1 hz2 aa na ca (A.map Value.string) [.string ac] rfl (by rw [List.length_map]; exact HR.out.2.2.2.2.2) (RowV.call M7.out.2.2.2.2.2.1 (below_alloc0 (Below.refl _ _) _)) (by rw [List.length_map]; have := HAL.out; unfold maxLen; simp; omega) (by rw [List.length_map]; have := HAL.out; simp; omega) (fun k hk => .inr (Nat.le_trans (by simp) hk)) ⟨w7.heap.size, 0, none⟩ 1 1 rfl rfl (cell_new1 ac w7 _) (str_one ac) ?_; intro a9 m9 c9 w9 hm9 hR9 hb9; have H9 : Hid (m9 = na + 1 ∧ Row w9 (paint d7 w7 w9 8) 8 a9 ((A.map Value.string) ++ [.string ac]) c9 ∧ Chg w7 d7 8 8 w9) := ⟨hm9, Row.done hR9 ((Off.of_below (below_alloc0 (Below.refl _ _) _) (fun k hk => .inr hk)).trans hb9), Row.chg ((Off.of_below (below_alloc0 (Below.refl _ _) _) (fun k hk => .inr hk)).trans hb9)⟩; clear hm9 hR9 hb9)
                      go_meet
                      have hg := M7.out.row8 (A' := A ++ [ac]) H9.out.2.2 (by rw [List.map_append]; exact H9.out.2.1)
                      exact OnceS.mk HR.out.2.2.1 HR.out.2.2.2.1 HR.out.2.2.2.2.1 (by rw [H9.out.1, HR.out.2.2.2.2.2]; simp) (OInv.ack (HI'.out) HR.out.1.la HAZ.out) hg
                  · have hm1 : ¬ ((m : Int) < (nl : Int)) := by omega
                    have hm0 : (0 : Int) ≤ (m : Int) := Int.natCast_nonneg _
                    have hm2 : ¬ (m < nl) := hm
                    clear hN
                    go_wp2_with fail
                    go_meet
                    exact OnceS.mk HR.out.2.2.1 HR.out.2.2.2.1 HR.out.2.2.2.2.1 HR.out.2.2.2.2.2 HR.out.1.next HX.out
                · have hN' : ¬ ((0 : Int) ≤ N) := hN
                  go_wp2_with fail
                  go_meet
                  exact OnceS.mk HR.out.2.2.1 HR.out.2.2.2.1 HR.out.2.2.2.2.1 HR.out.2.2.2.2.2 HR.out.1.next HX.out
            · by_cases e3 : X = 3
              · subst e3
                as_aux_lemma =>
                  by_cases hN : 0 ≤ N
                  · obtain ⟨m, rfl⟩ : ∃ m : Nat, N = (m : Nat) := ⟨N.toNat, by omega⟩
                    by_cases hm : m < na
                    · have hm1 : (m : Int) < (na : Int) := Int.ofNat_lt.2 hm
                      have hm0 : (0 : Int) ≤ (m : Int) := Int.natCast_nonneg _
                      have hml : m < A.length := by rw [← HR.out.2.2.2.2.2]; exact hm
                      obtain ⟨f, hf⟩ : ∃ f, f = (A[m]'hml) := ⟨_, rfl⟩
                      have fz : f.size < 140737488351233 := HR.out.1.az f (by rw [hf]; exact List.getElem_mem hml)
                      obtain ⟨lb, lo, rfl, q1, q2, -, -⟩ := HX.out.2.2.2.2.2.1.at (j := m) (u := .string f) (by rw [List.getElem?_map, List.getElem?_eq_getElem hml, hf]; rfl)
                      obtain ⟨L, hL⟩ : ∃ x, x = P.getD lf [] := ⟨_, rfl⟩
                      rw [← hL] at HX
                      have hgo : gone ≤ L.length := by rw [hL]; exact HR.out.1.go
                      have KA : Hid _ := fun (F' : Nat → Prop) (w' : World) (h : SenderAt w' G0 F' lf L.length (L.drop gone)) => heard_all G0 F' lf gone L f fz hgo (by have := (HR.out.1.pz lf _ HR.out.1.cur).1; rw [← hL] at this; have := HK2.out.1; omega) w' h
                      have hle := hdR_le f lf gone L.length hgo
                      obtain ⟨r, hr⟩ : ∃ r, r = hdR f lf gone L.length := ⟨_, rfl⟩
                      rw [← hr] at KA hle
                      obtain ⟨pn, pe, gz⟩ := r
                      have HG : Hid (gz ≤ L.length) := hle
                      clear hm hml hf fz q2 hgo hle hr hN
                      go_wp2_with fail
                      refine (HX.out.1.op (fun F' hS => KA.out F' _ hS)).mono ?_
                      rintro e w4 ⟨rfl, hS4, hC4⟩
                      have M4 : Hid (Mem w w4 (paint cx wx w4 1) T G0 lf L.length (L.drop gz) P K F A tl tc ap ak al (some ⟨lb, lo, none⟩) cp ck cl ca) := HX.out.snd hC4 hS4
                      rw [hL] at M4 HG
                      clear hS4 hC4 x0 x1 x2 q1
                      go_wp2_with fail
                      go_meet
                      exact OnceS.mk HR.out.2.2.1 HR.out.2.2.2.1 HR.out.2.2.2.2.1 HR.out.2.2.2.2.2 (HR.out.1.next.heard HG.out) M4.out
                    · have hm1 : ¬ ((m : Int) < (na : Int)) := by omega
                      have hm0 : (0 : Int) ≤ (m : Int) := Int.natCast_nonneg _
                      have hm2 : ¬ (m < na) := hm
                      clear hN
                      go_wp2_with fail
                      go_meet
                      exact OnceS.mk HR.out.2.2.1 HR.out.2.2.2.1 HR.out.2.2.2.2.1 HR.out.2.2.2.2.2 HR.out.1.next HX.out
                  · have hN' : ¬ ((0 : Int) ≤ N) := hN
                    go_wp2_with fail
                    go_meet
                    exact OnceS.mk HR.out.2.2.1 HR.out.2.2.2.1 HR.out.2.2.2.2.1 HR.out.2.2.2.2.2 HR.out.1.next HX.out
              · by_cases e4 : X = 4
                · subst e4
                  as_aux_lemma =>
                    have lb2 : (lf : Int) ≤ 201 := by have := HR.out.1.l2; have := HK2.out.1; omega
                    have KN : Hid (∀ w' : World, Calls Try.prog 8 #[.int .i64 ((lf : Int) + 1)] w' fun e w'' => e = .returned (.tuple #[.pointer (some ⟨w'.heap.size, 0, none⟩), .int .i64 0]) ∧ SenderAt w'' w'.heap.size (From (w'.heap.size + 1)) (lf + 1) 0 [] ∧ Below w'.heap.size w' w'' ∧ w''.heap.size = w'.heap.size + 1) := fun w' => by
                      have := newSender_in (lf + 1) (by omega) w'
                      rw [show (((lf + 1 : Nat)) : Int) = (lf : Int) + 1 from by omega] at this
                      exact this
                    go_wp2_with fail
                    refine (KN.out _).mono ?_
                    rintro e w4 ⟨rfl, hS4, hb4, hz4⟩
                    obtain ⟨G4, hG4⟩ : ∃ g, g = wx.heap.size := ⟨_, rfl⟩
                    obtain ⟨c4, hc4⟩ : ∃ x, x = paint cx wx w4 11 := ⟨_, rfl⟩
                    have M4 : Hid (Mem w w4 c4 T G4 (lf + 1) 0 [] P K F A tl tc ap ak al aa cp ck cl ca) := by rw [hc4, hG4]; exact HX.out.new hb4 hS4 hz4
                    rw [← hG4]
                    clear hS4 hb4 hz4 hG4 hc4 KN x0 x1 x2
                    obtain ⟨vp, vp1, vp2, vp3⟩ := M4.out.2.2.1
                    have HP : Hid (vp.length = P.length ∧ Row w4 c4 5 ap vp cp ∧ (∀ (i : Nat) (x : List ByteArray), P[i]? = some x → ∃ (ai : Option Addr) (ci : Nat), vp[i]? = some (.slice ai x.length ci) ∧ Row w4 c4 (100 + 2 * i) ai (x.map Value.string) ci) ∧ vp.length ≤ 300) := ⟨vp1, vp2, vp3, by rw [vp1, HR.out.1.lp]; omega⟩
                    clear vp1 vp2 vp3
                    go_wp2_with (first | (at_builtin; refine wpList_append_RowV _ rfl _ _ 56 rfl (fun k => d5 k = 6 ∨ w5.heap.size ≤ k) 29 j0 (.slice none 0 0) 24 Try.underlying56 hj kz0 rfl kz1 kz2 ak nk ck vk [.slice none 0 0] rfl (by rw [HQ.out.1]; exact HR.out.2.2.2.1) (RowV.call HQ.out.2.1 (below_alloc0 (Below.refl _ _) _)) (by have := HQ.out.2.2.2; unfold maxLen; simp; omega) (by have := HQ.out.2.2.2; simp; omega) (fun k hk => .inr (Nat.le_trans (by simp) hk)) ⟨w5.heap.size, 0, none⟩ 1 1 rfl rfl (nils_1 _ _) nils_one1 ?_; intro a6 m6 c6 w6 hm6 hR6 hb6; have H6 : Hid (m6 = nk + 1 ∧ Row w6 (paint d5 w5 w6 6) 6 a6 (vk ++ [.slice none 0 0]) c6 ∧ Chg w5 d5 6 6 w6) := ⟨hm6, Row.done hR6 ((Off.of_below (below_alloc0 (Below.refl _ _) _) (fun k hk => .inr hk)).trans hb6), Row.chg ((Off.of_below (below_alloc0 (Below.refl _ _) _) (fun k hk => .inr hk)).trans hb6)⟩; clear hm6 hR6 hb6; have M6 : Hid (Mem w w6 (paint d5 w5 w6 6) T G4 (lf + 1) 0 [] (P ++ [[]]) (K ++ [[]]) F A tl tc a5 a6 al aa c5 c6 cl ca) := M5.out.tab6 H6.out.2.2 (Tab.grow HQ.out.1 HQ.out.2.2.1 H6.out.2.1 H6.out.2.2 (fun j => by omega))) | (at_builtin; refine wpList_append_RowV _ rfl _ _ 56 rfl (fun k => c4 k = 5 ∨ w4.heap.size ≤ k) 29 j0 (.slice none 0 0) 24 Try.underlying56 hj kz0 rfl kz1 kz2 ap np cp vp [.slice none 0 0] rfl (by rw [HP.out.1]; exact HR.out.2.2.1) (RowV.call HP.out.2.1 (below_alloc0 (Below.refl _ _) _)) (by have := HP.out.2.2.2; unfold maxLen; simp; omega) (by have := HP.out.2.2.2; simp; omega) (fun k hk => .inr (Nat.le_trans (by simp) hk)) ⟨w4.heap.size, 0, none⟩ 1 1 rfl rfl (nils_1 _ _) nils_one1 ?_; intro a5 m5 c5 w5 hm5 hR5 hb5; have H5 : Hid (m5 = np + 1 ∧ Row w5 (paint c4 w4 w5 5) 5 a5 (vp ++ [.slice none 0 0]) c5 ∧ Chg w4 c4 5 5 w5) := ⟨hm5, Row.done hR5 ((Off.of_below (below_alloc0 (Below.refl _ _) _) (fun k hk => .inr hk)).trans hb5), Row.chg ((Off.of_below (below_alloc0 (Below.refl _ _) _) (fun k hk => .inr hk)).trans hb5)⟩; clear hm5 hR5 hb5; obtain ⟨d5, hd5⟩ : ∃ x, x = paint c4 w4 w5 5 := ⟨_, rfl⟩; have M5 : Hid (Mem w w5 d5 T G4 (lf + 1) 0 [] (P ++ [[]]) K F A tl tc a5 ak al aa c5 ck cl ca) := (by rw [hd5]; exact M4.out.tab5 H5.out.2.2 (Tab.grow HP.out.1 HP.out.2.2.1 H5.out.2.1 H5.out.2.2 (fun j => by omega))); obtain ⟨vk, vk1, vk2, vk3⟩ := M5.out.2.2.2.1; have HQ : Hid (vk.length = K.length ∧ Row w5 d5 6 ak vk ck ∧ (∀ (i : Nat) (x : List ByteArray), K[i]? = some x → ∃ (ai : Option Addr) (ci : Nat), vk[i]? = some (.slice ai x.length ci) ∧ Row w5 d5 (101 + 2 * i) ai (x.map Value.string) ci) ∧ vk.length ≤ 300) := ⟨vk1, vk2, vk3, (by rw [vk1, HR.out.1.lk]; omega)⟩; clear vk1 vk2 vk3 hd5))
                    go_meet
                    have e0 : (P ++ [[]]).getD (lf + 1) [] = [] := by rw [List.getD_eq_getElem?_getD, List.getElem?_append_right (by rw [HR.out.1.lp]; omega), HR.out.1.lp, Nat.sub_self]; rfl
                    have hM := M6.out
                    have h := OnceS.mk (np := m5) (nk := m6) (lf := lf + 1) (gone := 0) (by rw [H5.out.1, HR.out.2.2.1]; simp) (by rw [H6.out.1, HR.out.2.2.2.1]; simp) HR.out.2.2.2.2.1 HR.out.2.2.2.2.2 HR.out.1.life (by rw [e0]; exact hM)
                    rw [show (((lf + 1 : Nat)) : Int) = (lf : Int) + 1 from by omega] at h
                    exact h
                · skip
                  as_aux_lemma =>
                    go_wp2_with fail
                    go_meet
                    exact OnceS.mk HR.out.2.2.1 HR.out.2.2.2.1 HR.out.2.2.2.2.1 HR.out.2.2.2.2.2 HR.out.1.next HX.out
      case rest =>
        obtain ⟨c, G0, lf, gone, P, K, F, A, tl, tc, ap, ak, al, aa, np, nk, nl, na, cp, ck, cl, ca, rfl, rfl, rfl, rfl, rfl, rfl, hnp, hnk, hnl, hna, hI, hM⟩ := hcut
        have HR : Hid (OInv lf gone P K F A tl tc (k + 1) ∧ Mem w wc c T G0 lf (P.getD lf []).length ((P.getD lf []).drop gone) P K F A tl tc ap ak al aa cp ck cl ca ∧ np = P.length ∧ nk = K.length ∧ nl = F.length ∧ na = A.length) := ⟨hI, hM, hnp, hnk, hnl, hna⟩
        have nkb : (nk : Int) ≤ 300 := by
          have h1 := hI.l2; have h2 := hI.lk; have h3 := HK2.out.1
          omega
        clear hI hM hnp hnk hnl hna HX HX2 HX3 x0 x1 x2
        go_wp2_with fail
        rename_i Ki hKi
        have HKi : Hid _ := hKi
        clear hKi
        go_loopw [194] (fun jv wi => ∃ (j : Nat) (d : Nat → Nat), j ≤ nk ∧ jv = .int .i64 (j : Nat) ∧ Mem w wi d T G0 lf (P.getD lf []).length ((P.getD lf []).drop gone) P K F A tl tc ap ak al aa cp ck cl ca) (fun jv _ => nk - (Go.RowKit.intOf jv).toNat)
        case atStart => exact ⟨0, c, Nat.zero_le _, rfl, HR.out.2.1⟩
        case round =>
          obtain ⟨j, d, hj', rfl, hMi⟩ := hrel
          rename World => wi
          have HM : Hid (Mem w wi d T G0 lf (P.getD lf []).length ((P.getD lf []).drop gone) P K F A tl tc ap ak al aa cp ck cl ca) := hMi
          clear hMi
          by_cases hjl : j < nk
          · clear HKi
            have hjl' : (j : Int) < (nk : Int) := Int.ofNat_lt.2 hjl
            have hjp : (j : Int) < (np : Int) := by
              have h1 := HR.out.2.2.1; have h2 := HR.out.2.2.2.1; have h3 := HR.out.1.lp; have h4 := HR.out.1.lk
              omega
            have hK := getD_of (P := K) (i := j) (by rw [← HR.out.2.2.2.1]; exact hjl)
            have hP := getD_of (P := P) (i := j) (by have h1 := HR.out.2.2.1; omega)
            obtain ⟨x, hx⟩ : ∃ x, x = K.getD j [] := ⟨_, rfl⟩
            obtain ⟨y, hy⟩ : ∃ y, y = P.getD j [] := ⟨_, rfl⟩
            rw [← hx] at hK
            rw [← hy] at hP
            obtain ⟨hpre, hxy⟩ := HR.out.1.pre j x y hK hP
            obtain ⟨kb, ko, ai, ci, rfl, k1, k2, -, -, k5⟩ := HM.out.2.2.2.1.get hK
            obtain ⟨pb, po, bi, di, rfl, p1, p2, -, -, p5⟩ := HM.out.2.2.1.get hP
            obtain ⟨nx, hnx⟩ : ∃ m, m = x.length := ⟨_, rfl⟩
            obtain ⟨ny, hny⟩ : ∃ m, m = y.length := ⟨_, rfl⟩
            rw [← hnx] at k1
            rw [← hny] at p1
            have hcap := RowV.len p5
            rw [List.length_map, ← hny] at hcap
            have b1 : ¬ ((ny : Int) < (nx : Int)) := by omega
            have b1n : ¬ (ny < nx) := by omega
            have b2 : (nx : Int) ≤ (di : Int) := by omega
            have b2n : nx ≤ di := by omega
            have HT : Hid (Strs wi ai x ∧ Strs wi bi y ∧ x = y.take nx ∧ nx = x.length ∧ nx ≤ ny ∧ ny = y.length ∧ ny ≤ 300) := ⟨RowV.strs k5, RowV.strs p5, by rw [hnx]; exact hpre, hnx, by omega, hny, by have := (HR.out.1.pz j y hP).1; have := HK2.out.1; omega⟩
            have HC : Hid (wi.cell? ⟨kb, ko + j, none⟩ = some (.slice ai nx ci) ∧ wi.cell? ⟨pb, po + j, none⟩ = some (.slice bi ny di) ∧ kb < wi.heap.size ∧ pb < wi.heap.size) := ⟨k1, p1, k2, p2⟩
            have KX : Hid (∀ (w' : World) (ca cb : Nat), Below wi.heap.size wi w' → Calls Try.prog 15 #[.slice ai nx ca, .slice bi nx cb] w' fun e w'' => e = .returned (.bool true) ∧ Below w'.heap.size w' w'') := fun w' ca cb hb => by
              have h1 : Strs w' ai x := HT.out.1.call hb
              have h2 : Strs w' bi x := fun i s his => (HT.out.2.1.call hb) i s (by
                rw [HT.out.2.2.1, List.getElem?_take] at his
                split at his
                · exact his
                · cases his)
              have := texts_any ai bi x x ca cb (by have := HT.out; omega) w' h1 h2
              rw [decide_eq_true rfl, ← HT.out.2.2.2.1] at this
              exact this
            rcases Classical.em (bi = none) with hb0 | hb0
            · subst hb0
              have z0 : y = [] ∧ di = 0 := by
                rcases p5 with ⟨_, q2, q3⟩ | ⟨_, _, q1, _⟩
                · exact ⟨List.map_eq_nil_iff.1 q2, q3⟩
                · cases q1
              obtain rfl : ny = 0 := by rw [hny, z0.1]; rfl
              obtain rfl : nx = 0 := by omega
              obtain rfl : di = 0 := z0.2
              clear z0 hx hy hK hP hpre hxy k1 k2 k5 p1 p2 p5 hnx hny hcap
              as_aux_lemma =>
                go_wp2_with fail
                refine wp_region_N (fun w' => Below wi.heap.size wi w') 26 29 rfl (by kernel_rfl) ?_
                refine wpAnyN_takeF (i := 0) (oi := ?o0qa) (v := ?v0qa) ?hi0qa (by kernel_rfl) (by kernel_rfl) (by kernel_rfl) (by decide) ?hQ0qa ?hy0qa (Below.drew (Below.refl _ _)) ?more0qa
                case hi0qa => rw [List.getElem?_toArray]; exact rfl
                case hQ0qa => exact fun _ _ _ h => h
                case hy0qa =>
                  refine Or.inl ⟨by rfl, ?_⟩
                  intro w' hSw
                  clear hSw
                  go_simp
                  try with_reducible rfl
                simp only [Act.put, List.setIfInBounds_toArray, List.set_cons_zero, List.set_cons_succ]
                refine wpAnyN_takeF (i := 1) (oi := ?o1qa) (v := ?v1qa) ?hi1qa (by kernel_rfl) (by kernel_rfl) (by kernel_rfl) (by decide) ?hQ1qa ?hy1qa (Below.drew (Below.refl _ _)) ?more1qa
                case hi1qa => rw [List.getElem?_toArray]; exact rfl
                case hQ1qa => exact fun _ _ _ h => h
                case hy1qa =>
                  refine Or.inl ⟨by rfl, ?_⟩
                  intro w' hSw
                  clear hSw
                  go_simp
                  try with_reducible rfl
                simp only [Act.put, List.setIfInBounds_toArray, List.set_cons_zero, List.set_cons_succ]
                refine wpAnyN_takeF (i := 2) (oi := ?o2qa) (v := ?v2qa) ?hi2qa (by kernel_rfl) (by kernel_rfl) (by kernel_rfl) (by decide) ?hQ2qa ?hy2qa (Below.drew (Below.refl _ _)) ?more2qa
                case hi2qa => rw [List.getElem?_toArray]; exact rfl
                case hQ2qa => exact fun _ _ _ h => h
                case hy2qa =>
                  refine Or.inl ⟨by rfl, ?_⟩
                  intro w' hSw
                  clear hSw
                  go_simp
                  try with_reducible rfl
                simp only [Act.put, List.setIfInBounds_toArray, List.set_cons_zero, List.set_cons_succ]
                refine wpAnyN_takeL (i := 3) (oi := ?o3qa) (v := ?v3qa) [4, 10, 11, 26] ?hi3qa (by kernel_rfl) (by kernel_rfl) (by kernel_rfl) (by kernel_rfl) (by decide) (by decide) (by kernel_rfl) ?hQ3qa ?hy3qa (Below.drew (Below.refl _ _)) ?more3qa
                case hi3qa => rw [List.getElem?_toArray]; exact rfl
                case hQ3qa => exact fun _ _ _ h => h
                case hy3qa =>
                  refine Or.inl ⟨by rfl, ?_⟩
                  intro w' hSw
                  have d1 := (hSw.cell (p := ⟨kb, ko + j, none⟩) HC.out.2.2.1).trans HC.out.1
                  have d2 := (hSw.cell (p := ⟨pb, po + j, none⟩) HC.out.2.2.2).trans HC.out.2.1
                  clear hSw
                  go_simp
                  try with_reducible rfl
                simp only [Act.put, List.setIfInBounds_toArray, List.set_cons_zero, List.set_cons_succ]
                refine wpAnyN_takeF (i := 4) (oi := ?o4qa) (v := ?v4qa) ?hi4qa (by kernel_rfl) (by kernel_rfl) (by kernel_rfl) (by decide) ?hQ4qa ?hy4qa (Below.drew (Below.refl _ _)) ?more4qa
                case hi4qa => rw [List.getElem?_toArray]; exact rfl
                case hQ4qa => exact fun _ _ _ h => h
                case hy4qa =>
                  refine Or.inl ⟨by rfl, ?_⟩
                  intro w' hSw
                  clear hSw
                  go_simp
                  try with_reducible rfl
                simp only [Act.put, List.setIfInBounds_toArray, List.set_cons_zero, List.set_cons_succ]
                refine wpAnyN_takeF (i := 5) (oi := ?o5qa) (v := ?v5qa) ?hi5qa (by kernel_rfl) (by kernel_rfl) (by kernel_rfl) (by decide) ?hQ5qa ?hy5qa (Below.drew (Below.refl _ _)) ?more5qa
                case hi5qa => rw [List.getElem?_toArray]; exact rfl
                case hQ5qa => exact fun _ _ _ h => h
                case hy5qa =>
                  refine Or.inl ⟨by rfl, ?_⟩
                  intro w' hSw
                  clear hSw
                  go_simp
                  try with_reducible rfl
                simp only [Act.put, List.setIfInBounds_toArray, List.set_cons_zero, List.set_cons_succ]
                refine wpAnyN_takeF (i := 6) (oi := ?o6qa) (v := ?v6qa) ?hi6qa (by kernel_rfl) (by kernel_rfl) (by kernel_rfl) (by decide) ?hQ6qa ?hy6qa (Below.drew (Below.refl _ _)) ?more6qa
                case hi6qa => rw [List.getElem?_toArray]; exact rfl
                case hQ6qa => exact fun _ _ _ h => h
                case hy6qa =>
                  refine Or.inl ⟨by rfl, ?_⟩
                  intro w' hSw
                  clear hSw
                  go_simp
                  try with_reducible rfl
                simp only [Act.put, List.setIfInBounds_toArray, List.set_cons_zero, List.set_cons_succ]
                refine wpAnyN_takeF (i := 7) (oi := ?o7qa) (v := ?v7qa) ?hi7qa (by kernel_rfl) (by kernel_rfl) (by kernel_rfl) (by decide) ?hQ7qa ?hy7qa (Below.drew (Below.refl _ _)) ?more7qa
                case hi7qa => rw [List.getElem?_toArray]; exact rfl
                case hQ7qa => exact fun _ _ _ h => h
                case hy7qa =>
                  refine Or.inl ⟨by rfl, ?_⟩
                  intro w' hSw
                  clear hSw
                  go_simp
                  try with_reducible rfl
                simp only [Act.put, List.setIfInBounds_toArray, List.set_cons_zero, List.set_cons_succ]
                refine wpAnyN_takeL (i := 8) (oi := ?o8qa) (v := ?v8qa) [9, 10, 11, 26] ?hi8qa (by kernel_rfl) (by kernel_rfl) (by kernel_rfl) (by kernel_rfl) (by decide) (by decide) (by kernel_rfl) ?hQ8qa ?hy8qa (Below.drew (Below.refl _ _)) ?more8qa
                case hi8qa => rw [List.getElem?_toArray]; exact rfl
                case hQ8qa => exact fun _ _ _ h => h
                case hy8qa =>
                  refine Or.inl ⟨by rfl, ?_⟩
                  intro w' hSw
                  have d1 := (hSw.cell (p := ⟨kb, ko + j, none⟩) HC.out.2.2.1).trans HC.out.1
                  have d2 := (hSw.cell (p := ⟨pb, po + j, none⟩) HC.out.2.2.2).trans HC.out.2.1
                  clear hSw
                  go_simp
                  try with_reducible rfl
                simp only [Act.put, List.setIfInBounds_toArray, List.set_cons_zero, List.set_cons_succ]
                refine wpAnyN_takeF (i := 9) (oi := ?o9qa) (v := ?v9qa) ?hi9qa (by kernel_rfl) (by kernel_rfl) (by kernel_rfl) (by decide) ?hQ9qa ?hy9qa (Below.drew (Below.refl _ _)) ?more9qa
                case hi9qa => rw [List.getElem?_toArray]; exact rfl
                case hQ9qa => exact fun _ _ _ h => h
                case hy9qa =>
                  refine Or.inl ⟨by rfl, ?_⟩
                  intro w' hSw
                  clear hSw
                  go_simp
                  try with_reducible rfl
                simp only [Act.put, List.setIfInBounds_toArray, List.set_cons_zero, List.set_cons_succ]
                refine wpAnyN_takeF (i := 10) (oi := ?o10qa) (v := ?v10qa) ?hi10qa (by kernel_rfl) (by kernel_rfl) (by kernel_rfl) (by decide) ?hQ10qa ?hy10qa (Below.drew (Below.refl _ _)) ?more10qa
                case hi10qa => rw [List.getElem?_toArray]; exact rfl
                case hQ10qa => exact fun _ _ _ h => h
                case hy10qa =>
                  refine Or.inl ⟨by rfl, ?_⟩
                  intro w' hSw
                  clear hSw
                  go_simp
                  try with_reducible rfl
                simp only [Act.put, List.setIfInBounds_toArray, List.set_cons_zero, List.set_cons_succ]
                refine wpAnyN_takeF (i := 11) (oi := ?o11qa) (v := ?v11qa) ?hi11qa (by kernel_rfl) (by kernel_rfl) (by kernel_rfl) (by decide) ?hQ11qa ?hy11qa (Below.drew (Below.refl _ _)) ?more11qa
                case hi11qa => rw [List.getElem?_toArray]; exact rfl
                case hQ11qa => exact fun _ _ _ h => h
                case hy11qa =>
                  refine Or.inl ⟨by rfl, ?_⟩
                  intro w' hSw
                  clear hSw
                  go_simp
                  try with_reducible rfl
                simp only [Act.put, List.setIfInBounds_toArray, List.set_cons_zero, List.set_cons_succ]
                refine wpAnyN_takeF (i := 12) (oi := ?o12qa) (v := ?v12qa) ?hi12qa (by kernel_rfl) (by kernel_rfl) (by kernel_rfl) (by decide) ?hQ12qa ?hy12qa (Below.drew (Below.refl _ _)) ?more12qa
                case hi12qa => rw [List.getElem?_toArray]; exact rfl
                case hQ12qa => exact fun _ _ _ h => h
                case hy12qa =>
                  refine Or.inl ⟨by rfl, ?_⟩
                  intro w' hSw
                  clear hSw
                  go_simp
                  try with_reducible rfl
                simp only [Act.put, List.setIfInBounds_toArray, List.set_cons_zero, List.set_cons_succ]
                refine wpAnyN_takeF (i := 13) (oi := ?o13qa) (v := ?v13qa) ?hi13qa (by kernel_rfl) (by kernel_rfl) (by kernel_rfl) (by decide) ?hQ13qa ?hy13qa (Below.drew (Below.refl _ _)) ?more13qa
                case hi13qa => rw [List.getElem?_toArray]; exact rfl
                case hQ13qa => exact fun _ _ _ h => h
                case hy13qa =>
                  refine Or.inl ⟨by rfl, ?_⟩
                  intro w' hSw
                  clear hSw
                  go_simp
                  try with_reducible rfl
                simp only [Act.put, List.setIfInBounds_toArray, List.set_cons_zero, List.set_cons_succ]
                refine wpAnyN_takeF (i := 14) (oi := ?o14qa) (v := ?v14qa) ?hi14qa (by kernel_rfl) (by kernel_rfl) (by kernel_rfl) (by decide) ?hQ14qa ?hy14qa (Below.drew (Below.refl _ _)) ?more14qa
                case hi14qa => rw [List.getElem?_toArray]; exact rfl
                case hQ14qa => exact fun _ _ _ h => h
                case hy14qa =>
                  refine Or.inl ⟨by rfl, ?_⟩
                  intro w' hSw
                  clear hSw
                  go_simp
                  try with_reducible rfl
                simp only [Act.put, List.setIfInBounds_toArray, List.set_cons_zero, List.set_cons_succ]
                refine wpAnyN_take (i := 15) (oi := ?o15qa) (v := ?v15qa) ?hi15qa (by kernel_rfl) (by kernel_rfl) (by kernel_rfl) (by kernel_rfl) (by decide) (by kernel_rfl) ?hQ15qa ?hy15qa (Below.drew (Below.refl _ _)) ?more15qa
                case hi15qa => rw [List.getElem?_toArray]; exact rfl
                case hQ15qa => exact fun _ _ _ h => h
                case hy15qa =>
                  refine Or.inl ⟨by rfl, ?_⟩
                  intro w' hSw
                  have d1 := (hSw.cell (p := ⟨kb, ko + j, none⟩) HC.out.2.2.1).trans HC.out.1
                  have d2 := (hSw.cell (p := ⟨pb, po + j, none⟩) HC.out.2.2.2).trans HC.out.2.1
                  clear hSw
                  go_simp
                  try with_reducible rfl
                simp only [Act.put, List.setIfInBounds_toArray, List.set_cons_zero, List.set_cons_succ]
                refine wpAnyN_takeF (i := 16) (oi := ?o16qa) (v := ?v16qa) ?hi16qa (by kernel_rfl) (by kernel_rfl) (by kernel_rfl) (by decide) ?hQ16qa ?hy16qa (Below.drew (Below.refl _ _)) ?more16qa
                case hi16qa => rw [List.getElem?_toArray]; exact rfl
                case hQ16qa => exact fun _ _ _ h => h
                case hy16qa =>
                  refine Or.inl ⟨by rfl, ?_⟩
                  intro w' hSw
                  clear hSw
                  go_simp
                  try with_reducible rfl
                simp only [Act.put, List.setIfInBounds_toArray, List.set_cons_zero, List.set_cons_succ]
                refine wpAnyN_takeF (i := 17) (oi := ?o17qa) (v := ?v17qa) ?hi17qa (by kernel_rfl) (by kernel_rfl) (by kernel_rfl) (by decide) ?hQ17qa ?hy17qa (Below.drew (Below.refl _ _)) ?more17qa
                case hi17qa => rw [List.getElem?_toArray]; exact rfl
                case hQ17qa => exact fun _ _ _ h => h
                case hy17qa =>
                  refine Or.inl ⟨by rfl, ?_⟩
                  intro w' hSw
                  clear hSw
                  go_simp
                  try with_reducible rfl
                simp only [Act.put, List.setIfInBounds_toArray, List.set_cons_zero, List.set_cons_succ]
                refine wpAnyN_takeF (i := 18) (oi := ?o18qa) (v := ?v18qa) ?hi18qa (by kernel_rfl) (by kernel_rfl) (by kernel_rfl) (by decide) ?hQ18qa ?hy18qa (Below.drew (Below.refl _ _)) ?more18qa
                case hi18qa => rw [List.getElem?_toArray]; exact rfl
                case hQ18qa => exact fun _ _ _ h => h
                case hy18qa =>
                  refine Or.inl ⟨by rfl, ?_⟩
                  intro w' hSw
                  clear hSw
                  go_simp
                  try with_reducible rfl
                simp only [Act.put, List.setIfInBounds_toArray, List.set_cons_zero, List.set_cons_succ]
                refine wpAnyN_takeL (i := 19) (oi := ?o19qa) (v := ?v19qa) [25, 26] ?hi19qa (by kernel_rfl) (by kernel_rfl) (by kernel_rfl) (by kernel_rfl) (by decide) (by decide) (by kernel_rfl) ?hQ19qa ?hy19qa (Below.drew (Below.refl _ _)) ?more19qa
                case hi19qa => rw [List.getElem?_toArray]; exact rfl
                case hQ19qa => exact fun _ _ _ h => h
                case hy19qa =>
                  refine Or.inl ⟨by rfl, ?_⟩
                  intro w' hSw
                  have d1 := (hSw.cell (p := ⟨kb, ko + j, none⟩) HC.out.2.2.1).trans HC.out.1
                  have d2 := (hSw.cell (p := ⟨pb, po + j, none⟩) HC.out.2.2.2).trans HC.out.2.1
                  clear hSw
                  go_simp
                  try with_reducible rfl
                simp only [Act.put, List.setIfInBounds_toArray, List.set_cons_zero, List.set_cons_succ]
                refine wpAnyN_takeF (i := 20) (oi := ?o20qa) (v := ?v20qa) ?hi20qa (by kernel_rfl) (by kernel_rfl) (by kernel_rfl) (by decide) ?hQ20qa ?hy20qa (Below.drew (Below.refl _ _)) ?more20qa
                case hi20qa => rw [List.getElem?_toArray]; exact rfl
                case hQ20qa => exact fun _ _ _ h => h
                case hy20qa =>
                  refine Or.inl ⟨by rfl, ?_⟩
                  intro w' hSw
                  clear hSw
                  go_simp
                  try with_reducible rfl
                simp only [Act.put, List.setIfInBounds_toArray, List.set_cons_zero, List.set_cons_succ]
                refine wpAnyN_takeF (i := 21) (oi := ?o21qa) (v := ?v21qa) ?hi21qa (by kernel_rfl) (by kernel_rfl) (by kernel_rfl) (by decide) ?hQ21qa ?hy21qa (Below.drew (Below.refl _ _)) ?more21qa
                case hi21qa => rw [List.getElem?_toArray]; exact rfl
                case hQ21qa => exact fun _ _ _ h => h
                case hy21qa =>
                  refine Or.inl ⟨by rfl, ?_⟩
                  intro w' hSw
                  clear hSw
                  go_simp
                  try with_reducible rfl
                simp only [Act.put, List.setIfInBounds_toArray, List.set_cons_zero, List.set_cons_succ]
                refine wpAnyN_takeF (i := 22) (oi := ?o22qa) (v := ?v22qa) ?hi22qa (by kernel_rfl) (by kernel_rfl) (by kernel_rfl) (by decide) ?hQ22qa ?hy22qa (Below.drew (Below.refl _ _)) ?more22qa
                case hi22qa => rw [List.getElem?_toArray]; exact rfl
                case hQ22qa => exact fun _ _ _ h => h
                case hy22qa =>
                  refine Or.inl ⟨by rfl, ?_⟩
                  intro w' hSw
                  clear hSw
                  go_simp
                  try with_reducible rfl
                simp only [Act.put, List.setIfInBounds_toArray, List.set_cons_zero, List.set_cons_succ]
                refine wpAnyN_takeL (i := 23) (oi := ?o23qa) (v := ?v23qa) [24, 25, 26] ?hi23qa (by kernel_rfl) (by kernel_rfl) (by kernel_rfl) (by kernel_rfl) (by decide) (by decide) (by kernel_rfl) ?hQ23qa ?hy23qa (Below.drew (Below.refl _ _)) ?more23qa
                case hi23qa => rw [List.getElem?_toArray]; exact rfl
                case hQ23qa => exact fun _ _ _ h => h
                case hy23qa =>
                  refine Or.inl ⟨by rfl, ?_⟩
                  intro w' hSw
                  have d1 := (hSw.cell (p := ⟨kb, ko + j, none⟩) HC.out.2.2.1).trans HC.out.1
                  have d2 := (hSw.cell (p := ⟨pb, po + j, none⟩) HC.out.2.2.2).trans HC.out.2.1
                  clear hSw
                  go_simp
                  try with_reducible rfl
                simp only [Act.put, List.setIfInBounds_toArray, List.set_cons_zero, List.set_cons_succ]
                refine wpAnyN_takeF (i := 24) (oi := ?o24qa) (v := ?v24qa) ?hi24qa (by kernel_rfl) (by kernel_rfl) (by kernel_rfl) (by decide) ?hQ24qa ?hy24qa (Below.drew (Below.refl _ _)) ?more24qa
                case hi24qa => rw [List.getElem?_toArray]; exact rfl
                case hQ24qa => exact fun _ _ _ h => h
                case hy24qa =>
                  refine Or.inl ⟨by rfl, ?_⟩
                  intro w' hSw
                  clear hSw
                  go_simp
                  try with_reducible rfl
                simp only [Act.put, List.setIfInBounds_toArray, List.set_cons_zero, List.set_cons_succ]
                refine wpAnyN_takeF (i := 25) (oi := ?o25qa) (v := ?v25qa) ?hi25qa (by kernel_rfl) (by kernel_rfl) (by kernel_rfl) (by decide) ?hQ25qa ?hy25qa (Below.drew (Below.refl _ _)) ?more25qa
                case hi25qa => rw [List.getElem?_toArray]; exact rfl
                case hQ25qa => exact fun _ _ _ h => h
                case hy25qa =>
                  refine Or.inl ⟨by rfl, ?_⟩
                  intro w' hSw
                  clear hSw
                  go_simp
                  try with_reducible rfl
                simp only [Act.put, List.setIfInBounds_toArray, List.set_cons_zero, List.set_cons_succ]
                refine wpAnyN_one (i := 26) (o := ?o26qa) (by kernel_rfl) ?hi26qa ?hw26qa ?st26qa
                case hi26qa => rw [List.getElem?_toArray]; exact rfl
                case hw26qa => exact rfl
                intro K hK
                have HK26 : Hid _ := hK
                clear hK
                go_simp
                refine (KX.out _ _ _ (Below.drew (Below.refl _ _))).mono ?_
                rintro e w26 ⟨rfl, hq⟩
                have H26 : Hid (Below wi.heap.size wi w26) := below_call0 (Below.drew (Below.refl _ _)) hq
                clear hq
                go_wp2_with fail
                refine HK26.out _ _ ⟨fun _ => H26.out, ?_⟩
                clear HK26 K
                try simp only [Act.put, List.setIfInBounds_toArray, List.set_cons_zero, List.set_cons_succ]
                refine wpAnyN_takeF (i := 27) (oi := ?o27qa) (v := ?v27qa) ?hi27qa (by kernel_rfl) (by kernel_rfl) (by kernel_rfl) (by decide) ?hQ27qa ?hy27qa H26.out ?more27qa
                case hi27qa => rw [List.getElem?_toArray]; exact rfl
                case hQ27qa => exact fun _ _ _ h => h
                case hy27qa =>
                  refine Or.inl ⟨by rfl, ?_⟩
                  intro w' hSw
                  clear hSw
                  go_simp
                  try with_reducible rfl
                simp only [Act.put, List.setIfInBounds_toArray, List.set_cons_zero, List.set_cons_succ]
                refine wpAnyN_one (i := 28) (o := ?o28qa) (by kernel_rfl) ?hi28qa ?hw28qa ?st28qa
                case hi28qa => rw [List.getElem?_toArray]; exact rfl
                case hw28qa => exact rfl
                intro K hK
                have HK28 : Hid _ := hK
                clear hK
                go_simp
                refine HK28.out _ _ ⟨fun h => absurd h (by decide +kernel), ?_⟩
                clear HK28 K
                try simp only [Act.put, List.setIfInBounds_toArray, List.set_cons_zero, List.set_cons_succ]
                refine wpAnyN_done (by kernel_rfl) ?_ _
                have HE : Hid (Mem w w26 (paint d wi w26 0) T G0 lf (P.getD lf []).length ((P.getD lf []).drop gone) P K F A tl tc (some ⟨pb, po, none⟩) (some ⟨kb, ko, none⟩) al aa cp ck cl ca) := HM.out.call H26.out
                go_wp2_with fail
                go_roundw
                case rel => first | exact ⟨j + 1, _, hjl, by go_num, HE.out⟩ | ((repeat apply Exists.intro); exact ⟨⟨j + 1, _, hjl, by go_num, HE.out⟩, rfl⟩)
                case measure => simp [Go.RowKit.intOf]; omega
            · obtain ⟨yb, yo, rfl⟩ : ∃ b o, bi = some ⟨b, o, none⟩ := by
                rcases p5 with ⟨q1, _⟩ | ⟨b, o, q1, _⟩
                · exact absurd q1 hb0
                · exact ⟨b, o, q1⟩
              clear hb0 hx hy hK hP hpre hxy k1 k2 k5 p1 p2 p5 hnx hny hcap
              as_aux_lemma =>
                go_wp2_with fail
                refine wp_region_N (fun w' => Below wi.heap.size wi w') 26 29 rfl (by kernel_rfl) ?_
                refine wpAnyN_takeF (i := 0) (oi := ?o0qb) (v := ?v0qb) ?hi0qb (by kernel_rfl) (by kernel_rfl) (by kernel_rfl) (by decide) ?hQ0qb ?hy0qb (Below.drew (Below.refl _ _)) ?more0qb
                case hi0qb => rw [List.getElem?_toArray]; exact rfl
                case hQ0qb => exact fun _ _ _ h => h
                case hy0qb =>
                  refine Or.inl ⟨by rfl, ?_⟩
                  intro w' hSw
                  clear hSw
                  go_simp
                  try with_reducible rfl
                simp only [Act.put, List.setIfInBounds_toArray, List.set_cons_zero, List.set_cons_succ]
                refine wpAnyN_takeF (i := 1) (oi := ?o1qb) (v := ?v1qb) ?hi1qb (by kernel_rfl) (by kernel_rfl) (by kernel_rfl) (by decide) ?hQ1qb ?hy1qb (Below.drew (Below.refl _ _)) ?more1qb
                case hi1qb => rw [List.getElem?_toArray]; exact rfl
                case hQ1qb => exact fun _ _ _ h => h
                case hy1qb =>
                  refine Or.inl ⟨by rfl, ?_⟩
                  intro w' hSw
                  clear hSw
                  go_simp
                  try with_reducible rfl
                simp only [Act.put, List.setIfInBounds_toArray, List.set_cons_zero, List.set_cons_succ]
                refine wpAnyN_takeF (i := 2) (oi := ?o2qb) (v := ?v2qb) ?hi2qb (by kernel_rfl) (by kernel_rfl) (by kernel_rfl) (by decide) ?hQ2qb ?hy2qb (Below.drew (Below.refl _ _)) ?more2qb
                case hi2qb => rw [List.getElem?_toArray]; exact rfl
                case hQ2qb => exact fun _ _ _ h => h
                case hy2qb =>
                  refine Or.inl ⟨by rfl, ?_⟩
                  intro w' hSw
                  clear hSw
                  go_simp
                  try with_reducible rfl
                simp only [Act.put, List.setIfInBounds_toArray, List.set_cons_zero, List.set_cons_succ]
                refine wpAnyN_takeL (i := 3) (oi := ?o3qb) (v := ?v3qb) [4, 10, 11, 26] ?hi3qb (by kernel_rfl) (by kernel_rfl) (by kernel_rfl) (by kernel_rfl) (by decide) (by decide) (by kernel_rfl) ?hQ3qb ?hy3qb (Below.drew (Below.refl _ _)) ?more3qb
                case hi3qb => rw [List.getElem?_toArray]; exact rfl
                case hQ3qb => exact fun _ _ _ h => h
                case hy3qb =>
                  refine Or.inl ⟨by rfl, ?_⟩
                  intro w' hSw
                  have d1 := (hSw.cell (p := ⟨kb, ko + j, none⟩) HC.out.2.2.1).trans HC.out.1
                  have d2 := (hSw.cell (p := ⟨pb, po + j, none⟩) HC.out.2.2.2).trans HC.out.2.1
                  clear hSw
                  go_simp
                  try with_reducible rfl
                simp only [Act.put, List.setIfInBounds_toArray, List.set_cons_zero, List.set_cons_succ]
                refine wpAnyN_takeF (i := 4) (oi := ?o4qb) (v := ?v4qb) ?hi4qb (by kernel_rfl) (by kernel_rfl) (by kernel_rfl) (by decide) ?hQ4qb ?hy4qb (Below.drew (Below.refl _ _)) ?more4qb
                case hi4qb => rw [List.getElem?_toArray]; exact rfl
                case hQ4qb => exact fun _ _ _ h => h
                case hy4qb =>
                  refine Or.inl ⟨by rfl, ?_⟩
                  intro w' hSw
                  clear hSw
                  go_simp
                  try with_reducible rfl
                simp only [Act.put, List.setIfInBounds_toArray, List.set_cons_zero, List.set_cons_succ]
                refine wpAnyN_takeF (i := 5) (oi := ?o5qb) (v := ?v5qb) ?hi5qb (by kernel_rfl) (by kernel_rfl) (by kernel_rfl) (by decide) ?hQ5qb ?hy5qb (Below.drew (Below.refl _ _)) ?more5qb
                case hi5qb => rw [List.getElem?_toArray]; exact rfl
                case hQ5qb => exact fun _ _ _ h => h
                case hy5qb =>
                  refine Or.inl ⟨by rfl, ?_⟩
                  intro w' hSw
                  clear hSw
                  go_simp
                  try with_reducible rfl
                simp only [Act.put, List.setIfInBounds_toArray, List.set_cons_zero, List.set_cons_succ]
                refine wpAnyN_takeF (i := 6) (oi := ?o6qb) (v := ?v6qb) ?hi6qb (by kernel_rfl) (by kernel_rfl) (by kernel_rfl) (by decide) ?hQ6qb ?hy6qb (Below.drew (Below.refl _ _)) ?more6qb
                case hi6qb => rw [List.getElem?_toArray]; exact rfl
                case hQ6qb => exact fun _ _ _ h => h
                case hy6qb =>
                  refine Or.inl ⟨by rfl, ?_⟩
                  intro w' hSw
                  clear hSw
                  go_simp
                  try with_reducible rfl
                simp only [Act.put, List.setIfInBounds_toArray, List.set_cons_zero, List.set_cons_succ]
                refine wpAnyN_takeF (i := 7) (oi := ?o7qb) (v := ?v7qb) ?hi7qb (by kernel_rfl) (by kernel_rfl) (by kernel_rfl) (by decide) ?hQ7qb ?hy7qb (Below.drew (Below.refl _ _)) ?more7qb
                case hi7qb => rw [List.getElem?_toArray]; exact rfl
                case hQ7qb => exact fun _ _ _ h => h
                case hy7qb =>
                  refine Or.inl ⟨by rfl, ?_⟩
                  intro w' hSw
                  clear hSw
                  go_simp
                  try with_reducible rfl
                simp only [Act.put, List.setIfInBounds_toArray, List.set_cons_zero, List.set_cons_succ]
                refine wpAnyN_takeL (i := 8) (oi := ?o8qb) (v := ?v8qb) [9, 10, 11, 26] ?hi8qb (by kernel_rfl) (by kernel_rfl) (by kernel_rfl) (by kernel_rfl) (by decide) (by decide) (by kernel_rfl) ?hQ8qb ?hy8qb (Below.drew (Below.refl _ _)) ?more8qb
                case hi8qb => rw [List.getElem?_toArray]; exact rfl
                case hQ8qb => exact fun _ _ _ h => h
                case hy8qb =>
                  refine Or.inl ⟨by rfl, ?_⟩
                  intro w' hSw
                  have d1 := (hSw.cell (p := ⟨kb, ko + j, none⟩) HC.out.2.2.1).trans HC.out.1
                  have d2 := (hSw.cell (p := ⟨pb, po + j, none⟩) HC.out.2.2.2).trans HC.out.2.1
                  clear hSw
                  go_simp
                  try with_reducible rfl
                simp only [Act.put, List.setIfInBounds_toArray, List.set_cons_zero, List.set_cons_succ]
                refine wpAnyN_takeF (i := 9) (oi := ?o9qb) (v := ?v9qb) ?hi9qb (by kernel_rfl) (by kernel_rfl) (by kernel_rfl) (by decide) ?hQ9qb ?hy9qb (Below.drew (Below.refl _ _)) ?more9qb
                case hi9qb => rw [List.getElem?_toArray]; exact rfl
                case hQ9qb => exact fun _ _ _ h => h
                case hy9qb =>
                  refine Or.inl ⟨by rfl, ?_⟩
                  intro w' hSw
                  clear hSw
                  go_simp
                  try with_reducible rfl
                simp only [Act.put, List.setIfInBounds_toArray, List.set_cons_zero, List.set_cons_succ]
                refine wpAnyN_takeF (i := 10) (oi := ?o10qb) (v := ?v10qb) ?hi10qb (by kernel_rfl) (by kernel_rfl) (by kernel_rfl) (by decide) ?hQ10qb ?hy10qb (Below.drew (Below.refl _ _)) ?more10qb
                case hi10qb => rw [List.getElem?_toArray]; exact rfl
                case hQ10qb => exact fun _ _ _ h => h
                case hy10qb =>
                  refine Or.inl ⟨by rfl, ?_⟩
                  intro w' hSw
                  clear hSw
                  go_simp
                  try with_reducible rfl
                simp only [Act.put, List.setIfInBounds_toArray, List.set_cons_zero, List.set_cons_succ]
                refine wpAnyN_takeF (i := 11) (oi := ?o11qb) (v := ?v11qb) ?hi11qb (by kernel_rfl) (by kernel_rfl) (by kernel_rfl) (by decide) ?hQ11qb ?hy11qb (Below.drew (Below.refl _ _)) ?more11qb
                case hi11qb => rw [List.getElem?_toArray]; exact rfl
                case hQ11qb => exact fun _ _ _ h => h
                case hy11qb =>
                  refine Or.inl ⟨by rfl, ?_⟩
                  intro w' hSw
                  clear hSw
                  go_simp
                  try with_reducible rfl
                simp only [Act.put, List.setIfInBounds_toArray, List.set_cons_zero, List.set_cons_succ]
                refine wpAnyN_takeF (i := 12) (oi := ?o12qb) (v := ?v12qb) ?hi12qb (by kernel_rfl) (by kernel_rfl) (by kernel_rfl) (by decide) ?hQ12qb ?hy12qb (Below.drew (Below.refl _ _)) ?more12qb
                case hi12qb => rw [List.getElem?_toArray]; exact rfl
                case hQ12qb => exact fun _ _ _ h => h
                case hy12qb =>
                  refine Or.inl ⟨by rfl, ?_⟩
                  intro w' hSw
                  clear hSw
                  go_simp
                  try with_reducible rfl
                simp only [Act.put, List.setIfInBounds_toArray, List.set_cons_zero, List.set_cons_succ]
                refine wpAnyN_takeF (i := 13) (oi := ?o13qb) (v := ?v13qb) ?hi13qb (by kernel_rfl) (by kernel_rfl) (by kernel_rfl) (by decide) ?hQ13qb ?hy13qb (Below.drew (Below.refl _ _)) ?more13qb
                case hi13qb => rw [List.getElem?_toArray]; exact rfl
                case hQ13qb => exact fun _ _ _ h => h
                case hy13qb =>
                  refine Or.inl ⟨by rfl, ?_⟩
                  intro w' hSw
                  clear hSw
                  go_simp
                  try with_reducible rfl
                simp only [Act.put, List.setIfInBounds_toArray, List.set_cons_zero, List.set_cons_succ]
                refine wpAnyN_takeF (i := 14) (oi := ?o14qb) (v := ?v14qb) ?hi14qb (by kernel_rfl) (by kernel_rfl) (by kernel_rfl) (by decide) ?hQ14qb ?hy14qb (Below.drew (Below.refl _ _)) ?more14qb
                case hi14qb => rw [List.getElem?_toArray]; exact rfl
                case hQ14qb => exact fun _ _ _ h => h
                case hy14qb =>
                  refine Or.inl ⟨by rfl, ?_⟩
                  intro w' hSw
                  clear hSw
                  go_simp
                  try with_reducible rfl
                simp only [Act.put, List.setIfInBounds_toArray, List.set_cons_zero, List.set_cons_succ]
                refine wpAnyN_take (i := 15) (oi := ?o15qb) (v := ?v15qb) ?hi15qb (by kernel_rfl) (by kernel_rfl) (by kernel_rfl) (by kernel_rfl) (by decide) (by kernel_rfl) ?hQ15qb ?hy15qb (Below.drew (Below.refl _ _)) ?more15qb
                case hi15qb => rw [List.getElem?_toArray]; exact rfl
                case hQ15qb => exact fun _ _ _ h => h
                case hy15qb =>
                  refine Or.inl ⟨by rfl, ?_⟩
                  intro w' hSw
                  have d1 := (hSw.cell (p := ⟨kb, ko + j, none⟩) HC.out.2.2.1).trans HC.out.1
                  have d2 := (hSw.cell (p := ⟨pb, po + j, none⟩) HC.out.2.2.2).trans HC.out.2.1
                  clear hSw
                  go_simp
                  try with_reducible rfl
                simp only [Act.put, List.setIfInBounds_toArray, List.set_cons_zero, List.set_cons_succ]
                refine wpAnyN_takeF (i := 16) (oi := ?o16qb) (v := ?v16qb) ?hi16qb (by kernel_rfl) (by kernel_rfl) (by kernel_rfl) (by decide) ?hQ16qb ?hy16qb (Below.drew (Below.refl _ _)) ?more16qb
                case hi16qb => rw [List.getElem?_toArray]; exact rfl
                case hQ16qb => exact fun _ _ _ h => h
                case hy16qb =>
                  refine Or.inl ⟨by rfl, ?_⟩
                  intro w' hSw
                  clear hSw
                  go_simp
                  try with_reducible rfl
                simp only [Act.put, List.setIfInBounds_toArray, List.set_cons_zero, List.set_cons_succ]
                refine wpAnyN_takeF (i := 17) (oi := ?o17qb) (v := ?v17qb) ?hi17qb (by kernel_rfl) (by kernel_rfl) (by kernel_rfl) (by decide) ?hQ17qb ?hy17qb (Below.drew (Below.refl _ _)) ?more17qb
                case hi17qb => rw [List.getElem?_toArray]; exact rfl
                case hQ17qb => exact fun _ _ _ h => h
                case hy17qb =>
                  refine Or.inl ⟨by rfl, ?_⟩
                  intro w' hSw
                  clear hSw
                  go_simp
                  try with_reducible rfl
                simp only [Act.put, List.setIfInBounds_toArray, List.set_cons_zero, List.set_cons_succ]
                refine wpAnyN_takeF (i := 18) (oi := ?o18qb) (v := ?v18qb) ?hi18qb (by kernel_rfl) (by kernel_rfl) (by kernel_rfl) (by decide) ?hQ18qb ?hy18qb (Below.drew (Below.refl _ _)) ?more18qb
                case hi18qb => rw [List.getElem?_toArray]; exact rfl
                case hQ18qb => exact fun _ _ _ h => h
                case hy18qb =>
                  refine Or.inl ⟨by rfl, ?_⟩
                  intro w' hSw
                  clear hSw
                  go_simp
                  try with_reducible rfl
                simp only [Act.put, List.setIfInBounds_toArray, List.set_cons_zero, List.set_cons_succ]
                refine wpAnyN_takeL (i := 19) (oi := ?o19qb) (v := ?v19qb) [25, 26] ?hi19qb (by kernel_rfl) (by kernel_rfl) (by kernel_rfl) (by kernel_rfl) (by decide) (by decide) (by kernel_rfl) ?hQ19qb ?hy19qb (Below.drew (Below.refl _ _)) ?more19qb
                case hi19qb => rw [List.getElem?_toArray]; exact rfl
                case hQ19qb => exact fun _ _ _ h => h
                case hy19qb =>
                  refine Or.inl ⟨by rfl, ?_⟩
                  intro w' hSw
                  have d1 := (hSw.cell (p := ⟨kb, ko + j, none⟩) HC.out.2.2.1).trans HC.out.1
                  have d2 := (hSw.cell (p := ⟨pb, po + j, none⟩) HC.out.2.2.2).trans HC.out.2.1
                  clear hSw
                  go_simp
                  try with_reducible rfl
                simp only [Act.put, List.setIfInBounds_toArray, List.set_cons_zero, List.set_cons_succ]
                refine wpAnyN_takeF (i := 20) (oi := ?o20qb) (v := ?v20qb) ?hi20qb (by kernel_rfl) (by kernel_rfl) (by kernel_rfl) (by decide) ?hQ20qb ?hy20qb (Below.drew (Below.refl _ _)) ?more20qb
                case hi20qb => rw [List.getElem?_toArray]; exact rfl
                case hQ20qb => exact fun _ _ _ h => h
                case hy20qb =>
                  refine Or.inl ⟨by rfl, ?_⟩
                  intro w' hSw
                  clear hSw
                  go_simp
                  try with_reducible rfl
                simp only [Act.put, List.setIfInBounds_toArray, List.set_cons_zero, List.set_cons_succ]
                refine wpAnyN_takeF (i := 21) (oi := ?o21qb) (v := ?v21qb) ?hi21qb (by kernel_rfl) (by kernel_rfl) (by kernel_rfl) (by decide) ?hQ21qb ?hy21qb (Below.drew (Below.refl _ _)) ?more21qb
                case hi21qb => rw [List.getElem?_toArray]; exact rfl
                case hQ21qb => exact fun _ _ _ h => h
                case hy21qb =>
                  refine Or.inl ⟨by rfl, ?_⟩
                  intro w' hSw
                  clear hSw
                  go_simp
                  try with_reducible rfl
                simp only [Act.put, List.setIfInBounds_toArray, List.set_cons_zero, List.set_cons_succ]
                refine wpAnyN_takeF (i := 22) (oi := ?o22qb) (v := ?v22qb) ?hi22qb (by kernel_rfl) (by kernel_rfl) (by kernel_rfl) (by decide) ?hQ22qb ?hy22qb (Below.drew (Below.refl _ _)) ?more22qb
                case hi22qb => rw [List.getElem?_toArray]; exact rfl
                case hQ22qb => exact fun _ _ _ h => h
                case hy22qb =>
                  refine Or.inl ⟨by rfl, ?_⟩
                  intro w' hSw
                  clear hSw
                  go_simp
                  try with_reducible rfl
                simp only [Act.put, List.setIfInBounds_toArray, List.set_cons_zero, List.set_cons_succ]
                refine wpAnyN_takeL (i := 23) (oi := ?o23qb) (v := ?v23qb) [24, 25, 26] ?hi23qb (by kernel_rfl) (by kernel_rfl) (by kernel_rfl) (by kernel_rfl) (by decide) (by decide) (by kernel_rfl) ?hQ23qb ?hy23qb (Below.drew (Below.refl _ _)) ?more23qb
                case hi23qb => rw [List.getElem?_toArray]; exact rfl
                case hQ23qb => exact fun _ _ _ h => h
                case hy23qb =>
                  refine Or.inl ⟨by rfl, ?_⟩
                  intro w' hSw
                  have d1 := (hSw.cell (p := ⟨kb, ko + j, none⟩) HC.out.2.2.1).trans HC.out.1
                  have d2 := (hSw.cell (p := ⟨pb, po + j, none⟩) HC.out.2.2.2).trans HC.out.2.1
                  clear hSw
                  go_simp
                  try with_reducible rfl
                simp only [Act.put, List.setIfInBounds_toArray, List.set_cons_zero, List.set_cons_succ]
                refine wpAnyN_takeF (i := 24) (oi := ?o24qb) (v := ?v24qb) ?hi24qb (by kernel_rfl) (by kernel_rfl) (by kernel_rfl) (by decide) ?hQ24qb ?hy24qb (Below.drew (Below.refl _ _)) ?more24qb
                case hi24qb => rw [List.getElem?_toArray]; exact rfl
                case hQ24qb => exact fun _ _ _ h => h
                case hy24qb =>
                  refine Or.inl ⟨by rfl, ?_⟩
                  intro w' hSw
                  clear hSw
                  go_simp
                  try with_reducible rfl
                simp only [Act.put, List.setIfInBounds_toArray, List.set_cons_zero, List.set_cons_succ]
                refine wpAnyN_takeF (i := 25) (oi := ?o25qb) (v := ?v25qb) ?hi25qb (by kernel_rfl) (by kernel_rfl) (by kernel_rfl) (by decide) ?hQ25qb ?hy25qb (Below.drew (Below.refl _ _)) ?more25qb
                case hi25qb => rw [List.getElem?_toArray]; exact rfl
                case hQ25qb => exact fun _ _ _ h => h
                case hy25qb =>
                  refine Or.inl ⟨by rfl, ?_⟩
                  intro w' hSw
                  clear hSw
                  go_simp
                  try with_reducible rfl
                simp only [Act.put, List.setIfInBounds_toArray, List.set_cons_zero, List.set_cons_succ]
                refine wpAnyN_one (i := 26) (o := ?o26qb) (by kernel_rfl) ?hi26qb ?hw26qb ?st26qb
                case hi26qb => rw [List.getElem?_toArray]; exact rfl
                case hw26qb => exact rfl
                intro K hK
                have HK26 : Hid _ := hK
                clear hK
                go_simp
                refine (KX.out _ _ _ (Below.drew (Below.refl _ _))).mono ?_
                rintro e w26 ⟨rfl, hq⟩
                have H26 : Hid (Below wi.heap.size wi w26) := below_call0 (Below.drew (Below.refl _ _)) hq
                clear hq
                go_wp2_with fail
                refine HK26.out _ _ ⟨fun _ => H26.out, ?_⟩
                clear HK26 K
                try simp only [Act.put, List.setIfInBounds_toArray, List.set_cons_zero, List.set_cons_succ]
                refine wpAnyN_takeF (i := 27) (oi := ?o27qb) (v := ?v27qb) ?hi27qb (by kernel_rfl) (by kernel_rfl) (by kernel_rfl) (by decide) ?hQ27qb ?hy27qb H26.out ?more27qb
                case hi27qb => rw [List.getElem?_toArray]; exact rfl
                case hQ27qb => exact fun _ _ _ h => h
                case hy27qb =>
                  refine Or.inl ⟨by rfl, ?_⟩
                  intro w' hSw
                  clear hSw
                  go_simp
                  try with_reducible rfl
                simp only [Act.put, List.setIfInBounds_toArray, List.set_cons_zero, List.set_cons_succ]
                refine wpAnyN_one (i := 28) (o := ?o28qb) (by kernel_rfl) ?hi28qb ?hw28qb ?st28qb
                case hi28qb => rw [List.getElem?_toArray]; exact rfl
                case hw28qb => exact rfl
                intro K hK
                have HK28 : Hid _ := hK
                clear hK
                go_simp
                refine HK28.out _ _ ⟨fun h => absurd h (by decide +kernel), ?_⟩
                clear HK28 K
                try simp only [Act.put, List.setIfInBounds_toArray, List.set_cons_zero, List.set_cons_succ]
                refine wpAnyN_done (by kernel_rfl) ?_ _
                have HE : Hid (Mem w w26 (paint d wi w26 0) T G0 lf (P.getD lf []).length ((P.getD lf []).drop gone) P K F A tl tc (some ⟨pb, po, none⟩) (some ⟨kb, ko, none⟩) al aa cp ck cl ca) := HM.out.call H26.out
                go_wp2_with fail
                go_roundw
                case rel => first | exact ⟨j + 1, _, hjl, by go_num, HE.out⟩ | ((repeat apply Exists.intro); exact ⟨⟨j + 1, _, hjl, by go_num, HE.out⟩, rfl⟩)
                case measure => simp [Go.RowKit.intOf]; omega
          · obtain rfl : j = nk := by omega
            have hnj : ¬ ((j : Int) < (j : Int)) := Int.lt_irrefl _
            clear hjl hj'
            have HE : Hid (OnceS w wi T (k + 1) (.pointer (some ⟨G0, 0, none⟩)) (.int .i64 (lf : Nat)) (.slice ap np cp) (.slice ak j ck) (.slice al nl cl) (.slice aa na ca)) := OnceS.mk HR.out.2.2.1 HR.out.2.2.2.1 HR.out.2.2.2.2.1 HR.out.2.2.2.2.2 HR.out.1 HM.out
            go_wp2_with fail
            refine HKi.out _ _ ?_
            clear HKi
            go_wp2_with fail
            go_roundw
            case rel => first | exact ⟨k + 1, hlt, by go_num, HE.out⟩ | ((repeat apply Exists.intro); exact ⟨⟨k + 1, hlt, by go_num, HE.out⟩, rfl⟩)
            case measure => simp [Go.RowKit.intOf]; omega
    · obtain rfl : k = n := by omega
      have hnk' : ¬ ((k : Int) < (k : Int)) := Int.lt_irrefl _
      clear hlt hk
      have HB : Hid (Below w.heap.size w wr) := HR.out.2.1.2.2.2.2.2.2.2
      go_wp2_with fail
      refine HKr.out _ _ ?_
      clear HKr
      go_wp2_with fail
      refine (K2.out _).mono ?_
      rintro e w3 ⟨rfl, hb3⟩
      have H3 : Hid (Below w.heap.size w w3) := below_call0 HB.out hb3
      clear hb3 K2
      go_wp2_with fail
      go_ret
      exact ⟨rfl, H3.out⟩
end Go.Proofs.Ytadcjdffjhiniaa
