/- Package feld: each, of Commit's closure. -/
import Derived.Test.YtocjeboicofflaaDoorFtA
import Derived.Test.YtocjeboicofflaaDoorCvCl
namespace Go.Proofs.YtocjeboicofflaaDoor
open Go Go.RowKit Go.Lib
theorem setCells_putL (b : Nat) : ∀ (vs : List Value) (o : Nat) (w : World), w.setCells b o vs = putL b o vs w
  | [], _, _ => rfl
  | v :: r, o, w => by
    show (w.setCell ⟨b, o, none⟩ v).setCells b (o + 1) r = _
    rw [setCells_putL b r (o + 1)]
    rfl
theorem TabL.store {w : World} {p n k : Nat} {f : Nat → List Value} {ty : TypeId} (h : TabL w p n k f) {i : Nat} (hi : i < n) (vs : List Value) (hl : vs.length = k) (hs : (Tryd.prog.info? ty).map (·.size) = some vs.length) (h1 : vs.toArray.all (·.oneCell') = true) :
    (storeVar ty ⟨p, i * k, none⟩ (.agg vs.toArray)).run Tryd.prog w = .ok () (putL p (i * k) vs w) := by
  have e := run_storeVar_mid (P := Tryd.prog) w p (i * k) ty vs.toArray (fun j hj => ?_) (by simpa using hs) h1
  · rw [e, ← setCells_putL]
  · have hj' : j < (f i).length := by rw [h.2.2.1 i hi, ← hl]; simpa using hj
    exact ⟨by rw [h.2.2.2 i hi j _ (List.getElem?_eq_getElem hj')]; rfl, h.2.1 _⟩
theorem TabL.load {w : World} {p n k : Nat} {f : Nat → List Value} {ty : TypeId} {d : TypeDesc} (h : TabL w p n k f) {i : Nat} (hi : i < n) {vs : List Value} (e : f i = vs) (hu : Tryd.prog.underlying ty = some d) (hd : d.isRow = true) (hs : (Tryd.prog.info? ty).map (·.size) = some vs.length) :
    (loadVar ty ⟨p, i * k, none⟩).run Tryd.prog w = .ok (.agg vs.toArray) w :=
  run_loadVar_mid w p (i * k) ty vs d (fun j v hv => h.2.2.2 i hi j v (by rw [e]; exact hv)) hu hd hs
theorem NumB.load {w : World} {b o k : Nat} (h : NumB w b o k) : (loadVar 34 ⟨b, o, none⟩).run Tryd.prog w = .ok (.agg #[.int .u64 (limb k 0 : Nat), .int .u64 (limb k 1 : Nat), .int .u64 (limb k 2 : Nat), .int .u64 (limb k 3 : Nat)]) w :=
  run_loadVar_mid w b o 34 (numV k) _ (fun j v hv => by
    match j, hv with
    | 0, hv => cases hv; exact h.c0
    | 1, hv => cases hv; exact h.c1
    | 2, hv => cases hv; exact h.c2
    | 3, hv => cases hv; exact h.c3
    | j + 4, hv => simp [numV] at hv) Tryd.underlying34 rfl (by kernel_rfl)
/-- The commitments so far. -/
def fC (l : List Nat) (k j : Nat) : List Value := if j < k then ptsV (gr.mul (l.getD j 0) gG) else zpL
theorem fC_step (l : List Nat) (k j : Nat) : (if j = k then ptsV (gr.mul (l.getD k 0) gG) else fC l k j) = fC l (k + 1) j := by
  unfold fC
  by_cases e : j = k
  · rw [if_pos e, if_pos (by omega), e]
  · rw [if_neg e]
    by_cases c : j < k
    · rw [if_pos c, if_pos (by omega)]
    · rw [if_neg c, if_neg (by omega)]
theorem fC_pts {w : World} {p : Nat} {l : List Nat} (h : TabL w p l.length 9 (fC l l.length)) : PtsAt w (some ⟨p, 0, none⟩) (l.map fun k => gr.mul k gG) := fun j q hj => by
  have hj' : j < l.length := by
    rcases Nat.lt_or_ge j l.length with h' | h'
    · exact h'
    · rw [List.getElem?_eq_none (by simpa using h')] at hj
      cases hj
  have e : q = ptT (gr.mul (l.getD j 0) gG) := by
    rw [List.getElem?_map, List.getElem?_map, List.getElem?_eq_getElem hj'] at hj
    simp only [Option.map_some, Option.some.injEq] at hj
    rw [← hj, List.getD_eq_getElem?_getD, List.getElem?_eq_getElem hj']
    rfl
  refine ⟨p, 0, rfl, ?_⟩
  have t := TabL.pt h hj' (x := pX (gr.mul (l.getD j 0) gG)) (y := pY (gr.mul (l.getD j 0) gG)) (i := pI (gr.mul (l.getD j 0) gG)) (by unfold fC; rw [if_pos hj']; rfl)
  rw [e, Nat.zero_add]
  exact t
set_option maxRecDepth 100000 in
set_option maxHeartbeats 4000000 in
theorem each_ok (l : List Nat) (n : Nat) (a : Option Addr) (kc c : Nat) (hn : n = l.length) (h10 : n ≤ 10) (hl : ∀ k ∈ l, k < QQ) (w : World) (hG : GA w) (hN : NumsAt w a l) (hc : Bl w c (ptsV gG) 36) :
    Calls Tryd.prog 25 #[.slice a n kc, .func (.func 26) #[] #[.pointer (some ⟨c, 0, none⟩)]] w fun e w' => ∃ b, e = .returned (.tuple #[.slice (some ⟨b, 0, none⟩) n n, .int .i64 0]) ∧ PtsAt w' (some ⟨b, 0, none⟩) (l.map fun k => gr.mul k gG) ∧ Below w.heap.size w w' := by
  have KC : Hid (∀ (k : Nat) (R : Pts), k < QQ → R = gr.mul k gG → ∀ w, GA w → Bl w c (ptsV gG) 36 → Calls Tryd.prog 26 #[.agg #[.int .u64 (limb k 0 : Nat), .int .u64 (limb k 1 : Nat), .int .u64 (limb k 2 : Nat), .int .u64 (limb k 3 : Nat)], .pointer (some ⟨c, 0, none⟩)] w fun e w' => e = .returned (.tuple #[.agg #[.int .u64 (limb (pX R) 0 : Nat), .int .u64 (limb (pX R) 1 : Nat), .int .u64 (limb (pX R) 2 : Nat), .int .u64 (limb (pX R) 3 : Nat), .int .u64 (limb (pY R) 0 : Nat), .int .u64 (limb (pY R) 1 : Nat), .int .u64 (limb (pY R) 2 : Nat), .int .u64 (limb (pY R) 3 : Nat), .bool (pI R)], .int .i64 0]) ∧ Below w.heap.size w w') := fun k R hk hR w h1 h2 => commit1 k c R hk hR w h1 h2
  have H0 : Hid (GA w ∧ NumsAt w a l ∧ Bl w c (ptsV gG) 36 ∧ n = l.length ∧ (∀ k ∈ l, k < QQ) ∧ n ≤ 10) := ⟨hG, hN, hc, hn, hl, h10⟩
  have hm : ∀ w, (Instr.makeSlice 23 (.int .i64 (n : Int)) (.int .i64 (n : Int))).run Tryd.prog w = .ok (.slice (some ⟨w.heap.size, 0, none⟩) n n) (w.alloc (.cells (madeCells #[.int .u64 0, .int .u64 0, .int .u64 0, .int .u64 0, .int .u64 0, .int .u64 0, .int .u64 0, .int .u64 0, .bool false] (n * 9)) 36)) := fun w => make_points n (by omega) w
  have HS : Hid (TabL (w.alloc (.cells (madeCells #[.int .u64 0, .int .u64 0, .int .u64 0, .int .u64 0, .int .u64 0, .int .u64 0, .int .u64 0, .int .u64 0, .bool false] (n * 9)) 36)) w.heap.size n 9 (fC l 0) ∧ Below w.heap.size w (w.alloc (.cells (madeCells #[.int .u64 0, .int .u64 0, .int .u64 0, .int .u64 0, .int .u64 0, .int .u64 0, .int .u64 0, .int .u64 0, .bool false] (n * 9)) 36))) := ⟨(TabL.made w zpL n 9 36 rfl (by decide)).congr (fun j _ => by unfold fC; rw [if_neg (by omega)]), below_alloc0 (Below.refl _ _) _⟩
  have n64 : (n : Int) ≤ 64 := by omega
  clear hG hN hc hl h10 hn
  go_enter Tryd.func25, Tryd.ntmps25
  go_wp2_with fail
  clear hm
  rename_i Kr hKr
  have HKr : Hid _ := hKr
  clear hKr
  go_loopw [16] (fun iv wr => ∃ k : Nat, k ≤ n ∧ iv = .int .i64 (k : Nat) ∧ TabL wr w.heap.size n 9 (fC l k) ∧ Below w.heap.size w wr) (fun iv _ => n - (Go.RowKit.intOf iv).toNat)
  case atStart => exact ⟨0, Nat.zero_le _, rfl, HS.out⟩
  case round =>
    clear HS
    obtain ⟨k, hk, rfl, hT, hB⟩ := hrel
    rename World => wr
    have HC : Hid (TabL wr w.heap.size n 9 (fC l k) ∧ Below w.heap.size w wr ∧ k ≤ n) := ⟨hT, hB, hk⟩
    clear hT hB hk
    by_cases hlt : k < n
    · clear HKr
      have hlt' : (k : Int) < (n : Int) := Int.ofNat_lt.2 hlt
      have hkl : k < l.length := by rw [← H0.out.2.2.2.1]; exact hlt
      obtain ⟨kb, ko, rfl, hNB⟩ := H0.out.2.1.get hkl
      obtain ⟨m, hm⟩ : ∃ m, m = l[k]'hkl := ⟨_, rfl⟩
      obtain ⟨R, hR⟩ : ∃ R, R = gr.mul m gG := ⟨_, rfl⟩
      rw [← hm] at hNB
      have hmQ : m < QQ := by rw [hm]; exact H0.out.2.2.2.2.1 _ (List.getElem_mem hkl)
      have K1 : Hid _ := KC.out m R hmQ hR
      have hgd : l.getD k 0 = m := by rw [List.getD_eq_getElem?_getD, List.getElem?_eq_getElem hkl, hm]; rfl
      have LN : Hid ((loadVar 34 ⟨kb, ko + k * 4, none⟩).run Tryd.prog wr = .ok (.agg #[.int .u64 (limb m 0 : Nat), .int .u64 (limb m 1 : Nat), .int .u64 (limb m 2 : Nat), .int .u64 (limb m 3 : Nat)]) wr) := (hNB.call HC.out.2.1).load
      have HE : Hid (k < n ∧ R = gr.mul (l.getD k 0) gG) := ⟨hlt, by rw [hgd]; exact hR⟩
      clear hm hR hmQ hgd hNB hkl KC
      obtain ⟨D, hD⟩ : ∃ D, D = wr.heap.size := ⟨_, rfl⟩
      obtain ⟨W4, hW4⟩ : ∃ W4, W4 = wr.alloc (.cells #[.int .u64 (limb m 0 : Nat), .int .u64 (limb m 1 : Nat), .int .u64 (limb m 2 : Nat), .int .u64 (limb m 3 : Nat)] 34) := ⟨_, rfl⟩
      have H4 : Hid (TabL W4 w.heap.size n 9 (fC l k) ∧ Below w.heap.size w W4 ∧ Bl W4 D (numV m) 34) := by
        rw [hW4, hD]
        exact ⟨HC.out.1.alloc, below_alloc0 HC.out.2.1 _, Bl.new wr (numV m) _⟩
      have HW4 : Hid (W4 = wr.alloc (.cells #[.int .u64 (limb m 0 : Nat), .int .u64 (limb m 1 : Nat), .int .u64 (limb m 2 : Nat), .int .u64 (limb m 3 : Nat)] 34) ∧ D = wr.heap.size) := ⟨hW4, hD⟩
      clear hW4 hD HC
      go_upto_region 5 with ((with_reducible refine load_to (b := kb) (k := ko + k * 4) (x := 19) ?_ ?_ ?_ LN.out ?_); rfl; rfl; rfl)
      rw [← HW4.out.1, ← HW4.out.2]
      clear HW4 LN
      have L4 : Hid ((loadVar 34 ⟨D, 0, none⟩).run Tryd.prog W4 = .ok (.agg #[.int .u64 (limb m 0 : Nat), .int .u64 (limb m 1 : Nat), .int .u64 (limb m 2 : Nat), .int .u64 (limb m 3 : Nat)]) W4) := H4.out.2.2.load Tryd.underlying34 rfl (by kernel_rfl)
      go_wp2_with ((with_reducible refine load_to (b := D) (k := 0) (x := 8) ?_ ?_ ?_ L4.out ?_); rfl; rfl; rfl)
      refine (K1.out _ (H0.out.1.call H4.out.2.1) (H0.out.2.2.1.call H4.out.2.1)).mono ?_
      rintro e w5 ⟨rfl, hb5⟩
      obtain ⟨E, hE⟩ : ∃ E, E = w5.heap.size := ⟨_, rfl⟩
      obtain ⟨W6, hW6⟩ : ∃ W6, W6 = w5.alloc (.cells #[.int .u64 (limb (pX R) 0 : Nat), .int .u64 (limb (pX R) 1 : Nat), .int .u64 (limb (pX R) 2 : Nat), .int .u64 (limb (pX R) 3 : Nat), .int .u64 (limb (pY R) 0 : Nat), .int .u64 (limb (pY R) 1 : Nat), .int .u64 (limb (pY R) 2 : Nat), .int .u64 (limb (pY R) 3 : Nat), .bool (pI R)] 36) := ⟨_, rfl⟩
      have H6 : Hid (TabL W6 w.heap.size n 9 (fC l k) ∧ Below w.heap.size w W6 ∧ Bl W6 E (ptsV R) 36) := by
        rw [hW6, hE]
        exact ⟨(H4.out.1.call hb5).alloc, below_alloc0 (below_call0 H4.out.2.1 hb5) _, Bl.new w5 (ptsV R) _⟩
      have HW6 : Hid (W6 = w5.alloc (.cells #[.int .u64 (limb (pX R) 0 : Nat), .int .u64 (limb (pX R) 1 : Nat), .int .u64 (limb (pX R) 2 : Nat), .int .u64 (limb (pX R) 3 : Nat), .int .u64 (limb (pY R) 0 : Nat), .int .u64 (limb (pY R) 1 : Nat), .int .u64 (limb (pY R) 2 : Nat), .int .u64 (limb (pY R) 3 : Nat), .bool (pI R)] 36) ∧ E = w5.heap.size) := ⟨hW6, hE⟩
      clear hW6 hE H4 hb5 L4 K1
      go_upto_region 6 with fail
      rw [← HW6.out.1, ← HW6.out.2]
      clear HW6
      have L6 : Hid ((loadVar 36 ⟨E, 0, none⟩).run Tryd.prog W6 = .ok (.agg #[.int .u64 (limb (pX R) 0 : Nat), .int .u64 (limb (pX R) 1 : Nat), .int .u64 (limb (pX R) 2 : Nat), .int .u64 (limb (pX R) 3 : Nat), .int .u64 (limb (pY R) 0 : Nat), .int .u64 (limb (pY R) 1 : Nat), .int .u64 (limb (pY R) 2 : Nat), .int .u64 (limb (pY R) 3 : Nat), .bool (pI R)]) W6) := H6.out.2.2.load Tryd.underlying36 rfl (by kernel_rfl)
      have S6 : Hid ((storeVar 36 ⟨w.heap.size, k * 9, none⟩ (.agg #[.int .u64 (limb (pX R) 0 : Nat), .int .u64 (limb (pX R) 1 : Nat), .int .u64 (limb (pX R) 2 : Nat), .int .u64 (limb (pX R) 3 : Nat), .int .u64 (limb (pY R) 0 : Nat), .int .u64 (limb (pY R) 1 : Nat), .int .u64 (limb (pY R) 2 : Nat), .int .u64 (limb (pY R) 3 : Nat), .bool (pI R)])).run Tryd.prog W6 = .ok () (putL w.heap.size (k * 9) (ptsV R) W6)) := H6.out.1.store HE.out.1 (ptsV R) rfl (by kernel_rfl) (by kernel_rfl)
      go_upto_region 9 with (first | ((with_reducible refine load_to (b := E) (k := 0) (x := 9) ?_ ?_ ?_ L6.out ?_); rfl; rfl; rfl) | ((with_reducible refine store_to (b := w.heap.size) (k := k * 9) (x := 33) (y := 32) ?_ ?_ ?_ ?_ S6.out ?_); rfl; rfl; rfl; rfl))
      have H8 : Hid (TabL (putL w.heap.size (k * 9) (ptsV R) W6) w.heap.size n 9 (fC l (k + 1)) ∧ Below w.heap.size w (putL w.heap.size (k * 9) (ptsV R) W6)) :=
        ⟨(TabL.put k (ptsV R) H6.out.1 HE.out.1 rfl).congr (fun j _ => by rw [HE.out.2]; exact fC_step l k j), below_putL (Nat.le_refl _) _ _ _ H6.out.2.1⟩
      clear L6 S6 H6
      obtain ⟨W8, hW8⟩ : ∃ W8, W8 = putL w.heap.size (k * 9) (ptsV R) W6 := ⟨_, rfl⟩
      rw [← hW8] at H8
      rw [← hW8]
      clear hW8
      go_wp2_with fail
      go_roundw
      case rel => first | exact ⟨k + 1, hlt, by go_num, H8.out⟩ | ((repeat apply Exists.intro); exact ⟨⟨k + 1, hlt, by go_num, H8.out⟩, rfl⟩)
      case measure => simp [intOf]; omega
    · obtain rfl : k = n := by have := HC.out.2.2; omega
      have hnl : ¬ ((k : Int) < (k : Int)) := Int.lt_irrefl _
      clear hlt KC
      go_wp2_with fail
      refine HKr.out _ _ ?_
      clear HKr
      go_wp2_with fail
      have hf := H0.out.2.2.2.1
      have ht := HC.out.1
      rw [hf] at ht
      refine bodyPost_ret (v := .tuple #[.slice (some ⟨w.heap.size, 0, none⟩) k k, .int .i64 0]) (by simp [results, Tryd.results25]) rfl ⟨w.heap.size, rfl, fC_pts ht, HC.out.2.1⟩
end Go.Proofs.YtocjeboicofflaaDoor
