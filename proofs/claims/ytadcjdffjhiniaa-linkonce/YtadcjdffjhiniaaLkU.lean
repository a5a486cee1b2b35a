/- The law LinkAll: the walk. -/
import Derived.Test.YtadcjdffjhiniaaLkT
import Derived.Test.YtadcjdffjhiniaaLkO
namespace Go.Proofs.Ytadcjdffjhiniaa
open Go Go.RowKit Go.Lib

theorem Snd.keepx {w w' : World} {c : Nat → Nat} {i j G life last a b : Nat} (x : Nat) {t : List ByteArray} (h : Snd w c i j G life last t) (hb : Chg w c a b w') (h1 : i ≠ a) (h2 : i ≠ b) (h3 : j ≠ a) (h4 : j ≠ b) : Snd w' (paint c w w' x) i j G life last t := by
  have hlt := h.lt
  refine ⟨by rw [paint_old hlt]; exact h.1, h.2.1, ?_⟩
  have hk := hb.block hlt (by rw [h.1]; exact h3) (by rw [h.1]; exact h4)
  obtain ⟨p, cap, c0, c1, c2, fz, hg, hB, hR⟩ := h.2.2
  refine ⟨p, cap, (World.cell?_of_block (w := w) (a := ⟨G, 0, none⟩) hk).trans c0, (World.cell?_of_block (w := w) (a := ⟨G, 1, none⟩) hk).trans c1, (World.cell?_of_block (w := w) (a := ⟨G, 2, none⟩) hk).trans c2, fun o => (World.frozen?_of_block (w := w) (a := ⟨G, o, none⟩) hk).trans (fz o), fun q => ?_, fun k hk => .inr hk, ?_⟩
  · rcases q with q | q
    · rw [paint_old hlt, h.1] at q; exact h.2.1 q.symm
    · exact absurd hlt (Nat.not_lt_of_le (Nat.le_trans (Off.size hb) q))
  · rcases hR with hR | ⟨bb, o, h5, h6, h7, h8⟩
    · exact .inl hR
    · have hcb : c bb = i := h6.resolve_right (Nat.not_le_of_lt h7)
      have hR : RowV w (fun k => k = bb) p (t.map Value.string) cap := .inr ⟨bb, o, h5, rfl, h7, h8⟩
      exact (hR.kept (Off.size hb) (fun k hk hz => by subst hk; exact hb.block hz (by rw [hcb]; exact h1) (by rw [hcb]; exact h2))).mono (fun k _ hk => by subst hk; left; rw [paint_old h7]; exact hcb)
/-- A slice whose array is of colour i. -/
def Row (w : World) (c : Nat → Nat) (i : Nat) (a : Option Addr) (vs : List Value) (cap : Nat) : Prop := RowV w (fun k => c k = i ∨ w.heap.size ≤ k) a vs cap
theorem Row.keep {w w' : World} {c : Nat → Nat} {i a b cap : Nat} (x : Nat) {p : Option Addr} {vs : List Value} (h : Row w c i p vs cap) (hb : Chg w c a b w') (h1 : i ≠ a) (h2 : i ≠ b) : Row w' (paint c w w' x) i p vs cap := by
  rcases h with h | ⟨bb, o, h5, h6, h7, h8⟩
  · exact .inl h
  · have hcb : c bb = i := h6.resolve_right (Nat.not_le_of_lt h7)
    have hR : RowV w (fun k => k = bb) p vs cap := .inr ⟨bb, o, h5, rfl, h7, h8⟩
    exact (hR.kept (Off.size hb) (fun k hk hz => by subst hk; exact hb.block hz (by rw [hcb]; exact h1) (by rw [hcb]; exact h2))).mono (fun k _ hk => by subst hk; left; rw [paint_old h7]; exact hcb)
theorem Row.done {w w' : World} {c : Nat → Nat} {i cap : Nat} {p : Option Addr} {vs : List Value} (h : RowV w' (fun k => c k = i ∨ w.heap.size ≤ k) p vs cap) (_hb : Off (fun k => c k = i ∨ w.heap.size ≤ k) w w') : Row w' (paint c w w' i) i p vs cap :=
  h.mono (fun k hk hF => by
    left
    by_cases q : k < w.heap.size
    · rw [paint_old q]; exact hF.resolve_right (Nat.not_le_of_lt q)
    · exact paint_new (Nat.le_of_not_lt q) hk)
theorem Row.chg {w w' : World} {c : Nat → Nat} {i : Nat} (hb : Off (fun k => c k = i ∨ w.heap.size ≤ k) w w') : Chg w c i i w' :=
  ⟨hb.os, hb.tape, hb.output, hb.size, fun k hk => hb.block k (fun q => hk (q.elim .inl (fun q => .inr (.inr q))))⟩
/-- An end that takes, its block of colour j. -/
def Tkr (w : World) (c : Nat → Nat) (j T l n : Nat) : Prop := c T = j ∧ TakerAt w T l n
theorem Tkr.keep {w w' : World} {c : Nat → Nat} {j T l n a b : Nat} (x : Nat) (h : Tkr w c j T l n) (hb : Chg w c a b w') (h1 : j ≠ a) (h2 : j ≠ b) : Tkr w' (paint c w w' x) j T l n :=
  ⟨by rw [paint_old h.2.2.2.2]; exact h.1, h.2.off hb (fun q => q.elim (fun q => h1 (h.1.symm.trans q)) (fun q => q.elim (fun q => h2 (h.1.symm.trans q)) (fun q => absurd h.2.2.2.2 (Nat.not_lt_of_le q))))⟩
theorem Tkr.chg {w w' : World} {c : Nat → Nat} {j T l n : Nat} (h : Tkr w c j T l n) (hb : But T (From w.heap.size) w w') : Chg w c j j w' :=
  ⟨hb.os, hb.tape, hb.output, hb.size, fun k hk => hb.block k (fun q => hk (.inr (.inr q))) (fun q => hk (.inl (by rw [q]; exact h.1)))⟩
/-- What an end that takes has behind m texts of a life. -/
def tkS (life m : Nat) : Nat × Nat := if m = 0 then (0, 0) else (life, m)
theorem tkS_step {life m : Nat} {t : ByteArray} (hl : 1 ≤ life ∧ life ≤ 1099511627776) (hm : m < 1000000) (ht : t.size ≤ 7900) : tkR (letS 1 life (m + 1) [t]) (tkS life m).1 (tkS life m).2 = (t, true, 0, (tkS life (m + 1)).1, (tkS life (m + 1)).2) := by
  have e2 : tkS life (m + 1) = (life, m + 1) := if_neg (by omega)
  unfold tkR
  rw [rdF_let hl (by omega) ht, e2]
  show (if life < (tkS life m).1 then (⟨#[]⟩, false, 7, (tkS life m).1, (tkS life m).2) else if (tkS life m).1 < life then (if m + 1 = 1 then (t, true, 0, life, 1) else (⟨#[]⟩, false, 0, life, 0)) else if m + 1 = (tkS life m).2 + 1 then (t, true, 0, (tkS life m).1, (tkS life m).2 + 1) else (⟨#[]⟩, false, 0, (tkS life m).1, (tkS life m).2)) = (t, true, 0, life, m + 1)
  by_cases h : m = 0
  · subst h
    have e1 : tkS life 0 = (0, 0) := rfl
    rw [e1, if_neg (by omega), if_pos (by omega), if_pos rfl]
  · have e1 : tkS life m = (life, m) := if_neg h
    rw [e1]
    show (if life < life then _ else if life < life then _ else if m + 1 = m + 1 then _ else _) = _
    rw [if_neg (Nat.lt_irrefl _), if_neg (Nat.lt_irrefl _), if_pos rfl]
theorem lkU_empty : lkU 2 0 ⟨#[]⟩ = none := by kernel_rfl
theorem hdR_ack {life m gone n : Nat} (hl : 1 ≤ life ∧ life ≤ 1099511627776) (hg : gone ≤ m) (hm : m ≤ n) (hn : n < 1000000) : (hdR (akS (tkS life m).1 (tkS life m).2) life gone n).2.2 = m := by
  by_cases h : m = 0
  · subst h
    have e : akS (tkS life 0).1 (tkS life 0).2 = ⟨#[]⟩ := rfl
    rw [e]
    unfold hdR
    rw [lkU_empty]
    show gone = 0
    omega
  · have e1 : tkS life m = (life, m) := if_neg h
    have e2 : akS life m = letS 2 life m [] := if_neg (by omega)
    rw [e1]
    show (hdR (akS life m) life gone n).2.2 = m
    rw [e2]
    have hu : lkU 2 0 (letS 2 life m []) = some (life, m, []) := lkU_let (k := 2) (r := []) (by decide) (by simp) (by simp) (by omega)
    unfold hdR
    rw [hu]
    show (if life ≠ life ∨ n < m then ((0 : Nat), (7 : Int), gone) else if m ≤ gone then (0, 0, gone) else (m - gone, 0, m)).2.2 = m
    rw [if_neg (fun q => q.elim (fun q => q rfl) (fun q => absurd q (Nat.not_lt_of_le hm)))]
    split
    · show gone = m; omega
    · rfl
theorem akS_size (l c : Nat) : (akS l c).size < 140737488351233 := by
  unfold akS
  split
  · decide
  · exact let_size
theorem linkAll_no (life : Int) (hl : ¬ (1 ≤ life ∧ life ≤ 1099511627776)) (a : Option Addr) (n cap : Nat) (w : World) : Calls Try.prog 6 #[.int .i64 life, .slice a n cap] w fun e w' => e = .returned (.bool true) ∧ Below w.heap.size w w' := by
  have K1 : Hid _ := fun w : World => newSender_no life hl w
  have K2 : Hid _ := fun w : World => ltwo_any w
  have K3 : Hid _ := fun w : World => newTaker_any w
  by_cases h1 : life < 1
  · clear hl
    go_enter Try.func6, Try.ntmps6
    go_wp2_with fail
    refine (K1.out _).mono ?_
    rintro e w1 ⟨rfl, hb1⟩
    have H1 : Hid _ := hb1
    clear hb1
    go_wp2_with fail
    refine (K3.out _).mono ?_
    rintro e w3 ⟨rfl, -, hb3, -⟩
    have H3 : Hid _ := below_call0 H1.out hb3
    clear hb3
    go_wp2_with fail
    refine (K2.out _).mono ?_
    rintro e w2 ⟨rfl, hb2⟩
    have H2 : Hid _ := below_call0 H3.out hb2
    clear hb2
    go_wp2_with fail
    go_ret
    exact ⟨rfl, H2.out⟩
  · have h2 : 1099511627776 < life := by omega
    clear hl
    go_enter Try.func6, Try.ntmps6
    go_wp2_with fail
    refine (K1.out _).mono ?_
    rintro e w1 ⟨rfl, hb1⟩
    have H1 : Hid _ := hb1
    clear hb1
    go_wp2_with fail
    refine (K3.out _).mono ?_
    rintro e w3 ⟨rfl, -, hb3, -⟩
    have H3 : Hid _ := below_call0 H1.out hb3
    clear hb3
    go_wp2_with fail
    refine (K2.out _).mono ?_
    rintro e w2 ⟨rfl, hb2⟩
    have H2 : Hid _ := below_call0 H3.out hb2
    clear hb2
    go_wp2_with fail
    go_ret
    exact ⟨rfl, H2.out⟩
theorem linkAll_long (life : Nat) (hl : 1 ≤ life ∧ life ≤ 1099511627776) (a : Option Addr) (n cap : Nat) (hn : 64 < n) (w : World) : Calls Try.prog 6 #[.int .i64 (life : Nat), .slice a n cap] w fun e w' => e = .returned (.bool true) ∧ Below w.heap.size w w' := by
  have K1 : Hid _ := fun w : World => newSender_in life hl w
  have K2 : Hid _ := fun w : World => ltwo_any w
  have K3 : Hid _ := fun w : World => newTaker_any w
  have l1 : ¬ ((life : Int) < 1) := by omega
  have l2 : ¬ ((1099511627776 : Int) < (life : Int)) := by omega
  have n1 : (64 : Int) < (n : Int) := by omega
  clear hl hn
  go_enter Try.func6, Try.ntmps6
  go_wp2_with fail
  refine (K1.out _).mono ?_
  rintro e w1 ⟨rfl, -, hb1, -⟩
  have H1 : Hid _ := hb1
  clear hb1
  go_wp2_with fail
  refine (K3.out _).mono ?_
  rintro e w3 ⟨rfl, -, hb3, -⟩
  have H3 : Hid _ := below_call0 H1.out hb3
  clear hb3
  go_wp2_with fail
  refine (K2.out _).mono ?_
  rintro e w2 ⟨rfl, hb2⟩
  have H2 : Hid _ := below_call0 H3.out hb2
  clear hb2
  go_wp2_with fail
  go_ret
  exact ⟨rfl, H2.out⟩
/-- The law's state: L was pushed, the first so many were acknowledged, m came; what was pushed, and what came, in two rows. -/
def All (w wr : World) (c : Nat → Nat) (G T life gone m : Nat) (L : List ByteArray) (aw ag : Option Addr) (cw cg : Nat) : Prop :=
  Snd wr c 1 11 G life L.length (L.drop gone) ∧ Tkr wr c 15 T (tkS life m).1 (tkS life m).2 ∧ Row wr c 3 aw (L.map Value.string) cw ∧ Row wr c 4 ag ((L.take m).map Value.string) cg ∧ gone ≤ m ∧ m ≤ L.length ∧ L.length ≤ 64 ∧ (∀ s ∈ L, s.size ≤ 7900) ∧ (∀ k, k < w.heap.size → k < wr.heap.size ∧ c k = 0) ∧ Below w.heap.size w wr
theorem All.call {w wr w' : World} {c : Nat → Nat} {G T life gone m : Nat} {L : List ByteArray} {aw ag : Option Addr} {cw cg : Nat} (h : All w wr c G T life gone m L aw ag cw cg) (hb : Below wr.heap.size wr w') : All w w' (paint c wr w' 0) G T life gone m L aw ag cw cg := by
  obtain ⟨h1, h2, h3, h4, h5, h6, h7, h8, h9, h10⟩ := h
  have hc : Chg wr c 0 0 w' := Chg.of_below hb
  exact ⟨h1.call hb (by decide) (by decide), h2.keep 0 hc (by decide) (by decide), h3.keep 0 hc (by decide) (by decide), h4.keep 0 hc (by decide) (by decide), h5, h6, h7, h8, zero_paint h9 hb.size, below_call0 h10 hb⟩
set_option maxRecDepth 100000 in
set_option maxHeartbeats 8000000 in
theorem linkAll_in (life : Nat) (hl : 1 ≤ life ∧ life ≤ 1099511627776) (a : Option Addr) (l : List ByteArray) (cap : Nat) (hn : l.length ≤ 64) (w : World) (hS : Strs w a l) :
    Calls Try.prog 6 #[.int .i64 (life : Nat), .slice a l.length cap] w fun e w' => e = .returned (.bool true) ∧ Below w.heap.size w w' := by
  obtain ⟨i0, hi, hz0, hz1, hz2⟩ := infoStr
  have hsz : ∀ w, (Go.sizeOf 9).run Try.prog w = .ok 1 w := fun _ => by kernel_rfl
  have K1 : Hid _ := fun w : World => newSender_in life hl w
  have K2 : Hid _ := fun w : World => ltwo_any w
  have K3 : Hid _ := fun w : World => newTaker_any w
  obtain ⟨n, hnl⟩ : ∃ n, n = l.length := ⟨_, rfl⟩
  rw [← hnl]
  have HS : Hid (Strs w a l ∧ n = l.length ∧ n ≤ 64) := ⟨hS, hnl, by omega⟩
  have HLf : Hid (1 ≤ life ∧ life ≤ 1099511627776) := hl
  have l1 : ¬ ((life : Int) < 1) := by omega
  have l2 : ¬ ((1099511627776 : Int) < (life : Int)) := by omega
  have n1 : ¬ ((64 : Int) < (n : Int)) := by omega
  clear hS hl hn hnl
  go_enter Try.func6, Try.ntmps6
  go_wp2_with fail
  refine (K1.out _).mono ?_
  rintro e w1 ⟨rfl, hS1, hb1, hs1⟩
  obtain ⟨G, hG⟩ : ∃ G, G = w.heap.size := ⟨_, rfl⟩
  have H1 : Hid (Snd w1 (fun k => if k = G then 11 else 0) 1 11 G life 0 [] ∧ Below w.heap.size w w1 ∧ w1.heap.size = G + 1 ∧ G = w.heap.size) := by
    rw [← hG] at hS1 hs1
    exact ⟨Snd.new hS1 hs1 (by decide), hb1, hs1, hG⟩
  rw [← hG]
  clear hS1 hs1 hb1 hG K1
  go_wp2_with fail
  refine (K3.out _).mono ?_
  rintro e w2 ⟨rfl, hT2, hb2, hs2⟩
  obtain ⟨T, hT⟩ : ∃ T, T = w1.heap.size := ⟨_, rfl⟩
  have H2 : Hid (∃ c, All w w2 c G T life 0 0 [] none none 0 0) := by
    rw [hT]
    refine ⟨paint (fun k => if k = G then 11 else 0) w1 w2 15, H1.out.1.keepx 15 (Chg.of_below hb2 (i := 15) (j := 15)) (by decide) (by decide) (by decide) (by decide), ⟨paint_new (Nat.le_refl _) (by omega), hT2⟩, RowV.nil _ _, RowV.nil _ _, Nat.le_refl _, Nat.le_refl _, Nat.zero_le _, fun s hs => by simp at hs, zero_paint (fun k hk => ⟨by have := H1.out.2.2; omega, if_neg (by have := H1.out.2.2.2; omega)⟩) hb2.size, below_call0 H1.out.2.1 hb2⟩
  rw [← hT]
  clear hT2 hb2 hs2 hT K3 H1
  go_wp2_with fail
  rename_i Kr hKr
  have HKr : Hid _ := hKr
  clear hKr
  go_loopw [8, 57] (fun wv iv wr => ∃ (k : Nat) (c : Nat → Nat) (L : List ByteArray) (aw : Option Addr) (nw cw : Nat), k ≤ n ∧ iv = .int .i64 (k : Nat) ∧ wv = .slice aw nw cw ∧ nw = L.length ∧ L.length ≤ k ∧ All w wr c G T life 0 0 L aw none cw 0) (fun _ iv _ => n - (Go.RowKit.intOf iv).toNat)
  case atStart =>
    obtain ⟨c, hc⟩ := H2.out
    exact ⟨0, c, [], none, 0, 0, Nat.zero_le _, rfl, rfl, rfl, Nat.le_refl _, hc⟩
  case round =>
    obtain ⟨k, c, L, aw, nw, cw, hk, rfl, rfl, hnw, hLk, hR⟩ := hrel
    rename World => wr
    have HR : Hid (All w wr c G T life 0 0 L aw none cw 0 ∧ nw = L.length ∧ L.length ≤ k) := ⟨hR, hnw, hLk⟩
    clear hR hnw hLk H2
    by_cases hlt : k < n
    · clear HKr K2
      have hlt' : (k : Int) < (n : Int) := Int.ofNat_lt.2 hlt
      have hkl : k < l.length := by rw [← HS.out.2.1]; exact hlt
      obtain ⟨s, hs⟩ : ∃ s, s = (l[k]'hkl) := ⟨_, rfl⟩
      obtain ⟨pb, po, rfl, hcl, hpb⟩ := HS.out.1.get hkl
      rw [← hs] at hcl
      have hcr : wr.cell? ⟨pb, po + k, none⟩ = some (.string s) := (HR.out.1.2.2.2.2.2.2.2.2.2.cell (p := ⟨pb, po + k, none⟩) hpb).trans hcl
      have KA : Hid _ := fun (F : Nat → Prop) (w' : World) (h : SenderAt w' G F life L.length (L.drop 0)) => push_all G F life 0 L s (Nat.zero_le _) (by have := HR.out.2.2; have := HS.out.2.2; omega) w' h
      clear hs hcl hpb hkl
      by_cases h7 : 7900 < s.size
      · have er : psR s 0 L = (0, 2, L) := if_pos h7
        rw [er] at KA
        clear er h7
        go_wp2_with fail
        refine (HR.out.1.1.op (fun F hS => KA.out F _ hS)).mono ?_
        rintro e w4 ⟨rfl, hS4, hC4⟩
        have HE : Hid (All w w4 (paint c wr w4 1) G T life 0 0 L aw none cw 0 ∧ nw = L.length ∧ L.length ≤ k + 1) := by
          obtain ⟨h1, h2, h3, h4, h5, h6, h7, h8, h9, h10⟩ := HR.out.1
          exact ⟨⟨hS4, h2.keep 1 hC4 (by decide) (by decide), h3.keep 1 hC4 (by decide) (by decide), h4.keep 1 hC4 (by decide) (by decide), h5, h6, h7, h8, zero_paint h9 (Off.size hC4), h10.trans (hC4.under h9 (by decide) (by decide))⟩, HR.out.2.1, Nat.le_succ_of_le HR.out.2.2⟩
        clear hS4 hC4 hcr
        go_wp2_with fail
        go_roundw
        case rel => first | exact ⟨k + 1, _, L, aw, nw, cw, hlt, by go_num, rfl, HE.out.2.1, HE.out.2.2, HE.out.1⟩ | ((repeat apply Exists.intro); exact ⟨⟨k + 1, _, L, aw, nw, cw, hlt, by go_num, rfl, HE.out.2.1, HE.out.2.2, HE.out.1⟩, rfl⟩)
        case measure => simp [Go.RowKit.intOf]; omega
      · have er : psR s 0 L = (L.length + 1, 0, L ++ [s]) := by unfold psR; rw [if_neg h7, if_neg (by have := HR.out.2.2; have := HS.out.2.2; omega)]
        rw [er] at KA
        have H7 : Hid (¬ 7900 < s.size) := h7
        clear er h7
        go_wp2_with fail
        refine (HR.out.1.1.op (fun F hS => KA.out F _ hS)).mono ?_
        rintro e w4 ⟨rfl, hS4, hC4⟩
        have H4 : Hid (Snd w4 (paint c wr w4 1) 1 11 G life (L ++ [s]).length ((L ++ [s]).drop 0) ∧ Tkr w4 (paint c wr w4 1) 15 T (tkS life 0).1 (tkS life 0).2 ∧ Row w4 (paint c wr w4 1) 3 aw (L.map Value.string) cw ∧ (∀ k, k < w.heap.size → k < w4.heap.size ∧ paint c wr w4 1 k = 0) ∧ Below w.heap.size w w4) := by
          obtain ⟨h1, h2, h3, h4, h5, h6, h7, h8, h9, h10⟩ := HR.out.1
          exact ⟨hS4, h2.keep 1 hC4 (by decide) (by decide), h3.keep 1 hC4 (by decide) (by decide), zero_paint h9 (Off.size hC4), h10.trans (hC4.under h9 (by decide) (by decide))⟩
        clear hS4 hC4 hcr
        obtain ⟨c4, hc4⟩ : ∃ x, x = paint c wr w4 1 := ⟨_, rfl⟩
        rw [← hc4] at H4
        have HB : Hid (L.length ≤ 64) := by have := HR.out.2.2; have := HS.out.2.2; show L.length ≤ 64; omega
        clear hc4
        go_wp2_with (at_builtin; refine wpList_append_RowV _ rfl _ _ 29 rfl (fun k => c4 k = 3 ∨ w4.heap.size ≤ k) 9 i0 (.string ⟨#[]⟩) 16 Try.underlying29 hi hz0 rfl hz1 hz2 aw nw cw (L.map Value.string) [.string s] rfl (by rw [List.length_map]; exact HR.out.2.1) (RowV.call H4.out.2.2.1 (below_alloc0 (Below.refl _ _) _)) (by rw [List.length_map]; have := HB.out; unfold maxLen; simp; omega) (by rw [List.length_map]; have := HB.out; simp; omega) (fun k hk => .inr (Nat.le_trans (by simp) hk)) ⟨w4.heap.size, 0, none⟩ 1 1 rfl rfl (cell_new1 s w4 _) (str_one s) ?_; intro a8 m8 c8 w8 hm8 hR8 hb8; have H8 : Hid (m8 = nw + 1 ∧ Row w8 (paint c4 w4 w8 3) 3 a8 ((L ++ [s]).map Value.string) c8 ∧ Chg w4 c4 3 3 w8) := ⟨hm8, Row.done (by rw [List.map_append]; exact hR8) ((Off.of_below (below_alloc0 (Below.refl _ _) _) (fun k hk => .inr hk)).trans hb8), Row.chg ((Off.of_below (below_alloc0 (Below.refl _ _) _) (fun k hk => .inr hk)).trans hb8)⟩; clear hm8 hR8 hb8)
        have HE : Hid (All w w8 (paint c4 w4 w8 3) G T life 0 0 (L ++ [s]) a8 none c8 0 ∧ m8 = (L ++ [s]).length ∧ (L ++ [s]).length ≤ k + 1) := by
          obtain ⟨h1, h2, h3, h4, h5⟩ := H4.out
          obtain ⟨g1, g2, g3⟩ := H8.out
          refine ⟨⟨h1.keepx 3 g3 (by decide) (by decide) (by decide) (by decide), h2.keep 3 g3 (by decide) (by decide), g2, by rw [List.take_zero]; exact RowV.nil _ _, Nat.le_refl _, Nat.zero_le _, ?_, ?_, zero_paint h4 (Off.size g3), h5.trans (g3.under h4 (by decide) (by decide))⟩, by rw [g1, HR.out.2.1]; simp, ?_⟩
          · have := HR.out.2.2; have := HS.out.2.2; simp; omega
          · intro s' hs'
            simp only [List.mem_append, List.mem_cons, List.not_mem_nil, or_false] at hs'
            rcases hs' with q | rfl
            · exact HR.out.1.2.2.2.2.2.2.2.1 s' q
            · have := H7.out; omega
          · have := HR.out.2.2; simp; omega
        go_roundw
        case rel => first | exact ⟨k + 1, _, L ++ [s], a8, m8, c8, hlt, by go_num, rfl, HE.out.2.1, HE.out.2.2, HE.out.1⟩ | ((repeat apply Exists.intro); exact ⟨⟨k + 1, _, L ++ [s], a8, m8, c8, hlt, by go_num, rfl, HE.out.2.1, HE.out.2.2, HE.out.1⟩, rfl⟩)
        case measure => simp [Go.RowKit.intOf]; omega
    · obtain rfl : k = n := by omega
      have hnl : ¬ ((k : Int) < (k : Int)) := Int.lt_irrefl _
      clear hlt hk
      go_wp2_with fail
      refine HKr.out _ _ ?_
      clear HKr
      go_wp2_with fail
      rename_i Kr hKr
      have HKr : Hid _ := hKr
      clear hKr hnl n1
      go_loopw [13, 14] (fun gv iv wq => ∃ (i : Nat) (c : Nat → Nat) (gone : Nat) (ag : Option Addr) (ng cg : Nat), i ≤ 5 ∧ iv = .int .i64 (i : Nat) ∧ gv = .slice ag ng cg ∧ ng = gone ∧ gone = min (16 * i) L.length ∧ All w wq c G T life gone gone L aw ag cw cg) (fun _ iv _ => 5 - (Go.RowKit.intOf iv).toNat)
      case atStart => exact ⟨0, c, 0, none, 0, 0, by decide, rfl, rfl, rfl, by omega, HR.out.1⟩
      case round =>
        obtain ⟨i, d, gone, ag, ng, cg, hi5, rfl, rfl, rfl, hgo, hQ⟩ := hrel
        rename World => wq
        have HQ : Hid (All w wq d G T life ng ng L aw ag cw cg ∧ ng = min (16 * i) L.length) := ⟨hQ, hgo⟩
        clear hQ hgo
        by_cases hi6 : i < 5
        · clear HKr K2
          have hi6' : (i : Int) < 5 := by omega
          have hi6n : i < 5 := hi6
          have hdl : (L.drop ng).length = L.length - ng := List.length_drop ..
          obtain ⟨fr, hfr⟩ : ∃ x, x = frL life ng (L.drop ng) := ⟨_, rfl⟩
          obtain ⟨cc, hcc⟩ : ∃ x, x = min 16 (L.drop ng).length := ⟨_, rfl⟩
          have gl : ng ≤ L.length := HQ.out.1.2.2.2.2.2.1
          have l64 : L.length ≤ 64 := HQ.out.1.2.2.2.2.2.2.1
          have KF : Hid (∀ (F : Nat → Prop) (w' : World), SenderAt w' G F life L.length (L.drop ng) → Calls Try.prog 16 #[.pointer (some ⟨G, 0, none⟩)] w' fun e w'' => e = .returned (.slice (some ⟨w'.heap.size, 0, none⟩) cc cc) ∧ Strs w'' (some ⟨w'.heap.size, 0, none⟩) fr ∧ Below w'.heap.size w' w'') := fun F w' h => by
            have := frames_any G F life L.length (L.drop ng) (by omega) (by omega) HLf.out.2 (fun s hs => HQ.out.1.2.2.2.2.2.2.2.1 s (List.mem_of_mem_drop hs)) w' h
            rw [show L.length - (L.drop ng).length = ng from by omega, ← hfr, ← hcc] at this
            exact this
          have HF : Hid (fr = frL life ng (L.drop ng) ∧ cc = min 16 (L.length - ng) ∧ ng ≤ L.length ∧ L.length ≤ 64) := ⟨hfr, by rw [hcc, hdl], gl, l64⟩
          clear hfr hcc hdl gl l64
          go_wp2_with fail
          refine (KF.out _ _ HQ.out.1.1.2.2).mono ?_
          rintro e w5 ⟨rfl, hS5, hb5⟩
          obtain ⟨p5, hp5⟩ : ∃ p, p = wq.heap.size := ⟨_, rfl⟩
          rw [← hp5]
          obtain ⟨d5, hd5⟩ : ∃ x, x = paint d wq w5 0 := ⟨_, rfl⟩
          have H5 : Hid (All w w5 d5 G T life ng ng L aw ag cw cg ∧ Strs w5 (some ⟨p5, 0, none⟩) fr ∧ (0 < cc → p5 < w5.heap.size ∧ d5 p5 = 0)) := by
            rw [hd5, hp5]
            refine ⟨HQ.out.1.call hb5, hS5, fun h0 => ?_⟩
            have hlt : wq.heap.size < w5.heap.size := by
              obtain ⟨x, y, e1, _, e3⟩ := hS5 0 (fr[0]'(by rw [HF.out.1, frL_length, List.length_drop]; have := HF.out.2.1; omega)) (List.getElem?_eq_getElem _)
              cases e1
              exact e3
            exact ⟨hlt, paint_new (Nat.le_refl _) hlt⟩
          clear hS5 hb5 hp5 hd5 KF
          have ccb : (cc : Int) ≤ 16 := by have := HF.out.2.1; omega
          go_wp2_with fail
          rename_i Ki hKi
          have HKi : Hid _ := hKi
          clear hKi
          go_loopw [13, 81] (fun gv jv wi => ∃ (j : Nat) (c : Nat → Nat) (ai : Option Addr) (ni ci : Nat), j ≤ cc ∧ jv = .int .i64 (j : Nat) ∧ gv = .slice ai ni ci ∧ ni = ng + j ∧ All w wi c G T life ng (ng + j) L aw ai cw ci ∧ Strs wi (some ⟨p5, 0, none⟩) fr ∧ (0 < cc → p5 < wi.heap.size ∧ c p5 = 0)) (fun _ jv _ => cc - (Go.RowKit.intOf jv).toNat)
          case atStart => exact ⟨0, d5, ag, ng, cg, Nat.zero_le _, rfl, rfl, rfl, H5.out⟩
          case round =>
            obtain ⟨j, ci5, ai, ni, ci, hj, rfl, rfl, hni, hI, hIs, hIp⟩ := hrel
            rename World => wi
            have HI : Hid (All w wi ci5 G T life ng (ng + j) L aw ai cw ci ∧ Strs wi (some ⟨p5, 0, none⟩) fr ∧ (0 < cc → p5 < wi.heap.size ∧ ci5 p5 = 0) ∧ ni = ng + j) := ⟨hI, hIs, hIp, hni⟩
            clear hI hIs hIp hni H5
            by_cases hjlt : j < cc
            · clear HKi
              have hjlt' : (j : Int) < (cc : Int) := Int.ofNat_lt.2 hjlt
              have hjl : ng + j < L.length := by have := HF.out; omega
              obtain ⟨t, ht⟩ : ∃ t, t = (L[ng + j]'hjl) := ⟨_, rfl⟩
              obtain ⟨f, hf⟩ : ∃ f, f = letS 1 life (ng + j + 1) [t] := ⟨_, rfl⟩
              have hfj : fr[j]? = some f := by
                rw [HF.out.1, hf, ht]
                unfold frL
                rw [List.getElem?_map, List.getElem?_range (by rw [List.length_drop]; have := HF.out; omega)]
                have e : (L.drop ng).getD j ⟨#[]⟩ = L[ng + j] := by simp [List.getD, List.getElem?_drop, List.getElem?_eq_getElem hjl]
                simp only [Option.map_some, e]
                rw [show ng + 1 + j = ng + j + 1 from by omega]
              obtain ⟨_, _, he, hcl, hpb⟩ := HI.out.2.1 j f hfj
              cases he
              rw [Nat.zero_add] at hcl
              have tz : t.size ≤ 7900 := HI.out.1.2.2.2.2.2.2.2.1 t (by rw [ht]; exact List.getElem_mem hjl)
              have KT : Hid _ := fun (w' : World) (h : TakerAt w' T (tkS life (ng + j)).1 (tkS life (ng + j)).2) => take_any T (tkS life (ng + j)).1 (tkS life (ng + j)).2 (by unfold tkS; split <;> (try simp) ; have := HF.out; omega) f (by rw [hf]; exact let_size) w' h
              have er := tkS_step (life := life) (m := ng + j) (t := t) HLf.out (by have := HF.out; omega) tz
              unfold takePost at KT
              rw [← hf] at er
              rw [er] at KT
              obtain ⟨gt, hgt⟩ : ∃ x, x = L.take (ng + j) := ⟨_, rfl⟩
              have HT : Hid (L.take (ng + j + 1) = gt ++ [t] ∧ ng + j < L.length ∧ gt = L.take (ng + j)) := ⟨by rw [hgt, ht]; exact (List.take_append_getElem hjl).symm, hjl, hgt⟩
              clear hfj er hf ht tz hjl hgt
              go_wp2_with fail
              refine (KT.out _ HI.out.1.2.1.2).mono ?_
              rintro e w6 ⟨rfl, hT6, hb6⟩
              have hC6 := HI.out.1.2.1.chg hb6
              obtain ⟨c6, hc6⟩ : ∃ x, x = paint ci5 wi w6 0 := ⟨_, rfl⟩
              have H6 : Hid (Snd w6 c6 1 11 G life L.length (L.drop ng) ∧ Tkr w6 c6 15 T (tkS life (ng + j + 1)).1 (tkS life (ng + j + 1)).2 ∧ Row w6 c6 3 aw (L.map Value.string) cw ∧ Row w6 c6 4 ai (gt.map Value.string) ci ∧ (∀ k, k < w.heap.size → k < w6.heap.size ∧ c6 k = 0) ∧ Below w.heap.size w w6 ∧ Strs w6 (some ⟨p5, 0, none⟩) fr ∧ p5 < w6.heap.size ∧ c6 p5 = 0) := by
                rw [hc6, HT.out.2.2]
                obtain ⟨h1, h2, h3, h4, h5, h6, h7, h8, h9, h10⟩ := HI.out.1
                obtain ⟨q1, q2⟩ := HI.out.2.2.1 (by omega)
                exact ⟨h1.keepx 0 hC6 (by decide) (by decide) (by decide) (by decide), ⟨by rw [paint_old h2.2.2.2.2]; exact h2.1, hT6⟩, h3.keep 0 hC6 (by decide) (by decide), h4.keep 0 hC6 (by decide) (by decide), zero_paint h9 (Off.size hC6), h10.trans (hC6.under h9 (by decide) (by decide)), HI.out.2.1.off hC6 (fun q => q.elim (fun q => by rw [q2] at q; cases q) (fun q => q.elim (fun q => by rw [q2] at q; cases q) (fun q => absurd q1 (Nat.not_lt_of_le q)))), Nat.lt_of_lt_of_le q1 (Off.size hC6), by rw [paint_old q1]; exact q2⟩
              have HB : Hid (gt.length ≤ 64 ∧ ni = gt.length) := by
                have := HF.out
                have h := HI.out.2.2.2
                rw [HT.out.2.2]
                refine ⟨by rw [List.length_take]; omega, by rw [List.length_take, h]; have := HT.out.2.1; omega⟩
              clear hT6 hb6 hC6 hc6 hcl hpb
              go_wp2_with (at_builtin; refine wpList_append_RowV _ rfl _ _ 29 rfl (fun k => c6 k = 4 ∨ w6.heap.size ≤ k) 9 i0 (.string ⟨#[]⟩) 16 Try.underlying29 hi hz0 rfl hz1 hz2 ai ni ci (gt.map Value.string) [.string t] rfl (by rw [List.length_map]; exact HB.out.2) (RowV.call H6.out.2.2.2.1 (below_alloc0 (Below.refl _ _) _)) (by rw [List.length_map]; have := HB.out.1; unfold maxLen; simp; omega) (by rw [List.length_map]; have := HB.out.1; simp; omega) (fun k hk => .inr (Nat.le_trans (by simp) hk)) ⟨w6.heap.size, 0, none⟩ 1 1 rfl rfl (cell_new1 t w6 _) (str_one t) ?_; intro a8 m8 c8 w8 hm8 hR8 hb8; have H8 : Hid (m8 = ni + 1 ∧ Row w8 (paint c6 w6 w8 4) 4 a8 ((gt ++ [t]).map Value.string) c8 ∧ Chg w6 c6 4 4 w8) := ⟨hm8, Row.done (by rw [List.map_append]; exact hR8) ((Off.of_below (below_alloc0 (Below.refl _ _) _) (fun k hk => .inr hk)).trans hb8), Row.chg ((Off.of_below (below_alloc0 (Below.refl _ _) _) (fun k hk => .inr hk)).trans hb8)⟩; clear hm8 hR8 hb8)
              have HE : Hid (All w w8 (paint c6 w6 w8 4) G T life ng (ng + (j + 1)) L aw a8 cw c8 ∧ Strs w8 (some ⟨p5, 0, none⟩) fr ∧ (0 < cc → p5 < w8.heap.size ∧ paint c6 w6 w8 4 p5 = 0) ∧ m8 = ng + (j + 1)) := by
                obtain ⟨h1, h2, h3, h4, h9, h10, g1, g2, g3⟩ := H6.out
                obtain ⟨q1, q2, q3⟩ := H8.out
                have h := HI.out.1
                refine ⟨⟨h1.keepx 4 q3 (by decide) (by decide) (by decide) (by decide), h2.keep 4 q3 (by decide) (by decide), h3.keep 4 q3 (by decide) (by decide), by rw [← Nat.add_assoc, HT.out.1]; exact q2, by omega, by have := HT.out.2.1; omega, h.2.2.2.2.2.2.1, h.2.2.2.2.2.2.2.1, zero_paint h9 (Off.size q3), h10.trans (q3.under h9 (by decide) (by decide))⟩, ?_, fun _ => ⟨Nat.lt_of_lt_of_le g2 (Off.size q3), by rw [paint_old g2]; exact g3⟩, by rw [q1, HI.out.2.2.2]; omega⟩
                exact g1.off q3 (fun q => q.elim (fun q => by rw [g3] at q; cases q) (fun q => q.elim (fun q => by rw [g3] at q; cases q) (fun q => absurd g2 (Nat.not_lt_of_le q))))
              go_roundw
              case rel => first | exact ⟨j + 1, _, a8, m8, c8, hjlt, by go_num, rfl, HE.out.2.2.2, HE.out.1, HE.out.2.1, HE.out.2.2.1⟩ | ((repeat apply Exists.intro); exact ⟨⟨j + 1, _, a8, m8, c8, hjlt, by go_num, rfl, HE.out.2.2.2, HE.out.1, HE.out.2.1, HE.out.2.2.1⟩, rfl⟩)
              case measure => simp [Go.RowKit.intOf]; omega
            · obtain rfl : j = cc := by omega
              have hnj : ¬ ((j : Int) < (j : Int)) := Int.lt_irrefl _
              obtain ⟨m, hm⟩ : ∃ m, m = ng + j := ⟨_, rfl⟩
              have HM : Hid (All w wi ci5 G T life ng m L aw ai cw ci ∧ ni = m ∧ m = min (16 * (i + 1)) L.length ∧ ng ≤ m ∧ m ≤ L.length) := by
                rw [hm]
                have := HF.out
                have := HQ.out.2
                exact ⟨HI.out.1, HI.out.2.2.2, by omega, by omega, by omega⟩
              have mb : (tkS life m).1 ≤ 1099511627776 ∧ (tkS life m).2 ≤ 1099511627776 := by
                have := HM.out.2.2.2.2; have := HF.out.2.2.2; have := HLf.out
                unfold tkS; split <;> (refine ⟨?_, ?_⟩ <;> simp <;> omega)
              have KK : Hid _ := fun (w' : World) (h : TakerAt w' T (tkS life m).1 (tkS life m).2) => ack_any T (tkS life m).1 (tkS life m).2 mb.1 mb.2 w' h
              have KH : Hid _ := fun (F : Nat → Prop) (w' : World) (h : SenderAt w' G F life L.length (L.drop ng)) => heard_all G F life ng L (akS (tkS life m).1 (tkS life m).2) (akS_size _ _) HF.out.2.2.1 (by have := HF.out; omega) w' h
              have ed := hdR_ack (life := life) (m := m) (gone := ng) (n := L.length) HLf.out HM.out.2.2.2.1 HM.out.2.2.2.2 (by have := HF.out; omega)
              rw [ed] at KH
              obtain ⟨A, hA⟩ : ∃ A, A = akS (tkS life m).1 (tkS life m).2 := ⟨_, rfl⟩
              rw [← hA] at KK KH
              obtain ⟨r, hr⟩ : ∃ r, r = hdR A life ng L.length := ⟨_, rfl⟩
              rw [← hr] at KH
              clear hm mb ed hA hr hj HI
              go_wp2_with fail
              refine HKi.out _ _ ?_
              clear HKi
              go_wp2_with fail
              refine (KK.out _ HM.out.1.2.1.2).mono ?_
              rintro e w7 ⟨rfl, hb7⟩
              obtain ⟨c7, hc7⟩ : ∃ x, x = paint ci5 wi w7 0 := ⟨_, rfl⟩
              have H7 : Hid (All w w7 c7 G T life ng m L aw ai cw ci) := by rw [hc7]; exact HM.out.1.call hb7
              clear hb7 hc7 KK
              go_wp2_with fail
              refine (H7.out.1.op (fun F hS => KH.out F _ hS)).mono ?_
              rintro e w9 ⟨rfl, hS9, hC9⟩
              have H9 : Hid (All w w9 (paint c7 w7 w9 1) G T life m m L aw ai cw ci) := by
                obtain ⟨h1, h2, h3, h4, h5, h6, h7, h8, h9, h10⟩ := H7.out
                exact ⟨hS9, h2.keep 1 hC9 (by decide) (by decide), h3.keep 1 hC9 (by decide) (by decide), h4.keep 1 hC9 (by decide) (by decide), Nat.le_refl _, h6, h7, h8, zero_paint h9 (Off.size hC9), h10.trans (hC9.under h9 (by decide) (by decide))⟩
              clear hS9 hC9 KH
              go_wp2_with fail
              go_roundw
              case rel => first | exact ⟨i + 1, _, m, ai, ni, ci, hi6, by go_num, rfl, HM.out.2.1, HM.out.2.2.1, H9.out⟩ | ((repeat apply Exists.intro); exact ⟨⟨i + 1, _, m, ai, ni, ci, hi6, by go_num, rfl, HM.out.2.1, HM.out.2.2.1, H9.out⟩, rfl⟩)
              case measure => simp [Go.RowKit.intOf]; omega
        · obtain rfl : i = 5 := by omega
          have eL : ng = L.length := by have := HQ.out.2; have := HQ.out.1.2.2.2.2.2.2.1; omega
          have HZ : Hid (Snd wq d 1 11 G life L.length [] ∧ Strs wq aw L ∧ Strs wq ag L ∧ Below w.heap.size w wq ∧ L.length ≤ 64 ∧ nw = L.length ∧ ng = L.length) := by
            obtain ⟨h1, h2, h3, h4, h5, h6, h7, h8, h9, h10⟩ := HQ.out.1
            rw [eL, List.drop_length] at h1
            rw [eL, List.take_length] at h4
            exact ⟨h1, RowV.strs h3, RowV.strs h4, h10, h7, HR.out.2.1, eL⟩
          have KW : Hid _ := fun (F : Nat → Prop) (w' : World) (h : SenderAt w' G F life L.length []) => waiting_any G F life L.length [] w' h
          have KX : Hid (∀ (w' : World), Strs w' ag L → Strs w' aw L → Calls Try.prog 15 #[.slice ag ng cg, .slice aw nw cw] w' fun e w'' => e = .returned (.bool true) ∧ Below w'.heap.size w' w'') := fun w' h1 h2 => by
            have := texts_any ag aw L L cg cw (by have := HZ.out.2.2.2.2.1; omega) w' h1 h2
            rw [decide_eq_true rfl] at this
            rw [HZ.out.2.2.2.2.2.1, HZ.out.2.2.2.2.2.2]
            exact this
          clear eL hi6 hi5
          go_wp2_with fail
          refine HKr.out _ _ ?_
          clear HKr
          go_wp2_with fail
          refine (KW.out _ _ HZ.out.1.2.2).mono ?_
          rintro e w5 ⟨rfl, rfl⟩
          go_wp2_with fail
          refine (KX.out _ HZ.out.2.2.1 HZ.out.2.1).mono ?_
          rintro e w6 ⟨rfl, hb6⟩
          have H6 : Hid (Below w.heap.size w w6) := below_call0 HZ.out.2.2.2.1 hb6
          clear hb6
          go_wp2_with fail
          refine (K2.out _).mono ?_
          rintro e w7 ⟨rfl, hb7⟩
          have H7 : Hid (Below w.heap.size w w7) := below_call0 H6.out hb7
          clear hb7
          go_wp2_with fail
          go_ret
          exact ⟨rfl, H7.out⟩
theorem linkAll_any (x : Int) (a : Option Addr) (l : List ByteArray) (cap : Nat) (w : World) (hS : Strs w a l) :
    Calls Try.prog 6 #[.int .i64 x, .slice a l.length cap] w fun e w' => e = .returned (.bool true) ∧ Below w.heap.size w w' := by
  by_cases hl : 1 ≤ x ∧ x ≤ 1099511627776
  · obtain ⟨k, rfl⟩ : ∃ k : Nat, x = (k : Nat) := ⟨x.toNat, by omega⟩
    by_cases hn : l.length ≤ 64
    · exact linkAll_in k (by omega) a l cap hn w hS
    · exact linkAll_long k (by omega) a l.length cap (by omega) w
  · exact linkAll_no x hl a l.length cap w
end Go.Proofs.Ytadcjdffjhiniaa
