/- Package wardmotelaw11: a record that is written and read again. -/
import Derived.Test.YtdnahobafhelhaaDoorLgX
namespace Go.Proofs.YtdnahobafhelhaaDoor
open Go Go.RowKit Go.Lib

theorem rowV_strs {w : World} {F : Nat → Prop} {a : Option Addr} {l : List ByteArray} {cap : Nat} (h : RowV w F a (l.map Value.string) cap) : Strs w a l := fun j s hj => by
  obtain ⟨b, o, h1, h2, h3, -⟩ := h.get (j := j) (u := .string s) (by rw [List.getElem?_map, hj]; rfl)
  exact ⟨b, o, h1, h2, h3⟩
theorem strs_single (s : ByteArray) (w : World) (y : TypeId) : Strs (w.alloc (.cells #[.string s] y)) (some ⟨w.heap.size, 0, none⟩) [s] := by
  intro j u hj
  match j, hj with
  | 0, hj => simp at hj; subst hj; exact ⟨_, _, rfl, by simp [go_sem], by simp⟩
  | j + 1, hj => simp at hj
theorem LChg.under {w w' : World} {c : Nat → Nat} {B : Nat} (h : LChg w c w') (hB : ∀ k, k < B → k < w.heap.size ∧ c k = 0) : Below B w w' :=
  ⟨Off.os h, Off.tape h, Off.output h, Off.size h, fun k hk => Off.block h k (by
    rintro (q | q | q | q | q)
    · rw [(hB k hk).2] at q; exact absurd q (by decide)
    · rw [(hB k hk).2] at q; exact absurd q (by decide)
    · rw [(hB k hk).2] at q; exact absurd q (by decide)
    · rw [(hB k hk).2] at q; exact absurd q (by decide)
    · exact absurd (hB k hk).1 (Nat.not_lt_of_le q))⟩
/-- A new file and a new ledger of it: the worlds and colours behind disk.New. -/
theorem fnew_fil (w : World) (hG : GlobD w) (h1 : 0 < w.heap.size) (h2 : 1 < w.heap.size) :
    Calls Tryd.prog 11 #[] w fun e w' => e = .returned (.pointer (some ⟨w.heap.size, 0, none⟩)) ∧ ∃ c, Fil w' c 1 11 w.heap.size 0 ByteArray.empty ∧ Glb w' c ∧ Below w.heap.size w w' ∧ ∀ k, k < w.heap.size → k < w'.heap.size ∧ c k = 0 := by
  refine (fnew_any w).mono ?_
  rintro e w1 ⟨rfl, hF, hb, hz⟩
  have hk : ∀ k, k < w.heap.size → k < w1.heap.size ∧ paint (fun _ => 0) w w1 11 k = 0 := fun k q => ⟨by omega, paint_old q⟩
  refine ⟨rfl, paint (fun _ => 0) w w1 11, ⟨paint_new (Nat.le_refl _) (by omega), by decide, hF.mono ?_ (fun k q => .inr q) (fun k q q2 => ?_)⟩, ⟨hG.call hb, (hk _ h1).1, (hk _ h2).1, (hk _ h1).2, (hk _ h2).2⟩, hb, hk⟩
  · rintro (q | q)
    · rw [paint_new (Nat.le_refl _) (by omega)] at q; exact absurd q (by decide)
    · omega
  · unfold From at q2
    omega
set_option maxRecDepth 20000 in
set_option maxHeartbeats 2000000 in
theorem one11_any (w : World) (hG : GlobD w) (h1 : 0 < w.heap.size) (h2 : 1 < w.heap.size) :
    Calls Tryd.prog 8 #[] w fun e w' => e = .returned (.bool true) ∧ Below w.heap.size w w' := by
  have hsz : ∀ w, (Go.sizeOf 9).run Tryd.prog w = .ok 1 w := fun _ => by kernel_rfl
  obtain ⟨B, hB⟩ : ∃ B, B = w.heap.size := ⟨_, rfl⟩
  obtain ⟨R, hR⟩ : ∃ R, R = recS 0 ⟨#[97]⟩ := ⟨_, rfl⟩
  have hRz : R.size = 7 := by rw [hR, recS_size]; rfl
  have K0 : Hid _ := fnew_fil w hG h1 h2
  have KO : Hid (∀ (w' : World) (c : Nat → Nat), Fil w' c 1 11 B 0 ByteArray.empty → Glb w' c → Calls Tryd.prog 13 #[.pointer (some ⟨B, 0, none⟩)] w' fun e w'' => ∃ (L : Nat) (c' : Nat → Nat), e = .returned (.tuple #[.pointer (some ⟨L, 0, none⟩), .int .i64 0]) ∧ Fil w'' c' 1 11 B 0 ByteArray.empty ∧ Led w'' c' B L [] ∧ Glb w'' c' ∧ Chg w' c 1 11 w'' ∧ ∀ k, k < w'.heap.size → c' k = c k) := fun w' c hF hG => by
    refine (lopen_any c B 0 ByteArray.empty (by decide) [] (told_empty 0) w' hF hG).mono ?_
    rintro e w'' ⟨L, c', e1, e2, e3, e4, e5, _, e7⟩
    exact ⟨L, c', e1, e2, e3, e4, e5, e7⟩
  have KA : Hid (∀ (w' : World) (c : Nat → Nat) (L : Nat), Fil w' c 1 11 B 0 ByteArray.empty → Led w' c B L [] → Glb w' c → Calls Tryd.prog 18 #[.pointer (some ⟨L, 0, none⟩), .string ⟨#[97]⟩] w' fun e w'' => e = .returned (.tuple #[.int .i64 0, .int .i64 0]) ∧ ∃ c', Fil w'' c' 1 11 B 0 R ∧ Led w'' c' B L [⟨#[97]⟩] ∧ Glb w'' c' ∧ LChg w' c w'' ∧ ∀ k, k < w'.heap.size → c' k = c k) := fun w' c L hF hD hG => by
    refine (lappend_ok c B L 0 ByteArray.empty ⟨#[97]⟩ [] (by decide) (by decide) (by decide) w' hF hD hG).mono ?_
    rintro e w'' ⟨e1, c', e2, e3⟩
    exact ⟨e1, c', by rw [hR]; rwa [show ByteArray.empty ++ recS ([] : List ByteArray).length ⟨#[97]⟩ = recS 0 ⟨#[97]⟩ from ba_ext (by rw [ba_append]; rfl)] at e2, e3⟩
  have KB : Hid (∀ (w' : World) (c : Nat → Nat), Fil w' c 1 11 B 0 R → Calls Tryd.prog 17 #[.pointer (some ⟨B, 0, none⟩)] w' fun e w'' => e = .returned (.string R) ∧ w'' = w') := fun w' c hF => fbytes_any B _ 0 R w' hF.2.2
  have KR : Hid (∀ (w' : World) (c : Nat → Nat), Glb w' c → Calls Tryd.prog 9 #[.string R] w' fun e w'' => ∃ a cap, e = .returned (.tuple #[.slice a 1 cap, .int .i64 7]) ∧ Strs w'' a [⟨#[97]⟩] ∧ Below w'.heap.size w' w'') := fun w' c hG => by
    refine (read_any R (by omega) [⟨#[97]⟩] (by rw [hR]; exact told_one _ (by decide)) w' hG.1 hG.2.2.1).mono ?_
    rintro e w'' ⟨a, cap, e1, e2, e3⟩
    exact ⟨a, cap, e1, rowV_strs e2, e3⟩
  have KG : Hid (∀ (w' : World) (c : Nat → Nat) (L : Nat), Led w' c B L [⟨#[97]⟩] → Calls Tryd.prog 23 #[.pointer (some ⟨L, 0, none⟩), .int .i64 0] w' fun e w'' => e = .returned (.tuple #[.string ⟨#[97]⟩, .int .i64 0]) ∧ Below w'.heap.size w' w'') := fun w' c L hD => lget_ok c B L 0 [⟨#[97]⟩] (by decide) (fun r hr => by rw [List.mem_singleton.1 hr]; decide) w' hD
  have KT : Hid (∀ (w' : World) (a b : Option Addr) (ca cb : Nat), Strs w' a [⟨#[97]⟩] → Strs w' b [⟨#[97]⟩] → Calls Tryd.prog 15 #[.slice a 1 ca, .slice b 1 cb] w' fun e w'' => e = .returned (.bool true) ∧ Below w'.heap.size w' w'') := fun w' a b ca cb hA hB => by
    have h := texts_any a b [⟨#[97]⟩] [⟨#[97]⟩] ca cb (by decide) w' hA hB
    rw [decide_eq_true rfl] at h
    exact h
  have KW : Hid (∀ (w' : World), Calls Tryd.prog 19 #[.int .i64 0, .string ⟨#[97]⟩] w' fun e w'' => e = .returned (.string R) ∧ Below w'.heap.size w' w'') := fun w' => by
    rw [hR]
    exact written_any 0 ⟨#[97]⟩ (by decide) (by decide) w'
  rw [← hB] at K0 ⊢
  have HB : Hid (B = w.heap.size) := hB
  clear hB hR hG h1 h2
  go_enter Tryd.func8, Tryd.ntmps8
  go_wp2_with fail
  refine Calls.mono K0.out ?_
  rintro e w1 ⟨rfl, c1, hF1, hG1, hb1, hk1⟩
  have H1 : Hid (Fil w1 c1 1 11 B 0 ByteArray.empty ∧ Glb w1 c1 ∧ Below B w w1 ∧ ∀ k, k < B → k < w1.heap.size ∧ c1 k = 0) := ⟨hF1, hG1, hb1, hk1⟩
  clear hF1 hG1 hb1 hk1 K0
  go_wp2_with fail
  refine Calls.mono (KO.out w1 c1 H1.out.1 H1.out.2.1) ?_
  rintro e w2 ⟨L, c2, rfl, hF2, hD2, hG2, hC2, hk2⟩
  have H2 : Hid (Fil w2 c2 1 11 B 0 ByteArray.empty ∧ Led w2 c2 B L [] ∧ Glb w2 c2 ∧ Below B w w2 ∧ ∀ k, k < B → k < w2.heap.size ∧ c2 k = 0) := by
    have hu := hC2.under H1.out.2.2.2 (by decide) (by decide)
    exact ⟨hF2, hD2, hG2, H1.out.2.2.1.trans hu, fun k hk => ⟨Nat.lt_of_lt_of_le (H1.out.2.2.2 k hk).1 hu.size, by rw [hk2 k (H1.out.2.2.2 k hk).1]; exact (H1.out.2.2.2 k hk).2⟩⟩
  clear hF2 hD2 hG2 hC2 hk2 H1 KO
  go_wp2_with fail
  refine Calls.mono (KA.out w2 c2 L H2.out.1 H2.out.2.1 H2.out.2.2.1) ?_
  rintro e w3 ⟨rfl, c3, hF3, hD3, hG3, hC3, hk3⟩
  have H3 : Hid (Fil w3 c3 1 11 B 0 R ∧ Led w3 c3 B L [⟨#[97]⟩] ∧ Glb w3 c3 ∧ Below B w w3 ∧ B ≤ w3.heap.size) := by
    have hu := hC3.under H2.out.2.2.2.2
    refine ⟨hF3, hD3, hG3, H2.out.2.2.2.1.trans hu, ?_⟩
    have := (H2.out.2.2.2.1.trans hu).size
    rw [HB.out]
    exact this
  clear hF3 hD3 hG3 hC3 hk3 H2 KA
  go_wp2_with fail
  refine Calls.mono (KB.out w3 c3 H3.out.1) ?_
  rintro e w3' ⟨rfl, rfl⟩
  go_wp2_with fail
  refine Calls.mono (KR.out w3' c3 H3.out.2.2.1) ?_
  rintro e w4 ⟨a, cap, rfl, hS4, hb4⟩
  have H4 : Hid (Strs w4 a [⟨#[97]⟩] ∧ Below w3'.heap.size w3' w4) := ⟨hS4, hb4⟩
  clear hS4 hb4 KR
  go_wp2_with fail
  refine Calls.mono (KG.out w4 (paint c3 w3' w4 3) L (H3.out.2.1.keep 3 (Chg.of_below H4.out.2 (i := 0) (j := 0)) (by decide) (by decide) (by decide) (by decide))) ?_
  rintro e w5 ⟨rfl, hb5⟩
  have H5 : Hid (Strs w5 a [⟨#[97]⟩] ∧ Below w3'.heap.size w3' w5) := ⟨H4.out.1.call hb5, below_call0 H4.out.2 hb5⟩
  clear hb5 H4 KG
  go_wp2_with fail
  refine Calls.mono (KT.out _ _ _ _ _ (H5.out.1.call (below_alloc0 (Below.refl _ _) _)) (strs_single _ _ _)) ?_
  rintro e w6 ⟨rfl, hb6⟩
  have H6 : Hid (Below w3'.heap.size w3' w6) := below_call0 (below_alloc0 H5.out.2 _) hb6
  clear hb6 H5 KT
  go_wp2_with fail
  refine Calls.mono (KB.out w6 (paint c3 w3' w6 3) (H3.out.1.keep 3 (Chg.of_below H6.out (i := 0) (j := 0)) (by decide) (by decide) (by decide) (by decide))) ?_
  rintro e w6' ⟨rfl, rfl⟩
  go_wp2_with fail
  refine Calls.mono (KW.out _) ?_
  rintro e w7 ⟨rfl, hb7⟩
  have H7 : Hid (Below w3'.heap.size w3' w7) := below_call0 H6.out hb7
  clear hb7 H6 KW
  go_wp2_with fail
  go_ret
  exact ⟨rfl, H3.out.2.2.2.1.trans (H7.out.mono H3.out.2.2.2.2)⟩
end Go.Proofs.YtdnahobafhelhaaDoor
