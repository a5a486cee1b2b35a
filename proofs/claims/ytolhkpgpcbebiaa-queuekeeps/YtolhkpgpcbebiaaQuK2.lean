/- The law QueueKeeps. -/
import Derived.Test.YtolhkpgpcbebiaaQuK1
import Derived.Test.YtolhkpgpcbebiaaBsK
namespace Go.Proofs.Ytolhkpgpcbebiaa
open Go Go.RowKit Go.Lib
theorem RowX.offD {α : Type} {enc : α → List Value} {k : Nat} {w w' : World} {D P : Nat → Prop} {a : Option Addr} {X : List α} {cap : Nat} (h : RowX enc k w (fun j => P j ∧ ¬ D j) a X cap) (hO : Off (fun j => D j ∨ w.heap.size ≤ j) w w') : RowX enc k w' (fun j => P j ∧ ¬ ((D j ∨ w.heap.size ≤ j) ∧ j < w'.heap.size)) a X cap := by
  have hR : RowX enc k w (fun j => (P j ∧ ¬ D j) ∧ j < w.heap.size) a X cap := h.mono (fun j hj hz => ⟨hz, hj⟩)
  exact (hR.kept hO.size (fun j hj _ => hO.block j (fun c => c.elim hj.1.2 (fun c => by omega)))).mono (fun j _ hj => ⟨hj.1.1, fun c => c.1.elim hj.1.2 (fun c => by omega)⟩)
theorem subs_cases (L : List Qe) (id : Int) (m : ByteArray) (hok : QOk L) : ((subR L id m).2.2 = L ∧ ((subR L id m).1 = 2 → (waitQ L).length = 8)) ∨ ((subR L id m).1 = 1 ∧ (waitQ (subR L id m).2.2).length = (waitQ L).length + 1 ∧ idsQ (subR L id m).2.2 = idsQ L ++ [id]) := by
  unfold subR
  by_cases hk : okQ id m
  · rw [if_pos hk]
    cases hl : lookQ L id with
    | some e =>
      left
      simp only
      split
      · refine ⟨rfl, fun c => ?_⟩
        unfold qa at c
        split at c <;> simp at c
      · exact ⟨rfl, fun c => by simp at c⟩
    | none =>
      simp only
      by_cases h8 : 8 ≤ (waitQ L).length
      · left
        rw [if_pos h8]
        exact ⟨rfl, fun _ => by have := hok.w8; omega⟩
      · right
        rw [if_neg h8]
        refine ⟨rfl, by rw [waitQ_app _ rfl, List.length_append]; rfl, ?_⟩
        rw [ids_push L _ rfl]
        congr 2
        show ((id.toNat : Nat) : Int) = id
        have := hk.1
        omega
  · left
    rw [if_neg hk]
    exact ⟨rfl, fun c => by simp at c⟩
/-- What the law keeps from round to round. -/
def KJ (w wz : World) (g c : Nat) (s4 s5 : Value) : Prop := ∃ L S D aO cO nO aD cD nD Dn, s4 = .slice aO nO cO ∧ s5 = .slice aD nD cD ∧ TQ w wz g g L S D aO (idsQ L) cO aD Dn cD ∧ nO = (idsQ L).length ∧ nD = Dn.length ∧ nD ≤ 10 * c ∧ L.length ≤ c
theorem idsQ_len (L : List Qe) : (idsQ L).length = (waitQ L).length := by unfold idsQ; rw [List.length_map]
theorem n8_of {L : List Qe} (h : QOk L) : (idsQ L).length ≤ 8 := by rw [idsQ_len]; exact h.w8
set_option maxRecDepth 100000 in
set_option maxHeartbeats 8000000 in
theorem keeps_main (len cl : Nat) (ad : Option Addr) (w : World) (hS : StepsQ w ad len) (hlen : len ≤ 200) : Calls Try.prog 4 #[.slice ad len cl] w fun e w' => e = .returned (.bool true) ∧ Below w.heap.size w w' := by
  obtain ⟨g, hg⟩ : ∃ g, g = w.heap.size := ⟨_, rfl⟩
  have HG : Hid (g = w.heap.size) := hg
  have HS : Hid (StepsQ w ad len ∧ len ≤ 200) := ⟨hS, hlen⟩
  have KN : Hid (Calls Try.prog 7 #[] w fun e w' => e = .returned (.pointer (some ⟨g, 0, none⟩)) ∧ QI w' (From g) g [] ∧ Below g w w') := by
    rw [hg]; exact qnew_in (From w.heap.size) w (fun k hk => hk)
  have l1 : ¬ ((200 : Int) < (len : Nat)) := by omega
  have l3 : (len : Int) ≤ 200 := by omega
  clear hlen hS hg
  go_enter Try.func4, Try.ntmps4
  go_wp2_with fail
  refine KN.out.mono ?_
  rintro e w1 ⟨rfl, hQ1, hb1⟩
  have H1 : Hid (KJ w w1 g 0 (.slice none 0 0) (.slice none 0 0)) := ⟨[], fun k => g ≤ k ∧ k < w1.heap.size, fun _ => False, none, 0, 0, none, 0, 0, [], rfl, rfl, ⟨hQ1.mono (fun k hk hz => ⟨hz, hk⟩), RowX.nil _ _, RowX.nil _ _, fun _ _ c => c, fun k hk => hk.1, fun _ c => c.elim, fun k hk => hk.2, fun _ c => c.elim, by have := hQ1.gl; omega, hb1, DnI.nil _⟩, rfl, rfl, Nat.le_refl _, Nat.le_refl _⟩
  clear hQ1 hb1 KN
  go_wp2_with fail
  rename_i Kr hKr
  have HKr : Hid _ := hKr
  clear hKr
  go_loopw [4, 5, 39] (fun s4 s5 iv wr => ∃ i : Nat, i ≤ len ∧ iv = .int .i64 (i : Nat) ∧ KJ w wr g i s4 s5) (fun _ _ iv _ => len - (Go.RowKit.intOf iv).toNat)
  case atStart => exact ⟨0, Nat.zero_le _, rfl, H1.out⟩
  case round =>
    obtain ⟨i, hi, rfl, hB⟩ := hrel
    rename World => wr
    obtain ⟨L, S, D, aO, cO, nO, aD, cD, nD, Dn, rfl, rfl, hT, hnO, hnD, hnb, hLl⟩ := hB
    clear H1
    by_cases hlt : i < len
    · have hlt' : (i : Int) < (len : Nat) := by omega
      obtain ⟨p, o, x, rfl, hc, hp, hms, hid⟩ := HS.out.1 i hlt
      have hcr : ∀ c u, (stE x)[c]? = some u → wr.cell? ⟨p, o + i * 16 + c, none⟩ = some u := fun c u hu => (hT.hb.cell (p := ⟨p, _, none⟩) (by rw [HG.out]; exact hp)).trans (hc c u hu)
      have k0 : wr.cell? ⟨p, o + i * 16, none⟩ = some (.int .i64 x.X) := hcr 0 _ rfl
      have k1 : wr.cell? ⟨p, o + i * 16 + 1, none⟩ = some (.int .i64 x.id) := hcr 1 _ rfl
      have k2 : wr.cell? ⟨p, o + i * 16 + 2, none⟩ = some (.string x.m) := hcr 2 _ rfl
      have k3 : wr.cell? ⟨p, o + i * 16 + 3, none⟩ = some (.int .u64 x.S.x0) := hcr 3 _ rfl
      have k4 : wr.cell? ⟨p, o + i * 16 + 4, none⟩ = some (.int .u64 x.S.x1) := hcr 4 _ rfl
      have k5 : wr.cell? ⟨p, o + i * 16 + 5, none⟩ = some (.int .u64 x.S.x2) := hcr 5 _ rfl
      have k6 : wr.cell? ⟨p, o + i * 16 + 6, none⟩ = some (.int .u64 x.S.x3) := hcr 6 _ rfl
      have k7 : wr.cell? ⟨p, o + i * 16 + 7, none⟩ = some (.int .u64 x.S.x4) := hcr 7 _ rfl
      have k8 : wr.cell? ⟨p, o + i * 16 + 8, none⟩ = some (.int .u64 x.S.x5) := hcr 8 _ rfl
      have k9 : wr.cell? ⟨p, o + i * 16 + 9, none⟩ = some (.int .u64 x.S.x6) := hcr 9 _ rfl
      have k10 : wr.cell? ⟨p, o + i * 16 + 10, none⟩ = some (.int .u64 x.S.x7) := hcr 10 _ rfl
      have k11 : wr.cell? ⟨p, o + i * 16 + 11, none⟩ = some (.bool x.S.i) := hcr 11 _ rfl
      have k12 : wr.cell? ⟨p, o + i * 16 + 12, none⟩ = some (.int .u64 x.S.x8) := hcr 12 _ rfl
      have k13 : wr.cell? ⟨p, o + i * 16 + 13, none⟩ = some (.int .u64 x.S.x9) := hcr 13 _ rfl
      have k14 : wr.cell? ⟨p, o + i * 16 + 14, none⟩ = some (.int .u64 x.S.x10) := hcr 14 _ rfl
      have k15 : wr.cell? ⟨p, o + i * 16 + 15, none⟩ = some (.int .u64 x.S.x11) := hcr 15 _ rfl
      obtain ⟨W3, hW3⟩ : ∃ W3, W3 = wr.alloc (.cells #[.int .i64 x.X, .int .i64 x.id, .string x.m, .int .u64 x.S.x0, .int .u64 x.S.x1, .int .u64 x.S.x2, .int .u64 x.S.x3, .int .u64 x.S.x4, .int .u64 x.S.x5, .int .u64 x.S.x6, .int .u64 x.S.x7, .bool x.S.i, .int .u64 x.S.x8, .int .u64 x.S.x9, .int .u64 x.S.x10, .int .u64 x.S.x11] 40) := ⟨_, rfl⟩
      obtain ⟨G, hG⟩ : ∃ G, G = wr.heap.size := ⟨_, rfl⟩
      have HW3 : Hid (W3 = wr.alloc (.cells #[.int .i64 x.X, .int .i64 x.id, .string x.m, .int .u64 x.S.x0, .int .u64 x.S.x1, .int .u64 x.S.x2, .int .u64 x.S.x3, .int .u64 x.S.x4, .int .u64 x.S.x5, .int .u64 x.S.x6, .int .u64 x.S.x7, .bool x.S.i, .int .u64 x.S.x8, .int .u64 x.S.x9, .int .u64 x.S.x10, .int .u64 x.S.x11] 40) ∧ G = wr.heap.size) := ⟨hW3, hG⟩
      have hb3 : Below wr.heap.size wr W3 := by rw [hW3]; exact below_alloc0 (Below.refl _ _) _
      have H3 : Hid (TQ w W3 g g L S D aO (idsQ L) cO aD Dn cD ∧ Blk W3 G (stE x) ∧ ¬ S G ∧ ¬ D G) := ⟨hT.call hb3, by rw [hW3, hG]; exact Blk.new wr (stE x) 40, fun c => by have := hT.sl _ c; omega, fun c => by have := hT.dl _ c; omega⟩
      have n8' := n8_of hT.q.ok
      have HX : Hid (i < len ∧ x.m.size ≤ 281474976710656 ∧ (-9223372036854775808 ≤ x.id ∧ x.id ≤ 9223372036854775807) ∧ nO = (idsQ L).length ∧ nD = Dn.length ∧ nD ≤ 10 * i ∧ L.length ≤ i ∧ i ≤ 200 ∧ nO ≤ 8) := ⟨hlt, by omega, hid, hnO, hnD, hnb, hLl, by have := HS.out.2; omega, by omega⟩
      have n8 : (nO : Int) ≤ 8 := by omega
      have d8 : (nD : Int) ≤ 2000 := by have := HX.out; omega
      clear hT hi hlt hc hp hms hid hcr hW3 hG hnO hnD hnb hLl hb3 n8'
      go_upto_region 9 with fail
      rw [← HW3.out.1, ← HW3.out.2]
      clear HW3 k0 k1 k2 k3 k4 k5 k6 k7 k8 k9 k10 k11 k12 k13 k14 k15
      go_wp2_with fail
      refine (waiting_in g S L W3 H3.out.1.q).mono ?_
      rintro e w4 ⟨ba, bn, bc, rfl, hbn, hbr, hb4⟩
      have H4 : Hid (TQ w w4 g g L S D aO (idsQ L) cO aD Dn cD ∧ Blk w4 G (stE x) ∧ ¬ S G ∧ ¬ D G ∧ bn = nO ∧ RowX rqE 2 w4 (fun j => (W3.heap.size ≤ j ∧ j < w4.heap.size) ∧ ¬ D j) ba (waitQ L) bc ∧ ∀ j, S j → j < W3.heap.size) := ⟨H3.out.1.call hb4, H3.out.2.1.call hb4, H3.out.2.2.1, H3.out.2.2.2, by rw [hbn, HX.out.2.2.2.1, idsQ_len], hbr.mono (fun j hj hz => ⟨⟨hz, hj⟩, fun c => absurd (H3.out.1.dl j c) (Nat.not_lt_of_le hz)⟩), H3.out.1.sl⟩
      have g0 : w4.cell? ⟨G, 0, none⟩ = some (.int .i64 x.X) := H4.out.2.1.2.2 0 _ rfl
      have g1 : w4.cell? ⟨G, 1, none⟩ = some (.int .i64 x.id) := H4.out.2.1.2.2 1 _ rfl
      have g2 : w4.cell? ⟨G, 2, none⟩ = some (.string x.m) := H4.out.2.1.2.2 2 _ rfl
      have gs3 : w4.cell? ⟨G, 3, none⟩ = some (.int .u64 x.S.x0) := H4.out.2.1.2.2 3 _ rfl
      have gs4 : w4.cell? ⟨G, 4, none⟩ = some (.int .u64 x.S.x1) := H4.out.2.1.2.2 4 _ rfl
      have gs5 : w4.cell? ⟨G, 5, none⟩ = some (.int .u64 x.S.x2) := H4.out.2.1.2.2 5 _ rfl
      have gs6 : w4.cell? ⟨G, 6, none⟩ = some (.int .u64 x.S.x3) := H4.out.2.1.2.2 6 _ rfl
      have gs7 : w4.cell? ⟨G, 7, none⟩ = some (.int .u64 x.S.x4) := H4.out.2.1.2.2 7 _ rfl
      have gs8 : w4.cell? ⟨G, 8, none⟩ = some (.int .u64 x.S.x5) := H4.out.2.1.2.2 8 _ rfl
      have gs9 : w4.cell? ⟨G, 9, none⟩ = some (.int .u64 x.S.x6) := H4.out.2.1.2.2 9 _ rfl
      have gs10 : w4.cell? ⟨G, 10, none⟩ = some (.int .u64 x.S.x7) := H4.out.2.1.2.2 10 _ rfl
      have gs11 : w4.cell? ⟨G, 11, none⟩ = some (.bool x.S.i) := H4.out.2.1.2.2 11 _ rfl
      have gs12 : w4.cell? ⟨G, 12, none⟩ = some (.int .u64 x.S.x8) := H4.out.2.1.2.2 12 _ rfl
      have gs13 : w4.cell? ⟨G, 13, none⟩ = some (.int .u64 x.S.x9) := H4.out.2.1.2.2 13 _ rfl
      have gs14 : w4.cell? ⟨G, 14, none⟩ = some (.int .u64 x.S.x10) := H4.out.2.1.2.2 14 _ rfl
      have gs15 : w4.cell? ⟨G, 15, none⟩ = some (.int .u64 x.S.x11) := H4.out.2.1.2.2 15 _ rfl
      have hbn' := H4.out.2.2.2.2.1
      subst hbn'
      clear hbn hbr hb4
      go_upto_if 47 with fail
      go_cut [4, 5] (fun s4 s5 wz => KJ w wz g (i + 1) s4 s5)
      case first =>
        by_cases hX : x.X = 2
        · have xb2 : (x.X == 2) = true := by rw [hX]; rfl
          clear hX
          as_aux_lemma =>
            by_cases hw : ∃ y, lookQ L x.id = some y ∧ y.d = false
            · obtain ⟨y0, hl0, hd0⟩ := hw
              obtain ⟨L5, hL5⟩ : ∃ L5, L5 = doneQ x.id x.S L := ⟨_, rfl⟩
              have hfin : finR L x.id x.S = (0, L5) := by unfold finR; rw [hl0, hL5]; simp [hd0]
              have hF := finish_any g x.id x.S (fun k => S k ∨ w4.heap.size ≤ k) L w4 (fun k hk => .inr hk) (H4.out.1.q.mono (fun k _ hk => .inl hk)) HX.out.2.2.1 (by have := HX.out; omega)
              rw [hfin] at hF
              have HL5 : Hid (DnI L5 Dn ∧ L5.length ≤ i + 1 ∧ idsQ L5 = (idsQ L).filter (fun z => decide (z ≠ x.id)) ∧ (idsQ L5).length + 1 = bn ∧ lookQ L x.id = some y0 ∧ (⟨y0.id, y0.m, true, x.S⟩ : Qe) ∈ L5) := ⟨by rw [hL5]; exact H4.out.1.dn.sub (done_keeps hl0 hd0), by rw [hL5, doneQ_len]; have := HX.out; omega, by rw [hL5]; exact ids_done H4.out.1.q.ok hl0 hd0, by rw [hL5, idsQ_len, doneQ_w1 hl0 hd0, ← idsQ_len]; exact HX.out.2.2.2.1.symm, hl0, by rw [hL5]; exact done_has hl0⟩
              have KF : Hid (Calls Try.prog 11 #[.pointer (some ⟨g, 0, none⟩), .int .i64 x.id, .agg #[.int .u64 x.S.x0, .int .u64 x.S.x1, .int .u64 x.S.x2, .int .u64 x.S.x3, .int .u64 x.S.x4, .int .u64 x.S.x5, .int .u64 x.S.x6, .int .u64 x.S.x7, .bool x.S.i, .int .u64 x.S.x8, .int .u64 x.S.x9, .int .u64 x.S.x10, .int .u64 x.S.x11]] w4 fun e w' => e = .returned (.int .i64 0) ∧ TQ w w' g g L5 (fun j => (S j ∨ w4.heap.size ≤ j) ∧ j < w'.heap.size) D aO (idsQ L) cO aD Dn cD ∧ Blk w' G (stE x) ∧ RowX rqE 2 w' (fun j => (W3.heap.size ≤ j ∧ j < w4.heap.size) ∧ ¬ D j) ba (waitQ L) bc) := hF.mono (fun e w' h => ⟨h.1, H4.out.1.qop h.2.1 h.2.2 HL5.out.1, H4.out.2.1.off h.2.2 (fun c => c.elim H4.out.2.2.1 (fun c => by have := H4.out.2.1.1; omega)), H4.out.2.2.2.2.2.1.kept h.2.2.size (fun j hj _ => h.2.2.block j (fun c => c.elim (fun c => by have := H4.out.2.2.2.2.2.2 j c; omega) (fun c => by omega)))⟩)
              have b0 : (bn : Int) - 1 = ((bn - 1 : Nat) : Int) := by have := HL5.out.2.2.2.1; omega
              obtain ⟨bm, hbm⟩ : ∃ bm, bm = bn - 1 := ⟨_, rfl⟩
              rw [← hbm] at b0
              have HBM : Hid (bm + 1 = bn) := by have := HL5.out.2.2.2.1; have : bm + 1 = bn := by omega
                                                 exact this
              have b3 : (bm : Int) ≤ 8 := by omega
              have b4 : ((bm : Int) != (bm : Int)) = false := by simp
              clear hL5 hfin hF hl0 hd0 hbm
              go_wp2_with fail
              refine KF.out.mono ?_
              rintro e w5 ⟨rfl, hT5, hk5, hbr5⟩
              have H5 : Hid (TQ w w5 g g L5 (fun j => (S j ∨ w4.heap.size ≤ j) ∧ j < w5.heap.size) D aO (idsQ L) cO aD Dn cD ∧ Blk w5 G (stE x) ∧ RowX rqE 2 w5 (fun j => (W3.heap.size ≤ j ∧ j < w4.heap.size) ∧ ¬ D j) ba (waitQ L) bc) := ⟨hT5, hk5, hbr5⟩
              clear hT5 hk5 hbr5 KF
              go_wp2_with fail
              rename_i Ka hKa
              have HKa : Hid _ := hKa
              clear hKa
              go_loopw [9, 58] (fun rv jv wz => ∃ (j nR : Nat) (aR : Option Addr) (cR : Nat), j ≤ bn ∧ rv = .slice aR nR cR ∧ jv = .int .i64 (j : Nat) ∧ nR = (((idsQ L).take j).filter (fun z => decide (z ≠ x.id))).length ∧ RowX iE 1 wz (From w5.heap.size) aR (((idsQ L).take j).filter (fun z => decide (z ≠ x.id))) cR ∧ Below w5.heap.size w5 wz) (fun _ jv _ => bn - (Go.RowKit.intOf jv).toNat)
              case atStart => exact ⟨0, 0, none, 0, Nat.zero_le _, rfl, rfl, rfl, RowX.nil _ _, Below.refl _ _⟩
              case round =>
                obtain ⟨j, nR, aR, cR, hj, rfl, rfl, hnR, hRR, hbz⟩ := hrel
                rename World => wz
                have hn9 : nR ≤ 8 := by rw [hnR]; exact Nat.le_trans (List.length_filter_le ..) (by rw [List.length_take]; have := HX.out; omega)
                have HJ : Hid (j ≤ bn ∧ nR = (((idsQ L).take j).filter (fun z => decide (z ≠ x.id))).length ∧ RowX iE 1 wz (From w5.heap.size) aR (((idsQ L).take j).filter (fun z => decide (z ≠ x.id))) cR ∧ Below w5.heap.size w5 wz ∧ nR ≤ 8) := ⟨hj, hnR, hRR, hbz, hn9⟩
                have nR8 : (nR : Int) ≤ 8 := by omega
                by_cases hltj : j < bn
                · have hlt2 : (j : Int) < (bn : Nat) := by omega
                  obtain ⟨z, hz⟩ : ∃ z, (idsQ L)[j]? = some z := ⟨_, List.getElem?_eq_getElem (by rw [← HX.out.2.2.2.1]; exact hltj)⟩
                  obtain ⟨op, oo, rfl, hoc, -⟩ := (H5.out.1.call hbz).ro.get iE_len hz
                  have r0 : wz.cell? ⟨op, oo + j, none⟩ = some (.int .i64 z) := by have := hoc 0 _ rfl; rwa [Nat.mul_one, Nat.add_zero] at this
                  have r1 : wz.cell? ⟨G, 1, none⟩ = some (.int .i64 x.id) := (H5.out.2.1.call hbz).2.2 1 _ rfl
                  have HZ : Hid ((idsQ L)[j]? = some z ∧ j < bn) := ⟨hz, hltj⟩
                  clear hj hnR hRR hbz hn9 hltj hz hoc HKa
                  by_cases hzi : z = x.id
                  · have zb : (z != x.id) = false := by rw [hzi]; simp
                    have HZI : Hid (((idsQ L).take (j + 1)).filter (fun z => decide (z ≠ x.id)) = ((idsQ L).take j).filter (fun z => decide (z ≠ x.id))) := (show ((idsQ L).take (j + 1)).filter (fun z => decide (z ≠ x.id)) = ((idsQ L).take j).filter (fun z => decide (z ≠ x.id)) from by rw [take_snoc HZ.out.1, List.filter_append, List.filter_cons_of_neg (by simp [hzi])]; simp)
                    clear hzi
                    go_wp2_with fail
                    go_roundw
                    case rel => exact ⟨j + 1, nR, aR, cR, by have := HZ.out.2; omega, rfl, by first | rfl | (congr 1), by rw [HZI.out]; exact HJ.out.2.1, by rw [HZI.out]; exact HJ.out.2.2.1, HJ.out.2.2.2.1⟩
                    case measure => simp [Go.RowKit.intOf]; omega
                  · have zb : (z != x.id) = true := bne_iff_ne.2 hzi
                    have HZI : Hid (((idsQ L).take (j + 1)).filter (fun z => decide (z ≠ x.id)) = ((idsQ L).take j).filter (fun z => decide (z ≠ x.id)) ++ [z]) := by rw [take_snoc HZ.out.1, List.filter_append, List.filter_cons_of_pos (by simp [hzi])]; rfl
                    clear hzi
                    obtain ⟨a', cap', w9, happ, hR9, hb9, -⟩ := row_app (B := w5.heap.size) (w0 := w5) infoI iE_len iE_one (by decide) (by decide) z (n := nR) HJ.out.2.1 (by have := HJ.out; omega) HJ.out.2.2.1 HJ.out.2.2.2.1 HJ.out.2.2.2.1.size 3
                    obtain ⟨n1, hn1⟩ : ∃ n1, n1 = nR + 1 := ⟨_, rfl⟩
                    have H9 : Hid (RowX iE 1 w9 (From w5.heap.size) a' (((idsQ L).take j).filter (fun z => decide (z ≠ x.id)) ++ [z]) cap' ∧ Below w5.heap.size w5 w9 ∧ n1 = nR + 1) := ⟨hR9, hb9, hn1⟩
                    rw [← hn1] at happ
                    clear hR9 hb9 hn1
                    go_wp2_with (at_builtin; refine wpList_append_run rfl _ _ 58 rfl rfl rfl happ ?_)
                    go_roundw
                    case rel => exact ⟨j + 1, n1, a', cap', by have := HZ.out.2; omega, rfl, by first | rfl | (congr 1), by rw [HZI.out, List.length_append, H9.out.2.2, HJ.out.2.1]; rfl, by rw [HZI.out]; exact H9.out.1, H9.out.2.1⟩
                    case measure => simp [Go.RowKit.intOf]; omega
                · have hge : ¬ ((j : Int) < (bn : Nat)) := by omega
                  have e : (idsQ L).take j = idsQ L := List.take_of_length_le (by rw [← HX.out.2.2.2.1]; omega)
                  rw [e, ← HL5.out.2.2.1] at hRR hnR
                  have hnm : nR = bm := by have := HL5.out.2.2.2.1; have := HBM.out; omega
                  subst hnm
                  have H6 : Hid (RowX iE 1 wz (fun j => (w5.heap.size ≤ j) ∧ ¬ D j) aR (idsQ L5) cR ∧ nR = (idsQ L5).length ∧ TQ w wz g g L5 (fun j => (S j ∨ w4.heap.size ≤ j) ∧ j < w5.heap.size) D aO (idsQ L) cO aD Dn cD ∧ Blk wz G (stE x) ∧ RowX rqE 2 wz (fun j => (W3.heap.size ≤ j ∧ j < w4.heap.size) ∧ ¬ D j) ba (waitQ L) bc) := ⟨hRR.mono (fun j _ hz => ⟨hz, fun c => absurd (H5.out.1.dl j c) (Nat.not_lt_of_le hz)⟩), hnR, H5.out.1.call hbz, H5.out.2.1.call hbz, H5.out.2.2.call hbz⟩
                  clear hj hnR hRR hbz hn9 hltj e HJ
                  go_wp2_with fail
                  refine HKa.out _ _ ?_
                  clear HKa
                  go_wp2_with fail
                  rename_i Kb hKb
                  have HKb : Hid _ := hKb
                  clear hKb
                  go_loopw [5, 80] (fun s5 jv wy => ∃ (j nE : Nat) (aE : Option Addr) (cE : Nat) (Dm : List Stq) (D6 : Nat → Prop), j ≤ bn ∧ s5 = .slice aE nE cE ∧ jv = .int .i64 (j : Nat) ∧ nE = Dm.length ∧ nE ≤ 10 * i + j ∧ RowX iE 1 wy (fun j => (w5.heap.size ≤ j) ∧ ¬ D6 j) aR (idsQ L5) cR ∧ TQ w wy g g L5 (fun j => (S j ∨ w4.heap.size ≤ j) ∧ j < w5.heap.size) D6 aO (idsQ L) cO aE Dm cE ∧ Blk wy G (stE x) ∧ ¬ D6 G ∧ RowX rqE 2 wy (fun j => (W3.heap.size ≤ j ∧ j < w4.heap.size) ∧ ¬ D6 j) ba (waitQ L) bc) (fun _ jv _ => bn - (Go.RowKit.intOf jv).toNat)
                  case atStart => exact ⟨0, nD, aD, cD, Dn, D, Nat.zero_le _, rfl, rfl, HX.out.2.2.2.2.1, by have := HX.out; omega, H6.out.1, H6.out.2.2.1, H6.out.2.2.2.1, H4.out.2.2.2.1, H6.out.2.2.2.2⟩
                  case round =>
                    obtain ⟨q, nE, aE, cE, Dm, D6, hq, rfl, rfl, hnE, hnE2, hre, hTe, hke, hge6, hbe⟩ := hrel
                    rename World => wy
                    have HV0 : Hid (q ≤ bn ∧ nE = Dm.length ∧ nE ≤ 10 * i + q ∧ RowX iE 1 wy (fun j => (w5.heap.size ≤ j) ∧ ¬ D6 j) aR (idsQ L5) cR ∧ TQ w wy g g L5 (fun j => (S j ∨ w4.heap.size ≤ j) ∧ j < w5.heap.size) D6 aO (idsQ L) cO aE Dm cE ∧ Blk wy G (stE x) ∧ ¬ D6 G ∧ RowX rqE 2 wy (fun j => (W3.heap.size ≤ j ∧ j < w4.heap.size) ∧ ¬ D6 j) ba (waitQ L) bc) := ⟨hq, hnE, hnE2, hre, hTe, hke, hge6, hbe⟩
                    have nE8 : (nE : Int) ≤ 3000 := by have := HX.out; omega
                    by_cases hltq : q < bn
                    · have hlt3 : (q : Int) < (bn : Nat) := by omega
                      obtain ⟨y, hy⟩ : ∃ y, (waitQ L)[q]? = some y := ⟨_, List.getElem?_eq_getElem (by rw [← idsQ_len, ← HX.out.2.2.2.1]; exact hltq)⟩
                      obtain ⟨yp, yo, rfl, hyc, -⟩ := hbe.get rqE_len hy
                      have r0 : wy.cell? ⟨yp, yo + q * 2, none⟩ = some (.int .i64 (y.id : Nat)) := hyc 0 _ rfl
                      have r1 : wy.cell? ⟨yp, yo + q * 2 + 1, none⟩ = some (.string y.m) := hyc 1 _ rfl
                      have HY : Hid ((waitQ L)[q]? = some y ∧ q < bn) := ⟨hy, hltq⟩
                      obtain ⟨W8, hW8⟩ : ∃ W8, W8 = wy.alloc (.cells #[.int .i64 (y.id : Nat), .string y.m] 31) := ⟨_, rfl⟩
                      obtain ⟨Y, hY8⟩ : ∃ Y, Y = wy.heap.size := ⟨_, rfl⟩
                      have HW8 : Hid (W8 = wy.alloc (.cells #[.int .i64 (y.id : Nat), .string y.m] 31) ∧ Y = wy.heap.size) := ⟨hW8, hY8⟩
                      have hb8 : Below wy.heap.size wy W8 := by rw [hW8]; exact below_alloc0 (Below.refl _ _) _
                      have HV : Hid (RowX iE 1 W8 (fun j => (w5.heap.size ≤ j) ∧ ¬ D6 j) aR (idsQ L5) cR ∧ TQ w W8 g g L5 (fun j => (S j ∨ w4.heap.size ≤ j) ∧ j < w5.heap.size) D6 aO (idsQ L) cO aE Dm cE ∧ Blk W8 G (stE x) ∧ ¬ D6 G ∧ RowX rqE 2 W8 (fun j => (W3.heap.size ≤ j ∧ j < w4.heap.size) ∧ ¬ D6 j) (some ⟨yp, yo, none⟩) (waitQ L) bc ∧ Blk W8 Y [.int .i64 (y.id : Nat), .string y.m]) := ⟨hre.call hb8, hTe.call hb8, hke.call hb8, hge6, hbe.call hb8, by rw [hW8, hY8]; exact Blk.new wy [.int .i64 (y.id : Nat), .string y.m] 31⟩
                      have z0 : W8.cell? ⟨Y, 0, none⟩ = some (.int .i64 (y.id : Nat)) := HV.out.2.2.2.2.2.2.2 0 _ rfl
                      have z1 : W8.cell? ⟨Y, 1, none⟩ = some (.string y.m) := HV.out.2.2.2.2.2.2.2 1 _ rfl
                      have z2 : W8.cell? ⟨G, 1, none⟩ = some (.int .i64 x.id) := HV.out.2.2.1.2.2 1 _ rfl
                      have t0 : W8.cell? ⟨G, 3, none⟩ = some (.int .u64 x.S.x0) := HV.out.2.2.1.2.2 3 _ rfl
                      have t1 : W8.cell? ⟨G, 4, none⟩ = some (.int .u64 x.S.x1) := HV.out.2.2.1.2.2 4 _ rfl
                      have t2 : W8.cell? ⟨G, 5, none⟩ = some (.int .u64 x.S.x2) := HV.out.2.2.1.2.2 5 _ rfl
                      have t3 : W8.cell? ⟨G, 6, none⟩ = some (.int .u64 x.S.x3) := HV.out.2.2.1.2.2 6 _ rfl
                      have t4 : W8.cell? ⟨G, 7, none⟩ = some (.int .u64 x.S.x4) := HV.out.2.2.1.2.2 7 _ rfl
                      have t5 : W8.cell? ⟨G, 8, none⟩ = some (.int .u64 x.S.x5) := HV.out.2.2.1.2.2 8 _ rfl
                      have t6 : W8.cell? ⟨G, 9, none⟩ = some (.int .u64 x.S.x6) := HV.out.2.2.1.2.2 9 _ rfl
                      have t7 : W8.cell? ⟨G, 10, none⟩ = some (.int .u64 x.S.x7) := HV.out.2.2.1.2.2 10 _ rfl
                      have t8 : W8.cell? ⟨G, 11, none⟩ = some (.bool x.S.i) := HV.out.2.2.1.2.2 11 _ rfl
                      have t9 : W8.cell? ⟨G, 12, none⟩ = some (.int .u64 x.S.x8) := HV.out.2.2.1.2.2 12 _ rfl
                      have t10 : W8.cell? ⟨G, 13, none⟩ = some (.int .u64 x.S.x9) := HV.out.2.2.1.2.2 13 _ rfl
                      have t11 : W8.cell? ⟨G, 14, none⟩ = some (.int .u64 x.S.x10) := HV.out.2.2.1.2.2 14 _ rfl
                      have t12 : W8.cell? ⟨G, 15, none⟩ = some (.int .u64 x.S.x11) := HV.out.2.2.1.2.2 15 _ rfl
                      clear hq hnE hnE2 hre hTe hke hge6 hbe hltq hy hyc hW8 hY8 hb8 HKb
                      go_upto_region 24 with fail
                      rw [← HW8.out.1, ← HW8.out.2]
                      clear HW8 r0 r1
                      by_cases hyi : (y.id : Int) = x.id
                      · rw [hyi] at z0
                        have hyy : y0 = y := by
                          have := lookQ_self H4.out.1.q.ok.ap (waitQ_mem (List.mem_of_getElem? HY.out.1)).1
                          rw [hyi, HL5.out.2.2.2.2.1] at this
                          exact Option.some.inj this
                        obtain ⟨a', cap', w9, happ, hT9, hO9⟩ := HV.out.2.1.appD (te := 40) (n := nE) (⟨0, x.id, y.m, x.S⟩ : Stq) HV0.out.2.1 (by have := HV0.out; have := HX.out; omega) (HV.out.2.1.dn.snoc HL5.out.2.2.2.2.2 rfl (by rw [hyy]; exact hyi) (by rw [hyy]) rfl)
                        obtain ⟨n1, hn1⟩ : ∃ n1, n1 = nE + 1 := ⟨_, rfl⟩
                        have H9 : Hid (n1 = nE + 1 ∧ RowX iE 1 w9 (fun j => (w5.heap.size ≤ j) ∧ ¬ ((D6 j ∨ W8.heap.size ≤ j) ∧ j < w9.heap.size)) aR (idsQ L5) cR ∧ TQ w w9 g g L5 (fun j => (S j ∨ w4.heap.size ≤ j) ∧ j < w5.heap.size) (fun j => (D6 j ∨ W8.heap.size ≤ j) ∧ j < w9.heap.size) aO (idsQ L) cO a' (Dm ++ [(⟨0, x.id, y.m, x.S⟩ : Stq)]) cap' ∧ Blk w9 G (stE x) ∧ ¬ ((D6 G ∨ W8.heap.size ≤ G) ∧ G < w9.heap.size) ∧ RowX rqE 2 w9 (fun j => (W3.heap.size ≤ j ∧ j < w4.heap.size) ∧ ¬ ((D6 j ∨ W8.heap.size ≤ j) ∧ j < w9.heap.size)) (some ⟨yp, yo, none⟩) (waitQ L) bc) := ⟨hn1, HV.out.1.offD hO9, hT9, HV.out.2.2.1.off hO9 (fun c => c.elim HV.out.2.2.2.1 (fun c => by have := HV.out.2.2.1.1; omega)), fun c => c.1.elim HV.out.2.2.2.1 (fun c => by have := HV.out.2.2.1.1; omega), HV.out.2.2.2.2.1.offD hO9⟩
                        rw [← hn1] at happ
                        clear hT9 hO9 hn1 hyi hyy
                        go_wp2_with (first | ((with_reducible refine wpl_bst (x := 91) (y := 93) x.id y.m x.S ?_ ?_ ?_ ?_ ?_); rfl; rfl; rfl; rfl) | ((with_reducible refine wpl_bs1 infoSt (by decide) (by decide) (x := 94) (cs := stE (⟨0, x.id, y.m, x.S⟩ : Stq)) ?_ ?_ ?_ ?_ ?_); rfl; rfl; rfl; rfl) | (at_builtin; refine wpList_append_run rfl _ _ 22 rfl rfl rfl happ ?_))
                        go_roundw
                        case rel => exact ⟨q + 1, n1, a', cap', _, _, by have := HY.out.2; omega, rfl, by first | rfl | (congr 1), by rw [List.length_append, H9.out.1, HV0.out.2.1]; rfl, by have := HV0.out.2.2.1; have := H9.out.1; omega, H9.out.2.1, H9.out.2.2.1, H9.out.2.2.2.1, H9.out.2.2.2.2.1, H9.out.2.2.2.2.2⟩
                        case measure => simp [Go.RowKit.intOf]; omega
                      · have yb : ((y.id : Int) == x.id) = false := beq_eq_false_iff_ne.2 hyi
                        clear hyi
                        go_wp2_with fail
                        go_roundw
                        case rel => exact ⟨q + 1, nE, aE, cE, Dm, D6, by have := HY.out.2; omega, rfl, by first | rfl | (congr 1), HV0.out.2.1, by have := HV0.out.2.2.1; omega, HV.out.1, HV.out.2.1, HV.out.2.2.1, HV.out.2.2.2.1, HV.out.2.2.2.2.1⟩
                        case measure => simp [Go.RowKit.intOf]; omega
                    · have hge7 : ¬ ((q : Int) < (bn : Nat)) := by omega
                      have HE : Hid (KJ w wy g (i + 1) (.slice aR nR cR) (.slice aE nE cE)) := ⟨L5, _, D6, aR, cR, nR, aE, cE, nE, Dm, rfl, rfl, hTe.newO (M := w5.heap.size) (hre.mono (fun j _ hz => ⟨hz.1, fun c => absurd c.2 (Nat.not_lt_of_le hz.1), hz.2⟩)) H5.out.1.hB, H6.out.2.1, hnE, by have := HX.out; omega, HL5.out.2.1⟩
                      clear hq hnE hnE2 hre hTe hke hge6 hbe hltq
                      go_wp2_with fail
                      refine HKb.out _ _ ?_
                      clear HKb
                      go_wp2_with fail
                      go_meet
                      exact HE.out
            · have hfin : finR L x.id x.S = (6, L) := by
                unfold finR
                cases e : lookQ L x.id with
                | none => rfl
                | some y =>
                  cases hd : y.d with
                  | true => simp [hd]
                  | false => exact absurd ⟨y, e, hd⟩ hw
              have hF := finish_any g x.id x.S (fun k => S k ∨ w4.heap.size ≤ k) L w4 (fun k hk => .inr hk) (H4.out.1.q.mono (fun k _ hk => .inl hk)) HX.out.2.2.1 (by have := HX.out; omega)
              rw [hfin] at hF
              have KF : Hid (Calls Try.prog 11 #[.pointer (some ⟨g, 0, none⟩), .int .i64 x.id, .agg #[.int .u64 x.S.x0, .int .u64 x.S.x1, .int .u64 x.S.x2, .int .u64 x.S.x3, .int .u64 x.S.x4, .int .u64 x.S.x5, .int .u64 x.S.x6, .int .u64 x.S.x7, .bool x.S.i, .int .u64 x.S.x8, .int .u64 x.S.x9, .int .u64 x.S.x10, .int .u64 x.S.x11]] w4 fun e w' => e = .returned (.int .i64 6) ∧ TQ w w' g g L (fun j => (S j ∨ w4.heap.size ≤ j) ∧ j < w'.heap.size) D aO (idsQ L) cO aD Dn cD) := hF.mono (fun e w' h => ⟨h.1, H4.out.1.qop h.2.1 h.2.2 H4.out.1.dn⟩)
              clear hfin hF hw
              go_wp2_with fail
              refine KF.out.mono ?_
              rintro e w5 ⟨rfl, hT5⟩
              have HE : Hid (KJ w w5 g (i + 1) (.slice aO bn cO) (.slice aD nD cD)) := ⟨L, _, D, aO, cO, bn, aD, cD, nD, Dn, rfl, rfl, hT5, HX.out.2.2.2.1, HX.out.2.2.2.2.1, by have := HX.out; omega, by have := HX.out; omega⟩
              clear hT5
              go_wp2_with fail
              go_meet
              exact HE.out
        · have xb2 : (x.X == 2) = false := beq_eq_false_iff_ne.2 hX
          clear hX
          as_aux_lemma =>
            have hsc := subs_cases L x.id x.m H4.out.1.q.ok
            obtain ⟨v, hv⟩ : ∃ v, v = (subR L x.id x.m).1 := ⟨_, rfl⟩
            obtain ⟨V, hV⟩ : ∃ V, V = (subR L x.id x.m).2.1 := ⟨_, rfl⟩
            obtain ⟨L5, hL5⟩ : ∃ L5, L5 = (subR L x.id x.m).2.2 := ⟨_, rfl⟩
            rw [← hv, ← hL5] at hsc
            have hSu := submit_any g x.id x.m (fun k => S k ∨ w4.heap.size ≤ k) L w4 (fun k hk => .inr hk) (H4.out.1.q.mono (fun k _ hk => .inl hk)) HX.out.2.2.1 HX.out.2.1 (by have := HX.out; omega)
            rw [← hv, ← hV, ← hL5] at hSu
            have HL5 : Hid (DnI L5 Dn ∧ L5.length ≤ i + 1) := ⟨by rw [hL5]; exact H4.out.1.dn.sub sub_keeps, by rw [hL5]; exact Nat.le_trans subR_len (by have := HX.out; omega)⟩
            have KS : Hid (Calls Try.prog 9 #[.pointer (some ⟨g, 0, none⟩), .agg #[.int .i64 x.id, .string x.m]] w4 fun e w' => e = .returned (.tuple #[.int .i64 v, .agg #[.int .u64 V.x0, .int .u64 V.x1, .int .u64 V.x2, .int .u64 V.x3, .int .u64 V.x4, .int .u64 V.x5, .int .u64 V.x6, .int .u64 V.x7, .bool V.i, .int .u64 V.x8, .int .u64 V.x9, .int .u64 V.x10, .int .u64 V.x11]]) ∧ TQ w w' g g L5 (fun j => (S j ∨ w4.heap.size ≤ j) ∧ j < w'.heap.size) D aO (idsQ L) cO aD Dn cD ∧ Blk w' G (stE x)) := hSu.mono (fun e w' h => ⟨h.1, H4.out.1.qop h.2.1 h.2.2 HL5.out.1, H4.out.2.1.off h.2.2 (fun c => c.elim H4.out.2.2.1 (fun c => by have := H4.out.2.1.1; omega))⟩)
            have hbw : bn = (waitQ L).length := by rw [← idsQ_len]; exact HX.out.2.2.2.1
            obtain ⟨b1, hb1⟩ : ∃ b1, b1 = bn + 1 := ⟨_, rfl⟩
            have p1 : (bn : Int) + 1 = (b1 : Nat) := by omega
            have p2 : (b1 : Int) ≤ 9 := by omega
            clear hSu hv hV hL5
            rcases hsc with ⟨hsame, h2⟩ | ⟨h1, h2, h3⟩
            · have q1 : ((bn : Int) == (b1 : Int)) = false := beq_eq_false_iff_ne.2 (by omega)
              have q2 : ((bn : Int) != (bn : Int)) = false := by simp
              have q3 : (v == 2) = true → ((bn : Int) != 8) = false := fun c => by
                have : v = 2 := by simpa using c
                have := h2 this
                rw [bne_eq_false_iff_eq]
                omega
              have HQ3 : Hid ((v == 2) = true → ((bn : Int) != 8) = false) := q3
              have HBW : Hid (bn = (waitQ L).length ∧ L5 = L) := ⟨hbw, hsame⟩
              clear h2 hbw hb1 hsame q3
              go_wp2_with fail
              refine KS.out.mono ?_
              rintro e w5 ⟨rfl, hT5, -⟩
              have H5 : Hid (TQ w w5 g g L5 (fun j => (S j ∨ w4.heap.size ≤ j) ∧ j < w5.heap.size) D aO (idsQ L) cO aD Dn cD) := hT5
              clear hT5
              go_wp2_with fail
              refine (waiting_in g _ L5 _ (H5.out.q.call (below_alloc0 (Below.refl _ _) _))).mono ?_
              rintro e w7 ⟨aa, an, ac, rfl, han, -, hb7⟩
              have han' : an = bn := by rw [han, HBW.out.2, HBW.out.1]
              subst han'
              have H7 : Hid (TQ w w7 g g L5 (fun j => (S j ∨ w4.heap.size ≤ j) ∧ j < w5.heap.size) D aO (idsQ L) cO aD Dn cD) := (H5.out.call (below_alloc0 (Below.refl _ _) _)).call hb7
              clear han hb7
              have HE : Hid (KJ w w7 g (i + 1) (.slice aO an cO) (.slice aD nD cD)) := ⟨L5, _, D, aO, cO, an, aD, cD, nD, Dn, rfl, rfl, by rw [HBW.out.2] at H7 ⊢; exact H7.out, by rw [HBW.out.2]; exact HX.out.2.2.2.1, HX.out.2.2.2.2.1, by have := HX.out; omega, HL5.out.2⟩
              by_cases v1 : v = 1
              · have vb1 : (v == 1) = true := by rw [v1]; rfl
                have vb2 : (v == 2) = false := by rw [v1]; rfl
                clear v1
                go_wp2_with fail
                go_meet
                exact HE.out
              · have vb1 : (v == 1) = false := beq_eq_false_iff_ne.2 v1
                clear v1
                by_cases v2 : v = 2
                · have vb2 : (v == 2) = true := by rw [v2]; rfl
                  have q4 := HQ3.out vb2
                  clear v2
                  go_wp2_with fail
                  go_meet
                  exact HE.out
                · have vb2 : (v == 2) = false := beq_eq_false_iff_ne.2 v2
                  clear v2
                  go_wp2_with fail
                  go_meet
                  exact HE.out
            · have vb1 : (v == 1) = true := by rw [h1]; rfl
              have vb2 : (v == 2) = false := by rw [h1]; rfl
              have q2 : ((b1 : Int) == (b1 : Int)) = true := by simp
              have HBW : Hid (b1 = (waitQ L5).length ∧ b1 = bn + 1 ∧ idsQ L5 = idsQ L ++ [x.id]) := ⟨by omega, hb1, h3⟩
              clear h1 h2 h3 hbw hb1
              go_wp2_with fail
              refine KS.out.mono ?_
              rintro e w5 ⟨rfl, hT5, hk5⟩
              have H5 : Hid (TQ w w5 g g L5 (fun j => (S j ∨ w4.heap.size ≤ j) ∧ j < w5.heap.size) D aO (idsQ L) cO aD Dn cD ∧ Blk w5 G (stE x)) := ⟨hT5, hk5⟩
              clear hT5 hk5
              go_wp2_with fail
              refine (waiting_in g _ L5 _ (H5.out.1.q.call (below_alloc0 (Below.refl _ _) _))).mono ?_
              rintro e w7 ⟨aa, an, ac, rfl, han, -, hb7⟩
              have han' : an = b1 := by rw [han, HBW.out.1]
              subst han'
              have H7 : Hid (TQ w w7 g g L5 (fun j => (S j ∨ w4.heap.size ≤ j) ∧ j < w5.heap.size) D aO (idsQ L) cO aD Dn cD ∧ Blk w7 G (stE x)) := ⟨(H5.out.1.call (below_alloc0 (Below.refl _ _) _)).call hb7, (H5.out.2.call (below_alloc0 (Below.refl _ _) _)).call hb7⟩
              obtain ⟨a', cap', w9, happ, hT9⟩ := H7.out.1.appO (te := 3) (n := bn) x.id HX.out.2.2.2.1 (by have := HX.out; omega)
              rw [← HBW.out.2.1] at happ
              have i7 : w7.cell? ⟨G, 1, none⟩ = some (.int .i64 x.id) := H7.out.2.2.2 1 _ rfl
              have HE : Hid (KJ w w9 g (i + 1) (.slice a' an cap') (.slice aD nD cD)) := ⟨L5, _, D, a', cap', an, aD, cD, nD, Dn, rfl, rfl, by rw [HBW.out.2.2]; exact hT9, by rw [idsQ_len]; exact HBW.out.1, HX.out.2.2.2.2.1, by have := HX.out; omega, HL5.out.2⟩
              clear han hb7 hT9
              go_wp2_with (at_builtin; refine wpList_append_run rfl _ _ 58 rfl rfl rfl happ ?_)
              go_meet
              exact HE.out
      case rest =>
        rename World => w5
        as_aux_lemma =>
          clear H3 H4 g0 g1 g2 gs3 gs4 gs5 gs6 gs7 gs8 gs9 gs10 gs11 gs12 gs13 gs14 gs15
          obtain ⟨L', S', D', aO', cO', nO', aD', cD', nD', Dn', rfl, rfl, hT, hnO, hnD, hnb, hLl⟩ := hcut
          have n9 := n8_of hT.q.ok
          have H5 : Hid (TQ w w5 g g L' S' D' aO' (idsQ L') cO' aD' Dn' cD' ∧ nO' = (idsQ L').length ∧ nD' = Dn'.length ∧ nD' ≤ 10 * (i + 1) ∧ L'.length ≤ i + 1 ∧ nO' ≤ 8) := ⟨hT, hnO, hnD, hnb, hLl, by omega⟩
          have m8 : (nO' : Int) ≤ 8 := by omega
          have m9 : ¬ ((8 : Int) < (nO' : Nat)) := by omega
          have md : (nD' : Int) ≤ 3000 := by have := HX.out; omega
          clear hT hnO hnD hnb hLl n9
          go_wp2_with fail
          refine (waiting_in g S' L' w5 H5.out.1.q).mono ?_
          rintro e w6 ⟨wa, wn, wc, rfl, hwn, hwr, hb6⟩
          have hwn' : wn = nO' := by rw [hwn, H5.out.2.1, idsQ_len]
          subst hwn'
          have H6 : Hid (TQ w w6 g g L' S' D' aO' (idsQ L') cO' aD' Dn' cD' ∧ RowX rqE 2 w6 (From w5.heap.size) wa (waitQ L') wc) := ⟨H5.out.1.call hb6, hwr⟩
          have b1 : ((wn : Int) != (wn : Int)) = false := by simp
          clear hwn hwr hb6
          go_wp2_with fail
          rename_i Kq hKq
          have HKq : Hid _ := hKq
          clear hKq
          go_loopw [150] (fun jv wz => ∃ j : Nat, j ≤ wn ∧ jv = .int .i64 (j : Nat) ∧ wz = w6) (fun jv _ => wn - (Go.RowKit.intOf jv).toNat)
          case atStart => exact ⟨0, Nat.zero_le _, rfl, (by first | rfl | trivial)⟩
          case round =>
            obtain ⟨j, hj, rfl, hwz⟩ := hrel
            rename World => wz
            subst hwz
            by_cases hltj : j < wn
            · have hlt2 : (j : Int) < (wn : Nat) := by omega
              obtain ⟨y, hy⟩ : ∃ y, (waitQ L')[j]? = some y := ⟨_, List.getElem?_eq_getElem (by rw [← idsQ_len, ← H5.out.2.1]; exact hltj)⟩
              have hyi : (idsQ L')[j]? = some (y.id : Int) := by unfold idsQ; rw [List.getElem?_map, hy]; rfl
              obtain ⟨op, oo, rfl, hoc, -⟩ := H6.out.1.ro.get iE_len hyi
              obtain ⟨wp, wo, rfl, hwc, -⟩ := H6.out.2.get rqE_len hy
              have r0 : wz.cell? ⟨op, oo + j, none⟩ = some (.int .i64 (y.id : Nat)) := by have := hoc 0 _ rfl; rwa [Nat.mul_one, Nat.add_zero] at this
              have r1 : wz.cell? ⟨wp, wo + j * 2, none⟩ = some (.int .i64 (y.id : Nat)) := hwc 0 _ rfl
              have b2 : ((y.id : Int) != (y.id : Int)) = false := by simp
              have HJ : Hid (j < wn) := hltj
              clear hj hltj hy hyi hoc hwc HKq
              go_wp2_with fail
              go_roundw
              case rel => exact ⟨j + 1, by have := HJ.out; omega, by first | rfl | (congr 1), (by first | rfl | trivial)⟩
              case measure => simp [Go.RowKit.intOf]; omega
            · have hge : ¬ ((j : Int) < (wn : Nat)) := by omega
              clear hj hltj
              go_wp2_with fail
              refine HKq.out _ _ ?_
              clear HKq
              go_wp2_with fail
              rename_i Kp hKp
              have HKp : Hid _ := hKp
              clear hKp
              go_loopw [165] (fun jv wz => ∃ (j : Nat) (S7 : Nat → Prop), j ≤ nD' ∧ jv = .int .i64 (j : Nat) ∧ TQ w wz g g L' S7 D' aO' (idsQ L') cO' aD' Dn' cD') (fun jv _ => nD' - (Go.RowKit.intOf jv).toNat)
              case atStart => exact ⟨0, S', Nat.zero_le _, rfl, H6.out.1⟩
              case round =>
                obtain ⟨q, S7, hq, rfl, hT7⟩ := hrel
                rename World => w7
                by_cases hltq : q < nD'
                · have hlt3 : (q : Int) < (nD' : Nat) := by omega
                  obtain ⟨d, hd⟩ : ∃ d, Dn'[q]? = some d := ⟨_, List.getElem?_eq_getElem (by rw [← H5.out.2.2.1]; exact hltq)⟩
                  obtain ⟨dp, dO, rfl, hdc, -⟩ := hT7.rd.get stE_len hd
                  have hdm := List.mem_of_getElem? hd
                  have hsub := dn_sub hT7.q.ok hT7.dn hdm
                  have k0 : w7.cell? ⟨dp, dO + q * 16, none⟩ = some (.int .i64 d.X) := hdc 0 _ rfl
                  have k1 : w7.cell? ⟨dp, dO + q * 16 + 1, none⟩ = some (.int .i64 d.id) := hdc 1 _ rfl
                  have k2 : w7.cell? ⟨dp, dO + q * 16 + 2, none⟩ = some (.string d.m) := hdc 2 _ rfl
                  have k3 : w7.cell? ⟨dp, dO + q * 16 + 3, none⟩ = some (.int .u64 d.S.x0) := hdc 3 _ rfl
                  have k4 : w7.cell? ⟨dp, dO + q * 16 + 4, none⟩ = some (.int .u64 d.S.x1) := hdc 4 _ rfl
                  have k5 : w7.cell? ⟨dp, dO + q * 16 + 5, none⟩ = some (.int .u64 d.S.x2) := hdc 5 _ rfl
                  have k6 : w7.cell? ⟨dp, dO + q * 16 + 6, none⟩ = some (.int .u64 d.S.x3) := hdc 6 _ rfl
                  have k7 : w7.cell? ⟨dp, dO + q * 16 + 7, none⟩ = some (.int .u64 d.S.x4) := hdc 7 _ rfl
                  have k8 : w7.cell? ⟨dp, dO + q * 16 + 8, none⟩ = some (.int .u64 d.S.x5) := hdc 8 _ rfl
                  have k9 : w7.cell? ⟨dp, dO + q * 16 + 9, none⟩ = some (.int .u64 d.S.x6) := hdc 9 _ rfl
                  have k10 : w7.cell? ⟨dp, dO + q * 16 + 10, none⟩ = some (.int .u64 d.S.x7) := hdc 10 _ rfl
                  have k11 : w7.cell? ⟨dp, dO + q * 16 + 11, none⟩ = some (.bool d.S.i) := hdc 11 _ rfl
                  have k12 : w7.cell? ⟨dp, dO + q * 16 + 12, none⟩ = some (.int .u64 d.S.x8) := hdc 12 _ rfl
                  have k13 : w7.cell? ⟨dp, dO + q * 16 + 13, none⟩ = some (.int .u64 d.S.x9) := hdc 13 _ rfl
                  have k14 : w7.cell? ⟨dp, dO + q * 16 + 14, none⟩ = some (.int .u64 d.S.x10) := hdc 14 _ rfl
                  have k15 : w7.cell? ⟨dp, dO + q * 16 + 15, none⟩ = some (.int .u64 d.S.x11) := hdc 15 _ rfl
                  obtain ⟨W8, hW8⟩ : ∃ W8, W8 = w7.alloc (.cells #[.int .i64 d.X, .int .i64 d.id, .string d.m, .int .u64 d.S.x0, .int .u64 d.S.x1, .int .u64 d.S.x2, .int .u64 d.S.x3, .int .u64 d.S.x4, .int .u64 d.S.x5, .int .u64 d.S.x6, .int .u64 d.S.x7, .bool d.S.i, .int .u64 d.S.x8, .int .u64 d.S.x9, .int .u64 d.S.x10, .int .u64 d.S.x11] 40) := ⟨_, rfl⟩
                  obtain ⟨Y, hY⟩ : ∃ Y, Y = w7.heap.size := ⟨_, rfl⟩
                  have HW8 : Hid (W8 = w7.alloc (.cells #[.int .i64 d.X, .int .i64 d.id, .string d.m, .int .u64 d.S.x0, .int .u64 d.S.x1, .int .u64 d.S.x2, .int .u64 d.S.x3, .int .u64 d.S.x4, .int .u64 d.S.x5, .int .u64 d.S.x6, .int .u64 d.S.x7, .bool d.S.i, .int .u64 d.S.x8, .int .u64 d.S.x9, .int .u64 d.S.x10, .int .u64 d.S.x11] 40) ∧ Y = w7.heap.size) := ⟨hW8, hY⟩
                  have hb8 : Below w7.heap.size w7 W8 := by rw [hW8]; exact below_alloc0 (Below.refl _ _) _
                  obtain ⟨e0, he0, -, hei, hem, -⟩ := hT7.dn d hdm
                  have hei2 := hT7.q.ok.id1 e0 he0
                  have hem2 := hT7.q.ok.ms e0 he0
                  rw [hem] at hem2
                  have H8 : Hid (TQ w W8 g g L' S7 D' aO' (idsQ L') cO' (some ⟨dp, dO, none⟩) Dn' cD' ∧ Blk W8 Y (stE d) ∧ ¬ S7 Y ∧ q < nD' ∧ subR L' d.id d.m = (4, d.S, L') ∧ L'.length < 10000 ∧ d.m.size ≤ 4096 ∧ 1 ≤ d.id ∧ d.id ≤ 1099511627776) := ⟨hT7.call hb8, by rw [hW8, hY]; exact Blk.new w7 (stE d) 40, fun c => by have := hT7.sl _ c; omega, hltq, hsub, by have := HX.out; have := H5.out.2.2.2.2.1; omega, hem2, by omega, by omega⟩
                  have z1 : W8.cell? ⟨Y, 1, none⟩ = some (.int .i64 d.id) := H8.out.2.1.2.2 1 _ rfl
                  have z2 : W8.cell? ⟨Y, 2, none⟩ = some (.string d.m) := H8.out.2.1.2.2 2 _ rfl
                  have hns := neq_sgK d.S
                  clear hT7 hq hltq hd hdc hdm hsub hW8 hY hb8 he0 hei hem hei2 hem2 HKp
                  go_upto_region 48 with fail
                  rw [← HW8.out.1, ← HW8.out.2]
                  clear HW8 k0 k1 k2 k3 k4 k5 k6 k7 k8 k9 k10 k11 k12 k13 k14 k15
                  go_wp2_with fail
                  refine (submit_any g d.id d.m (fun k => S7 k ∨ W8.heap.size ≤ k) L' W8 (fun k hk => .inr hk) (H8.out.1.q.mono (fun k _ hk => .inl hk)) (by have := H8.out; omega) (by have := H8.out; omega) H8.out.2.2.2.2.2.1).mono ?_
                  rintro e w9 ⟨rfl, hQ9, hO9⟩
                  rw [H8.out.2.2.2.2.1] at hQ9 ⊢
                  have hk9 := H8.out.2.1.off hO9 (fun c => c.elim H8.out.2.2.1 (fun c => by have := H8.out.2.1.1; omega))
                  have H9 : Hid (TQ w w9 g g L' (fun j => (S7 j ∨ W8.heap.size ≤ j) ∧ j < w9.heap.size) D' aO' (idsQ L') cO' (some ⟨dp, dO, none⟩) Dn' cD') := H8.out.1.qop hQ9 hO9 H8.out.1.dn
                  have yl : Y < w9.heap.size := hk9.1
                  have v3 : w9.cell? ⟨Y, 3, none⟩ = some (.int .u64 d.S.x0) := hk9.2.2 3 _ rfl
                  have v4 : w9.cell? ⟨Y, 4, none⟩ = some (.int .u64 d.S.x1) := hk9.2.2 4 _ rfl
                  have v5 : w9.cell? ⟨Y, 5, none⟩ = some (.int .u64 d.S.x2) := hk9.2.2 5 _ rfl
                  have v6 : w9.cell? ⟨Y, 6, none⟩ = some (.int .u64 d.S.x3) := hk9.2.2 6 _ rfl
                  have v7 : w9.cell? ⟨Y, 7, none⟩ = some (.int .u64 d.S.x4) := hk9.2.2 7 _ rfl
                  have v8 : w9.cell? ⟨Y, 8, none⟩ = some (.int .u64 d.S.x5) := hk9.2.2 8 _ rfl
                  have v9 : w9.cell? ⟨Y, 9, none⟩ = some (.int .u64 d.S.x6) := hk9.2.2 9 _ rfl
                  have v10 : w9.cell? ⟨Y, 10, none⟩ = some (.int .u64 d.S.x7) := hk9.2.2 10 _ rfl
                  have v11 : w9.cell? ⟨Y, 11, none⟩ = some (.bool d.S.i) := hk9.2.2 11 _ rfl
                  have v12 : w9.cell? ⟨Y, 12, none⟩ = some (.int .u64 d.S.x8) := hk9.2.2 12 _ rfl
                  have v13 : w9.cell? ⟨Y, 13, none⟩ = some (.int .u64 d.S.x9) := hk9.2.2 13 _ rfl
                  have v14 : w9.cell? ⟨Y, 14, none⟩ = some (.int .u64 d.S.x10) := hk9.2.2 14 _ rfl
                  have v15 : w9.cell? ⟨Y, 15, none⟩ = some (.int .u64 d.S.x11) := hk9.2.2 15 _ rfl
                  clear hQ9 hO9 hk9 z1 z2
                  go_wp2_with fail
                  go_roundw
                  case rel => exact ⟨q + 1, _, by have := H8.out.2.2.2.1; omega, by first | rfl | (congr 1), H9.out.call (below_alloc0 (Below.refl _ _) _)⟩
                  case measure => simp [Go.RowKit.intOf]; omega
                · have hge2 : ¬ ((q : Int) < (nD' : Nat)) := by omega
                  have HB : Hid (KJ w w7 g (i + 1) (.slice aO' wn cO') (.slice aD' nD' cD')) := ⟨L', S7, D', aO', cO', wn, aD', cD', nD', Dn', rfl, rfl, hT7, H5.out.2.1, H5.out.2.2.1, H5.out.2.2.2.1, H5.out.2.2.2.2.1⟩
                  clear hT7 hq hltq HKr
                  go_wp2_with fail
                  clear HKp
                  go_roundw
                  case rel => exact ⟨i + 1, by have := HX.out.1; omega, by first | rfl | (congr 1), HB.out⟩
                  case measure => simp [Go.RowKit.intOf]; omega
    · have hge : ¬ ((i : Int) < (len : Nat)) := by omega
      have H2 : Hid (Below g w wr ∧ g ≤ wr.heap.size) := ⟨hT.hb, hT.hB⟩
      clear hi hlt hT hnO hnD hnb hLl
      go_wp2_with fail
      refine HKr.out _ _ ?_
      clear HKr
      go_wp2_with fail
      refine (four_any _).mono ?_
      rintro e w9 ⟨rfl, hb9⟩
      have H9 : Hid (Below g w w9) := H2.out.1.trans (hb9.mono H2.out.2)
      clear hb9
      go_wp2_with fail
      go_ret
      exact ⟨rfl, by rw [← HG.out]; exact H9.out⟩
set_option maxRecDepth 100000 in
set_option maxHeartbeats 8000000 in
theorem keeps_far (len cl : Nat) (ad : Option Addr) (w : World) (h : 200 < len) : Calls Try.prog 4 #[.slice ad len cl] w fun e w' => e = .returned (.bool true) ∧ Below w.heap.size w w' := by
  have KN : Hid (Calls Try.prog 7 #[] w fun e w' => e = .returned (.pointer (some ⟨w.heap.size, 0, none⟩)) ∧ QI w' (From w.heap.size) w.heap.size [] ∧ Below w.heap.size w w') := qnew_in (From w.heap.size) w (fun k hk => hk)
  have l1 : (200 : Int) < (len : Nat) := by omega
  clear h
  go_enter Try.func4, Try.ntmps4
  go_wp2_with fail
  refine KN.out.mono ?_
  rintro e w1 ⟨rfl, -, hb1⟩
  have H1 : Hid (Below w.heap.size w w1) := hb1
  clear hb1
  go_wp2_with fail
  refine (four_any _).mono ?_
  rintro e w9 ⟨rfl, hb9⟩
  have H9 : Hid (Below w.heap.size w w9) := H1.out.trans (hb9.mono H1.out.size)
  clear hb9
  go_wp2_with fail
  go_ret
  exact ⟨rfl, H9.out⟩
theorem queueKeeps_any (len cl : Nat) (ad : Option Addr) (w : World) (hS : StepsQ w ad len) : Calls Try.prog 4 #[.slice ad len cl] w fun e w' => e = .returned (.bool true) ∧ Below w.heap.size w w' := by
  by_cases h : len ≤ 200
  · exact keeps_main len cl ad w hS h
  · exact keeps_far len cl ad w (by omega)
end Go.Proofs.Ytolhkpgpcbebiaa
