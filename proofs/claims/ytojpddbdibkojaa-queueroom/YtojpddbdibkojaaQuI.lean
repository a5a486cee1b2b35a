/- The law QueueRoom. -/
import Derived.Test.YtojpddbdibkojaaQuH
import Derived.Test.YtojpddbdibkojaaPiA
import Derived.Deep.CutBlock
namespace Go.Proofs.Ytojpddbdibkojaa
open Go Go.RowKit Go.Lib
def RmI (w : World) (B g : Nat) (m : ByteArray) (wr : World) (a : Option Addr) (n cap : Nat) (L : List Qe) (S : Nat → Prop) : Prop := OnQ iE 1 w wr B g L S a (idsQ L) cap ∧ AllM m L ∧ n = (idsQ L).length
theorem RmI.cell {w wr : World} {B g n cap j : Nat} {m : ByteArray} {a : Option Addr} {L : List Qe} {S : Nat → Prop} {x : Int} (h : RmI w B g m wr a n cap L S) (hj : (idsQ L)[j]? = some x) : ∃ p o, a = some ⟨p, o, none⟩ ∧ wr.cell? ⟨p, o + j, none⟩ = some (.int .i64 x) := by
  obtain ⟨p, o, h1, h2, _⟩ := h.1.row.get iE_len hj
  refine ⟨p, o, h1, ?_⟩
  have := h2 0 _ rfl
  rwa [Nat.mul_one, Nat.add_zero] at this
theorem RmI.n8 {w wr : World} {B g n cap : Nat} {m : ByteArray} {a : Option Addr} {L : List Qe} {S : Nat → Prop} (h : RmI w B g m wr a n cap L S) : n ≤ 8 := by
  have := h.1.q.ok.w8
  have e := h.2.2
  unfold idsQ at e
  rw [List.length_map] at e
  omega
theorem take_mem {X : List Int} {j : Nat} {x y : Int} (h : X[j]? = some x) : (y ∈ X.take (j + 1)) ↔ (y ∈ X.take j ∨ y = x) := by
  rw [take_snoc h, List.mem_append, List.mem_singleton]
set_option maxRecDepth 100000 in
set_option maxHeartbeats 8000000 in
theorem room_main (len cl : Nat) (ad : Option Addr) (l : List Int) (m : ByteArray) (w : World) (hl : len = l.length) (hlen : len ≤ 100) (hS : IntsAt w ad l) (hm : m.size ≤ 4096) (hr : ∀ x ∈ l, -9223372036854775808 ≤ x ∧ x ≤ 9223372036854775807) : Calls Try.prog 6 #[.slice ad len cl, .string m] w fun e w' => e = .returned (.bool true) ∧ Below w.heap.size w w' := by
  obtain ⟨g, hg⟩ : ∃ g, g = w.heap.size := ⟨_, rfl⟩
  have HG : Hid (g = w.heap.size) := hg
  have HS : Hid (len = l.length ∧ IntsAt w ad l ∧ len ≤ 100 ∧ m.size ≤ 4096 ∧ ∀ x ∈ l, -9223372036854775808 ≤ x ∧ x ≤ 9223372036854775807) := ⟨hl, hS, hlen, hm, hr⟩
  have KN : Hid (Calls Try.prog 7 #[] w fun e w' => e = .returned (.pointer (some ⟨g, 0, none⟩)) ∧ QI w' (From g) g [] ∧ Below g w w') := by
    rw [hg]; exact qnew_in (From w.heap.size) w (fun k hk => hk)
  have l1 : ¬ ((100 : Int) < (len : Nat)) := by omega
  have l2 : ¬ ((4096 : Int) < (m.size : Nat)) := by omega
  have l3 : (len : Int) ≤ 100 := by omega
  have m2 : (m.size : Int) ≤ 4096 := by omega
  clear hl hlen hS hm hg hr
  go_enter Try.func6, Try.ntmps6
  go_wp2_with fail
  refine KN.out.mono ?_
  rintro e w1 ⟨rfl, hQ1, hb1⟩
  have H1 : Hid (RmI w g g m w1 none 0 0 [] (fun k => g ≤ k ∧ k < w1.heap.size)) := ⟨⟨hQ1.mono (fun k hk hz => ⟨hz, hk⟩), RowX.nil _ _, fun k hk => hk.1, fun k hk => hk.2, by have := hb1.size; have := HG.out; omega, hb1⟩, AllM.nil m, rfl⟩
  clear hQ1 hb1
  go_wp2_with fail
  rename_i Kr hKr
  have HKr : Hid _ := hKr
  clear hKr
  go_loopw [6, 42] (fun kv iv wr => ∃ (i n : Nat) (a : Option Addr) (cap : Nat) (L : List Qe) (S : Nat → Prop), i ≤ len ∧ kv = .slice a n cap ∧ iv = .int .i64 (i : Nat) ∧ RmI w g g m wr a n cap L S) (fun _ iv _ => len - (Go.RowKit.intOf iv).toNat)
  case atStart => exact ⟨0, 0, none, 0, [], _, Nat.zero_le _, rfl, rfl, H1.out⟩
  case round =>
    obtain ⟨i, n, a, cap, L, S, hi, rfl, rfl, hR⟩ := hrel
    rename World => wr
    have HR : Hid (RmI w g g m wr a n cap L S ∧ i ≤ len) := ⟨hR, hi⟩
    have n8 : (n : Int) ≤ 8 := by have := hR.n8; omega
    clear H1 KN
    by_cases hlt : i < len
    · have hlt' : (i : Int) < (len : Nat) := by omega
      obtain ⟨id, hid⟩ : ∃ id, l[i]? = some id := ⟨_, List.getElem?_eq_getElem (by rw [← HS.out.1]; exact hlt)⟩
      obtain ⟨p, o, rfl, hc, hp⟩ := HS.out.2.1 i id hid
      have c0 : wr.cell? ⟨p, o + i, none⟩ = some (.int .i64 id) := (hR.1.hb.cell (p := ⟨p, o + i, none⟩) (by rw [HG.out]; exact hp)).trans hc
      have HI : Hid (l[i]? = some id ∧ i < len) := ⟨hid, hlt⟩
      obtain ⟨T0, hT0⟩ : ∃ T0, T0 = decide (id ∈ idsQ L) := ⟨_, rfl⟩
      have HT0 : Hid (T0 = decide (id ∈ idsQ L)) := hT0
      clear hR hid hc hp hi hlt hT0
      go_upto_block 2 with fail
      go_cut [9] (fun s9 wz => s9 = .bool T0 ∧ wz = wr)
      case first =>
        go_wp2_with fail
        rename_i Kq hKq
        have HKq : Hid _ := hKq
        clear hKq
        go_loopw [9, 48] (fun tv jv wz => ∃ (j : Nat) (T : Bool), j ≤ n ∧ T = decide (id ∈ (idsQ L).take j) ∧ tv = .bool T ∧ jv = .int .i64 (j : Nat) ∧ wz = wr) (fun _ jv _ => n - (Go.RowKit.intOf jv).toNat)
        case atStart => exact ⟨0, false, Nat.zero_le _, by simp, rfl, rfl, rfl⟩
        case round =>
          obtain ⟨j, T, hj, hT, rfl, rfl, hwz⟩ := hrel
          rename World => wz
          subst hwz
          have HJ : Hid (j ≤ n ∧ T = decide (id ∈ (idsQ L).take j)) := ⟨hj, hT⟩
          by_cases hlt : j < n
          · have hlt2 : (j : Int) < (n : Nat) := by omega
            obtain ⟨x, hx⟩ : ∃ x, (idsQ L)[j]? = some x := ⟨_, List.getElem?_eq_getElem (by rw [← HR.out.1.2.2]; exact hlt)⟩
            obtain ⟨p', o', rfl, hc⟩ := HR.out.1.cell hx
            have HX : Hid ((idsQ L)[j]? = some x ∧ j < n) := ⟨hx, hlt⟩
            clear hj hT hx hlt HKq
            cases T with
            | true =>
              go_wp2_with fail
              go_roundw
              case rel => exact ⟨j + 1, true, by have := HX.out.2; omega, by rw [eq_comm, decide_eq_true_iff, take_mem HX.out.1]; exact .inl (of_decide_eq_true HJ.out.2.symm), rfl, by first | rfl | (congr 1), (by first | rfl | trivial)⟩
              case measure => simp [Go.RowKit.intOf]; omega
            | false =>
              by_cases hxi : x = id
              · have hxb : (x == id) = true := by rw [hxi]; simp
                have HXI : Hid (x = id) := hxi
                clear hxi
                go_wp2_with fail
                go_roundw
                case rel => exact ⟨j + 1, true, by have := HX.out.2; omega, by rw [eq_comm, decide_eq_true_iff, take_mem HX.out.1]; exact .inr HXI.out.symm, (by first | rfl | (rw [hxb])), by first | rfl | (congr 1), (by first | rfl | trivial)⟩
                case measure => simp [Go.RowKit.intOf]; omega
              · have hxb : (x == id) = false := beq_eq_false_iff_ne.2 hxi
                have HXI : Hid (¬ x = id) := hxi
                clear hxi
                go_wp2_with fail
                go_roundw
                case rel => exact ⟨j + 1, false, by have := HX.out.2; omega, by rw [eq_comm, decide_eq_false_iff_not, take_mem HX.out.1]; exact fun c => c.elim (of_decide_eq_false HJ.out.2.symm) (fun c => HXI.out c.symm), (by first | rfl | (rw [hxb])), by first | rfl | (congr 1), (by first | rfl | trivial)⟩
                case measure => simp [Go.RowKit.intOf]; omega
          · have hge : ¬ ((j : Int) < (n : Nat)) := by omega
            have HN : Hid (T = T0) := by
              have e : (idsQ L).take j = idsQ L := List.take_of_length_le (by rw [← HR.out.1.2.2]; omega)
              have := HJ.out.2
              rw [e, ← HT0.out] at this
              exact this
            clear hj hT hlt
            go_wp2_with fail
            refine HKq.out _ _ ?_
            clear HKq
            go_wp2_with fail
            go_meet
            exact ⟨by rw [HN.out], rfl⟩
      case rest =>
        obtain ⟨rfl, hwz⟩ := hcut
        rename World => wz
        subst hwz
        have hidr := HS.out.2.2.2.2 id (List.mem_of_getElem? HI.out.1)
        have hSu := submit_any g id m (fun k => S k ∨ wz.heap.size ≤ k) L wz (fun k hk => .inr hk) (HR.out.1.1.q.mono (fun k _ hk => .inl hk)) hidr (by have := HS.out.2.2.2.1; omega) (by have := HR.out.1.n8; have := HR.out.1.2.2; unfold idsQ at this; rw [List.length_map, waitQ_all HR.out.1.2.1] at this; omega)
        have KS : Hid (Calls Try.prog 9 #[.pointer (some ⟨g, 0, none⟩), .agg #[.int .i64 id, .string m]] wz fun e w' => e = .returned (.tuple #[.int .i64 (subR L id m).1, .agg #[.int .u64 (subR L id m).2.1.x0, .int .u64 (subR L id m).2.1.x1, .int .u64 (subR L id m).2.1.x2, .int .u64 (subR L id m).2.1.x3, .int .u64 (subR L id m).2.1.x4, .int .u64 (subR L id m).2.1.x5, .int .u64 (subR L id m).2.1.x6, .int .u64 (subR L id m).2.1.x7, .bool (subR L id m).2.1.i, .int .u64 (subR L id m).2.1.x8, .int .u64 (subR L id m).2.1.x9, .int .u64 (subR L id m).2.1.x10, .int .u64 (subR L id m).2.1.x11]]) ∧ OnQ iE 1 w w' g g (subR L id m).2.2 (fun j => (S j ∨ wz.heap.size ≤ j) ∧ j < w'.heap.size) a (idsQ L) cap) := hSu.mono (fun e w' h => ⟨h.1, HR.out.1.1.op h.2.1 h.2.2⟩)
        clear hSu hidr c0
        by_cases h1 : 1 ≤ id ∧ id ≤ 1099511627776
        · have hok : okQ id m := ⟨h1.1, h1.2, HS.out.2.2.2.1⟩
          have i1 := h1.1
          have i2 := h1.2
          by_cases hin : id ∈ idsQ L
          · as_aux_lemma =>
              have HE : Hid (subR L id m = (1, sg0, L) ∧ T0 = true) := ⟨room_there HR.out.1.1.q.ok HR.out.1.2.1 hok hin, HT0.out.trans (decide_eq_true hin)⟩
              have hT := HE.out.2
              subst hT
              clear h1 hok hin
              go_wp2_with fail
              refine KS.out.mono ?_
              rintro e w2 ⟨rfl, hO⟩
              rw [HE.out.1] at hO ⊢
              have H2 : Hid (OnQ iE 1 w w2 g g L (fun j => (S j ∨ wz.heap.size ≤ j) ∧ j < w2.heap.size) a (idsQ L) cap) := hO
              clear hO HKr
              go_wp2_with fail
              go_roundw
              case rel => exact ⟨i + 1, n, a, cap, L, _, by have := HI.out.2; omega, rfl, by first | rfl | (congr 1), H2.out.call (below_alloc0 (Below.refl _ _) _), HR.out.1.2⟩
              case measure => simp [Go.RowKit.intOf]; omega
          · have HTF : Hid (T0 = false) := HT0.out.trans (decide_eq_false hin)
            by_cases h8 : n = 8
            · as_aux_lemma =>
                have HE : Hid (subR L id m = (2, sg0, L)) := room_full HR.out.1.2.1 hok hin (by rw [← HR.out.1.2.2, h8]; exact Nat.le_refl _)
                have hT := HTF.out
                subst hT
                have n88 : (n : Int) = 8 := by omega
                have n8b : ((n : Int) == 8) = true := by rw [n88]; rfl
                clear h1 hok hin h8
                go_wp2_with fail
                refine KS.out.mono ?_
                rintro e w2 ⟨rfl, hO⟩
                rw [HE.out] at hO ⊢
                have H2 : Hid (OnQ iE 1 w w2 g g L (fun j => (S j ∨ wz.heap.size ≤ j) ∧ j < w2.heap.size) a (idsQ L) cap) := hO
                clear hO HKr
                go_wp2_with fail
                go_roundw
                case rel => exact ⟨i + 1, n, a, cap, L, _, by have := HI.out.2; omega, by first | rfl | (congr 1), by first | rfl | (congr 1), H2.out.call (below_alloc0 (Below.refl _ _) _), HR.out.1.2⟩
                case measure => simp [Go.RowKit.intOf]; omega
            · as_aux_lemma =>
                have HE := room_new HR.out.1.2.1 hok hin (by have := HR.out.1.n8; rw [← HR.out.1.2.2]; omega)
                obtain ⟨L2, hL2⟩ : ∃ L2, L2 = L ++ [(⟨id.toNat, m, false, sg0⟩ : Qe)] := ⟨_, rfl⟩
                have HE2 : Hid (subR L id m = (1, sg0, L2) ∧ AllM m L2 ∧ idsQ L2 = idsQ L ++ [id]) := by rw [hL2]; exact HE
                have hT := HTF.out
                subst hT
                have n88 : ¬ ((n : Int) = 8) := by omega
                have n8b : ((n : Int) == 8) = false := beq_eq_false_iff_ne.2 n88
                clear h1 hok hin h8 HE hL2
                go_wp2_with fail
                refine KS.out.mono ?_
                rintro e w2 ⟨rfl, hO⟩
                rw [HE2.out.1] at hO ⊢
                have H2 : Hid (OnQ iE 1 w (w2.alloc (.cells #[.int .u64 sg0.x0, .int .u64 sg0.x1, .int .u64 sg0.x2, .int .u64 sg0.x3, .int .u64 sg0.x4, .int .u64 sg0.x5, .int .u64 sg0.x6, .int .u64 sg0.x7, .bool sg0.i, .int .u64 sg0.x8, .int .u64 sg0.x9, .int .u64 sg0.x10, .int .u64 sg0.x11] 38)) g g L2 (fun j => (S j ∨ wz.heap.size ≤ j) ∧ j < w2.heap.size) a (idsQ L) cap) := OnQ.call hO (below_alloc0 (Below.refl _ _) _)
                obtain ⟨a', cap', w9, happ, hO9⟩ := H2.out.app (te := 3) (n := n) infoI iE_len iE_one (by decide) (by decide) id HR.out.1.2.2 (by have := HR.out.1.n8; omega)
                have H9 : Hid (RmI w g g m w9 a' (n + 1) cap' L2 (fun j => (S j ∨ wz.heap.size ≤ j) ∧ j < w2.heap.size)) := ⟨by rw [HE2.out.2.2]; exact hO9, HE2.out.2.1, by rw [HE2.out.2.2, List.length_append, HR.out.1.2.2]; rfl⟩
                obtain ⟨n1, hn1⟩ : ∃ n1, n1 = n + 1 := ⟨_, rfl⟩
                have HN1 : Hid (n1 = n + 1) := hn1
                rw [← hn1] at happ
                replace happ : (Builtin.append_ #[58, 58] 58 #[.slice a n cap, .slice (some ⟨w2.heap.size + 1, 0, none⟩) 1 1]).run Try.prog ((w2.alloc (.cells #[.int .u64 sg0.x0, .int .u64 sg0.x1, .int .u64 sg0.x2, .int .u64 sg0.x3, .int .u64 sg0.x4, .int .u64 sg0.x5, .int .u64 sg0.x6, .int .u64 sg0.x7, .bool sg0.i, .int .u64 sg0.x8, .int .u64 sg0.x9, .int .u64 sg0.x10, .int .u64 sg0.x11] 38)).alloc (.cells #[.int .i64 id] 3)) = .ok (.slice a' n1 cap') w9 := by
                  have e : (w2.alloc (.cells #[.int .u64 sg0.x0, .int .u64 sg0.x1, .int .u64 sg0.x2, .int .u64 sg0.x3, .int .u64 sg0.x4, .int .u64 sg0.x5, .int .u64 sg0.x6, .int .u64 sg0.x7, .bool sg0.i, .int .u64 sg0.x8, .int .u64 sg0.x9, .int .u64 sg0.x10, .int .u64 sg0.x11] 38)).heap.size = w2.heap.size + 1 := by simp
                  rw [e] at happ
                  exact happ
                clear hO hO9 hn1 HKr
                go_wp2_with (at_builtin; refine wpList_append_run rfl _ _ 58 rfl rfl rfl happ ?_)
                go_roundw
                case rel => exact ⟨i + 1, n1, a', cap', L2, _, by have := HI.out.2; omega, rfl, by first | rfl | (congr 1), by rw [HN1.out]; exact H9.out⟩
                case measure => simp [Go.RowKit.intOf]; omega
        · as_aux_lemma =>
            have HE : Hid (subR L id m = (3, sg0, L)) := room_bad h1
            have hq : id < 1 ∨ (¬ id < 1 ∧ 1099511627776 < id) := by omega
            clear h1
            rcases hq with hq | ⟨hq, hq2⟩
            · (go_wp2_with fail
               refine KS.out.mono ?_
               rintro e w2 ⟨rfl, hO⟩
               rw [HE.out] at hO ⊢
               have H2 : Hid (OnQ iE 1 w w2 g g L (fun j => (S j ∨ wz.heap.size ≤ j) ∧ j < w2.heap.size) a (idsQ L) cap) := hO
               clear hO HKr
               go_wp2_with fail
               go_roundw
               case rel => exact ⟨i + 1, n, a, cap, L, _, by have := HI.out.2; omega, rfl, by first | rfl | (congr 1), H2.out.call (below_alloc0 (Below.refl _ _) _), HR.out.1.2⟩
               case measure => simp [Go.RowKit.intOf]; omega)
            · (go_wp2_with fail
               refine KS.out.mono ?_
               rintro e w2 ⟨rfl, hO⟩
               rw [HE.out] at hO ⊢
               have H2 : Hid (OnQ iE 1 w w2 g g L (fun j => (S j ∨ wz.heap.size ≤ j) ∧ j < w2.heap.size) a (idsQ L) cap) := hO
               clear hO HKr
               go_wp2_with fail
               go_roundw
               case rel => exact ⟨i + 1, n, a, cap, L, _, by have := HI.out.2; omega, rfl, by first | rfl | (congr 1), H2.out.call (below_alloc0 (Below.refl _ _) _), HR.out.1.2⟩
               case measure => simp [Go.RowKit.intOf]; omega)
    · have hge : ¬ ((i : Int) < (len : Nat)) := by omega
      clear hi hlt
      go_wp2_with fail
      refine HKr.out _ _ ?_
      clear HKr
      have hcn := count_in g n 0 S L wr HR.out.1.1.q (by have := HR.out.1.2.2; unfold idsQ at this; rw [List.length_map] at this; exact this) (by have := HR.out.1.2.2; unfold idsQ at this; rw [List.length_map, waitQ_all HR.out.1.2.1] at this; omega) (by have := HR.out.1.n8; have := HR.out.1.2.2; unfold idsQ at this; rw [List.length_map, waitQ_all HR.out.1.2.1] at this; omega)
      have KC : Hid (Calls Try.prog 13 #[.pointer (some ⟨g, 0, none⟩)] wr fun e w' => e = .returned (.tuple #[.int .i64 (n : Nat), .int .i64 ((0 : Nat) : Nat)]) ∧ w' = wr.drew) := hcn
      clear hcn
      go_wp2_with fail
      refine KC.out.mono ?_
      rintro e w3 ⟨rfl, hw3⟩
      have H3 : Hid (RmI w g g m w3 a n cap L S) := by
        rw [hw3]
        exact ⟨⟨HR.out.1.1.q.kept (Nat.le_refl _) (fun _ _ _ => rfl), HR.out.1.1.row.drew, HR.out.1.1.sB, HR.out.1.1.sl, HR.out.1.1.hB, ⟨HR.out.1.1.hb.os, HR.out.1.1.hb.tape, HR.out.1.1.hb.output, HR.out.1.1.hb.size, HR.out.1.1.hb.block⟩⟩, HR.out.1.2⟩
      have nn : ((n : Int) != (n : Int)) = false := by simp
      clear hw3 KC
      by_cases h8 : n = 8
      · as_aux_lemma =>
          obtain ⟨x, hx⟩ : ∃ x, (idsQ L)[3]? = some x := ⟨_, List.getElem?_eq_getElem (by rw [← H3.out.2.2, h8]; decide)⟩
          obtain ⟨p, o, rfl, hc⟩ := H3.out.cell hx
          have hmem := List.mem_of_getElem? hx
          unfold idsQ at hmem
          obtain ⟨y, hy, hyx⟩ := List.mem_map.1 hmem
          have hyL := (waitQ_mem hy)
          have hlook : lookQ L x = some y := by rw [← hyx]; exact lookQ_self H3.out.1.q.ok.ap hyL.1
          have hidb := H3.out.1.q.ok.id1 y hyL.1
          obtain ⟨L3, hL3⟩ : ∃ L3, L3 = doneQ x sg0 L := ⟨_, rfl⟩
          have hfin : finR L x sg0 = (0, L3) := by unfold finR; rw [hlook, hL3]; simp [hyL.2]
          have hlL : L.length = 8 := by have := H3.out.2.2; unfold idsQ at this; rw [List.length_map, waitQ_all H3.out.2.1] at this; omega
          have hF := finish_any g x sg0 (fun k => S k ∨ w3.heap.size ≤ k) L w3 (fun k hk => .inr hk) (H3.out.1.q.mono (fun k _ hk => .inl hk)) (by omega) (by omega)
          rw [hfin] at hF
          have KF : Hid (Calls Try.prog 11 #[.pointer (some ⟨g, 0, none⟩), .int .i64 x, .agg #[.int .u64 0, .int .u64 0, .int .u64 0, .int .u64 0, .int .u64 0, .int .u64 0, .int .u64 0, .int .u64 0, .bool false, .int .u64 0, .int .u64 0, .int .u64 0, .int .u64 0]] w3 fun e w' => e = .returned (.int .i64 0) ∧ OnQ iE 1 w w' g g L3 (fun j => (S j ∨ w3.heap.size ≤ j) ∧ j < w'.heap.size) (some ⟨p, o, none⟩) (idsQ L) cap) := hF.mono (fun e w' h => ⟨h.1, H3.out.1.op h.2.1 h.2.2⟩)
          obtain ⟨A, hA⟩ : ∃ A, A = (subR L3 1099511627776 m).1 := ⟨_, rfl⟩
          have hAA : 1099511627776 ∈ idsQ L ∨ A = 1 := by
            by_cases q : 1099511627776 ∈ idsQ L
            · exact .inl q
            · right
              have hn := room_out H3.out.2.1 q
              have hw : (waitQ L3).length + 1 = (waitQ L).length := by rw [hL3]; exact doneQ_w1 hlook hyL.2
              rw [hA]
              unfold subR
              rw [if_pos ⟨by decide, by decide, HS.out.2.2.2.1⟩, hL3, lookQ_done_none hlook hn, ← hL3]
              have hl8 : (waitQ L).length = 8 := by rw [waitQ_all H3.out.2.1]; exact hlL
              simp only [if_neg (show ¬ 8 ≤ (waitQ L3).length by omega)]
          have HX : Hid ((idsQ L)[3]? = some x ∧ L3.length < 10000 ∧ n = 8 ∧ (1099511627776 ∈ idsQ L ∨ A = 1) ∧ A = (subR L3 1099511627776 m).1) := ⟨hx, by rw [hL3, doneQ_len]; omega, h8, hAA, hA⟩
          have n88 : (n : Int) = 8 := by omega
          have n3 : (3 : Int) < (n : Nat) := by omega
          have n8b : ((n : Int) == 8) = true := by rw [n88]; rfl
          clear hx hmem hy hyx hyL hlook hidb hL3 hfin hlL hF hA hAA h8 y
          go_wp2_with fail
          refine KF.out.mono ?_
          rintro e w4 ⟨rfl, hO4⟩
          have H4 : Hid (OnQ iE 1 w w4 g g L3 (fun j => (S j ∨ w3.heap.size ≤ j) ∧ j < w4.heap.size) (some ⟨p, o, none⟩) (idsQ L) cap) := hO4
          clear hO4 hc KF
          go_wp2_with fail
          refine (submit_any g 1099511627776 m (fun k => ((S k ∨ w3.heap.size ≤ k) ∧ k < w4.heap.size) ∨ w4.heap.size ≤ k) L3 w4 (fun k hk => .inr hk) (H4.out.q.mono (fun k _ hk => .inl hk)) (by decide) (by have := HS.out.2.2.2.1; omega) HX.out.2.1).mono ?_
          rintro e w5 ⟨rfl, hQ5, hO5⟩
          have h5 := (H4.out.op hQ5 hO5)
          obtain ⟨S5, hS5⟩ : ∃ S5 : Nat → Prop, S5 = (fun j => (((S j ∨ w3.heap.size ≤ j) ∧ j < w4.heap.size) ∨ w4.heap.size ≤ j) ∧ j < w5.heap.size) := ⟨_, rfl⟩
          rw [← hS5] at h5
          obtain ⟨V, hV⟩ : ∃ V : Sg, V = (subR L3 1099511627776 m).2.1 := ⟨_, rfl⟩
          rw [← hV, ← HX.out.2.2.2.2]
          obtain ⟨W6, hW6⟩ : ∃ W6, W6 = w5.alloc (.cells #[.int .u64 V.x0, .int .u64 V.x1, .int .u64 V.x2, .int .u64 V.x3, .int .u64 V.x4, .int .u64 V.x5, .int .u64 V.x6, .int .u64 V.x7, .bool V.i, .int .u64 V.x8, .int .u64 V.x9, .int .u64 V.x10, .int .u64 V.x11] 38) := ⟨_, rfl⟩
          have HW6 : Hid (W6 = w5.alloc (.cells #[.int .u64 V.x0, .int .u64 V.x1, .int .u64 V.x2, .int .u64 V.x3, .int .u64 V.x4, .int .u64 V.x5, .int .u64 V.x6, .int .u64 V.x7, .bool V.i, .int .u64 V.x8, .int .u64 V.x9, .int .u64 V.x10, .int .u64 V.x11] 38)) := hW6
          have H6 : Hid (OnQ iE 1 w W6 g g (subR L3 1099511627776 m).2.2 S5 (some ⟨p, o, none⟩) (idsQ L) cap) := by rw [hW6]; exact h5.call (below_alloc0 (Below.refl _ _) _)
          clear hQ5 hO5 h5 hS5 hV hW6
          go_upto_region 32 with fail
          rw [← HW6.out]
          clear HW6 H4
          go_wp2_with fail
          rename_i Kq hKq
          have HKq : Hid _ := hKq
          clear hKq
          go_loopw [19, 121] (fun tv jv wz => ∃ (j : Nat) (T : Bool), j ≤ n ∧ T = decide (1099511627776 ∈ (idsQ L).take j) ∧ tv = .bool T ∧ jv = .int .i64 (j : Nat) ∧ wz = W6) (fun _ jv _ => n - (Go.RowKit.intOf jv).toNat)
          case atStart => exact ⟨0, false, Nat.zero_le _, by simp, rfl, rfl, (by first | rfl | trivial)⟩
          case round =>
            obtain ⟨j, T, hj, hT, rfl, rfl, hwz⟩ := hrel
            rename World => wz
            subst hwz
            have HJ : Hid (j ≤ n ∧ T = decide (1099511627776 ∈ (idsQ L).take j)) := ⟨hj, hT⟩
            by_cases hlt : j < n
            · have hlt2 : (j : Int) < (n : Nat) := by omega
              obtain ⟨x', hx⟩ : ∃ x, (idsQ L)[j]? = some x := ⟨_, List.getElem?_eq_getElem (by rw [← H3.out.2.2]; exact hlt)⟩
              obtain ⟨p', o', e1, hc, -⟩ := H6.out.row.get iE_len hx
              cases e1
              have hc0 : wz.cell? ⟨p, o + j, none⟩ = some (.int .i64 x') := by have := hc 0 _ rfl; rwa [Nat.mul_one, Nat.add_zero] at this
              have HX2 : Hid ((idsQ L)[j]? = some x' ∧ j < n) := ⟨hx, hlt⟩
              clear hj hT hx hlt HKq hc
              cases T with
              | true =>
                go_wp2_with fail
                go_roundw
                case rel => exact ⟨j + 1, true, by have := HX2.out.2; omega, by rw [eq_comm, decide_eq_true_iff, take_mem HX2.out.1]; exact .inl (of_decide_eq_true HJ.out.2.symm), rfl, by first | rfl | (congr 1), (by first | rfl | trivial)⟩
                case measure => simp [Go.RowKit.intOf]; omega
              | false =>
                by_cases hxi : x' = 1099511627776
                · have hxb : (x' == 1099511627776) = true := by rw [hxi]; rfl
                  have HXI : Hid (x' = 1099511627776) := hxi
                  clear hxi
                  go_wp2_with fail
                  go_roundw
                  case rel => exact ⟨j + 1, true, by have := HX2.out.2; omega, by rw [eq_comm, decide_eq_true_iff, take_mem HX2.out.1]; exact .inr HXI.out.symm, (by first | rfl | (rw [hxb])), by first | rfl | (congr 1), (by first | rfl | trivial)⟩
                  case measure => simp [Go.RowKit.intOf]; omega
                · have hxb : (x' == 1099511627776) = false := beq_eq_false_iff_ne.2 hxi
                  have HXI : Hid (¬ x' = 1099511627776) := hxi
                  clear hxi
                  go_wp2_with fail
                  go_roundw
                  case rel => exact ⟨j + 1, false, by have := HX2.out.2; omega, by rw [eq_comm, decide_eq_false_iff_not, take_mem HX2.out.1]; exact fun c => c.elim (of_decide_eq_false HJ.out.2.symm) (fun c => HXI.out c.symm), (by first | rfl | (rw [hxb])), by first | rfl | (congr 1), (by first | rfl | trivial)⟩
                  case measure => simp [Go.RowKit.intOf]; omega
            · have hge : ¬ ((j : Int) < (n : Nat)) := by omega
              have HN : Hid (T = decide (1099511627776 ∈ idsQ L)) := by
                have e : (idsQ L).take j = idsQ L := List.take_of_length_le (by rw [← H3.out.2.2]; omega)
                have := HJ.out.2
                rw [e] at this
                exact this
              clear hj hT hlt
              cases T with
              | true =>
                go_wp2_with fail
                refine HKq.out _ _ ?_
                clear HKq
                go_wp2_with fail
                refine (four_any _).mono ?_
                rintro e w9 ⟨rfl, hb9⟩
                have H9 : Hid (Below g w w9) := (H6.out.call hb9).hb
                clear hb9
                go_wp2_with fail
                go_ret
                exact ⟨rfl, by rw [← HG.out]; exact H9.out⟩
              | false =>
                have hA1 : A = 1 := HX.out.2.2.2.1.resolve_left (of_decide_eq_false HN.out.symm)
                have hAb : (A == 1) = true := by rw [hA1]; rfl
                go_wp2_with fail
                refine HKq.out _ _ ?_
                clear HKq
                go_wp2_with fail
                refine (four_any _).mono ?_
                rintro e w9 ⟨rfl, hb9⟩
                have H9 : Hid (Below g w w9) := (H6.out.call hb9).hb
                clear hb9
                go_wp2_with fail
                go_ret
                exact ⟨rfl, by rw [← HG.out]; exact H9.out⟩
      · as_aux_lemma =>
          have n88 : ¬ ((n : Int) = 8) := by omega
          have n8b : ((n : Int) == 8) = false := beq_eq_false_iff_ne.2 n88
          clear h8
          go_wp2_with fail
          refine (four_any _).mono ?_
          rintro e w9 ⟨rfl, hb9⟩
          have H9 : Hid (Below g w w9) := (H3.out.1.call hb9).hb
          clear hb9
          go_wp2_with fail
          go_ret
          exact ⟨rfl, by rw [← HG.out]; exact H9.out⟩
set_option maxHeartbeats 1000000 in
theorem room_far (len cl : Nat) (ad : Option Addr) (m : ByteArray) (w : World) (h : 100 < len ∨ (len ≤ 100 ∧ 4096 < m.size)) : Calls Try.prog 6 #[.slice ad len cl, .string m] w fun e w' => e = .returned (.bool true) ∧ Below w.heap.size w w' := by
  have KN : Hid (Calls Try.prog 7 #[] w fun e w' => e = .returned (.pointer (some ⟨w.heap.size, 0, none⟩)) ∧ QI w' (From w.heap.size) w.heap.size [] ∧ Below w.heap.size w w') := qnew_in (From w.heap.size) w (fun k hk => hk)
  rcases h with h | ⟨h, h2⟩
  · have l1 : (100 : Int) < (len : Nat) := by omega
    clear h
    go_enter Try.func6, Try.ntmps6
    go_wp2_with fail
    refine KN.out.mono ?_
    rintro e w1 ⟨rfl, -, hb1⟩
    have H1 : Hid (Below w.heap.size w w1) := hb1
    clear hb1
    go_wp2_with fail
    refine (four_any _).mono ?_
    rintro e w9 ⟨rfl, hb9⟩
    have H9 : Hid (Below w.heap.size w w9) := H1.out.trans (hb9.mono H1.out.size)
    clear hb9
    go_wp2_with fail
    go_ret
    exact ⟨rfl, H9.out⟩
  · have l1 : ¬ ((100 : Int) < (len : Nat)) := by omega
    have l2 : (4096 : Int) < (m.size : Nat) := by omega
    clear h h2
    go_enter Try.func6, Try.ntmps6
    go_wp2_with fail
    refine KN.out.mono ?_
    rintro e w1 ⟨rfl, -, hb1⟩
    have H1 : Hid (Below w.heap.size w w1) := hb1
    clear hb1
    go_wp2_with fail
    refine (four_any _).mono ?_
    rintro e w9 ⟨rfl, hb9⟩
    have H9 : Hid (Below w.heap.size w w9) := H1.out.trans (hb9.mono H1.out.size)
    clear hb9
    go_wp2_with fail
    go_ret
    exact ⟨rfl, H9.out⟩
theorem queueRoom_any (cl : Nat) (ad : Option Addr) (l : List Int) (m : ByteArray) (w : World) (hS : IntsAt w ad l) (hr : ∀ x ∈ l, -9223372036854775808 ≤ x ∧ x ≤ 9223372036854775807) : Calls Try.prog 6 #[.slice ad l.length cl, .string m] w fun e w' => e = .returned (.bool true) ∧ Below w.heap.size w w' := by
  by_cases h1 : l.length ≤ 100
  · by_cases h2 : m.size ≤ 4096
    · exact room_main l.length cl ad l m w rfl h1 hS h2 hr
    · exact room_far l.length cl ad m w (.inr ⟨h1, by omega⟩)
  · exact room_far l.length cl ad m w (.inl (by omega))
end Go.Proofs.Ytojpddbdibkojaa
