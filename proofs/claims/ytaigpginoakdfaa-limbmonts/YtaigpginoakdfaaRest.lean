/- wardmoteref01.Rest: a remainder, bit by bit. -/
import Derived.Test.YtaigpginoakdfaaRestN
import Derived.Test.YtaigpginoakdfaaPlus
import Derived.Test.YtaigpginoakdfaaMinus
namespace Go.Proofs.Ytaigpginoakdfaa
open Go.RowKit

theorem one_dg (w : World) (d : Nat) : Dg (w.alloc (.cells #[.int .i64 (d : Nat)] 3)) (.slice (some ⟨w.heap.size, 0, none⟩) 1 1) [d] := by
  refine Or.inr ⟨w.heap.size, 1, rfl, by simp, ?_⟩
  intro j hj
  have : j = 0 := by simpa using hj
  subst this
  simp [go_sem, dget]
theorem shift_bit (y k : Nat) : ((y : Int) / 2 ^ k).tmod 2 = ((y / 2 ^ k % 2 : Nat) : Int) := by
  have e : ((y : Int) / 2 ^ k) = ((y / 2 ^ k : Nat) : Int) := by rw [Int.natCast_ediv, Int.natCast_pow]; rfl
  rw [e]
  generalize y / 2 ^ k = z
  rw [Int.tmod_eq_emod_of_nonneg (by omega)]
  omega
theorem one_ok (d : Nat) (h : d < 65536) : Dok [d] := by intro x hx; simp at hx; omega

set_option maxRecDepth 100000 in
set_option maxHeartbeats 4000000 in
theorem rest_ref (v u : Value) (a b : List Nat) (ha : Dok a) (hb : Dok b) (la : 0 < a.length ∧ a.length < 100) (lb : b.length < 100) (hm : dval b < R256) (h0 : 0 < dval b) (w : World) (hv : Dg w v a) (hu : Dg w u b) :
    Calls Try.prog 44 #[v, u] w fun e w' => ∃ x l, e = .returned x ∧ Dg w' x l ∧ (Dok l ∧ dval l = dval a % dval b) ∧ Below w.heap.size w w' := by
  rcases hv with ⟨rfl, rfl⟩ | ⟨g, cap, rfl, hg, hca⟩
  · simp at la
  obtain ⟨n, hn⟩ : ∃ n, n = a.length := ⟨_, rfl⟩
  have st : dval a / 2 ^ (16 * n) = 0 := by
    have := dval_lt a ha
    rw [hn, Nat.pow_mul]
    exact Nat.div_eq_of_lt this
  rw [← hn] at la hca ⊢
  obtain ⟨la0, la1⟩ := la
  have hbit : ∀ i q, q < 16 → dget a i / 2 ^ q % 2 = bitN (dval a) (16 * i + q) := fun i q hq => by rw [dget_dig a ha, dig_bitN _ _ _ hq]
  obtain ⟨A, hA⟩ : ∃ A, A = dval a := ⟨_, rfl⟩
  obtain ⟨m, hmm⟩ : ∃ m, m = dval b := ⟨_, rfl⟩
  rw [← hA] at st hbit ⊢
  rw [← hmm] at hm h0 ⊢
  have HB : Hid _ := And.intro hb (And.intro lb (And.intro hm (And.intro h0 hmm)))
  have HC : Hid _ := And.intro hca (And.intro hbit ha)
  have HU : Hid _ := hu
  have HS : Hid _ := RestAt.start A m (16 * n) st
  clear st hA hmm hn hbit hca ha hb lb hm h0 hu
  go_enter Try.func44, Try.ntmps44
  go_wp2_with fail
  go_loopw [5, 6] (fun r i wr => ∃ (j : Nat) (l : List Nat), j ≤ n ∧ i = .int .i64 ((j : Int) - 1) ∧ RestAt A m (16 * j) l ∧ Dg wr r l ∧ Below w.heap.size w wr)
    (fun _ i _ => (intOf i + 1).toNat)
  case atStart => exact ⟨n, [0], Nat.le_refl _, rfl, HS.out, one_dg w 0, by ((repeat' (first | with_reducible exact Below.refl _ _ | with_reducible refine Below.setCell ?_ ?_ _ | with_reducible refine below_alloc0 ?_ _ | with_reducible refine below_drewN ?_ _ | with_reducible refine Below.drew ?_ | refine below_call0 ?_ (by assumption))) <;> (first | omega | (simp; done) | (simp; omega)))⟩
  case round =>
    obtain ⟨j, l, hj, rfl, hT, hR, hbel⟩ := hrel
    by_cases hj0 : j = 0
    · subst hj0
      have HD : Hid _ := And.intro hT (And.intro hR hbel)
      clear hT hR hbel
      go_wp2_with fail
      go_ret
      refine ⟨_, l, rfl, HD.out.2.1, ⟨HD.out.1.1, ?_⟩, HD.out.2.2⟩
      have := HD.out.1.2.2.2
      simpa using this
    · obtain ⟨i, rfl⟩ : ∃ i, j = i + 1 := ⟨j - 1, by omega⟩
      have e : ((i + 1 : Nat) : Int) - 1 = (i : Int) := by omega
      rw [e]
      clear e
      have HD : Hid _ := And.intro hT (And.intro hR hbel)
      clear hT hR hbel
      go_wp2_with fail
      go_loopw [5, 7] (fun r k wq => ∃ (q : Nat) (l : List Nat), q ≤ 16 ∧ k = .int .i64 ((q : Int) - 1) ∧ RestAt A m (16 * i + q) l ∧ Dg wq r l ∧ Below w.heap.size w wq)
        (fun _ k _ => (intOf k + 1).toNat)
      case atStart => exact ⟨16, l, by omega, rfl, HD.out.1, HD.out.2.1, HD.out.2.2⟩
      case round =>
        clear HD
        obtain ⟨q, l, hq, rfl, hT, hR, hbel⟩ := hrel
        by_cases hq0 : q = 0
        · subst hq0
          have HD : Hid _ := And.intro hT (And.intro hR hbel)
          clear hT hR hbel
          go_wp2_with fail
          go_roundw
          case rel => exact ⟨i, l, by omega, rfl, HD.out.1, HD.out.2.1, HD.out.2.2⟩
          case measure => simp [intOf]
        · obtain ⟨k, rfl⟩ : ∃ k, q = k + 1 := ⟨q - 1, by omega⟩
          have e : ((k + 1 : Nat) : Int) - 1 = (k : Int) := by omega
          rw [e]
          clear e
          have ca : ∀ w', Below w.heap.size w w' → w'.cell? ⟨g, i, none⟩ = some (.int .i64 (dget a i : Nat)) := fun w' h => (h.cell (p := ⟨g, i, none⟩) hg).trans (HC.out.1 i (by omega))
          have HCA : Hid _ := ca
          clear ca
          have hlen := hT.2.2.1
          have hlen0 := hT.2.1
          obtain ⟨ad, cp, rfl⟩ := hR.len
          have K1 := fun w' h => plus_ref _ _ l l hT.1 hT.1 (by omega) (by omega) w' (hR.call h) (hR.call h)
          have HK1 : Hid _ := K1
          have HT : Hid _ := And.intro hT hbel
          clear K1 hT hR hbel
          go_wp2_with fail
          refine (HK1.out _ (Below.refl _ _)).mono ?_
          rintro e w1 ⟨x1, l1, rfl, d1, ⟨lok, lval, llen⟩, hb1⟩
          have M1 : MidAt A m (16 * i + k) 0 l1 := HT.out.1.double HB.out.2.2.1 HB.out.2.2.2.1 lok lval llen
          have hbel1 := below_call0 HT.out.2 hb1
          clear HK1 lok lval llen hlen hlen0
          obtain ⟨ad1, cp1, rfl⟩ := d1.len
          obtain ⟨L1, hL1⟩ : ∃ L1, L1 = l1.length := ⟨_, rfl⟩
          rw [← hL1] at d1 ⊢
          have l1a : 0 < L1 := by rw [hL1]; exact M1.2.1
          have l1b : L1 ≤ 17 := by rw [hL1]; exact M1.2.2.1
          have t2 : ((L1 : Int) == 0) = false := beq_eq_false_iff_ne.2 (by omega)
          have ca := HCA.out w1 hbel1
          have eb := HC.out.2.1 i k (by omega)
          obtain ⟨y, hy⟩ : ∃ y, y = dget a i := ⟨_, rfl⟩
          have yl : y < 65536 := by rw [hy]; exact dget_lt HC.out.2.2 i
          rw [← hy] at ca eb
          have ek : IntKind.u64.wrap (k : Int) = (k : Nat) := by rw [IntKind.wrap_u64]; omega
          have bl := bitN_lt A (16 * i + k)
          have ey : ((y : Int) / 2 ^ k).tmod 2 = ((bitN A (16 * i + k) : Nat) : Int) := by
            rw [← eb]
            exact shift_bit y k
          have HM : Hid _ := And.intro M1 (And.intro hbel1 (And.intro d1 hL1))
          clear eb hy HT hbel1 M1 d1 hL1 hb1
          by_cases hbit : bitN A (16 * i + k) = 1
          · rw [hbit] at ey
            have HBit : Hid _ := hbit.symm
            clear hbit
            go_wp2_with fail
            have KP := plus_ref _ _ l1 [1] HM.out.1.1 (one_ok 1 (by omega)) (by rw [← HM.out.2.2.2]; omega) (by simp) _ (HM.out.2.2.1.alloc _) (one_dg w1 1)
            refine KP.mono ?_
            clear KP
            rintro e w2 ⟨x2, l2, rfl, d2, ⟨ok2, val2, len2⟩, hb2⟩
            have M2 := HM.out.1.more HB.out.2.2.1 HB.out.2.2.2.1 ok2 val2 len2
            have hbel2 : Below w.heap.size w w2 := below_call0 (below_alloc0 HM.out.2.1 _) hb2
            clear ok2 val2 len2 HM hb2
            obtain ⟨ad2, cp2, rfl⟩ := d2.len
            obtain ⟨L2, hL2⟩ : ∃ L2, L2 = l2.length := ⟨_, rfl⟩
            rw [← hL2] at d2 ⊢
            have l2a : 0 < L2 := by rw [hL2]; exact M2.2.1
            have l2b : L2 ≤ 17 := by rw [hL2]; exact M2.2.2.1
            have HM : Hid _ := And.intro M2 (And.intro hbel2 (And.intro d2 hL2))
            clear M2 hbel2 d2 hL2
            go_wp2_with fail
            have KC := compare_any _ u l2 b HM.out.1.1 HB.out.1 (by rw [← HM.out.2.2.2]; omega) HB.out.2.1 _ HM.out.2.2.1 (Dg.call HU.out HM.out.2.1)
            rw [← HB.out.2.2.2.2] at KC
            refine KC.mono ?_
            rintro e w' ⟨rfl, rfl⟩
            clear KC
            by_cases hge : m ≤ dval l2
            · have cl : decide (0 ≤ cmpN (dval l2) m) = true := by
                rcases Nat.lt_or_ge m (dval l2) with g1 | g1
                · rw [cmpN_gt g1]; rfl
                · rw [show dval l2 = m from by omega, cmpN_self]; rfl
              have hG : Hid _ := hge
              clear hge
              go_wp2_with fail
              have hle : dval b ≤ dval l2 := by rw [← HB.out.2.2.2.2]; exact hG.out
              have KM := minus_ref _ u l2 b HM.out.1.1 HB.out.1 (by rw [← HM.out.2.2.2]; omega) hle _ HM.out.2.2.1 (Dg.call HU.out HM.out.2.1)
              refine KM.mono ?_
              clear KM hle
              rintro e w3 ⟨x3, l3, rfl, d3, ⟨ok3, val3, len3⟩, hb3⟩
              rw [← HB.out.2.2.2.2] at val3
              have R3 := HM.out.1.less HB.out.2.2.2.1 HBit.out hG.out ok3 val3 len3
              have hbel3 := below_call0 HM.out.2.1 hb3
              clear ok3 val3 len3
              obtain ⟨ad3, cp3, rfl⟩ := d3.len
              obtain ⟨L3, hL3⟩ : ∃ L3, L3 = l3.length := ⟨_, rfl⟩
              rw [← hL3] at d3 ⊢
              have l3b : L3 ≤ 17 := by rw [hL3]; exact R3.2.2.1
              have HR : Hid _ := And.intro R3 (And.intro d3 hbel3)
              clear R3 d3 hbel3 hL3 hb3 HM
              go_wp2_with fail
              go_roundw
              case rel => exact ⟨k, l3, by omega, rfl, HR.out.1, HR.out.2.1, HR.out.2.2⟩
              case measure => simp [intOf]
            · have cl : decide (0 ≤ cmpN (dval l2) m) = false := by rw [cmpN_lt (by omega)]; rfl
              have HR : Hid _ := And.intro (HM.out.1.keep HBit.out (by omega)) (And.intro HM.out.2.2.1 HM.out.2.1)
              clear hge HM
              go_wp2_with fail
              go_roundw
              case rel => exact ⟨k, l2, by omega, rfl, HR.out.1, HR.out.2.1, HR.out.2.2⟩
              case measure => simp [intOf]
          · have hbit0 : 0 = bitN A (16 * i + k) := by omega
            rw [← hbit0] at ey
            have HBit : Hid _ := hbit0
            clear hbit hbit0
            go_wp2_with fail
            have KC := compare_any _ u l1 b HM.out.1.1 HB.out.1 (by rw [← HM.out.2.2.2]; omega) HB.out.2.1 _ HM.out.2.2.1 (Dg.call HU.out HM.out.2.1)
            rw [← HB.out.2.2.2.2] at KC
            refine KC.mono ?_
            rintro e w' ⟨rfl, rfl⟩
            clear KC
            by_cases hge : m ≤ dval l1
            · have cl : decide (0 ≤ cmpN (dval l1) m) = true := by
                rcases Nat.lt_or_ge m (dval l1) with g1 | g1
                · rw [cmpN_gt g1]; rfl
                · rw [show dval l1 = m from by omega, cmpN_self]; rfl
              have hG : Hid _ := hge
              clear hge
              go_wp2_with fail
              have hle : dval b ≤ dval l1 := by rw [← HB.out.2.2.2.2]; exact hG.out
              have KM := minus_ref _ u l1 b HM.out.1.1 HB.out.1 (by rw [← HM.out.2.2.2]; omega) hle _ HM.out.2.2.1 (Dg.call HU.out HM.out.2.1)
              refine KM.mono ?_
              clear KM hle
              rintro e w3 ⟨x3, l3, rfl, d3, ⟨ok3, val3, len3⟩, hb3⟩
              rw [← HB.out.2.2.2.2] at val3
              have R3 := HM.out.1.less HB.out.2.2.2.1 HBit.out hG.out ok3 val3 len3
              have hbel3 := below_call0 HM.out.2.1 hb3
              clear ok3 val3 len3
              obtain ⟨ad3, cp3, rfl⟩ := d3.len
              obtain ⟨L3, hL3⟩ : ∃ L3, L3 = l3.length := ⟨_, rfl⟩
              rw [← hL3] at d3 ⊢
              have l3b : L3 ≤ 17 := by rw [hL3]; exact R3.2.2.1
              have HR : Hid _ := And.intro R3 (And.intro d3 hbel3)
              clear R3 d3 hbel3 hL3 hb3 HM
              go_wp2_with fail
              go_roundw
              case rel => exact ⟨k, l3, by omega, rfl, HR.out.1, HR.out.2.1, HR.out.2.2⟩
              case measure => simp [intOf]
            · have cl : decide (0 ≤ cmpN (dval l1) m) = false := by rw [cmpN_lt (by omega)]; rfl
              have HR : Hid _ := And.intro (HM.out.1.keep HBit.out (by omega)) (And.intro HM.out.2.2.1 HM.out.2.1)
              clear hge HM
              go_wp2_with fail
              go_roundw
              case rel => exact ⟨k, l1, by omega, rfl, HR.out.1, HR.out.2.1, HR.out.2.2⟩
              case measure => simp [intOf]
end Go.Proofs.Ytaigpginoakdfaa
