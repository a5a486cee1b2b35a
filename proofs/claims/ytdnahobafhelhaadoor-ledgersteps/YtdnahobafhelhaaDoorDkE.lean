/- Package disk: a crash that is oneB. -/
import Derived.Test.YtdnahobafhelhaaDoorDkF
import Derived.Test.YtdnahobafhelhaaDoorMgB
namespace Go.Proofs.YtdnahobafhelhaaDoor
open Go Go.RowKit Go.Lib

set_option maxHeartbeats 1000000 in
theorem fcrash_no (g : Nat) (P : Nat → Prop) (m : Nat) (k q : Int) (bs : ByteArray) (hm : m ≤ bs.size) (hz : bs.size ≤ 1048576) (hn : k < 0 ∨ (bs.size : Int) - (m : Int) < k ∨ q < 0 ∨ 255 < q) (w : World) (hF : FileAt w g P m bs) :
    Calls Tryd.prog 21 #[.pointer (some ⟨g, 0, none⟩), .int .i64 k, .int .i64 q] w fun e w' => e = .returned (.int .i64 1) ∧ FileAt w' g P m bs ∧ But g P w w' := by
  have HF : Hid (FileAt w g P m bs) := hF
  obtain ⟨a, cap, c0, c1, fz, hg, hB, hR⟩ := hF
  clear fz hg hB hR
  have m0 : (m : Int) ≤ (bs.size : Int) := by omega
  have z0 : (bs.size : Int) ≤ 1048576 := by omega
  by_cases h0 : k < 0
  · clear hn hm hz
    have d0 : decide (k < 0) = true := decide_eq_true h0
    go_enter Tryd.func21, Tryd.ntmps21
    go_wp2
    go_quiet (fail)
    go_wp2
    go_ret
    exact ⟨rfl, HF.out.drewN, (But.refl _ _ _).drewN⟩
  · have d0 : decide (k < 0) = false := decide_eq_false h0
    by_cases h1 : (bs.size : Int) - (m : Int) < k
    · have d1 : decide ((bs.size : Int) - (m : Int) < k) = true := decide_eq_true h1
      clear hn hm hz
      go_enter Tryd.func21, Tryd.ntmps21
      go_wp2
      go_quiet (fail)
      go_wp2
      go_ret
      exact ⟨rfl, HF.out.drewN, (But.refl _ _ _).drewN⟩
    · have d1 : decide ((bs.size : Int) - (m : Int) < k) = false := decide_eq_false h1
      by_cases h2 : q < 0
      · have d2 : decide (q < 0) = true := decide_eq_true h2
        clear hn hm hz
        go_enter Tryd.func21, Tryd.ntmps21
        go_wp2
        go_quiet (fail)
        go_wp2
        go_ret
        exact ⟨rfl, HF.out.drewN, (But.refl _ _ _).drewN⟩
      · have d2 : decide (q < 0) = false := decide_eq_false h2
        have h3 : 255 < q := by omega
        have d3 : decide (255 < q) = true := decide_eq_true h3
        clear hn hm hz
        go_enter Tryd.func21, Tryd.ntmps21
        go_wp2
        go_quiet (fail)
        go_wp2
        go_ret
        exact ⟨rfl, HF.out.drewN, (But.refl _ _ _).drewN⟩


/-- A byte, xored with a mask. -/
def xr (x : UInt8) (q : Nat) : UInt8 := x ^^^ UInt8.ofNat q
def oneB (x : UInt8) : ByteArray := ⟨#[x]⟩
theorem oneB_size (x : UInt8) : (oneB x).size = 1 := rfl
theorem bits_xor8 (x : UInt8) (q : Nat) : bits .xor .u8 (x.toNat : Int) (q : Int) = ((xr x q).toNat : Nat) := by
  show IntKind.u8.wrap ((BitVec.ofInt 8 (x.toNat : Int) ^^^ BitVec.ofInt 8 (q : Int)).toNat : Int) = _
  have e1 : BitVec.ofInt 8 (x.toNat : Int) = x.toBitVec := by
    apply BitVec.eq_of_toNat_eq
    have := x.toNat_lt
    simp
  have e2 : (UInt8.ofNat q).toBitVec = BitVec.ofInt 8 (q : Int) := by
    apply BitVec.eq_of_toNat_eq
    simp
  rw [e1, ← e2, ← UInt8.toBitVec_xor]
  have := (x ^^^ UInt8.ofNat q).toNat_lt
  unfold xr
  rw [IntKind.wrap_u8]
  show ((x ^^^ UInt8.ofNat q).toNat : Int) % 256 = _
  omega
theorem wrap_u8_nat (q : Nat) (hq : q < 256) : IntKind.u8.wrap (q : Int) = (q : Int) := by rw [IntKind.wrap_u8]; omega

set_option maxHeartbeats 1000000 in
theorem fcrash_ok (g : Nat) (P : Nat → Prop) (m k q : Nat) (bs : ByteArray) (hk : m + k ≤ bs.size) (hz : bs.size ≤ 1048576) (hq : q < 256) (hc : q = 0 ∨ m + k = bs.size) (w : World) (hF : FileAt w g P m bs) :
    Calls Tryd.prog 21 #[.pointer (some ⟨g, 0, none⟩), .int .i64 (k : Nat), .int .i64 (q : Nat)] w fun e w' => e = .returned (.int .i64 0) ∧ FileAt w' g P (m + k) (bs.extract 0 (m + k)) ∧ But g P w w' := by
  have HF : Hid (FileAt w g P m bs) := hF
  obtain ⟨a, cap, c0, c1, fz, hg, hB, hR⟩ := hF
  have m0 : (m : Int) ≤ (bs.size : Int) := by omega
  have z0 : (bs.size : Int) ≤ 1048576 := by omega
  have d0 : decide ((k : Int) < 0) = false := decide_eq_false (by omega)
  have d1 : decide ((bs.size : Int) - (m : Int) < (k : Int)) = false := decide_eq_false (by omega)
  have d2 : decide ((q : Int) < 0) = false := decide_eq_false (by omega)
  have d3 : decide ((255 : Int) < (q : Int)) = false := decide_eq_false (by omega)
  have ez : (bs.extract 0 (m + k)).size = m + k := by rw [ByteArray.size_extract]; omega
  have K1 : Hid _ := fun (w' : World) (h : FileAt w' g P m bs) => letGo_any g P m (m + k) bs hk w' h
  rw [Int.natCast_add] at K1
  have HH : Hid (m + k ≤ bs.size ∧ bs.size ≤ 1048576 ∧ (bs.extract 0 (m + k)).size = m + k) := ⟨hk, hz, ez⟩
  have s0 : (m : Int) + (k : Int) ≤ 1048576 := by omega
  have hd : decide (((q : Int)) = 0) = true ∨ ¬ ((0 : Int) < ((bs.size - (m + k) : Nat) : Int)) := by
    rcases hc with h | h
    · exact .inl (decide_eq_true (by omega))
    · exact .inr (by omega)
  clear fz hg hB hR hz hk ez hq hc
  go_enter Tryd.func21, Tryd.ntmps21
  go_wp2
  go_quiet (fail)
  go_wp2_with fail
  refine (K1.out _ HF.out.drewN).mono ?_
  rintro e w1 ⟨la, lc, rfl, hF1, hb1, _⟩
  have H1 : Hid (FileAt w1 g P m (bs.extract 0 (m + k)) ∧ But g P w w1) := ⟨hF1, ((But.refl _ _ _).drewN).trans hb1⟩
  clear hF1 hb1 c0 c1 HF K1 d0 d1 d2 d3
  rcases hd with hd | hd
  · have hd' : (q : Int) = 0 := of_decide_eq_true hd
    go_wp2_with fail
    refine (fsync_any g P m (bs.extract 0 (m + k)) (by rw [HH.out.2.2]; exact Nat.le_trans HH.out.1 HH.out.2.1) _ H1.out.1).mono ?_
    rintro e w2 ⟨rfl, hF2, hb2⟩
    rw [HH.out.2.2] at hF2
    have H2 : Hid (FileAt w2 g P (m + k) (bs.extract 0 (m + k)) ∧ But g P w w2) := ⟨hF2, H1.out.2.trans hb2⟩
    clear hF2 hb2 H1
    go_wp2_with fail
    go_ret
    exact ⟨rfl, H2.out⟩
  · by_cases hq : (q : Int) = 0
    all_goals
      go_wp2_with fail
      refine (fsync_any g P m (bs.extract 0 (m + k)) (by rw [HH.out.2.2]; exact Nat.le_trans HH.out.1 HH.out.2.1) _ H1.out.1).mono ?_
      rintro e w2 ⟨rfl, hF2, hb2⟩
      rw [HH.out.2.2] at hF2
      have H2 : Hid (FileAt w2 g P (m + k) (bs.extract 0 (m + k)) ∧ But g P w w2) := ⟨hF2, H1.out.2.trans hb2⟩
      clear hF2 hb2 H1
      go_wp2_with fail
      go_ret
      exact ⟨rfl, H2.out⟩
set_option maxHeartbeats 2000000 in
theorem fcrash_byte (g : Nat) (P : Nat → Prop) (m k q : Nat) (bs : ByteArray) (hk : m + k < bs.size) (hz : bs.size ≤ 1048576) (hq : q < 256) (hq0 : 0 < q) (w : World) (hF : FileAt w g P m bs) :
    Calls Tryd.prog 21 #[.pointer (some ⟨g, 0, none⟩), .int .i64 (k : Nat), .int .i64 (q : Nat)] w fun e w' => e = .returned (.int .i64 0) ∧ FileAt w' g P (m + k + 1) (bs.extract 0 (m + k) ++ oneB (xr (bs.data.toList.getD (m + k) 0) q)) ∧ But g P w w' := by
  have HF : Hid (FileAt w g P m bs) := hF
  obtain ⟨a, cap, c0, c1, fz, hg, hB, hR⟩ := hF
  obtain ⟨i0, hi, hz0, hz1, hz2⟩ := infoF8'
  have m0 : (m : Int) ≤ (bs.size : Int) := by omega
  have z0 : (bs.size : Int) ≤ 1048576 := by omega
  have d0 : decide ((k : Int) < 0) = false := decide_eq_false (by omega)
  have d1 : decide ((bs.size : Int) - (m : Int) < (k : Int)) = false := decide_eq_false (by omega)
  have d2 : decide ((q : Int) < 0) = false := decide_eq_false (by omega)
  have d3 : decide ((255 : Int) < (q : Int)) = false := decide_eq_false (by omega)
  have ez : (bs.extract 0 (m + k)).size = m + k := by rw [ByteArray.size_extract]; omega
  have K1 : Hid _ := fun (w' : World) (h : FileAt w' g P m bs) => letGo_any g P m (m + k) bs (by omega) w' h
  rw [Int.natCast_add] at K1
  have HH : Hid (m + k < bs.size ∧ bs.size ≤ 1048576 ∧ (bs.extract 0 (m + k)).size = m + k) := ⟨hk, hz, ez⟩
  have s0 : (m : Int) + (k : Int) ≤ 1048576 := by omega
  have q0 : ¬ q = 0 := by omega
  have q0' : ((q : Int) != 0) = true := by simp only [bne_iff_ne]; omega
  have q1 : 0 < bs.size - (m + k) := by omega
  have q2 : IntKind.u8.wrap (q : Int) = (q : Int) := wrap_u8_nat q hq
  obtain ⟨x, hx⟩ : ∃ x, x = bs.data.toList.getD (m + k) 0 := ⟨_, rfl⟩
  have q3 : bits .xor .u8 (x.toNat : Int) (q : Int) = ((xr x q).toNat : Nat) := bits_xor8 x q
  rw [← hx]
  have HX : Hid (x = bs.data.toList.getD (m + k) 0) := hx
  clear fz hg hB hR hz hk ez hq hx hq0
  go_enter Tryd.func21, Tryd.ntmps21
  go_wp2
  go_quiet (fail)
  go_wp2_with fail
  refine (K1.out _ HF.out.drewN).mono ?_
  rintro e w1 ⟨la, lc, rfl, hF1, hb1, hL⟩
  obtain ⟨b, rfl, hL1, hL2, hL3⟩ := hL HH.out.1
  rw [← HX.out] at hL1
  have H1 : Hid (FileAt w1 g P m (bs.extract 0 (m + k)) ∧ But g P w w1) := ⟨hF1, ((But.refl _ _ _).drewN).trans hb1⟩
  clear c0 c1 hb1
  obtain ⟨a1, cap1, c0, c1, fz, hg, hB, hR⟩ := hF1
  rw [HH.out.2.2] at c0
  have f0 := fz 0
  have HR : Hid (_ ∧ _ ∧ _ ∧ _) := ⟨fz, hg, hB, hR⟩
  clear fz hg hB hR HF K1 d0 d1 d2 d3 hL
  go_wp2_with fail
  have HS : w1.drew.cell? ⟨g, 0, none⟩ = some (.slice a1 (m + k) cap1) ∧ w1.drew.cell? ⟨b, m + k, none⟩ = some (.int .u8 (x.toNat : Int)) ∧ Below w1.heap.size w1 w1.drew := ⟨c0, hL1, (Below.refl _ _).drew⟩
  have hsz : ∀ w, (Go.sizeOf 5).run Tryd.prog w = .ok 1 w := fun _ => by kernel_rfl
  have HS2 : (w1.drew.alloc (.cells #[.int .u8 ((xr x q).toNat : Int)] 5)).cell? ⟨g, 0, none⟩ = some (.slice a1 (m + k) cap1) ∧ (w1.drew.alloc (.cells #[.int .u8 ((xr x q).toNat : Int)] 5)).cell? ⟨b, m + k, none⟩ = some (.int .u8 (x.toNat : Int)) ∧ Below w1.heap.size w1 (w1.drew.alloc (.cells #[.int .u8 ((xr x q).toNat : Int)] 5)) := ⟨(World.cell?_alloc_lt w1.drew _ ⟨g, 0, none⟩ (Nat.lt_of_not_le fun c => HR.out.2.1 (HR.out.2.2.1 g c))).trans c0, (World.cell?_alloc_lt w1.drew _ ⟨b, m + k, none⟩ hL3).trans hL1, below_alloc0 ((Below.refl _ _).drew) _⟩
  have HB2 : Hid (Off P w1 (w1.drew.alloc (.cells #[.int .u8 ((xr x q).toNat : Int)] 5))) := Off.of_below HS2.2.2 HR.out.2.2.1
  have HR2 : Hid (RowB (w1.drew.alloc (.cells #[.int .u8 ((xr x q).toNat : Int)] 5)) P a1 (bs.extract 0 (m + k)) cap1 ∧ (bs.extract 0 (m + k)).size + (oneB (xr x q)).size ≤ 140737488355328 ∧ (∀ k', (w1.drew.alloc (.cells #[.int .u8 ((xr x q).toNat : Int)] 5)).heap.size ≤ k' → P k') ∧ ∀ j u, (strCells (oneB (xr x q)))[j]? = some u → (w1.drew.alloc (.cells #[.int .u8 ((xr x q).toNat : Int)] 5)).cell? ((⟨w1.heap.size, 0, none⟩ : Addr).add j) = some u) := ⟨HR.out.2.2.2.call HS2.2.2, by rw [HH.out.2.2, oneB_size]; have := HH.out; omega, fun k' hk' => HR.out.2.2.1 k' (Nat.le_trans HS2.2.2.size hk'), fun j u hj => by
    match j, hj with
    | 0, hj => simp [strCells, oneB] at hj; subst hj; simp [go_sem, Addr.add_lit]
    | j + 1, hj => simp [strCells, oneB] at hj⟩
  refine wp_region_N (fun w' => w'.cell? ⟨g, 0, none⟩ = some (.slice a1 (m + k) cap1) ∧ w'.cell? ⟨b, m + k, none⟩ = some (.int .u8 (x.toNat : Int)) ∧ Below w1.heap.size w1 w') 12 16 rfl (by kernel_rfl) ?_
  refine wpAnyN_takeF (i := 0) (oi := ?o0) (v := ?v0) ?hi0 (by kernel_rfl) (by kernel_rfl) (by kernel_rfl) (by decide) ?hQ0 ?hy0 HS ?more0
  case hi0 => rw [List.getElem?_toArray]; exact rfl
  case hQ0 => exact fun _ _ _ h => h
  case hy0 =>
    refine Or.inl ⟨by rfl, ?_⟩
    intro w' hSw
    clear hSw
    go_simp
    try with_reducible rfl
  simp only [Act.put, List.setIfInBounds_toArray, List.set_cons_zero, List.set_cons_succ]
  refine wpAnyN_takeF (i := 1) (oi := ?o1) (v := ?v1) ?hi1 (by kernel_rfl) (by kernel_rfl) (by kernel_rfl) (by decide) ?hQ1 ?hy1 HS ?more1
  case hi1 => rw [List.getElem?_toArray]; exact rfl
  case hQ1 => exact fun _ _ _ h => h
  case hy1 =>
    refine Or.inl ⟨by rfl, ?_⟩
    intro w' hSw
    clear hSw
    go_simp
    try with_reducible rfl
  simp only [Act.put, List.setIfInBounds_toArray, List.set_cons_zero, List.set_cons_succ]
  refine wpAnyN_takeF (i := 2) (oi := ?o2) (v := ?v2) ?hi2 (by kernel_rfl) (by kernel_rfl) (by kernel_rfl) (by decide) ?hQ2 ?hy2 HS ?more2
  case hi2 => rw [List.getElem?_toArray]; exact rfl
  case hQ2 => exact fun _ _ _ h => h
  case hy2 =>
    refine Or.inl ⟨by rfl, ?_⟩
    intro w' hSw
    clear hSw
    go_simp
    try with_reducible rfl
  simp only [Act.put, List.setIfInBounds_toArray, List.set_cons_zero, List.set_cons_succ]
  refine wpAnyN_takeF (i := 3) (oi := ?o3) (v := ?v3) ?hi3 (by kernel_rfl) (by kernel_rfl) (by kernel_rfl) (by decide) ?hQ3 ?hy3 HS ?more3
  case hi3 => rw [List.getElem?_toArray]; exact rfl
  case hQ3 => exact fun _ _ _ h => h
  case hy3 =>
    refine Or.inl ⟨by rfl, ?_⟩
    intro w' hSw
    clear hSw
    go_simp
    try with_reducible rfl
  simp only [Act.put, List.setIfInBounds_toArray, List.set_cons_zero, List.set_cons_succ]
  refine wpAnyN_takeL (i := 4) (oi := ?o4) (v := ?v4) [12] ?hi4 (by kernel_rfl) (by kernel_rfl) (by kernel_rfl) (by kernel_rfl) (by decide) (by decide) (by kernel_rfl) ?hQ4 ?hy4 HS ?more4
  case hi4 => rw [List.getElem?_toArray]; exact rfl
  case hQ4 => exact fun _ _ _ h => h
  case hy4 =>
    refine Or.inl ⟨by rfl, ?_⟩
    intro w' hSw
    obtain ⟨e0, e1, -⟩ := hSw
    go_simp
    try with_reducible rfl
  simp only [Act.put, List.setIfInBounds_toArray, List.set_cons_zero, List.set_cons_succ]
  refine wpAnyN_takeF (i := 5) (oi := ?o5) (v := ?v5) ?hi5 (by kernel_rfl) (by kernel_rfl) (by kernel_rfl) (by decide) ?hQ5 ?hy5 HS ?more5
  case hi5 => rw [List.getElem?_toArray]; exact rfl
  case hQ5 => exact fun _ _ _ h => h
  case hy5 =>
    refine Or.inl ⟨by rfl, ?_⟩
    intro w' hSw
    clear hSw
    go_simp
    try with_reducible rfl
  simp only [Act.put, List.setIfInBounds_toArray, List.set_cons_zero, List.set_cons_succ]
  refine wpAnyN_takeF (i := 6) (oi := ?o6) (v := ?v6) ?hi6 (by kernel_rfl) (by kernel_rfl) (by kernel_rfl) (by decide) ?hQ6 ?hy6 HS ?more6
  case hi6 => rw [List.getElem?_toArray]; exact rfl
  case hQ6 => exact fun _ _ _ h => h
  case hy6 =>
    refine Or.inl ⟨by rfl, ?_⟩
    intro w' hSw
    clear hSw
    go_simp
    try with_reducible rfl
  simp only [Act.put, List.setIfInBounds_toArray, List.set_cons_zero, List.set_cons_succ]
  refine wpAnyN_takeL (i := 7) (oi := ?o7) (v := ?v7) [10, 11, 12] ?hi7 (by kernel_rfl) (by kernel_rfl) (by kernel_rfl) (by kernel_rfl) (by decide) (by decide) (by kernel_rfl) ?hQ7 ?hy7 HS ?more7
  case hi7 => rw [List.getElem?_toArray]; exact rfl
  case hQ7 => exact fun _ _ _ h => h
  case hy7 =>
    refine Or.inl ⟨by rfl, ?_⟩
    intro w' hSw
    obtain ⟨e0, e1, -⟩ := hSw
    go_simp
    try with_reducible rfl
  simp only [Act.put, List.setIfInBounds_toArray, List.set_cons_zero, List.set_cons_succ]
  refine wpAnyN_takeF (i := 8) (oi := ?o8) (v := ?v8) ?hi8 (by kernel_rfl) (by kernel_rfl) (by kernel_rfl) (by decide) ?hQ8 ?hy8 HS ?more8
  case hi8 => rw [List.getElem?_toArray]; exact rfl
  case hQ8 => exact fun _ _ _ h => h
  case hy8 =>
    refine Or.inl ⟨by rfl, ?_⟩
    intro w' hSw
    clear hSw
    go_simp
    try with_reducible rfl
  simp only [Act.put, List.setIfInBounds_toArray, List.set_cons_zero, List.set_cons_succ]
  refine wpAnyN_takeF (i := 9) (oi := ?o9) (v := ?v9) ?hi9 (by kernel_rfl) (by kernel_rfl) (by kernel_rfl) (by decide) ?hQ9 ?hy9 HS ?more9
  case hi9 => rw [List.getElem?_toArray]; exact rfl
  case hQ9 => exact fun _ _ _ h => h
  case hy9 =>
    refine Or.inl ⟨by rfl, ?_⟩
    intro w' hSw
    clear hSw
    go_simp
    try with_reducible rfl
  simp only [Act.put, List.setIfInBounds_toArray, List.set_cons_zero, List.set_cons_succ]
  refine wpAnyN_takeF (i := 10) (oi := ?o10) (v := ?v10) ?hi10 (by kernel_rfl) (by kernel_rfl) (by kernel_rfl) (by decide) ?hQ10 ?hy10 HS ?more10
  case hi10 => rw [List.getElem?_toArray]; exact rfl
  case hQ10 => exact fun _ _ _ h => h
  case hy10 =>
    refine Or.inl ⟨by rfl, ?_⟩
    intro w' hSw
    clear hSw
    go_simp
    try with_reducible rfl
  simp only [Act.put, List.setIfInBounds_toArray, List.set_cons_zero, List.set_cons_succ]
  refine wpAnyN_one (i := 11) (o := ?o11) (by kernel_rfl) ?hi11 ?hw11 ?st11
  case hi11 => rw [List.getElem?_toArray]; exact rfl
  case hw11 => exact rfl
  intro K hK
  have HK11 : Hid _ := hK
  clear hK
  go_simp
  refine HK11.out _ _ ⟨fun _ => HS2, ?_⟩
  clear HK11 K
  try simp only [Act.put, List.setIfInBounds_toArray, List.set_cons_zero, List.set_cons_succ]
  refine wpAnyN_one (i := 12) (o := ?o12) (by kernel_rfl) ?hi12 ?hw12 ?st12
  case hi12 => rw [List.getElem?_toArray]; exact rfl
  case hw12 => exact rfl
  intro K hK
  have HK12 : Hid _ := hK
  clear hK
  refine owp_append_RowB _ (.tmp 55) (.tmp 62) 61 rfl P 5 i0 Tryd.underlying61 hi hz0 hz1 hz2 a1 (m + k) cap1 (bs.extract 0 (m + k)) (oneB (xr x q)) rfl HH.out.2.2.symm HR2.out.1 HR2.out.2.1 HR2.out.2.2.1 ⟨w1.heap.size, 0, none⟩ 1 1 rfl rfl HR2.out.2.2.2 ?_
  intro a2 m2 cap2 w2 hm2 hR2 hb2
  have H2 : Hid (m2 = m + k + (oneB (xr x q)).size ∧ RowB w2 P a2 (bs.extract 0 (m + k) ++ oneB (xr x q)) cap2 ∧ Off P w1 w2) := ⟨hm2, hR2, HB2.out.trans hb2⟩
  clear hm2 hR2 hb2
  have e0 : w2.cell? ⟨g, 0, none⟩ = some (.slice a1 (m + k) cap1) := (H2.out.2.2.cell (p := ⟨g, 0, none⟩) HR.out.2.1).trans c0
  have e1 : w2.frozen? ⟨g, 0, none⟩ = false := (H2.out.2.2.frozen (p := ⟨g, 0, none⟩) HR.out.2.1).trans f0
  refine HK12.out _ _ ⟨fun h => absurd h (by decide +kernel), ?_⟩
  clear HK12 K
  try simp only [Act.put, List.setIfInBounds_toArray, List.set_cons_zero, List.set_cons_succ]
  refine wpAnyN_one (i := 13) (o := ?o13) (by kernel_rfl) ?hi13 ?hw13 ?st13
  case hi13 => rw [List.getElem?_toArray]; exact rfl
  case hw13 => exact rfl
  intro K hK
  have HK13 : Hid _ := hK
  clear hK
  go_simp
  refine HK13.out _ _ ⟨fun h => absurd h (by decide +kernel), ?_⟩
  clear HK13 K
  try simp only [Act.put, List.setIfInBounds_toArray, List.set_cons_zero, List.set_cons_succ]
  refine wpAnyN_one (i := 14) (o := ?o14) (by kernel_rfl) ?hi14 ?hw14 ?st14
  case hi14 => rw [List.getElem?_toArray]; exact rfl
  case hw14 => exact rfl
  intro K hK
  have HK14 : Hid _ := hK
  clear hK
  go_simp
  refine HK14.out _ _ ⟨fun h => absurd h (by decide +kernel), ?_⟩
  clear HK14 K
  try simp only [Act.put, List.setIfInBounds_toArray, List.set_cons_zero, List.set_cons_succ]
  refine wpAnyN_one (i := 15) (o := ?o15) (by kernel_rfl) ?hi15 ?hw15 ?st15
  case hi15 => rw [List.getElem?_toArray]; exact rfl
  case hw15 => exact rfl
  intro K hK
  have HK15 : Hid _ := hK
  clear hK
  go_simp
  refine HK15.out _ _ ⟨fun h => absurd h (by decide +kernel), ?_⟩
  clear HK15 K
  try simp only [Act.put, List.setIfInBounds_toArray, List.set_cons_zero, List.set_cons_succ]
  refine wpAnyN_done (by kernel_rfl) ?_ _
  have H3 : Hid (FileAt (w2.setCell ⟨g, 0, none⟩ (.slice a2 m2 cap2)) g P m (bs.extract 0 (m + k) ++ oneB (xr x q)) ∧ But g P w (w2.setCell ⟨g, 0, none⟩ (.slice a2 m2 cap2))) := by
    obtain ⟨fz, hg, hB, hR⟩ := HR.out
    obtain ⟨hm, hR1, hb1⟩ := H2.out
    refine ⟨⟨a2, cap2, ?_, ?_, fun o => ?_, hg, ?_, hR1.set hg _⟩, H1.out.2.trans ((But.of_off hb1).set _)⟩
    · rw [World.cell?_setCell_same _ _ _ e0, hm, ByteArray.size_append, HH.out.2.2]
    · rw [World.cell?_setCell_other _ _ _ _ (by intro c; injection c with _ c2 _; omega)]; exact (hb1.cell (p := ⟨g, 1, none⟩) hg).trans c1
    · rw [World.frozen?_setCell]; exact (hb1.frozen (p := ⟨g, o, none⟩) hg).trans (fz o)
    · rw [World.size_setCell]; exact fun k' hk' => hB k' (Nat.le_trans hb1.size hk')
  have ez2 : (bs.extract 0 (m + k) ++ oneB (xr x q)).size = m + k + 1 := by rw [ByteArray.size_append, HH.out.2.2, oneB_size]
  have HZ : Hid ((bs.extract 0 (m + k) ++ oneB (xr x q)).size = m + k + 1) := ez2
  clear HS HS2 HB2 HR2 H2 e0 e1 H1 ez2 c0 c1 f0 hL1 hL2 hL3 HR hsz
  go_wp2_with fail
  refine (fsync_any g P m (bs.extract 0 (m + k) ++ oneB (xr x q)) (by rw [HZ.out]; have := HH.out; omega) _ H3.out.1).mono ?_
  rintro e w4 ⟨rfl, hF4, hb4⟩
  rw [HZ.out] at hF4
  have H4 : Hid (FileAt w4 g P (m + k + 1) (bs.extract 0 (m + k) ++ oneB (xr x q)) ∧ But g P w w4) := ⟨hF4, H3.out.2.trans hb4⟩
  clear hF4 hb4 H3
  go_wp2_with fail
  go_ret
  exact ⟨rfl, H4.out⟩
end Go.Proofs.YtdnahobafhelhaaDoor
