/- digest.Hash.Write: more is written. -/
import Derived.Test.YtienklnigigepaaGreatDoorShaM
import Derived.Lib.LazyBuf
namespace Go.Proofs.YtienklnigigepaaGreatDoor
open Go.RowKit

def sb (t : ByteArray) (j : Nat) : Nat := (t.data.toList.map fun x => x.toNat).getD j 0
def strLen : Value → Nat | .string t => t.size | _ => 0
def bcs (t : ByteArray) (n : Nat) : List Value := (t.data.toList.map fun x => Value.int .u8 (x.toNat : Int)).take n
theorem bcs_length (t : ByteArray) (n : Nat) (h : n ≤ t.size) : (bcs t n).length = n := by
  have e : t.data.toList.length = t.size := (Lib.size_eq t).symm
  simp [bcs, e]
  omega
theorem bcs_get (t : ByteArray) (n j : Nat) (h : n ≤ t.size) (hj : j < n) : (bcs t n)[j]? = some (.int .u8 (sb t j : Nat)) := by
  have e : t.data.toList.length = t.size := (Lib.size_eq t).symm
  unfold bcs sb
  rw [List.getElem?_take_of_lt hj, List.getElem?_map, List.getD_eq_getElem?_getD, List.getElem?_map, List.getElem?_eq_getElem (by omega)]
  rfl
theorem bcs_one (t : ByteArray) (n : Nat) : ∀ v ∈ bcs t n, v.oneCell' = true := by
  intro v hv
  have := List.mem_of_mem_take hv
  obtain ⟨x, _, rfl⟩ := List.mem_map.1 this
  rfl
theorem run_copy_min {P : Program} (w : World) (dT sT ty elem : TypeId) (b o dLen dCap : Nat) (t : ByteArray) (n : Nat) (hn : n = Nat.min t.size dLen)
    (hu : P.underlying dT = some (.slice elem)) (hz : ∀ w, (Go.sizeOf elem).run P w = .ok 1 w)
    (hc : ∀ j, j < n → (w.cell? ⟨b, o + j, none⟩).isSome = true) (hf : ∀ j, j < n → w.frozen? ⟨b, o + j, none⟩ = false) :
    (Builtin.copy_ #[dT, sT] ty #[.slice (some ⟨b, o, none⟩) dLen dCap, .string t]).run P w = .ok (goInt n) (w.setCells b o (bcs t n)) := by
  have hl : (bcs t n).length = n := bcs_length t n (by rw [hn]; exact Nat.min_le_left _ _)
  have hst := run_storeCells_cells (P := P) b o (bcs t n) 0 w (by rw [hl]; simpa using hc) (by rw [hl]; simpa using hf) (bcs_one t n)
  simp [Builtin.copy_, run_underlying hu, Builtin.lenOf, Builtin.firstCells, hz, ← hn]
  rw [show List.take n (List.map (fun x : UInt8 => Value.int IntKind.u8 (x.toNat : Int)) t.data.toList) = bcs t n from rfl, hst]
  rfl
/-- A hash that was written the first len bytes of a text. -/
def HashT (w : World) (g : Nat) (T : Nat → Nat) (len : Nat) : Prop := ∃ b : Nat → Nat, (∀ j, j < len % 64 → b j = T (64 * (len / 64) + j)) ∧ HashW w g (hashAt T (len / 64)) b len
theorem HashT.call {W w1 : World} {g len : Nat} {T : Nat → Nat} (h : HashT W g T len) (hb : Below W.heap.size W w1) : HashT w1 g T len := by
  obtain ⟨b, h1, h2⟩ := h
  exact ⟨b, h1, h2.call hb⟩
theorem write_nil (s : ByteArray) (w : World) : Calls Tryz.prog 127 #[.pointer none, .string s] w fun e w' => e = .returned (.int .i64 7) ∧ Below w.heap.size w w' := by
  go_enter Tryz.func127, Tryz.ntmps127
  go_wp2
  go_ret
  exact ⟨rfl, Below.refl _ _⟩

theorem extract_size (t : ByteArray) (n : Nat) : (t.extract n t.size).size = t.size - n := by
  simp [ByteArray.size_extract]
theorem extract_byte (t : ByteArray) (n j : Nat) (hj : j < t.size - n) : sb (t.extract n t.size) j = sb t (n + j) := by
  have e : (t.extract n t.size).data.toList = (t.data.toList.drop n).take (t.size - n) := by simp [ByteArray.data_extract, Array.toList_extract, List.extract]
  unfold sb
  have l : t.data.toList.length = t.size := (Lib.size_eq t).symm
  rw [e, List.take_of_length_le (by rw [List.length_drop]; omega)]
  simp [List.getD, List.map_drop]
theorem size_setCells (g : Nat) : ∀ (vs : List Value) (o : Nat) (w : World), (w.setCells g o vs).heap.size = w.heap.size
  | [], _, _ => rfl
  | v :: r, o, w => by rw [World.setCells, size_setCells g r (o + 1), World.size_setCell]
/-- Bytes of the text go over into the block, and the length is set. -/
theorem HashW.copy {w : World} {g q r n : Nat} {x : E8} {b : Nat → Nat} {t : ByteArray} (h : HashW w g x b q) (hr : r + n ≤ 64) (hn : n ≤ t.size) (b' : Nat → Nat) (hb' : ∀ j, j < 64 → b' j = if r ≤ j ∧ j < r + n then sb t (j - r) else b j) :
    HashW ((w.setCells g (8 + r) (bcs t n)).setCell ⟨g, 72, none⟩ (.int .i64 ((q + n : Nat) : Int))) g x b' (q + n) := by
  obtain ⟨h1, h2, h3, h4, h5⟩ := h
  have hl := bcs_length t n hn
  have hc : ∀ j, j < n → (w.cell? ⟨g, 8 + r + j, none⟩).isSome = true := fun j hj => by rw [show 8 + r + j = 8 + (r + j) from by omega, h2 (r + j) (by omega)]; rfl
  have out : ∀ o, (o < 8 + r ∨ 8 + r + n ≤ o) → (w.setCells g (8 + r) (bcs t n)).cell? ⟨g, o, none⟩ = w.cell? ⟨g, o, none⟩ := fun o ho => World.cell?_setCells_out g (bcs t n) (8 + r) w ⟨g, o, none⟩ (fun _ _ => by rw [hl]; exact ho)
  refine ⟨fun j hj => ?_, fun j hj => ?_, ?_, fun o => by rw [World.frozen?_setCell, World.frozen?_setCells]; exact h4 o, ?_⟩
  · rw [World.cell?_setCell_other _ _ _ _ (by intro c; injection c with _ c2 _; omega), out j (by omega)]; exact h1 j hj
  · rw [World.cell?_setCell_other _ _ _ _ (by intro c; injection c with _ c2 _; omega), hb' j hj]
    by_cases e : r ≤ j ∧ j < r + n
    · rw [if_pos e]
      have k := World.cell?_setCells_in g (bcs t n) (8 + r) w (fun i hi => hc i (by rw [hl] at hi; exact hi)) (j - r) (by rw [hl]; omega)
      rw [show 8 + r + (j - r) = 8 + j from by omega] at k
      rw [k, ← List.getElem?_eq_getElem, bcs_get t n (j - r) hn (by omega)]
    · rw [if_neg e, out (8 + j) (by omega)]; exact h2 j hj
  · exact World.cell?_setCell_same _ _ _ ((out 72 (by omega)).trans h3)
  · have s1 : (w.setCells g (8 + r) (bcs t n)).heap.size = w.heap.size := size_setCells g _ _ _
    rw [World.size_setCell, s1]; exact h5
set_option maxRecDepth 100000 in
set_option maxHeartbeats 8000000 in
theorem write_any (g : Nat) (T : Nat → Nat) (hT : ∀ j, T j < 256) (len N : Nat) (s : ByteArray) (hs : ∀ j, j < s.size → sb s j = T (len + j)) (hN : len + s.size = N) (hN2 : N < 4611686018427387904) (w : World) (hH : HashT w g T len) (hC : Cube w) (hg : 5 < g) :
    Calls Tryz.prog 127 #[.pointer (some ⟨g, 0, none⟩), .string s] w fun e w' => e = .returned (.int .i64 0) ∧ HashT w' g T N ∧ Cube w' ∧ Below g w w' := by
  have K : Hid _ := fun (x : E8) (b : Nat → Nat) (n : Nat) (hbl : ∀ j, b j < 256) (w : World) (h : HashW w g x b n) (hC : Cube w) => mix_any g x b n hbl w h hC hg
  have H0 : Hid (_ ∧ _ ∧ _ ∧ _ ∧ _) := ⟨hT, hs, hN, hH, hC⟩
  clear hT hs hN hH hC
  go_enter Tryz.func127, Tryz.ntmps127
  go_wp2_with fail
  go_loopw [1] (fun sv wr => ∃ (q : Nat) (t : ByteArray), sv = .string t ∧ q + t.size = N ∧ (∀ j, j < t.size → sb t j = T (q + j)) ∧ HashT wr g T q ∧ Cube wr ∧ Below g w wr)
    (fun sv _ => strLen sv)
  case atStart => exact ⟨len, s, rfl, H0.out.2.2.1, H0.out.2.1, H0.out.2.2.2.1, H0.out.2.2.2.2, Below.refl _ _⟩
  case round =>
    obtain ⟨q, t, rfl, hq, ht, ⟨b, hb, hW⟩, hC, hB⟩ := hrel
    by_cases h0 : t.size = 0
    · have hz : (t.size : Int) = 0 := by omega
      have HF : Hid (HashT wr g T N ∧ Cube wr ∧ Below g w wr) := by
        rw [show N = q from by omega]
        exact ⟨⟨b, hb, hW⟩, hC, hB⟩
      clear hq ht hb hW hC hB h0
      go_wp2_with fail
      go_ret
      exact ⟨rfl, HF.out⟩
    · obtain ⟨x, hx⟩ : ∃ x, x = hashAt T (q / 64) := ⟨_, rfl⟩
      rw [← hx] at hW
      obtain ⟨r, hr⟩ : ∃ r, r = q % 64 := ⟨_, rfl⟩
      obtain ⟨m, hm⟩ : ∃ m, m = 64 - r := ⟨_, rfl⟩
      obtain ⟨n, hn⟩ : ∃ n, n = Nat.min t.size m := ⟨_, rfl⟩
      have n1 : n ≤ t.size := by rw [hn]; exact Nat.min_le_left _ _
      have n2 : n ≤ m := by rw [hn]; exact Nat.min_le_right _ _
      have n3 : n = t.size ∨ n = m := by rw [hn]; exact (by omega : min t.size m = t.size ∨ min t.size m = m)
      have e0 : (0 : Int) < (t.size : Int) := by omega
      have e1 : (q : Int).tmod 64 = (r : Nat) := by rw [Int.tmod_eq_emod_of_nonneg (by omega)]; omega
      have e1' : (q : Int) % 64 = (r : Nat) := by omega
      have e2 : (r : Int) ≤ 64 := by omega
      have e3 : (64 : Int) - (r : Int) = (m : Nat) := by omega
      have e3' : 64 - r = m := hm.symm
      have e4 : ¬ (64 = r) := by omega
      have hsz : ∀ w, (Go.sizeOf 5).run Tryz.prog w = .ok 1 w := fun _ => by kernel_rfl
      have hcp : (Builtin.copy_ #[95, 9] 3 #[.slice (some ⟨g, 8 + r, none⟩) m m, .string t]).run Tryz.prog wr.drew = .ok (.int .i64 (n : Nat)) (wr.drew.setCells g (8 + r) (bcs t n)) :=
        run_copy_min wr.drew _ _ _ 5 g (8 + r) m m t n hn Tryz.underlying95 hsz (fun j hj => by
          have := hW.2.1 (r + j) (by omega)
          rw [show 8 + r + j = 8 + (r + j) from by omega]
          exact (congrArg Option.isSome this).trans rfl) (fun j _ => hW.2.2.2.1 (8 + r + j))
      have HSD : HashW wr.drew g x b q ∧ Below g w wr.drew := ⟨hW, hB.drew⟩
      have HR : Hid (True ∧ r = q % 64 ∧ m = 64 - r ∧ q + t.size = N ∧ (∀ j, j < t.size → sb t j = T (q + j)) ∧ (∀ j, j < q % 64 → b j = T (64 * (q / 64) + j)) ∧ Cube wr ∧ x = hashAt T (q / 64)) := ⟨trivial, hr, hm, hq, ht, hb, hC, hx⟩
      clear hx hr hm hn hq ht hb hC hW hB hsz
      go_wp2_with fail
      refine wp_region_N (fun w' => HashW w' g x b q ∧ Below g w w') 7 12 rfl (by kernel_rfl) ?_
      refine wpAnyN_takeF (i := 0) (oi := ?o0) (v := ?v0) ?hi0 (by kernel_rfl) (by kernel_rfl) (by kernel_rfl) (by decide) ?hQ0 ?hy0 HSD ?more0
      case hi0 => rw [List.getElem?_toArray]; exact rfl
      case hQ0 => exact fun _ _ _ h => h
      case hy0 =>
        refine Or.inl ⟨by rfl, ?_⟩
        intro w' hSw
        clear hSw
        go_simp
        try with_reducible rfl
      simp only [Act.put, List.setIfInBounds_toArray, List.set_cons_zero, List.set_cons_succ]
      refine wpAnyN_takeF (i := 1) (oi := ?o1) (v := ?v1) ?hi1 (by kernel_rfl) (by kernel_rfl) (by kernel_rfl) (by decide) ?hQ1 ?hy1 HSD ?more1
      case hi1 => rw [List.getElem?_toArray]; exact rfl
      case hQ1 => exact fun _ _ _ h => h
      case hy1 =>
        refine Or.inl ⟨by rfl, ?_⟩
        intro w' hSw
        clear hSw
        go_simp
        try with_reducible rfl
      simp only [Act.put, List.setIfInBounds_toArray, List.set_cons_zero, List.set_cons_succ]
      refine wpAnyN_takeF (i := 2) (oi := ?o2) (v := ?v2) ?hi2 (by kernel_rfl) (by kernel_rfl) (by kernel_rfl) (by decide) ?hQ2 ?hy2 HSD ?more2
      case hi2 => rw [List.getElem?_toArray]; exact rfl
      case hQ2 => exact fun _ _ _ h => h
      case hy2 =>
        refine Or.inl ⟨by rfl, ?_⟩
        intro w' hSw
        clear hSw
        go_simp
        try with_reducible rfl
      simp only [Act.put, List.setIfInBounds_toArray, List.set_cons_zero, List.set_cons_succ]
      refine wpAnyN_takeF (i := 3) (oi := ?o3) (v := ?v3) ?hi3 (by kernel_rfl) (by kernel_rfl) (by kernel_rfl) (by decide) ?hQ3 ?hy3 HSD ?more3
      case hi3 => rw [List.getElem?_toArray]; exact rfl
      case hQ3 => exact fun _ _ _ h => h
      case hy3 =>
        refine Or.inl ⟨by rfl, ?_⟩
        intro w' hSw
        clear hSw
        go_simp
        try with_reducible rfl
      simp only [Act.put, List.setIfInBounds_toArray, List.set_cons_zero, List.set_cons_succ]
      refine wpAnyN_takeF (i := 4) (oi := ?o4) (v := ?v4) ?hi4 (by kernel_rfl) (by kernel_rfl) (by kernel_rfl) (by decide) ?hQ4 ?hy4 HSD ?more4
      case hi4 => rw [List.getElem?_toArray]; exact rfl
      case hQ4 => exact fun _ _ _ h => h
      case hy4 =>
        refine Or.inl ⟨by rfl, ?_⟩
        intro w' hSw
        clear hSw
        go_simp
        try with_reducible rfl
      simp only [Act.put, List.setIfInBounds_toArray, List.set_cons_zero, List.set_cons_succ]
      refine wpAnyN_takeF (i := 5) (oi := ?o5) (v := ?v5) ?hi5 (by kernel_rfl) (by kernel_rfl) (by kernel_rfl) (by decide) ?hQ5 ?hy5 HSD ?more5
      case hi5 => rw [List.getElem?_toArray]; exact rfl
      case hQ5 => exact fun _ _ _ h => h
      case hy5 =>
        refine Or.inl ⟨by rfl, ?_⟩
        intro w' hSw
        clear hSw
        go_simp
        try with_reducible rfl
      simp only [Act.put, List.setIfInBounds_toArray, List.set_cons_zero, List.set_cons_succ]
      refine wpAnyN_take (i := 6) (oi := ?o6) (v := ?v6) ?hi6 (by kernel_rfl) (by kernel_rfl) (by kernel_rfl) (by kernel_rfl) (by decide) (by kernel_rfl) ?hQ6 ?hy6 HSD ?more6
      case hi6 => rw [List.getElem?_toArray]; exact rfl
      case hQ6 => exact fun _ _ _ h => h
      case hy6 =>
        refine Or.inl ⟨by rfl, ?_⟩
        intro w' hSw
        have hcl := hSw.1.2.2.1
        clear hSw
        go_simp
        try with_reducible rfl
      simp only [Act.put, List.setIfInBounds_toArray, List.set_cons_zero, List.set_cons_succ]
      refine wpAnyN_takeF (i := 9) (oi := ?o9) (v := ?v9) ?hi9 (by kernel_rfl) (by kernel_rfl) (by kernel_rfl) (by decide) ?hQ9 ?hy9 HSD ?more9
      case hi9 => rw [List.getElem?_toArray]; exact rfl
      case hQ9 => exact fun _ _ _ h => h
      case hy9 =>
        refine Or.inl ⟨by rfl, ?_⟩
        intro w' hSw
        clear hSw
        go_simp
        try with_reducible rfl
      simp only [Act.put, List.setIfInBounds_toArray, List.set_cons_zero, List.set_cons_succ]
      refine wpAnyN_one (i := 7) (o := ?o7) (by kernel_rfl) ?hi7 ?hw7 ?st7
      case hi7 => rw [List.getElem?_toArray]; exact rfl
      case hw7 => exact rfl
      intro K hK
      have HK7 : Hid _ := hK
      clear hK
      go_simp
      refine HK7.out _ _ ⟨fun h => absurd h (by decide +kernel), ?_⟩
      clear HK7 K
      try simp only [Act.put, List.setIfInBounds_toArray, List.set_cons_zero, List.set_cons_succ]
      refine wpAnyN_takeF (i := 8) (oi := ?o8) (v := ?v8) ?hi8 (by kernel_rfl) (by kernel_rfl) (by kernel_rfl) (by decide) ?hQ8 ?hy8 HSD ?more8
      case hi8 => rw [List.getElem?_toArray]; exact rfl
      case hQ8 => exact fun _ _ _ h => h
      case hy8 =>
        refine Or.inl ⟨by rfl, ?_⟩
        intro w' hSw
        clear hSw
        go_simp
        try with_reducible rfl
      simp only [Act.put, List.setIfInBounds_toArray, List.set_cons_zero, List.set_cons_succ]
      refine wpAnyN_one (i := 10) (o := ?o10) (by kernel_rfl) ?hi10 ?hw10 ?st10
      case hi10 => rw [List.getElem?_toArray]; exact rfl
      case hw10 => exact rfl
      intro K hK
      have HK10 : Hid _ := hK
      clear hK
      go_simp
      refine HK10.out _ _ ⟨fun h => absurd h (by decide +kernel), ?_⟩
      clear HK10 K
      try simp only [Act.put, List.setIfInBounds_toArray, List.set_cons_zero, List.set_cons_succ]
      refine wpAnyN_one (i := 11) (o := ?o11) (by kernel_rfl) ?hi11 ?hw11 ?st11
      case hi11 => rw [List.getElem?_toArray]; exact rfl
      case hw11 => exact rfl
      intro K hK
      have HK11 : Hid _ := hK
      clear hK
      go_simp
      refine HK11.out _ _ ⟨fun h => absurd h (by decide +kernel), ?_⟩
      clear HK11 K
      try simp only [Act.put, List.setIfInBounds_toArray, List.set_cons_zero, List.set_cons_succ]
      refine wpAnyN_done (by kernel_rfl) ?_ _
      obtain ⟨X, hX⟩ : ∃ X, X = wr.drew.setCells g (8 + r) (bcs t n) := ⟨_, rfl⟩
      rw [← hX]
      obtain ⟨-, hr, hm, hq, ht, hb, hC, hx⟩ := HR.out
      obtain ⟨v, hv⟩ : ∃ v, v = q + n := ⟨_, rfl⟩
      have out : wr.drew.cell? ⟨g, 72, none⟩ = some (.int .i64 (q : Nat)) := HSD.1.2.2.1
      have hcl : X.cell? ⟨g, 72, none⟩ = some (.int .i64 (q : Nat)) := by
        rw [hX]
        exact (World.cell?_setCells_out g (bcs t n) (8 + r) wr.drew ⟨g, 72, none⟩ (fun _ _ => by rw [bcs_length t n n1]; right; show 8 + r + n ≤ 72; omega)).trans out
      have hfl : X.frozen? ⟨g, 72, none⟩ = false := by rw [hX, World.frozen?_setCells]; exact HSD.1.2.2.2.1 72
      have hzl : g < X.heap.size := by rw [hX, size_setCells]; exact HSD.1.2.2.2.2
      have e5 : (q : Int) + (n : Int) = (v : Nat) := by omega
      have e6 : IntKind.i64.wrap (v : Int) = (v : Nat) := by rw [IntKind.wrap_i64]; omega
      have HB : Hid (Below g w (X.setCell ⟨g, 72, none⟩ (.int .i64 (v : Nat)))) := by
        rw [hX]
        exact (below_setCells HSD.2 (Nat.le_refl _) _).setCell (p := ⟨g, 72, none⟩) (Nat.le_refl _) _
      have HC : Hid (Cube (X.setCell ⟨g, 72, none⟩ (.int .i64 (v : Nat)))) := Cube.below H0.out.2.2.2.2 hg HB.out
      have HW : Hid (∀ b' : Nat → Nat, (∀ j, j < 64 → b' j = if r ≤ j ∧ j < r + n then sb t (j - r) else b j) → HashW (X.setCell ⟨g, 72, none⟩ (.int .i64 (v : Nat))) g x b' v) := fun b' hb' => by
        rw [hX, hv]
        exact HashW.copy HSD.1 (by omega) n1 b' hb'
      have HE : Hid ((t.extract n t.size).size = t.size - n ∧ ∀ j, j < t.size - n → sb (t.extract n t.size) j = sb t (n + j)) := ⟨extract_size t n, fun j hj => extract_byte t n j hj⟩
      have HT : Hid (∀ j, j < (t.extract n t.size).size → sb (t.extract n t.size) j = T (v + j)) := fun j hj => by
        rw [HE.out.1] at hj
        rw [HE.out.2 j hj, ht (n + j) (by omega), hv, Nat.add_assoc]
      have HN : Hid (v + (t.extract n t.size).size = N) := by
        show _ = _
        rw [HE.out.1]
        omega
      by_cases hz : v % 64 = 0
      · have e7 : (v : Int).tmod 64 = 0 := by rw [Int.tmod_eq_emod_of_nonneg (by omega)]; omega
        have e7' : (v : Int) % 64 = 0 := by omega
        have HM : Hid (HashW (X.setCell ⟨g, 72, none⟩ (.int .i64 (v : Nat))) g x (fun j => T (64 * (q / 64) + j)) v) := by
          refine HW.out _ (fun j hj => ?_)
          by_cases c : r ≤ j ∧ j < r + n
          · rw [if_pos c, ht (j - r) (by omega)]
            congr 1
            omega
          · rw [if_neg c, hb j (by omega)]
        have HX : Hid (v / 64 = q / 64 + 1 ∧ v % 64 = 0 ∧ x = hashAt T (q / 64)) := ⟨by omega, hz, hx⟩
        clear hX hr hm hq ht hb hC hx hv out HSD hcp HR HW hz n2
        go_wp2_with fail
        refine (K.out x _ v (fun j => H0.out.1 _) _ HM.out HC.out).mono ?_
        rintro e w4 ⟨rfl, hH4, hC4, hB4⟩
        have HF : Hid (HashT w4 g T v ∧ Cube w4 ∧ Below g w w4) := by
          refine ⟨⟨fun j => T (64 * (q / 64) + j), fun j hj => ?_, ?_⟩, hC4, HB.out.trans hB4⟩
          · rw [HX.out.2.1] at hj
            omega
          · rw [HX.out.1]
            have e : hashAt T (q / 64 + 1) = mixN x (fun j => T (64 * (q / 64) + j)) := by rw [HX.out.2.2]; rfl
            rw [e]
            exact hH4
        clear hH4 hC4 hB4
        go_wp2_with fail
        go_roundw
        case rel => first | exact ⟨v, _, rfl, HN.out, HT.out, HF.out⟩ | ((repeat apply Exists.intro); exact ⟨⟨v, _, rfl, HN.out, HT.out, HF.out⟩, rfl⟩)
        case measure =>
          show (t.extract n t.size).size < t.size
          rw [HE.out.1]
          omega
      · have e7 : ((v : Int).tmod 64 == 0) = false := by rw [Int.tmod_eq_emod_of_nonneg (by omega)]; exact beq_eq_false_iff_ne.2 (by omega)
        have e7' : ¬ ((v : Int) % 64 = 0) := by omega
        have HF : Hid (HashT (X.setCell ⟨g, 72, none⟩ (.int .i64 (v : Nat))) g T v) := by
          refine ⟨fun j => if r ≤ j ∧ j < r + n then sb t (j - r) else b j, fun j hj => ?_, ?_⟩
          · show (if r ≤ j ∧ j < r + n then sb t (j - r) else b j) = _
            by_cases c : r ≤ j ∧ j < r + n
            · rw [if_pos c, ht (j - r) (by omega)]
              congr 1
              omega
            · rw [if_neg c, hb j (by omega)]
              congr 1
              omega
          · rw [show v / 64 = q / 64 from by omega, ← hx]
            exact HW.out _ (fun j _ => rfl)
        clear hX hr hm hq ht hb hC hx hv out HSD hcp HR HW hz n2
        go_wp2_with fail
        go_roundw
        case rel => first | exact ⟨v, _, rfl, HN.out, HT.out, HF.out, HC.out, HB.out⟩ | ((repeat apply Exists.intro); exact ⟨⟨v, _, rfl, HN.out, HT.out, HF.out, HC.out, HB.out⟩, rfl⟩)
        case measure =>
          show (t.extract n t.size).size < t.size
          rw [HE.out.1]
          omega
end Go.Proofs.YtienklnigigepaaGreatDoor
