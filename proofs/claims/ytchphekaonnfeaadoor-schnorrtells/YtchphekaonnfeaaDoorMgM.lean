/- Several texts laid together. -/
import Derived.Test.YtchphekaonnfeaaDoorShaM
import Derived.Lib.LazyBuf
import Derived.Laws.AppendOwn
import Derived.Laws.IdiomStrings
import Derived.Deep.AppendLies
import Derived.ProofKit
import Derived.OpenShut
import Derived.Below
import Derived.LaidMore
import Derived.Stop.Joined
namespace Go.Proofs.YtchphekaonnfeaaDoor
open Go.RowKit

def sb (t : ByteArray) (j : Nat) : Nat := (t.data.toList.map fun x => x.toNat).getD j 0
def strLen : Value → Nat | .string t => t.size | _ => 0
def bcs (t : ByteArray) (n : Nat) : List Value := (t.data.toList.map fun x => Value.int .u8 (x.toNat : Int)).take n
theorem bcs_length (t : ByteArray) (n : Nat) (h : n ≤ t.size) : (bcs t n).length = n := by
  have e : t.data.toList.length = t.size := (Lib.size_eq t).symm
  simp [bcs, e]
  omega
theorem bcs_get (t : ByteArray) (n j : Nat) (h : n ≤ t.size) (hj : j < n) : (bcs t n)[j]? = some (.int .u8 (sb t j : Nat)) := by
  have e : t.data.toList.length = t.size := (Lib.size_eq t).symm
  unfold bcs sb
  rw [List.getElem?_take_of_lt hj, List.getElem?_map, List.getD_eq_getElem?_getD, List.getElem?_map, List.getElem?_eq_getElem (by omega)]
  rfl
theorem bcs_one (t : ByteArray) (n : Nat) : ∀ v ∈ bcs t n, v.oneCell' = true := by
  intro v hv
  have := List.mem_of_mem_take hv
  obtain ⟨x, _, rfl⟩ := List.mem_map.1 this
  rfl
theorem run_copy_min {P : Program} (w : World) (dT sT ty elem : TypeId) (b o dLen dCap : Nat) (t : ByteArray) (n : Nat) (hn : n = Nat.min t.size dLen)
    (hu : P.underlying dT = some (.slice elem)) (hz : ∀ w, (Go.sizeOf elem).run P w = .ok 1 w)
    (hc : ∀ j, j < n → (w.cell? ⟨b, o + j, none⟩).isSome = true) (hf : ∀ j, j < n → w.frozen? ⟨b, o + j, none⟩ = false) :
    (Builtin.copy_ #[dT, sT] ty #[.slice (some ⟨b, o, none⟩) dLen dCap, .string t]).run P w = .ok (goInt n) (w.setCells b o (bcs t n)) := by
  have hl : (bcs t n).length = n := bcs_length t n (by rw [hn]; exact Nat.min_le_left _ _)
  have hst := run_storeCells_cells (P := P) b o (bcs t n) 0 w (by rw [hl]; simpa using hc) (by rw [hl]; simpa using hf) (bcs_one t n)
  simp [Builtin.copy_, run_underlying hu, Builtin.lenOf, Builtin.firstCells, hz, ← hn]
  rw [show List.take n (List.map (fun x : UInt8 => Value.int IntKind.u8 (x.toNat : Int)) t.data.toList) = bcs t n from rfl, hst]
  rfl
/-- A hash that was written the first len bytes of a text. -/
def HashT (w : World) (g : Nat) (T : Nat → Nat) (len : Nat) : Prop := ∃ b : Nat → Nat, (∀ j, j < len % 64 → b j = T (64 * (len / 64) + j)) ∧ HashW w g (hashAt T (len / 64)) b len
theorem HashT.call {W w1 : World} {g len : Nat} {T : Nat → Nat} (h : HashT W g T len) (hb : Below W.heap.size W w1) : HashT w1 g T len := by
  obtain ⟨b, h1, h2⟩ := h
  exact ⟨b, h1, h2.call hb⟩
theorem extract_size (t : ByteArray) (n : Nat) : (t.extract n t.size).size = t.size - n := by
  simp [ByteArray.size_extract]
theorem extract_byte (t : ByteArray) (n j : Nat) (hj : j < t.size - n) : sb (t.extract n t.size) j = sb t (n + j) := by
  have e : (t.extract n t.size).data.toList = (t.data.toList.drop n).take (t.size - n) := by simp [ByteArray.data_extract, Array.toList_extract, List.extract]
  unfold sb
  have l : t.data.toList.length = t.size := (Lib.size_eq t).symm
  rw [e, List.take_of_length_le (by rw [List.length_drop]; omega)]
  simp [List.getD, List.map_drop]
theorem size_setCells (g : Nat) : ∀ (vs : List Value) (o : Nat) (w : World), (w.setCells g o vs).heap.size = w.heap.size
  | [], _, _ => rfl
  | v :: r, o, w => by rw [World.setCells, size_setCells g r (o + 1), World.size_setCell]
/-- Bytes of the text go over into the block, and the length is set. -/
theorem HashW.copy {w : World} {g q r n : Nat} {x : E8} {b : Nat → Nat} {t : ByteArray} (h : HashW w g x b q) (hr : r + n ≤ 64) (hn : n ≤ t.size) (b' : Nat → Nat) (hb' : ∀ j, j < 64 → b' j = if r ≤ j ∧ j < r + n then sb t (j - r) else b j) :
    HashW ((w.setCells g (8 + r) (bcs t n)).setCell ⟨g, 72, none⟩ (.int .i64 ((q + n : Nat) : Int))) g x b' (q + n) := by
  obtain ⟨h1, h2, h3, h4, h5⟩ := h
  have hl := bcs_length t n hn
  have hc : ∀ j, j < n → (w.cell? ⟨g, 8 + r + j, none⟩).isSome = true := fun j hj => by rw [show 8 + r + j = 8 + (r + j) from by omega, h2 (r + j) (by omega)]; rfl
  have out : ∀ o, (o < 8 + r ∨ 8 + r + n ≤ o) → (w.setCells g (8 + r) (bcs t n)).cell? ⟨g, o, none⟩ = w.cell? ⟨g, o, none⟩ := fun o ho => World.cell?_setCells_out g (bcs t n) (8 + r) w ⟨g, o, none⟩ (fun _ _ => by rw [hl]; exact ho)
  refine ⟨fun j hj => ?_, fun j hj => ?_, ?_, fun o => by rw [World.frozen?_setCell, World.frozen?_setCells]; exact h4 o, ?_⟩
  · rw [World.cell?_setCell_other _ _ _ _ (by intro c; injection c with _ c2 _; omega), out j (by omega)]; exact h1 j hj
  · rw [World.cell?_setCell_other _ _ _ _ (by intro c; injection c with _ c2 _; omega), hb' j hj]
    by_cases e : r ≤ j ∧ j < r + n
    · rw [if_pos e]
      have k := World.cell?_setCells_in g (bcs t n) (8 + r) w (fun i hi => hc i (by rw [hl] at hi; exact hi)) (j - r) (by rw [hl]; omega)
      rw [show 8 + r + (j - r) = 8 + j from by omega] at k
      rw [k, ← List.getElem?_eq_getElem, bcs_get t n (j - r) hn (by omega)]
    · rw [if_neg e, out (8 + j) (by omega)]; exact h2 j hj
  · exact World.cell?_setCell_same _ _ _ ((out 72 (by omega)).trans h3)
  · have s1 : (w.setCells g (8 + r) (bcs t n)).heap.size = w.heap.size := size_setCells g _ _ _
    rw [World.size_setCell, s1]; exact h5
set_option maxRecDepth 100000 in
set_option maxHeartbeats 8000000 in
theorem write_any (g : Nat) (T : Nat → Nat) (hT : ∀ j, T j < 256) (len N : Nat) (s : ByteArray) (hs : ∀ j, j < s.size → sb s j = T (len + j)) (hN : len + s.size = N) (hN2 : N < 4611686018427387904) (w : World) (hH : HashT w g T len) (hC : Cube w) (hg : 6 < g) :
    Calls Tryd.prog 76 #[.pointer (some ⟨g, 0, none⟩), .string s] w fun e w' => e = .returned (.int .i64 0) ∧ HashT w' g T N ∧ Cube w' ∧ Below g w w' := by
  have K : Hid _ := fun (x : E8) (b : Nat → Nat) (n : Nat) (hbl : ∀ j, b j < 256) (w : World) (h : HashW w g x b n) (hC : Cube w) => mix_any g x b n hbl w h hC hg
  have H0 : Hid (_ ∧ _ ∧ _ ∧ _ ∧ _) := ⟨hT, hs, hN, hH, hC⟩
  clear hT hs hN hH hC
  go_enter Tryd.func76, Tryd.ntmps76
  go_wp2_with fail
  go_loopw [1] (fun sv wr => ∃ (q : Nat) (t : ByteArray), sv = .string t ∧ q + t.size = N ∧ (∀ j, j < t.size → sb t j = T (q + j)) ∧ HashT wr g T q ∧ Cube wr ∧ Below g w wr)
    (fun sv _ => strLen sv)
  case atStart => exact ⟨len, s, rfl, H0.out.2.2.1, H0.out.2.1, H0.out.2.2.2.1, H0.out.2.2.2.2, Below.refl _ _⟩
  case round =>
    obtain ⟨q, t, rfl, hq, ht, ⟨b, hb, hW⟩, hC, hB⟩ := hrel
    by_cases h0 : t.size = 0
    · have hz : (t.size : Int) = 0 := by omega
      have HF : Hid (HashT wr g T N ∧ Cube wr ∧ Below g w wr) := by
        rw [show N = q from by omega]
        exact ⟨⟨b, hb, hW⟩, hC, hB⟩
      clear hq ht hb hW hC hB h0
      go_wp2_with fail
      go_ret
      exact ⟨rfl, HF.out⟩
    · obtain ⟨x, hx⟩ : ∃ x, x = hashAt T (q / 64) := ⟨_, rfl⟩
      rw [← hx] at hW
      obtain ⟨r, hr⟩ : ∃ r, r = q % 64 := ⟨_, rfl⟩
      obtain ⟨m, hm⟩ : ∃ m, m = 64 - r := ⟨_, rfl⟩
      obtain ⟨n, hn⟩ : ∃ n, n = Nat.min t.size m := ⟨_, rfl⟩
      have n1 : n ≤ t.size := by rw [hn]; exact Nat.min_le_left _ _
      have n2 : n ≤ m := by rw [hn]; exact Nat.min_le_right _ _
      have n3 : n = t.size ∨ n = m := by rw [hn]; exact (by omega : min t.size m = t.size ∨ min t.size m = m)
      have e0 : (0 : Int) < (t.size : Int) := by omega
      have e1 : (q : Int).tmod 64 = (r : Nat) := by rw [Int.tmod_eq_emod_of_nonneg (by omega)]; omega
      have e1' : (q : Int) % 64 = (r : Nat) := by omega
      have e2 : (r : Int) ≤ 64 := by omega
      have e3 : (64 : Int) - (r : Int) = (m : Nat) := by omega
      have e3' : 64 - r = m := hm.symm
      have e4 : ¬ (64 = r) := by omega
      have hsz : ∀ w, (Go.sizeOf 5).run Tryd.prog w = .ok 1 w := fun _ => by kernel_rfl
      have hcp : (Builtin.copy_ #[100, 9] 3 #[.slice (some ⟨g, 8 + r, none⟩) m m, .string t]).run Tryd.prog wr.drew = .ok (.int .i64 (n : Nat)) (wr.drew.setCells g (8 + r) (bcs t n)) :=
        run_copy_min wr.drew _ _ _ 5 g (8 + r) m m t n hn Tryd.underlying100 hsz (fun j hj => by
          have := hW.2.1 (r + j) (by omega)
          rw [show 8 + r + j = 8 + (r + j) from by omega]
          exact (congrArg Option.isSome this).trans rfl) (fun j _ => hW.2.2.2.1 (8 + r + j))
      have HSD : HashW wr.drew g x b q ∧ Below g w wr.drew := ⟨hW, hB.drew⟩
      have HR : Hid (True ∧ r = q % 64 ∧ m = 64 - r ∧ q + t.size = N ∧ (∀ j, j < t.size → sb t j = T (q + j)) ∧ (∀ j, j < q % 64 → b j = T (64 * (q / 64) + j)) ∧ Cube wr ∧ x = hashAt T (q / 64)) := ⟨trivial, hr, hm, hq, ht, hb, hC, hx⟩
      clear hx hr hm hn hq ht hb hC hW hB hsz
      go_wp2_with fail
      refine wp_region_N (fun w' => HashW w' g x b q ∧ Below g w w') 7 12 rfl (by kernel_rfl) ?_
      refine wpAnyN_takeF (i := 0) (oi := ?o0) (v := ?v0) ?hi0 (by kernel_rfl) (by kernel_rfl) (by kernel_rfl) (by decide) ?hQ0 ?hy0 HSD ?more0
      case hi0 => rw [List.getElem?_toArray]; exact rfl
      case hQ0 => exact fun _ _ _ h => h
      case hy0 =>
        refine Or.inl ⟨by rfl, ?_⟩
        intro w' hSw
        clear hSw
        go_simp
        try with_reducible rfl
      simp only [Act.put, List.setIfInBounds_toArray, List.set_cons_zero, List.set_cons_succ]
      refine wpAnyN_takeF (i := 1) (oi := ?o1) (v := ?v1) ?hi1 (by kernel_rfl) (by kernel_rfl) (by kernel_rfl) (by decide) ?hQ1 ?hy1 HSD ?more1
      case hi1 => rw [List.getElem?_toArray]; exact rfl
      case hQ1 => exact fun _ _ _ h => h
      case hy1 =>
        refine Or.inl ⟨by rfl, ?_⟩
        intro w' hSw
        clear hSw
        go_simp
        try with_reducible rfl
      simp only [Act.put, List.setIfInBounds_toArray, List.set_cons_zero, List.set_cons_succ]
      refine wpAnyN_takeF (i := 2) (oi := ?o2) (v := ?v2) ?hi2 (by kernel_rfl) (by kernel_rfl) (by kernel_rfl) (by decide) ?hQ2 ?hy2 HSD ?more2
      case hi2 => rw [List.getElem?_toArray]; exact rfl
      case hQ2 => exact fun _ _ _ h => h
      case hy2 =>
        refine Or.inl ⟨by rfl, ?_⟩
        intro w' hSw
        clear hSw
        go_simp
        try with_reducible rfl
      simp only [Act.put, List.setIfInBounds_toArray, List.set_cons_zero, List.set_cons_succ]
      refine wpAnyN_takeF (i := 3) (oi := ?o3) (v := ?v3) ?hi3 (by kernel_rfl) (by kernel_rfl) (by kernel_rfl) (by decide) ?hQ3 ?hy3 HSD ?more3
      case hi3 => rw [List.getElem?_toArray]; exact rfl
      case hQ3 => exact fun _ _ _ h => h
      case hy3 =>
        refine Or.inl ⟨by rfl, ?_⟩
        intro w' hSw
        clear hSw
        go_simp
        try with_reducible rfl
      simp only [Act.put, List.setIfInBounds_toArray, List.set_cons_zero, List.set_cons_succ]
      refine wpAnyN_takeF (i := 4) (oi := ?o4) (v := ?v4) ?hi4 (by kernel_rfl) (by kernel_rfl) (by kernel_rfl) (by decide) ?hQ4 ?hy4 HSD ?more4
      case hi4 => rw [List.getElem?_toArray]; exact rfl
      case hQ4 => exact fun _ _ _ h => h
      case hy4 =>
        refine Or.inl ⟨by rfl, ?_⟩
        intro w' hSw
        clear hSw
        go_simp
        try with_reducible rfl
      simp only [Act.put, List.setIfInBounds_toArray, List.set_cons_zero, List.set_cons_succ]
      refine wpAnyN_takeF (i := 5) (oi := ?o5) (v := ?v5) ?hi5 (by kernel_rfl) (by kernel_rfl) (by kernel_rfl) (by decide) ?hQ5 ?hy5 HSD ?more5
      case hi5 => rw [List.getElem?_toArray]; exact rfl
      case hQ5 => exact fun _ _ _ h => h
      case hy5 =>
        refine Or.inl ⟨by rfl, ?_⟩
        intro w' hSw
        clear hSw
        go_simp
        try with_reducible rfl
      simp only [Act.put, List.setIfInBounds_toArray, List.set_cons_zero, List.set_cons_succ]
      refine wpAnyN_take (i := 6) (oi := ?o6) (v := ?v6) ?hi6 (by kernel_rfl) (by kernel_rfl) (by kernel_rfl) (by kernel_rfl) (by decide) (by kernel_rfl) ?hQ6 ?hy6 HSD ?more6
      case hi6 => rw [List.getElem?_toArray]; exact rfl
      case hQ6 => exact fun _ _ _ h => h
      case hy6 =>
        refine Or.inl ⟨by rfl, ?_⟩
        intro w' hSw
        have hcl := hSw.1.2.2.1
        clear hSw
        go_simp
        try with_reducible rfl
      simp only [Act.put, List.setIfInBounds_toArray, List.set_cons_zero, List.set_cons_succ]
      refine wpAnyN_takeF (i := 9) (oi := ?o9) (v := ?v9) ?hi9 (by kernel_rfl) (by kernel_rfl) (by kernel_rfl) (by decide) ?hQ9 ?hy9 HSD ?more9
      case hi9 => rw [List.getElem?_toArray]; exact rfl
      case hQ9 => exact fun _ _ _ h => h
      case hy9 =>
        refine Or.inl ⟨by rfl, ?_⟩
        intro w' hSw
        clear hSw
        go_simp
        try with_reducible rfl
      simp only [Act.put, List.setIfInBounds_toArray, List.set_cons_zero, List.set_cons_succ]
      refine wpAnyN_one (i := 7) (o := ?o7) (by kernel_rfl) ?hi7 ?hw7 ?st7
      case hi7 => rw [List.getElem?_toArray]; exact rfl
      case hw7 => exact rfl
      intro K hK
      have HK7 : Hid _ := hK
      clear hK
      go_simp
      refine HK7.out _ _ ⟨fun h => absurd h (by decide +kernel), ?_⟩
      clear HK7 K
      try simp only [Act.put, List.setIfInBounds_toArray, List.set_cons_zero, List.set_cons_succ]
      refine wpAnyN_takeF (i := 8) (oi := ?o8) (v := ?v8) ?hi8 (by kernel_rfl) (by kernel_rfl) (by kernel_rfl) (by decide) ?hQ8 ?hy8 HSD ?more8
      case hi8 => rw [List.getElem?_toArray]; exact rfl
      case hQ8 => exact fun _ _ _ h => h
      case hy8 =>
        refine Or.inl ⟨by rfl, ?_⟩
        intro w' hSw
        clear hSw
        go_simp
        try with_reducible rfl
      simp only [Act.put, List.setIfInBounds_toArray, List.set_cons_zero, List.set_cons_succ]
      refine wpAnyN_one (i := 10) (o := ?o10) (by kernel_rfl) ?hi10 ?hw10 ?st10
      case hi10 => rw [List.getElem?_toArray]; exact rfl
      case hw10 => exact rfl
      intro K hK
      have HK10 : Hid _ := hK
      clear hK
      go_simp
      refine HK10.out _ _ ⟨fun h => absurd h (by decide +kernel), ?_⟩
      clear HK10 K
      try simp only [Act.put, List.setIfInBounds_toArray, List.set_cons_zero, List.set_cons_succ]
      refine wpAnyN_one (i := 11) (o := ?o11) (by kernel_rfl) ?hi11 ?hw11 ?st11
      case hi11 => rw [List.getElem?_toArray]; exact rfl
      case hw11 => exact rfl
      intro K hK
      have HK11 : Hid _ := hK
      clear hK
      go_simp
      refine HK11.out _ _ ⟨fun h => absurd h (by decide +kernel), ?_⟩
      clear HK11 K
      try simp only [Act.put, List.setIfInBounds_toArray, List.set_cons_zero, List.set_cons_succ]
      refine wpAnyN_done (by kernel_rfl) ?_ _
      obtain ⟨X, hX⟩ : ∃ X, X = wr.drew.setCells g (8 + r) (bcs t n) := ⟨_, rfl⟩
      rw [← hX]
      obtain ⟨-, hr, hm, hq, ht, hb, hC, hx⟩ := HR.out
      obtain ⟨v, hv⟩ : ∃ v, v = q + n := ⟨_, rfl⟩
      have out : wr.drew.cell? ⟨g, 72, none⟩ = some (.int .i64 (q : Nat)) := HSD.1.2.2.1
      have hcl : X.cell? ⟨g, 72, none⟩ = some (.int .i64 (q : Nat)) := by
        rw [hX]
        exact (World.cell?_setCells_out g (bcs t n) (8 + r) wr.drew ⟨g, 72, none⟩ (fun _ _ => by rw [bcs_length t n n1]; right; show 8 + r + n ≤ 72; omega)).trans out
      have hfl : X.frozen? ⟨g, 72, none⟩ = false := by rw [hX, World.frozen?_setCells]; exact HSD.1.2.2.2.1 72
      have hzl : g < X.heap.size := by rw [hX, size_setCells]; exact HSD.1.2.2.2.2
      have e5 : (q : Int) + (n : Int) = (v : Nat) := by omega
      have e6 : IntKind.i64.wrap (v : Int) = (v : Nat) := by rw [IntKind.wrap_i64]; omega
      have HB : Hid (Below g w (X.setCell ⟨g, 72, none⟩ (.int .i64 (v : Nat)))) := by
        rw [hX]
        exact (below_setCells HSD.2 (Nat.le_refl _) _).setCell (p := ⟨g, 72, none⟩) (Nat.le_refl _) _
      have HC : Hid (Cube (X.setCell ⟨g, 72, none⟩ (.int .i64 (v : Nat)))) := Cube.below H0.out.2.2.2.2 hg HB.out
      have HW : Hid (∀ b' : Nat → Nat, (∀ j, j < 64 → b' j = if r ≤ j ∧ j < r + n then sb t (j - r) else b j) → HashW (X.setCell ⟨g, 72, none⟩ (.int .i64 (v : Nat))) g x b' v) := fun b' hb' => by
        rw [hX, hv]
        exact HashW.copy HSD.1 (by omega) n1 b' hb'
      have HE : Hid ((t.extract n t.size).size = t.size - n ∧ ∀ j, j < t.size - n → sb (t.extract n t.size) j = sb t (n + j)) := ⟨extract_size t n, fun j hj => extract_byte t n j hj⟩
      have HT : Hid (∀ j, j < (t.extract n t.size).size → sb (t.extract n t.size) j = T (v + j)) := fun j hj => by
        rw [HE.out.1] at hj
        rw [HE.out.2 j hj, ht (n + j) (by omega), hv, Nat.add_assoc]
      have HN : Hid (v + (t.extract n t.size).size = N) := by
        show _ = _
        rw [HE.out.1]
        omega
      by_cases hz : v % 64 = 0
      · have e7 : (v : Int).tmod 64 = 0 := by rw [Int.tmod_eq_emod_of_nonneg (by omega)]; omega
        have e7' : (v : Int) % 64 = 0 := by omega
        have HM : Hid (HashW (X.setCell ⟨g, 72, none⟩ (.int .i64 (v : Nat))) g x (fun j => T (64 * (q / 64) + j)) v) := by
          refine HW.out _ (fun j hj => ?_)
          by_cases c : r ≤ j ∧ j < r + n
          · rw [if_pos c, ht (j - r) (by omega)]
            congr 1
            omega
          · rw [if_neg c, hb j (by omega)]
        have HX : Hid (v / 64 = q / 64 + 1 ∧ v % 64 = 0 ∧ x = hashAt T (q / 64)) := ⟨by omega, hz, hx⟩
        clear hX hr hm hq ht hb hC hx hv out HSD hcp HR HW hz n2
        go_wp2_with fail
        refine (K.out x _ v (fun j => H0.out.1 _) _ HM.out HC.out).mono ?_
        rintro e w4 ⟨rfl, hH4, hC4, hB4⟩
        have HF : Hid (HashT w4 g T v ∧ Cube w4 ∧ Below g w w4) := by
          refine ⟨⟨fun j => T (64 * (q / 64) + j), fun j hj => ?_, ?_⟩, hC4, HB.out.trans hB4⟩
          · rw [HX.out.2.1] at hj
            omega
          · rw [HX.out.1]
            have e : hashAt T (q / 64 + 1) = mixN x (fun j => T (64 * (q / 64) + j)) := by rw [HX.out.2.2]; rfl
            rw [e]
            exact hH4
        clear hH4 hC4 hB4
        go_wp2_with fail
        go_roundw
        case rel => first | exact ⟨v, _, rfl, HN.out, HT.out, HF.out⟩ | ((repeat apply Exists.intro); exact ⟨⟨v, _, rfl, HN.out, HT.out, HF.out⟩, rfl⟩)
        case measure =>
          show (t.extract n t.size).size < t.size
          rw [HE.out.1]
          omega
      · have e7 : ((v : Int).tmod 64 == 0) = false := by rw [Int.tmod_eq_emod_of_nonneg (by omega)]; exact beq_eq_false_iff_ne.2 (by omega)
        have e7' : ¬ ((v : Int) % 64 = 0) := by omega
        have HF : Hid (HashT (X.setCell ⟨g, 72, none⟩ (.int .i64 (v : Nat))) g T v) := by
          refine ⟨fun j => if r ≤ j ∧ j < r + n then sb t (j - r) else b j, fun j hj => ?_, ?_⟩
          · show (if r ≤ j ∧ j < r + n then sb t (j - r) else b j) = _
            by_cases c : r ≤ j ∧ j < r + n
            · rw [if_pos c, ht (j - r) (by omega)]
              congr 1
              omega
            · rw [if_neg c, hb j (by omega)]
              congr 1
              omega
          · rw [show v / 64 = q / 64 from by omega, ← hx]
            exact HW.out _ (fun j _ => rfl)
        clear hX hr hm hq ht hb hC hx hv out HSD hcp HR HW hz n2
        go_wp2_with fail
        go_roundw
        case rel => first | exact ⟨v, _, rfl, HN.out, HT.out, HF.out, HC.out, HB.out⟩ | ((repeat apply Exists.intro); exact ⟨⟨v, _, rfl, HN.out, HT.out, HF.out, HC.out, HB.out⟩, rfl⟩)
        case measure =>
          show (t.extract n t.size).size < t.size
          rw [HE.out.1]
          omega
end Go.Proofs.YtchphekaonnfeaaDoor

namespace Go.Proofs.YtchphekaonnfeaaDoor
open Go.RowKit

/-- Words in memory. -/
def WordsAt (w : World) (p o n : Nat) (ws : Nat → Nat) : Prop := (∀ j, j < n → w.cell? ⟨p, o + j, none⟩ = some (.int .u32 (ws j : Nat))) ∧ p < w.heap.size
theorem WordsAt.call {W w1 : World} {p o n : Nat} {ws : Nat → Nat} (h : WordsAt W p o n ws) (hb : Below W.heap.size W w1) : WordsAt w1 p o n ws := ⟨fun j hj => (hb.cell (p := ⟨p, o + j, none⟩) h.2).trans (h.1 j hj), Nat.lt_of_lt_of_le h.2 hb.size⟩
def hfN (x : Nat) : List Nat := [x / 16777216 % 256, x / 65536 % 256, x / 256 % 256, x % 256]
def hfL (ws : Nat → Nat) : Nat → List Nat
  | 0 => []
  | n + 1 => hfL ws n ++ hfN (ws n)
theorem hfL_length (ws : Nat → Nat) (n : Nat) : (hfL ws n).length = 4 * n := by
  induction n with
  | zero => rfl
  | succ n ih => simp [hfL, hfN, ih]; omega
def u8L (l : List Nat) : List Value := l.map fun x => Value.int .u8 (x : Nat)
def strOf (l : List Nat) : ByteArray := ⟨(l.map fun x => UInt8.ofNat x).toArray⟩

theorem infoU8 : (Tryd.prog.info? 5).map (fun i => (i.zero, i.size, i.bytes)) = some (some (.int .u8 0), 1, 1) := by kernel_rfl
theorem info_u8 : ∃ i, Tryd.prog.info? 5 = some i ∧ i.zero = some (.int .u8 0) ∧ i.size = 1 ∧ i.bytes = 1 := by
  have h := infoU8
  cases e : Tryd.prog.info? 5 with
  | none => rw [e] at h; cases h
  | some i =>
    rw [e] at h
    simp at h
    exact ⟨i, rfl, h.1, h.2.1, h.2.2⟩
theorem cell_four_new (w : World) (a b c d : Value) (t : TypeId) : ∀ j u, [a, b, c, d][j]? = some u → (w.alloc (.cells #[a, b, c, d] t)).cell? ((⟨w.heap.size, 0, none⟩ : Addr).add j) = some u := by
  intro j u hj
  match j, hj with
  | 0, hj => simp at hj; subst hj; simp [Addr.add]
  | 1, hj => simp at hj; subst hj; simp [Addr.add]
  | 2, hj => simp at hj; subst hj; simp [Addr.add]
  | 3, hj => simp at hj; subst hj; simp [Addr.add]
  | j + 4, hj => simp at hj
def B256 (l : List Nat) : Prop := ∀ x ∈ l, x < 256
theorem hfL_small (ws : Nat → Nat) (n : Nat) : B256 (hfL ws n) := by
  induction n with
  | zero => intro x hx; cases hx
  | succ n ih =>
    intro x hx
    rcases List.mem_append.1 hx with h | h
    · exact ih x h
    · simp only [hfN, List.mem_cons, List.not_mem_nil, or_false] at h
      omega
theorem text_owned {w : World} {base n : Nat} {v : Value} {l : List Nat} (h : w.ownsRow base 5 1 v n (u8L l)) (hl : l.length = n) (h0 : 0 < n) (hs : B256 l) : (convert 100 9 v).run Tryd.prog w = .ok (.string (strOf l)) w := by
  obtain ⟨_, h⟩ := h
  rcases h with ⟨hv, hn⟩ | ⟨g, cap, cur, hv, hb, hh, _, _, hcs, hcur⟩
  · omega
  · rw [hv]
    have e1 : (l.map fun x => UInt8.ofNat x).length = n := by rw [List.length_map, hl]
    have g2 := run_convert_bytes_back (P := Tryd.prog) w 100 9 5 ⟨g, 0, none⟩ cap (l.map fun x => UInt8.ofNat x) Tryd.underlying100 Tryd.underlying5 Tryd.underlying9 (fun j hj => by
      have hj' := hj
      rw [e1] at hj'
      have e : (cur.toList.take (n * 1))[j]? = (u8L l)[j]? := by rw [hcur]
      rw [List.getElem?_take_of_lt (by omega)] at e
      simp only [Array.getElem?_toList] at e
      have e2 : (Addr.add ⟨g, 0, none⟩ j) = ⟨g, j, none⟩ := by
        simp only [Addr.add]
        split
        · rename_i h0; have : j = 0 := by simpa using h0
          subst this; rfl
        · simp
      have lt : l[j]'(by omega) < 256 := hs _ (List.getElem_mem _)
      have e3 : ((l.map fun x => UInt8.ofNat x)[j]'hj).toNat = l[j]'(by omega) := by
        rw [List.getElem_map]
        show (UInt8.ofNat _).toNat = _
        rw [UInt8.toNat_ofNat']
        exact Nat.mod_eq_of_lt lt
      rw [e2, e3]
      simp only [World.cell?, hh]
      simp [e, u8L, show j < l.length from by omega])
    rw [e1] at g2
    exact g2

set_option maxRecDepth 100000 in
set_option maxHeartbeats 4000000 in
theorem high_any (p o n cap : Nat) (ws : Nat → Nat) (hn : n < 100) (h0 : 0 < n) (w : World) (hW : WordsAt w p o n ws) :
    Calls Tryd.prog 85 #[.slice (some ⟨p, o, none⟩) n cap] w fun e w' => e = .returned (.string (strOf (hfL ws n))) ∧ Below w.heap.size w w' := by
  obtain ⟨i0, hi, hz0, hz1, hz2⟩ := info_u8
  have HW : Hid _ := hW
  clear hW
  go_enter Tryd.func85, Tryd.ntmps85
  go_wp2_with fail
  go_loopw [3, 8] (fun v i wr => ∃ k : Nat, k ≤ n ∧ i = .int .i64 k ∧ wr.ownsRow w.heap.size 5 1 v (4 * k) (u8L (hfL ws k)) ∧ Below w.heap.size w wr)
    (fun _ i _ => n - (intOf i).toNat)
  case atStart => exact ⟨0, by omega, rfl, World.ownsRow_nil _ _ _ _, Below.refl _ _⟩
  case round =>
    obtain ⟨k, hk, rfl, hown, hbel⟩ := hrel
    by_cases hlt : k < n
    · obtain ⟨x, hx⟩ : ∃ x, x = ws k := ⟨_, rfl⟩
      have gc : wr.cell? ⟨p, o + k, none⟩ = some (.int .u32 (x : Nat)) := by rw [hx]; exact (hbel.cell (p := ⟨p, o + k, none⟩) HW.out.2).trans (HW.out.1 k hlt)
      have gz : p < wr.heap.size := Nat.lt_of_lt_of_le HW.out.2 hbel.size
      have hlt' : (k : Int) < (n : Int) := by omega
      have hd : decide ((k : Int) < (n : Int)) = true := decide_eq_true hlt'
      obtain ⟨b3, hb3⟩ : ∃ b, b = x / 16777216 % 256 := ⟨_, rfl⟩
      obtain ⟨b2, hb2⟩ : ∃ b, b = x / 65536 % 256 := ⟨_, rfl⟩
      obtain ⟨b1, hb1⟩ : ∃ b, b = x / 256 % 256 := ⟨_, rfl⟩
      obtain ⟨b0, hb0⟩ : ∃ b, b = x % 256 := ⟨_, rfl⟩
      have r3 : IntKind.u8.wrap ((x : Int) / 16777216) = (b3 : Nat) := by rw [IntKind.wrap_u8]; omega
      have r2 : IntKind.u8.wrap ((x : Int) / 65536) = (b2 : Nat) := by rw [IntKind.wrap_u8]; omega
      have r1 : IntKind.u8.wrap ((x : Int) / 256) = (b1 : Nat) := by rw [IntKind.wrap_u8]; omega
      have r0 : IntKind.u8.wrap (x : Int) = (b0 : Nat) := by rw [IntKind.wrap_u8]; omega
      have HH : Hid (u8L (hfL ws (k + 1)) = u8L (hfL ws k) ++ [.int .u8 (b3 : Nat), .int .u8 (b2 : Nat), .int .u8 (b1 : Nat), .int .u8 (b0 : Nat)]) := by
        show _ = _
        rw [hb3, hb2, hb1, hb0, hx]
        simp [hfL, hfN, u8L]
      have HB : Hid (Below w.heap.size w wr) := hbel
      clear hx hb3 hb2 hb1 hb0 hbel
      go_wp2_with (first | (at_builtin; refine wpList_append_own _ rfl _ _ 100 rfl w.heap.size 5 i0 (.int .u8 0) 1 1 Tryd.underlying100 hi hz0 hz1 hz2 rfl (by decide) _ _ _ rfl (hown.alloc _) ⟨_, 0, none⟩ 4 4 [.int .u8 (b3 : Nat), .int .u8 (b2 : Nat), .int .u8 (b1 : Nat), .int .u8 (b0 : Nat)] rfl rfl ?c1 ?c2 ?c3 ?c4 ?c5 ?_))
      case c1 => exact cell_four_new _ _ _ _ _ _
      case c2 => intro u hu; simp at hu; rcases hu with rfl | rfl | rfl | rfl <;> rfl
      case c3 => unfold maxLen; omega
      case c4 => omega
      case c5 => have := HB.out.size; simp; omega
      · intro v' w1 hown' hgrow _
        have hb1 : Below w.heap.size w w1 := (below_alloc0' HB.out _).grown hgrow (by have := HB.out.size; simp; omega) (fun k hk => (hown.lt k hk).1)
        rw [← HH.out, show 4 * k + 4 = 4 * (k + 1) from by omega] at hown'
        have HO : Hid _ := And.intro hown' hb1
        clear hgrow hown' hb1 hown
        go_wp2_with fail
        go_roundw
        case rel => first | exact ⟨k + 1, by omega, by go_num, HO.out.1, HO.out.2⟩ | ((repeat apply Exists.intro); exact ⟨⟨k + 1, by omega, by go_num, HO.out.1, HO.out.2⟩, rfl⟩)
        case measure => simp [intOf]; omega
    · obtain rfl : k = n := by omega
      have hcv := text_owned hown (hfL_length ws k) (by omega) (hfL_small ws k)
      have HB : Hid (Below w.heap.size w wr) := hbel
      clear hown hbel
      go_wp2_with fail
      go_ret
      exact ⟨rfl, HB.out⟩
end Go.Proofs.YtchphekaonnfeaaDoor

namespace Go.Proofs.YtchphekaonnfeaaDoor
open Go.RowKit

/-- The package's variables. -/
def GlobD (w : World) : Prop := (∀ j, j < 8 → w.cell? ⟨5, j, none⟩ = some (.int .u32 (init8.get j : Nat))) ∧ 5 < w.heap.size ∧ Cube w
theorem GlobD.call {W w1 : World} (h : GlobD W) (hb : Below W.heap.size W w1) : GlobD w1 := ⟨fun j hj => (hb.cell (p := ⟨5, j, none⟩) h.2.1).trans (h.1 j hj), Nat.lt_of_lt_of_le h.2.1 hb.size, h.2.2.call hb⟩
set_option maxRecDepth 100000 in
set_option maxHeartbeats 4000000 in
theorem new_any (w : World) (hG : GlobD w) (T : Nat → Nat) :
    Calls Tryd.prog 75 #[] w fun e w' => e = .returned (.pointer (some ⟨w.heap.size, 0, none⟩)) ∧ HashT w' w.heap.size T 0 ∧ Below w.heap.size w w' := by
  have f0 := hG.1 0 (by omega)
  have f1 := hG.1 1 (by omega)
  have f2 := hG.1 2 (by omega)
  have f3 := hG.1 3 (by omega)
  have f4 := hG.1 4 (by omega)
  have f5 := hG.1 5 (by omega)
  have f6 := hG.1 6 (by omega)
  have f7 := hG.1 7 (by omega)
  have fz := hG.2.1
  simp only [E8.get] at f0 f1 f2 f3 f4 f5 f6 f7
  obtain ⟨x0, hx0⟩ : ∃ q, q = init8.a := ⟨_, rfl⟩
  rw [← hx0] at f0
  obtain ⟨x1, hx1⟩ : ∃ q, q = init8.b := ⟨_, rfl⟩
  rw [← hx1] at f1
  obtain ⟨x2, hx2⟩ : ∃ q, q = init8.c := ⟨_, rfl⟩
  rw [← hx2] at f2
  obtain ⟨x3, hx3⟩ : ∃ q, q = init8.d := ⟨_, rfl⟩
  rw [← hx3] at f3
  obtain ⟨x4, hx4⟩ : ∃ q, q = init8.e := ⟨_, rfl⟩
  rw [← hx4] at f4
  obtain ⟨x5, hx5⟩ : ∃ q, q = init8.f := ⟨_, rfl⟩
  rw [← hx5] at f5
  obtain ⟨x6, hx6⟩ : ∃ q, q = init8.g := ⟨_, rfl⟩
  rw [← hx6] at f6
  obtain ⟨x7, hx7⟩ : ∃ q, q = init8.h := ⟨_, rfl⟩
  rw [← hx7] at f7
  have HX : Hid (init8 = ⟨x0, x1, x2, x3, x4, x5, x6, x7⟩) := by show _ = _; rw [hx0, hx1, hx2, hx3, hx4, hx5, hx6, hx7]
  have hzv : ∀ w, (zeroValue 133).run Tryd.prog w = .ok (.agg #[.int .u32 0, .int .u32 0, .int .u32 0, .int .u32 0, .int .u32 0, .int .u32 0, .int .u32 0, .int .u32 0, .int .u8 0, .int .u8 0, .int .u8 0, .int .u8 0, .int .u8 0, .int .u8 0, .int .u8 0, .int .u8 0, .int .u8 0, .int .u8 0, .int .u8 0, .int .u8 0, .int .u8 0, .int .u8 0, .int .u8 0, .int .u8 0, .int .u8 0, .int .u8 0, .int .u8 0, .int .u8 0, .int .u8 0, .int .u8 0, .int .u8 0, .int .u8 0, .int .u8 0, .int .u8 0, .int .u8 0, .int .u8 0, .int .u8 0, .int .u8 0, .int .u8 0, .int .u8 0, .int .u8 0, .int .u8 0, .int .u8 0, .int .u8 0, .int .u8 0, .int .u8 0, .int .u8 0, .int .u8 0, .int .u8 0, .int .u8 0, .int .u8 0, .int .u8 0, .int .u8 0, .int .u8 0, .int .u8 0, .int .u8 0, .int .u8 0, .int .u8 0, .int .u8 0, .int .u8 0, .int .u8 0, .int .u8 0, .int .u8 0, .int .u8 0, .int .u8 0, .int .u8 0, .int .u8 0, .int .u8 0, .int .u8 0, .int .u8 0, .int .u8 0, .int .u8 0, .int .i64 0]) w := fun _ => by kernel_rfl
  clear hG hx0 hx1 hx2 hx3 hx4 hx5 hx6 hx7
  go_enter Tryd.func75, Tryd.ntmps75
  go_wp2_with fail
  go_ret
  refine ⟨rfl, ⟨fun _ => 0, fun j hj => absurd hj (by omega), ?_⟩, below_alloc0' (Below.refl _ _) _⟩
  show HashW _ _ init8 _ _
  rw [HX.out]
  refine ⟨fun j hj => ?_, fun j hj => ?_, ?_, fun o => by simp, by simp⟩
  · rw [World.cell?_alloc_new]
    match j, hj with
    | 0, _ => rfl
    | 1, _ => rfl
    | 2, _ => rfl
    | 3, _ => rfl
    | 4, _ => rfl
    | 5, _ => rfl
    | 6, _ => rfl
    | 7, _ => rfl
    | n + 8, h => exact absurd h (by omega)
  · rw [World.cell?_alloc_new]
    match j, hj with
    | 0, _ | 1, _ | 2, _ | 3, _ | 4, _ | 5, _ | 6, _ | 7, _ | 8, _ | 9, _ | 10, _ | 11, _ | 12, _ | 13, _ | 14, _ | 15, _ | 16, _ | 17, _ | 18, _ | 19, _ | 20, _ | 21, _ | 22, _ | 23, _ | 24, _ | 25, _ | 26, _ | 27, _ | 28, _ | 29, _ | 30, _ | 31, _ | 32, _ | 33, _ | 34, _ | 35, _ | 36, _ | 37, _ | 38, _ | 39, _ | 40, _ | 41, _ | 42, _ | 43, _ | 44, _ | 45, _ | 46, _ | 47, _ | 48, _ | 49, _ | 50, _ | 51, _ | 52, _ | 53, _ | 54, _ | 55, _ | 56, _ | 57, _ | 58, _ | 59, _ | 60, _ | 61, _ | 62, _ | 63, _ => rfl
    | n + 64, h => exact absurd h (by omega)
  · rw [World.cell?_alloc_new]
    rfl
def padS : ByteArray := ⟨#[128, 0, 0, 0, 0, 0, 0, 0, 0, 0, 0, 0, 0, 0, 0, 0, 0, 0, 0, 0, 0, 0, 0, 0, 0, 0, 0, 0, 0, 0, 0, 0, 0, 0, 0, 0, 0, 0, 0, 0, 0, 0, 0, 0, 0, 0, 0, 0, 0, 0, 0, 0, 0, 0, 0, 0, 0, 0, 0, 0, 0, 0, 0, 0]⟩
theorem padS_size : padS.size = 64 := by decide
set_option maxRecDepth 100000 in
theorem padS_byte : ∀ j, j < 64 → sb padS j = if j = 0 then 128 else 0 := by decide
theorem extract0_size (t : ByteArray) (c : Nat) (h : c ≤ t.size) : (t.extract 0 c).size = c := by
  simp [ByteArray.size_extract]
  omega
theorem extract0_byte (t : ByteArray) (c j : Nat) (hj : j < c) : sb (t.extract 0 c) j = sb t j := by
  have e : (t.extract 0 c).data.toList = t.data.toList.take c := by simp [ByteArray.data_extract, Array.toList_extract, List.extract]
  unfold sb
  rw [e]
  simp [List.getD, List.getElem?_take_of_lt hj]
theorem pad_facts (c : Nat) (h : c ≤ 64) : (padS.extract 0 c).size = c ∧ ∀ j, j < c → sb (padS.extract 0 c) j = if j = 0 then 128 else 0 :=
  ⟨extract0_size _ _ (by rw [padS_size]; exact h), fun j hj => by rw [extract0_byte _ _ _ hj]; exact padS_byte j (by omega)⟩
theorem strOf_size (l : List Nat) : (strOf l).size = l.length := by simp [strOf, ByteArray.size]
theorem strOf_byte (l : List Nat) (hs : B256 l) (j : Nat) : sb (strOf l) j = l.getD j 0 := by
  unfold sb strOf
  simp only [List.getD_eq_getElem?_getD, List.map_map]
  rw [List.getElem?_map]
  cases h : l[j]? with
  | none => simp
  | some x =>
    have := hs x (List.mem_of_getElem? h)
    simp
    omega
theorem len_bytes (l8 : Nat) (j : Nat) (hj : j < 8) : (hfL (fun k => if k = 0 then l8 / 4294967296 else l8 % 4294967296) 2).getD j 0 = l8 / 256 ^ (7 - j) % 256 := by
  have parts : j = 0 ∨ j = 1 ∨ j = 2 ∨ j = 3 ∨ j = 4 ∨ j = 5 ∨ j = 6 ∨ j = 7 := by omega
  rcases parts with rfl | rfl | rfl | rfl | rfl | rfl | rfl | rfl <;> simp [hfL, hfN] <;> omega
theorem ff1 (n : Nat) (h : n < 1152921504606846976) : IntKind.u64.wrap (n : Int) = (n : Nat) := by rw [IntKind.wrap_u64]; omega
theorem ff2 (n : Nat) : (8 : Int) * (n : Int) = ((8 * n : Nat) : Int) := by omega
theorem ff3 (n : Nat) (h : n < 1152921504606846976) : IntKind.u64.wrap ((8 * n : Nat) : Int) = ((8 * n : Nat) : Int) := by rw [IntKind.wrap_u64]; omega
theorem ff4 (n : Nat) (h : n < 1152921504606846976) : wrap64 ((n : Int) + 64) = ((n + 64 : Nat) : Int) := by unfold wrap64; omega
theorem ff5 (n : Nat) (h : n < 1152921504606846976) : wrap64 (((n + 64 : Nat) : Int) - 56) = ((n + 8 : Nat) : Int) := by unfold wrap64; omega
theorem ff6 (n : Nat) : ((n + 8 : Nat) : Int).tmod 64 = (((n + 8) % 64 : Nat) : Int) := by rw [Int.tmod_eq_emod_of_nonneg (by omega)]; omega
theorem ff6' (n : Nat) : ((n + 8 : Nat) : Int) % 64 = (((n + 8) % 64 : Nat) : Int) := by omega
theorem ff7 (r : Nat) (h : r < 64) : wrap64 (64 - (r : Int)) = ((64 - r : Nat) : Int) := by unfold wrap64; omega
theorem ff7' (r : Nat) (h : r < 64) : (64 : Int) - (r : Int) = ((64 - r : Nat) : Int) := by omega
theorem ff8 (r : Nat) : ((64 - r : Nat) : Int) ≤ 64 := by omega
theorem ff9 (l : Nat) : (l : Int) / 4294967296 = ((l / 4294967296 : Nat) : Int) := by omega
theorem ff10 (n : Nat) (h : n < 1152921504606846976) : IntKind.u32.wrap ((8 * n / 4294967296 : Nat) : Int) = ((8 * n / 4294967296 : Nat) : Int) := wrap32_nat _ (by omega)
theorem ff11 (l : Nat) : IntKind.u32.wrap (l : Int) = ((l % 4294967296 : Nat) : Int) := by rw [IntKind.wrap_u32]; omega
theorem ff12 (n : Nat) : (n + (64 - (n + 8) % 64) + 8) % 64 = 0 := by omega
/-- What the padded text must be behind its first len bytes. -/
def Padded (T : Nat → Nat) (len c : Nat) : Prop := (∀ j, j < c → T (len + j) = if j = 0 then 128 else 0) ∧ ∀ j, j < 8 → T (len + c + j) = 8 * len / 256 ^ (7 - j) % 256
def sumS (T : Nat → Nat) (n : Nat) : ByteArray := strOf (hfL (fun j => (hashAt T n).get j) 8)

set_option maxRecDepth 100000 in
set_option maxHeartbeats 1000000 in
theorem finish_any (g : Nat) (T : Nat → Nat) (hT : ∀ j, T j < 256) (len c N : Nat) (hc : c = 64 - (len + 8) % 64) (hN : N = len + c + 8) (hlen : len < 1152921504606846976) (hP : Padded T len c) (w : World) (hH : HashT w g T len) (hC : Cube w) (hg : 6 < g) :
    Calls Tryd.prog 82 #[.pointer (some ⟨g, 0, none⟩)] w fun e w' => e = .returned (.string (sumS T (N / 64))) ∧ Below g w w' := by
  have H0 : Hid (HashT w g T len) := hH
  obtain ⟨l8, hl8⟩ : ∃ q, q = 8 * len := ⟨_, rfl⟩
  obtain ⟨la, hla⟩ : ∃ q, q = l8 / 4294967296 := ⟨_, rfl⟩
  obtain ⟨lb, hlb⟩ : ∃ q, q = l8 % 4294967296 := ⟨_, rfl⟩
  obtain ⟨l1, hl1⟩ : ∃ q, q = len + 64 := ⟨_, rfl⟩
  obtain ⟨l2, hl2⟩ : ∃ q, q = len + 8 := ⟨_, rfl⟩
  obtain ⟨r2, hr2⟩ : ∃ q, q = (len + 8) % 64 := ⟨_, rfl⟩
  have u1 := ff1 len hlen
  have u2 := ff2 len
  have u3 := ff3 len hlen
  have w1 := ff4 len hlen
  have w2 := ff5 len hlen
  have w3 := ff6 len
  have w3' := ff6' len
  have w4 := ff7 ((len + 8) % 64) (Nat.mod_lt _ (by decide))
  have w4' := ff7' ((len + 8) % 64) (Nat.mod_lt _ (by decide))
  have w5 : (c : Int) ≤ 64 := by rw [hc]; exact ff8 _
  have w5' : c ≤ 64 := by rw [hc]; exact Nat.sub_le _ _
  rw [← hl8] at u2 u3
  rw [← hl1] at w1 w2
  rw [← hl2] at w2 w3 w3'
  rw [hl2, ← hr2] at w3 w3'
  rw [← hl2] at w3 w3'
  rw [← hr2] at hc w4 w4'
  rw [← hc] at w4 w4'
  have v1 := ff9 l8
  rw [← hla] at v1
  have v2 : IntKind.u32.wrap (la : Int) = (la : Nat) := by rw [hla, hl8]; exact ff10 len hlen
  have v3 := ff11 l8
  rw [← hlb] at v3
  have hN64 : N % 64 = 0 := by rw [hN, hc, hr2]; exact ff12 len
  have hcl : w.cell? ⟨g, 72, none⟩ = some (.int .i64 (len : Nat)) := by obtain ⟨b, _, hW⟩ := hH; exact hW.2.2.1
  have hzl : g < w.heap.size := by obtain ⟨b, _, hW⟩ := hH; exact hW.2.2.2.2
  have KW : Hid _ := fun (l N : Nat) (s : ByteArray) (hs : ∀ j, j < s.size → sb s j = T (l + j)) (hN : l + s.size = N) (hN2 : N < 4611686018427387904) (w : World) (hH : HashT w g T l) (hC : Cube w) => write_any g T hT l N s hs hN hN2 w hH hC hg
  have HF : Hid (Padded T len c ∧ Cube w ∧ N = len + c + 8 ∧ len < 1152921504606846976 ∧ N % 64 = 0 ∧ l8 = 8 * len ∧ la = l8 / 4294967296 ∧ lb = l8 % 4294967296) := ⟨hP, hC, hN, hlen, hN64, hl8, hla, hlb⟩
  clear hH hP hC hN hlen hc hl8 hla hlb hl1 hl2 hr2 hT hN64
  go_enter Tryd.func82, Tryd.ntmps82
  obtain ⟨P, hP⟩ : ∃ P, P = padS := ⟨_, rfl⟩
  have hpd : (⟨#[128, 0, 0, 0, 0, 0, 0, 0, 0, 0, 0, 0, 0, 0, 0, 0, 0, 0, 0, 0, 0, 0, 0, 0, 0, 0, 0, 0, 0, 0, 0, 0, 0, 0, 0, 0, 0, 0, 0, 0, 0, 0, 0, 0, 0, 0, 0, 0, 0, 0, 0, 0, 0, 0, 0, 0, 0, 0, 0, 0, 0, 0, 0, 0]⟩ : ByteArray) = P := hP.symm
  have hps : P.size = 64 := by rw [hP]; exact padS_size
  have HPP : Hid (P = padS) := hP
  clear hP
  go_wp2_with fail
  rw [HPP.out]
  refine (KW.out len (len + c) (padS.extract 0 c) (fun j hj => ?_) ?_ ?_ _ H0.out HF.out.2.1).mono ?_
  · rw [(pad_facts c w5').1] at hj
    rw [(pad_facts c w5').2 j hj, HF.out.1.1 j hj]
  · rw [(pad_facts c w5').1]
  · have := HF.out.2.2.2.1
    omega
  rintro e w1' ⟨rfl, hH1, hC1, hB1⟩
  have H1 : Hid (HashT w1' g T (len + c) ∧ Cube w1' ∧ Below g w w1') := ⟨hH1, hC1, hB1⟩
  clear hH1 hC1 hB1 H0 hcl
  go_wp2_with fail
  refine (high_any w1'.heap.size 0 2 2 (fun k => if k = 0 then la else lb) (by omega) (by omega) _ ⟨fun j hj => ?_, by simp⟩).mono ?_
  · match j, hj with
    | 0, _ => simp
    | 1, _ => simp
    | n + 2, h => exact absurd h (by omega)
  rintro e w2' ⟨rfl, hb2⟩
  obtain ⟨S8, hS8⟩ : ∃ q, q = strOf (hfL (fun k => if k = 0 then la else lb) 2) := ⟨_, rfl⟩
  rw [← hS8]
  have H2 : Hid (HashT w2' g T (len + c) ∧ Cube w2' ∧ Below g w w2') := by
    obtain ⟨h1, h2, h3⟩ := H1.out
    have hz := h3.size
    have hb : Below w1'.heap.size w1' w2' := below_call0' (below_alloc0' (Below.refl _ _) _) hb2
    exact ⟨h1.call hb, h2.call hb, h3.trans (hb.mono (by omega))⟩
  have HS : Hid (S8.size = 8 ∧ ∀ j, j < 8 → sb S8 j = T (len + c + j)) := by
    obtain ⟨⟨_, hp⟩, _, _, _, _, a1, a2, a3⟩ := HF.out
    refine ⟨by rw [hS8, strOf_size, hfL_length], fun j hj => ?_⟩
    rw [hp j hj, hS8, strOf_byte _ (hfL_small _ _), a2, a3, len_bytes l8 j hj, a1]
  clear hb2 hS8 H1 hpd
  go_wp2_with fail
  refine (KW.out (len + c) N S8 (fun j hj => ?_) ?_ ?_ _ H2.out.1 H2.out.2.1).mono ?_
  · rw [HS.out.1] at hj
    exact HS.out.2 j hj
  · rw [HS.out.1]
    exact HF.out.2.2.1.symm
  · have h1 := HF.out.2.2.1
    have h2 := HF.out.2.2.2.1
    omega
  rintro e w3' ⟨rfl, hH3, hC3, hB3⟩
  have H3 : Hid (HashT w3' g T N ∧ Below g w w3') := ⟨hH3, H2.out.2.2.trans hB3⟩
  have hz3 : g < w3'.heap.size := by obtain ⟨b, _, hW⟩ := hH3; exact hW.2.2.2.2
  clear hH3 hC3 hB3 H2
  go_wp2_with fail
  refine (high_any g 0 8 8 (fun j => (hashAt T (N / 64)).get j) (by omega) (by omega) _ ?_).mono ?_
  · obtain ⟨⟨b, _, hW⟩, _⟩ := H3.out
    exact ⟨fun j hj => by rw [Nat.zero_add]; exact hW.1 j hj, hz3⟩
  rintro e w4' ⟨rfl, hb4⟩
  have H4 : Hid (Below g w w4') := H3.out.2.trans (hb4.mono (Nat.le_of_lt hz3))
  clear hb4
  obtain ⟨R, hR⟩ : ∃ q, q = strOf (hfL (fun j => (hashAt T (N / 64)).get j) 8) := ⟨_, rfl⟩
  rw [← hR]
  have HR : Hid (R = sumS T (N / 64)) := hR
  clear hR
  go_wp2_with fail
  go_ret
  exact ⟨by rw [← HR.out]; rfl, H4.out⟩

/-- The padded text of a text. -/
def padT (s : ByteArray) (j : Nat) : Nat := if j < s.size then sb s j else if j = s.size then 128 else if j < s.size + (64 - (s.size + 8) % 64) then 0 else 8 * s.size / 256 ^ (7 - (j - (s.size + (64 - (s.size + 8) % 64)))) % 256
theorem sb_lt (s : ByteArray) (j : Nat) : sb s j < 256 := by
  unfold sb
  simp only [List.getD_eq_getElem?_getD, List.getElem?_map]
  cases h : s.data.toList[j]? with
  | none => simp
  | some x => simpa using UInt8.toNat_lt x
theorem padT_lt (s : ByteArray) (j : Nat) : padT s j < 256 := by
  unfold padT
  split
  · exact sb_lt s j
  · split
    · decide
    · split
      · decide
      · exact Nat.mod_lt _ (by decide)
theorem padT_padded (s : ByteArray) : Padded (padT s) s.size (64 - (s.size + 8) % 64) := by
  have r : (s.size + 8) % 64 < 64 := Nat.mod_lt _ (by decide)
  refine ⟨fun j hj => ?_, fun j hj => ?_⟩
  · unfold padT
    rw [if_neg (by omega)]
    by_cases h : j = 0
    · rw [if_pos (by omega), if_pos h]
    · rw [if_neg (by omega), if_pos (by omega), if_neg h]
  · unfold padT
    rw [if_neg (by omega), if_neg (by omega), if_neg (by omega), Nat.add_sub_cancel_left]
/-- The sum of a text. -/
def shaS (s : ByteArray) : ByteArray := sumS (padT s) ((s.size + (64 - (s.size + 8) % 64) + 8) / 64)
end Go.Proofs.YtchphekaonnfeaaDoor

namespace Go.Proofs.YtchphekaonnfeaaDoor
open Go Go.ChangeShapes Go.WideShapes Go.ChangeAt Go.RowKit

theorem Tryd.own : ownKnob Tryd.prog.godebug = none := by kernel_rfl
theorem cellsW : Tryd.prog.cellsOf 129 = 1 := by kernel_rfl
theorem laid_u32 {H : Type} {enc : TypeId × Value → H} {W : World} {s : String} {g base fuel n : Nat} {t : TypeId} {spare : Nat → Bool} {held : Bool} {cs : Array Value} {q : List MemPlace} (l : List Nat) (hl : l.length = n)
    (ht : Tryd.prog.underlying t = some (.array n 129)) (hg : Tryd.prog.globalNamed s = some g) (hv : W.var? Tryd.prog s = some cs)
    (hd : DataW.trod enc Tryd.prog W base spare held fuel t cs.toList = some (.agg (l.map fun a => .lit (.int .u32 (a : Nat))), q)) (j : Nat) (hj : j < n) : W.cell? ⟨g, j, none⟩ = some (.int .u32 (l.getD j 0 : Nat)) := by
  have c := World.var?_cell hg hv j
  obtain ⟨xs, m, _, hx, hlen, hxl, hall⟩ := DataW.trod_array ht hd
  have i := hall j hj
  rw [cellsW, Nat.mul_one] at i
  have hxj : xs[j]? = some (xs[j]'(by omega)) := List.getElem?_eq_getElem (by omega)
  rw [hxj] at i
  obtain ⟨a, e, ex, _⟩ := DataW.trod_int Tryd.underlying129 i
  have h1 : l.map (fun a => (.lit (.int .u32 (a : Nat)) : DataW H)) = xs.map (·.1) := by
    have := congrArg Prod.fst hx
    simpa using this
  have h2 := congrArg (fun z => z[j]?) h1
  simp only [List.getElem?_map, hxj, ex, Option.map_some] at h2
  have hlj : l[j]? = some (l[j]'(by omega)) := List.getElem?_eq_getElem (by omega)
  rw [hlj] at h2
  simp at h2
  have h3 : (cs.toList.drop j)[0]? = some (.int .u32 a) := by
    have := congrArg (fun z => z[0]?) e
    simpa [List.getElem?_take] using this
  rw [List.getElem?_drop, Nat.add_zero, Array.getElem?_toList] at h3
  rw [c, h3, List.getD_eq_getElem?_getD, hlj, ← h2]
  rfl
theorem size_of_cell {W : World} {g : Nat} {v : Value} (h : W.cell? ⟨g, 0, none⟩ = some v) : g < W.heap.size := by
  rcases Nat.lt_or_ge g W.heap.size with l | l
  · exact l
  · have : W.cell? ⟨g, 0, none⟩ = none := by simp [World.cell?, Array.getElem?_eq_none l]
    rw [this] at h
    cases h
def squareL : List Nat := [1779033703, 3144134277, 1013904242, 2773480762, 1359893119, 2600822924, 528734635, 1541459225]
theorem square_get : ∀ j, j < 8 → squareL.getD j 0 = init8.get j := by decide
end Go.Proofs.YtchphekaonnfeaaDoor
