/- digest.New, Hash.finish and Sum: the sum of a text. -/
import Derived.Test.YtienklnigigepaaGreatDoorShaH
namespace Go.Proofs.YtienklnigigepaaGreatDoor
open Go.RowKit

/-- The package's variables. -/
def GlobD (w : World) : Prop := (∀ j, j < 8 → w.cell? ⟨3, j, none⟩ = some (.int .u32 (init8.get j : Nat))) ∧ 3 < w.heap.size ∧ Cube w
theorem GlobD.call {W w1 : World} (h : GlobD W) (hb : Below W.heap.size W w1) : GlobD w1 := ⟨fun j hj => (hb.cell (p := ⟨3, j, none⟩) h.2.1).trans (h.1 j hj), Nat.lt_of_lt_of_le h.2.1 hb.size, h.2.2.call hb⟩
set_option maxRecDepth 100000 in
set_option maxHeartbeats 4000000 in
theorem new_any (w : World) (hG : GlobD w) (T : Nat → Nat) :
    Calls Tryz.prog 126 #[] w fun e w' => e = .returned (.pointer (some ⟨w.heap.size, 0, none⟩)) ∧ HashT w' w.heap.size T 0 ∧ Below w.heap.size w w' := by
  have f0 := hG.1 0 (by omega)
  have f1 := hG.1 1 (by omega)
  have f2 := hG.1 2 (by omega)
  have f3 := hG.1 3 (by omega)
  have f4 := hG.1 4 (by omega)
  have f5 := hG.1 5 (by omega)
  have f6 := hG.1 6 (by omega)
  have f7 := hG.1 7 (by omega)
  have fz := hG.2.1
  simp only [E8.get] at f0 f1 f2 f3 f4 f5 f6 f7
  obtain ⟨x0, hx0⟩ : ∃ q, q = init8.a := ⟨_, rfl⟩
  rw [← hx0] at f0
  obtain ⟨x1, hx1⟩ : ∃ q, q = init8.b := ⟨_, rfl⟩
  rw [← hx1] at f1
  obtain ⟨x2, hx2⟩ : ∃ q, q = init8.c := ⟨_, rfl⟩
  rw [← hx2] at f2
  obtain ⟨x3, hx3⟩ : ∃ q, q = init8.d := ⟨_, rfl⟩
  rw [← hx3] at f3
  obtain ⟨x4, hx4⟩ : ∃ q, q = init8.e := ⟨_, rfl⟩
  rw [← hx4] at f4
  obtain ⟨x5, hx5⟩ : ∃ q, q = init8.f := ⟨_, rfl⟩
  rw [← hx5] at f5
  obtain ⟨x6, hx6⟩ : ∃ q, q = init8.g := ⟨_, rfl⟩
  rw [← hx6] at f6
  obtain ⟨x7, hx7⟩ : ∃ q, q = init8.h := ⟨_, rfl⟩
  rw [← hx7] at f7
  have HX : Hid (init8 = ⟨x0, x1, x2, x3, x4, x5, x6, x7⟩) := by show _ = _; rw [hx0, hx1, hx2, hx3, hx4, hx5, hx6, hx7]
  have hzv : ∀ w, (zeroValue 214).run Tryz.prog w = .ok (.agg #[.int .u32 0, .int .u32 0, .int .u32 0, .int .u32 0, .int .u32 0, .int .u32 0, .int .u32 0, .int .u32 0, .int .u8 0, .int .u8 0, .int .u8 0, .int .u8 0, .int .u8 0, .int .u8 0, .int .u8 0, .int .u8 0, .int .u8 0, .int .u8 0, .int .u8 0, .int .u8 0, .int .u8 0, .int .u8 0, .int .u8 0, .int .u8 0, .int .u8 0, .int .u8 0, .int .u8 0, .int .u8 0, .int .u8 0, .int .u8 0, .int .u8 0, .int .u8 0, .int .u8 0, .int .u8 0, .int .u8 0, .int .u8 0, .int .u8 0, .int .u8 0, .int .u8 0, .int .u8 0, .int .u8 0, .int .u8 0, .int .u8 0, .int .u8 0, .int .u8 0, .int .u8 0, .int .u8 0, .int .u8 0, .int .u8 0, .int .u8 0, .int .u8 0, .int .u8 0, .int .u8 0, .int .u8 0, .int .u8 0, .int .u8 0, .int .u8 0, .int .u8 0, .int .u8 0, .int .u8 0, .int .u8 0, .int .u8 0, .int .u8 0, .int .u8 0, .int .u8 0, .int .u8 0, .int .u8 0, .int .u8 0, .int .u8 0, .int .u8 0, .int .u8 0, .int .u8 0, .int .i64 0]) w := fun _ => by kernel_rfl
  clear hG hx0 hx1 hx2 hx3 hx4 hx5 hx6 hx7
  go_enter Tryz.func126, Tryz.ntmps126
  go_wp2_with fail
  go_ret
  refine ⟨rfl, ⟨fun _ => 0, fun j hj => absurd hj (by omega), ?_⟩, below_alloc0' (Below.refl _ _) _⟩
  show HashW _ _ init8 _ _
  rw [HX.out]
  refine ⟨fun j hj => ?_, fun j hj => ?_, ?_, fun o => by simp, by simp⟩
  · rw [World.cell?_alloc_new]
    match j, hj with
    | 0, _ => rfl
    | 1, _ => rfl
    | 2, _ => rfl
    | 3, _ => rfl
    | 4, _ => rfl
    | 5, _ => rfl
    | 6, _ => rfl
    | 7, _ => rfl
    | n + 8, h => exact absurd h (by omega)
  · rw [World.cell?_alloc_new]
    match j, hj with
    | 0, _ | 1, _ | 2, _ | 3, _ | 4, _ | 5, _ | 6, _ | 7, _ | 8, _ | 9, _ | 10, _ | 11, _ | 12, _ | 13, _ | 14, _ | 15, _ | 16, _ | 17, _ | 18, _ | 19, _ | 20, _ | 21, _ | 22, _ | 23, _ | 24, _ | 25, _ | 26, _ | 27, _ | 28, _ | 29, _ | 30, _ | 31, _ | 32, _ | 33, _ | 34, _ | 35, _ | 36, _ | 37, _ | 38, _ | 39, _ | 40, _ | 41, _ | 42, _ | 43, _ | 44, _ | 45, _ | 46, _ | 47, _ | 48, _ | 49, _ | 50, _ | 51, _ | 52, _ | 53, _ | 54, _ | 55, _ | 56, _ | 57, _ | 58, _ | 59, _ | 60, _ | 61, _ | 62, _ | 63, _ => rfl
    | n + 64, h => exact absurd h (by omega)
  · rw [World.cell?_alloc_new]
    rfl
def padS : ByteArray := ⟨#[128, 0, 0, 0, 0, 0, 0, 0, 0, 0, 0, 0, 0, 0, 0, 0, 0, 0, 0, 0, 0, 0, 0, 0, 0, 0, 0, 0, 0, 0, 0, 0, 0, 0, 0, 0, 0, 0, 0, 0, 0, 0, 0, 0, 0, 0, 0, 0, 0, 0, 0, 0, 0, 0, 0, 0, 0, 0, 0, 0, 0, 0, 0, 0]⟩
theorem padS_size : padS.size = 64 := by decide
set_option maxRecDepth 100000 in
theorem padS_byte : ∀ j, j < 64 → sb padS j = if j = 0 then 128 else 0 := by decide
theorem extract0_size (t : ByteArray) (c : Nat) (h : c ≤ t.size) : (t.extract 0 c).size = c := by
  simp [ByteArray.size_extract]
  omega
theorem extract0_byte (t : ByteArray) (c j : Nat) (hj : j < c) : sb (t.extract 0 c) j = sb t j := by
  have e : (t.extract 0 c).data.toList = t.data.toList.take c := by simp [ByteArray.data_extract, Array.toList_extract, List.extract]
  unfold sb
  rw [e]
  simp [List.getD, List.getElem?_take_of_lt hj]
theorem pad_facts (c : Nat) (h : c ≤ 64) : (padS.extract 0 c).size = c ∧ ∀ j, j < c → sb (padS.extract 0 c) j = if j = 0 then 128 else 0 :=
  ⟨extract0_size _ _ (by rw [padS_size]; exact h), fun j hj => by rw [extract0_byte _ _ _ hj]; exact padS_byte j (by omega)⟩
theorem strOf_size (l : List Nat) : (strOf l).size = l.length := by simp [strOf, ByteArray.size]
theorem strOf_byte (l : List Nat) (hs : B256 l) (j : Nat) : sb (strOf l) j = l.getD j 0 := by
  unfold sb strOf
  simp only [List.getD_eq_getElem?_getD, List.map_map]
  rw [List.getElem?_map]
  cases h : l[j]? with
  | none => simp
  | some x =>
    have := hs x (List.mem_of_getElem? h)
    simp
    omega
theorem len_bytes (l8 : Nat) (j : Nat) (hj : j < 8) : (hfL (fun k => if k = 0 then l8 / 4294967296 else l8 % 4294967296) 2).getD j 0 = l8 / 256 ^ (7 - j) % 256 := by
  have parts : j = 0 ∨ j = 1 ∨ j = 2 ∨ j = 3 ∨ j = 4 ∨ j = 5 ∨ j = 6 ∨ j = 7 := by omega
  rcases parts with rfl | rfl | rfl | rfl | rfl | rfl | rfl | rfl <;> simp [hfL, hfN] <;> omega
theorem ff1 (n : Nat) (h : n < 1152921504606846976) : IntKind.u64.wrap (n : Int) = (n : Nat) := by rw [IntKind.wrap_u64]; omega
theorem ff2 (n : Nat) : (8 : Int) * (n : Int) = ((8 * n : Nat) : Int) := by omega
theorem ff3 (n : Nat) (h : n < 1152921504606846976) : IntKind.u64.wrap ((8 * n : Nat) : Int) = ((8 * n : Nat) : Int) := by rw [IntKind.wrap_u64]; omega
theorem ff4 (n : Nat) (h : n < 1152921504606846976) : wrap64 ((n : Int) + 64) = ((n + 64 : Nat) : Int) := by unfold wrap64; omega
theorem ff5 (n : Nat) (h : n < 1152921504606846976) : wrap64 (((n + 64 : Nat) : Int) - 56) = ((n + 8 : Nat) : Int) := by unfold wrap64; omega
theorem ff6 (n : Nat) : ((n + 8 : Nat) : Int).tmod 64 = (((n + 8) % 64 : Nat) : Int) := by rw [Int.tmod_eq_emod_of_nonneg (by omega)]; omega
theorem ff6' (n : Nat) : ((n + 8 : Nat) : Int) % 64 = (((n + 8) % 64 : Nat) : Int) := by omega
theorem ff7 (r : Nat) (h : r < 64) : wrap64 (64 - (r : Int)) = ((64 - r : Nat) : Int) := by unfold wrap64; omega
theorem ff7' (r : Nat) (h : r < 64) : (64 : Int) - (r : Int) = ((64 - r : Nat) : Int) := by omega
theorem ff8 (r : Nat) : ((64 - r : Nat) : Int) ≤ 64 := by omega
theorem ff9 (l : Nat) : (l : Int) / 4294967296 = ((l / 4294967296 : Nat) : Int) := by omega
theorem ff10 (n : Nat) (h : n < 1152921504606846976) : IntKind.u32.wrap ((8 * n / 4294967296 : Nat) : Int) = ((8 * n / 4294967296 : Nat) : Int) := wrap32_nat _ (by omega)
theorem ff11 (l : Nat) : IntKind.u32.wrap (l : Int) = ((l % 4294967296 : Nat) : Int) := by rw [IntKind.wrap_u32]; omega
theorem ff12 (n : Nat) : (n + (64 - (n + 8) % 64) + 8) % 64 = 0 := by omega
/-- What the padded text must be behind its first len bytes. -/
def Padded (T : Nat → Nat) (len c : Nat) : Prop := (∀ j, j < c → T (len + j) = if j = 0 then 128 else 0) ∧ ∀ j, j < 8 → T (len + c + j) = 8 * len / 256 ^ (7 - j) % 256
def sumS (T : Nat → Nat) (n : Nat) : ByteArray := strOf (hfL (fun j => (hashAt T n).get j) 8)

set_option maxRecDepth 100000 in
set_option maxHeartbeats 1000000 in
theorem finish_any (g : Nat) (T : Nat → Nat) (hT : ∀ j, T j < 256) (len c N : Nat) (hc : c = 64 - (len + 8) % 64) (hN : N = len + c + 8) (hlen : len < 1152921504606846976) (hP : Padded T len c) (w : World) (hH : HashT w g T len) (hC : Cube w) (hg : 5 < g) :
    Calls Tryz.prog 128 #[.pointer (some ⟨g, 0, none⟩)] w fun e w' => e = .returned (.string (sumS T (N / 64))) ∧ Below g w w' := by
  have H0 : Hid (HashT w g T len) := hH
  obtain ⟨l8, hl8⟩ : ∃ q, q = 8 * len := ⟨_, rfl⟩
  obtain ⟨la, hla⟩ : ∃ q, q = l8 / 4294967296 := ⟨_, rfl⟩
  obtain ⟨lb, hlb⟩ : ∃ q, q = l8 % 4294967296 := ⟨_, rfl⟩
  obtain ⟨l1, hl1⟩ : ∃ q, q = len + 64 := ⟨_, rfl⟩
  obtain ⟨l2, hl2⟩ : ∃ q, q = len + 8 := ⟨_, rfl⟩
  obtain ⟨r2, hr2⟩ : ∃ q, q = (len + 8) % 64 := ⟨_, rfl⟩
  have u1 := ff1 len hlen
  have u2 := ff2 len
  have u3 := ff3 len hlen
  have w1 := ff4 len hlen
  have w2 := ff5 len hlen
  have w3 := ff6 len
  have w3' := ff6' len
  have w4 := ff7 ((len + 8) % 64) (Nat.mod_lt _ (by decide))
  have w4' := ff7' ((len + 8) % 64) (Nat.mod_lt _ (by decide))
  have w5 : (c : Int) ≤ 64 := by rw [hc]; exact ff8 _
  have w5' : c ≤ 64 := by rw [hc]; exact Nat.sub_le _ _
  rw [← hl8] at u2 u3
  rw [← hl1] at w1 w2
  rw [← hl2] at w2 w3 w3'
  rw [hl2, ← hr2] at w3 w3'
  rw [← hl2] at w3 w3'
  rw [← hr2] at hc w4 w4'
  rw [← hc] at w4 w4'
  have v1 := ff9 l8
  rw [← hla] at v1
  have v2 : IntKind.u32.wrap (la : Int) = (la : Nat) := by rw [hla, hl8]; exact ff10 len hlen
  have v3 := ff11 l8
  rw [← hlb] at v3
  have hN64 : N % 64 = 0 := by rw [hN, hc, hr2]; exact ff12 len
  have hcl : w.cell? ⟨g, 72, none⟩ = some (.int .i64 (len : Nat)) := by obtain ⟨b, _, hW⟩ := hH; exact hW.2.2.1
  have hzl : g < w.heap.size := by obtain ⟨b, _, hW⟩ := hH; exact hW.2.2.2.2
  have KW : Hid _ := fun (l N : Nat) (s : ByteArray) (hs : ∀ j, j < s.size → sb s j = T (l + j)) (hN : l + s.size = N) (hN2 : N < 4611686018427387904) (w : World) (hH : HashT w g T l) (hC : Cube w) => write_any g T hT l N s hs hN hN2 w hH hC hg
  have HF : Hid (Padded T len c ∧ Cube w ∧ N = len + c + 8 ∧ len < 1152921504606846976 ∧ N % 64 = 0 ∧ l8 = 8 * len ∧ la = l8 / 4294967296 ∧ lb = l8 % 4294967296) := ⟨hP, hC, hN, hlen, hN64, hl8, hla, hlb⟩
  clear hH hP hC hN hlen hc hl8 hla hlb hl1 hl2 hr2 hT hN64
  go_enter Tryz.func128, Tryz.ntmps128
  obtain ⟨P, hP⟩ : ∃ P, P = padS := ⟨_, rfl⟩
  have hpd : (⟨#[128, 0, 0, 0, 0, 0, 0, 0, 0, 0, 0, 0, 0, 0, 0, 0, 0, 0, 0, 0, 0, 0, 0, 0, 0, 0, 0, 0, 0, 0, 0, 0, 0, 0, 0, 0, 0, 0, 0, 0, 0, 0, 0, 0, 0, 0, 0, 0, 0, 0, 0, 0, 0, 0, 0, 0, 0, 0, 0, 0, 0, 0, 0, 0]⟩ : ByteArray) = P := hP.symm
  have hps : P.size = 64 := by rw [hP]; exact padS_size
  have HPP : Hid (P = padS) := hP
  clear hP
  go_wp2_with fail
  rw [HPP.out]
  refine (KW.out len (len + c) (padS.extract 0 c) (fun j hj => ?_) ?_ ?_ _ H0.out HF.out.2.1).mono ?_
  · rw [(pad_facts c w5').1] at hj
    rw [(pad_facts c w5').2 j hj, HF.out.1.1 j hj]
  · rw [(pad_facts c w5').1]
  · have := HF.out.2.2.2.1
    omega
  rintro e w1' ⟨rfl, hH1, hC1, hB1⟩
  have H1 : Hid (HashT w1' g T (len + c) ∧ Cube w1' ∧ Below g w w1') := ⟨hH1, hC1, hB1⟩
  clear hH1 hC1 hB1 H0 hcl
  go_wp2_with fail
  refine (high_any w1'.heap.size 0 2 2 (fun k => if k = 0 then la else lb) (by omega) (by omega) _ ⟨fun j hj => ?_, by simp⟩).mono ?_
  · match j, hj with
    | 0, _ => simp
    | 1, _ => simp
    | n + 2, h => exact absurd h (by omega)
  rintro e w2' ⟨rfl, hb2⟩
  obtain ⟨S8, hS8⟩ : ∃ q, q = strOf (hfL (fun k => if k = 0 then la else lb) 2) := ⟨_, rfl⟩
  rw [← hS8]
  have H2 : Hid (HashT w2' g T (len + c) ∧ Cube w2' ∧ Below g w w2') := by
    obtain ⟨h1, h2, h3⟩ := H1.out
    have hz := h3.size
    have hb : Below w1'.heap.size w1' w2' := below_call0' (below_alloc0' (Below.refl _ _) _) hb2
    exact ⟨h1.call hb, h2.call hb, h3.trans (hb.mono (by omega))⟩
  have HS : Hid (S8.size = 8 ∧ ∀ j, j < 8 → sb S8 j = T (len + c + j)) := by
    obtain ⟨⟨_, hp⟩, _, _, _, _, a1, a2, a3⟩ := HF.out
    refine ⟨by rw [hS8, strOf_size, hfL_length], fun j hj => ?_⟩
    rw [hp j hj, hS8, strOf_byte _ (hfL_small _ _), a2, a3, len_bytes l8 j hj, a1]
  clear hb2 hS8 H1 hpd
  go_wp2_with fail
  refine (KW.out (len + c) N S8 (fun j hj => ?_) ?_ ?_ _ H2.out.1 H2.out.2.1).mono ?_
  · rw [HS.out.1] at hj
    exact HS.out.2 j hj
  · rw [HS.out.1]
    exact HF.out.2.2.1.symm
  · have h1 := HF.out.2.2.1
    have h2 := HF.out.2.2.2.1
    omega
  rintro e w3' ⟨rfl, hH3, hC3, hB3⟩
  have H3 : Hid (HashT w3' g T N ∧ Below g w w3') := ⟨hH3, H2.out.2.2.trans hB3⟩
  have hz3 : g < w3'.heap.size := by obtain ⟨b, _, hW⟩ := hH3; exact hW.2.2.2.2
  clear hH3 hC3 hB3 H2
  go_wp2_with fail
  refine (high_any g 0 8 8 (fun j => (hashAt T (N / 64)).get j) (by omega) (by omega) _ ?_).mono ?_
  · obtain ⟨⟨b, _, hW⟩, _⟩ := H3.out
    exact ⟨fun j hj => by rw [Nat.zero_add]; exact hW.1 j hj, hz3⟩
  rintro e w4' ⟨rfl, hb4⟩
  have H4 : Hid (Below g w w4') := H3.out.2.trans (hb4.mono (Nat.le_of_lt hz3))
  clear hb4
  obtain ⟨R, hR⟩ : ∃ q, q = strOf (hfL (fun j => (hashAt T (N / 64)).get j) 8) := ⟨_, rfl⟩
  rw [← hR]
  have HR : Hid (R = sumS T (N / 64)) := hR
  clear hR
  go_wp2_with fail
  go_ret
  exact ⟨by rw [← HR.out]; rfl, H4.out⟩

/-- The padded text of a text. -/
def padT (s : ByteArray) (j : Nat) : Nat := if j < s.size then sb s j else if j = s.size then 128 else if j < s.size + (64 - (s.size + 8) % 64) then 0 else 8 * s.size / 256 ^ (7 - (j - (s.size + (64 - (s.size + 8) % 64)))) % 256
theorem sb_lt (s : ByteArray) (j : Nat) : sb s j < 256 := by
  unfold sb
  simp only [List.getD_eq_getElem?_getD, List.getElem?_map]
  cases h : s.data.toList[j]? with
  | none => simp
  | some x => simpa using UInt8.toNat_lt x
theorem padT_lt (s : ByteArray) (j : Nat) : padT s j < 256 := by
  unfold padT
  split
  · exact sb_lt s j
  · split
    · decide
    · split
      · decide
      · exact Nat.mod_lt _ (by decide)
theorem padT_padded (s : ByteArray) : Padded (padT s) s.size (64 - (s.size + 8) % 64) := by
  have r : (s.size + 8) % 64 < 64 := Nat.mod_lt _ (by decide)
  refine ⟨fun j hj => ?_, fun j hj => ?_⟩
  · unfold padT
    rw [if_neg (by omega)]
    by_cases h : j = 0
    · rw [if_pos (by omega), if_pos h]
    · rw [if_neg (by omega), if_pos (by omega), if_neg h]
  · unfold padT
    rw [if_neg (by omega), if_neg (by omega), if_neg (by omega), Nat.add_sub_cancel_left]
/-- The sum of a text. -/
def shaS (s : ByteArray) : ByteArray := sumS (padT s) ((s.size + (64 - (s.size + 8) % 64) + 8) / 64)
set_option maxRecDepth 100000 in
set_option maxHeartbeats 2000000 in
theorem sum_any (s : ByteArray) (hs : s.size < 1152921504606846976) (w : World) (hG : GlobD w) (hz : 5 < w.heap.size) :
    Calls Tryz.prog 81 #[.string s] w fun e w' => e = .returned (.string (shaS s)) ∧ Below w.heap.size w w' := by
  have K1 : Hid _ := fun (w : World) (h : GlobD w) => new_any w h (padT s)
  have K2 : Hid _ := fun (g : Nat) (w : World) (hH : HashT w g (padT s) 0) (hC : Cube w) (hg : 5 < g) => write_any g (padT s) (padT_lt s) 0 s.size s (fun j hj => by rw [Nat.zero_add]; unfold padT; rw [if_pos hj]) (Nat.zero_add _) (by omega) w hH hC hg
  have K3 : Hid _ := fun (g : Nat) (w : World) (hH : HashT w g (padT s) s.size) (hC : Cube w) (hg : 5 < g) => finish_any g (padT s) (padT_lt s) s.size _ _ rfl rfl hs (padT_padded s) w hH hC hg
  have HG : Hid (GlobD w ∧ 5 < w.heap.size) := ⟨hG, hz⟩
  clear hG hz hs
  go_enter Tryz.func81, Tryz.ntmps81
  go_wp2_with fail
  refine (K1.out _ HG.out.1).mono ?_
  rintro e w1 ⟨rfl, hH1, hB1⟩
  have H1 : Hid (HashT w1 w.heap.size (padT s) 0 ∧ Cube w1 ∧ Below w.heap.size w w1) := ⟨hH1, HG.out.1.2.2.call hB1, hB1⟩
  clear hH1 hB1
  go_wp2_with fail
  refine (K2.out _ _ H1.out.1 H1.out.2.1 HG.out.2).mono ?_
  rintro e w2 ⟨rfl, hH2, hC2, hB2⟩
  have H2 : Hid (HashT w2 w.heap.size (padT s) s.size ∧ Cube w2 ∧ Below w.heap.size w w2) := ⟨hH2, hC2, H1.out.2.2.trans hB2⟩
  clear hH2 hC2 hB2 H1
  go_wp2_with fail
  refine (K3.out _ _ H2.out.1 H2.out.2.1 HG.out.2).mono ?_
  rintro e w3 ⟨rfl, hB3⟩
  have H3 : Hid (Below w.heap.size w w3) := H2.out.2.2.trans hB3
  clear hB3
  go_wp2_with fail
  go_ret
  exact ⟨rfl, H3.out⟩
end Go.Proofs.YtienklnigigepaaGreatDoor
