/- digest.highFirst: words' bytes, of each the highest first. -/
import Derived.Test.YtienklnigigepaaGreatDoorShaW
import Derived.Laws.AppendOwn
import Derived.Laws.IdiomStrings
import Derived.Deep.AppendLies
namespace Go.Proofs.YtienklnigigepaaGreatDoor
open Go.RowKit

/-- Words in memory. -/
def WordsAt (w : World) (p o n : Nat) (ws : Nat → Nat) : Prop := (∀ j, j < n → w.cell? ⟨p, o + j, none⟩ = some (.int .u32 (ws j : Nat))) ∧ p < w.heap.size
theorem WordsAt.call {W w1 : World} {p o n : Nat} {ws : Nat → Nat} (h : WordsAt W p o n ws) (hb : Below W.heap.size W w1) : WordsAt w1 p o n ws := ⟨fun j hj => (hb.cell (p := ⟨p, o + j, none⟩) h.2).trans (h.1 j hj), Nat.lt_of_lt_of_le h.2 hb.size⟩
def hfN (x : Nat) : List Nat := [x / 16777216 % 256, x / 65536 % 256, x / 256 % 256, x % 256]
def hfL (ws : Nat → Nat) : Nat → List Nat
  | 0 => []
  | n + 1 => hfL ws n ++ hfN (ws n)
theorem hfL_length (ws : Nat → Nat) (n : Nat) : (hfL ws n).length = 4 * n := by
  induction n with
  | zero => rfl
  | succ n ih => simp [hfL, hfN, ih]; omega
def u8L (l : List Nat) : List Value := l.map fun x => Value.int .u8 (x : Nat)
def strOf (l : List Nat) : ByteArray := ⟨(l.map fun x => UInt8.ofNat x).toArray⟩

theorem infoU8 : (Tryz.prog.info? 5).map (fun i => (i.zero, i.size, i.bytes)) = some (some (.int .u8 0), 1, 1) := by kernel_rfl
theorem info_u8 : ∃ i, Tryz.prog.info? 5 = some i ∧ i.zero = some (.int .u8 0) ∧ i.size = 1 ∧ i.bytes = 1 := by
  have h := infoU8
  cases e : Tryz.prog.info? 5 with
  | none => rw [e] at h; cases h
  | some i =>
    rw [e] at h
    simp at h
    exact ⟨i, rfl, h.1, h.2.1, h.2.2⟩
theorem cell_four_new (w : World) (a b c d : Value) (t : TypeId) : ∀ j u, [a, b, c, d][j]? = some u → (w.alloc (.cells #[a, b, c, d] t)).cell? ((⟨w.heap.size, 0, none⟩ : Addr).add j) = some u := by
  intro j u hj
  match j, hj with
  | 0, hj => simp at hj; subst hj; simp [Addr.add]
  | 1, hj => simp at hj; subst hj; simp [Addr.add]
  | 2, hj => simp at hj; subst hj; simp [Addr.add]
  | 3, hj => simp at hj; subst hj; simp [Addr.add]
  | j + 4, hj => simp at hj
def B256 (l : List Nat) : Prop := ∀ x ∈ l, x < 256
theorem hfL_small (ws : Nat → Nat) (n : Nat) : B256 (hfL ws n) := by
  induction n with
  | zero => intro x hx; cases hx
  | succ n ih =>
    intro x hx
    rcases List.mem_append.1 hx with h | h
    · exact ih x h
    · simp only [hfN, List.mem_cons, List.not_mem_nil, or_false] at h
      omega
theorem text_owned {w : World} {base n : Nat} {v : Value} {l : List Nat} (h : w.ownsRow base 5 1 v n (u8L l)) (hl : l.length = n) (h0 : 0 < n) (hs : B256 l) : (convert 95 9 v).run Tryz.prog w = .ok (.string (strOf l)) w := by
  obtain ⟨_, h⟩ := h
  rcases h with ⟨hv, hn⟩ | ⟨g, cap, cur, hv, hb, hh, _, _, hcs, hcur⟩
  · omega
  · rw [hv]
    have e1 : (l.map fun x => UInt8.ofNat x).length = n := by rw [List.length_map, hl]
    have g2 := run_convert_bytes_back (P := Tryz.prog) w 95 9 5 ⟨g, 0, none⟩ cap (l.map fun x => UInt8.ofNat x) Tryz.underlying95 Tryz.underlying5 Tryz.underlying9 (fun j hj => by
      have hj' := hj
      rw [e1] at hj'
      have e : (cur.toList.take (n * 1))[j]? = (u8L l)[j]? := by rw [hcur]
      rw [List.getElem?_take_of_lt (by omega)] at e
      simp only [Array.getElem?_toList] at e
      have e2 : (Addr.add ⟨g, 0, none⟩ j) = ⟨g, j, none⟩ := by
        simp only [Addr.add]
        split
        · rename_i h0; have : j = 0 := by simpa using h0
          subst this; rfl
        · simp
      have lt : l[j]'(by omega) < 256 := hs _ (List.getElem_mem _)
      have e3 : ((l.map fun x => UInt8.ofNat x)[j]'hj).toNat = l[j]'(by omega) := by
        rw [List.getElem_map]
        show (UInt8.ofNat _).toNat = _
        rw [UInt8.toNat_ofNat']
        exact Nat.mod_eq_of_lt lt
      rw [e2, e3]
      simp only [World.cell?, hh]
      simp [e, u8L, show j < l.length from by omega])
    rw [e1] at g2
    exact g2

set_option maxRecDepth 100000 in
set_option maxHeartbeats 4000000 in
theorem high_any (p o n cap : Nat) (ws : Nat → Nat) (hn : n < 100) (h0 : 0 < n) (w : World) (hW : WordsAt w p o n ws) :
    Calls Tryz.prog 158 #[.slice (some ⟨p, o, none⟩) n cap] w fun e w' => e = .returned (.string (strOf (hfL ws n))) ∧ Below w.heap.size w w' := by
  obtain ⟨i0, hi, hz0, hz1, hz2⟩ := info_u8
  have HW : Hid _ := hW
  clear hW
  go_enter Tryz.func158, Tryz.ntmps158
  go_wp2_with fail
  go_loopw [3, 8] (fun v i wr => ∃ k : Nat, k ≤ n ∧ i = .int .i64 k ∧ wr.ownsRow w.heap.size 5 1 v (4 * k) (u8L (hfL ws k)) ∧ Below w.heap.size w wr)
    (fun _ i _ => n - (intOf i).toNat)
  case atStart => exact ⟨0, by omega, rfl, World.ownsRow_nil _ _ _ _, Below.refl _ _⟩
  case round =>
    obtain ⟨k, hk, rfl, hown, hbel⟩ := hrel
    by_cases hlt : k < n
    · obtain ⟨x, hx⟩ : ∃ x, x = ws k := ⟨_, rfl⟩
      have gc : wr.cell? ⟨p, o + k, none⟩ = some (.int .u32 (x : Nat)) := by rw [hx]; exact (hbel.cell (p := ⟨p, o + k, none⟩) HW.out.2).trans (HW.out.1 k hlt)
      have gz : p < wr.heap.size := Nat.lt_of_lt_of_le HW.out.2 hbel.size
      have hlt' : (k : Int) < (n : Int) := by omega
      have hd : decide ((k : Int) < (n : Int)) = true := decide_eq_true hlt'
      obtain ⟨b3, hb3⟩ : ∃ b, b = x / 16777216 % 256 := ⟨_, rfl⟩
      obtain ⟨b2, hb2⟩ : ∃ b, b = x / 65536 % 256 := ⟨_, rfl⟩
      obtain ⟨b1, hb1⟩ : ∃ b, b = x / 256 % 256 := ⟨_, rfl⟩
      obtain ⟨b0, hb0⟩ : ∃ b, b = x % 256 := ⟨_, rfl⟩
      have r3 : IntKind.u8.wrap ((x : Int) / 16777216) = (b3 : Nat) := by rw [IntKind.wrap_u8]; omega
      have r2 : IntKind.u8.wrap ((x : Int) / 65536) = (b2 : Nat) := by rw [IntKind.wrap_u8]; omega
      have r1 : IntKind.u8.wrap ((x : Int) / 256) = (b1 : Nat) := by rw [IntKind.wrap_u8]; omega
      have r0 : IntKind.u8.wrap (x : Int) = (b0 : Nat) := by rw [IntKind.wrap_u8]; omega
      have HH : Hid (u8L (hfL ws (k + 1)) = u8L (hfL ws k) ++ [.int .u8 (b3 : Nat), .int .u8 (b2 : Nat), .int .u8 (b1 : Nat), .int .u8 (b0 : Nat)]) := by
        show _ = _
        rw [hb3, hb2, hb1, hb0, hx]
        simp [hfL, hfN, u8L]
      have HB : Hid (Below w.heap.size w wr) := hbel
      clear hx hb3 hb2 hb1 hb0 hbel
      go_wp2_with (first | (at_builtin; refine wpList_append_own _ rfl _ _ 95 rfl w.heap.size 5 i0 (.int .u8 0) 1 1 Tryz.underlying95 hi hz0 hz1 hz2 rfl (by decide) _ _ _ rfl (hown.alloc _) ⟨_, 0, none⟩ 4 4 [.int .u8 (b3 : Nat), .int .u8 (b2 : Nat), .int .u8 (b1 : Nat), .int .u8 (b0 : Nat)] rfl rfl ?c1 ?c2 ?c3 ?c4 ?c5 ?_))
      case c1 => exact cell_four_new _ _ _ _ _ _
      case c2 => intro u hu; simp at hu; rcases hu with rfl | rfl | rfl | rfl <;> rfl
      case c3 => unfold maxLen; omega
      case c4 => omega
      case c5 => have := HB.out.size; simp; omega
      · intro v' w1 hown' hgrow _
        have hb1 : Below w.heap.size w w1 := (below_alloc0' HB.out _).grown hgrow (by have := HB.out.size; simp; omega) (fun k hk => (hown.lt k hk).1)
        rw [← HH.out, show 4 * k + 4 = 4 * (k + 1) from by omega] at hown'
        have HO : Hid _ := And.intro hown' hb1
        clear hgrow hown' hb1 hown
        go_wp2_with fail
        go_roundw
        case rel => first | exact ⟨k + 1, by omega, by go_num, HO.out.1, HO.out.2⟩ | ((repeat apply Exists.intro); exact ⟨⟨k + 1, by omega, by go_num, HO.out.1, HO.out.2⟩, rfl⟩)
        case measure => simp [intOf]; omega
    · obtain rfl : k = n := by omega
      have hcv := text_owned hown (hfL_length ws k) (by omega) (hfL_small ws k)
      have HB : Hid (Below w.heap.size w wr) := hbel
      clear hown hbel
      go_wp2_with fail
      go_ret
      exact ⟨rfl, HB.out⟩
end Go.Proofs.YtienklnigigepaaGreatDoor
