/- wardmoteref01.Bytes: a number's 32 bytes, by the reference. -/
import Derived.Test.YtdfdfkhilolnmaaDoorBytesB
import Derived.Laws.AppendOwn
import Derived.Deep.AppendLies
namespace Go.Proofs.YtdfdfkhilolnmaaDoor
open Go.RowKit

theorem infoU8 : (Tryd.prog.info? 5).map (fun i => (i.zero, i.size, i.bytes)) = some (some (.int .u8 0), 1, 1) := by kernel_rfl
theorem info_u8 : ∃ i, Tryd.prog.info? 5 = some i ∧ i.zero = some (.int .u8 0) ∧ i.size = 1 ∧ i.bytes = 1 := by
  have h := infoU8
  cases e : Tryd.prog.info? 5 with
  | none => rw [e] at h; cases h
  | some i =>
    rw [e] at h
    simp at h
    exact ⟨i, rfl, h.1, h.2.1, h.2.2⟩
def bcells (a n : Nat) : List Value := (List.range n).map fun j => Value.int .u8 (byteN a j : Nat)
theorem bcells_succ (a n : Nat) : bcells a (n + 1) = bcells a n ++ [.int .u8 (byteN a n : Nat)] := by simp [bcells, List.range_succ]
theorem text_of_owns {w : World} {base : Nat} {v : Value} {a : Nat} (h : w.ownsRow base 5 1 v 32 (bcells a 32)) : (convert 83 9 v).run Tryd.prog w = .ok (.string ⟨(bytesL a 32).toArray⟩) w := by
  obtain ⟨hl, h⟩ := h
  rcases h with ⟨hv, h0⟩ | ⟨g, cap, cur, hv, hb, hh, _, _, hcs, hcur⟩
  · omega
  · rw [hv]
    have e1 : (bytesL a 32).length = 32 := bytesL_length a 32
    have g2 := run_convert_bytes_back (P := Tryd.prog) w 83 9 5 ⟨g, 0, none⟩ cap (bytesL a 32) Tryd.underlying83 Tryd.underlying5 Tryd.underlying9 (fun j hj => by
      have hj' := hj
      rw [bytesL_length] at hj'
      rw [bytesL_get]
      have e : (cur.toList.take (32 * 1))[j]? = (bcells a 32)[j]? := by rw [hcur]
      rw [List.getElem?_take_of_lt (by omega)] at e
      simp only [Array.getElem?_toList] at e
      have e2 : (Addr.add ⟨g, 0, none⟩ j) = ⟨g, j, none⟩ := by
        simp only [Addr.add]
        split
        · rename_i h0; have : j = 0 := by simpa using h0
          subst this; rfl
        · simp
      rw [e2]
      simp only [World.cell?, hh]
      simp [e, bcells, hj'])
    rw [e1] at g2
    exact g2

set_option maxRecDepth 100000 in
set_option maxHeartbeats 1000000 in
theorem bytes_ref (a : Nat) (w : World) :
    Calls Tryd.prog 35 #[.agg #[.int .u64 (limb (a) 0 : Nat), .int .u64 (limb (a) 1 : Nat), .int .u64 (limb (a) 2 : Nat), .int .u64 (limb (a) 3 : Nat)]] w fun e w' => e = .returned (.string ⟨(bytesL a 32).toArray⟩) ∧ Below w.heap.size w w' := by
  obtain ⟨i0, hi, hz0, hz1, hz2⟩ := info_u8
  go_enter Tryd.func35, Tryd.ntmps35
  go_wp2_with fail
  go_loopw [3, 4] (fun v i wr => ∃ k : Nat, k ≤ 4 ∧ i = .int .i64 ((k : Int) - 1) ∧ wr.ownsRow (w.heap.size + 1) 5 1 v (8 * (4 - k)) (bcells a (8 * (4 - k))) ∧ Num4 wr w.heap.size a ∧ Below w.heap.size w wr ∧ w.heap.size + 1 ≤ wr.heap.size)
    (fun _ i _ => (intOf i + 1).toNat)
  case atStart => exact ⟨4, by omega, rfl, World.ownsRow_nil _ _ _ _, Num4.new _ _ _, by ((repeat' (first | with_reducible exact Below.refl _ _ | with_reducible refine Below.setCell ?_ ?_ _ | with_reducible refine below_alloc0 ?_ _ | with_reducible refine below_drewN ?_ _ | with_reducible refine Below.drew ?_ | refine below_call0 ?_ (by assumption))) <;> (first | omega | (simp; done) | (simp; omega))), by simp⟩
  case round =>
    obtain ⟨k, hk, rfl, hown, hnum, hbel, hsz⟩ := hrel
    by_cases hk0 : k = 0
    · subst hk0
      have hcv := text_of_owns hown
      clear hown hnum
      go_wp2_with fail
      go_ret
      exact ⟨rfl, hbel⟩
    · obtain ⟨q, rfl⟩ : ∃ q, k = q + 1 := ⟨k - 1, by omega⟩
      have e : ((q + 1 : Nat) : Int) - 1 = (q : Int) := by omega
      rw [e]
      clear e
      have gc := hnum q (by omega)
      go_wp2_with fail
      go_loopw [3, 5, 6] (fun v x j wq => ∃ m xx : Nat, m ≤ 8 ∧ j = .int .i64 m ∧ x = .int .u64 xx ∧ xx = limb a q * 256 ^ m % M64 ∧ wq.ownsRow (w.heap.size + 1) 5 1 v (8 * (3 - q) + m) (bcells a (8 * (3 - q) + m)) ∧ Below (w.heap.size + 1) wr wq)
        (fun _ _ j _ => 8 - (intOf j).toNat)
      case atStart =>
        refine ⟨0, limb a q, by omega, rfl, rfl, by rw [Nat.pow_zero, Nat.mul_one, Nat.mod_eq_of_lt (limb_lt a q)], ?_, Below.refl _ _⟩
        rw [show 8 * (4 - (q + 1)) = 8 * (3 - q) + 0 from by omega] at hown
        exact hown
      case round =>
        obtain ⟨m, x, hm, rfl, rfl, hxx, hown2, hbel2⟩ := hrel
        by_cases hlt2 : m < 8
        · obtain ⟨b, hb⟩ : ∃ b, b = byteN a (8 * (3 - q) + m) := ⟨_, rfl⟩
          obtain ⟨y, hy⟩ : ∃ y, y = limb a q * 256 ^ (m + 1) % M64 := ⟨_, rfl⟩
          have xl : x < M64 := by rw [hxx]; exact Nat.mod_lt _ M64_pos
          have eb : x / 72057594037927936 = b := by
            rw [hb, byteN_at a q m hlt2 (by omega), hxx]
            have e1 : M64 = 256 ^ m * 256 ^ (8 - m) := by rw [← Nat.pow_add, show m + (8 - m) = 8 from by omega]; decide
            have e2 : 72057594037927936 = 256 ^ m * 256 ^ (7 - m) := by rw [← Nat.pow_add, show m + (7 - m) = 7 from by omega]
            rw [e1, e2, Nat.mul_comm (limb a q), Nat.mul_mod_mul_left, Nat.mul_div_mul_left _ _ (Nat.pow_pos (by decide)), show 8 - m = (7 - m) + 1 from by omega, Nat.pow_succ, Nat.mod_mul_right_div_self]
          have ey : x * 256 % M64 = y := by rw [hxx, hy, Nat.mod_mul_mod, Nat.pow_succ, Nat.mul_assoc]
          have bl : b < 256 := by rw [hb]; exact byteN_lt _ _
          have r1 : IntKind.u8.wrap ((x : Int) / 2 ^ 56) = (b : Nat) := by
            have e : ((x : Int) / 2 ^ 56) = (b : Nat) := by rw [← eb]; omega
            rw [e, IntKind.wrap_u8]; omega
          have r1' : IntKind.u8.wrap ((x : Int) / 72057594037927936) = (b : Nat) := r1
          have r2 : IntKind.u64.wrap ((x : Int) * 2 ^ 8) = (y : Nat) := by
            rw [← ey, IntKind.wrap_u64]; unfold M64; omega
          have r2' : IntKind.u64.wrap ((x : Int) * 256) = (y : Nat) := r2
          have HH : Hid _ := And.intro hb hy
          clear hb hy eb ey hxx xl
          go_wp2_with (first | (at_builtin; refine wpList_append_own _ rfl _ _ 83 rfl (w.heap.size + 1) 5 i0 (.int .u8 0) 1 1 Tryd.underlying83 hi hz0 hz1 hz2 rfl (by decide) _ _ _ rfl (hown2.alloc _) ⟨_, 0, none⟩ 1 1 [.int .u8 (b : Nat)] rfl rfl ?c1 ?c2 ?c3 ?c4 ?c5 ?_))
          case c1 => exact cell_one_new _ _ _
          case c2 => intro u hu; simp at hu; subst hu; rfl
          case c3 => unfold maxLen; omega
          case c4 => omega
          case c5 => have := hbel2.size; simp; omega
          · intro v' w1 hown' hgrow _
            have hs2 := hbel2.size
            have hb1 : Below (w.heap.size + 1) _ w1 := (hbel2.alloc (by omega) _).grown hgrow (by simp; omega) (fun k hk => (hown2.lt k hk).1)
            rw [HH.out.1, ← bcells_succ] at hown'
            have HO : Hid _ := And.intro hown' hb1
            clear hgrow hown' hb1
            go_wp2_with fail
            go_roundw
            case rel => first | exact ⟨m + 1, y, by omega, by go_num, rfl, HH.out.2, HO.out.1, HO.out.2⟩ | ((repeat apply Exists.intro); exact ⟨⟨m + 1, y, by omega, by go_num, rfl, HH.out.2, HO.out.1, HO.out.2⟩, rfl⟩)
            case measure => simp [intOf]; omega
        · have hm8 : m = 8 := by omega
          subst hm8
          rw [show 8 * (3 - q) + 8 = 8 * (4 - q) from by omega] at hown2
          clear hxx
          go_wp2_with fail
          go_roundw
          case rel => exact ⟨q, by omega, rfl, hown2, fun j hj => (hbel2.cell (p := ⟨w.heap.size, j, none⟩) (by simp)).trans (hnum j hj), hbel.trans (hbel2.mono (by omega)), Nat.le_trans hsz hbel2.size⟩
          case measure => simp [intOf]
end Go.Proofs.YtdfdfkhilolnmaaDoor
