/- Several texts laid together. -/
import Derived.Test.YtjdfipfeclphkaaDoorShaF
import Derived.Test.YtjdfipfeclphkaaDoorRef4Y
import Derived.Deep.MidRow
namespace Go.Proofs.YtjdfipfeclphkaaDoor
open Go.RowKit

def abcS : ByteArray := ⟨#[97, 98, 99]⟩
def abcR : ByteArray := ⟨#[186, 120, 22, 191, 143, 1, 207, 234, 65, 65, 64, 222, 93, 174, 34, 35, 176, 3, 97, 163, 150, 23, 122, 156, 180, 16, 255, 97, 242, 0, 21, 173]⟩
set_option maxRecDepth 100000 in
theorem abc_sum : shaS abcS = abcR := by kernel_rfl
theorem hsum_nil (w : World) : Calls Tryd.prog 34 #[.pointer none] w fun e w' => e = .returned (.string ByteArray.empty) ∧ Below w.heap.size w w' := by
  go_enter Tryd.func34, Tryd.ntmps34
  go_wp2
  go_ret
  exact ⟨rfl, by first | exact Below.refl _ _ | exact below_alloc0' (Below.refl _ _) _⟩
end Go.Proofs.YtjdfipfeclphkaaDoor

namespace Go.Proofs.YtjdfipfeclphkaaDoor
open Go.RowKit

end Go.Proofs.YtjdfipfeclphkaaDoor

namespace Go.Proofs.YtjdfipfeclphkaaDoor
open Go.RowKit

theorem word4_congr {b b' : Nat → Nat} (h : ∀ j, j < 64 → b j = b' j) (t : Nat) (ht : t < 16) : word4 b t = word4 b' t := by
  unfold word4
  rw [h (4 * t) (by omega), h (4 * t + 1) (by omega), h (4 * t + 2) (by omega), h (4 * t + 3) (by omega)]
theorem wl_congr {b b' : Nat → Nat} (h : ∀ j, j < 64 → b j = b' j) (t : Nat) : wl b t = wl b' t := by
  induction t with
  | zero => rfl
  | succ t ih =>
    unfold wl
    rw [ih]
    by_cases c : t < 16
    · simp only [if_pos c, word4_congr h t c]
    · simp only [if_neg c]
theorem wAt_congr {b b' : Nat → Nat} (h : ∀ j, j < 64 → b j = b' j) (t : Nat) : wAt b t = wAt b' t := by unfold wAt; rw [wl_congr h]
theorem rounds_congr {b b' : Nat → Nat} (h : ∀ j, j < 64 → b j = b' j) (x : E8) (t : Nat) : rounds b x t = rounds b' x t := by
  induction t with
  | zero => rfl
  | succ t ih => unfold rounds; rw [ih, wAt_congr h]
theorem hashAt_congr {T T' : Nat → Nat} (n : Nat) (h : ∀ j, j < 64 * n → T j = T' j) : hashAt T n = hashAt T' n := by
  induction n with
  | zero => rfl
  | succ n ih =>
    unfold hashAt
    rw [ih (fun j hj => h j (by omega))]
    unfold mixN
    rw [rounds_congr (b := fun j => T (64 * n + j)) (b' := fun j => T' (64 * n + j)) (fun j hj => h _ (by omega))]
theorem HashT.text {w : World} {g len : Nat} {T T' : Nat → Nat} (h : HashT w g T len) (e : ∀ j, j < len → T j = T' j) : HashT w g T' len := by
  obtain ⟨b, h1, h2⟩ := h
  refine ⟨b, fun j hj => (h1 j hj).trans (e _ (by omega)), ?_⟩
  rw [← hashAt_congr (T := T) (T' := T') (len / 64) (fun j hj => e j (by omega))]
  exact h2
end Go.Proofs.YtjdfipfeclphkaaDoor

namespace Go.Proofs.YtjdfipfeclphkaaDoor
open Go.RowKit
def hashL (x : E8) (b : Nat → Nat) (n : Nat) : List Value := [.int .u32 (x.a : Nat), .int .u32 (x.b : Nat), .int .u32 (x.c : Nat), .int .u32 (x.d : Nat), .int .u32 (x.e : Nat), .int .u32 (x.f : Nat), .int .u32 (x.g : Nat), .int .u32 (x.h : Nat)] ++ (List.range 64).map (fun j => Value.int .u8 (b j : Nat)) ++ [.int .i64 (n : Nat)]
theorem hashL_length (x : E8) (b : Nat → Nat) (n : Nat) : (hashL x b n).length = 73 := by simp [hashL]
theorem hashL_get (x : E8) (b : Nat → Nat) (n : Nat) : (∀ j, j < 8 → (hashL x b n)[j]? = some (.int .u32 (x.get j : Nat))) ∧ (∀ j, j < 64 → (hashL x b n)[8 + j]? = some (.int .u8 (b j : Nat))) ∧ (hashL x b n)[72]? = some (.int .i64 (n : Nat)) := by
  refine ⟨fun j hj => ?_, fun j hj => ?_, by simp [hashL]⟩
  · match j, hj with
    | 0, _ | 1, _ | 2, _ | 3, _ | 4, _ | 5, _ | 6, _ | 7, _ => rfl
    | n + 8, h => exact absurd h (by omega)
  · unfold hashL
    rw [List.getElem?_append_left (by simp; omega), List.getElem?_append_right (by simp), List.getElem?_map, List.getElem?_range (by simp; omega)]
    simp
theorem hashL_one (x : E8) (b : Nat → Nat) (n : Nat) : ∀ v ∈ hashL x b n, v.oneCell' = true := by
  intro v hv
  simp only [hashL, List.mem_append, List.mem_cons, List.not_mem_nil, or_false, List.mem_map] at hv
  rcases hv with ((rfl | rfl | rfl | rfl | rfl | rfl | rfl | rfl) | ⟨j, _, rfl⟩) | rfl <;> rfl
theorem HashW.range {w : World} {g n : Nat} {x : E8} {b : Nat → Nat} (h : HashW w g x b n) : w.rangeAt g 0 (hashL x b n) := by
  obtain ⟨h1, h2, h3, _, _⟩ := h
  have e := hashL_get x b n
  intro j v hv
  have hj : j < 73 := by
    rcases Nat.lt_or_ge j 73 with c | c
    · exact c
    · rw [List.getElem?_eq_none (by rw [hashL_length]; exact c)] at hv; cases hv
  rw [Nat.zero_add]
  rcases Nat.lt_or_ge j 8 with c | c
  · rw [h1 j c, ← e.1 j c]; exact hv
  · rcases Nat.lt_or_ge j 72 with d | d
    · obtain ⟨i, rfl⟩ : ∃ i, j = 8 + i := ⟨j - 8, by omega⟩
      rw [h2 i (by omega), ← e.2.1 i (by omega)]; exact hv
    · obtain rfl : j = 72 := by omega
      rw [h3, ← e.2.2]; exact hv
theorem HashW.made (w : World) (x : E8) (b : Nat → Nat) (n : Nat) (t : TypeId) : HashW (w.alloc (.cells (hashL x b n).toArray t)) w.heap.size x b n := by
  have e := hashL_get x b n
  refine ⟨fun j hj => ?_, fun j hj => ?_, ?_, fun o => by simp, by simp⟩
  · rw [World.cell?_alloc_new, List.getElem?_toArray]; exact e.1 j hj
  · rw [World.cell?_alloc_new, List.getElem?_toArray]; exact e.2.1 j hj
  · rw [World.cell?_alloc_new, List.getElem?_toArray]; exact e.2.2
theorem store_hash {ops : Array Oper} {rest : List Oper} {o : Oper} {a : Act} {w : World} {c : Array Value} {Q : Exit → Act → World → Prop} (x y : Operand) (cs : List Value) (hgd : o.guard = none) (ho : o.op = .store 85 x y)
    (hx' : ∃ p, a.eval x = .pointer (some ⟨p, 0, none⟩) ∧ p = w.heap.size) (hy : a.eval y = .agg cs.toArray) (hc : c.size = 73) (hl : cs.length = 73) (h1 : ∀ v ∈ cs, v.oneCell' = true)
    (h : wpList Tryd.prog ops Q rest (a.put o.dst undef) (w.alloc (.cells cs.toArray 85))) : wpList Tryd.prog ops Q (o :: rest) a (w.alloc (.cells c 85)) :=
  wpList_plain hgd fun _ hK => by
    obtain ⟨p, hx, rfl⟩ := hx'
    unfold Oper.wp execOp
    simp only [ho, hx, hy, Instr.storeAt, Instr.sureAddr, Sem.run_bind, Sem.run_pure, Result.andThen_ok, run_storeVar_new (P := Tryd.prog) w 85 c cs.toArray (by rw [List.size_toArray, hl]; kernel_rfl) (by rw [hc, List.size_toArray, hl]) (all_oneCell_toArray h1)]
    exact hK _ _ h
end Go.Proofs.YtjdfipfeclphkaaDoor

namespace Go.Proofs.YtjdfipfeclphkaaDoor
open Go.RowKit
set_option maxRecDepth 100000 in
theorem hash_zero : ∃ zs : Array Value, zs.size = 73 ∧ ∀ w, (zeroValue 85).run Tryd.prog w = .ok (.agg zs) w :=
  ⟨#[.int .u32 0, .int .u32 0, .int .u32 0, .int .u32 0, .int .u32 0, .int .u32 0, .int .u32 0, .int .u32 0, .int .u8 0, .int .u8 0, .int .u8 0, .int .u8 0, .int .u8 0, .int .u8 0, .int .u8 0, .int .u8 0, .int .u8 0, .int .u8 0, .int .u8 0, .int .u8 0, .int .u8 0, .int .u8 0, .int .u8 0, .int .u8 0, .int .u8 0, .int .u8 0, .int .u8 0, .int .u8 0, .int .u8 0, .int .u8 0, .int .u8 0, .int .u8 0, .int .u8 0, .int .u8 0, .int .u8 0, .int .u8 0, .int .u8 0, .int .u8 0, .int .u8 0, .int .u8 0, .int .u8 0, .int .u8 0, .int .u8 0, .int .u8 0, .int .u8 0, .int .u8 0, .int .u8 0, .int .u8 0, .int .u8 0, .int .u8 0, .int .u8 0, .int .u8 0, .int .u8 0, .int .u8 0, .int .u8 0, .int .u8 0, .int .u8 0, .int .u8 0, .int .u8 0, .int .u8 0, .int .u8 0, .int .u8 0, .int .u8 0, .int .u8 0, .int .u8 0, .int .u8 0, .int .u8 0, .int .u8 0, .int .u8 0, .int .u8 0, .int .u8 0, .int .u8 0, .int .i64 0], by kernel_rfl, fun _ => by kernel_rfl⟩
set_option maxRecDepth 100000 in
set_option maxHeartbeats 1000000 in
theorem hsum_any (g : Nat) (s : ByteArray) (hs : s.size < 1152921504606846976) (w : World) (hH : HashT w g (padT s) s.size) (hC : Cube w) (hz : 2 < w.heap.size) : Calls Tryd.prog 34 #[.pointer (some ⟨g, 0, none⟩)] w fun e w' => e = .returned (.string (shaS s)) ∧ Below w.heap.size w w' := by
  have K : Hid _ := fun (g : Nat) (w : World) (hH : HashT w g (padT s) s.size) (hC : Cube w) (hg : 2 < g) => finish_any g (padT s) (padT_lt s) s.size _ _ rfl rfl hs (padT_padded s) w hH hC hg
  obtain ⟨b, hb, hw⟩ := hH
  have fz := hw.2.2.2.2
  have HR : Hid (w.rangeAt g 0 (hashL (hashAt (padT s) (s.size / 64)) b s.size)) := hw.range
  have HM : Hid (HashT (w.alloc (.cells (hashL (hashAt (padT s) (s.size / 64)) b s.size).toArray 85)) w.heap.size (padT s) s.size ∧ Cube (w.alloc (.cells (hashL (hashAt (padT s) (s.size / 64)) b s.size).toArray 85)) ∧ 2 < w.heap.size) := ⟨⟨b, hb, HashW.made _ _ _ _ _⟩, hC.alloc, hz⟩
  obtain ⟨cs, hcs⟩ : ∃ cs, cs = hashL (hashAt (padT s) (s.size / 64)) b s.size := ⟨_, rfl⟩
  rw [← hcs] at HR HM
  have hl : cs.length = 73 := by rw [hcs]; exact hashL_length _ _ _
  have h1 : Hid (∀ v ∈ cs, v.oneCell' = true) := by rw [hcs]; exact hashL_one _ _ _
  clear hw hC hz hb hs hcs
  obtain ⟨zs, hzs, hzv⟩ := hash_zero
  go_enter Tryd.func34, Tryd.ntmps34
  go_wp2_with (first | refine wpList_load_mid rfl 85 _ rfl g 0 rfl cs _ HR.out Tryd.underlying85 rfl (by rw [hl]; kernel_rfl) ?_ | refine store_hash _ _ cs rfl rfl ⟨_, rfl, rfl⟩ rfl hzs hl h1.out ?_)
  refine (K.out _ _ HM.out.1 HM.out.2.1 HM.out.2.2).mono ?_
  rintro e w1 ⟨rfl, hb1⟩
  have H1 : Hid (Below w.heap.size w w1) := (below_alloc0' (Below.refl _ _) _).trans hb1
  clear hb1
  go_wp2_with fail
  go_ret
  exact ⟨rfl, H1.out⟩
end Go.Proofs.YtjdfipfeclphkaaDoor

namespace Go.Proofs.YtjdfipfeclphkaaDoor
open Go.RowKit

theorem sb_append (a t : ByteArray) (j : Nat) : sb (a ++ t) j = if j < a.size then sb a j else sb t (j - a.size) := by
  have l : a.data.toList.length = a.size := (Lib.size_eq a).symm
  unfold sb
  have e : (a ++ t).data.toList = a.data.toList ++ t.data.toList := by simp [ByteArray.data_append]
  rw [e, List.map_append, List.getD_eq_getElem?_getD, List.getElem?_append, List.length_map, l]
  by_cases c : j < a.size
  · rw [if_pos c, if_pos c, ← List.getD_eq_getElem?_getD]
  · rw [if_neg c, if_neg c, ← List.getD_eq_getElem?_getD]
theorem padT_append (a t : ByteArray) : (∀ j, j < a.size → padT a j = padT (a ++ t) j) ∧ ∀ j, j < t.size → sb t j = padT (a ++ t) (a.size + j) := by
  have hz : (a ++ t).size = a.size + t.size := ByteArray.size_append
  refine ⟨fun j hj => ?_, fun j hj => ?_⟩
  · unfold padT
    rw [if_pos hj, if_pos (by omega), sb_append, if_pos hj]
  · unfold padT
    rw [if_pos (by omega), sb_append, if_neg (by omega), Nat.add_sub_cancel_left]
/-- A piece more. -/
theorem piece_any (g : Nat) (a t : ByteArray) (hs : a.size + t.size < 1152921504606846976) (w : World) (hH : HashT w g (padT a) a.size) (hC : Cube w) (hg : 2 < g) :
    Calls Tryd.prog 31 #[.pointer (some ⟨g, 0, none⟩), .string t] w fun e w' => e = .returned (.int .i64 0) ∧ HashT w' g (padT (a ++ t)) (a ++ t).size ∧ Cube w' ∧ Below g w w' := by
  have hz : (a ++ t).size = a.size + t.size := ByteArray.size_append
  have h := padT_append a t
  rw [hz]
  exact write_any g (padT (a ++ t)) (padT_lt _) a.size (a.size + t.size) t h.2 rfl (by omega) w (hH.text h.1) hC hg
end Go.Proofs.YtjdfipfeclphkaaDoor
