/- Package parcel: which kinds are kinds, which items fit; a record's bytes. -/
import Derived.Test.YtlebhdckgcjacaaGreatDoorRowB
import Derived.Test.YtlebhdckgcjacaaGreatDoorPcN
namespace Go.Proofs.YtlebhdckgcjacaaGreatDoor
open Go Go.RowKit Go.Lib

theorem infoA8 : (Tryz.prog.info? 5).map (fun i => (i.zero, i.size, i.bytes)) = some (some (.int .u8 0), 1, 1) := by kernel_rfl
theorem infoU8' : ∃ i, Tryz.prog.info? 5 = some i ∧ i.zero = some (.int .u8 0) ∧ i.size = 1 ∧ i.bytes = 1 := by
  have h := infoA8
  cases e : Tryz.prog.info? 5 with
  | none => rw [e] at h; cases h
  | some i =>
    rw [e] at h
    simp only [Option.map_some, Option.some.injEq, Prod.mk.injEq] at h
    exact ⟨i, rfl, h.1, h.2.1, h.2.2⟩
/-- Texts that lie behind an address. -/
def Strs (w : World) (a : Option Addr) (l : List ByteArray) : Prop :=
  ∀ j s, l[j]? = some s → ∃ p o, a = some ⟨p, o, none⟩ ∧ w.cell? ⟨p, o + j, none⟩ = some (.string s) ∧ p < w.heap.size
theorem Strs.call {w w' : World} {a : Option Addr} {l : List ByteArray} (h : Strs w a l) (hb : Below w.heap.size w w') : Strs w' a l := fun j s hj => by
  obtain ⟨p, o, h1, h2, h3⟩ := h j s hj
  exact ⟨p, o, h1, (hb.cell (p := ⟨p, o + j, none⟩) h3).trans h2, Nat.lt_of_lt_of_le h3 hb.size⟩
theorem Strs.get {w : World} {a : Option Addr} {l : List ByteArray} (h : Strs w a l) {k : Nat} (hk : k < l.length) : ∃ p o, a = some ⟨p, o, none⟩ ∧ w.cell? ⟨p, o + k, none⟩ = some (.string (l[k]'hk)) ∧ p < w.heap.size :=
  h k _ (List.getElem?_eq_getElem hk)

theorem isKind_any (k : Int) (w : World) : Calls Tryz.prog 121 #[.int .i64 k] w fun e w' => e = .returned (.bool (kindB k)) ∧ w' = w := by
  unfold kindB
  by_cases h1 : 1 ≤ k
  · by_cases h2 : k ≤ 63
    · have hd : decide (1 ≤ k ∧ k ≤ 63) = true := decide_eq_true ⟨h1, h2⟩
      rw [hd]
      clear hd
      go_enter Tryz.func121, Tryz.ntmps121
      go_wp2
      go_ret
      exact ⟨rfl, rfl⟩
    · have hd : decide (1 ≤ k ∧ k ≤ 63) = false := decide_eq_false (by omega)
      rw [hd]
      clear hd
      go_enter Tryz.func121, Tryz.ntmps121
      go_wp2
      go_ret
      exact ⟨rfl, rfl⟩
  · have hd : decide (1 ≤ k ∧ k ≤ 63) = false := decide_eq_false (by omega)
    rw [hd]
    clear hd
    go_enter Tryz.func121, Tryz.ntmps121
    go_wp2
    go_ret
    exact ⟨rfl, rfl⟩
theorem ret_bool {a b : Bool} (h : a = b) : Ending.returned (.bool a) = .returned (.bool b) := by rw [h]
set_option maxHeartbeats 1000000 in
theorem fit_any (a : Option Addr) (l : List ByteArray) (cap : Nat) (w : World) (hS : Strs w a l) (hz : ∀ s ∈ l, s.size < 140737488351233) :
    Calls Tryz.prog 122 #[.slice a l.length cap] w fun e w' => e = .returned (.bool (fitB l)) ∧ w' = w := by
  obtain ⟨n, hn⟩ : ∃ n, n = l.length := ⟨_, rfl⟩
  rw [← hn]
  by_cases h40 : n ≤ 40
  · have h40' : ¬ ((40 : Int) < (n : Int)) := by omega
    have HL : Hid (n = l.length) := hn
    have HS : Hid (Strs w a l ∧ ∀ s ∈ l, s.size < 140737488351233) := ⟨hS, hz⟩
    clear hn hS hz
    go_enter Tryz.func122, Tryz.ntmps122
    go_wp2
    go_loop [3, 11] (fun av iv => ∃ k : Nat, k ≤ n ∧ iv = .int .i64 (k : Nat) ∧ av = .int .i64 ((2 + sumN (l.take k) : Nat) : Int) ∧ okS (l.take k) = true) (fun _ iv => n - (intOf iv).toNat)
    case atStart => exact ⟨0, Nat.zero_le _, rfl, rfl, rfl⟩
    case round =>
      obtain ⟨k, hk, rfl, rfl, hok⟩ := hrel
      by_cases hlt : k < n
      · have hkl : k < l.length := by rw [← HL.out]; exact hlt
        obtain ⟨p, o, rfl, hc, _⟩ := HS.out.1.get hkl
        obtain ⟨s, hs⟩ : ∃ s, s = (l[k]'hkl) := ⟨_, rfl⟩
        rw [← hs] at hc
        have hlt' : (k : Int) < (n : Int) := Int.ofNat_lt.2 hlt
        have hsz : s.size < 140737488351233 := HS.out.2 s (by rw [hs]; exact List.getElem_mem hkl)
        obtain ⟨A, hA⟩ : ∃ A, A = 2 + sumN (l.take k) := ⟨_, rfl⟩
        rw [← hA]
        have hAb : (A : Int) ≤ 400000 := by
          have := sumN_le hok
          rw [List.length_take] at this
          omega
        have sb : (s.size : Int) < 140737488351233 := by omega
        by_cases h8 : s.size ≤ 8000
        · have h8' : ¬ ((8000 : Int) < (s.size : Int)) := by omega
          have HN : Hid (okS (l.take (k + 1)) = true ∧ ((A : Int) + (2 + (s.size : Int)) = ((2 + sumN (l.take (k + 1)) : Nat) : Int))) := by
            rw [okS_take_succ hkl, sumN_take_succ hkl, ← hs, hok]
            refine ⟨by simp [h8], by omega⟩
          clear hs hok hsz hA h8
          go_wp2
          go_round
          case rel => exact ⟨k + 1, by omega, by go_num, by rw [← HN.out.2], HN.out.1⟩
          case measure => simp [intOf]; omega
        · have h8' : ((8000 : Int) < (s.size : Int)) := by omega
          have HF : Hid (fitB l = false) := by
            unfold fitB
            rw [okS_false hkl (by rw [← hs]; omega), Bool.and_false, Bool.false_and]
            exact rfl
          clear hs hok hsz hA h8
          go_wp2
          go_ret
          exact ⟨ret_bool HF.out.symm, rfl⟩
      · obtain rfl : k = n := by omega
        have HF : Hid (fitB l = decide (((2 + sumN l : Nat) : Int) ≤ 20000)) := by
          rw [HL.out, List.take_of_length_le (Nat.le_refl _)] at hok
          unfold fitB
          rw [hok, ← HL.out, decide_eq_true h40, Bool.true_and, Bool.true_and]
          exact decide_eq_decide.2 (by omega)
        have e0 : sumN (l.take k) = sumN l := by rw [HL.out, List.take_of_length_le (Nat.le_refl _)]
        rw [e0]
        clear hlt hok e0
        go_wp2
        go_ret
        exact ⟨ret_bool HF.out.symm, rfl⟩
  · have h40' : ((40 : Int) < (n : Int)) := by omega
    have HF : Hid (fitB l = false) := by
      unfold fitB
      rw [← hn, decide_eq_false h40, Bool.false_and, Bool.false_and]
      exact rfl
    clear hn hS hz h40
    go_enter Tryz.func122, Tryz.ntmps122
    go_wp2
    go_ret
    exact ⟨ret_bool HF.out.symm, rfl⟩
end Go.Proofs.YtlebhdckgcjacaaGreatDoor
