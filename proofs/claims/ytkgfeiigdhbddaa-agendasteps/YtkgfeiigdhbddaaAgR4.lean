/- The reference's agenda: Put, Drop, Move. -/
import Derived.Test.YtkgfeiigdhbddaaAgR3
namespace Go.Proofs.Ytkgfeiigdhbddaa
open Go Go.RowKit Go.Lib
theorem RefA.last {w : World} {Z : Nat → Prop} {r l l' : Nat} {L : List En} (h : RefA w Z r l L) : RefA (w.setCell ⟨r, 1, none⟩ (.int .i64 (l' : Nat))) Z r l' L ∧ Off Z w (w.setCell ⟨r, 1, none⟩ (.int .i64 (l' : Nat))) := by
  obtain ⟨a, cap, c0, hc, hE⟩ := h.c0
  exact ⟨⟨h.zr, by rw [World.size_setCell]; exact h.rl, fun o => by rw [World.frozen?_setCell]; exact h.fr o, ⟨a, cap, (World.cell?_setCell_other _ _ _ _ (by intro c; injection c with _ c _; cases c)).trans c0, hc, hE.kept (by rw [World.size_setCell]; exact Nat.le_refl _) (fun k hk _ => Below.heap_setCell _ _ _ _ hk.2)⟩, World.cell?_setCell_same _ _ _ h.c1⟩, ⟨rfl, rfl, rfl, by rw [World.size_setCell]; exact Nat.le_refl _, fun k hk => Below.heap_setCell _ _ _ _ (fun (c : k = r) => hk (by rw [c]; exact h.zr))⟩⟩
theorem rPut_arg (v : Option Addr) (m : Int) (s : ByteArray) (h : ¬ (0 ≤ m ∧ m ≤ 1099511627776)) (w : World) : Calls Try.prog 16 #[.pointer v, .int .i64 m, .string s] w fun e w' => e = .returned (.tuple #[.int .i64 0, .int .i64 1]) ∧ w' = w := by
  have HD : Hid (decide (0 ≤ m ∧ m ≤ 1099511627776) = false) := decide_eq_false h
  clear h
  go_enter Try.func16, Try.ntmps16
  go_wp2_with fail
  refine (moment_any _ _).mono ?_
  rintro e w1 ⟨rfl, rfl⟩
  rw [HD.out]
  go_wp2_with fail
  go_ret2
  exact ⟨rfl, rfl⟩
theorem rPut_full (r l m : Nat) (Z : Nat → Prop) (L : List En) (s : ByteArray) (hm : m ≤ 1099511627776) (w : World) (hA : RefA w Z r l L) (h : 512 ≤ L.length) : Calls Try.prog 16 #[.pointer (some ⟨r, 0, none⟩), .int .i64 (m : Nat), .string s] w fun e w' => e = .returned (.tuple #[.int .i64 0, .int .i64 5]) ∧ w' = w := by
  have HD : Hid (decide (0 ≤ (m : Int) ∧ (m : Int) ≤ 1099511627776) = true) := decide_eq_true ⟨by omega, by omega⟩
  obtain ⟨a, cap, c0, hc, hE⟩ := hA.c0
  generalize L.length = n at *
  have i1 : (512 : Int) ≤ (n : Nat) := by omega
  clear hm hA h hc hE
  go_enter Try.func16, Try.ntmps16
  go_wp2_with fail
  refine (moment_any _ _).mono ?_
  rintro e w1 ⟨rfl, rfl⟩
  rw [HD.out]
  go_wp2_with fail
  go_ret2
  exact ⟨rfl, rfl⟩
set_option maxRecDepth 100000 in
set_option maxHeartbeats 1000000 in
theorem rPut_ok (r l l1 m : Nat) (hl1 : l1 = l + 1) (Z : Nat → Prop) (L : List En) (s : ByteArray) (hm : m ≤ 1099511627776) (w : World) (hZ : ∀ k, w.heap.size ≤ k → Z k) (hA : RefA w Z r l L) (h : L.length < 512) (hl : l < 1000000000) : Calls Try.prog 16 #[.pointer (some ⟨r, 0, none⟩), .int .i64 (m : Nat), .string s] w fun e w' => e = .returned (.tuple #[.int .i64 (l1 : Nat), .int .i64 0]) ∧ RefA w' Z r l1 (insE ⟨l1, m, s⟩ L) ∧ Off Z w w' := by
  have HD : Hid (decide (0 ≤ (m : Int) ∧ (m : Int) ≤ 1099511627776) = true) := decide_eq_true ⟨by omega, by omega⟩
  obtain ⟨a, cap, c0, hc, hE⟩ := hA.c0
  obtain ⟨n, hn⟩ : ∃ n, n = L.length := ⟨_, rfl⟩
  rw [← hn] at c0
  have c1 := hA.c1
  have f1 := hA.fr 1
  have HA : Hid (RefA w Z r l L ∧ n = L.length ∧ (∀ k, w.heap.size ≤ k → Z k) ∧ n < 512) := ⟨hA, hn, hZ, by omega⟩
  have i1 : ¬ ((512 : Int) ≤ (n : Nat)) := by omega
  have i2 : (l : Int) + 1 = (l1 : Int) := by omega
  have i3 : (l1 : Int) ≤ 2000000000 := by omega
  clear hm hA h hc hE hn hZ hl1 hl
  go_enter Try.func16, Try.ntmps16
  go_wp2_with fail
  refine (moment_any _ _).mono ?_
  rintro e w1 ⟨rfl, rfl⟩
  rw [HD.out]
  go_wp2_with fail
  have hV := HA.out.1.last (l' := l1)
  generalize w1.setCell ⟨r, 1, none⟩ (.int .i64 (l1 : Nat)) = V at *
  have HV : Hid (RefA V Z r l1 L ∧ Off Z w1 V) := hV
  refine (rput_in r l1 n Z L HA.out.2.1 (by have := HA.out.2.2.2; omega) ⟨l1, m, s⟩ V (off_new HV.out.2 HA.out.2.2.1) HV.out.1).mono ?_
  rintro e w2 ⟨rfl, hA2, hO2⟩
  have k1 := hA2.c1
  have H2 : Hid (RefA w2 Z r l1 (insE ⟨l1, m, s⟩ L) ∧ Off Z w1 w2) := ⟨hA2, HV.out.2.trans hO2⟩
  clear hA2 hO2 hV c0 c1 f1
  go_wp2_with fail
  go_ret2
  exact ⟨rfl, H2.out⟩
theorem rDrop_arg (v : Option Addr) (t : Int) (h : ¬ 1 ≤ t) (w : World) : Calls Try.prog 17 #[.pointer v, .int .i64 t] w fun e w' => e = .returned (.tuple #[.bool false, .int .i64 1]) ∧ w' = w := by
  have h1 : t < 1 := by omega
  clear h
  go_enter Try.func17, Try.ntmps17
  go_wp2_with fail
  go_ret2
  exact ⟨rfl, rfl⟩
set_option maxHeartbeats 1000000 in
theorem rDrop_ok (r l t : Nat) (Z : Nat → Prop) (L : List En) (w : World) (hZ : ∀ k, w.heap.size ≤ k → Z k) (hA : RefA w Z r l L) (h5 : L.length ≤ 600) (h1 : 1 ≤ t) : Calls Try.prog 17 #[.pointer (some ⟨r, 0, none⟩), .int .i64 (t : Nat)] w fun e w' => e = .returned (.tuple #[.bool (anyT t L), .int .i64 0]) ∧ RefA w' Z r l (rmE t L) ∧ Off Z w w' := by
  have HA : Hid (RefA w Z r l L ∧ (∀ k, w.heap.size ≤ k → Z k) ∧ L.length ≤ 600) := ⟨hA, hZ, h5⟩
  have i1 : ¬ ((t : Int) < 1) := by omega
  clear hA hZ h5 h1
  go_enter Try.func17, Try.ntmps17
  go_wp2_with fail
  refine (rtake_in r l L.length t Z L rfl HA.out.2.2 w HA.out.2.1 HA.out.1).mono ?_
  rintro e w2 ⟨rfl, hA2, hO2⟩
  have hb : Below w2.heap.size w2 (w2.alloc (.cells #[.int .i64 ((lastM t L).t : Nat), .int .i64 ((lastM t L).m : Nat), .string (lastM t L).s] 38)) := below_alloc0 (Below.refl _ _) _
  have H2 : Hid (RefA (w2.alloc (.cells #[.int .i64 ((lastM t L).t : Nat), .int .i64 ((lastM t L).m : Nat), .string (lastM t L).s] 38)) Z r l (rmE t L) ∧ Off Z w (w2.alloc (.cells #[.int .i64 ((lastM t L).t : Nat), .int .i64 ((lastM t L).m : Nat), .string (lastM t L).s] 38))) := ⟨hA2.call hb, hO2.trans (Off.of_below hb (off_new hO2 HA.out.2.1))⟩
  clear hA2 hO2 hb
  unfold enG
  go_wp2_with fail
  go_ret2
  exact ⟨rfl, H2.out⟩
theorem rMove_arg (v : Option Addr) (t m : Int) (h : ¬ (1 ≤ t ∧ 0 ≤ m ∧ m ≤ 1099511627776)) (w : World) : Calls Try.prog 18 #[.pointer v, .int .i64 t, .int .i64 m] w fun e w' => e = .returned (.int .i64 1) ∧ w' = w := by
  by_cases h1 : 1 ≤ t
  · have h2 : ¬ t < 1 := by omega
    have h3 : decide (t < 1) = false := decide_eq_false h2
    have HE : Hid (decide (0 ≤ m ∧ m ≤ 1099511627776) = false) := decide_eq_false (fun c => h ⟨h1, c⟩)
    clear h h1
    go_enter Try.func18, Try.ntmps18
    go_wp2_with fail
    refine (moment_any _ _).mono ?_
    rintro e w2 ⟨rfl, rfl⟩
    rw [HE.out]
    go_wp2_with fail
    go_ret
    exact ⟨rfl, rfl⟩
  · have h2 : t < 1 := by omega
    have h3 : decide (t < 1) = true := decide_eq_true h2
    clear h h1
    go_enter Try.func18, Try.ntmps18
    go_wp2_with fail
    go_ret
    exact ⟨rfl, rfl⟩
set_option maxHeartbeats 1000000 in
theorem rMove_no (r l t m : Nat) (Z : Nat → Prop) (L : List En) (w : World) (hZ : ∀ k, w.heap.size ≤ k → Z k) (hA : RefA w Z r l L) (h5 : L.length ≤ 600) (h1 : 1 ≤ t) (hm : m ≤ 1099511627776) (hx : ∀ e ∈ L, e.t ≠ t) : Calls Try.prog 18 #[.pointer (some ⟨r, 0, none⟩), .int .i64 (t : Nat), .int .i64 (m : Nat)] w fun e w' => e = .returned (.int .i64 6) ∧ RefA w' Z r l L ∧ Off Z w w' := by
  have HA : Hid (RefA w Z r l L ∧ (∀ k, w.heap.size ≤ k → Z k) ∧ L.length ≤ 600 ∧ anyT t L = false ∧ rmE t L = L) := ⟨hA, hZ, h5, anyT_none hx, rmE_none hx⟩
  have HE : Hid (decide (0 ≤ (m : Int) ∧ (m : Int) ≤ 1099511627776) = true) := decide_eq_true ⟨by omega, by omega⟩
  have i1 : ¬ ((t : Int) < 1) := by omega
  have i2 : decide ((t : Int) < 1) = false := decide_eq_false i1
  clear hA hZ h5 h1 hm hx
  go_enter Try.func18, Try.ntmps18
  go_wp2_with fail
  refine (moment_any _ _).mono ?_
  rintro e w1 ⟨rfl, rfl⟩
  rw [HE.out]
  go_wp2_with fail
  refine (rtake_in r l L.length t Z L rfl HA.out.2.2.1 w1 HA.out.2.1 HA.out.1).mono ?_
  rintro e w2 ⟨rfl, hA2, hO2⟩
  rw [HA.out.2.2.2.2] at hA2
  rw [HA.out.2.2.2.1]
  have hb : Below w2.heap.size w2 (w2.alloc (.cells #[.int .i64 ((lastM t L).t : Nat), .int .i64 ((lastM t L).m : Nat), .string (lastM t L).s] 38)) := below_alloc0 (Below.refl _ _) _
  have H2 : Hid (RefA (w2.alloc (.cells #[.int .i64 ((lastM t L).t : Nat), .int .i64 ((lastM t L).m : Nat), .string (lastM t L).s] 38)) Z r l L ∧ Off Z w1 (w2.alloc (.cells #[.int .i64 ((lastM t L).t : Nat), .int .i64 ((lastM t L).m : Nat), .string (lastM t L).s] 38))) := ⟨hA2.call hb, hO2.trans (Off.of_below hb (off_new hO2 HA.out.2.1))⟩
  clear hA2 hO2 hb
  unfold enG
  go_wp2_with fail
  go_ret
  exact ⟨rfl, H2.out⟩
set_option maxHeartbeats 1000000 in
theorem rMove_yes (r l t m : Nat) (Z : Nat → Prop) (L : List En) (x : En) (w : World) (hZ : ∀ k, w.heap.size ≤ k → Z k) (hA : RefA w Z r l L) (h5 : L.length ≤ 600) (h1 : 1 ≤ t) (hm : m ≤ 1099511627776) (hd : Dst L) (hx : x ∈ L) (hxt : x.t = t) : Calls Try.prog 18 #[.pointer (some ⟨r, 0, none⟩), .int .i64 (t : Nat), .int .i64 (m : Nat)] w fun e w' => e = .returned (.int .i64 0) ∧ RefA w' Z r l (insE ⟨t, m, x.s⟩ (rmE t L)) ∧ Off Z w w' := by
  have HA : Hid (RefA w Z r l L ∧ (∀ k, w.heap.size ≤ k → Z k) ∧ L.length ≤ 600 ∧ anyT t L = true ∧ lastM t L = x ∧ x.t = t ∧ (rmE t L).length ≤ 600) := ⟨hA, hZ, h5, anyT_mem hx hxt, lastM_eq hxt hd hx, hxt, Nat.le_trans (rmE_len t L) h5⟩
  have HE : Hid (decide (0 ≤ (m : Int) ∧ (m : Int) ≤ 1099511627776) = true) := decide_eq_true ⟨by omega, by omega⟩
  have i1 : ¬ ((t : Int) < 1) := by omega
  have i2 : decide ((t : Int) < 1) = false := decide_eq_false i1
  clear hA hZ h5 h1 hm hx hd hxt
  go_enter Try.func18, Try.ntmps18
  go_wp2_with fail
  refine (moment_any _ _).mono ?_
  rintro e w1 ⟨rfl, rfl⟩
  rw [HE.out]
  go_wp2_with fail
  refine (rtake_in r l L.length t Z L rfl HA.out.2.2.1 w1 HA.out.2.1 HA.out.1).mono ?_
  rintro e w2 ⟨rfl, hA2, hO2⟩
  rw [HA.out.2.2.2.1, HA.out.2.2.2.2.1]
  have hb : Below w2.heap.size w2 (w2.alloc (.cells #[.int .i64 (x.t : Nat), .int .i64 (m : Nat), .string x.s] 38)) := below_alloc0 (Below.refl _ _) _
  have H2 : Hid (RefA (w2.alloc (.cells #[.int .i64 (x.t : Nat), .int .i64 (m : Nat), .string x.s] 38)) Z r l (rmE t L) ∧ Off Z w1 (w2.alloc (.cells #[.int .i64 (x.t : Nat), .int .i64 (m : Nat), .string x.s] 38))) := ⟨hA2.call hb, hO2.trans (Off.of_below hb (off_new hO2 HA.out.2.1))⟩
  clear hA2 hO2 hb
  unfold enG
  go_wp2_with fail
  refine (rput_in r l (rmE t L).length Z (rmE t L) rfl HA.out.2.2.2.2.2.2 ⟨x.t, m, x.s⟩ _ (off_new H2.out.2 HA.out.2.1) H2.out.1).mono ?_
  rintro e w3 ⟨rfl, hA3, hO3⟩
  rw [HA.out.2.2.2.2.2.1] at hA3
  have H3 : Hid (RefA w3 Z r l (insE ⟨t, m, x.s⟩ (rmE t L)) ∧ Off Z w1 w3) := ⟨hA3, H2.out.2.trans hO3⟩
  clear hA3 hO3
  go_wp2_with fail
  go_ret
  exact ⟨rfl, H3.out⟩
end Go.Proofs.Ytkgfeiigdhbddaa
