/- Package wardmotelaw07: FeldCommits. -/
import Derived.Test.YtkdejflgmgljiaaDoorFuC
import Derived.Test.YtkdejflgmgljiaaDoorFuX
namespace Go.Proofs.YtkdejflgmgljiaaDoor
open Go Go.RowKit Go.Lib
theorem numsOf {w : World} {a : Option Addr} {l : List Nat} (h : NumsAt w a l) : Nums w a l := fun j n hj => by
  obtain ⟨b, o, h1, h2⟩ := h j n hj
  refine ⟨b, o, h1, fun i hi => ?_, h2.lt⟩
  have : i = 0 ∨ i = 1 ∨ i = 2 ∨ i = 3 := by omega
  rcases this with rfl | rfl | rfl | rfl
  · exact h2.c0
  · exact h2.c1
  · exact h2.c2
  · exact h2.c3
set_option maxRecDepth 100000 in
set_option maxHeartbeats 4000000 in
theorem feldCommits_any (l : List Nat) (a : Option Addr) (c : Nat) (hR : ∀ k ∈ l, k < R256) (w : World) (hG : GA w) (hN : NumsAt w a l) :
    Calls Tryd.prog 3 #[.slice a l.length c] w fun e w' => e = .returned (.bool true) ∧ Below w.heap.size w w' := by
  obtain ⟨E, hE⟩ : ∃ E, E = atE l 0 := ⟨_, rfl⟩
  obtain ⟨n, hn⟩ : ∃ n, n = l.length := ⟨_, rfl⟩
  have hM := numsOf hN
  have KC : Hid (∀ w, GA w → Nums w a l → Calls Tryd.prog 5 #[.slice a n c] w fun e w' => (∃ b c, e = .returned (.tuple #[.slice b c c, .int .i64 E]) ∧ (E = 0 → c = n ∧ PtsAt w' b (l.map fun k => gr.mul k gG)) ∧ (E ≠ 0 → c = 0)) ∧ Below w.heap.size w w') := fun w h1 h2 => by
    rw [hE]
    exact fcom_any l n a c hn hR w h1 h2
  have K7 : Hid (∀ w, Nums w a l → Calls Tryd.prog 6 #[.slice a n c] w fun e w' => (∃ b c d, e = .returned (.tuple #[.slice b c d, .int .i64 E]) ∧ (E = 0 → c = n ∧ PtsAt w' b (l.map fun k => gr.mul k gG)) ∧ (E ≠ 0 → c = 0)) ∧ Below w.heap.size w w') := fun w h2 => by
    rw [hE]
    exact com7_any l n a c hn hR w h2
  have KL : Hid _ := line_ok
  have HE : Hid (E = 0 → n ≤ 10 ∧ n = (l.map fun k => gr.mul k gG).length) := fun h => by
    rw [hE] at h
    refine ⟨?_, by rw [List.length_map]; exact hn⟩
    unfold atE at h
    split at h
    · next h1 => rw [hn]; exact h1.2
    · cases h
  have H0 : Hid (GA w ∧ Nums w a l) := ⟨hG, hM⟩
  have he : (E == E) = true := by simp
  rw [← hn]
  clear hE hn hM hN hG hR
  go_enter Tryd.func3, Tryd.ntmps3
  go_wp2_with fail
  refine (KC.out _ H0.out.1 H0.out.2).mono ?_
  rintro e w1 ⟨⟨b1, c1, rfl, hp1, hq1⟩, hb1⟩
  have H1 : Hid (Below w.heap.size w w1 ∧ (E = 0 → c1 = n ∧ PtsAt w1 b1 (l.map fun k => gr.mul k gG)) ∧ (E ≠ 0 → c1 = 0) ∧ GA w1 ∧ Nums w1 a l) := ⟨hb1, hp1, hq1, H0.out.1.call hb1, H0.out.2.call hb1⟩
  clear hp1 hq1 hb1 KC H0
  go_wp2_with fail
  refine (K7.out _ H1.out.2.2.2.2).mono ?_
  rintro e w2 ⟨⟨b2, c2, d2, rfl, hp2, hq2⟩, hb2⟩
  obtain ⟨L, h1, h2, h3, h4, h5⟩ : ∃ L : List Pts, c1 = L.length ∧ c2 = L.length ∧ L.length ≤ 10 ∧ PtsAt w2 b1 L ∧ PtsAt w2 b2 L := by
    by_cases h0 : E = 0
    · obtain ⟨e1, t1⟩ := H1.out.2.1 h0
      obtain ⟨e2, t2⟩ := hp2 h0
      obtain ⟨e3, e4⟩ := HE.out h0
      exact ⟨_, by rw [e1]; exact e4, by rw [e2]; exact e4, by rw [← e4]; exact e3, t1.call hb2, t2⟩
    · exact ⟨[], H1.out.2.2.1 h0, hq2 h0, Nat.zero_le _, fun j n hj => by simp at hj, fun j n hj => by simp at hj⟩
  have H2 : Hid (Below w.heap.size w w2 ∧ GA w2) := ⟨below_call0 H1.out.1 hb2, H1.out.2.2.2.1.call hb2⟩
  obtain ⟨m, hm⟩ : ∃ m, m = L.length := ⟨_, rfl⟩
  have KP : Hid (Calls Tryd.prog 7 #[.slice b1 m c1, .slice b2 m d2] w2 fun e w' => e = .returned (.bool true) ∧ Below w2.heap.size w2 w') := points_same b1 b2 L m c1 d2 hm (by rw [hm]; exact h3) w2 h4 h5
  obtain rfl : c1 = m := by rw [h1, hm]
  obtain rfl : c2 = c1 := by rw [h2, hm]
  clear h1 h2 h3 h4 h5 hp2 hq2 hb2 H1 K7 hm HE
  go_wp2_with fail
  refine KP.out.mono ?_
  rintro e w3 ⟨rfl, hb3⟩
  have H3 : Hid (Below w.heap.size w w3 ∧ GA w3) := ⟨below_call0 H2.out.1 hb3, H2.out.2.call hb3⟩
  clear hb3 KP H2
  go_wp2_with fail
  refine (KL.out _ H3.out.2).mono ?_
  rintro e w4 ⟨rfl, hb4⟩
  have H4 : Hid (Below w.heap.size w w4) := below_call0 H3.out.1 hb4
  clear hb4 KL H3
  go_wp2_with fail
  go_ret
  exact ⟨rfl, H4.out⟩
end Go.Proofs.YtkdejflgmgljiaaDoor
