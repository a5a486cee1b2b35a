/- Package wardmotelaw11: what a nil ledger answers. -/
import Derived.Test.YtnmanndiiaikdaaDoorLgY
namespace Go.Proofs.YtnmanndiiaikdaaDoor
open Go Go.RowKit Go.Lib

set_option maxRecDepth 20000 in
set_option maxHeartbeats 2000000 in
theorem ledgerNil_any (s : ByteArray) (n : Int) (w : World) (hG : GlobD w) (h1 : 0 < w.heap.size) (h2 : 1 < w.heap.size) :
    Calls Tryd.prog 6 #[.string s, .int .i64 n] w fun e w' => e = .returned (.bool true) ∧ Below w.heap.size w w' := by
  have K1 : Hid _ := fun (w' : World) => lappend_nil s w'
  have K2 : Hid _ := fun (w' : World) => lget_nil n w'
  have K3 : Hid _ := fun (w' : World) => lopen_nil w'
  have K4 : Hid _ := fun (w' : World) => llen_nil w'
  have K5 : Hid _ := fun (w' : World) => lsync_nil w'
  have K6 : Hid _ := fun (w' : World) => lrecords_nil w'
  have K7 : Hid (∀ w' : World, Below w.heap.size w w' → Calls Tryd.prog 8 #[] w' fun e w'' => e = .returned (.bool true) ∧ Below w'.heap.size w' w'') := fun w' hb => one11_any w' (hG.call hb) (Nat.lt_of_lt_of_le h1 hb.size) (Nat.lt_of_lt_of_le h2 hb.size)
  clear hG h1 h2
  obtain ⟨x, hx⟩ : ∃ x : Int, x = if 9000 < s.size then 2 else 7 := ⟨_, rfl⟩
  rw [← hx] at K1
  by_cases h : 9000 < s.size
  · have h' : (9000 : Int) < (s.size : Int) := by omega
    rw [if_pos h] at hx
    subst hx
    clear h
    go_enter Tryd.func6, Tryd.ntmps6
    go_wp2_with fail
    refine Calls.mono (K1.out _) ?_
    rintro e w1 ⟨rfl, hb1⟩
    have HB1 : Hid (Below w.heap.size w w1) := hb1
    clear hb1
    go_wp2_with fail
    refine Calls.mono (K2.out _) ?_
    rintro e w2 ⟨rfl, hb2⟩
    have HB2 : Hid (Below w.heap.size w w2) := below_call0 HB1.out hb2
    clear hb2 HB1
    go_wp2_with fail
    refine Calls.mono (K3.out _) ?_
    rintro e w3 ⟨rfl, hb3⟩
    have HB3 : Hid (Below w.heap.size w w3) := below_call0 HB2.out hb3
    clear hb3 HB2
    go_wp2_with fail
    refine Calls.mono (K4.out _) ?_
    rintro e w4 ⟨rfl, hb4⟩
    have HB4 : Hid (Below w.heap.size w w4) := below_call0 HB3.out hb4
    clear hb4 HB3
    go_wp2_with fail
    refine Calls.mono (K5.out _) ?_
    rintro e w5 ⟨rfl, hb5⟩
    have HB5 : Hid (Below w.heap.size w w5) := below_call0 HB4.out hb5
    clear hb5 HB4
    go_wp2_with fail
    refine Calls.mono (K6.out _) ?_
    rintro e w6 ⟨rfl, hb6⟩
    have HB6 : Hid (Below w.heap.size w w6) := below_call0 HB5.out hb6
    clear hb6 HB5
    go_wp2_with fail
    refine Calls.mono (K7.out _ HB6.out) ?_
    rintro e w7 ⟨rfl, hb7⟩
    have HB7 : Hid (Below w.heap.size w w7) := below_call0 HB6.out hb7
    clear hb7 HB6
    go_wp2_with fail
    go_ret
    exact ⟨rfl, HB7.out⟩
  · have h' : ¬ (9000 : Int) < (s.size : Int) := by omega
    rw [if_neg h] at hx
    subst hx
    clear h
    go_enter Tryd.func6, Tryd.ntmps6
    go_wp2_with fail
    refine Calls.mono (K1.out _) ?_
    rintro e w1 ⟨rfl, hb1⟩
    have HB1 : Hid (Below w.heap.size w w1) := hb1
    clear hb1
    go_wp2_with fail
    refine Calls.mono (K2.out _) ?_
    rintro e w2 ⟨rfl, hb2⟩
    have HB2 : Hid (Below w.heap.size w w2) := below_call0 HB1.out hb2
    clear hb2 HB1
    go_wp2_with fail
    refine Calls.mono (K3.out _) ?_
    rintro e w3 ⟨rfl, hb3⟩
    have HB3 : Hid (Below w.heap.size w w3) := below_call0 HB2.out hb3
    clear hb3 HB2
    go_wp2_with fail
    refine Calls.mono (K4.out _) ?_
    rintro e w4 ⟨rfl, hb4⟩
    have HB4 : Hid (Below w.heap.size w w4) := below_call0 HB3.out hb4
    clear hb4 HB3
    go_wp2_with fail
    refine Calls.mono (K5.out _) ?_
    rintro e w5 ⟨rfl, hb5⟩
    have HB5 : Hid (Below w.heap.size w w5) := below_call0 HB4.out hb5
    clear hb5 HB4
    go_wp2_with fail
    refine Calls.mono (K6.out _) ?_
    rintro e w6 ⟨rfl, hb6⟩
    have HB6 : Hid (Below w.heap.size w w6) := below_call0 HB5.out hb6
    clear hb6 HB5
    go_wp2_with fail
    refine Calls.mono (K7.out _ HB6.out) ?_
    rintro e w7 ⟨rfl, hb7⟩
    have HB7 : Hid (Below w.heap.size w w7) := below_call0 HB6.out hb7
    clear hb7 HB6
    go_wp2_with fail
    go_ret
    exact ⟨rfl, HB7.out⟩
end Go.Proofs.YtnmanndiiaikdaaDoor
