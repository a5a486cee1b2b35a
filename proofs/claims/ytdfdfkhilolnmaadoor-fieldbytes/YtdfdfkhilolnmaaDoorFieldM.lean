/- Field.Modulus, Neg, Pow, Encode, Decode: what they answer. -/
import Derived.Test.YtdfdfkhilolnmaaDoorFieldH
namespace Go.Proofs.YtdfdfkhilolnmaaDoor
open Go.RowKit
attribute [local go_sem] run_eq4

theorem modulus_nil (w : World) : Calls Tryd.prog 15 #[.pointer none] w fun e w' => e = .returned z4 ∧ Below w.heap.size w w' := by
  go_enter Tryd.func15, Tryd.ntmps15
  go_wp2
  refine bodyPost_ret (v := z4) ?_ rfl ⟨rfl, ?_⟩
  · simp [results, Tryd.results15, go_sem]
  · ((repeat' (first | with_reducible exact Below.refl _ _ | with_reducible refine Below.setCell ?_ ?_ _ | with_reducible refine below_alloc0 ?_ _ | with_reducible refine below_drewN ?_ _ | with_reducible refine Below.drew ?_ | refine below_call0 ?_ (by assumption))) <;> (first | omega | (simp; done) | (simp; omega)))
theorem modulus_any (g m : Nat) (w : World) (hM : FieldB w g m) : Calls Tryd.prog 15 #[.pointer (some ⟨g, 0, none⟩)] w fun e w' => e = .returned (.agg #[.int .u64 (limb (m) 0 : Nat), .int .u64 (limb (m) 1 : Nat), .int .u64 (limb (m) 2 : Nat), .int .u64 (limb (m) 3 : Nat)]) ∧ Below w.heap.size w w' := by
  obtain ⟨m0, m1, m2, m3⟩ := hM.1.facts
  have mz := hM.2.2
  clear hM
  go_enter Tryd.func15, Tryd.ntmps15
  go_wp2
  refine bodyPost_ret (v := .agg #[.int .u64 (limb (m) 0 : Nat), .int .u64 (limb (m) 1 : Nat), .int .u64 (limb (m) 2 : Nat), .int .u64 (limb (m) 3 : Nat)]) ?_ rfl ⟨rfl, ?_⟩
  · simp [results, Tryd.results15, go_sem]
  · ((repeat' (first | with_reducible exact Below.refl _ _ | with_reducible refine Below.setCell ?_ ?_ _ | with_reducible refine below_alloc0 ?_ _ | with_reducible refine below_drewN ?_ _ | with_reducible refine Below.drew ?_ | refine below_call0 ?_ (by assumption))) <;> (first | omega | (simp; done) | (simp; omega)))
theorem reduce_nil (v0 v1 v2 v3 v4 v5 v6 v7 : Int) (w : World) : Calls Tryd.prog 23 #[.pointer none, .agg #[.int .u64 v0, .int .u64 v1, .int .u64 v2, .int .u64 v3, .int .u64 v4, .int .u64 v5, .int .u64 v6, .int .u64 v7]] w fun e w' => e = .returned z4 ∧ Below w.heap.size w w' := by
  go_enter Tryd.func23, Tryd.ntmps23
  go_wp2
  refine bodyPost_ret (v := z4) ?_ rfl ⟨rfl, ?_⟩
  · simp [results, Tryd.results23, go_sem]
  · ((repeat' (first | with_reducible exact Below.refl _ _ | with_reducible refine Below.setCell ?_ ?_ _ | with_reducible refine below_alloc0 ?_ _ | with_reducible refine below_drewN ?_ _ | with_reducible refine Below.drew ?_ | refine below_call0 ?_ (by assumption))) <;> (first | omega | (simp; done) | (simp; omega)))
theorem encode_bad (pv : Option Addr) (a : Nat) (ec : Int) (hec : ec ≠ 0) (P : World → Prop) (hP : ∀ w o, P w → P (w.alloc o))
    (k : ∀ w, P w → Calls Tryd.prog 16 #[.pointer pv, .agg #[.int .u64 (limb (a) 0 : Nat), .int .u64 (limb (a) 1 : Nat), .int .u64 (limb (a) 2 : Nat), .int .u64 (limb (a) 3 : Nat)]] w fun e w' => e = .returned (.int .i64 ec) ∧ Below w.heap.size w w') (w : World) (hw : P w) :
    Calls Tryd.prog 32 #[.pointer pv, .agg #[.int .u64 (limb (a) 0 : Nat), .int .u64 (limb (a) 1 : Nat), .int .u64 (limb (a) 2 : Nat), .int .u64 (limb (a) 3 : Nat)]] w fun e w' => e = .returned (.tuple #[.string ByteArray.empty, .int .i64 ec]) ∧ Below w.heap.size w w' := by
  have K1 : Hid _ := k
  have H : Hid _ := hP w (.cells #[.int .u64 (limb a 0 : Nat), .int .u64 (limb a 1 : Nat), .int .u64 (limb a 2 : Nat), .int .u64 (limb a 3 : Nat)] 24) hw
  have he : (ec == 0) = false := by simpa using hec
  clear k hP hw hec
  go_enter Tryd.func32, Tryd.ntmps32
  go_wp2_with fail
  refine (K1.out _ H.out).mono ?_
  rintro e w1 ⟨rfl, hb1⟩
  have hz1 := hb1.size
  try simp only [World.size_alloc] at hz1
  have W1 : Below w.heap.size w w1 := by ((repeat' (first | with_reducible exact Below.refl _ _ | with_reducible refine Below.setCell ?_ ?_ _ | with_reducible refine below_alloc0 ?_ _ | with_reducible refine below_drewN ?_ _ | with_reducible refine Below.drew ?_ | refine below_call0 ?_ (by assumption))) <;> (first | omega | (simp; done) | (simp; omega)))
  clear hb1 K1 H
  go_wp2
  go_ret2
  exact ⟨rfl, W1⟩
theorem decode_nil (s : ByteArray) (w : World) : Calls Tryd.prog 33 #[.pointer none, .string s] w fun e w' => e = .returned (.tuple #[z4, .int .i64 7]) ∧ Below w.heap.size w w' := by
  go_enter Tryd.func33, Tryd.ntmps33
  go_wp2
  refine bodyPost_ret (v := .tuple #[z4, .int .i64 7]) ?_ rfl ⟨rfl, ?_⟩
  · simp [results, Tryd.results33, go_sem]
  · ((repeat' (first | with_reducible exact Below.refl _ _ | with_reducible refine Below.setCell ?_ ?_ _ | with_reducible refine below_alloc0 ?_ _ | with_reducible refine below_drewN ?_ _ | with_reducible refine Below.drew ?_ | refine below_call0 ?_ (by assumption))) <;> (first | omega | (simp; done) | (simp; omega)))

theorem fneg_in (g m a : Nat) (hF : FM m) (ha : a < m) (w : World) (hM : FieldB w g m) :
    Calls Tryd.prog 12 #[.pointer (some ⟨g, 0, none⟩), .agg #[.int .u64 (limb (a) 0 : Nat), .int .u64 (limb (a) 1 : Nat), .int .u64 (limb (a) 2 : Nat), .int .u64 (limb (a) 3 : Nat)]] w fun e w' => e = .returned (.tuple #[.agg #[.int .u64 (limb (subM m 0 a) 0 : Nat), .int .u64 (limb (subM m 0 a) 1 : Nat), .int .u64 (limb (subM m 0 a) 2 : Nat), .int .u64 (limb (subM m 0 a) 3 : Nat)], .int .i64 0]) ∧ Below w.heap.size w w' := by
  refine fneg_go _ a _ _ _ _ 0 (fun w => FieldB w g m) (FB_alloc g m) (fun w h => ?_) w hM
  have m1 := hF.pos
  have k := join_minus g m 0 a _ hF.2.1 (by omega) ha (fun w h => minus_fld g m 0 a hF (by omega) ha w h) w h
  rw [limb_nought, limb_nought, limb_nought, limb_nought] at k
  exact k
theorem fneg_no (g m a : Nat) (hF : FM m) (ha : a < R256) (hn : ¬ a < m) (w : World) (hM : FieldB w g m) :
    Calls Tryd.prog 12 #[.pointer (some ⟨g, 0, none⟩), .agg #[.int .u64 (limb (a) 0 : Nat), .int .u64 (limb (a) 1 : Nat), .int .u64 (limb (a) 2 : Nat), .int .u64 (limb (a) 3 : Nat)]] w fun e w' => e = .returned (.tuple #[z4, .int .i64 20]) ∧ Below w.heap.size w w' := by
  refine fneg_go _ a _ _ _ _ 20 (fun w => FieldB w g m) (FB_alloc g m) (fun w h => ?_) w hM
  have m1 := hF.pos
  have k := join_bad2 (.func (.func 43) #[.pointer (some ⟨g, 0, none⟩)] #[]) g m 0 a hF.2.1 (by omega) hn ha w h
  rw [limb_nought, limb_nought, limb_nought, limb_nought] at k
  exact k
theorem fneg_nil (a : Nat) (w : World) :
    Calls Tryd.prog 12 #[.pointer none, .agg #[.int .u64 (limb (a) 0 : Nat), .int .u64 (limb (a) 1 : Nat), .int .u64 (limb (a) 2 : Nat), .int .u64 (limb (a) 3 : Nat)]] w fun e w' => e = .returned (.tuple #[z4, .int .i64 7]) ∧ Below w.heap.size w w' := by
  refine fneg_go none a _ _ _ _ 7 (fun _ => True) (fun _ _ _ => trivial) (fun w _ => ?_) w trivial
  have k := join_bad1 none (.func (.func 43) #[.pointer none] #[]) 0 a 7 (by decide) (fun _ => True) (fun _ _ _ => trivial) (fun w _ => check_nil 0 w) w trivial
  rw [limb_nought, limb_nought, limb_nought, limb_nought] at k
  exact k
end Go.Proofs.YtdfdfkhilolnmaaDoor
