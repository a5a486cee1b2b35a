/- What every statement of layer 10 asks besides: a crash that keeps a byte, and a wrong one; the law DiskNil. -/
import Derived.Test.YtlcinkhgjjpmmaaDkD
import Derived.Test.YtlcinkhgjjpmmaaDkN
namespace Go.Proofs.Ytlcinkhgjjpmmaa
open Go Go.RowKit Go.Lib

theorem But.below0 {B : Nat} {W w w' : World} (h : But B (From (B + 1)) w w') (h0 : Below B W w) : Below B W w' := h0.trans (h.below fun _ hk => not_from (by omega))
set_option maxRecDepth 100000 in
set_option maxHeartbeats 1000000 in
theorem abc_any (w : World) : Calls Try.prog 7 #[] w fun e w' => e = .returned (.bool true) ∧ Below w.heap.size w w' := by
  have s1 : (ByteArray.empty ++ ⟨#[97, 98]⟩ : ByteArray) = ⟨#[97, 98]⟩ := by kernel_rfl
  have s2 : ((⟨#[97, 98]⟩ : ByteArray) ++ ⟨#[99, 100]⟩ : ByteArray) = ⟨#[97, 98, 99, 100]⟩ := by kernel_rfl
  have s3 : (ByteArray.extract ⟨#[97, 98, 99, 100]⟩ 0 (2 + 1) ++ one (xr ((⟨#[97, 98, 99, 100]⟩ : ByteArray).data.toList.getD (2 + 1) 0) 1) : ByteArray) = ⟨#[97, 98, 99, 101]⟩ := by kernel_rfl
  have k1 : ∀ w' (g : Nat), FileAt w' g (From (g + 1)) 0 ByteArray.empty → Calls Try.prog 11 #[.pointer (some ⟨g, 0, none⟩), .string ⟨#[97, 98]⟩] w' fun e w'' => e = .returned (.int .i64 0) ∧ FileAt w'' g (From (g + 1)) 0 ⟨#[97, 98]⟩ ∧ But g (From (g + 1)) w' w'' := fun w' g h => by
    have := fappend_ok g (From (g + 1)) 0 ByteArray.empty ⟨#[97, 98]⟩ (by decide) w' h
    rwa [s1] at this
  have k2 : ∀ w' (g : Nat), FileAt w' g (From (g + 1)) 0 ⟨#[97, 98]⟩ → Calls Try.prog 12 #[.pointer (some ⟨g, 0, none⟩)] w' fun e w'' => e = .returned (.int .i64 0) ∧ FileAt w'' g (From (g + 1)) 2 ⟨#[97, 98]⟩ ∧ But g (From (g + 1)) w' w'' := fun w' g h =>
    fsync_any g (From (g + 1)) 0 ⟨#[97, 98]⟩ (by decide) w' h
  have k3 : ∀ w' (g : Nat), FileAt w' g (From (g + 1)) 2 ⟨#[97, 98]⟩ → Calls Try.prog 11 #[.pointer (some ⟨g, 0, none⟩), .string ⟨#[99, 100]⟩] w' fun e w'' => e = .returned (.int .i64 0) ∧ FileAt w'' g (From (g + 1)) 2 ⟨#[97, 98, 99, 100]⟩ ∧ But g (From (g + 1)) w' w'' := fun w' g h => by
    have := fappend_ok g (From (g + 1)) 2 ⟨#[97, 98]⟩ ⟨#[99, 100]⟩ (by decide) w' h
    rwa [s2] at this
  have k4 : ∀ w' (g : Nat), FileAt w' g (From (g + 1)) 2 ⟨#[97, 98, 99, 100]⟩ → Calls Try.prog 13 #[.pointer (some ⟨g, 0, none⟩), .int .i64 1, .int .i64 1] w' fun e w'' => e = .returned (.int .i64 0) ∧ FileAt w'' g (From (g + 1)) 4 ⟨#[97, 98, 99, 101]⟩ ∧ But g (From (g + 1)) w' w'' := fun w' g h => by
    have := fcrash_byte g (From (g + 1)) 2 1 1 ⟨#[97, 98, 99, 100]⟩ (by decide) (by decide) (by decide) (by decide) w' h
    rwa [s3] at this
  have K : Hid (_ ∧ _ ∧ _ ∧ _) := ⟨k1, k2, k3, k4⟩
  clear s1 s2 s3 k1 k2 k3 k4
  have tb : ((⟨#[97, 98, 99, 101]⟩ : ByteArray).toList == (⟨#[97, 98, 99, 101]⟩ : ByteArray).toList) = true := by simp only [BEq.rfl]
  go_enter Try.func7, Try.ntmps7
  go_wp2_with fail
  refine (new_any _).mono ?_
  rintro e w1 ⟨rfl, hF1, hb1, _⟩
  have H1 : Hid (FileAt w1 w.heap.size (From (w.heap.size + 1)) 0 ByteArray.empty ∧ Below w.heap.size w w1) := ⟨hF1, hb1⟩
  clear hF1 hb1
  go_wp2_with fail
  refine (K.out.1 _ _ H1.out.1).mono ?_
  rintro e w2 ⟨rfl, hF2, hb2⟩
  have H2 : Hid (FileAt w2 w.heap.size (From (w.heap.size + 1)) 0 ⟨#[97, 98]⟩ ∧ Below w.heap.size w w2) := ⟨hF2, hb2.below0 H1.out.2⟩
  clear hF2 hb2 H1
  go_wp2_with fail
  refine (K.out.2.1 _ _ H2.out.1).mono ?_
  rintro e w3 ⟨rfl, hF3, hb3⟩
  have H3 : Hid (FileAt w3 w.heap.size (From (w.heap.size + 1)) 2 ⟨#[97, 98]⟩ ∧ Below w.heap.size w w3) := ⟨hF3, hb3.below0 H2.out.2⟩
  clear hF3 hb3 H2
  go_wp2_with fail
  refine (K.out.2.2.1 _ _ H3.out.1).mono ?_
  rintro e w4 ⟨rfl, hF4, hb4⟩
  have H4 : Hid (FileAt w4 w.heap.size (From (w.heap.size + 1)) 2 ⟨#[97, 98, 99, 100]⟩ ∧ Below w.heap.size w w4) := ⟨hF4, hb4.below0 H3.out.2⟩
  clear hF4 hb4 H3
  go_wp2_with fail
  refine (K.out.2.2.2 _ _ H4.out.1).mono ?_
  rintro e w5 ⟨rfl, hF5, hb5⟩
  have H5 : Hid (FileAt w5 w.heap.size (From (w.heap.size + 1)) 4 ⟨#[97, 98, 99, 101]⟩ ∧ Below w.heap.size w w5) := ⟨hF5, hb5.below0 H4.out.2⟩
  clear hF5 hb5 H4
  go_wp2_with fail
  refine (fbytes_any _ _ _ _ _ H5.out.1).mono ?_
  rintro e w6 ⟨rfl, rfl⟩
  go_wp2_with fail
  go_ret
  exact ⟨rfl, H5.out.2⟩
set_option maxHeartbeats 1000000 in
theorem diskNil_any (n q : Int) (w : World) : Calls Try.prog 5 #[.int .i64 n, .int .i64 q] w fun e w' => e = .returned (.bool true) ∧ Below w.heap.size w w' := by
  have tb : (ByteArray.empty.toList == ByteArray.empty.toList) = true := by simp
  have tb2 : (ByteArray.empty.toList == (⟨#[]⟩ : ByteArray).toList) = true := tb
  go_enter Try.func5, Try.ntmps5
  go_wp2_with fail
  refine (flen_nil _).mono ?_
  rintro e w1 ⟨rfl, hb1⟩
  have H1 : Hid (Below w.heap.size w w1) := hb1
  clear hb1
  go_wp2_with fail
  refine (fappend_nil _ _).mono ?_
  rintro e w2 ⟨rfl, hb2⟩
  have H2 : Hid (Below w.heap.size w w2) := below_call0 H1.out hb2
  clear hb2 H1
  go_wp2_with fail
  refine (fsync_nil _).mono ?_
  rintro e w3 ⟨rfl, hb3⟩
  have H3 : Hid (Below w.heap.size w w3) := below_call0 H2.out hb3
  clear hb3 H2
  go_wp2_with fail
  refine (fcut_nil _ _).mono ?_
  rintro e w4 ⟨rfl, hb4⟩
  have H4 : Hid (Below w.heap.size w w4) := below_call0 H3.out hb4
  clear hb4 H3
  go_wp2_with fail
  refine (fcrash_nil _ _ _).mono ?_
  rintro e w5 ⟨rfl, hb5⟩
  have H5 : Hid (Below w.heap.size w w5) := below_call0 H4.out hb5
  clear hb5 H4
  go_wp2_with fail
  refine (fbytes_nil _).mono ?_
  rintro e w6 ⟨rfl, hb6⟩
  have H6 : Hid (Below w.heap.size w w6) := below_call0 H5.out hb6
  clear hb6 H5
  go_wp2_with fail
  refine (abc_any _).mono ?_
  rintro e w7 ⟨rfl, hb7⟩
  have H7 : Hid (Below w.heap.size w w7) := below_call0 H6.out hb7
  clear hb7 H6
  go_wp2_with fail
  go_ret
  exact ⟨rfl, H7.out⟩
end Go.Proofs.Ytlcinkhgjjpmmaa
