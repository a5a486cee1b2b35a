/- What every statement of layer 9 asks besides: a record of two items; the law ParcelPacks. -/
import Derived.Test.YtdeeilhibgholaaPcV
import Derived.Test.YtdeeilhibgholaaPcS
namespace Go.Proofs.Ytdeeilhibgholaa
open Go Go.RowKit Go.Lib

theorem Strs.pair (s t : ByteArray) (w : World) (y : TypeId) : Strs (w.alloc (.cells #[.string s, .string t] y)) (some ⟨w.heap.size, 0, none⟩) [s, t] := by
  intro j u hj
  match j, hj with
  | 0, hj => simp at hj; subst hj; exact ⟨_, _, rfl, by simp [go_sem], by simp⟩
  | 1, hj => simp at hj; subst hj; exact ⟨_, _, rfl, by simp [go_sem], by simp⟩
  | j + 2, hj => simp at hj
def abL : List ByteArray := [⟨#[97, 98]⟩, ⟨#[]⟩]
def abS : ByteArray := ⟨#[3, 2, 0, 2, 97, 98, 0, 0]⟩
set_option maxRecDepth 100000 in
theorem ab_pack : pkS 3 abL = abS ∧ pkE 3 abL = 0 := ⟨by kernel_rfl, by kernel_rfl⟩
set_option maxRecDepth 100000 in
theorem ab_unpack : upK abS.data.toList = 3 ∧ upL abS.data.toList = abL ∧ upE abS.data.toList = 0 := ⟨by kernel_rfl, by kernel_rfl, by kernel_rfl⟩
set_option maxRecDepth 100000 in
set_option maxHeartbeats 2000000 in
theorem two_any (w : World) : Calls Try.prog 10 #[] w fun e w' => e = .returned (.bool true) ∧ Below w.heap.size w w' := by
  have K1 : Hid (∀ (w' : World) (a : Option Addr), Strs w' a abL → Calls Try.prog 8 #[.int .i64 3, .slice a 2 2] w' fun e w'' => e = .returned (.tuple #[.string ⟨#[3, 2, 0, 2, 97, 98, 0, 0]⟩, .int .i64 0]) ∧ Below w'.heap.size w' w'') := fun w' a h => by
    have := pack_any 3 a abL 2 w' h (fun s hs => by
      simp [abL] at hs
      rcases hs with rfl | rfl <;> decide)
    rw [ab_pack.1, ab_pack.2] at this
    exact this
  have K2 : Hid (∀ (w' : World), Calls Try.prog 11 #[.string ⟨#[3, 2, 0, 2, 97, 98, 0, 0]⟩] w' fun e w'' => ∃ a cap, e = .returned (.tuple #[.int .i64 3, .slice a 2 cap, .int .i64 0]) ∧ Strs w'' a abL ∧ Below w'.heap.size w' w'') := fun w' => by
    have := unpack_any abS (by decide) w'
    unfold upPost at this
    rw [ab_unpack.1, ab_unpack.2.1, ab_unpack.2.2] at this
    exact this
  have K3 : Hid (∀ (w' : World) (a b : Option Addr) (ca cb : Nat), Strs w' a abL → Strs w' b abL → Calls Try.prog 13 #[.slice a 2 ca, .slice b 2 cb] w' fun e w'' => e = .returned (.bool true) ∧ Below w'.heap.size w' w'') := fun w' a b ca cb h1 h2 => by
    have := texts_any a b abL abL ca cb (by decide) w' h1 h2
    rw [decide_eq_true rfl] at this
    exact this
  have tb : ((⟨#[3, 2, 0, 2, 97, 98, 0, 0]⟩ : ByteArray).toList == (⟨#[3, 2, 0, 2, 97, 98, 0, 0]⟩ : ByteArray).toList) = true := by simp only [BEq.rfl]
  have hsz : ∀ w, (Go.sizeOf 9).run Try.prog w = .ok 1 w := fun _ => by kernel_rfl
  go_enter Try.func10, Try.ntmps10
  go_wp2_with fail
  refine (K1.out _ _ (Strs.pair _ _ _ _)).mono ?_
  rintro e w1 ⟨rfl, hb1⟩
  have H1 : Hid (Below w.heap.size w w1) := below_call0 (below_alloc0 (Below.refl _ _) _) hb1
  clear hb1 K1
  go_wp2_with fail
  refine (K2.out _).mono ?_
  rintro e w2 ⟨a, cap, rfl, hS2, hb2⟩
  have H2 : Hid (Strs w2 a abL ∧ Below w.heap.size w w2) := ⟨hS2, below_call0 H1.out hb2⟩
  clear hS2 hb2 H1 K2
  go_wp2_with fail
  refine (K3.out _ _ _ _ _ (H2.out.1.call (below_alloc0 (Below.refl _ _) _)) (Strs.pair _ _ _ _)).mono ?_
  rintro e w3 ⟨rfl, hb3⟩
  have H3 : Hid (Below w.heap.size w w3) := below_call0 (below_alloc0 H2.out.2 _) hb3
  clear hb3 H2 K3
  go_wp2_with fail
  go_ret
  exact ⟨rfl, H3.out⟩
set_option maxHeartbeats 2000000 in
theorem parcelPacks_any (k : Int) (a : Option Addr) (l : List ByteArray) (cap : Nat) (hlen : l.length ≤ 8796093022208) (w : World) (hS : Strs w a l) (hz : ∀ s ∈ l, s.size < 140737488351233) :
    Calls Try.prog 3 #[.int .i64 k, .slice a l.length cap] w fun e w' => e = .returned (.bool true) ∧ Below w.heap.size w w' := by
  have K1 : Hid _ := fun (w' : World) (h : Strs w' a l) => pack_any k a l cap w' h hz
  have K2 : Hid _ := fun (w' : World) (h : Strs w' a l) => rpack_any k a l cap hlen w' h hz
  obtain ⟨n, hn⟩ : ∃ n, n = l.length := ⟨_, rfl⟩
  obtain ⟨S, hSS⟩ : ∃ S, S = pkS k l := ⟨_, rfl⟩
  obtain ⟨E, hE⟩ : ∃ E, E = pkE k l := ⟨_, rfl⟩
  rw [← hn, ← hSS, ← hE] at K1 K2
  rw [← hn]
  have tb : (S.toList == S.toList) = true := by simp only [BEq.rfl]
  have HS : Hid (Strs w a l) := hS
  clear hn hSS hE hS hz hlen
  go_enter Try.func3, Try.ntmps3
  go_wp2_with fail
  refine (K1.out _ HS.out).mono ?_
  rintro e w1 ⟨rfl, hb1⟩
  have H1 : Hid (Strs w1 a l ∧ Below w.heap.size w w1) := ⟨HS.out.call hb1, hb1⟩
  clear hb1 HS K1
  go_wp2_with fail
  refine (K2.out _ H1.out.1).mono ?_
  rintro e w2 ⟨rfl, hb2⟩
  have H2 : Hid (Below w.heap.size w w2) := below_call0 H1.out.2 hb2
  clear hb2 H1 K2
  go_wp2_with fail
  refine (two_any _).mono ?_
  rintro e w3 ⟨rfl, hb3⟩
  have H3 : Hid (Below w.heap.size w w3) := below_call0 H2.out hb3
  clear hb3 H2
  go_wp2_with fail
  go_ret
  exact ⟨rfl, H3.out⟩
end Go.Proofs.Ytdeeilhibgholaa
