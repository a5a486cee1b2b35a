/- Package parcel: Unpack. -/
import Derived.Test.YtadcjdffjhiniaaPcT
namespace Go.Proofs.Ytadcjdffjhiniaa
open Go Go.RowKit Go.Lib

def upPost (w : World) (s : ByteArray) (e : Ending) (w' : World) : Prop :=
  ∃ a cap, e = .returned (.tuple #[.int .i64 (upK s.data.toList), .slice a (upL s.data.toList).length cap, .int .i64 (upE s.data.toList)]) ∧ Strs w' a (upL s.data.toList) ∧ Below w.heap.size w w'
def upCap (w : World) (s : ByteArray) (e : Ending) (w' : World) : Prop :=
  ∃ a cap, e = .returned (.tuple #[.int .i64 (upK s.data.toList), .slice a (upL s.data.toList).length cap, .int .i64 (upE s.data.toList)]) ∧ Strs w' a (upL s.data.toList) ∧ Below w.heap.size w w' ∧ (upL s.data.toList).length ≤ cap
theorem RowS.len {w : World} {base cap : Nat} {a : Option Addr} {l : List ByteArray} (h : RowS w base a l cap) : l.length ≤ cap := by
  rcases h.2 with ⟨h1, h2⟩ | ⟨g, cap', cur, h1, h2, h3, h4, h5, h6, h7⟩
  · rw [h2]; exact Nat.zero_le _
  · injection h1 with h1 _ h1c
    omega
theorem up_no {t : List UInt8} {e : Int} (h : upE t = e) (h0 : e ≠ 0) : upK t = 0 ∧ upL t = [] ∧ upE t = e := by
  unfold upK upL
  rw [h, if_neg h0, if_neg h0]
  exact ⟨rfl, rfl, rfl⟩
theorem upCap_no {w w' : World} {s : ByteArray} {e : Int} (h : upE s.data.toList = e) (h0 : e ≠ 0) (hb : Below w.heap.size w w') : upCap w s (.returned (.tuple #[.int .i64 0, .slice none 0 0, .int .i64 e])) w' := by
  obtain ⟨h1, h2, h3⟩ := up_no h h0
  refine ⟨none, 0, ?_, ?_, hb, by rw [h2]; exact Nat.le_refl _⟩
  · rw [h1, h2, h3]; rfl
  · rw [h2]; intro j s hj; simp at hj
theorem two_of {t : ByteArray} (h : ¬ t.size < 2) : ∃ x y r, t.data.toList = x :: y :: r := by
  have := ba_len t
  match e : t.data.toList with
  | [] => rw [e] at this; simp at this; omega
  | [x] => rw [e] at this; simp at this; omega
  | x :: y :: r => exact ⟨x, y, r, rfl⟩
theorem upE_two {x y : UInt8} {r : List UInt8} (h : ¬ 20000 < (x :: y :: r).length) : upE (x :: y :: r) = if !(kindB x.toNat) || decide (40 < y.toNat) then 4
    else if (splitL y.toNat r).2.2 ≠ 0 then (splitL y.toNat r).2.2
    else if (splitL y.toNat r).2.1 ≠ [] then 4 else 0 := by
  unfold upE; rw [if_neg h]
set_option maxRecDepth 100000 in
set_option maxHeartbeats 4000000 in
theorem unpack_cap (s : ByteArray) (hs : s.size < 140737488351233) (w : World) :
    Calls Try.prog 37 #[.string s] w fun e w' => upCap w s e w' := by
  have s47 : (s.size : Int) < 140737488351233 := by omega
  by_cases h1 : 20000 < s.size
  · have h1' : (20000 : Int) < (s.size : Int) := by omega
    have HE : Hid (upE s.data.toList = 2) := by
      unfold upE; rw [ba_len, if_pos h1]; exact rfl
    clear h1 hs
    go_enter Try.func37, Try.ntmps37
    go_wp2_with fail
    exact bodyPost_ret (v := .tuple #[.int .i64 0, .slice none 0 0, .int .i64 2]) (by simp [results, Try.results37, go_sem]) rfl (upCap_no HE.out (by decide) (Below.refl _ _))
  have h1' : ¬ ((20000 : Int) < (s.size : Int)) := by omega
  by_cases h2 : s.size < 2
  · have h2' : (s.size : Int) < 2 := by omega
    have HE : Hid (upE s.data.toList = 90) := by
      unfold upE
      rw [ba_len, if_neg h1]
      have := ba_len s
      match e : s.data.toList with
      | [] => exact rfl
      | [x] => exact rfl
      | x :: y :: r => rw [e] at this; simp at this; omega
    clear h1 h2 hs
    go_enter Try.func37, Try.ntmps37
    go_wp2_with fail
    exact bodyPost_ret (v := .tuple #[.int .i64 0, .slice none 0 0, .int .i64 90]) (by simp [results, Try.results37, go_sem]) rfl (upCap_no HE.out (by decide) (Below.refl _ _))
  have h2' : ¬ ((s.size : Int) < 2) := by omega
  obtain ⟨x, y, r, hxy⟩ := two_of h2
  obtain ⟨b0, b1⟩ := byte0 hxy
  have bx := ext2 hxy
  have t2 : 2 ≤ s.size := by omega
  have xb : (x.toNat : Int) < 256 := by have := x.toNat_lt; omega
  have yb : (y.toNat : Int) < 256 := by have := y.toNat_lt; omega
  have HX : Hid (s.data.toList = x :: y :: r ∧ upE s.data.toList = (if !(kindB x.toNat) || decide (40 < y.toNat) then 4 else if (splitL y.toNat r).2.2 ≠ 0 then (splitL y.toNat r).2.2 else if (splitL y.toNat r).2.1 ≠ [] then 4 else 0)) := by
    refine ⟨hxy, ?_⟩
    rw [hxy]
    exact upE_two (by rw [← hxy, ba_len]; exact h1)
  have HR : Hid ((ofL r).size ≤ 20000) := by
    have := ba_len s
    rw [hxy] at this
    simp only [List.length_cons] at this
    show (ofL r).size ≤ 20000
    rw [ofL_size]
    omega
  clear hxy hs h2 h1
  rcases Bool.eq_false_or_eq_true (kindB (x.toNat : Nat)) with hk | hk
  · by_cases h40 : 40 < y.toNat
    · have h40' : (40 : Int) < (y.toNat : Int) := by omega
      have HE : Hid (upE s.data.toList = 4) := by
        rw [HX.out.2, hk, decide_eq_true h40]; exact rfl
      clear h40
      go_enter Try.func37, Try.ntmps37
      go_wp2_with fail
      go_quiet (fail)
      go_wp2_with fail
      refine (isKind_any (x.toNat : Nat) _).mono ?_
      rintro e w1 ⟨rfl, rfl⟩
      go_wp2_with fail
      exact bodyPost_ret (v := .tuple #[.int .i64 0, .slice none 0 0, .int .i64 4]) (by simp [results, Try.results37, go_sem]) rfl (upCap_no HE.out (by decide) (below_drewN (Below.refl _ _) _))
    · have h40' : ¬ ((40 : Int) < (y.toNat : Int)) := by omega
      obtain ⟨sl, hsl⟩ : ∃ sl, sl = splitL y.toNat r := ⟨_, rfl⟩
      have HE : Hid (upE s.data.toList = (if sl.2.2 ≠ 0 then sl.2.2 else if sl.2.1 ≠ [] then 4 else 0) ∧ s.data.toList = x :: y :: r ∧ sl = splitL y.toNat r) := by
        refine ⟨?_, HX.out.1, hsl⟩
        rw [HX.out.2, hk, decide_eq_false h40, hsl]; exact rfl
      have KS : Hid _ := fun (w' : World) => split_any (ofL r) y.toNat (by omega) HR.out w'
      rw [ofL_data, ← hsl] at KS
      obtain ⟨l, t, ev⟩ := sl
      clear h40 HX hsl
      go_enter Try.func37, Try.ntmps37
      go_wp2_with fail
      go_quiet (fail)
      go_wp2_with fail
      refine (isKind_any (x.toNat : Nat) _).mono ?_
      rintro e w1 ⟨rfl, rfl⟩
      clear b0 b1 s47 h1' h2' xb yb
      go_wp2_with fail
      refine (KS.out _).mono ?_
      rintro e w2 ⟨a, cap, rfl, hR2, hb2⟩
      have H2 : Hid (RowS w2 w.heap.size a l cap ∧ Below w.heap.size w w2) := ⟨hR2, below_call0 (below_drewN (Below.refl _ _) _) hb2⟩
      clear hR2 hb2 KS
      by_cases he : ev = 0
      · subst he
        by_cases ht : t = []
        · subst ht
          have tb : (ofL ([] : List UInt8)).toList.isEmpty = true := by rw [ByteArray.toList_eq, ofL_data]; rfl
          go_wp2_with fail
          refine bodyPost_ret (v := .tuple #[.int .i64 (x.toNat : Nat), .slice a l.length cap, .int .i64 0]) (by simp [results, Try.results37, go_sem]) rfl ?_
          have e0 : upE s.data.toList = 0 := HE.out.1
          have e1 : upK s.data.toList = (x.toNat : Nat) := by unfold upK; rw [if_pos e0, HE.out.2.1]; rfl
          have e2 : upL s.data.toList = l := by
            unfold upL
            rw [if_pos e0, HE.out.2.1]
            show (splitL y.toNat r).1 = l
            rw [← HE.out.2.2]
          exact ⟨a, cap, by rw [e0, e1, e2], by rw [e2]; exact H2.out.1.strs, H2.out.2, by rw [e2]; exact H2.out.1.len⟩
        · have tb : (ofL t).toList.isEmpty = false := by
            rw [ByteArray.toList_eq, ofL_data]
            cases t with
            | nil => exact absurd rfl ht
            | cons z t => rfl
          have HE2 : Hid (upE s.data.toList = 4) := by
            rw [HE.out.1]
            show (if (0 : Int) ≠ 0 then (0 : Int) else if t ≠ [] then 4 else 0) = 4
            rw [if_neg (by decide), if_pos ht]
          go_wp2_with fail
          exact bodyPost_ret (v := .tuple #[.int .i64 0, .slice none 0 0, .int .i64 4]) (by simp [results, Try.results37, go_sem]) rfl (upCap_no HE2.out (by decide) H2.out.2)
      · have HE2 : Hid (upE s.data.toList = ev ∧ ev ≠ 0) := by
          refine ⟨?_, he⟩
          rw [HE.out.1]
          exact if_pos he
        go_wp2_with fail
        exact bodyPost_ret (v := .tuple #[.int .i64 0, .slice none 0 0, .int .i64 ev]) (by simp [results, Try.results37, go_sem]) rfl (upCap_no HE2.out.1 HE2.out.2 H2.out.2)
  · have HE : Hid (upE s.data.toList = 4) := by
      rw [HX.out.2, hk]; exact rfl
    go_enter Try.func37, Try.ntmps37
    go_wp2_with fail
    go_quiet (fail)
    go_wp2_with fail
    refine (isKind_any (x.toNat : Nat) _).mono ?_
    rintro e w1 ⟨rfl, rfl⟩
    go_wp2_with fail
    exact bodyPost_ret (v := .tuple #[.int .i64 0, .slice none 0 0, .int .i64 4]) (by simp [results, Try.results37, go_sem]) rfl (upCap_no HE.out (by decide) (below_drewN (Below.refl _ _) _))
theorem unpack_any (s : ByteArray) (hs : s.size < 140737488351233) (w : World) :
    Calls Try.prog 37 #[.string s] w fun e w' => upPost w s e w' :=
  (unpack_cap s hs w).mono fun _ _ ⟨a, cap, h1, h2, h3, _⟩ => ⟨a, cap, h1, h2, h3⟩
end Go.Proofs.Ytadcjdffjhiniaa
