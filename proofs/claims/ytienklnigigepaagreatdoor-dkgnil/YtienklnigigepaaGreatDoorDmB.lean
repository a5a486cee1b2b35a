/- Package domain: what is hashed is written piece by piece; sum; Bytes. -/
import Derived.Test.YtienklnigigepaaGreatDoorDmA
import Derived.Test.YtienklnigigepaaGreatDoorDmS
import Derived.Test.YtienklnigigepaaGreatDoorDPieW
import Derived.FnLit
namespace Go.Proofs.YtienklnigigepaaGreatDoor
open Go Go.RowKit Go.Lib

theorem ba_assoc (a b c : ByteArray) : a ++ b ++ c = a ++ (b ++ c) := ba_ext (by simp only [ba_append, List.append_assoc])
/-- Texts in blocks below B. -/
def StrsB (w : World) (B : Nat) (a : Option Addr) (l : List ByteArray) : Prop :=
  ∀ j s, l[j]? = some s → ∃ p o, a = some ⟨p, o, none⟩ ∧ w.cell? ⟨p, o + j, none⟩ = some (.string s) ∧ p < B
theorem Strs.below {w w' : World} {a : Option Addr} {l : List ByteArray} (h : Strs w a l) (hb : Below w.heap.size w w') : StrsB w' w.heap.size a l := fun j s hj => by
  obtain ⟨p, o, h1, h2, h3⟩ := h j s hj
  exact ⟨p, o, h1, (hb.cell (p := ⟨p, o + j, none⟩) h3).trans h2, h3⟩
/-- The method value h.Write. -/
def wrV (g : Nat) : Value := .func (.func 127) #[.pointer (some ⟨g, 0, none⟩)] #[]
set_option maxRecDepth 100000 in
set_option maxHeartbeats 4000000 in
theorem writeHashed_any (g : Nat) (f t : ByteArray) (a : Option Addr) (l : List ByteArray) (cap : Nat) (hb : f.size + (hashB t l).size < 1152921504606846976) (w : World) (hS : StrsB w g a l) (hH : HashT w g (padT f) f.size) (hC : Cube w) (hg : 5 < g) (hgw : g < w.heap.size) :
    Calls Tryz.prog 165 #[wrV g, .string t, .slice a l.length cap] w fun e w' => e = .returned (.tuple #[]) ∧ HashT w' g (padT (f ++ hashB t l)) (f ++ hashB t l).size ∧ Cube w' ∧ Below g w w' := by
  unfold wrV
  have hts : t.size < 1152921504606846976 := by rw [hashB_size] at hb; omega
  have htn : (t.size : Int) < 1152921504606846976 := by omega
  obtain ⟨n, hn⟩ : ∃ n, n = l.length := ⟨_, rfl⟩
  rw [← hn]
  have hn60 : (n : Int) < 1152921504606846976 := by rw [hashB_size] at hb; omega
  have HS : Hid (StrsB w g a l ∧ True ∧ f.size + (hashB t l).size < 1152921504606846976 ∧ 5 < g ∧ n = l.length ∧ g < w.heap.size ∧ True) := ⟨hS, trivial, hb, hg, hn, hgw, trivial⟩
  have HH : Hid (HashT w g (padT f) f.size ∧ Cube w) := ⟨hH, hC⟩
  have K1 : Hid _ := fun (w : World) => highFirst_any t.size 1 (by omega) (by decide) (by decide) w
  clear hS hH hC hg hn hb hgw
  go_enter Tryz.func165, Tryz.ntmps165
  go_wp2_with fail
  refine (K1.out _).mono ?_
  rintro e w1 ⟨rfl, hb1⟩
  have H1 : Hid (HashT w1 g (padT f) f.size ∧ Cube w1 ∧ Below g w w1) := ⟨HH.out.1.call hb1, HH.out.2.call hb1, hb1.mono (Nat.le_of_lt HS.out.2.2.2.2.2.1)⟩
  clear hb1 HH K1
  have P1 : Hid _ := fun (w : World) (hH : HashT w g (padT f) f.size) (hC : Cube w) => piece_any g f (ofL (numL t.size 1)) (by have h1 := HS.out.2.2.1; rw [hashB_size] at h1; rw [ofL_size, numL_length]; omega) w hH hC HS.out.2.2.2.1
  have P2 : Hid _ := fun (w : World) (hH : HashT w g (padT (f ++ ofL (numL t.size 1))) (f ++ ofL (numL t.size 1)).size) (hC : Cube w) => piece_any g (f ++ ofL (numL t.size 1)) t (by have h1 := HS.out.2.2.1; rw [hashB_size] at h1; rw [ByteArray.size_append, ofL_size, numL_length]; omega) w hH hC HS.out.2.2.2.1
  have HP : Hid ((f ++ ofL (numL t.size 1)) ++ t = f ++ hashB t (l.take 0)) := by rw [← hashB_zero t l]; exact ba_assoc _ _ _
  rw [HP.out] at P2
  obtain ⟨Y, hY⟩ : ∃ Y, Y = ofL (numL t.size 1) := ⟨_, rfl⟩
  rw [← hY] at P1 P2 ⊢
  clear HP hY
  go_wp2_with fail
  refine (P1.out _ H1.out.1 H1.out.2.1).mono ?_
  rintro e w2 ⟨rfl, hH2, hC2, hb2⟩
  have H2 : Hid (HashT w2 g (padT (f ++ Y)) (f ++ Y).size ∧ Cube w2 ∧ Below g w w2) := ⟨hH2, hC2, H1.out.2.2.trans hb2⟩
  clear hH2 hC2 hb2 H1 P1
  go_wp2_with fail
  refine (P2.out _ H2.out.1 H2.out.2.1).mono ?_
  rintro e w3 ⟨rfl, hH3, hC3, hb3⟩
  have H3 : Hid (HashT w3 g (padT (f ++ hashB t (l.take 0))) (f ++ hashB t (l.take 0)).size ∧ Cube w3 ∧ Below g w w3) := ⟨hH3, hC3, H2.out.2.2.trans hb3⟩
  clear hH3 hC3 hb3 H2 P2
  go_wp2_with fail
  go_loopw [18] (fun iv wr => ∃ i : Nat, i ≤ n ∧ iv = .int .i64 (i : Nat) ∧ HashT wr g (padT (f ++ hashB t (l.take i))) (f ++ hashB t (l.take i)).size ∧ Cube wr ∧ Below g w wr) (fun iv _ => n - (intOf iv).toNat)
  case atStart => exact ⟨0, Nat.zero_le _, rfl, H3.out⟩
  case round =>
    obtain ⟨i, hi, rfl, hR⟩ := hrel
    rename World => wr
    have HR : Hid (HashT wr g (padT (f ++ hashB t (l.take i))) (f ++ hashB t (l.take i)).size ∧ Cube wr ∧ Below g w wr) := hR
    clear hR H3
    by_cases hlt : i < n
    · have hil : i < l.length := by rw [← HS.out.2.2.2.2.1]; exact hlt
      obtain ⟨p, o, rfl, hc, hpg⟩ := HS.out.1 i _ (List.getElem?_eq_getElem hil)
      obtain ⟨s, hs⟩ : ∃ s, s = (l[i]'hil) := ⟨_, rfl⟩
      rw [← hs] at hc
      have hc' : wr.cell? ⟨p, o + i, none⟩ = some (.string s) := (HR.out.2.2.cell (p := ⟨p, o + i, none⟩) hpg).trans hc
      have hlt' : (i : Int) < (n : Int) := Int.ofNat_lt.2 hlt
      have e4 : f.size + ((hashB t (l.take i)).size + 4 + s.size) < 1152921504606846976 := by
        have h1 := hashB_take t l (i + 1)
        rw [← hashB_succ t hil, ← hs, ByteArray.size_append, ByteArray.size_append, ofL_size, numL_length] at h1
        have h2 := HS.out.2.2.1
        omega
      have HN : Hid ((f ++ hashB t (l.take i)) ++ ofL (numL s.size 4) ++ s = f ++ hashB t (l.take (i + 1))) := by
        rw [← hashB_succ t hil, ← hs, ba_assoc, ba_assoc, ba_assoc]; exact rfl
      obtain ⟨X, hX⟩ : ∃ X, X = f ++ hashB t (l.take i) := ⟨_, rfl⟩
      have hXs : X.size = f.size + (hashB t (l.take i)).size := by rw [hX, ByteArray.size_append]
      rw [← hX] at HR HN
      have KN3 : Hid _ := fun (w' : World) => highFirst_any s.size 4 (by omega) (by decide) (by decide) w'
      obtain ⟨Y, hY⟩ : ∃ Y, Y = ofL (numL s.size 4) := ⟨_, rfl⟩
      have hYs : Y.size = 4 := by rw [hY, ofL_size, numL_length]
      rw [← hY] at HN
      have KN4 : Hid (∀ w' : World, Calls Tryz.prog 142 #[.int .i64 (s.size : Nat), .int .i64 4] w' fun e w'' => e = .returned (.string Y) ∧ Below w'.heap.size w' w'') := by
        rw [hY]; exact KN3.out
      have P1 : Hid _ := fun (w : World) (hH : HashT w g (padT X) X.size) (hC : Cube w) => piece_any g X Y (by omega) w hH hC HS.out.2.2.2.1
      have P2 : Hid _ := fun (w : World) (hH : HashT w g (padT (X ++ Y)) (X ++ Y).size) (hC : Cube w) => piece_any g (X ++ Y) s (by rw [ByteArray.size_append]; omega) w hH hC HS.out.2.2.2.1
      rw [HN.out] at P2
      have sb : (s.size : Int) < 1152921504606846976 := by omega
      have hgr : g < wr.heap.size := Nat.lt_of_lt_of_le HS.out.2.2.2.2.2.1 HR.out.2.2.size
      clear hc hs hX hY KN3 hXs hYs e4 hpg
      go_wp2_with fail
      refine (KN4.out _).mono ?_
      rintro e w1 ⟨rfl, hb1⟩
      have H1 : Hid (HashT w1 g (padT X) X.size ∧ Cube w1 ∧ Below g w w1) := ⟨HR.out.1.call hb1, HR.out.2.1.call hb1, HR.out.2.2.trans (hb1.mono (Nat.le_of_lt hgr))⟩
      clear hb1 KN4 hc'
      go_wp2_with fail
      refine (P1.out _ H1.out.1 H1.out.2.1).mono ?_
      rintro e w2 ⟨rfl, hH2, hC2, hb2⟩
      have H2 : Hid (HashT w2 g (padT (X ++ Y)) (X ++ Y).size ∧ Cube w2 ∧ Below g w w2) := ⟨hH2, hC2, H1.out.2.2.trans hb2⟩
      clear hH2 hC2 hb2 H1 P1
      go_wp2_with fail
      refine (P2.out _ H2.out.1 H2.out.2.1).mono ?_
      rintro e w3 ⟨rfl, hH3, hC3, hb3⟩
      have H3 : Hid (HashT w3 g (padT (f ++ hashB t (l.take (i + 1)))) (f ++ hashB t (l.take (i + 1))).size ∧ Cube w3 ∧ Below g w w3) := ⟨hH3, hC3, H2.out.2.2.trans hb3⟩
      clear hH3 hC3 hb3 H2 P2
      go_wp2_with fail
      go_roundw
      case rel => first | exact ⟨i + 1, hlt, by go_num, H3.out⟩ | ((repeat apply Exists.intro); exact ⟨⟨i + 1, hlt, by go_num, H3.out⟩, rfl⟩)
      case measure => simp [intOf]; omega
    · obtain rfl : i = n := by omega
      have hnl : ¬ ((i : Int) < (i : Int)) := Int.lt_irrefl _
      have et : l.take i = l := by rw [HS.out.2.2.2.2.1]; exact List.take_of_length_le (Nat.le_refl _)
      rw [et] at HR
      clear hlt hi et
      go_wp2_with fail
      go_end0
      exact ⟨rfl, by have h := HR.out; rw [ByteArray.size_append] at h; exact h⟩
end Go.Proofs.YtienklnigigepaaGreatDoor
