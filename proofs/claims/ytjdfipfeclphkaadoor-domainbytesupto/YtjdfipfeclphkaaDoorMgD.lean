/- Several texts laid together. -/
import Derived.Test.YtjdfipfeclphkaaDoorMgC
import Derived.Test.YtjdfipfeclphkaaDoorMgB
import Derived.FnLit
namespace Go.Proofs.YtjdfipfeclphkaaDoor
open Go Go.RowKit Go.Lib

theorem ba_assoc (a b c : ByteArray) : a ++ b ++ c = a ++ (b ++ c) := ba_ext (by simp only [ba_append, List.append_assoc])
/-- Texts in blocks below B. -/
def StrsB (w : World) (B : Nat) (a : Option Addr) (l : List ByteArray) : Prop :=
  ∀ j s, l[j]? = some s → ∃ p o, a = some ⟨p, o, none⟩ ∧ w.cell? ⟨p, o + j, none⟩ = some (.string s) ∧ p < B
theorem Strs.below {w w' : World} {a : Option Addr} {l : List ByteArray} (h : Strs w a l) (hb : Below w.heap.size w w') : StrsB w' w.heap.size a l := fun j s hj => by
  obtain ⟨p, o, h1, h2, h3⟩ := h j s hj
  exact ⟨p, o, h1, (hb.cell (p := ⟨p, o + j, none⟩) h3).trans h2, h3⟩
/-- The method value h.Write. -/
def wrV (g : Nat) : Value := .func (.func 31) #[.pointer (some ⟨g, 0, none⟩)] #[]
set_option maxRecDepth 100000 in
set_option maxHeartbeats 4000000 in
theorem writeHashed_any (g : Nat) (f t : ByteArray) (a : Option Addr) (l : List ByteArray) (cap : Nat) (hb : f.size + (hashB t l).size < 1152921504606846976) (w : World) (hS : StrsB w g a l) (hH : HashT w g (padT f) f.size) (hC : Cube w) (hg : 2 < g) (hgw : g < w.heap.size) :
    Calls Tryd.prog 33 #[wrV g, .string t, .slice a l.length cap] w fun e w' => e = .returned (.tuple #[]) ∧ HashT w' g (padT (f ++ hashB t l)) (f ++ hashB t l).size ∧ Cube w' ∧ Below g w w' := by
  unfold wrV
  have hts : t.size < 1152921504606846976 := by rw [hashB_size] at hb; omega
  have htn : (t.size : Int) < 1152921504606846976 := by omega
  obtain ⟨n, hn⟩ : ∃ n, n = l.length := ⟨_, rfl⟩
  rw [← hn]
  have hn60 : (n : Int) < 1152921504606846976 := by rw [hashB_size] at hb; omega
  have HS : Hid (StrsB w g a l ∧ True ∧ f.size + (hashB t l).size < 1152921504606846976 ∧ 2 < g ∧ n = l.length ∧ g < w.heap.size ∧ True) := ⟨hS, trivial, hb, hg, hn, hgw, trivial⟩
  have HH : Hid (HashT w g (padT f) f.size ∧ Cube w) := ⟨hH, hC⟩
  have K1 : Hid _ := fun (w : World) => highFirst_any t.size 1 (by omega) (by decide) (by decide) w
  clear hS hH hC hg hn hb hgw
  go_enter Tryd.func33, Tryd.ntmps33
  go_wp2_with fail
  refine (K1.out _).mono ?_
  rintro e w1 ⟨rfl, hb1⟩
  have H1 : Hid (HashT w1 g (padT f) f.size ∧ Cube w1 ∧ Below g w w1) := ⟨HH.out.1.call hb1, HH.out.2.call hb1, hb1.mono (Nat.le_of_lt HS.out.2.2.2.2.2.1)⟩
  clear hb1 HH K1
  have P1 : Hid _ := fun (w : World) (hH : HashT w g (padT f) f.size) (hC : Cube w) => piece_any g f (ofL (numL t.size 1)) (by have h1 := HS.out.2.2.1; rw [hashB_size] at h1; rw [ofL_size, numL_length]; omega) w hH hC HS.out.2.2.2.1
  have P2 : Hid _ := fun (w : World) (hH : HashT w g (padT (f ++ ofL (numL t.size 1))) (f ++ ofL (numL t.size 1)).size) (hC : Cube w) => piece_any g (f ++ ofL (numL t.size 1)) t (by have h1 := HS.out.2.2.1; rw [hashB_size] at h1; rw [ByteArray.size_append, ofL_size, numL_length]; omega) w hH hC HS.out.2.2.2.1
  have HP : Hid ((f ++ ofL (numL t.size 1)) ++ t = f ++ hashB t (l.take 0)) := by rw [← hashB_zero t l]; exact ba_assoc _ _ _
  rw [HP.out] at P2
  obtain ⟨Y, hY⟩ : ∃ Y, Y = ofL (numL t.size 1) := ⟨_, rfl⟩
  rw [← hY] at P1 P2 ⊢
  clear HP hY
  go_wp2_with fail
  refine (P1.out _ H1.out.1 H1.out.2.1).mono ?_
  rintro e w2 ⟨rfl, hH2, hC2, hb2⟩
  have H2 : Hid (HashT w2 g (padT (f ++ Y)) (f ++ Y).size ∧ Cube w2 ∧ Below g w w2) := ⟨hH2, hC2, H1.out.2.2.trans hb2⟩
  clear hH2 hC2 hb2 H1 P1
  go_wp2_with fail
  refine (P2.out _ H2.out.1 H2.out.2.1).mono ?_
  rintro e w3 ⟨rfl, hH3, hC3, hb3⟩
  have H3 : Hid (HashT w3 g (padT (f ++ hashB t (l.take 0))) (f ++ hashB t (l.take 0)).size ∧ Cube w3 ∧ Below g w w3) := ⟨hH3, hC3, H2.out.2.2.trans hb3⟩
  clear hH3 hC3 hb3 H2 P2
  go_wp2_with fail
  go_loopw [18] (fun iv wr => ∃ i : Nat, i ≤ n ∧ iv = .int .i64 (i : Nat) ∧ HashT wr g (padT (f ++ hashB t (l.take i))) (f ++ hashB t (l.take i)).size ∧ Cube wr ∧ Below g w wr) (fun iv _ => n - (intOf iv).toNat)
  case atStart => exact ⟨0, Nat.zero_le _, rfl, H3.out⟩
  case round =>
    obtain ⟨i, hi, rfl, hR⟩ := hrel
    rename World => wr
    have HR : Hid (HashT wr g (padT (f ++ hashB t (l.take i))) (f ++ hashB t (l.take i)).size ∧ Cube wr ∧ Below g w wr) := hR
    clear hR H3
    by_cases hlt : i < n
    · have hil : i < l.length := by rw [← HS.out.2.2.2.2.1]; exact hlt
      obtain ⟨p, o, rfl, hc, hpg⟩ := HS.out.1 i _ (List.getElem?_eq_getElem hil)
      obtain ⟨s, hs⟩ : ∃ s, s = (l[i]'hil) := ⟨_, rfl⟩
      rw [← hs] at hc
      have hc' : wr.cell? ⟨p, o + i, none⟩ = some (.string s) := (HR.out.2.2.cell (p := ⟨p, o + i, none⟩) hpg).trans hc
      have hlt' : (i : Int) < (n : Int) := Int.ofNat_lt.2 hlt
      have e4 : f.size + ((hashB t (l.take i)).size + 4 + s.size) < 1152921504606846976 := by
        have h1 := hashB_take t l (i + 1)
        rw [← hashB_succ t hil, ← hs, ByteArray.size_append, ByteArray.size_append, ofL_size, numL_length] at h1
        have h2 := HS.out.2.2.1
        omega
      have HN : Hid ((f ++ hashB t (l.take i)) ++ ofL (numL s.size 4) ++ s = f ++ hashB t (l.take (i + 1))) := by
        rw [← hashB_succ t hil, ← hs, ba_assoc, ba_assoc, ba_assoc]; exact rfl
      obtain ⟨X, hX⟩ : ∃ X, X = f ++ hashB t (l.take i) := ⟨_, rfl⟩
      have hXs : X.size = f.size + (hashB t (l.take i)).size := by rw [hX, ByteArray.size_append]
      rw [← hX] at HR HN
      have KN3 : Hid _ := fun (w' : World) => highFirst_any s.size 4 (by omega) (by decide) (by decide) w'
      obtain ⟨Y, hY⟩ : ∃ Y, Y = ofL (numL s.size 4) := ⟨_, rfl⟩
      have hYs : Y.size = 4 := by rw [hY, ofL_size, numL_length]
      rw [← hY] at HN
      have KN4 : Hid (∀ w' : World, Calls Tryd.prog 45 #[.int .i64 (s.size : Nat), .int .i64 4] w' fun e w'' => e = .returned (.string Y) ∧ Below w'.heap.size w' w'') := by
        rw [hY]; exact KN3.out
      have P1 : Hid _ := fun (w : World) (hH : HashT w g (padT X) X.size) (hC : Cube w) => piece_any g X Y (by omega) w hH hC HS.out.2.2.2.1
      have P2 : Hid _ := fun (w : World) (hH : HashT w g (padT (X ++ Y)) (X ++ Y).size) (hC : Cube w) => piece_any g (X ++ Y) s (by rw [ByteArray.size_append]; omega) w hH hC HS.out.2.2.2.1
      rw [HN.out] at P2
      have sb : (s.size : Int) < 1152921504606846976 := by omega
      have hgr : g < wr.heap.size := Nat.lt_of_lt_of_le HS.out.2.2.2.2.2.1 HR.out.2.2.size
      clear hc hs hX hY KN3 hXs hYs e4 hpg
      go_wp2_with fail
      refine (KN4.out _).mono ?_
      rintro e w1 ⟨rfl, hb1⟩
      have H1 : Hid (HashT w1 g (padT X) X.size ∧ Cube w1 ∧ Below g w w1) := ⟨HR.out.1.call hb1, HR.out.2.1.call hb1, HR.out.2.2.trans (hb1.mono (Nat.le_of_lt hgr))⟩
      clear hb1 KN4 hc'
      go_wp2_with fail
      refine (P1.out _ H1.out.1 H1.out.2.1).mono ?_
      rintro e w2 ⟨rfl, hH2, hC2, hb2⟩
      have H2 : Hid (HashT w2 g (padT (X ++ Y)) (X ++ Y).size ∧ Cube w2 ∧ Below g w w2) := ⟨hH2, hC2, H1.out.2.2.trans hb2⟩
      clear hH2 hC2 hb2 H1 P1
      go_wp2_with fail
      refine (P2.out _ H2.out.1 H2.out.2.1).mono ?_
      rintro e w3 ⟨rfl, hH3, hC3, hb3⟩
      have H3 : Hid (HashT w3 g (padT (f ++ hashB t (l.take (i + 1)))) (f ++ hashB t (l.take (i + 1))).size ∧ Cube w3 ∧ Below g w w3) := ⟨hH3, hC3, H2.out.2.2.trans hb3⟩
      clear hH3 hC3 hb3 H2 P2
      go_wp2_with fail
      go_roundw
      case rel => first | exact ⟨i + 1, hlt, by go_num, H3.out⟩ | ((repeat apply Exists.intro); exact ⟨⟨i + 1, hlt, by go_num, H3.out⟩, rfl⟩)
      case measure => simp [intOf]; omega
    · obtain rfl : i = n := by omega
      have hnl : ¬ ((i : Int) < (i : Int)) := Int.lt_irrefl _
      have et : l.take i = l := by rw [HS.out.2.2.2.2.1]; exact List.take_of_length_le (Nat.le_refl _)
      rw [et] at HR
      clear hlt hi et
      go_wp2_with fail
      go_end0
      exact ⟨rfl, by have h := HR.out; rw [ByteArray.size_append] at h; exact h⟩
end Go.Proofs.YtjdfipfeclphkaaDoor

namespace Go.Proofs.YtjdfipfeclphkaaDoor
open Go Go.RowKit Go.Lib

set_option maxRecDepth 100000 in
set_option maxHeartbeats 4000000 in
theorem dsum_any (f t : ByteArray) (a : Option Addr) (l : List ByteArray) (cap : Nat) (hb : f.size + (hashB t l).size < 1152921504606846976) (w : World) (hS : Strs w a l) (hG : GlobD w) (hz : 2 < w.heap.size) :
    Calls Tryd.prog 21 #[.string f, .string t, .slice a l.length cap] w fun e w' => e = .returned (.string (shaS (f ++ hashB t l))) ∧ Below w.heap.size w w' := by
  have hmf : ∀ (fn : Fn) (first cap : Array Value) (w : World), (Instr.makeFunc fn first cap).run Tryd.prog w = .ok (.func fn first cap) w := fun _ _ _ _ => rfl
  have hsz : (f ++ hashB t l).size < 1152921504606846976 := by rw [ByteArray.size_append]; exact hb
  have K1 : Hid _ := fun (w : World) (h : GlobD w) => new_any w h (padT f)
  have K2 : Hid _ := fun (g : Nat) (w : World) (hH : HashT w g (padT f) 0) (hC : Cube w) (hg : 2 < g) => write_any g (padT f) (padT_lt f) 0 f.size f (fun j hj => by rw [Nat.zero_add]; unfold padT; rw [if_pos hj]) (Nat.zero_add _) (by omega) w hH hC hg
  have K3 : Hid _ := fun (g : Nat) (w : World) (hS : StrsB w g a l) (hH : HashT w g (padT f) f.size) (hC : Cube w) (hg : 2 < g) (hgw : g < w.heap.size) => writeHashed_any g f t a l cap hb w hS hH hC hg hgw
  have K4 : Hid _ := fun (g : Nat) (w : World) (hH : HashT w g (padT (f ++ hashB t l)) (f ++ hashB t l).size) (hC : Cube w) (hz : 2 < w.heap.size) => hsum_any g (f ++ hashB t l) hsz w hH hC hz
  have HG : Hid (GlobD w ∧ 2 < w.heap.size ∧ Strs w a l) := ⟨hG, hz, hS⟩
  obtain ⟨R, hR⟩ : ∃ R, R = f ++ hashB t l := ⟨_, rfl⟩
  rw [← hR] at K3 K4 ⊢
  unfold wrV at K3
  clear hG hz hb hsz hS hR
  go_enter Tryd.func21, Tryd.ntmps21
  go_wp2_with fail
  refine (K1.out _ HG.out.1).mono ?_
  rintro e w1 ⟨rfl, hH1, hB1⟩
  have H1 : Hid (HashT w1 w.heap.size (padT f) 0 ∧ Cube w1 ∧ Below w.heap.size w w1) := ⟨hH1, HG.out.1.2.2.call hB1, hB1⟩
  have H1s : Hid (w.heap.size < w1.heap.size) := by obtain ⟨b, _, hw⟩ := hH1; exact hw.2.2.2.2
  clear hH1 hB1
  go_wp2_with fail
  refine (K2.out _ _ H1.out.1 H1.out.2.1 HG.out.2.1).mono ?_
  rintro e w2 ⟨rfl, hH2, hC2, hB2⟩
  have H2 : Hid (HashT w2 w.heap.size (padT f) f.size ∧ Cube w2 ∧ Below w.heap.size w w2 ∧ w.heap.size < w2.heap.size) := ⟨hH2, hC2, H1.out.2.2.trans hB2, Nat.lt_of_lt_of_le H1s.out hB2.size⟩
  clear hH2 hC2 hB2 H1 H1s
  go_wp2_with fail
  refine (K3.out _ _ (HG.out.2.2.below H2.out.2.2.1) H2.out.1 H2.out.2.1 HG.out.2.1 H2.out.2.2.2).mono ?_
  rintro e w3 ⟨rfl, hH3, hC3, hB3⟩
  have H3 : Hid (HashT w3 w.heap.size (padT R) R.size ∧ Cube w3 ∧ Below w.heap.size w w3) := ⟨hH3, hC3, H2.out.2.2.1.trans hB3⟩
  clear hH3 hC3 hB3 H2
  go_wp2_with fail
  refine (K4.out _ _ H3.out.1 H3.out.2.1 (Nat.lt_of_lt_of_le HG.out.2.1 H3.out.2.2.size)).mono ?_
  rintro e w4 ⟨rfl, hB4⟩
  have H4 : Hid (Below w.heap.size w w4) := below_call0' H3.out.2.2 hB4
  clear hB4 H3
  go_wp2_with fail
  go_ret
  exact ⟨rfl, H4.out⟩
/-- What Bytes answers. -/
def bySt (t : ByteArray) (l : List ByteArray) : ByteArray := if tagB t then shaS (hashB t l) else ByteArray.empty
def byE (t : ByteArray) : Int := if tagB t then 0 else 1
theorem ba_nil (s : ByteArray) : (⟨#[]⟩ : ByteArray) ++ s = s := ba_ext (by rw [ba_append]; rfl)
set_option maxHeartbeats 1000000 in
theorem bytes5_in (t : ByteArray) (a : Option Addr) (l : List ByteArray) (cap : Nat) (ht : tagB t = true) (hb : (hashB t l).size < 1152921504606846976) (w : World) (hS : Strs w a l) (hG : GlobD w) (hz : 2 < w.heap.size) :
    Calls Tryd.prog 8 #[.string t, .slice a l.length cap] w fun e w' => e = .returned (.tuple #[.string (shaS (hashB t l)), .int .i64 0]) ∧ Below w.heap.size w w' := by
  have K1 : Hid _ := fun (w : World) => isTag_any t w
  have K2 : Hid _ := fun (w : World) (hS : Strs w a l) (hG : GlobD w) (hz : 2 < w.heap.size) => dsum_any ⟨#[]⟩ t a l cap (by show 0 + _ < _; omega) w hS hG hz
  rw [ht] at K1
  rw [ba_nil] at K2
  have HG : Hid (Strs w a l ∧ GlobD w ∧ 2 < w.heap.size) := ⟨hS, hG, hz⟩
  obtain ⟨R, hR⟩ : ∃ R, R = shaS (hashB t l) := ⟨_, rfl⟩
  rw [← hR] at K2 ⊢
  clear hS hG hz hb hR ht
  go_enter Tryd.func8, Tryd.ntmps8
  go_wp2_with fail
  refine (K1.out _).mono ?_
  rintro e w1 ⟨rfl, rfl⟩
  go_wp2_with fail
  refine (K2.out _ HG.out.1 HG.out.2.1 HG.out.2.2).mono ?_
  rintro e w2 ⟨rfl, hB2⟩
  have H2 : Hid (Below w1.heap.size w1 w2) := hB2
  clear hB2
  go_wp2_with fail
  go_ret2
  exact ⟨rfl, H2.out⟩
theorem bytes5_no (t : ByteArray) (a : Option Addr) (n cap : Nat) (ht : tagB t = false) (w : World) :
    Calls Tryd.prog 8 #[.string t, .slice a n cap] w fun e w' => e = .returned (.tuple #[.string ByteArray.empty, .int .i64 1]) ∧ Below w.heap.size w w' := by
  have K1 : Hid _ := fun (w : World) => isTag_any t w
  rw [ht] at K1
  clear ht
  go_enter Tryd.func8, Tryd.ntmps8
  go_wp2_with fail
  refine (K1.out _).mono ?_
  rintro e w1 ⟨rfl, rfl⟩
  go_wp2_with fail
  go_ret2
  exact ⟨rfl, Below.refl _ _⟩
end Go.Proofs.YtjdfipfeclphkaaDoor

namespace Go.Proofs.YtjdfipfeclphkaaDoor
open Go Go.RowKit Go.Lib

theorem shaS_32 (s : ByteArray) : (shaS s).size = 32 := by unfold shaS sumS; rw [strOf_size, hfL_length]
theorem one_hash : hashB ⟨#[116]⟩ [⟨#[97]⟩] = ⟨#[1, 116, 0, 0, 0, 1, 97]⟩ := by kernel_rfl
theorem one_strs (w : World) (T : TypeId) : Strs (w.alloc (.cells #[.string ⟨#[97]⟩] T)) (some ⟨w.heap.size, 0, none⟩) [⟨#[97]⟩] := fun j s hj => by
  match j, hj with
  | 0, hj => simp at hj; subst hj; exact ⟨_, _, rfl, by simp [go_sem], by simp⟩
  | j + 1, hj => simp at hj
set_option maxRecDepth 100000 in
set_option maxHeartbeats 1000000 in
theorem one_any (w : World) (hG : GlobD w) (hz : 2 < w.heap.size) :
    Calls Tryd.prog 7 #[] w fun e w' => e = .returned (.bool true) ∧ Below w.heap.size w w' := by
  have K1 : Hid _ := fun (w : World) (hG : GlobD w) (hz : 2 < w.heap.size) => bytes5_in ⟨#[116]⟩ (some ⟨w.heap.size, 0, none⟩) [⟨#[97]⟩] 1 (by decide) (by rw [one_hash]; decide) (w.alloc (.cells #[.string ⟨#[97]⟩] 9)) (one_strs w _) (hG.call (below_alloc0' (Below.refl _ _) _)) (Nat.lt_of_lt_of_le hz (below_alloc0' (Below.refl w.heap.size w) _).size)
  have K2 : Hid _ := fun (w : World) (h : GlobD w) (hz : 2 < w.heap.size) => sum_any ⟨#[1, 116, 0, 0, 0, 1, 97]⟩ (by decide) w h hz
  rw [one_hash] at K1
  obtain ⟨R, hR⟩ : ∃ R, R = shaS ⟨#[1, 116, 0, 0, 0, 1, 97]⟩ := ⟨_, rfl⟩
  rw [← hR] at K1 K2
  have sR : R.size = 32 := by rw [hR]; exact shaS_32 _
  have tb : (R.toList == R.toList) = true := by simp only [BEq.rfl]
  have HG : Hid (GlobD w ∧ 2 < w.heap.size) := ⟨hG, hz⟩
  clear hG hz hR
  go_enter Tryd.func7, Tryd.ntmps7
  go_wp2_with fail
  refine (K1.out w HG.out.1 HG.out.2).mono ?_
  rintro e w1 ⟨rfl, hb1⟩
  have H1 : Hid (Below w.heap.size w w1) := below_call0' (below_alloc0' (Below.refl _ _) _) hb1
  clear hb1 K1
  go_wp2_with fail
  refine (K2.out _ (HG.out.1.call H1.out) (Nat.lt_of_lt_of_le HG.out.2 H1.out.size)).mono ?_
  rintro e w2 ⟨rfl, hb2⟩
  have H2 : Hid (Below w.heap.size w w2) := below_call0' H1.out hb2
  clear hb2 H1
  go_wp2_with fail
  go_ret
  exact ⟨rfl, H2.out⟩
end Go.Proofs.YtjdfipfeclphkaaDoor
