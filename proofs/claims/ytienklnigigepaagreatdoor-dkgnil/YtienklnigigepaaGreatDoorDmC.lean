/- Package domain: sum and Bytes. -/
import Derived.Test.YtienklnigigepaaGreatDoorDmB
namespace Go.Proofs.YtienklnigigepaaGreatDoor
open Go Go.RowKit Go.Lib

set_option maxRecDepth 100000 in
set_option maxHeartbeats 4000000 in
theorem dsum_any (f t : ByteArray) (a : Option Addr) (l : List ByteArray) (cap : Nat) (hb : f.size + (hashB t l).size < 1152921504606846976) (w : World) (hS : Strs w a l) (hG : GlobD w) (hz : 5 < w.heap.size) :
    Calls Tryz.prog 143 #[.string f, .string t, .slice a l.length cap] w fun e w' => e = .returned (.string (shaS (f ++ hashB t l))) ∧ Below w.heap.size w w' := by
  have hmf : ∀ (fn : Fn) (first cap : Array Value) (w : World), (Instr.makeFunc fn first cap).run Tryz.prog w = .ok (.func fn first cap) w := fun _ _ _ _ => rfl
  have hsz : (f ++ hashB t l).size < 1152921504606846976 := by rw [ByteArray.size_append]; exact hb
  have K1 : Hid _ := fun (w : World) (h : GlobD w) => new_any w h (padT f)
  have K2 : Hid _ := fun (g : Nat) (w : World) (hH : HashT w g (padT f) 0) (hC : Cube w) (hg : 5 < g) => write_any g (padT f) (padT_lt f) 0 f.size f (fun j hj => by rw [Nat.zero_add]; unfold padT; rw [if_pos hj]) (Nat.zero_add _) (by omega) w hH hC hg
  have K3 : Hid _ := fun (g : Nat) (w : World) (hS : StrsB w g a l) (hH : HashT w g (padT f) f.size) (hC : Cube w) (hg : 5 < g) (hgw : g < w.heap.size) => writeHashed_any g f t a l cap hb w hS hH hC hg hgw
  have K4 : Hid _ := fun (g : Nat) (w : World) (hH : HashT w g (padT (f ++ hashB t l)) (f ++ hashB t l).size) (hC : Cube w) (hz : 5 < w.heap.size) => hsum_any g (f ++ hashB t l) hsz w hH hC hz
  have HG : Hid (GlobD w ∧ 5 < w.heap.size ∧ Strs w a l) := ⟨hG, hz, hS⟩
  obtain ⟨R, hR⟩ : ∃ R, R = f ++ hashB t l := ⟨_, rfl⟩
  rw [← hR] at K3 K4 ⊢
  unfold wrV at K3
  clear hG hz hb hsz hS hR
  go_enter Tryz.func143, Tryz.ntmps143
  go_wp2_with fail
  refine (K1.out _ HG.out.1).mono ?_
  rintro e w1 ⟨rfl, hH1, hB1⟩
  have H1 : Hid (HashT w1 w.heap.size (padT f) 0 ∧ Cube w1 ∧ Below w.heap.size w w1) := ⟨hH1, HG.out.1.2.2.call hB1, hB1⟩
  have H1s : Hid (w.heap.size < w1.heap.size) := by obtain ⟨b, _, hw⟩ := hH1; exact hw.2.2.2.2
  clear hH1 hB1
  go_wp2_with fail
  refine (K2.out _ _ H1.out.1 H1.out.2.1 HG.out.2.1).mono ?_
  rintro e w2 ⟨rfl, hH2, hC2, hB2⟩
  have H2 : Hid (HashT w2 w.heap.size (padT f) f.size ∧ Cube w2 ∧ Below w.heap.size w w2 ∧ w.heap.size < w2.heap.size) := ⟨hH2, hC2, H1.out.2.2.trans hB2, Nat.lt_of_lt_of_le H1s.out hB2.size⟩
  clear hH2 hC2 hB2 H1 H1s
  go_wp2_with fail
  refine (K3.out _ _ (HG.out.2.2.below H2.out.2.2.1) H2.out.1 H2.out.2.1 HG.out.2.1 H2.out.2.2.2).mono ?_
  rintro e w3 ⟨rfl, hH3, hC3, hB3⟩
  have H3 : Hid (HashT w3 w.heap.size (padT R) R.size ∧ Cube w3 ∧ Below w.heap.size w w3) := ⟨hH3, hC3, H2.out.2.2.1.trans hB3⟩
  clear hH3 hC3 hB3 H2
  go_wp2_with fail
  refine (K4.out _ _ H3.out.1 H3.out.2.1 (Nat.lt_of_lt_of_le HG.out.2.1 H3.out.2.2.size)).mono ?_
  rintro e w4 ⟨rfl, hB4⟩
  have H4 : Hid (Below w.heap.size w w4) := below_call0' H3.out.2.2 hB4
  clear hB4 H3
  go_wp2_with fail
  go_ret
  exact ⟨rfl, H4.out⟩
/-- What Bytes answers. -/
def bySt (t : ByteArray) (l : List ByteArray) : ByteArray := if tagB t then shaS (hashB t l) else ByteArray.empty
def byE (t : ByteArray) : Int := if tagB t then 0 else 1
theorem ba_nil (s : ByteArray) : (⟨#[]⟩ : ByteArray) ++ s = s := ba_ext (by rw [ba_append]; rfl)
end Go.Proofs.YtienklnigigepaaGreatDoor
