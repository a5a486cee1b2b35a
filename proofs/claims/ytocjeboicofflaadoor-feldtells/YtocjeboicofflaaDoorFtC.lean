/- Package feld: Commit. -/
import Derived.Test.YtocjeboicofflaaDoorFtB
import Derived.Test.YtocjeboicofflaaDoorMhF
namespace Go.Proofs.YtocjeboicofflaaDoor
open Go Go.RowKit Go.Lib
theorem numsAt_of {w : World} {a : Option Addr} {l : List Nat} (h : Nums w a l) : NumsAt w a l := fun j n hj => by
  obtain ⟨p, o, h1, h2, h3⟩ := h j n hj
  exact ⟨p, o, h1, h3, h2 0 (by decide), h2 1 (by decide), h2 2 (by decide), h2 3 (by decide)⟩
theorem atNought (l : List Nat) (n : Nat) (a : Option Addr) (kc : Nat) (V : Nat) (E : Int) (hn : n = l.length) (hV : V = atV l 0) (hE : E = atE l 0) (hR : ∀ k ∈ l, k < R256) (w : World) (hG : GlobQ w) (hN : Nums w a l) :
    Calls Tryd.prog 23 #[.slice a n kc, .agg #[.int .u64 0, .int .u64 0, .int .u64 0, .int .u64 0]] w fun e w' => e = .returned (.tuple #[.agg #[.int .u64 (limb V 0 : Nat), .int .u64 (limb V 1 : Nat), .int .u64 (limb V 2 : Nat), .int .u64 (limb V 3 : Nat)], .int .i64 E]) ∧ Below w.heap.size w w' := by
  have h := at_any a l kc 0 hR (by decide) w hG hN
  rw [lit0.1, lit0.2.1, lit0.2.2.1, lit0.2.2.2, ← hV, ← hE, ← hn] at h
  exact h
set_option maxRecDepth 100000 in
set_option maxHeartbeats 4000000 in
theorem fcom_in (l : List Nat) (n : Nat) (a : Option Addr) (kc : Nat) (V : Nat) (E : Int) (hn : n = l.length) (hV : V = atV l 0) (hE : E = atE l 0) (hR : ∀ k ∈ l, k < R256) (hE1 : E = 0 ∨ E = 1 ∨ E = 20) (hok : E = 0 → n ≤ 10 ∧ ∀ k ∈ l, k < QQ) (w : World) (hG : GA w) (hN : Nums w a l) :
    Calls Tryd.prog 8 #[.slice a n kc] w fun e w' => (∃ b c, e = .returned (.tuple #[.slice b c c, .int .i64 E]) ∧ (E = 0 → c = n ∧ PtsAt w' b (l.map fun k => gr.mul k gG))) ∧ Below w.heap.size w w' := by
  have KA : Hid _ := atNought l n a kc V E hn hV hE hR
  have KG : Hid _ := G_A
  have KE : Hid _ := each_ok l n a kc
  have H0 : Hid (GA w ∧ Nums w a l ∧ n = l.length ∧ (E = 0 → n ≤ 10 ∧ ∀ k ∈ l, k < QQ)) := ⟨hG, hN, hn, hok⟩
  clear hn hV hE hR hG hN hok
  go_enter Tryd.func8, Tryd.ntmps8
  go_wp2_with fail
  refine (KA.out _ H0.out.1.2.1 H0.out.2.1).mono ?_
  rintro e w1 ⟨rfl, hb1⟩
  obtain ⟨W2, hW2⟩ : ∃ W2, W2 = w1.alloc (.cells #[.int .u64 (limb V 0 : Nat), .int .u64 (limb V 1 : Nat), .int .u64 (limb V 2 : Nat), .int .u64 (limb V 3 : Nat)] 34) := ⟨_, rfl⟩
  have H2 : Hid (Below w.heap.size w W2) := by
    rw [hW2]
    exact below_alloc0 hb1 _
  have HW : Hid (W2 = w1.alloc (.cells #[.int .u64 (limb V 0 : Nat), .int .u64 (limb V 1 : Nat), .int .u64 (limb V 2 : Nat), .int .u64 (limb V 3 : Nat)] 34)) := hW2
  clear hb1 KA hW2
  go_upto_region 2 with fail
  rw [← HW.out]
  clear HW
  rcases hE1 with rfl | rfl | rfl
  · go_wp2_with fail
    refine (KG.out _ (H0.out.1.call H2.out).2.2.2).mono ?_
    rintro e w3 ⟨rfl, hb3⟩
    obtain ⟨c, hc⟩ : ∃ c, c = w3.heap.size := ⟨_, rfl⟩
    obtain ⟨W4, hW4⟩ : ∃ W4, W4 = w3.alloc (.cells #[.int .u64 (limb (pX gG) 0 : Nat), .int .u64 (limb (pX gG) 1 : Nat), .int .u64 (limb (pX gG) 2 : Nat), .int .u64 (limb (pX gG) 3 : Nat), .int .u64 (limb (pY gG) 0 : Nat), .int .u64 (limb (pY gG) 1 : Nat), .int .u64 (limb (pY gG) 2 : Nat), .int .u64 (limb (pY gG) 3 : Nat), .bool (pI gG)] 36) := ⟨_, rfl⟩
    have H4 : Hid (Below w.heap.size w W4 ∧ Bl W4 c (ptsV gG) 36) := by
      rw [hW4, hc]
      exact ⟨below_alloc0 (below_call0 H2.out hb3) _, Bl.new w3 (ptsV gG) _⟩
    have HW : Hid (W4 = w3.alloc (.cells #[.int .u64 (limb (pX gG) 0 : Nat), .int .u64 (limb (pX gG) 1 : Nat), .int .u64 (limb (pX gG) 2 : Nat), .int .u64 (limb (pX gG) 3 : Nat), .int .u64 (limb (pY gG) 0 : Nat), .int .u64 (limb (pY gG) 1 : Nat), .int .u64 (limb (pY gG) 2 : Nat), .int .u64 (limb (pY gG) 3 : Nat), .bool (pI gG)] 36) ∧ c = w3.heap.size) := ⟨hW4, hc⟩
    clear hW4 hc hb3 H2 KG
    go_upto_region 5 with fail
    rw [← HW.out.1, ← HW.out.2]
    clear HW
    have ho := H0.out.2.2.2 (by simp)
    have KE1 : Hid _ := fun h1 h2 h3 => KE.out c H0.out.2.2.1 ho.1 ho.2 W4 h1 h2 h3
    clear ho
    go_wp2_with fail
    refine (KE1.out (H0.out.1.call H4.out.1) ((numsAt_of H0.out.2.1).call H4.out.1) H4.out.2).mono ?_
    rintro e w5 ⟨b, rfl, hp5, hb5⟩
    have H5 : Hid (PtsAt w5 (some ⟨b, 0, none⟩) (l.map fun k => gr.mul k gG) ∧ Below w.heap.size w w5) := ⟨hp5, below_call0 H4.out.1 hb5⟩
    clear hp5 hb5 H4 KE1 KE
    go_wp2_with fail
    refine bodyPost_ret (v := .tuple #[.slice (some ⟨b, 0, none⟩) n n, .int .i64 0]) (by simp [results, Tryd.results8]) rfl ⟨⟨_, n, rfl, by first | exact ⟨rfl, H5.out.1⟩ | exact fun _ => ⟨rfl, H5.out.1⟩⟩, H5.out.2⟩
  · go_wp2_with fail
    refine bodyPost_ret (v := .tuple #[.slice none 0 0, .int .i64 1]) (by simp [results, Tryd.results8]) rfl ⟨⟨none, 0, rfl, by first | exact fun h => by cases h | simp⟩, H2.out⟩
  · go_wp2_with fail
    refine bodyPost_ret (v := .tuple #[.slice none 0 0, .int .i64 20]) (by simp [results, Tryd.results8]) rfl ⟨⟨none, 0, rfl, by first | exact fun h => by cases h | simp⟩, H2.out⟩
/-- Commit of any polynomial: its error is share.At's. -/
theorem fcom_any (l : List Nat) (n : Nat) (a : Option Addr) (kc : Nat) (hn : n = l.length) (hR : ∀ k ∈ l, k < R256) (w : World) (hG : GA w) (hN : Nums w a l) :
    Calls Tryd.prog 8 #[.slice a n kc] w fun e w' => (∃ b c, e = .returned (.tuple #[.slice b c c, .int .i64 (atE l 0)]) ∧ (atE l 0 = 0 → c = n ∧ PtsAt w' b (l.map fun k => gr.mul k gG))) ∧ Below w.heap.size w w' := by
  refine fcom_in l n a kc _ _ hn rfl rfl hR ?_ (fun h => ?_) w hG hN
  · unfold atE
    split
    · split
      · exact .inl rfl
      · exact .inr (.inr rfl)
    · exact .inr (.inl rfl)
  · unfold atE at h
    split at h
    · next h1 =>
      split at h
      · next h2 => exact ⟨by omega, fun k hk => allQ_mem h2.1 hk⟩
      · cases h
    · cases h
end Go.Proofs.YtocjeboicofflaaDoor
