/- Hash.Sum: a copy is finished. -/
import Derived.Test.YtienklnigigepaaGreatDoorDPieB
namespace Go.Proofs.YtienklnigigepaaGreatDoor
open Go.RowKit
set_option maxRecDepth 100000 in
theorem hash_zero : ∃ zs : Array Value, zs.size = 73 ∧ ∀ w, (zeroValue 214).run Tryz.prog w = .ok (.agg zs) w :=
  ⟨#[.int .u32 0, .int .u32 0, .int .u32 0, .int .u32 0, .int .u32 0, .int .u32 0, .int .u32 0, .int .u32 0, .int .u8 0, .int .u8 0, .int .u8 0, .int .u8 0, .int .u8 0, .int .u8 0, .int .u8 0, .int .u8 0, .int .u8 0, .int .u8 0, .int .u8 0, .int .u8 0, .int .u8 0, .int .u8 0, .int .u8 0, .int .u8 0, .int .u8 0, .int .u8 0, .int .u8 0, .int .u8 0, .int .u8 0, .int .u8 0, .int .u8 0, .int .u8 0, .int .u8 0, .int .u8 0, .int .u8 0, .int .u8 0, .int .u8 0, .int .u8 0, .int .u8 0, .int .u8 0, .int .u8 0, .int .u8 0, .int .u8 0, .int .u8 0, .int .u8 0, .int .u8 0, .int .u8 0, .int .u8 0, .int .u8 0, .int .u8 0, .int .u8 0, .int .u8 0, .int .u8 0, .int .u8 0, .int .u8 0, .int .u8 0, .int .u8 0, .int .u8 0, .int .u8 0, .int .u8 0, .int .u8 0, .int .u8 0, .int .u8 0, .int .u8 0, .int .u8 0, .int .u8 0, .int .u8 0, .int .u8 0, .int .u8 0, .int .u8 0, .int .u8 0, .int .u8 0, .int .i64 0], by kernel_rfl, fun _ => by kernel_rfl⟩
set_option maxRecDepth 100000 in
set_option maxHeartbeats 1000000 in
theorem hsum_any (g : Nat) (s : ByteArray) (hs : s.size < 1152921504606846976) (w : World) (hH : HashT w g (padT s) s.size) (hC : Cube w) (hz : 5 < w.heap.size) : Calls Tryz.prog 166 #[.pointer (some ⟨g, 0, none⟩)] w fun e w' => e = .returned (.string (shaS s)) ∧ Below w.heap.size w w' := by
  have K : Hid _ := fun (g : Nat) (w : World) (hH : HashT w g (padT s) s.size) (hC : Cube w) (hg : 5 < g) => finish_any g (padT s) (padT_lt s) s.size _ _ rfl rfl hs (padT_padded s) w hH hC hg
  obtain ⟨b, hb, hw⟩ := hH
  have fz := hw.2.2.2.2
  have HR : Hid (w.rangeAt g 0 (hashL (hashAt (padT s) (s.size / 64)) b s.size)) := hw.range
  have HM : Hid (HashT (w.alloc (.cells (hashL (hashAt (padT s) (s.size / 64)) b s.size).toArray 214)) w.heap.size (padT s) s.size ∧ Cube (w.alloc (.cells (hashL (hashAt (padT s) (s.size / 64)) b s.size).toArray 214)) ∧ 5 < w.heap.size) := ⟨⟨b, hb, HashW.made _ _ _ _ _⟩, hC.alloc, hz⟩
  obtain ⟨cs, hcs⟩ : ∃ cs, cs = hashL (hashAt (padT s) (s.size / 64)) b s.size := ⟨_, rfl⟩
  rw [← hcs] at HR HM
  have hl : cs.length = 73 := by rw [hcs]; exact hashL_length _ _ _
  have h1 : Hid (∀ v ∈ cs, v.oneCell' = true) := by rw [hcs]; exact hashL_one _ _ _
  clear hw hC hz hb hs hcs
  obtain ⟨zs, hzs, hzv⟩ := hash_zero
  go_enter Tryz.func166, Tryz.ntmps166
  go_wp2_with (first | refine wpList_load_mid rfl 214 _ rfl g 0 rfl cs _ HR.out Tryz.underlying214 rfl (by rw [hl]; kernel_rfl) ?_ | refine store_hash _ _ cs rfl rfl ⟨_, rfl, rfl⟩ rfl hzs hl h1.out ?_)
  refine (K.out _ _ HM.out.1 HM.out.2.1 HM.out.2.2).mono ?_
  rintro e w1 ⟨rfl, hb1⟩
  have H1 : Hid (Below w.heap.size w w1) := (below_alloc0' (Below.refl _ _) _).trans hb1
  clear hb1
  go_wp2_with fail
  go_ret
  exact ⟨rfl, H1.out⟩
end Go.Proofs.YtienklnigigepaaGreatDoor
