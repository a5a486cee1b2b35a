/- The reference's round. -/
import Derived.Test.YtdnahobafhelhaaDoorRef4A
import Derived.Test.YtdnahobafhelhaaDoorShaS
import Derived.Test.YtdnahobafhelhaaDoorMgB
namespace Go.Proofs.YtdnahobafhelhaaDoor
open Go.RowKit

def agg8 (x : E8) : Value := .agg #[.int .i64 (x.a : Nat), .int .i64 (x.b : Nat), .int .i64 (x.c : Nat), .int .i64 (x.d : Nat), .int .i64 (x.e : Nat), .int .i64 (x.f : Nat), .int .i64 (x.g : Nat), .int .i64 (x.h : Nat)]
def Low8 (x : E8) : Prop := x.a < 4294967296 ∧ x.b < 4294967296 ∧ x.c < 4294967296 ∧ x.d < 4294967296 ∧ x.e < 4294967296 ∧ x.f < 4294967296 ∧ x.g < 4294967296 ∧ x.h < 4294967296
theorem not32_eq (e : Nat) (he : e < 4294967296) : xor32 4294967295 e = 4294967295 - e := by
  have h : (BitVec.allOnes 32 ^^^ BitVec.ofNat 32 e) = ~~~ (BitVec.ofNat 32 e) := by rw [BitVec.xor_comm, BitVec.xor_allOnes]
  have h2 := congrArg BitVec.toNat h
  rw [BitVec.toNat_xor, BitVec.toNat_not, BitVec.toNat_ofNat, BitVec.toNat_allOnes, Nat.mod_eq_of_lt he] at h2
  unfold xor32
  rw [Nat.mod_eq_of_lt he]
  exact h2
theorem keep64 (z : Nat) (h : z < 9223372036854775808) : IntKind.i64.wrap (z : Int) = (z : Nat) ∧ wrap64 (z : Int) = (z : Nat) := ⟨by rw [IntKind.wrap_i64]; omega, by unfold wrap64; omega⟩
theorem rem32 (z : Nat) : (z : Int).tmod 4294967296 = ((z % 4294967296 : Nat) : Int) ∧ (z : Int) % 4294967296 = ((z % 4294967296 : Nat) : Int) := ⟨by rw [Int.tmod_eq_emod_of_nonneg (by omega)]; omega, by omega⟩
theorem sub_all (e : Nat) (h : e < 4294967296) : (4294967295 : Int) - (e : Int) = ((4294967295 - e : Nat) : Int) := by omega
theorem rnd_sums (h S1 cc k v S0 mj d : Nat) : (h + S1 + cc + k + v + (S0 + mj)) % 4294967296 = add32 (add32 (add32 (add32 (add32 h S1) cc) k) v) (add32 S0 mj) ∧ (d + (h + S1 + cc + k + v)) % 4294967296 = add32 d (add32 (add32 (add32 (add32 h S1) cc) k) v) := by
  refine ⟨?_, ?_⟩ <;> simp only [add32, Nat.mod_add_mod, Nat.add_mod_mod]

set_option maxRecDepth 100000 in
set_option maxHeartbeats 4000000 in
theorem round_any (a b c d e f g h k v : Nat) (hx : Low8 ⟨a, b, c, d, e, f, g, h⟩) (hk : k < 4294967296) (hv : v < 4294967296) (w : World) :
    Calls Tryd.prog 41 #[.agg #[.int .i64 (a : Nat), .int .i64 (b : Nat), .int .i64 (c : Nat), .int .i64 (d : Nat), .int .i64 (e : Nat), .int .i64 (f : Nat), .int .i64 (g : Nat), .int .i64 (h : Nat)], .int .i64 (k : Nat), .int .i64 (v : Nat)] w fun ed w' => ed = .returned (agg8 (rnd ⟨a, b, c, d, e, f, g, h⟩ k v)) ∧ Below w.heap.size w w' := by
  obtain ⟨la, lb, lc, ld, le, lf, lg, lh⟩ := hx
  have lk := hk
  have lv := hv
  simp only at la lb lc ld le lf lg lh
  have K1 : Hid _ := fun w => three_any e 6 11 25 le (by decide) (by decide) (by decide) (by decide) (by decide) (by decide) 6 11 25 rfl rfl rfl w
  have K2 : Hid _ := fun w => three_any a 2 13 22 la (by decide) (by decide) (by decide) (by decide) (by decide) (by decide) 2 13 22 rfl rfl rfl w
  obtain ⟨ne, hne⟩ : ∃ q, q = 4294967295 - e := ⟨_, rfl⟩
  obtain ⟨a1, ha1⟩ : ∃ q, q = and32 e f := ⟨_, rfl⟩
  obtain ⟨a2, ha2⟩ : ∃ q, q = and32 ne g := ⟨_, rfl⟩
  obtain ⟨cc, hcc⟩ : ∃ q, q = xor32 a1 a2 := ⟨_, rfl⟩
  obtain ⟨m1, hm1⟩ : ∃ q, q = and32 a b := ⟨_, rfl⟩
  obtain ⟨m2, hm2⟩ : ∃ q, q = and32 a c := ⟨_, rfl⟩
  obtain ⟨m3, hm3⟩ : ∃ q, q = and32 b c := ⟨_, rfl⟩
  obtain ⟨m4, hm4⟩ : ∃ q, q = xor32 m1 m2 := ⟨_, rfl⟩
  obtain ⟨mj, hmj⟩ : ∃ q, q = xor32 m4 m3 := ⟨_, rfl⟩
  obtain ⟨S1, hS1⟩ : ∃ q, q = rot3 e 6 11 25 := ⟨_, rfl⟩
  obtain ⟨S0, hS0⟩ : ∃ q, q = rot3 a 2 13 22 := ⟨_, rfl⟩
  have lne : ne < 4294967296 := by rw [hne]; exact Nat.lt_of_le_of_lt (Nat.sub_le _ _) (by decide)
  have la1 : a1 < 4294967296 := by rw [ha1]; exact and32_lt _ _
  have la2 : a2 < 4294967296 := by rw [ha2]; exact and32_lt _ _
  have lm1 : m1 < 4294967296 := by rw [hm1]; exact and32_lt _ _
  have lm2 : m2 < 4294967296 := by rw [hm2]; exact and32_lt _ _
  have lm3 : m3 < 4294967296 := by rw [hm3]; exact and32_lt _ _
  have lm4 : m4 < 4294967296 := by rw [hm4]; exact xor32_lt _ _
  have lcc : cc < 4294967296 := by rw [hcc]; exact xor32_lt _ _
  have lmj : mj < 4294967296 := by rw [hmj]; exact xor32_lt _ _
  have lS1 : S1 < 4294967296 := by rw [hS1]; exact xor32_lt _ _
  have lS0 : S0 < 4294967296 := by rw [hS0]; exact xor32_lt _ _
  have q0 : (4294967295 : Int) - (e : Int) = (ne : Nat) := by rw [hne]; exact sub_all e le
  have q1 := (bits_i64 e f le lf).2
  have q2 := (bits_i64 ne g lne lg).2
  have q3 := (bits_i64 a1 a2 la1 la2).1
  have q4 := (bits_i64 a b la lb).2
  have q5 := (bits_i64 a c la lc).2
  have q6 := (bits_i64 b c lb lc).2
  have q7 := (bits_i64 m1 m2 lm1 lm2).1
  have q8 := (bits_i64 m4 m3 lm4 lm3).1
  rw [← ha1] at q1
  rw [← ha2] at q2
  rw [← hcc] at q3
  rw [← hm1] at q4
  rw [← hm2] at q5
  rw [← hm3] at q6
  rw [← hm4] at q7
  rw [← hmj] at q8
  have HC : Hid (cc = ch e f g) := by
    show _ = _
    rw [hcc, ha1, ha2, hne, ← not32_eq e le]
    rfl
  have HM : Hid (mj = maj a b c) := by
    show _ = _
    rw [hmj, hm4, hm1, hm2, hm3]
    rfl
  have HS : Hid (S1 = rot3 e 6 11 25 ∧ S0 = rot3 a 2 13 22) := ⟨hS1, hS0⟩
  rw [← hS1] at K1
  rw [← hS0] at K2
  clear hcc ha1 ha2 hne hmj hm4 hm1 hm2 hm3 hS1 hS0
  obtain ⟨z1, hz1⟩ : ∃ q, q = h + S1 := ⟨_, rfl⟩
  obtain ⟨z2, hz2⟩ : ∃ q, q = z1 + cc := ⟨_, rfl⟩
  obtain ⟨z3, hz3⟩ : ∃ q, q = z2 + k := ⟨_, rfl⟩
  obtain ⟨z4, hz4⟩ : ∃ q, q = z3 + v := ⟨_, rfl⟩
  obtain ⟨y1, hy1⟩ : ∃ q, q = S0 + mj := ⟨_, rfl⟩
  obtain ⟨r1, hr1⟩ : ∃ q, q = z4 + y1 := ⟨_, rfl⟩
  obtain ⟨r2, hr2⟩ : ∃ q, q = d + z4 := ⟨_, rfl⟩
  obtain ⟨R1, hR1⟩ : ∃ q, q = r1 % 4294967296 := ⟨_, rfl⟩
  obtain ⟨R2, hR2⟩ : ∃ q, q = r2 % 4294967296 := ⟨_, rfl⟩
  have sz1 : (h : Int) + (S1 : Int) = (z1 : Nat) := by rw [hz1, Int.natCast_add]
  have sz2 : (z1 : Int) + (cc : Int) = (z2 : Nat) := by rw [hz2, Int.natCast_add]
  have sz3 : (z2 : Int) + (k : Int) = (z3 : Nat) := by rw [hz3, Int.natCast_add]
  have sz4 : (z3 : Int) + (v : Int) = (z4 : Nat) := by rw [hz4, Int.natCast_add]
  have sy1 : (S0 : Int) + (mj : Int) = (y1 : Nat) := by rw [hy1, Int.natCast_add]
  have sr1 : (z4 : Int) + (y1 : Int) = (r1 : Nat) := by rw [hr1, Int.natCast_add]
  have sr2 : (d : Int) + (z4 : Int) = (r2 : Nat) := by rw [hr2, Int.natCast_add]
  have lz1 : z1 < 8589934592 := by rw [hz1]; exact Nat.add_lt_add lh lS1
  have lz2 : z2 < 12884901888 := by rw [hz2]; exact Nat.add_lt_add lz1 lcc
  have lz3 : z3 < 17179869184 := by rw [hz3]; exact Nat.add_lt_add lz2 lk
  have lz4 : z4 < 21474836480 := by rw [hz4]; exact Nat.add_lt_add lz3 lv
  have ly1 : y1 < 8589934592 := by rw [hy1]; exact Nat.add_lt_add lS0 lmj
  have lr1 : r1 < 30064771072 := by rw [hr1]; exact Nat.add_lt_add lz4 ly1
  have lr2 : r2 < 25769803776 := by rw [hr2]; exact Nat.add_lt_add ld lz4
  obtain ⟨kz1, wz1⟩ := keep64 z1 (Nat.lt_trans lz1 (by decide))
  obtain ⟨kz2, wz2⟩ := keep64 z2 (Nat.lt_trans lz2 (by decide))
  obtain ⟨kz3, wz3⟩ := keep64 z3 (Nat.lt_trans lz3 (by decide))
  obtain ⟨kz4, wz4⟩ := keep64 z4 (Nat.lt_trans lz4 (by decide))
  obtain ⟨ky1, wy1⟩ := keep64 y1 (Nat.lt_trans ly1 (by decide))
  obtain ⟨kr1, wr1⟩ := keep64 r1 (Nat.lt_trans lr1 (by decide))
  obtain ⟨kr2, wr2⟩ := keep64 r2 (Nat.lt_trans lr2 (by decide))
  obtain ⟨t1, t1'⟩ := rem32 r1
  obtain ⟨t2, t2'⟩ := rem32 r2
  rw [← hR1] at t1 t1'
  rw [← hR2] at t2 t2'
  obtain ⟨kne, wne⟩ := keep64 ne (Nat.lt_trans lne (by decide))
  have HR : Hid (rnd ⟨a, b, c, d, e, f, g, h⟩ k v = ⟨R1, a, b, c, R2, e, f, g⟩) := by
    have q := rnd_sums h S1 cc k v S0 mj d
    show _ = _
    rw [hR1, hR2, hr1, hr2, hz4, hz3, hz2, hz1, hy1, q.1, q.2, HC.out, HM.out, HS.out.1, HS.out.2]
    rfl
  rw [HR.out]
  clear la lb lc ld le lf lg lh lne la1 la2 lm1 lm2 lm3 lm4 lcc lmj lS1 lS0 hk hv lk lv lz1 lz2 lz3 lz4 ly1 lr1 lr2 HC HM HS hR1 hR2 hz1 hz2 hz3 hz4 hy1 hr1 hr2
  go_enter Tryd.func41, Tryd.ntmps41
  go_wp2_with fail
  obtain ⟨X, hX⟩ : ∃ X, X = (w.alloc (.cells #[.int .i64 (a : Nat), .int .i64 (b : Nat), .int .i64 (c : Nat), .int .i64 (d : Nat), .int .i64 (e : Nat), .int .i64 (f : Nat), .int .i64 (g : Nat), .int .i64 (h : Nat)] 74)).alloc (.cells #[.int .i64 0, .int .i64 0, .int .i64 0, .int .i64 0, .int .i64 0, .int .i64 0, .int .i64 0, .int .i64 0] 74) := ⟨_, rfl⟩
  rw [← hX]
  have f0 : X.cell? ⟨w.heap.size, 0, none⟩ = some (.int .i64 (a : Nat)) := by rw [hX]; simp
  have f1 : X.cell? ⟨w.heap.size, 1, none⟩ = some (.int .i64 (b : Nat)) := by rw [hX]; simp
  have f2 : X.cell? ⟨w.heap.size, 2, none⟩ = some (.int .i64 (c : Nat)) := by rw [hX]; simp
  have f3 : X.cell? ⟨w.heap.size, 3, none⟩ = some (.int .i64 (d : Nat)) := by rw [hX]; simp
  have f4 : X.cell? ⟨w.heap.size, 4, none⟩ = some (.int .i64 (e : Nat)) := by rw [hX]; simp
  have f5 : X.cell? ⟨w.heap.size, 5, none⟩ = some (.int .i64 (f : Nat)) := by rw [hX]; simp
  have f6 : X.cell? ⟨w.heap.size, 6, none⟩ = some (.int .i64 (g : Nat)) := by rw [hX]; simp
  have f7 : X.cell? ⟨w.heap.size, 7, none⟩ = some (.int .i64 (h : Nat)) := by rw [hX]; simp
  have g0 : X.cell? ⟨w.heap.size + 1, 0, none⟩ = some (.int .i64 0) := by rw [hX]; simp
  have g1 : X.cell? ⟨w.heap.size + 1, 1, none⟩ = some (.int .i64 0) := by rw [hX]; simp
  have g2 : X.cell? ⟨w.heap.size + 1, 2, none⟩ = some (.int .i64 0) := by rw [hX]; simp
  have g3 : X.cell? ⟨w.heap.size + 1, 3, none⟩ = some (.int .i64 0) := by rw [hX]; simp
  have g4 : X.cell? ⟨w.heap.size + 1, 4, none⟩ = some (.int .i64 0) := by rw [hX]; simp
  have g5 : X.cell? ⟨w.heap.size + 1, 5, none⟩ = some (.int .i64 0) := by rw [hX]; simp
  have g6 : X.cell? ⟨w.heap.size + 1, 6, none⟩ = some (.int .i64 0) := by rw [hX]; simp
  have g7 : X.cell? ⟨w.heap.size + 1, 7, none⟩ = some (.int .i64 0) := by rw [hX]; simp
  have j0 : X.frozen? ⟨w.heap.size + 1, 0, none⟩ = false := by rw [hX]; simp
  have j1 : X.frozen? ⟨w.heap.size + 1, 1, none⟩ = false := by rw [hX]; simp
  have j2 : X.frozen? ⟨w.heap.size + 1, 2, none⟩ = false := by rw [hX]; simp
  have j3 : X.frozen? ⟨w.heap.size + 1, 3, none⟩ = false := by rw [hX]; simp
  have j4 : X.frozen? ⟨w.heap.size + 1, 4, none⟩ = false := by rw [hX]; simp
  have j5 : X.frozen? ⟨w.heap.size + 1, 5, none⟩ = false := by rw [hX]; simp
  have j6 : X.frozen? ⟨w.heap.size + 1, 6, none⟩ = false := by rw [hX]; simp
  have j7 : X.frozen? ⟨w.heap.size + 1, 7, none⟩ = false := by rw [hX]; simp
  have xz : w.heap.size + 1 < X.heap.size := by rw [hX]; simp
  have xy : w.heap.size < X.heap.size := by rw [hX]; simp; omega
  have HW : Hid (Below w.heap.size w X) := by rw [hX]; exact below_alloc0' (below_alloc0' (Below.refl _ _) _) _
  clear hX
  refine wp_region_H (fun w' => w' = X.drew) 13 rfl (by kernel_rfl) ?_
  refine wpAnyH_take (i := 0) (oi := ?o0t) (v := ?v0t) ?hi0t (by kernel_rfl) (by kernel_rfl) (by kernel_rfl) ?hQ0t ?hy0t rfl ?more0t
  case hi0t => rw [List.getElem?_toArray]; exact rfl
  case hQ0t => exact fun _ _ _ h => h
  case hy0t =>
    refine Or.inl ⟨by rfl, ?_⟩
    intro w' hSw
    subst hSw
    go_simp
    try with_reducible rfl
  simp only [Act.put, List.setIfInBounds_toArray, List.set_cons_zero, List.set_cons_succ]
  refine wpAnyH_take (i := 1) (oi := ?o1t) (v := ?v1t) ?hi1t (by kernel_rfl) (by kernel_rfl) (by kernel_rfl) ?hQ1t ?hy1t rfl ?more1t
  case hi1t => rw [List.getElem?_toArray]; exact rfl
  case hQ1t => exact fun _ _ _ h => h
  case hy1t =>
    refine Or.inl ⟨by rfl, ?_⟩
    intro w' hSw
    subst hSw
    go_simp
    try with_reducible rfl
  simp only [Act.put, List.setIfInBounds_toArray, List.set_cons_zero, List.set_cons_succ]
  refine wpAnyH_take (i := 2) (oi := ?o2t) (v := ?v2t) ?hi2t (by kernel_rfl) (by kernel_rfl) (by kernel_rfl) ?hQ2t ?hy2t rfl ?more2t
  case hi2t => rw [List.getElem?_toArray]; exact rfl
  case hQ2t => exact fun _ _ _ h => h
  case hy2t =>
    refine Or.inl ⟨by rfl, ?_⟩
    intro w' hSw
    subst hSw
    go_simp
    try with_reducible rfl
  simp only [Act.put, List.setIfInBounds_toArray, List.set_cons_zero, List.set_cons_succ]
  refine wpAnyH_take (i := 3) (oi := ?o3t) (v := ?v3t) ?hi3t (by kernel_rfl) (by kernel_rfl) (by kernel_rfl) ?hQ3t ?hy3t rfl ?more3t
  case hi3t => rw [List.getElem?_toArray]; exact rfl
  case hQ3t => exact fun _ _ _ h => h
  case hy3t =>
    refine Or.inl ⟨by rfl, ?_⟩
    intro w' hSw
    subst hSw
    go_simp
    try with_reducible rfl
  simp only [Act.put, List.setIfInBounds_toArray, List.set_cons_zero, List.set_cons_succ]
  refine wpAnyH_take (i := 6) (oi := ?o6t) (v := ?v6t) ?hi6t (by kernel_rfl) (by kernel_rfl) (by kernel_rfl) ?hQ6t ?hy6t rfl ?more6t
  case hi6t => rw [List.getElem?_toArray]; exact rfl
  case hQ6t => exact fun _ _ _ h => h
  case hy6t =>
    refine Or.inl ⟨by rfl, ?_⟩
    intro w' hSw
    subst hSw
    go_simp
    try with_reducible rfl
  simp only [Act.put, List.setIfInBounds_toArray, List.set_cons_zero, List.set_cons_succ]
  refine wpAnyH_take (i := 8) (oi := ?o8t) (v := ?v8t) ?hi8t (by kernel_rfl) (by kernel_rfl) (by kernel_rfl) ?hQ8t ?hy8t rfl ?more8t
  case hi8t => rw [List.getElem?_toArray]; exact rfl
  case hQ8t => exact fun _ _ _ h => h
  case hy8t =>
    refine Or.inl ⟨by rfl, ?_⟩
    intro w' hSw
    subst hSw
    go_simp
    try with_reducible rfl
  simp only [Act.put, List.setIfInBounds_toArray, List.set_cons_zero, List.set_cons_succ]
  refine wpAnyH_take (i := 10) (oi := ?o10t) (v := ?v10t) ?hi10t (by kernel_rfl) (by kernel_rfl) (by kernel_rfl) ?hQ10t ?hy10t rfl ?more10t
  case hi10t => rw [List.getElem?_toArray]; exact rfl
  case hQ10t => exact fun _ _ _ h => h
  case hy10t =>
    refine Or.inl ⟨by rfl, ?_⟩
    intro w' hSw
    subst hSw
    go_simp
    try with_reducible rfl
  simp only [Act.put, List.setIfInBounds_toArray, List.set_cons_zero, List.set_cons_succ]
  refine wpAnyH_one (i := 4) (o := ?o4t) (by kernel_rfl) ?hi4t ?hw4t ?st4t
  case hi4t => rw [List.getElem?_toArray]; exact rfl
  case hw4t => exact rfl
  intro K hK
  have HK4t : Hid _ := hK
  clear hK
  go_simp
  refine (K1.out _).mono ?_
  rintro ed w' ⟨rfl, rfl⟩
  go_wp2_with fail
  refine HK4t.out _ _ ⟨rfl, ?_⟩
  clear HK4t K
  try simp only [Act.put, List.setIfInBounds_toArray, List.set_cons_zero, List.set_cons_succ]
  refine wpAnyH_take (i := 5) (oi := ?o5t) (v := ?v5t) ?hi5t (by kernel_rfl) (by kernel_rfl) (by kernel_rfl) ?hQ5t ?hy5t rfl ?more5t
  case hi5t => rw [List.getElem?_toArray]; exact rfl
  case hQ5t => exact fun _ _ _ h => h
  case hy5t =>
    refine Or.inl ⟨by rfl, ?_⟩
    intro w' hSw
    subst hSw
    go_simp
    try with_reducible rfl
  simp only [Act.put, List.setIfInBounds_toArray, List.set_cons_zero, List.set_cons_succ]
  refine wpAnyH_take (i := 7) (oi := ?o7t) (v := ?v7t) ?hi7t (by kernel_rfl) (by kernel_rfl) (by kernel_rfl) ?hQ7t ?hy7t rfl ?more7t
  case hi7t => rw [List.getElem?_toArray]; exact rfl
  case hQ7t => exact fun _ _ _ h => h
  case hy7t =>
    refine Or.inl ⟨by rfl, ?_⟩
    intro w' hSw
    subst hSw
    go_simp
    try with_reducible rfl
  simp only [Act.put, List.setIfInBounds_toArray, List.set_cons_zero, List.set_cons_succ]
  refine wpAnyH_take (i := 9) (oi := ?o9t) (v := ?v9t) ?hi9t (by kernel_rfl) (by kernel_rfl) (by kernel_rfl) ?hQ9t ?hy9t rfl ?more9t
  case hi9t => rw [List.getElem?_toArray]; exact rfl
  case hQ9t => exact fun _ _ _ h => h
  case hy9t =>
    refine Or.inl ⟨by rfl, ?_⟩
    intro w' hSw
    subst hSw
    go_simp
    try with_reducible rfl
  simp only [Act.put, List.setIfInBounds_toArray, List.set_cons_zero, List.set_cons_succ]
  refine wpAnyH_take (i := 11) (oi := ?o11t) (v := ?v11t) ?hi11t (by kernel_rfl) (by kernel_rfl) (by kernel_rfl) ?hQ11t ?hy11t rfl ?more11t
  case hi11t => rw [List.getElem?_toArray]; exact rfl
  case hQ11t => exact fun _ _ _ h => h
  case hy11t =>
    refine Or.inl ⟨by rfl, ?_⟩
    intro w' hSw
    subst hSw
    go_simp
    try with_reducible rfl
  simp only [Act.put, List.setIfInBounds_toArray, List.set_cons_zero, List.set_cons_succ]
  refine wpAnyH_take (i := 12) (oi := ?o12t) (v := ?v12t) ?hi12t (by kernel_rfl) (by kernel_rfl) (by kernel_rfl) ?hQ12t ?hy12t rfl ?more12t
  case hi12t => rw [List.getElem?_toArray]; exact rfl
  case hQ12t => exact fun _ _ _ h => h
  case hy12t =>
    refine Or.inl ⟨by rfl, ?_⟩
    intro w' hSw
    subst hSw
    go_simp
    try with_reducible rfl
  simp only [Act.put, List.setIfInBounds_toArray, List.set_cons_zero, List.set_cons_succ]
  refine wpAnyH_done (by kernel_rfl) ?_ _
  go_wp2_with fail
  refine (K2.out _).mono ?_
  rintro ed w' ⟨rfl, rfl⟩
  go_wp2_with fail
  refine bodyPost_ret (v := agg8 ⟨R1, a, b, c, R2, e, f, g⟩) ?_ rfl ⟨rfl, ?_⟩
  · simp [results, Tryd.results41, go_sem, g0, g1, g2, g3, g4, g5, g6, g7, agg8]
  · first | with_reducible exact (Below.setCell (Below.setCell (Below.setCell (Below.setCell (Below.setCell (Below.setCell (Below.setCell (Below.setCell HW.out (p := ⟨w.heap.size + 1, 0, none⟩) (Nat.le_succ _) _) (p := ⟨w.heap.size + 1, 1, none⟩) (Nat.le_succ _) _) (p := ⟨w.heap.size + 1, 2, none⟩) (Nat.le_succ _) _) (p := ⟨w.heap.size + 1, 3, none⟩) (Nat.le_succ _) _) (p := ⟨w.heap.size + 1, 4, none⟩) (Nat.le_succ _) _) (p := ⟨w.heap.size + 1, 5, none⟩) (Nat.le_succ _) _) (p := ⟨w.heap.size + 1, 6, none⟩) (Nat.le_succ _) _) (p := ⟨w.heap.size + 1, 7, none⟩) (Nat.le_succ _) _) | with_reducible exact Below.drew (Below.setCell (Below.setCell (Below.setCell (Below.setCell (Below.setCell (Below.setCell (Below.setCell (Below.setCell HW.out (p := ⟨w.heap.size + 1, 0, none⟩) (Nat.le_succ _) _) (p := ⟨w.heap.size + 1, 1, none⟩) (Nat.le_succ _) _) (p := ⟨w.heap.size + 1, 2, none⟩) (Nat.le_succ _) _) (p := ⟨w.heap.size + 1, 3, none⟩) (Nat.le_succ _) _) (p := ⟨w.heap.size + 1, 4, none⟩) (Nat.le_succ _) _) (p := ⟨w.heap.size + 1, 5, none⟩) (Nat.le_succ _) _) (p := ⟨w.heap.size + 1, 6, none⟩) (Nat.le_succ _) _) (p := ⟨w.heap.size + 1, 7, none⟩) (Nat.le_succ _) _)
end Go.Proofs.YtdnahobafhelhaaDoor
