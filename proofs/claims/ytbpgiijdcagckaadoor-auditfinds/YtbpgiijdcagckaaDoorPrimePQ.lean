/- The numbers P and Q of the two fields are prime: by certificates, reckoned by the kernel. -/
import Derived.Test.YtbpgiijdcagckaaDoorPrimeN
namespace Go.Proofs.YtbpgiijdcagckaaDoor

def PP : Nat := 115792089237316195423570985008687907853269984665640564039457584007908834671663
def QQ : Nat := 115792089237316195423570985008687907852837564279074904382605163141518161494337
theorem prime_107590001 : PrimeN 107590001 := prime_small _ 10372 (by decide) (by kernel_rfl) (by decide)
theorem prime_7240687 : PrimeN 7240687 := prime_small _ 2690 (by decide) (by kernel_rfl) (by decide)
theorem prime_96557 : PrimeN 96557 := prime_small _ 310 (by decide) (by kernel_rfl) (by decide)
theorem prime_545358713 : PrimeN 545358713 := prime_small _ 23352 (by decide) (by kernel_rfl) (by decide)
theorem prime_305873 : PrimeN 305873 := prime_small _ 553 (by decide) (by kernel_rfl) (by decide)
theorem prime_293 : PrimeN 293 := prime_small _ 17 (by decide) (by kernel_rfl) (by decide)
theorem prime_44706919 : PrimeN 44706919 := prime_small _ 6686 (by decide) (by kernel_rfl) (by decide)
theorem prime_120233 : PrimeN 120233 := prime_small _ 346 (by decide) (by kernel_rfl) (by decide)
theorem prime_q1_parts : ∀ q ∈ [107590001, 7240687, 96557], PrimeN q := fun q hq => by
  simp only [List.mem_cons, List.not_mem_nil, or_false] at hq
  rcases hq with rfl | rfl | rfl
  · exact prime_107590001
  · exact prime_7240687
  · exact prime_96557
theorem prime_q1 : PrimeN 255515944373312847190720520512484175977 :=
  pock 128 _ 2 [107590001, 7240687, 96557] (by decide) (by decide) prime_q1_parts (by kernel_rfl) (by kernel_rfl) (by kernel_rfl) (by decide)
theorem prime_r_parts : ∀ q ∈ [255515944373312847190720520512484175977], PrimeN q := fun q hq => by
  simp only [List.mem_cons, List.not_mem_nil, or_false] at hq
  rw [hq]
  exact prime_q1
theorem prime_r : PrimeN 205115282021455665897114700593932402728804164701536103180137503955397371 :=
  pock 237 _ 2 [255515944373312847190720520512484175977] (by decide) (by decide) prime_r_parts (by kernel_rfl) (by kernel_rfl) (by kernel_rfl) (by decide)
theorem prime_P_parts : ∀ q ∈ [205115282021455665897114700593932402728804164701536103180137503955397371], PrimeN q := fun q hq => by
  simp only [List.mem_cons, List.not_mem_nil, or_false] at hq
  rw [hq]
  exact prime_r
theorem prime_P : PrimeN PP :=
  pock 256 _ 2 [205115282021455665897114700593932402728804164701536103180137503955397371] (by decide) (by decide) prime_P_parts (by kernel_rfl) (by kernel_rfl) (by kernel_rfl) (by decide)
theorem prime_u_parts : ∀ q ∈ [545358713, 305873, 293], PrimeN q := fun q hq => by
  simp only [List.mem_cons, List.not_mem_nil, or_false] at hq
  rcases hq with rfl | rfl | rfl
  · exact prime_545358713
  · exact prime_305873
  · exact prime_293
theorem prime_u : PrimeN 29047611873442575647497758179 :=
  pock 95 _ 2 [545358713, 305873, 293] (by decide) (by decide) prime_u_parts (by kernel_rfl) (by kernel_rfl) (by kernel_rfl) (by decide)
theorem prime_s_parts : ∀ q ∈ [29047611873442575647497758179], PrimeN q := fun q hq => by
  simp only [List.mem_cons, List.not_mem_nil, or_false] at hq
  rw [hq]
  exact prime_u
theorem prime_s : PrimeN 341948486974166000522343609283189 :=
  pock 109 _ 2 [29047611873442575647497758179] (by decide) (by decide) prime_s_parts (by kernel_rfl) (by kernel_rfl) (by kernel_rfl) (by decide)
theorem prime_t_parts : ∀ q ∈ [44706919, 120233], PrimeN q := fun q hq => by
  simp only [List.mem_cons, List.not_mem_nil, or_false] at hq
  rcases hq with rfl | rfl
  · exact prime_44706919
  · exact prime_120233
theorem prime_t : PrimeN 174723607534414371449 :=
  pock 68 _ 2 [44706919, 120233] (by decide) (by decide) prime_t_parts (by kernel_rfl) (by kernel_rfl) (by kernel_rfl) (by decide)
theorem prime_Q_parts : ∀ q ∈ [341948486974166000522343609283189, 174723607534414371449], PrimeN q := fun q hq => by
  simp only [List.mem_cons, List.not_mem_nil, or_false] at hq
  rcases hq with rfl | rfl
  · exact prime_s
  · exact prime_t
theorem prime_Q : PrimeN QQ :=
  pock 256 _ 2 [341948486974166000522343609283189, 174723607534414371449] (by decide) (by decide) prime_Q_parts (by kernel_rfl) (by kernel_rfl) (by kernel_rfl) (by decide)
end Go.Proofs.YtbpgiijdcagckaaDoor
