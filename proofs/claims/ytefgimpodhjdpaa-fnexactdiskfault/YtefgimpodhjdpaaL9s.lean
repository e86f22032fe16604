/- What the sizes of a disk tell. No condition beside what each theorem states. -/
import Derived.Test.YtefgimpodhjdpaaL1
namespace Go.Proofs.Ytefgimpodhjdpaa
open Go.RowKit

theorem sumLens_mem9 : ∀ (rs : List (List Int)) (zs : List Int), zs ∈ rs → zs.length ≤ sumLens rs
  | z :: r, zs, h => by
    simp only [sumLens, List.map_cons, List.sum_cons]
    rcases List.mem_cons.1 h with rfl | h
    · omega
    · have := sumLens_mem9 r zs h
      simp only [sumLens] at this
      omega
theorem szR_neg {rs : List (List Int)} {L : Int} (h : szR rs L < 0) : szR rs L = -1 := by
  unfold szR at h ⊢
  split at h <;> rename_i h' <;> simp only [h', if_true, if_false] <;> omega
theorem szR_small {rs : List (List Int)} {L : Int} (h : 0 ≤ szR rs L) (hL : L ≤ 1048576) : rs.length ≤ 1048576 ∧ ∀ zs ∈ rs, zs.length ≤ 1048576 := by
  unfold szR at h
  split at h
  · refine ⟨by omega, fun zs hz => ?_⟩
    have := sumLens_mem9 rs zs hz
    omega
  · omega
end Go.Proofs.Ytefgimpodhjdpaa
