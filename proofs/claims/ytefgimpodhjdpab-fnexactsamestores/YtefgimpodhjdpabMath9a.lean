/- Plain facts on disks: what is wrong with one. No condition. -/
import Derived.Test.YtefgimpodhjdpabMath7
namespace Go.Proofs.Ytefgimpodhjdpab
open Go.RowKit
set_option linter.unusedVariables false

/-- A disk: records, how many are safe. -/
structure DiskD where
  rs : List (List Int)
  s : Int
/-- A store: pins, a disk. -/
structure StoreD where
  ps : List PinD
  d : DiskD
def disk0 : DiskD := ⟨[], 0⟩
def store0 : StoreD := ⟨[], disk0⟩
def longR (zs : List Int) : Bool := decide (40 < zs.length)
/-- What is wrong with a disk. -/
def diskF (d : DiskD) : Int := if 12 < d.rs.length then 2 else if d.rs.any longR then 2 else if 0 ≤ d.s ∧ d.s ≤ d.rs.length then 0 else 3
theorem diskF_many {d : DiskD} (h : 12 < d.rs.length) : diskF d = 2 := by unfold diskF; rw [if_pos h]
theorem diskF_long {d : DiskD} (h : ¬ 12 < d.rs.length) (h1 : d.rs.any longR = true) : diskF d = 2 := by unfold diskF; rw [if_neg h, if_pos h1]
theorem diskF_safe {d : DiskD} (h : ¬ 12 < d.rs.length) (h1 : d.rs.any longR = false) (h2 : ¬ (0 ≤ d.s ∧ d.s ≤ d.rs.length)) : diskF d = 3 := by unfold diskF; rw [if_neg h, if_neg (by rw [h1]; simp), if_neg h2]
theorem diskF_yes {d : DiskD} (h : ¬ 12 < d.rs.length) (h1 : d.rs.any longR = false) (h2 : 0 ≤ d.s ∧ d.s ≤ d.rs.length) : diskF d = 0 := by unfold diskF; rw [if_neg h, if_neg (by rw [h1]; simp), if_pos h2]
theorem diskF_zero {d : DiskD} (h : diskF d = 0) : d.rs.length ≤ 12 ∧ d.rs.any longR = false ∧ 0 ≤ d.s ∧ d.s ≤ d.rs.length := by
  by_cases h1 : 12 < d.rs.length
  · rw [diskF_many h1] at h; cases h
  · cases h2 : d.rs.any longR
    · by_cases h3 : 0 ≤ d.s ∧ d.s ≤ d.rs.length
      · exact ⟨by omega, rfl, h3.1, h3.2⟩
      · rw [diskF_safe h1 h2 h3] at h; cases h
    · rw [diskF_long h1 h2] at h; cases h
theorem diskF_pos (d : DiskD) : diskF d = 0 ∨ diskF d = 2 ∨ diskF d = 3 := by
  unfold diskF
  repeat' split
  all_goals simp
theorem long_of {rs : List (List Int)} (h : rs.any longR = false) : ∀ r ∈ rs, r.length ≤ 40 := by
  intro r hr
  have := List.any_eq_false.1 h r hr
  simp only [longR, decide_eq_true_eq] at this
  omega
end Go.Proofs.Ytefgimpodhjdpab
