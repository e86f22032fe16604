/- Contracts of the small functions of chapter 3 and of their model's: points and proofs as one complex number, what fits, nonces and challenges. Conditions: as each theorem states. -/
import Derived.Test.YtkondaojikfbjaaC3b
import Derived.Test.YtkondaojikfbjaaMath3
namespace Go.Proofs.Ytkondaojikfbjaa
open Go.RowKit
set_option maxRecDepth 100000

/-! Whole numbers below 2879 as floats, and back. -/
def floatBackB (n : Nat) : Bool := floatToIntVal .f64 (floatOfInt .f64 (n : Int)) .i64 == some (n : Int)
theorem float_all : M.allB floatBackB 2879 = true := by decide +kernel
theorem float_back {n : Int} (h0 : 0 ≤ n) (h1 : n ≤ 2878) : floatToIntVal .f64 (floatOfInt .f64 n) .i64 = some n := by
  obtain ⟨n, rfl⟩ := Int.eq_ofNat_of_zero_le h0
  have h := M.allB_out float_all (k := n) (by omega)
  simp only [floatBackB, beq_iff_eq] at h
  exact h
/-- The two numbers as one complex one. -/
def pairV (p q : Int) : Value := .complex .f64 (floatOfInt .f64 p) (floatOfInt .f64 q)

theorem point_any (p q : Int) (w : World) (h0 : 0 ≤ p) (h1 : p ≤ 2878) :
    Calls Try.prog 12 #[pairV p q] w fun r w' => r = .returned (.int .i64 p) ∧ w = w' := by
  have hf := float_back h0 h1
  have hc := fun (w : World) => run_convert_float_int (P := Try.prog) w 49 2 .f64 .i64 (floatOfInt .f64 p) p (by kernel_rfl) Try.underlying2 hf
  unfold pairV
  go_enter Try.func12, Try.ntmps12
  go_wp2_with fail
  go_ret
  simp
theorem proof_any (p q : Int) (w : World) (h0 : 0 ≤ q) (h1 : q ≤ 2878) :
    Calls Try.prog 13 #[pairV p q] w fun r w' => r = .returned (.int .i64 q) ∧ w = w' := by
  have hf := float_back h0 h1
  have hc := fun (w : World) => run_convert_float_int (P := Try.prog) w 49 2 .f64 .i64 (floatOfInt .f64 q) q (by kernel_rfl) Try.underlying2 hf
  unfold pairV
  go_enter Try.func13, Try.ntmps13
  go_wp2_with fail
  go_ret
  simp

/-- An error of what does not fit was answered. -/
def Misfit (w : World) (r : Ending) (w' : World) : Prop := ∃ s, r = .returned (misV 3 s) ∧ Below w.heap.size w w'
theorem pairOf_yes (p q : Int) (w : World) (h : M.sigB p q = true) :
    Calls Try.prog 10 #[I2 p q] w fun r w' => r = .returned (.tuple #[pairV p q, .nilIface]) ∧ Below w.heap.size w w' := by
  obtain ⟨p0, p1, q0, q1⟩ := M.sigB_bd h
  have hp : pubB p = true := by simp only [M.sigB, Bool.and_eq_true] at h; exact h.1
  unfold pairV
  clear h
  go_enter Try.func10, Try.ntmps10
  go_wp2_with fail
  refine (implIsPublic_any _ _).mono ?_
  rintro r w1 ⟨rfl, hb_w1⟩
  obtain ⟨hc_w1, hf_w1⟩ := bcell hb_w1
  have hz_w1 := hb_w1.size
  (try simp at hz_w1)
  go_wp2_with fail
  go_ret2
  exact ⟨rfl, btr (bal (Below.refl _ _) _) hb_w1⟩
def PairNo (w : World) (r : Ending) (w' : World) : Prop := ∃ s v, r = .returned (.tuple #[v, misV 3 s]) ∧ Below w.heap.size w w'
theorem pairOf_no (p q : Int) (w : World) (h : M.sigB p q = false) :
    Calls Try.prog 10 #[I2 p q] w (PairNo w) := by
  cases hp : pubB p
  · clear h
    go_enter Try.func10, Try.ntmps10
    go_wp2_with fail
    refine (implIsPublic_any _ _).mono ?_
    rintro r w1 ⟨rfl, hb_w1⟩
    obtain ⟨hc_w1, hf_w1⟩ := bcell hb_w1
    have hz_w1 := hb_w1.size
    (try simp at hz_w1)
    go_wp2_with fail
    go_ret2
    exact ⟨_, _, rfl, btr (bal (Below.refl _ _) _) hb_w1⟩
  · have hq : ¬ (0 ≤ q ∧ q ≤ 1438) := by
      intro hq
      simp only [M.sigB, hp, inB, hq, and_self, decide_true, Bool.and_self] at h
      cases h
    clear h
    by_cases q0 : q < 0
    · go_enter Try.func10, Try.ntmps10
      go_wp2_with fail
      refine (implIsPublic_any _ _).mono ?_
      rintro r w1 ⟨rfl, hb_w1⟩
      obtain ⟨hc_w1, hf_w1⟩ := bcell hb_w1
      have hz_w1 := hb_w1.size
      (try simp at hz_w1)
      go_wp2_with fail
      go_ret2
      exact ⟨_, _, rfl, btr (bal (Below.refl _ _) _) hb_w1⟩
    · have q1 : 1438 < q := by omega
      clear hq
      go_enter Try.func10, Try.ntmps10
      go_wp2_with fail
      refine (implIsPublic_any _ _).mono ?_
      rintro r w1 ⟨rfl, hb_w1⟩
      obtain ⟨hc_w1, hf_w1⟩ := bcell hb_w1
      have hz_w1 := hb_w1.size
      (try simp at hz_w1)
      go_wp2_with fail
      go_ret2
      exact ⟨_, _, rfl, btr (bal (Below.refl _ _) _) hb_w1⟩

theorem row_two {w : World} (x y : Int) (t : TypeId) (hx : M.sumB x = true) (hy : M.sumB y = true) : Row .i64 (w.alloc (.cells #[.int .i64 x, .int .i64 y] t)) (w.heap.size + 1) (some ⟨w.heap.size, 0, none⟩) 2 2 [x, y] :=
  row_at w.heap.size 2 [x, y] t (MapKept.heap_alloc w _).1 rfl (by simp only [maxLen]; omega) (fun u hu => by
    simp at hu
    rcases hu with rfl | rfl
    · exact sum_wf hx
    · exact sum_wf hy)

theorem l3Fault_any (g : Nat) (p q : Int) (w : World) (c0 : w.cell? ⟨g, 0, none⟩ = some (.int .i64 p)) (c1 : w.cell? ⟨g, 1, none⟩ = some (.int .i64 q)) :
    Calls Try.prog 16 #[.pointer (some ⟨g, 0, none⟩)] w fun r w' => r = .returned (.int .i64 (M.sigF p q)) ∧ w = w' := by
  cases hp : pubB p
  · have E : M.sigF p q = 3 := by simp [M.sigF, M.sigB, hp]
    rw [E]; clear E
    go_enter Try.func16, Try.ntmps16
    go_wp2_with fail
    refine (l1Public_any _ _).mono ?_
    rintro r w' ⟨rfl, rfl⟩
    go_wp2_with fail
    go_ret
    simp
  cases hq : inB q 0 1438
  · have E : M.sigF p q = 3 := by simp [M.sigF, M.sigB, hq]
    rw [E]; clear E
    go_enter Try.func16, Try.ntmps16
    go_wp2_with fail
    refine (l1Public_any _ _).mono ?_
    rintro r w' ⟨rfl, rfl⟩
    go_wp2_with fail
    refine (l1In_any _ _ _ _).mono ?_
    rintro r w' ⟨rfl, rfl⟩
    go_wp2_with fail
    go_ret
    simp
  · have E : M.sigF p q = 0 := by simp [M.sigF, M.sigB, hp, hq]
    rw [E]; clear E
    go_enter Try.func16, Try.ntmps16
    go_wp2_with fail
    refine (l1Public_any _ _).mono ?_
    rintro r w' ⟨rfl, rfl⟩
    go_wp2_with fail
    refine (l1In_any _ _ _ _).mono ?_
    rintro r w' ⟨rfl, rfl⟩
    go_wp2_with fail
    go_ret
    simp
end Go.Proofs.Ytkondaojikfbjaa
