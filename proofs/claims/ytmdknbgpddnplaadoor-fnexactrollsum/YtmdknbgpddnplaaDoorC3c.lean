/- Contracts of the small functions of chapter 3 and of their model's: points and proofs as one complex number, what fits, nonces and challenges. Conditions: as each theorem states. -/
import Derived.Test.YtmdknbgpddnplaaDoorG1
import Derived.Test.YtmdknbgpddnplaaDoorC3b
import Derived.Test.YtmdknbgpddnplaaDoorMath3
namespace Go.Proofs.YtmdknbgpddnplaaDoor
open Go.RowKit
set_option maxRecDepth 100000

/-! Whole numbers below 2879 as floats, and back. -/
def floatBackB (n : Nat) : Bool := floatToIntVal .f64 (floatOfInt .f64 (n : Int)) .i64 == some (n : Int)
theorem float_all : M.allB floatBackB 2879 = true := by decide +kernel
theorem float_back {n : Int} (h0 : 0 ≤ n) (h1 : n ≤ 2878) : floatToIntVal .f64 (floatOfInt .f64 n) .i64 = some n := by
  obtain ⟨n, rfl⟩ := Int.eq_ofNat_of_zero_le h0
  have h := M.allB_out float_all (k := n) (by omega)
  simp only [floatBackB, beq_iff_eq] at h
  exact h
/-- The two numbers as one complex one. -/
def pairV (p q : Int) : Value := .complex .f64 (floatOfInt .f64 p) (floatOfInt .f64 q)

/-- An error of what does not fit was answered. -/
def Misfit (w : World) (r : Ending) (w' : World) : Prop := ∃ s, r = .returned (misV 3 s) ∧ Below w.heap.size w w'
theorem pairOf_yes (p q : Int) (w : World) (h : M.sigB p q = true) :
    Calls Tryd.prog 25 #[I2 p q] w fun r w' => r = .returned (.tuple #[pairV p q, .nilIface]) ∧ Below w.heap.size w w' := by
  obtain ⟨p0, p1, q0, q1⟩ := M.sigB_bd h
  have hp : pubB p = true := by simp only [M.sigB, Bool.and_eq_true] at h; exact h.1
  unfold pairV
  clear h
  go_enter Tryd.func25, Tryd.ntmps25
  go_wp2_with fail
  refine (implIsPublic_any _ _).mono ?_
  rintro r w1 ⟨rfl, hb_w1⟩
  obtain ⟨hc_w1, hf_w1⟩ := bcell hb_w1
  have hz_w1 := hb_w1.size
  (try simp at hz_w1)
  go_wp2_with fail
  go_ret2
  exact ⟨rfl, btr (bal (Below.refl _ _) _) hb_w1⟩
def PairNo (w : World) (r : Ending) (w' : World) : Prop := ∃ s v, r = .returned (.tuple #[v, misV 3 s]) ∧ Below w.heap.size w w'
theorem pairOf_no (p q : Int) (w : World) (h : M.sigB p q = false) :
    Calls Tryd.prog 25 #[I2 p q] w (PairNo w) := by
  cases hp : pubB p
  · clear h
    go_enter Tryd.func25, Tryd.ntmps25
    go_wp2_with fail
    refine (implIsPublic_any _ _).mono ?_
    rintro r w1 ⟨rfl, hb_w1⟩
    obtain ⟨hc_w1, hf_w1⟩ := bcell hb_w1
    have hz_w1 := hb_w1.size
    (try simp at hz_w1)
    go_wp2_with fail
    go_ret2
    exact ⟨_, _, rfl, btr (bal (Below.refl _ _) _) hb_w1⟩
  · have hq : ¬ (0 ≤ q ∧ q ≤ 1438) := by
      intro hq
      simp only [M.sigB, hp, inB, hq, and_self, decide_true, Bool.and_self] at h
      cases h
    clear h
    by_cases q0 : q < 0
    · go_enter Tryd.func25, Tryd.ntmps25
      go_wp2_with fail
      refine (implIsPublic_any _ _).mono ?_
      rintro r w1 ⟨rfl, hb_w1⟩
      obtain ⟨hc_w1, hf_w1⟩ := bcell hb_w1
      have hz_w1 := hb_w1.size
      (try simp at hz_w1)
      go_wp2_with fail
      go_ret2
      exact ⟨_, _, rfl, btr (bal (Below.refl _ _) _) hb_w1⟩
    · have q1 : 1438 < q := by omega
      clear hq
      go_enter Tryd.func25, Tryd.ntmps25
      go_wp2_with fail
      refine (implIsPublic_any _ _).mono ?_
      rintro r w1 ⟨rfl, hb_w1⟩
      obtain ⟨hc_w1, hf_w1⟩ := bcell hb_w1
      have hz_w1 := hb_w1.size
      (try simp at hz_w1)
      go_wp2_with fail
      go_ret2
      exact ⟨_, _, rfl, btr (bal (Below.refl _ _) _) hb_w1⟩

theorem l3Fault_at (g o : Nat) (p q : Int) (w : World) (c0 : w.cell? ⟨g, o, none⟩ = some (.int .i64 p)) (c1 : w.cell? ⟨g, o + 1, none⟩ = some (.int .i64 q)) :
    Calls Tryd.prog 23 #[.pointer (some ⟨g, o, none⟩)] w fun r w' => r = .returned (.int .i64 (M.sigF p q)) ∧ w = w' := by
  cases hp : pubB p
  · have E : M.sigF p q = 3 := by simp [M.sigF, M.sigB, hp]
    rw [E]; clear E
    go_enter Tryd.func23, Tryd.ntmps23
    go_wp2_with fail
    refine (l1Public_any _ _).mono ?_
    rintro r w' ⟨rfl, rfl⟩
    go_wp2_with fail
    go_ret
    simp
  cases hq : inB q 0 1438
  · have E : M.sigF p q = 3 := by simp [M.sigF, M.sigB, hq]
    rw [E]; clear E
    go_enter Tryd.func23, Tryd.ntmps23
    go_wp2_with fail
    refine (l1Public_any _ _).mono ?_
    rintro r w' ⟨rfl, rfl⟩
    go_wp2_with fail
    refine (l1In_any _ _ _ _).mono ?_
    rintro r w' ⟨rfl, rfl⟩
    go_wp2_with fail
    go_ret
    simp
  · have E : M.sigF p q = 0 := by simp [M.sigF, M.sigB, hp, hq]
    rw [E]; clear E
    go_enter Tryd.func23, Tryd.ntmps23
    go_wp2_with fail
    refine (l1Public_any _ _).mono ?_
    rintro r w' ⟨rfl, rfl⟩
    go_wp2_with fail
    refine (l1In_any _ _ _ _).mono ?_
    rintro r w' ⟨rfl, rfl⟩
    go_wp2_with fail
    go_ret
    simp
theorem l3Fault_any (g : Nat) (p q : Int) (w : World) (c0 : w.cell? ⟨g, 0, none⟩ = some (.int .i64 p)) (c1 : w.cell? ⟨g, 1, none⟩ = some (.int .i64 q)) :
    Calls Tryd.prog 23 #[.pointer (some ⟨g, 0, none⟩)] w fun r w' => r = .returned (.int .i64 (M.sigF p q)) ∧ w = w' := l3Fault_at g 0 p q w c0 c1
theorem toSigned_any (p q : Int) (w : World) :
    Calls Tryd.prog 15 #[I2 p q] w fun r w' => r = .returned (I2 p q) ∧ Below w.heap.size w w' := by
  go_enter Tryd.func15, Tryd.ntmps15
  go_wp2_with fail
  exact bodyPost_ret (v := I2 p q) (by simp [results, Tryd.results15, go_sem]) rfl ⟨rfl, bal (bal (bal (Below.refl _ _) _) _) _⟩
end Go.Proofs.YtmdknbgpddnplaaDoor
