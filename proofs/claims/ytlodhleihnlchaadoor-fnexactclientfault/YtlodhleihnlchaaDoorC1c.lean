/- Contracts of the public numbers, keys, shared numbers and inverses of chapter 1, and of their model's. Conditions: as each theorem states. -/
import Derived.Test.YtlodhleihnlchaaDoorC1b
namespace Go.Proofs.YtlodhleihnlchaaDoor
open Go.RowKit

def pubB (v : Int) : Bool := inB v 2 2878 && (M.pw v 1439 2879 == 1)
def keyR (s : Int) : Int × Int × Int := if inB s 1 1438 then (0, s, M.pw 4 s.toNat 2879) else (3, 0, 0)
def sharedR (s p : Int) : Int × Int := if inB s 1 1438 && pubB p then (0, M.pw p s.toNat 2879) else (3, 0)
def invR (v : Int) : Int × Int := if inB v 1 2878 then (0, M.pw v 2877 2879) else (3, 0)
abbrev I3 (c u v : Int) : Value := .agg #[.int .i64 c, .int .i64 u, .int .i64 v]

theorem l1Public_any (v : Int) (w : World) :
    Calls Tryd.prog 32 #[.int .i64 v] w fun r w' => r = .returned (.bool (pubB v)) ∧ w = w' := by
  cases hV : inB v 2 2878
  · have E : pubB v = false := by simp [pubB, hV]
    rw [E]; clear E
    go_enter Tryd.func32, Tryd.ntmps32
    go_wp2_with fail
    refine (l1In_any _ _ _ _).mono ?_
    rintro r w' ⟨rfl, rfl⟩
    go_wp2_with fail
    go_ret
    simp
  have hV' := hV
  simp only [inB, decide_eq_true_eq] at hV'
  obtain ⟨v0, v1⟩ := hV'
  cases hP : (M.pw v 1439 2879 == 1)
  · have E : pubB v = false := by simp only [pubB, hP, Bool.and_false]
    rw [E]; clear E
    go_enter Tryd.func32, Tryd.ntmps32
    go_wp2_with fail
    refine (l1In_any _ _ _ _).mono ?_
    rintro r w' ⟨rfl, rfl⟩
    go_wp2_with fail
    refine (l1Raise_int _ _ _ (by omega) (by omega) (by omega) (by omega)).mono ?_
    rintro r w' ⟨rfl, rfl⟩
    go_wp2_with fail
    go_ret
    simp
  have E : pubB v = true := by simp only [pubB, hV, hP, Bool.and_true]
  rw [E]; clear E
  go_enter Tryd.func32, Tryd.ntmps32
  go_wp2_with fail
  refine (l1In_any _ _ _ _).mono ?_
  rintro r w' ⟨rfl, rfl⟩
  go_wp2_with fail
  refine (l1Raise_int _ _ _ (by omega) (by omega) (by omega) (by omega)).mono ?_
  rintro r w' ⟨rfl, rfl⟩
  go_wp2_with fail
  go_ret
  simp

theorem implIsPublic_any (v : Int) (w : World) :
    Calls Tryd.prog 34 #[.int .i64 v] w fun r w' => r = .returned (.bool (pubB v)) ∧ Below w.heap.size w w' := by
  by_cases h0 : 2 ≤ v
  · by_cases h1 : v ≤ 2878
    · cases hP : (M.pw v 1439 2879 == 1)
      · have E : pubB v = false := by simp only [pubB, hP, Bool.and_false]
        rw [E]; clear E
        go_enter Tryd.func34, Tryd.ntmps34
        go_wp2_with fail
        refine (power_int _ _ _ _ (by omega) (by omega) (by omega) (by omega) (by omega) (by omega)).mono ?_
        rintro r w1 ⟨rfl, hb_w1⟩
        obtain ⟨hc_w1, hf_w1⟩ := bcell hb_w1
        have hz_w1 := hb_w1.size
        (try simp at hz_w1)
        go_wp2_with fail
        go_ret
        exact ⟨rfl, hb_w1⟩
      · have E : pubB v = true := by simp only [pubB, inB, h0, h1, hP, Bool.and_true, and_self, decide_true]
        rw [E]; clear E
        go_enter Tryd.func34, Tryd.ntmps34
        go_wp2_with fail
        refine (power_int _ _ _ _ (by omega) (by omega) (by omega) (by omega) (by omega) (by omega)).mono ?_
        rintro r w1 ⟨rfl, hb_w1⟩
        obtain ⟨hc_w1, hf_w1⟩ := bcell hb_w1
        have hz_w1 := hb_w1.size
        (try simp at hz_w1)
        go_wp2_with fail
        go_ret
        exact ⟨rfl, hb_w1⟩
    · have E : pubB v = false := by simp [pubB, inB, h1]
      rw [E]; clear E
      go_enter Tryd.func34, Tryd.ntmps34
      go_wp2_with fail
      go_ret
      exact ⟨rfl, Below.refl _ _⟩
  · have E : pubB v = false := by simp [pubB, inB, h0]
    rw [E]; clear E
    go_enter Tryd.func34, Tryd.ntmps34
    go_wp2_with fail
    go_ret
    exact ⟨rfl, Below.refl _ _⟩

theorem implKeyOf_any (s : Int) (w : World) :
    Calls Tryd.prog 23 #[.int .i64 s] w fun r w' => r = .returned (I3 (keyR s).1 (keyR s).2.1 (keyR s).2.2) ∧ Below w.heap.size w w' := by
  cases hS : inB s 1 1438
  · have E : keyR s = (3, 0, 0) := by simp [keyR, hS]
    rw [E]; clear E
    go_enter Tryd.func23, Tryd.ntmps23
    go_wp2_with fail
    refine (isSecret_any _ _).mono ?_
    rintro r w' ⟨rfl, rfl⟩
    go_wp2_with fail
    exact bodyPost_ret (v := I3 3 0 0) (by simp [results, Tryd.results23, go_sem]) rfl ⟨rfl, bal (Below.refl _ _) _⟩
  have E : keyR s = (0, s, M.pw 4 s.toNat 2879) := by simp [keyR, hS]
  rw [E]; clear E
  have hS' := hS
  simp only [inB, decide_eq_true_eq] at hS'
  obtain ⟨s0, s1⟩ := hS'
  go_enter Tryd.func23, Tryd.ntmps23
  go_wp2_with fail
  refine (isSecret_any _ _).mono ?_
  rintro r w' ⟨rfl, rfl⟩
  go_wp2_with fail
  refine (power_int _ _ _ _ (by omega) (by omega) (by omega) (by omega) (by omega) (by omega)).mono ?_
  rintro r w1 ⟨rfl, hb_w1⟩
  obtain ⟨hc_w1, hf_w1⟩ := bcell hb_w1
  have hz_w1 := hb_w1.size
  (try simp at hz_w1)
  go_wp2_with fail
  exact bodyPost_ret (v := I3 0 s (M.pw 4 s.toNat 2879)) (by simp [results, Tryd.results23, go_sem, hc_w1]) rfl ⟨rfl, bset (bset (bset (btr (bal (Below.refl _ _) _) hb_w1) (Nat.le_refl _) _) (Nat.le_refl _) _) (Nat.le_refl _) _⟩

theorem l1Key_any (s : Int) (w : World) (s0 : 0 ≤ s) (s1 : s ≤ 1000000000) :
    Calls Tryd.prog 41 #[.int .i64 s] w fun r w' => r = .returned (I2 s (M.pw 4 s.toNat 2879)) ∧ Below w.heap.size w w' := by
  go_enter Tryd.func41, Tryd.ntmps41
  go_wp2_with fail
  refine (l1Raise_int _ _ _ (by omega) (by omega) (by omega) (by omega)).mono ?_
  rintro r w' ⟨rfl, rfl⟩
  go_wp2_with fail
  exact bodyPost_ret (v := I2 s (M.pw 4 s.toNat 2879)) (by simp [results, Tryd.results41, go_sem]) rfl ⟨rfl, bal (Below.refl _ _) _⟩

theorem pubB_bd {p : Int} (h : pubB p = true) : 2 ≤ p ∧ p ≤ 2878 := by
  simp only [pubB, inB, Bool.and_eq_true, decide_eq_true_eq] at h; exact h.1

end Go.Proofs.YtlodhleihnlchaaDoor
