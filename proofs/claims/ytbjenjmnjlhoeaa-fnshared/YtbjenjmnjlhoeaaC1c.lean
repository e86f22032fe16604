/- Contracts of the public numbers, keys, shared numbers and inverses of chapter 1, and of their model's. Conditions: as each theorem states. -/
import Derived.Test.YtbjenjmnjlhoeaaC1b
namespace Go.Proofs.Ytbjenjmnjlhoeaa
open Go.RowKit

def pubB (v : Int) : Bool := inB v 2 2878 && (M.pw v 1439 2879 == 1)
def keyR (s : Int) : Int × Int × Int := if inB s 1 1438 then (0, s, M.pw 4 s.toNat 2879) else (3, 0, 0)
def sharedR (s p : Int) : Int × Int := if inB s 1 1438 && pubB p then (0, M.pw p s.toNat 2879) else (3, 0)
def invR (v : Int) : Int × Int := if inB v 1 2878 then (0, M.pw v 2877 2879) else (3, 0)
abbrev I3 (c u v : Int) : Value := .agg #[.int .i64 c, .int .i64 u, .int .i64 v]

theorem l1Public_any (v : Int) (w : World) :
    Calls Try.prog 46 #[.int .i64 v] w fun r w' => r = .returned (.bool (pubB v)) ∧ w = w' := by
  cases hV : inB v 2 2878
  · have E : pubB v = false := by simp [pubB, hV]
    rw [E]; clear E
    go_enter Try.func46, Try.ntmps46
    go_wp2_with fail
    refine (l1In_any _ _ _ _).mono ?_
    rintro r w' ⟨rfl, rfl⟩
    go_wp2_with fail
    go_ret
    simp
  have hV' := hV
  simp only [inB, decide_eq_true_eq] at hV'
  obtain ⟨v0, v1⟩ := hV'
  cases hP : (M.pw v 1439 2879 == 1)
  · have E : pubB v = false := by simp only [pubB, hP, Bool.and_false]
    rw [E]; clear E
    go_enter Try.func46, Try.ntmps46
    go_wp2_with fail
    refine (l1In_any _ _ _ _).mono ?_
    rintro r w' ⟨rfl, rfl⟩
    go_wp2_with fail
    refine (l1Raise_int _ _ _ (by omega) (by omega) (by omega) (by omega)).mono ?_
    rintro r w' ⟨rfl, rfl⟩
    go_wp2_with fail
    go_ret
    simp
  have E : pubB v = true := by simp only [pubB, hV, hP, Bool.and_true]
  rw [E]; clear E
  go_enter Try.func46, Try.ntmps46
  go_wp2_with fail
  refine (l1In_any _ _ _ _).mono ?_
  rintro r w' ⟨rfl, rfl⟩
  go_wp2_with fail
  refine (l1Raise_int _ _ _ (by omega) (by omega) (by omega) (by omega)).mono ?_
  rintro r w' ⟨rfl, rfl⟩
  go_wp2_with fail
  go_ret
  simp

theorem specIsPublic_any (v : Int) (w : World) :
    Calls Try.prog 25 #[.int .i64 v] w fun r w' => r = .returned (.bool (pubB v)) ∧ w = w' := by
  go_enter Try.func25, Try.ntmps25
  go_wp2_with fail
  refine (l1Public_any _ _).mono ?_
  rintro r w' ⟨rfl, rfl⟩
  go_wp2_with fail
  go_ret
  simp

theorem implIsPublic_any (v : Int) (w : World) :
    Calls Try.prog 24 #[.int .i64 v] w fun r w' => r = .returned (.bool (pubB v)) ∧ Below w.heap.size w w' := by
  by_cases h0 : 2 ≤ v
  · by_cases h1 : v ≤ 2878
    · cases hP : (M.pw v 1439 2879 == 1)
      · have E : pubB v = false := by simp only [pubB, hP, Bool.and_false]
        rw [E]; clear E
        go_enter Try.func24, Try.ntmps24
        go_wp2_with fail
        refine (power_int _ _ _ _ (by omega) (by omega) (by omega) (by omega) (by omega) (by omega)).mono ?_
        rintro r w1 ⟨rfl, hb_w1⟩
        obtain ⟨hc_w1, hf_w1⟩ := bcell hb_w1
        have hz_w1 := hb_w1.size
        (try simp at hz_w1)
        go_wp2_with fail
        go_ret
        exact ⟨rfl, hb_w1⟩
      · have E : pubB v = true := by simp only [pubB, inB, h0, h1, hP, Bool.and_true, and_self, decide_true]
        rw [E]; clear E
        go_enter Try.func24, Try.ntmps24
        go_wp2_with fail
        refine (power_int _ _ _ _ (by omega) (by omega) (by omega) (by omega) (by omega) (by omega)).mono ?_
        rintro r w1 ⟨rfl, hb_w1⟩
        obtain ⟨hc_w1, hf_w1⟩ := bcell hb_w1
        have hz_w1 := hb_w1.size
        (try simp at hz_w1)
        go_wp2_with fail
        go_ret
        exact ⟨rfl, hb_w1⟩
    · have E : pubB v = false := by simp [pubB, inB, h1]
      rw [E]; clear E
      go_enter Try.func24, Try.ntmps24
      go_wp2_with fail
      go_ret
      exact ⟨rfl, Below.refl _ _⟩
  · have E : pubB v = false := by simp [pubB, inB, h0]
    rw [E]; clear E
    go_enter Try.func24, Try.ntmps24
    go_wp2_with fail
    go_ret
    exact ⟨rfl, Below.refl _ _⟩

theorem implKeyOf_any (s : Int) (w : World) :
    Calls Try.prog 28 #[.int .i64 s] w fun r w' => r = .returned (I3 (keyR s).1 (keyR s).2.1 (keyR s).2.2) ∧ Below w.heap.size w w' := by
  cases hS : inB s 1 1438
  · have E : keyR s = (3, 0, 0) := by simp [keyR, hS]
    rw [E]; clear E
    go_enter Try.func28, Try.ntmps28
    go_wp2_with fail
    refine (isSecret_any _ _).mono ?_
    rintro r w' ⟨rfl, rfl⟩
    go_wp2_with fail
    exact bodyPost_ret (v := I3 3 0 0) (by simp [results, Try.results28, go_sem]) rfl ⟨rfl, bal (Below.refl _ _) _⟩
  have E : keyR s = (0, s, M.pw 4 s.toNat 2879) := by simp [keyR, hS]
  rw [E]; clear E
  have hS' := hS
  simp only [inB, decide_eq_true_eq] at hS'
  obtain ⟨s0, s1⟩ := hS'
  go_enter Try.func28, Try.ntmps28
  go_wp2_with fail
  refine (isSecret_any _ _).mono ?_
  rintro r w' ⟨rfl, rfl⟩
  go_wp2_with fail
  refine (power_int _ _ _ _ (by omega) (by omega) (by omega) (by omega) (by omega) (by omega)).mono ?_
  rintro r w1 ⟨rfl, hb_w1⟩
  obtain ⟨hc_w1, hf_w1⟩ := bcell hb_w1
  have hz_w1 := hb_w1.size
  (try simp at hz_w1)
  go_wp2_with fail
  exact bodyPost_ret (v := I3 0 s (M.pw 4 s.toNat 2879)) (by simp [results, Try.results28, go_sem, hc_w1]) rfl ⟨rfl, bset (bset (bset (btr (bal (Below.refl _ _) _) hb_w1) (Nat.le_refl _) _) (Nat.le_refl _) _) (Nat.le_refl _) _⟩

theorem l1Key_any (s : Int) (w : World) (s0 : 0 ≤ s) (s1 : s ≤ 1000000000) :
    Calls Try.prog 50 #[.int .i64 s] w fun r w' => r = .returned (I2 s (M.pw 4 s.toNat 2879)) ∧ Below w.heap.size w w' := by
  go_enter Try.func50, Try.ntmps50
  go_wp2_with fail
  refine (l1Raise_int _ _ _ (by omega) (by omega) (by omega) (by omega)).mono ?_
  rintro r w' ⟨rfl, rfl⟩
  go_wp2_with fail
  exact bodyPost_ret (v := I2 s (M.pw 4 s.toNat 2879)) (by simp [results, Try.results50, go_sem]) rfl ⟨rfl, bal (Below.refl _ _) _⟩

theorem specKeyOf_any (s : Int) (w : World) :
    Calls Try.prog 31 #[.int .i64 s] w fun r w' => r = .returned (I3 (keyR s).1 (keyR s).2.1 (keyR s).2.2) ∧ Below w.heap.size w w' := by
  cases hS : inB s 1 1438
  · have E : keyR s = (3, 0, 0) := by simp [keyR, hS]
    rw [E]; clear E
    go_enter Try.func31, Try.ntmps31
    go_wp2_with fail
    refine (l1Secret_any _ _).mono ?_
    rintro r w' ⟨rfl, rfl⟩
    go_wp2_with fail
    exact bodyPost_ret (v := I3 3 0 0) (by simp [results, Try.results31, go_sem]) rfl ⟨rfl, bal (Below.refl _ _) _⟩
  have E : keyR s = (0, s, M.pw 4 s.toNat 2879) := by simp [keyR, hS]
  rw [E]; clear E
  have hS' := hS
  simp only [inB, decide_eq_true_eq] at hS'
  obtain ⟨s0, s1⟩ := hS'
  go_enter Try.func31, Try.ntmps31
  go_wp2_with fail
  refine (l1Secret_any _ _).mono ?_
  rintro r w' ⟨rfl, rfl⟩
  go_wp2_with fail
  refine (l1Key_any _ _ (by omega) (by omega)).mono ?_
  rintro r w1 ⟨rfl, hb_w1⟩
  obtain ⟨hc_w1, hf_w1⟩ := bcell hb_w1
  have hz_w1 := hb_w1.size
  (try simp at hz_w1)
  go_wp2_with fail
  exact bodyPost_ret (v := I3 0 s (M.pw 4 s.toNat 2879)) (by simp [results, Try.results31, go_sem, hc_w1]) rfl ⟨rfl, bset (bset (bset (btr (bal (Below.refl _ _) _) hb_w1) (Nat.le_refl _) _) (Nat.le_refl _) _) (Nat.le_refl _) _⟩

theorem pubB_bd {p : Int} (h : pubB p = true) : 2 ≤ p ∧ p ≤ 2878 := by
  simp only [pubB, inB, Bool.and_eq_true, decide_eq_true_eq] at h; exact h.1

theorem implSharedOf_any (s p : Int) (w : World) :
    Calls Try.prog 32 #[.int .i64 s, .int .i64 p] w fun r w' => r = .returned (I2 (sharedR s p).1 (sharedR s p).2) ∧ Below w.heap.size w w' := by
  cases hS : inB s 1 1438
  · have E : sharedR s p = (3, 0) := by simp [sharedR, hS]
    rw [E]; clear E
    go_enter Try.func32, Try.ntmps32
    go_wp2_with fail
    refine (isSecret_any _ _).mono ?_
    rintro r w' ⟨rfl, rfl⟩
    go_wp2_with fail
    exact bodyPost_ret (v := I2 3 0) (by simp [results, Try.results32, go_sem]) rfl ⟨rfl, bal (Below.refl _ _) _⟩
  cases hP : pubB p
  · have E : sharedR s p = (3, 0) := by simp [sharedR, hP]
    rw [E]; clear E
    go_enter Try.func32, Try.ntmps32
    go_wp2_with fail
    refine (isSecret_any _ _).mono ?_
    rintro r w' ⟨rfl, rfl⟩
    go_wp2_with fail
    refine (implIsPublic_any _ _).mono ?_
    rintro r w1 ⟨rfl, hb_w1⟩
    obtain ⟨hc_w1, hf_w1⟩ := bcell hb_w1
    have hz_w1 := hb_w1.size
    (try simp at hz_w1)
    go_wp2_with fail
    exact bodyPost_ret (v := I2 3 0) (by simp [results, Try.results32, go_sem, hc_w1]) rfl ⟨rfl, bset (bset (btr (bal (Below.refl _ _) _) hb_w1) (Nat.le_refl _) _) (Nat.le_refl _) _⟩
  have E : sharedR s p = (0, M.pw p s.toNat 2879) := by simp [sharedR, hS, hP]
  rw [E]; clear E
  have hS' := hS
  simp only [inB, decide_eq_true_eq] at hS'
  obtain ⟨s0, s1⟩ := hS'
  obtain ⟨p0, p1⟩ := pubB_bd hP
  go_enter Try.func32, Try.ntmps32
  go_wp2_with fail
  refine (isSecret_any _ _).mono ?_
  rintro r w' ⟨rfl, rfl⟩
  go_wp2_with fail
  refine (implIsPublic_any _ _).mono ?_
  rintro r w1 ⟨rfl, hb_w1⟩
  obtain ⟨hc_w1, hf_w1⟩ := bcell hb_w1
  have hz_w1 := hb_w1.size
  (try simp at hz_w1)
  go_wp2_with fail
  refine (power_int _ _ _ _ (by omega) (by omega) (by omega) (by omega) (by omega) (by omega)).mono ?_
  rintro r w2 ⟨rfl, hb_w2⟩
  obtain ⟨hc_w2, hf_w2⟩ := bcell hb_w2
  have hz_w2 := hb_w2.size
  (try simp at hz_w2)
  have hz : w.heap.size < w1.heap.size := by omega
  go_wp2_with fail
  exact bodyPost_ret (v := I2 0 (M.pw p s.toNat 2879)) (by simp [results, Try.results32, go_sem, hc_w1, hc_w2, hz]) rfl ⟨rfl, bset (bset (btr (btr (bal (Below.refl _ _) _) hb_w1) hb_w2) (Nat.le_refl _) _) (Nat.le_refl _) _⟩

theorem specSharedOf_any (s p : Int) (w : World) :
    Calls Try.prog 33 #[.int .i64 s, .int .i64 p] w fun r w' => r = .returned (I2 (sharedR s p).1 (sharedR s p).2) ∧ Below w.heap.size w w' := by
  cases hS : inB s 1 1438
  · have E : sharedR s p = (3, 0) := by simp [sharedR, hS]
    rw [E]; clear E
    go_enter Try.func33, Try.ntmps33
    go_wp2_with fail
    refine (l1Secret_any _ _).mono ?_
    rintro r w' ⟨rfl, rfl⟩
    go_wp2_with fail
    exact bodyPost_ret (v := I2 3 0) (by simp [results, Try.results33, go_sem]) rfl ⟨rfl, bal (Below.refl _ _) _⟩
  cases hP : pubB p
  · have E : sharedR s p = (3, 0) := by simp [sharedR, hP]
    rw [E]; clear E
    go_enter Try.func33, Try.ntmps33
    go_wp2_with fail
    refine (l1Secret_any _ _).mono ?_
    rintro r w' ⟨rfl, rfl⟩
    go_wp2_with fail
    refine (l1Public_any _ _).mono ?_
    rintro r w' ⟨rfl, rfl⟩
    go_wp2_with fail
    exact bodyPost_ret (v := I2 3 0) (by simp [results, Try.results33, go_sem]) rfl ⟨rfl, bal (Below.refl _ _) _⟩
  have E : sharedR s p = (0, M.pw p s.toNat 2879) := by simp [sharedR, hS, hP]
  rw [E]; clear E
  have hS' := hS
  simp only [inB, decide_eq_true_eq] at hS'
  obtain ⟨s0, s1⟩ := hS'
  obtain ⟨p0, p1⟩ := pubB_bd hP
  go_enter Try.func33, Try.ntmps33
  go_wp2_with fail
  refine (l1Secret_any _ _).mono ?_
  rintro r w' ⟨rfl, rfl⟩
  go_wp2_with fail
  refine (l1Public_any _ _).mono ?_
  rintro r w' ⟨rfl, rfl⟩
  go_wp2_with fail
  refine (l1Raise_int _ _ _ (by omega) (by omega) (by omega) (by omega)).mono ?_
  rintro r w' ⟨rfl, rfl⟩
  go_wp2_with fail
  exact bodyPost_ret (v := I2 0 (M.pw p s.toNat 2879)) (by simp [results, Try.results33, go_sem]) rfl ⟨rfl, bal (Below.refl _ _) _⟩

theorem implInverseOf_any (v : Int) (w : World) :
    Calls Try.prog 22 #[.int .i64 v] w fun r w' => r = .returned (I2 (invR v).1 (invR v).2) ∧ Below w.heap.size w w' := by
  by_cases h0 : 1 ≤ v
  · by_cases h1 : v ≤ 2878
    · have E : invR v = (0, M.pw v 2877 2879) := by simp [invR, inB, h0, h1]
      rw [E]; clear E
      go_enter Try.func22, Try.ntmps22
      go_wp2_with fail
      refine (power_int _ _ _ _ (by omega) (by omega) (by omega) (by omega) (by omega) (by omega)).mono ?_
      rintro r w1 ⟨rfl, hb_w1⟩
      obtain ⟨hc_w1, hf_w1⟩ := bcell hb_w1
      have hz_w1 := hb_w1.size
      (try simp at hz_w1)
      go_wp2_with fail
      exact bodyPost_ret (v := I2 0 (M.pw v 2877 2879)) (by simp [results, Try.results22, go_sem, hc_w1]) rfl ⟨rfl, bset (bset (btr (bal (Below.refl _ _) _) hb_w1) (Nat.le_refl _) _) (Nat.le_refl _) _⟩
    · have E : invR v = (3, 0) := by simp [invR, inB, h1]
      rw [E]; clear E
      go_enter Try.func22, Try.ntmps22
      go_wp2_with fail
      exact bodyPost_ret (v := I2 3 0) (by simp [results, Try.results22, go_sem]) rfl ⟨rfl, bal (Below.refl _ _) _⟩
  · have E : invR v = (3, 0) := by simp [invR, inB, h0]
    rw [E]; clear E
    go_enter Try.func22, Try.ntmps22
    go_wp2_with fail
    exact bodyPost_ret (v := I2 3 0) (by simp [results, Try.results22, go_sem]) rfl ⟨rfl, bal (Below.refl _ _) _⟩

theorem specInverseOf_any (v : Int) (w : World) :
    Calls Try.prog 26 #[.int .i64 v] w fun r w' => r = .returned (I2 (invR v).1 (invR v).2) ∧ Below w.heap.size w w' := by
  cases hV : inB v 1 2878
  · have E : invR v = (3, 0) := by simp [invR, hV]
    rw [E]; clear E
    go_enter Try.func26, Try.ntmps26
    go_wp2_with fail
    refine (l1In_any _ _ _ _).mono ?_
    rintro r w' ⟨rfl, rfl⟩
    go_wp2_with fail
    exact bodyPost_ret (v := I2 3 0) (by simp [results, Try.results26, go_sem]) rfl ⟨rfl, bal (Below.refl _ _) _⟩
  have E : invR v = (0, M.pw v 2877 2879) := by simp [invR, hV]
  rw [E]; clear E
  have hV' := hV
  simp only [inB, decide_eq_true_eq] at hV'
  obtain ⟨v0, v1⟩ := hV'
  go_enter Try.func26, Try.ntmps26
  go_wp2_with fail
  refine (l1In_any _ _ _ _).mono ?_
  rintro r w' ⟨rfl, rfl⟩
  go_wp2_with fail
  refine (l1Raise_int _ _ _ (by omega) (by omega) (by omega) (by omega)).mono ?_
  rintro r w' ⟨rfl, rfl⟩
  go_wp2_with fail
  exact bodyPost_ret (v := I2 0 (M.pw v 2877 2879)) (by simp [results, Try.results26, go_sem]) rfl ⟨rfl, bal (Below.refl _ _) _⟩

theorem eqPair_any (a b : Int) (w : World) :
    Calls Try.prog 52 #[I2 a b, I2 a b] w fun r w' => r = .returned (.bool true) ∧ Below w.heap.size w w' := by
  go_enter Try.func52, Try.ntmps52
  go_wp2_with fail
  go_ret
  exact ⟨rfl, bal (bal (Below.refl _ _) _) _⟩

theorem eqKey_any (a b c : Int) (w : World) :
    Calls Try.prog 35 #[I3 a b c, I3 a b c] w fun r w' => r = .returned (.bool true) ∧ Below w.heap.size w w' := by
  go_enter Try.func35, Try.ntmps35
  go_wp2_with fail
  refine (eqPair_any _ _ _).mono ?_
  rintro r u1 ⟨rfl, hb_u1⟩
  obtain ⟨hc_u1, hf_u1⟩ := bcell hb_u1
  have hz_u1 := hb_u1.size
  (try simp at hz_u1)
  go_wp2_with fail
  go_ret
  exact ⟨rfl, btr (bal (bal (Below.refl _ _) _) _) hb_u1⟩

end Go.Proofs.Ytbjenjmnjlhoeaa
