/- Contracts of chapter 1's exported functions and of their model's. Conditions: as each theorem states. -/
import Derived.Test.YtbjenjmnjlhoeaaC1a
namespace Go.Proofs.Ytbjenjmnjlhoeaa
open Go.RowKit

theorem l1Pow_any (a : Int) (e : Nat) (m : Int) (w : World) (h1 : 1 ≤ m) (h2 : m ≤ 1000000) (ha0 : 0 ≤ a) (ha1 : a < m) (he : e ≤ 1000000000) :
    Calls Try.prog 45 #[.int .i64 a, .int .i64 e, .int .i64 m] w fun r w' => r = .returned (.int .i64 (M.pw a e m)) ∧ w = w' := by
  obtain ⟨o0, o1⟩ := M.mod_bd 1 h1
  go_enter Try.func45, Try.ntmps45
  go_wp2_with fail
  go_loop [0, 1, 7] (fun x y z => ∃ (b n : Int) (k : Nat), x = .int .i64 b ∧ y = .int .i64 k ∧ z = .int .i64 n ∧ 0 ≤ b ∧ b < m ∧ 0 ≤ n ∧ n < m ∧ k ≤ 1000000000 ∧ M.Keep a e m n b k) (fun _ y _ => (intOf y).toNat)
  case atStart => exact ⟨a, 1 % m, e, rfl, rfl, rfl, ha0, ha1, o0, o1, he, M.keep_start a e m⟩
  case round =>
    obtain ⟨b, n, k, rfl, rfl, rfl, b0, b1, n0, n1, hk, hkeep⟩ := hrel
    obtain ⟨p0, p1⟩ := M.mul_bd b0 b1 b0 b1 h2
    obtain ⟨q0, q1⟩ := M.mul_bd n0 n1 b0 b1 h2
    obtain ⟨r0, r1⟩ := M.mod_bd (b * b) h1
    obtain ⟨s0, s1⟩ := M.mod_bd (n * b) h1
    by_cases hz : 0 < k
    · by_cases ho : k % 2 = 1
      · have H1 := Lib.hid (M.keep_odd hkeep ho)
        have ht : ((k : Int) % 2 == 1) = true := by rw [beq_iff_eq]; omega
        clear ho hkeep
        go_wp2_with fail
        go_round
        case rel => exact ⟨b * b % m, n * b % m, k / 2, rfl, by go_num, rfl, r0, r1, s0, s1, by omega, H1.out⟩
        case measure => simp [intOf]; omega
      · have H1 := Lib.hid (M.keep_even hkeep (by omega))
        have ht : ((k : Int) % 2 == 1) = false := by rw [beq_eq_false_iff_ne]; omega
        clear ho hkeep
        go_wp2_with fail
        go_round
        case rel => exact ⟨b * b % m, n, k / 2, rfl, by go_num, rfl, r0, r1, n0, n1, by omega, H1.out⟩
        case measure => simp [intOf]; omega
    · obtain rfl : k = 0 := by omega
      have H1 := Lib.hid (M.keep_end hkeep n0 n1)
      clear hkeep
      go_wp2_with fail
      go_ret
      exact ⟨by rw [← H1.out]; rfl, rfl⟩

theorem l1Pow_int (a e m : Int) (w : World) (h1 : 1 ≤ m) (h2 : m ≤ 1000000) (ha0 : 0 ≤ a) (ha1 : a < m) (he0 : 0 ≤ e) (he1 : e ≤ 1000000000) :
    Calls Try.prog 45 #[.int .i64 a, .int .i64 e, .int .i64 m] w fun r w' => r = .returned (.int .i64 (M.pw a e.toNat m)) ∧ w = w' := by
  obtain ⟨n, rfl⟩ := Int.eq_ofNat_of_zero_le he0
  exact l1Pow_any a n m w h1 h2 ha0 ha1 (by omega)

theorem l1Raise_int (a e : Int) (w : World) (ha0 : 0 ≤ a) (ha1 : a < 2879) (he0 : 0 ≤ e) (he1 : e ≤ 1000000000) :
    Calls Try.prog 47 #[.int .i64 a, .int .i64 e] w fun r w' => r = .returned (.int .i64 (M.pw a e.toNat 2879)) ∧ w = w' := by
  go_enter Try.func47, Try.ntmps47
  go_wp2_with fail
  refine (l1Pow_int _ _ _ _ (by omega) (by omega) ha0 ha1 he0 he1).mono ?_
  rintro r w' ⟨rfl, rfl⟩
  go_wp2_with fail
  go_ret
  simp

abbrev I2 (c v : Int) : Value := .agg #[.int .i64 c, .int .i64 v]

theorem fld0 (a b : Int) (w : World) : Sem.run Try.prog (Instr.field 27 (.agg #[.int .i64 a, .int .i64 b]) 0) w = .ok (.int .i64 a) w := by kernel_rfl
theorem fld1 (a b : Int) (w : World) : Sem.run Try.prog (Instr.field 27 (.agg #[.int .i64 a, .int .i64 b]) 1) w = .ok (.int .i64 b) w := by kernel_rfl

def mulR (a b m : Int) : Int × Int := if restB a m && restB b m then (0, a * b % m) else (3, 0)
def powR (a e m : Int) : Int × Int := if restB a m && inB e 0 1000000000 then (0, M.pw a e.toNat m) else (3, 0)

theorem restB_in (a m : Int) (h : inB m 1 1000000 = true) : restB a m = inB a 0 (m - 1) := by
  simp only [inB, decide_eq_true_eq] at h
  unfold restB inB
  rw [decide_eq_decide]; omega
theorem restB_out (a m : Int) (h : inB m 1 1000000 = false) : restB a m = false := by
  simp only [inB, decide_eq_false_iff_not] at h
  simp only [restB, decide_eq_false_iff_not]; omega

theorem implMulMod_any (a b m : Int) (w : World) :
    Calls Try.prog 17 #[.int .i64 a, .int .i64 b, .int .i64 m] w fun r w' => r = .returned (I2 (mulR a b m).1 (mulR a b m).2) ∧ Below w.heap.size w w' := by
  cases hA : restB a m
  · have E : mulR a b m = (3, 0) := by simp [mulR, hA]
    rw [E]; clear E
    go_enter Try.func17, Try.ntmps17
    go_wp2_with fail
    refine (isRest_any _ _ _).mono ?_
    rintro r w' ⟨rfl, rfl⟩
    go_wp2_with fail
    exact bodyPost_ret (v := I2 3 0) (by simp [results, Try.results17, go_sem]) rfl ⟨rfl, bal (Below.refl _ _) _⟩
  cases hB : restB b m
  · have E : mulR a b m = (3, 0) := by simp [mulR, hB]
    rw [E]; clear E
    go_enter Try.func17, Try.ntmps17
    go_wp2_with fail
    refine (isRest_any _ _ _).mono ?_
    rintro r w' ⟨rfl, rfl⟩
    go_wp2_with fail
    refine (isRest_any _ _ _).mono ?_
    rintro r w' ⟨rfl, rfl⟩
    go_wp2_with fail
    exact bodyPost_ret (v := I2 3 0) (by simp [results, Try.results17, go_sem]) rfl ⟨rfl, bal (Below.refl _ _) _⟩
  have E : mulR a b m = (0, a * b % m) := by simp [mulR, hA, hB]
  rw [E]; clear E
  have hA' := hA
  have hB' := hB
  simp only [restB, decide_eq_true_eq] at hA' hB'
  obtain ⟨m0, m1, a0, a1⟩ := hA'
  obtain ⟨-, -, b0, b1⟩ := hB'
  go_enter Try.func17, Try.ntmps17
  go_wp2_with fail
  refine (isRest_any _ _ _).mono ?_
  rintro r w' ⟨rfl, rfl⟩
  go_wp2_with fail
  refine (isRest_any _ _ _).mono ?_
  rintro r w' ⟨rfl, rfl⟩
  go_wp2_with fail
  refine (product_two _ _ _ _ _ m0 m1 a0 a1 b0 b1 (by go_simp) (by go_simp)).mono ?_
  rintro r w' ⟨rfl, rfl⟩
  go_wp2_with fail
  exact bodyPost_ret (v := I2 0 (a * b % m)) (by simp [results, Try.results17, go_sem]) rfl ⟨rfl, bal (bal (Below.refl _ _) _) _⟩

theorem implPowMod_any (a e m : Int) (w : World) :
    Calls Try.prog 15 #[.int .i64 a, .int .i64 e, .int .i64 m] w fun r w' => r = .returned (I2 (powR a e m).1 (powR a e m).2) ∧ Below w.heap.size w w' := by
  cases hA : restB a m
  · have E : powR a e m = (3, 0) := by simp [powR, hA]
    rw [E]; clear E
    go_enter Try.func15, Try.ntmps15
    go_wp2_with fail
    refine (isRest_any _ _ _).mono ?_
    rintro r w' ⟨rfl, rfl⟩
    go_wp2_with fail
    exact bodyPost_ret (v := I2 3 0) (by simp [results, Try.results15, go_sem]) rfl ⟨rfl, bal (Below.refl _ _) _⟩
  by_cases h0 : 0 ≤ e
  · by_cases h1 : e ≤ 1000000000
    · have E : powR a e m = (0, M.pw a e.toNat m) := by simp [powR, hA, inB, h0, h1]
      rw [E]; clear E
      have hA' := hA
      simp only [restB, decide_eq_true_eq] at hA'
      obtain ⟨m0, m1, a0, a1⟩ := hA'
      go_enter Try.func15, Try.ntmps15
      go_wp2_with fail
      refine (isRest_any _ _ _).mono ?_
      rintro r w' ⟨rfl, rfl⟩
      go_wp2_with fail
      refine (power_int _ _ _ _ m0 m1 a0 a1 h0 h1).mono ?_
      rintro r w1 ⟨rfl, hb_w1⟩
      obtain ⟨hc_w1, hf_w1⟩ := bcell hb_w1
      have hz_w1 := hb_w1.size
      (try simp at hz_w1)
      go_wp2_with fail
      exact bodyPost_ret (v := I2 0 (M.pw a e.toNat m)) (by simp [results, Try.results15, go_sem, hc_w1]) rfl ⟨rfl, bset (bset (btr (bal (Below.refl _ _) _) hb_w1) (Nat.le_refl _) _) (Nat.le_refl _) _⟩
    · have E : powR a e m = (3, 0) := by simp [powR, inB, h1]
      rw [E]; clear E
      go_enter Try.func15, Try.ntmps15
      go_wp2_with fail
      refine (isRest_any _ _ _).mono ?_
      rintro r w' ⟨rfl, rfl⟩
      go_wp2_with fail
      exact bodyPost_ret (v := I2 3 0) (by simp [results, Try.results15, go_sem]) rfl ⟨rfl, bal (Below.refl _ _) _⟩
  · have E : powR a e m = (3, 0) := by simp [powR, inB, h0]
    rw [E]; clear E
    go_enter Try.func15, Try.ntmps15
    go_wp2_with fail
    refine (isRest_any _ _ _).mono ?_
    rintro r w' ⟨rfl, rfl⟩
    go_wp2_with fail
    exact bodyPost_ret (v := I2 3 0) (by simp [results, Try.results15, go_sem]) rfl ⟨rfl, bal (Below.refl _ _) _⟩

theorem specMulMod_any (a b m : Int) (w : World) :
    Calls Try.prog 18 #[.int .i64 a, .int .i64 b, .int .i64 m] w fun r w' => r = .returned (I2 (mulR a b m).1 (mulR a b m).2) ∧ Below w.heap.size w w' := by
  cases hM : inB m 1 1000000
  · have E : mulR a b m = (3, 0) := by simp [mulR, restB_out a m hM]
    rw [E]; clear E
    go_enter Try.func18, Try.ntmps18
    go_wp2_with fail
    refine (l1In_any _ _ _ _).mono ?_
    rintro r w' ⟨rfl, rfl⟩
    go_wp2_with fail
    exact bodyPost_ret (v := I2 3 0) (by simp [results, Try.results18, go_sem]) rfl ⟨rfl, bal (Below.refl _ _) _⟩
  have ha := restB_in a m hM
  have hb := restB_in b m hM
  have hM' := hM
  simp only [inB, decide_eq_true_eq] at hM'
  obtain ⟨m0, m1⟩ := hM'
  cases hA : inB a 0 (m - 1)
  · have E : mulR a b m = (3, 0) := by simp [mulR, ha, hA]
    rw [E]; clear E ha hb
    go_enter Try.func18, Try.ntmps18
    go_wp2_with fail
    refine (l1In_any _ _ _ _).mono ?_
    rintro r w' ⟨rfl, rfl⟩
    go_wp2_with fail
    refine (l1In_any _ _ _ _).mono ?_
    rintro r w' ⟨rfl, rfl⟩
    go_wp2_with fail
    exact bodyPost_ret (v := I2 3 0) (by simp [results, Try.results18, go_sem]) rfl ⟨rfl, bal (Below.refl _ _) _⟩
  cases hB : inB b 0 (m - 1)
  · have E : mulR a b m = (3, 0) := by simp [mulR, hb, hB]
    rw [E]; clear E ha hb
    go_enter Try.func18, Try.ntmps18
    go_wp2_with fail
    refine (l1In_any _ _ _ _).mono ?_
    rintro r w' ⟨rfl, rfl⟩
    go_wp2_with fail
    refine (l1In_any _ _ _ _).mono ?_
    rintro r w' ⟨rfl, rfl⟩
    go_wp2_with fail
    refine (l1In_any _ _ _ _).mono ?_
    rintro r w' ⟨rfl, rfl⟩
    go_wp2_with fail
    exact bodyPost_ret (v := I2 3 0) (by simp [results, Try.results18, go_sem]) rfl ⟨rfl, bal (Below.refl _ _) _⟩
  have E : mulR a b m = (0, a * b % m) := by simp [mulR, ha, hb, hA, hB]
  rw [E]; clear E ha hb
  have hA' := hA
  have hB' := hB
  simp only [inB, decide_eq_true_eq] at hA' hB'
  obtain ⟨a0, a1⟩ := hA'
  obtain ⟨b0, b1⟩ := hB'
  obtain ⟨p0, p1⟩ := M.mul_bd a0 (show a < m by omega) b0 (show b < m by omega) m1
  go_enter Try.func18, Try.ntmps18
  go_wp2_with fail
  refine (l1In_any _ _ _ _).mono ?_
  rintro r w' ⟨rfl, rfl⟩
  go_wp2_with fail
  refine (l1In_any _ _ _ _).mono ?_
  rintro r w' ⟨rfl, rfl⟩
  go_wp2_with fail
  refine (l1In_any _ _ _ _).mono ?_
  rintro r w' ⟨rfl, rfl⟩
  go_wp2_with fail
  exact bodyPost_ret (v := I2 0 (a * b % m)) (by simp [results, Try.results18, go_sem]) rfl ⟨rfl, bal (Below.refl _ _) _⟩

theorem specPowMod_any (a e m : Int) (w : World) :
    Calls Try.prog 19 #[.int .i64 a, .int .i64 e, .int .i64 m] w fun r w' => r = .returned (I2 (powR a e m).1 (powR a e m).2) ∧ Below w.heap.size w w' := by
  cases hM : inB m 1 1000000
  · have E : powR a e m = (3, 0) := by simp [powR, restB_out a m hM]
    rw [E]; clear E
    go_enter Try.func19, Try.ntmps19
    go_wp2_with fail
    refine (l1In_any _ _ _ _).mono ?_
    rintro r w' ⟨rfl, rfl⟩
    go_wp2_with fail
    exact bodyPost_ret (v := I2 3 0) (by simp [results, Try.results19, go_sem]) rfl ⟨rfl, bal (Below.refl _ _) _⟩
  have ha := restB_in a m hM
  have hM' := hM
  simp only [inB, decide_eq_true_eq] at hM'
  obtain ⟨m0, m1⟩ := hM'
  cases hA : inB a 0 (m - 1)
  · have E : powR a e m = (3, 0) := by simp [powR, ha, hA]
    rw [E]; clear E ha
    go_enter Try.func19, Try.ntmps19
    go_wp2_with fail
    refine (l1In_any _ _ _ _).mono ?_
    rintro r w' ⟨rfl, rfl⟩
    go_wp2_with fail
    refine (l1In_any _ _ _ _).mono ?_
    rintro r w' ⟨rfl, rfl⟩
    go_wp2_with fail
    exact bodyPost_ret (v := I2 3 0) (by simp [results, Try.results19, go_sem]) rfl ⟨rfl, bal (Below.refl _ _) _⟩
  cases hB : inB e 0 1000000000
  · have E : powR a e m = (3, 0) := by simp [powR, hB]
    rw [E]; clear E ha
    go_enter Try.func19, Try.ntmps19
    go_wp2_with fail
    refine (l1In_any _ _ _ _).mono ?_
    rintro r w' ⟨rfl, rfl⟩
    go_wp2_with fail
    refine (l1In_any _ _ _ _).mono ?_
    rintro r w' ⟨rfl, rfl⟩
    go_wp2_with fail
    refine (l1In_any _ _ _ _).mono ?_
    rintro r w' ⟨rfl, rfl⟩
    go_wp2_with fail
    exact bodyPost_ret (v := I2 3 0) (by simp [results, Try.results19, go_sem]) rfl ⟨rfl, bal (Below.refl _ _) _⟩
  have E : powR a e m = (0, M.pw a e.toNat m) := by simp [powR, ha, hA, hB]
  rw [E]; clear E ha
  have hA' := hA
  have hB' := hB
  simp only [inB, decide_eq_true_eq] at hA' hB'
  obtain ⟨a0, a1⟩ := hA'
  obtain ⟨b0, b1⟩ := hB'
  go_enter Try.func19, Try.ntmps19
  go_wp2_with fail
  refine (l1In_any _ _ _ _).mono ?_
  rintro r w' ⟨rfl, rfl⟩
  go_wp2_with fail
  refine (l1In_any _ _ _ _).mono ?_
  rintro r w' ⟨rfl, rfl⟩
  go_wp2_with fail
  refine (l1In_any _ _ _ _).mono ?_
  rintro r w' ⟨rfl, rfl⟩
  go_wp2_with fail
  refine (l1Pow_int _ _ _ _ m0 m1 a0 (by omega) b0 b1).mono ?_
  rintro r w' ⟨rfl, rfl⟩
  go_wp2_with fail
  exact bodyPost_ret (v := I2 0 (M.pw a e.toNat m)) (by simp [results, Try.results19, go_sem]) rfl ⟨rfl, bal (Below.refl _ _) _⟩

theorem eqInt_any (a b c d : Int) (w : World) (hac : a = c) (hbd : b = d) :
    Calls Try.prog 34 #[I2 a b, I2 c d] w fun r w' => r = .returned (.bool true) ∧ Below w.heap.size w w' := by
  subst hac; subst hbd
  go_enter Try.func34, Try.ntmps34
  go_wp2_with fail
  go_ret
  exact ⟨rfl, bal (bal (Below.refl _ _) _) _⟩

end Go.Proofs.Ytbjenjmnjlhoeaa
