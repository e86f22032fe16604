/- Contracts of chapter 1's exported functions and of their model's. Conditions: as each theorem states. -/
import Derived.Test.YtlodhleihnlchaaDoorC1a
namespace Go.Proofs.YtlodhleihnlchaaDoor
open Go.RowKit

theorem l1Pow_any (a : Int) (e : Nat) (m : Int) (w : World) (h1 : 1 ≤ m) (h2 : m ≤ 1000000) (ha0 : 0 ≤ a) (ha1 : a < m) (he : e ≤ 1000000000) :
    Calls Tryd.prog 65 #[.int .i64 a, .int .i64 e, .int .i64 m] w fun r w' => r = .returned (.int .i64 (M.pw a e m)) ∧ w = w' := by
  obtain ⟨o0, o1⟩ := M.mod_bd 1 h1
  go_enter Tryd.func65, Tryd.ntmps65
  go_wp2_with fail
  go_loop [0, 1, 7] (fun x y z => ∃ (b n : Int) (k : Nat), x = .int .i64 b ∧ y = .int .i64 k ∧ z = .int .i64 n ∧ 0 ≤ b ∧ b < m ∧ 0 ≤ n ∧ n < m ∧ k ≤ 1000000000 ∧ M.Keep a e m n b k) (fun _ y _ => (intOf y).toNat)
  case atStart => exact ⟨a, 1 % m, e, rfl, rfl, rfl, ha0, ha1, o0, o1, he, M.keep_start a e m⟩
  case round =>
    obtain ⟨b, n, k, rfl, rfl, rfl, b0, b1, n0, n1, hk, hkeep⟩ := hrel
    obtain ⟨p0, p1⟩ := M.mul_bd b0 b1 b0 b1 h2
    obtain ⟨q0, q1⟩ := M.mul_bd n0 n1 b0 b1 h2
    obtain ⟨r0, r1⟩ := M.mod_bd (b * b) h1
    obtain ⟨s0, s1⟩ := M.mod_bd (n * b) h1
    by_cases hz : 0 < k
    · by_cases ho : k % 2 = 1
      · have H1 := Lib.hid (M.keep_odd hkeep ho)
        have ht : ((k : Int) % 2 == 1) = true := by rw [beq_iff_eq]; omega
        clear ho hkeep
        go_wp2_with fail
        go_round
        case rel => exact ⟨b * b % m, n * b % m, k / 2, rfl, by go_num, rfl, r0, r1, s0, s1, by omega, H1.out⟩
        case measure => simp [intOf]; omega
      · have H1 := Lib.hid (M.keep_even hkeep (by omega))
        have ht : ((k : Int) % 2 == 1) = false := by rw [beq_eq_false_iff_ne]; omega
        clear ho hkeep
        go_wp2_with fail
        go_round
        case rel => exact ⟨b * b % m, n, k / 2, rfl, by go_num, rfl, r0, r1, n0, n1, by omega, H1.out⟩
        case measure => simp [intOf]; omega
    · obtain rfl : k = 0 := by omega
      have H1 := Lib.hid (M.keep_end hkeep n0 n1)
      clear hkeep
      go_wp2_with fail
      go_ret
      exact ⟨by rw [← H1.out]; rfl, rfl⟩

theorem l1Pow_int (a e m : Int) (w : World) (h1 : 1 ≤ m) (h2 : m ≤ 1000000) (ha0 : 0 ≤ a) (ha1 : a < m) (he0 : 0 ≤ e) (he1 : e ≤ 1000000000) :
    Calls Tryd.prog 65 #[.int .i64 a, .int .i64 e, .int .i64 m] w fun r w' => r = .returned (.int .i64 (M.pw a e.toNat m)) ∧ w = w' := by
  obtain ⟨n, rfl⟩ := Int.eq_ofNat_of_zero_le he0
  exact l1Pow_any a n m w h1 h2 ha0 ha1 (by omega)

theorem l1Raise_int (a e : Int) (w : World) (ha0 : 0 ≤ a) (ha1 : a < 2879) (he0 : 0 ≤ e) (he1 : e ≤ 1000000000) :
    Calls Tryd.prog 53 #[.int .i64 a, .int .i64 e] w fun r w' => r = .returned (.int .i64 (M.pw a e.toNat 2879)) ∧ w = w' := by
  go_enter Tryd.func53, Tryd.ntmps53
  go_wp2_with fail
  refine (l1Pow_int _ _ _ _ (by omega) (by omega) ha0 ha1 he0 he1).mono ?_
  rintro r w' ⟨rfl, rfl⟩
  go_wp2_with fail
  go_ret
  simp

abbrev I2 (c v : Int) : Value := .agg #[.int .i64 c, .int .i64 v]

theorem fld0 (a b : Int) (w : World) : Sem.run Tryd.prog (Instr.field 50 (.agg #[.int .i64 a, .int .i64 b]) 0) w = .ok (.int .i64 a) w := by kernel_rfl
theorem fld1 (a b : Int) (w : World) : Sem.run Tryd.prog (Instr.field 50 (.agg #[.int .i64 a, .int .i64 b]) 1) w = .ok (.int .i64 b) w := by kernel_rfl

def mulR (a b m : Int) : Int × Int := if restB a m && restB b m then (0, a * b % m) else (3, 0)
def powR (a e m : Int) : Int × Int := if restB a m && inB e 0 1000000000 then (0, M.pw a e.toNat m) else (3, 0)

theorem restB_in (a m : Int) (h : inB m 1 1000000 = true) : restB a m = inB a 0 (m - 1) := by
  simp only [inB, decide_eq_true_eq] at h
  unfold restB inB
  rw [decide_eq_decide]; omega
theorem restB_out (a m : Int) (h : inB m 1 1000000 = false) : restB a m = false := by
  simp only [inB, decide_eq_false_iff_not] at h
  simp only [restB, decide_eq_false_iff_not]; omega

theorem eqInt_any (a b c d : Int) (w : World) (hac : a = c) (hbd : b = d) :
    Calls Tryd.prog 19 #[I2 a b, I2 c d] w fun r w' => r = .returned (.bool true) ∧ Below w.heap.size w w' := by
  subst hac; subst hbd
  go_enter Tryd.func19, Tryd.ntmps19
  go_wp2_with fail
  go_ret
  exact ⟨rfl, bal (bal (Below.refl _ _) _) _⟩

end Go.Proofs.YtlodhleihnlchaaDoor
