/- Facts on the small group of chapter 1: each number from 1 to 2878 has one that undoes it; pows of 4 are public numbers; two have one number in common. No condition beside the bounds. -/
import Derived.Test.YtlodhleihnlchaaDoorMath
namespace Go.Proofs.YtlodhleihnlchaaDoor.M

def allB (f : Nat → Bool) : Nat → Bool
  | 0 => true
  | n + 1 => f n && allB f n
theorem allB_out {f : Nat → Bool} {n : Nat} (h : allB f n = true) {k : Nat} (hk : k < n) : f k = true := by
  induction n with
  | zero => omega
  | succ n ih =>
    simp only [allB, Bool.and_eq_true] at h
    rcases Nat.lt_or_ge k n with h1 | h1
    · exact ih h.2 h1
    · obtain rfl : k = n := by omega
      exact h.1

theorem pw_nat (v e m : Nat) : pw v e m = ((v ^ e % m : Nat) : Int) := by
  unfold pw; rw [← Int.natCast_pow, ← Int.natCast_emod]

theorem fermat_all : allB (fun v => v == 0 || v ^ 2878 % 2879 == 1) 2879 = true := by decide +kernel
theorem fermat {v : Int} (h0 : 1 ≤ v) (h1 : v ≤ 2878) : pw v 2878 2879 = 1 := by
  obtain ⟨n, rfl⟩ := Int.eq_ofNat_of_zero_le (show 0 ≤ v by omega)
  have h := allB_out fermat_all (k := n) (by omega)
  simp only [Bool.or_eq_true, beq_iff_eq] at h
  have hn : n ^ 2878 % 2879 = 1 := by
    rcases h with h | h
    · omega
    · exact h
  have := pw_nat n 2878 2879
  rw [hn] at this
  exact this

theorem inv_mul {v : Int} (h0 : 1 ≤ v) (h1 : v ≤ 2878) : v * pw v 2877 2879 % 2879 = 1 := by
  have e : pw v 1 2879 = v := pw_one (by omega) (by omega)
  have := pw_add v 1 2877 2879
  rw [e] at this
  rw [this]
  exact fermat h0 h1
theorem inv_pos {v : Int} (h0 : 1 ≤ v) (h1 : v ≤ 2878) : 1 ≤ pw v 2877 2879 ∧ pw v 2877 2879 ≤ 2878 := by
  have b := pw_bd v 2877 (m := 2879) (by omega)
  have h := inv_mul h0 h1
  have : pw v 2877 2879 ≠ 0 := by
    intro e
    rw [e, Int.mul_zero] at h
    exact absurd h (by decide)
  omega
theorem inv_inv {v : Int} (h0 : 1 ≤ v) (h1 : v ≤ 2878) : pw (pw v 2877 2879) 2877 2879 = v := by
  rw [pw_pw]
  have e : 2877 * 2877 = 2878 * 2876 + 1 := by decide
  rw [e, ← pw_add, ← pw_pw, fermat h0 h1, pw_one_base, pw_one (by omega) (by omega)]
  show 1 * v % 2879 = v
  rw [Int.one_mul]; exact Int.emod_eq_of_lt (by omega) (by omega)

theorem base_order : pw 4 1439 2879 = 1 := by
  have := pw_nat 4 1439 2879
  have e : 4 ^ 1439 % 2879 = 1 := by decide +kernel
  rw [e] at this; exact this
theorem base_all : allB (fun a => a == 0 || (2 ≤ 4 ^ a % 2879 && 4 ^ a % 2879 ≤ 2878)) 1439 = true := by decide +kernel
theorem base_pub (a : Nat) (h0 : 1 ≤ a) (h1 : a ≤ 1438) : 2 ≤ pw 4 a 2879 ∧ pw 4 a 2879 ≤ 2878 := by
  have h := allB_out base_all (k := a) (by omega)
  simp only [Bool.or_eq_true, beq_iff_eq, Bool.and_eq_true, decide_eq_true_eq] at h
  have := pw_nat 4 a 2879
  rw [show ((4 : Nat) : Int) = 4 from rfl, show ((2879 : Nat) : Int) = 2879 from rfl] at this
  rw [this]
  omega
theorem base_mod (n : Nat) : pw 4 n 2879 = pw 4 (n % 1439) 2879 := by
  have e : n = 1439 * (n / 1439) + n % 1439 := by omega
  have h : pw 4 (1439 * (n / 1439)) 2879 = 1 := by rw [← pw_pw, base_order, pw_one_base]; rfl
  have h2 := pw_add 4 (1439 * (n / 1439)) (n % 1439) 2879
  rw [h, ← e, Int.one_mul] at h2
  rw [← h2]
  have b := pw_bd 4 (n % 1439) (m := 2879) (by omega)
  exact Int.emod_eq_of_lt b.1 b.2
theorem base_raised (n : Nat) : pw (pw 4 n 2879) 1439 2879 = 1 := by
  rw [pw_pw, Nat.mul_comm, ← pw_pw, base_order, pw_one_base]; rfl
theorem gcd_all : allB (fun a => a == 0 || Nat.gcd 1439 a == 1) 1439 = true := by decide +kernel
theorem prod_mod {a b : Nat} (a0 : 1 ≤ a) (a1 : a ≤ 1438) (b0 : 1 ≤ b) (b1 : b ≤ 1438) : 1 ≤ a * b % 1439 ∧ a * b % 1439 ≤ 1438 := by
  have h := allB_out gcd_all (k := a) (by omega)
  simp only [Bool.or_eq_true, beq_iff_eq] at h
  have hg : Nat.gcd 1439 a = 1 := by omega
  have hne : a * b % 1439 ≠ 0 := by
    intro e
    have hd : 1439 ∣ b := Nat.Coprime.dvd_of_dvd_mul_left hg (Nat.dvd_of_mod_eq_zero e)
    have := Nat.le_of_dvd (by omega) hd
    omega
  have := Nat.mod_lt (a * b) (show 1439 > 0 by omega)
  omega
theorem shared_eq (a b : Nat) : pw (pw 4 b 2879) a 2879 = pw (pw 4 a 2879) b 2879 := by
  rw [pw_pw, pw_pw, Nat.mul_comm]
theorem shared_bd {a b : Nat} (a0 : 1 ≤ a) (a1 : a ≤ 1438) (b0 : 1 ≤ b) (b1 : b ≤ 1438) : 2 ≤ pw (pw 4 b 2879) a 2879 ∧ pw (pw 4 b 2879) a 2879 ≤ 2878 := by
  have h := prod_mod b0 b1 a0 a1
  rw [pw_pw, base_mod]
  exact base_pub _ h.1 h.2
theorem shared_raised (a b : Nat) : pw (pw (pw 4 b 2879) a 2879) 1439 2879 = 1 := by
  rw [pw_pw 4 b a]; exact base_raised _
end Go.Proofs.YtlodhleihnlchaaDoor.M
