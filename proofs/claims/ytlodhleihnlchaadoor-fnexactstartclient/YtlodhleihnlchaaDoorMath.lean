/- Plain facts on pows and remainders of whole numbers, with no program in them. No condition. -/
namespace Go.Proofs.YtlodhleihnlchaaDoor.M

theorem emod_mul (a b m : Int) : a % m * (b % m) % m = a * b % m := (Int.mul_emod a b m).symm
theorem emod_mul_l (a b m : Int) : a % m * b % m = a * b % m := by rw [Int.mul_emod, Int.emod_emod, ← Int.mul_emod]
theorem emod_mul_r (a b m : Int) : a * (b % m) % m = a * b % m := by rw [Int.mul_emod, Int.emod_emod, ← Int.mul_emod]

/-- What m leaves of a to the pow e. -/
def pw (a : Int) (e : Nat) (m : Int) : Int := a ^ e % m

theorem pw_bd (a : Int) (e : Nat) {m : Int} (h : 1 ≤ m) : 0 ≤ pw a e m ∧ pw a e m < m :=
  ⟨Int.emod_nonneg _ (by omega), Int.emod_lt_of_pos _ (by omega)⟩
theorem pw_zero (a m : Int) : pw a 0 m = 1 % m := by unfold pw; rw [Int.pow_zero]
theorem pw_one {a m : Int} (h0 : 0 ≤ a) (h : a < m) : pw a 1 m = a := by
  unfold pw; rw [Int.pow_succ, Int.pow_zero, Int.one_mul]; exact Int.emod_eq_of_lt h0 h
theorem pw_add (a : Int) (e f : Nat) (m : Int) : pw a e m * pw a f m % m = pw a (e + f) m := by
  unfold pw; rw [emod_mul, Int.pow_add]
theorem pw_base (a : Int) (e : Nat) (m : Int) : pw (a % m) e m = pw a e m := by
  unfold pw
  induction e with
  | zero => rw [Int.pow_zero, Int.pow_zero]
  | succ n ih => rw [Int.pow_succ, Int.pow_succ, Int.mul_emod, ih, Int.emod_emod, ← Int.mul_emod]
theorem pw_pw (a : Int) (e f : Nat) (m : Int) : pw (pw a e m) f m = pw a (e * f) m := by
  show pw (a ^ e % m) f m = _
  rw [pw_base]; unfold pw; rw [Int.pow_mul]
theorem pw_one_base (e : Nat) (m : Int) : pw 1 e m = 1 % m := by unfold pw; rw [Int.one_pow]

/-- a round of the loop over bits, the bit is 1. -/
theorem bit_one (a : Int) (e k : Nat) (m : Int) (h : e / 2 ^ k % 2 = 1) : pw a (e % 2 ^ k) m * pw a (2 ^ k) m % m = pw a (e % 2 ^ (k + 1)) m := by
  rw [pw_add]; congr 1
  rw [Nat.pow_succ, Nat.mod_mul, h, Nat.mul_one]
theorem bit_zero (a : Int) (e k : Nat) (m : Int) (h : e / 2 ^ k % 2 = 0) : pw a (e % 2 ^ k) m = pw a (e % 2 ^ (k + 1)) m := by
  congr 1
  rw [Nat.pow_succ, Nat.mod_mul, h, Nat.mul_zero, Nat.add_zero]
theorem square (a : Int) (k : Nat) (m : Int) : pw a (2 ^ k) m * pw a (2 ^ k) m % m = pw a (2 ^ (k + 1)) m := by
  rw [pw_add]; congr 1; rw [Nat.pow_succ]; omega

/-- what the loop of the model keeps: n times a to the e is the answer. -/
def Keep (A : Int) (E : Nat) (m n a : Int) (e : Nat) : Prop := n * a ^ e % m = A ^ E % m
theorem keep_start (A : Int) (E : Nat) (m : Int) : Keep A E m (1 % m) A E := by
  unfold Keep; rw [emod_mul_l, Int.one_mul]
theorem keep_odd {A : Int} {E : Nat} {m n a : Int} {e : Nat} (h : Keep A E m n a e) (ho : e % 2 = 1) : Keep A E m (n * a % m) (a * a % m) (e / 2) := by
  unfold Keep at *
  have h1 : (a * a % m) ^ (e / 2) % m = (a * a) ^ (e / 2) % m := pw_base (a * a) (e / 2) m
  rw [Int.mul_emod, h1, Int.emod_emod, ← Int.mul_emod, ← h]
  congr 1
  rw [show a * a = a ^ 2 from by rw [Int.pow_succ, Int.pow_succ, Int.pow_zero, Int.one_mul], ← Int.pow_mul, Int.mul_assoc]
  congr 1
  rw [← Int.pow_succ']; congr 1; omega
theorem keep_even {A : Int} {E : Nat} {m n a : Int} {e : Nat} (h : Keep A E m n a e) (ho : e % 2 = 0) : Keep A E m n (a * a % m) (e / 2) := by
  unfold Keep at *
  have h1 : (a * a % m) ^ (e / 2) % m = (a * a) ^ (e / 2) % m := pw_base (a * a) (e / 2) m
  rw [Int.mul_emod, h1, ← Int.mul_emod, ← h]
  congr 1
  rw [show a * a = a ^ 2 from by rw [Int.pow_succ, Int.pow_succ, Int.pow_zero, Int.one_mul], ← Int.pow_mul]
  congr 2; omega
theorem keep_end {A : Int} {E : Nat} {m n a : Int} (h : Keep A E m n a 0) (h0 : 0 ≤ n) (h1 : n < m) : n = pw A E m := by
  unfold Keep at h
  rw [Int.pow_zero, Int.mul_one, Int.emod_eq_of_lt h0 h1] at h
  exact h
theorem mul_bd {x y M : Int} (hx : 0 ≤ x) (hx' : x < M) (hy : 0 ≤ y) (hy' : y < M) (hM : M ≤ 1000000) : 0 ≤ x * y ∧ x * y ≤ 1000000000000 := by
  refine ⟨Int.mul_nonneg hx hy, ?_⟩
  calc x * y ≤ 1000000 * 1000000 := Int.mul_le_mul (by omega) (by omega) hy (by omega)
    _ = 1000000000000 := by decide
theorem mod_bd (x : Int) {m : Int} (h : 1 ≤ m) : 0 ≤ x % m ∧ x % m < m := ⟨Int.emod_nonneg _ (by omega), Int.emod_lt_of_pos _ (by omega)⟩
theorem prod2 (x y m : Int) : 1 % m * x % m * y % m = x * y % m := by rw [emod_mul_l 1 x m, Int.one_mul, emod_mul_l]
end Go.Proofs.YtlodhleihnlchaaDoor.M
