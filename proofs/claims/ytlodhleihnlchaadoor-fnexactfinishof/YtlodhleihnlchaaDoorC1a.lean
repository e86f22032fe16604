/- Contracts of chapter 1's small functions: what each call answers, at every world. Conditions: as each theorem states. -/
import Derived.Test.YtlodhleihnlchaaDoorBase
import Derived.Test.YtlodhleihnlchaaDoorMath
namespace Go.Proofs.YtlodhleihnlchaaDoor
open Go.RowKit

def inB (v a b : Int) : Bool := decide (a ≤ v ∧ v ≤ b)

theorem l1In_any (v a b : Int) (w : World) :
    Calls Tryd.prog 45 #[.int .i64 v, .int .i64 a, .int .i64 b] w fun e w' => e = .returned (.bool (inB v a b)) ∧ w = w' := by
  by_cases h1 : a ≤ v
  · by_cases h2 : v ≤ b
    · have e : inB v a b = true := by simp [inB, h1, h2]
      rw [e]; clear e
      go_enter Tryd.func45, Tryd.ntmps45
      go_wp2
      go_ret
      simp
    · have e : inB v a b = false := by simp [inB, h2]
      rw [e]; clear e
      go_enter Tryd.func45, Tryd.ntmps45
      go_wp2
      go_ret
      simp
  · have e : inB v a b = false := by simp [inB, h1]
    rw [e]; clear e
    go_enter Tryd.func45, Tryd.ntmps45
    go_wp2
    go_ret
    simp

def restB (a m : Int) : Bool := decide (1 ≤ m ∧ m ≤ 1000000 ∧ 0 ≤ a ∧ a < m)

theorem isSecret_any (v : Int) (w : World) :
    Calls Tryd.prog 42 #[.int .i64 v] w fun e w' => e = .returned (.bool (inB v 1 1438)) ∧ w = w' := by
  by_cases h1 : 1 ≤ v
  · by_cases h2 : v ≤ 1438
    · have e : inB v 1 1438 = true := by simp [inB, h1, h2]
      rw [e]; clear e
      go_enter Tryd.func42, Tryd.ntmps42
      go_wp2
      go_ret
      simp
    · have e : inB v 1 1438 = false := by simp [inB, h2]
      rw [e]; clear e
      go_enter Tryd.func42, Tryd.ntmps42
      go_wp2
      go_ret
      simp
  · have e : inB v 1 1438 = false := by simp [inB, h1]
    rw [e]; clear e
    go_enter Tryd.func42, Tryd.ntmps42
    go_wp2
    go_ret
    simp

theorem l1Secret_any (v : Int) (w : World) :
    Calls Tryd.prog 25 #[.int .i64 v] w fun e w' => e = .returned (.bool (inB v 1 1438)) ∧ w = w' := by
  go_enter Tryd.func25, Tryd.ntmps25
  go_wp2_with fail
  refine (l1In_any _ _ _ _).mono ?_
  rintro e w' ⟨rfl, rfl⟩
  go_wp2
  go_ret
  simp

theorem product_none (m : Int) (w : World) (h1 : 1 ≤ m) (h2 : m ≤ 1000000) :
    Calls Tryd.prog 60 #[.int .i64 m, .slice none 0 0] w fun e w' => e = .returned (.int .i64 (1 % m)) ∧ w = w' := by
  go_enter Tryd.func60, Tryd.ntmps60
  go_wp2
  refine wp_loop_rounds 1 ?_
  rw [rounds_succ]; go_wp2
  go_ret
  simp

theorem product_two (m x y : Int) (b : Nat) (w : World) (h1 : 1 ≤ m) (h2 : m ≤ 1000000) (hx0 : 0 ≤ x) (hx1 : x < m) (hy0 : 0 ≤ y) (hy1 : y < m)
    (c0 : w.cell? ⟨b, 0, none⟩ = some (.int .i64 x)) (c1 : w.cell? ⟨b, 1, none⟩ = some (.int .i64 y)) :
    Calls Tryd.prog 60 #[.int .i64 m, .slice (some ⟨b, 0, none⟩) 2 2] w fun e w' => e = .returned (.int .i64 (x * y % m)) ∧ w = w' := by
  have b0 := M.mod_bd 1 h1
  have b1 := M.mod_bd (1 % m * x) h1
  have p1 := M.mul_bd b0.1 b0.2 hx0 hx1 h2
  have p2 := M.mul_bd b1.1 b1.2 hy0 hy1 h2
  obtain ⟨b00, b01⟩ := b0
  obtain ⟨b10, b11⟩ := b1
  obtain ⟨p10, p11⟩ := p1
  obtain ⟨p20, p21⟩ := p2
  go_enter Tryd.func60, Tryd.ntmps60
  go_wp2
  refine wp_loop_rounds 3 ?_
  rw [rounds_succ]; go_wp2
  rw [rounds_succ]; go_wp2
  rw [rounds_succ]; go_wp2
  go_ret
  exact ⟨by rw [M.prod2]; rfl, rfl⟩

theorem and_one (n : Int) : bits .and .i64 n 1 = n % 2 := by
  have h1 : (BitVec.ofInt 64 1).toNat = 2 ^ 1 - 1 := by decide
  have key : (BitVec.ofInt 64 n &&& BitVec.ofInt 64 1).toNat = (n % ((2 ^ 64 : Nat) : Int)).toNat % 2 ^ 1 := by
    rw [BitVec.toNat_and, BitVec.toNat_ofInt, h1, Nat.and_two_pow_sub_one_eq_mod]
  show IntKind.i64.wrap ((BitVec.ofInt 64 n &&& BitVec.ofInt 64 1).toNat : Nat) = n % 2
  rw [key, IntKind.wrap_i64]
  omega

theorem bit_of (e k : Nat) : bits .and .i64 ((e : Int) / 2 ^ k) 1 = ((e / 2 ^ k % 2 : Nat) : Int) := by
  rw [and_one]; simp

theorem power_any (m a : Int) (e : Nat) (w : World) (h1 : 1 ≤ m) (h2 : m ≤ 1000000) (ha0 : 0 ≤ a) (ha1 : a < m) :
    Calls Tryd.prog 43 #[.int .i64 m, .int .i64 a, .int .i64 e] w fun r w' => r = .returned (.int .i64 (M.pw a (e % 2 ^ 30) m)) ∧ Below w.heap.size w w' := by
  go_enter Tryd.func43, Tryd.ntmps43
  go_wp2_with fail
  refine (product_none _ _ h1 h2).mono ?_
  rintro r w' ⟨rfl, rfl⟩
  go_wp2_with fail
  go_loopw [7, 8, 13] (fun v q i wr => ∃ k : Nat, k ≤ 30 ∧ i = .int .i64 k ∧ v = .int .i64 (M.pw a (e % 2 ^ k) m) ∧ q = .int .i64 (M.pw a (2 ^ k) m) ∧ Below w.heap.size w wr) (fun _ _ i _ => 30 - (intOf i).toNat)
  case atStart => exact ⟨0, by omega, rfl, by rw [Nat.pow_zero, Nat.mod_one, M.pw_zero], by rw [Nat.pow_zero, M.pw_one ha0 ha1], Below.refl _ _⟩
  case round =>
    obtain ⟨k, hk, rfl, rfl, rfl, hb⟩ := hrel
    obtain ⟨v0, v1⟩ := M.pw_bd a (e % 2 ^ k) h1
    obtain ⟨q0, q1⟩ := M.pw_bd a (2 ^ k) h1
    by_cases hlt : k < 30
    · have hn := bit_of e k
      have Hs := Lib.hid (M.square a k m)
      have hz := hb.size
      by_cases ho : e / 2 ^ k % 2 = 1
      · have ht : (bits .and .i64 ((e : Int) / 2 ^ k) 1 == 1) = true := by rw [hn, ho]; rfl
        have H1 := Lib.hid (M.bit_one a e k m ho)
        clear hn ho
        go_wp2_with fail
        refine (product_two _ _ _ _ _ h1 h2 v0 v1 q0 q1 (by go_simp) (by go_simp)).mono ?_
        rintro r w' ⟨rfl, rfl⟩
        go_wp2_with fail
        refine (product_two _ _ _ _ _ h1 h2 q0 q1 q0 q1 (by go_simp) (by go_simp)).mono ?_
        rintro r w' ⟨rfl, rfl⟩
        go_wp2_with fail
        go_roundw
        case rel => exact ⟨k + 1, by omega, by go_num, by rw [H1.out], by rw [Hs.out], (hb.alloc hz _).alloc (by simp; omega) _⟩
        case measure => simp [intOf]; omega
      · have h0 : e / 2 ^ k % 2 = 0 := by omega
        have ht : (bits .and .i64 ((e : Int) / 2 ^ k) 1 == 1) = false := by rw [hn, h0]; rfl
        have H1 := Lib.hid (M.bit_zero a e k m h0)
        clear hn ho h0
        go_wp2_with fail
        refine (product_two _ _ _ _ _ h1 h2 q0 q1 q0 q1 (by go_simp) (by go_simp)).mono ?_
        rintro r w' ⟨rfl, rfl⟩
        go_wp2_with fail
        go_roundw
        case rel => exact ⟨k + 1, by omega, by go_num, by rw [H1.out], by rw [Hs.out], hb.alloc hz _⟩
        case measure => simp [intOf]; omega
    · obtain rfl : k = 30 := by omega
      go_wp2_with fail
      go_ret
      exact ⟨rfl, hb⟩

theorem power_int (m a e : Int) (w : World) (h1 : 1 ≤ m) (h2 : m ≤ 1000000) (ha0 : 0 ≤ a) (ha1 : a < m) (he0 : 0 ≤ e) (he1 : e ≤ 1000000000) :
    Calls Tryd.prog 43 #[.int .i64 m, .int .i64 a, .int .i64 e] w fun r w' => r = .returned (.int .i64 (M.pw a e.toNat m)) ∧ Below w.heap.size w w' := by
  obtain ⟨n, rfl⟩ := Int.eq_ofNat_of_zero_le he0
  have h : n % 2 ^ 30 = n := Nat.mod_eq_of_lt (by omega)
  have c := power_any m a n w h1 h2 ha0 ha1
  rw [h] at c
  exact c

end Go.Proofs.YtlodhleihnlchaaDoor
