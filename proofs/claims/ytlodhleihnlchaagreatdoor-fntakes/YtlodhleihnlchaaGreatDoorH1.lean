/- Texts of this seat that several laws rest on, laid into one. Conditions: as each theorem states. -/
import Derived.Test.YtlodhleihnlchaaGreatDoorH0
import Derived.Deep.AppendSrc
import Derived.Deep.MidRow
import Derived.Deep.Upon
import Derived.OwnWalk
import Derived.RegionTactic
import Derived.Laws.IdiomStrings
import Derived.Lib.SlBytesConst
namespace Go.Proofs.YtlodhleihnlchaaGreatDoor
open Go.RowKit

theorem l1Pow_any (a : Int) (e : Nat) (m : Int) (w : World) (h1 : 1 ≤ m) (h2 : m ≤ 1000000) (ha0 : 0 ≤ a) (ha1 : a < m) (he : e ≤ 1000000000) :
    Calls Tryz.prog 293 #[.int .i64 a, .int .i64 e, .int .i64 m] w fun r w' => r = .returned (.int .i64 (M.pw a e m)) ∧ w = w' := by
  obtain ⟨o0, o1⟩ := M.mod_bd 1 h1
  go_enter Tryz.func293, Tryz.ntmps293
  go_wp2_with fail
  go_loop [0, 1, 7] (fun x y z => ∃ (b n : Int) (k : Nat), x = .int .i64 b ∧ y = .int .i64 k ∧ z = .int .i64 n ∧ 0 ≤ b ∧ b < m ∧ 0 ≤ n ∧ n < m ∧ k ≤ 1000000000 ∧ M.Keep a e m n b k) (fun _ y _ => (intOf y).toNat)
  case atStart => exact ⟨a, 1 % m, e, rfl, rfl, rfl, ha0, ha1, o0, o1, he, M.keep_start a e m⟩
  case round =>
    obtain ⟨b, n, k, rfl, rfl, rfl, b0, b1, n0, n1, hk, hkeep⟩ := hrel
    obtain ⟨p0, p1⟩ := M.mul_bd b0 b1 b0 b1 h2
    obtain ⟨q0, q1⟩ := M.mul_bd n0 n1 b0 b1 h2
    obtain ⟨r0, r1⟩ := M.mod_bd (b * b) h1
    obtain ⟨s0, s1⟩ := M.mod_bd (n * b) h1
    by_cases hz : 0 < k
    · by_cases ho : k % 2 = 1
      · have H1 := Lib.hid (M.keep_odd hkeep ho)
        have ht : ((k : Int) % 2 == 1) = true := by rw [beq_iff_eq]; omega
        clear ho hkeep
        go_wp2_with fail
        go_round
        case rel => exact ⟨b * b % m, n * b % m, k / 2, rfl, by go_num, rfl, r0, r1, s0, s1, by omega, H1.out⟩
        case measure => simp [intOf]; omega
      · have H1 := Lib.hid (M.keep_even hkeep (by omega))
        have ht : ((k : Int) % 2 == 1) = false := by rw [beq_eq_false_iff_ne]; omega
        clear ho hkeep
        go_wp2_with fail
        go_round
        case rel => exact ⟨b * b % m, n, k / 2, rfl, by go_num, rfl, r0, r1, n0, n1, by omega, H1.out⟩
        case measure => simp [intOf]; omega
    · obtain rfl : k = 0 := by omega
      have H1 := Lib.hid (M.keep_end hkeep n0 n1)
      clear hkeep
      go_wp2_with fail
      go_ret
      exact ⟨by rw [← H1.out]; rfl, rfl⟩

theorem l1Pow_int (a e m : Int) (w : World) (h1 : 1 ≤ m) (h2 : m ≤ 1000000) (ha0 : 0 ≤ a) (ha1 : a < m) (he0 : 0 ≤ e) (he1 : e ≤ 1000000000) :
    Calls Tryz.prog 293 #[.int .i64 a, .int .i64 e, .int .i64 m] w fun r w' => r = .returned (.int .i64 (M.pw a e.toNat m)) ∧ w = w' := by
  obtain ⟨n, rfl⟩ := Int.eq_ofNat_of_zero_le he0
  exact l1Pow_any a n m w h1 h2 ha0 ha1 (by omega)

theorem l1Raise_int (a e : Int) (w : World) (ha0 : 0 ≤ a) (ha1 : a < 2879) (he0 : 0 ≤ e) (he1 : e ≤ 1000000000) :
    Calls Tryz.prog 251 #[.int .i64 a, .int .i64 e] w fun r w' => r = .returned (.int .i64 (M.pw a e.toNat 2879)) ∧ w = w' := by
  go_enter Tryz.func251, Tryz.ntmps251
  go_wp2_with fail
  refine (l1Pow_int _ _ _ _ (by omega) (by omega) ha0 ha1 he0 he1).mono ?_
  rintro r w' ⟨rfl, rfl⟩
  go_wp2_with fail
  go_ret
  simp

abbrev I2 (c v : Int) : Value := .agg #[.int .i64 c, .int .i64 v]

theorem fld0 (a b : Int) (w : World) : Sem.run Tryz.prog (Instr.field 49 (.agg #[.int .i64 a, .int .i64 b]) 0) w = .ok (.int .i64 a) w := by kernel_rfl
theorem fld1 (a b : Int) (w : World) : Sem.run Tryz.prog (Instr.field 49 (.agg #[.int .i64 a, .int .i64 b]) 1) w = .ok (.int .i64 b) w := by kernel_rfl

end Go.Proofs.YtlodhleihnlchaaGreatDoor
namespace Go.Proofs.YtlodhleihnlchaaGreatDoor
open Go.RowKit

def pubB (v : Int) : Bool := inB v 2 2878 && (M.pw v 1439 2879 == 1)
def keyR (s : Int) : Int × Int × Int := if inB s 1 1438 then (0, s, M.pw 4 s.toNat 2879) else (3, 0, 0)
def sharedR (s p : Int) : Int × Int := if inB s 1 1438 && pubB p then (0, M.pw p s.toNat 2879) else (3, 0)
abbrev I3 (c u v : Int) : Value := .agg #[.int .i64 c, .int .i64 u, .int .i64 v]

theorem l1Public_any (v : Int) (w : World) :
    Calls Tryz.prog 174 #[.int .i64 v] w fun r w' => r = .returned (.bool (pubB v)) ∧ w = w' := by
  cases hV : inB v 2 2878
  · have E : pubB v = false := by simp [pubB, hV]
    rw [E]; clear E
    go_enter Tryz.func174, Tryz.ntmps174
    go_wp2_with fail
    refine (l1In_any _ _ _ _).mono ?_
    rintro r w' ⟨rfl, rfl⟩
    go_wp2_with fail
    go_ret
    simp
  have hV' := hV
  simp only [inB, decide_eq_true_eq] at hV'
  obtain ⟨v0, v1⟩ := hV'
  cases hP : (M.pw v 1439 2879 == 1)
  · have E : pubB v = false := by simp only [pubB, hP, Bool.and_false]
    rw [E]; clear E
    go_enter Tryz.func174, Tryz.ntmps174
    go_wp2_with fail
    refine (l1In_any _ _ _ _).mono ?_
    rintro r w' ⟨rfl, rfl⟩
    go_wp2_with fail
    refine (l1Raise_int _ _ _ (by omega) (by omega) (by omega) (by omega)).mono ?_
    rintro r w' ⟨rfl, rfl⟩
    go_wp2_with fail
    go_ret
    simp
  have E : pubB v = true := by simp only [pubB, hV, hP, Bool.and_true]
  rw [E]; clear E
  go_enter Tryz.func174, Tryz.ntmps174
  go_wp2_with fail
  refine (l1In_any _ _ _ _).mono ?_
  rintro r w' ⟨rfl, rfl⟩
  go_wp2_with fail
  refine (l1Raise_int _ _ _ (by omega) (by omega) (by omega) (by omega)).mono ?_
  rintro r w' ⟨rfl, rfl⟩
  go_wp2_with fail
  go_ret
  simp

theorem implIsPublic_any (v : Int) (w : World) :
    Calls Tryz.prog 105 #[.int .i64 v] w fun r w' => r = .returned (.bool (pubB v)) ∧ Below w.heap.size w w' := by
  by_cases h0 : 2 ≤ v
  · by_cases h1 : v ≤ 2878
    · cases hP : (M.pw v 1439 2879 == 1)
      · have E : pubB v = false := by simp only [pubB, hP, Bool.and_false]
        rw [E]; clear E
        go_enter Tryz.func105, Tryz.ntmps105
        go_wp2_with fail
        refine (power_int _ _ _ _ (by omega) (by omega) (by omega) (by omega) (by omega) (by omega)).mono ?_
        rintro r w1 ⟨rfl, hb_w1⟩
        obtain ⟨hc_w1, hf_w1⟩ := bcell hb_w1
        have hz_w1 := hb_w1.size
        (try simp at hz_w1)
        go_wp2_with fail
        go_ret
        exact ⟨rfl, hb_w1⟩
      · have E : pubB v = true := by simp only [pubB, inB, h0, h1, hP, Bool.and_true, and_self, decide_true]
        rw [E]; clear E
        go_enter Tryz.func105, Tryz.ntmps105
        go_wp2_with fail
        refine (power_int _ _ _ _ (by omega) (by omega) (by omega) (by omega) (by omega) (by omega)).mono ?_
        rintro r w1 ⟨rfl, hb_w1⟩
        obtain ⟨hc_w1, hf_w1⟩ := bcell hb_w1
        have hz_w1 := hb_w1.size
        (try simp at hz_w1)
        go_wp2_with fail
        go_ret
        exact ⟨rfl, hb_w1⟩
    · have E : pubB v = false := by simp [pubB, inB, h1]
      rw [E]; clear E
      go_enter Tryz.func105, Tryz.ntmps105
      go_wp2_with fail
      go_ret
      exact ⟨rfl, Below.refl _ _⟩
  · have E : pubB v = false := by simp [pubB, inB, h0]
    rw [E]; clear E
    go_enter Tryz.func105, Tryz.ntmps105
    go_wp2_with fail
    go_ret
    exact ⟨rfl, Below.refl _ _⟩

theorem implKeyOf_any (s : Int) (w : World) :
    Calls Tryz.prog 69 #[.int .i64 s] w fun r w' => r = .returned (I3 (keyR s).1 (keyR s).2.1 (keyR s).2.2) ∧ Below w.heap.size w w' := by
  cases hS : inB s 1 1438
  · have E : keyR s = (3, 0, 0) := by simp [keyR, hS]
    rw [E]; clear E
    go_enter Tryz.func69, Tryz.ntmps69
    go_wp2_with fail
    refine (isSecret_any _ _).mono ?_
    rintro r w' ⟨rfl, rfl⟩
    go_wp2_with fail
    exact bodyPost_ret (v := I3 3 0 0) (by simp [results, Tryz.results69, go_sem]) rfl ⟨rfl, bal (Below.refl _ _) _⟩
  have E : keyR s = (0, s, M.pw 4 s.toNat 2879) := by simp [keyR, hS]
  rw [E]; clear E
  have hS' := hS
  simp only [inB, decide_eq_true_eq] at hS'
  obtain ⟨s0, s1⟩ := hS'
  go_enter Tryz.func69, Tryz.ntmps69
  go_wp2_with fail
  refine (isSecret_any _ _).mono ?_
  rintro r w' ⟨rfl, rfl⟩
  go_wp2_with fail
  refine (power_int _ _ _ _ (by omega) (by omega) (by omega) (by omega) (by omega) (by omega)).mono ?_
  rintro r w1 ⟨rfl, hb_w1⟩
  obtain ⟨hc_w1, hf_w1⟩ := bcell hb_w1
  have hz_w1 := hb_w1.size
  (try simp at hz_w1)
  go_wp2_with fail
  exact bodyPost_ret (v := I3 0 s (M.pw 4 s.toNat 2879)) (by simp [results, Tryz.results69, go_sem, hc_w1]) rfl ⟨rfl, bset (bset (bset (btr (bal (Below.refl _ _) _) hb_w1) (Nat.le_refl _) _) (Nat.le_refl _) _) (Nat.le_refl _) _⟩

theorem l1Key_any (s : Int) (w : World) (s0 : 0 ≤ s) (s1 : s ≤ 1000000000) :
    Calls Tryz.prog 187 #[.int .i64 s] w fun r w' => r = .returned (I2 s (M.pw 4 s.toNat 2879)) ∧ Below w.heap.size w w' := by
  go_enter Tryz.func187, Tryz.ntmps187
  go_wp2_with fail
  refine (l1Raise_int _ _ _ (by omega) (by omega) (by omega) (by omega)).mono ?_
  rintro r w' ⟨rfl, rfl⟩
  go_wp2_with fail
  exact bodyPost_ret (v := I2 s (M.pw 4 s.toNat 2879)) (by simp [results, Tryz.results187, go_sem]) rfl ⟨rfl, bal (Below.refl _ _) _⟩

theorem pubB_bd {p : Int} (h : pubB p = true) : 2 ≤ p ∧ p ≤ 2878 := by
  simp only [pubB, inB, Bool.and_eq_true, decide_eq_true_eq] at h; exact h.1

theorem implSharedOf_any (s p : Int) (w : World) :
    Calls Tryz.prog 79 #[.int .i64 s, .int .i64 p] w fun r w' => r = .returned (I2 (sharedR s p).1 (sharedR s p).2) ∧ Below w.heap.size w w' := by
  cases hS : inB s 1 1438
  · have E : sharedR s p = (3, 0) := by simp [sharedR, hS]
    rw [E]; clear E
    go_enter Tryz.func79, Tryz.ntmps79
    go_wp2_with fail
    refine (isSecret_any _ _).mono ?_
    rintro r w' ⟨rfl, rfl⟩
    go_wp2_with fail
    exact bodyPost_ret (v := I2 3 0) (by simp [results, Tryz.results79, go_sem]) rfl ⟨rfl, bal (Below.refl _ _) _⟩
  cases hP : pubB p
  · have E : sharedR s p = (3, 0) := by simp [sharedR, hP]
    rw [E]; clear E
    go_enter Tryz.func79, Tryz.ntmps79
    go_wp2_with fail
    refine (isSecret_any _ _).mono ?_
    rintro r w' ⟨rfl, rfl⟩
    go_wp2_with fail
    refine (implIsPublic_any _ _).mono ?_
    rintro r w1 ⟨rfl, hb_w1⟩
    obtain ⟨hc_w1, hf_w1⟩ := bcell hb_w1
    have hz_w1 := hb_w1.size
    (try simp at hz_w1)
    go_wp2_with fail
    exact bodyPost_ret (v := I2 3 0) (by simp [results, Tryz.results79, go_sem, hc_w1]) rfl ⟨rfl, bset (bset (btr (bal (Below.refl _ _) _) hb_w1) (Nat.le_refl _) _) (Nat.le_refl _) _⟩
  have E : sharedR s p = (0, M.pw p s.toNat 2879) := by simp [sharedR, hS, hP]
  rw [E]; clear E
  have hS' := hS
  simp only [inB, decide_eq_true_eq] at hS'
  obtain ⟨s0, s1⟩ := hS'
  obtain ⟨p0, p1⟩ := pubB_bd hP
  go_enter Tryz.func79, Tryz.ntmps79
  go_wp2_with fail
  refine (isSecret_any _ _).mono ?_
  rintro r w' ⟨rfl, rfl⟩
  go_wp2_with fail
  refine (implIsPublic_any _ _).mono ?_
  rintro r w1 ⟨rfl, hb_w1⟩
  obtain ⟨hc_w1, hf_w1⟩ := bcell hb_w1
  have hz_w1 := hb_w1.size
  (try simp at hz_w1)
  go_wp2_with fail
  refine (power_int _ _ _ _ (by omega) (by omega) (by omega) (by omega) (by omega) (by omega)).mono ?_
  rintro r w2 ⟨rfl, hb_w2⟩
  obtain ⟨hc_w2, hf_w2⟩ := bcell hb_w2
  have hz_w2 := hb_w2.size
  (try simp at hz_w2)
  have hz : w.heap.size < w1.heap.size := by omega
  go_wp2_with fail
  exact bodyPost_ret (v := I2 0 (M.pw p s.toNat 2879)) (by simp [results, Tryz.results79, go_sem, hc_w1, hc_w2, hz]) rfl ⟨rfl, bset (bset (btr (btr (bal (Below.refl _ _) _) hb_w1) hb_w2) (Nat.le_refl _) _) (Nat.le_refl _) _⟩

end Go.Proofs.YtlodhleihnlchaaGreatDoor
namespace Go.Proofs.YtlodhleihnlchaaGreatDoor.M
open Go.Proofs.YtlodhleihnlchaaGreatDoor (inB pubB)

def nonceN (s t : Int) : Int := 1 + tagL nonceS [s, t] % 1438
def chalN (p q t : Int) : Int := tagL signS [p, q, t] % 1439
def pubN (s : Int) : Int := pw 4 s.toNat 2879
def sigPt (s t : Int) : Int := pw 4 (nonceN s t).toNat 2879
def sigPr (s t : Int) : Int := (nonceN s t + chalN (pubN s) (sigPt s t) t * s) % 1439
def signR (s t : Int) : Int × Int × Int := if inB s 1 1438 && sumB t then (0, sigPt s t, sigPr s t) else (3, 0, 0)
def sigB (p q : Int) : Bool := pubB p && inB q 0 1438
def sigF (p q : Int) : Int := if sigB p q then 0 else 3
def checkB (u t p q : Int) : Bool := pubB u && sumB t && sigB p q && (pw 4 q.toNat 2879 == p * pw u (chalN u p t).toNat 2879 % 2879)
theorem nonceN_bd (s t : Int) : 1 ≤ nonceN s t ∧ nonceN s t ≤ 1438 := by unfold nonceN; omega
theorem chalN_bd (p q t : Int) : 0 ≤ chalN p q t ∧ chalN p q t ≤ 1438 := by unfold chalN; omega
theorem sigPr_bd (s t : Int) : 0 ≤ sigPr s t ∧ sigPr s t ≤ 1438 := by unfold sigPr; omega
theorem pub_pow {a : Int} (a0 : 1 ≤ a) (a1 : a ≤ 1438) : pubB (pw 4 a.toNat 2879) = true := by
  have h := base_pub a.toNat (by omega) (by omega)
  simp only [pubB, inB, Bool.and_eq_true, decide_eq_true_eq, beq_iff_eq]
  exact ⟨h, base_raised _⟩
theorem sigPt_pub (s t : Int) : pubB (sigPt s t) = true := pub_pow (nonceN_bd s t).1 (nonceN_bd s t).2
theorem sigB_signed (s t : Int) : sigB (sigPt s t) (sigPr s t) = true := by
  have h := sigPr_bd s t
  simp only [sigB, sigPt_pub, inB, Bool.true_and, decide_eq_true_eq]
  exact h
theorem sum_of_pub {p : Int} (h : pubB p = true) : sumB p = true := by
  have := Go.Proofs.YtlodhleihnlchaaGreatDoor.pubB_bd h
  simp only [sumB, decide_eq_true_eq]; omega
theorem sum_of_sec {p : Int} (h : inB p 1 1438 = true) : sumB p = true := by
  simp only [inB, decide_eq_true_eq] at h
  simp only [sumB, decide_eq_true_eq]; omega
theorem pow_sum {a : Int} (e : Nat) : sumB (pw a e 2879) = true := by
  have := pw_bd a e (m := 2879) (by omega)
  simp only [sumB, decide_eq_true_eq]; omega

theorem sign_eq {s t : Int} (s0 : 1 ≤ s) : pw 4 (sigPr s t).toNat 2879 = sigPt s t * pw (pubN s) (chalN (pubN s) (sigPt s t) t).toNat 2879 % 2879 := by
  have hh := nonceN_bd s t
  have he := chalN_bd (pubN s) (sigPt s t) t
  unfold sigPr
  generalize chalN (pubN s) (sigPt s t) t = e at *
  unfold sigPt pubN
  generalize nonceN s t = h at *
  rw [pw_pw, pw_add]
  rw [base_mod (h.toNat + s.toNat * e.toNat)]
  congr 1
  obtain ⟨h, rfl⟩ := Int.eq_ofNat_of_zero_le (show 0 ≤ h by omega)
  obtain ⟨e, rfl⟩ := Int.eq_ofNat_of_zero_le he.1
  obtain ⟨s, rfl⟩ := Int.eq_ofNat_of_zero_le (show 0 ≤ s by omega)
  have q : ((h : Int) + (e : Int) * (s : Int)) % 1439 = ((h + e * s) % 1439 : Nat) := by simp
  rw [q]
  show (h + e * s) % 1439 = (h + s * e) % 1439
  rw [Nat.mul_comm s e]
theorem checked {s t : Int} (hs : inB s 1 1438 = true) (ht : sumB t = true) : checkB (pubN s) t (sigPt s t) (sigPr s t) = true := by
  have hs' := hs
  simp only [inB, decide_eq_true_eq] at hs'
  have hp : pubB (pubN s) = true := pub_pow hs'.1 hs'.2
  have he := sign_eq (t := t) hs'.1
  simp only [checkB, hp, ht, sigB_signed, Bool.and_self, Bool.true_and, beq_iff_eq]
  exact he
theorem sigB_bd {p q : Int} (h : sigB p q = true) : 2 ≤ p ∧ p ≤ 2878 ∧ 0 ≤ q ∧ q ≤ 1438 := by
  simp only [sigB, Bool.and_eq_true] at h
  have := Go.Proofs.YtlodhleihnlchaaGreatDoor.pubB_bd h.1
  have h2 := h.2
  simp only [inB, decide_eq_true_eq] at h2
  omega
end Go.Proofs.YtlodhleihnlchaaGreatDoor.M
namespace Go.Proofs.YtlodhleihnlchaaGreatDoor
set_option linter.unusedVariables false

def helF (l : List UInt8) (r s : Int) : Int := if M.sumB r && pubB s then M.normF l else 3
def repF (r s p x y f : Int) : Int := if M.sumB r && pubB s && pubB p && M.sumB f then M.sigF x y else 3
theorem helF_no {l : List UInt8} {r s : Int} (h : (M.sumB r && pubB s) = false) : helF l r s = 3 := by simp [helF, h]
theorem helF_yes {l : List UInt8} {r s : Int} (h : (M.sumB r && pubB s) = true) : helF l r s = M.normF l := by simp [helF, h]
theorem helF_zero {l : List UInt8} {r s : Int} (h : helF l r s = 0) : M.sumB r = true ∧ pubB s = true ∧ M.normF l = 0 := by
  cases hc : (M.sumB r && pubB s)
  · rw [helF_no hc] at h
    omega
  · rw [helF_yes hc] at h
    simp only [Bool.and_eq_true] at hc
    exact ⟨hc.1, hc.2, h⟩
theorem repF_no {r s p x y f : Int} (h : (M.sumB r && pubB s && pubB p && M.sumB f) = false) : repF r s p x y f = 3 := by simp [repF, h]
theorem repF_yes {r s p x y f : Int} (h : (M.sumB r && pubB s && pubB p && M.sumB f) = true) : repF r s p x y f = M.sigF x y := by simp [repF, h]
theorem repF_zero {r s p x y f : Int} (h : repF r s p x y f = 0) : M.sumB r = true ∧ pubB s = true ∧ pubB p = true ∧ M.sumB f = true ∧ M.sigB x y = true := by
  cases hc : (M.sumB r && pubB s && pubB p && M.sumB f)
  · rw [repF_no hc] at h
    omega
  · rw [repF_yes hc] at h
    simp only [Bool.and_eq_true] at hc
    refine ⟨hc.1.1.1, hc.1.1.2, hc.1.2, hc.2, ?_⟩
    unfold M.sigF at h
    split at h
    · assumption
    · omega
theorem pub_bd {p : Int} (h : pubB p = true) : 0 ≤ p ∧ p ≤ 2878 := by
  simp only [pubB, inB, Bool.and_eq_true, decide_eq_true_eq] at h
  omega
theorem pub_sum6 {p : Int} (h : pubB p = true) : M.sumB p = true := by
  have := pub_bd h
  simp only [M.sumB, decide_eq_true_eq]
  omega
theorem hel_size {n : ByteArray} {r s : Int} (h : helF n.data.toList r s = 0) : n.size ≤ 20 := by
  have h4 := (M.nameF_zero (M.normF_zero (helF_zero h).2.2).1).1
  have hL : n.data.toList.length = n.size := by simp
  omega
def helHead (r s : Int) : List Int := [1] ++ M.two r ++ M.two s
def packH (n : ByteArray) (r s : Int) : List Int := helHead r s ++ M.textL n
def frontR (r s p : Int) : List Int := [2] ++ M.two r ++ M.two s ++ M.two p
theorem helHead_length (r s : Int) : (helHead r s).length = 5 := rfl
theorem frontR_length (r s p : Int) : (frontR r s p).length = 7 := rfl
theorem packH_length (n : ByteArray) (r s : Int) : (packH n r s).length = 5 + n.size := by
  unfold packH
  rw [List.length_append, helHead_length, M.textL_length]
theorem two_byte {v : Int} (h : M.sumB v = true) : ∀ z ∈ M.two v, M.byteB z := by
  intro z hz
  simp only [M.sumB, decide_eq_true_eq] at h
  simp only [M.two, List.mem_cons, List.not_mem_nil, or_false] at hz
  unfold M.byteB
  omega
theorem packH_byte {n : ByteArray} {r s : Int} (h : helF n.data.toList r s = 0) : ∀ z ∈ packH n r s, M.byteB z := by
  intro z hz
  obtain ⟨h1, h2, -⟩ := helF_zero h
  simp only [packH, helHead, List.mem_append] at hz
  rcases hz with ((hz | hz) | hz) | hz
  · simp only [List.mem_cons, List.not_mem_nil, or_false] at hz
    unfold M.byteB
    omega
  · exact two_byte h1 z hz
  · exact two_byte (pub_sum6 h2) z hz
  · exact M.textL_byte n z hz
end Go.Proofs.YtlodhleihnlchaaGreatDoor
namespace Go.Proofs.YtlodhleihnlchaaGreatDoor
set_option linter.unusedVariables false

def masterN (sh he : Int) : Int := M.tagL M.masterS [sh, he]
def finN (sh he : Int) : Int := M.tagL M.finishS [masterN sh he]
def upN (sh he : Int) : Int := M.tagL M.upS [masterN sh he]
def downN (sh he : Int) : Int := M.tagL M.downS [masterN sh he]
def verN (he : Int) : Int := M.tagL M.verifyS [he]
theorem tag_sum11 (s : ByteArray) (zs : List Int) : M.sumB (M.tagL s zs) = true := by
  have := M.tagL_bd s zs
  simp only [M.sumB, decide_eq_true_eq]
  omega
theorem masterN_sum (sh he : Int) : M.sumB (masterN sh he) = true := tag_sum11 _ _
theorem finN_sum (sh he : Int) : M.sumB (finN sh he) = true := tag_sum11 _ _
theorem verN_sum (he : Int) : M.sumB (verN he) = true := tag_sum11 _ _
theorem heardL_sum (zss : List (List Int)) : M.sumB (M.heardL zss) = true := tag_sum11 _ _

structure TakD where
  c : Int
  r : Int
  s : Int
  p : Int
  x : Int
  y : Int
  f : Int
  u : Int
  d : Int
  h : Int
  k : Int
def tak0 (c : Int) : TakD := ⟨c, 0, 0, 0, 0, 0, 0, 0, 0, 0, 0⟩
def keysK (sh he pb : Int) : TakD := ⟨0, 0, 0, 0, 0, 0, 0, upN sh he, downN sh he, he, pb⟩
def keysB (sh he pb : Int) : Bool := pubB sh && M.sumB he && pubB pb
def keysT (sh he pb : Int) : TakD := if keysB sh he pb then keysK sh he pb else tak0 3
theorem keysT_no {sh he pb : Int} (h : keysB sh he pb = false) : keysT sh he pb = tak0 3 := by simp [keysT, h]
theorem keysT_yes {sh he pb : Int} (h : keysB sh he pb = true) : keysT sh he pb = keysK sh he pb := by simp [keysT, h]
def finR (sh he : Int) : Int × Int := if pubB sh && M.sumB he then (0, finN sh he) else (3, 0)

def cliF (k r s : Int) (n : ByteArray) : Int := if inB k 1 1438 then (if helF n.data.toList r s = 0 then (if M.pubN k = s then 0 else 1) else helF n.data.toList r s) else 3
theorem cliF_sec {k r s : Int} {n : ByteArray} (h : inB k 1 1438 = false) : cliF k r s n = 3 := by simp [cliF, h]
theorem cliF_hel {k r s : Int} {n : ByteArray} (h : inB k 1 1438 = true) (h2 : ¬ helF n.data.toList r s = 0) : cliF k r s n = helF n.data.toList r s := by simp [cliF, h, h2]
theorem cliF_form {k r s : Int} {n : ByteArray} (h : inB k 1 1438 = true) (h2 : helF n.data.toList r s = 0) (h3 : ¬ M.pubN k = s) : cliF k r s n = 1 := by simp [cliF, h, h2, h3]
theorem cliF_yes {k r s : Int} {n : ByteArray} (h : inB k 1 1438 = true) (h2 : helF n.data.toList r s = 0) (h3 : M.pubN k = s) : cliF k r s n = 0 := by simp [cliF, h, h2, h3]
theorem cliF_zero {k r s : Int} {n : ByteArray} (h : cliF k r s n = 0) : inB k 1 1438 = true ∧ helF n.data.toList r s = 0 ∧ M.pubN k = s := by
  cases h1 : inB k 1 1438
  · rw [cliF_sec h1] at h
    omega
  · by_cases h2 : helF n.data.toList r s = 0
    · by_cases h3 : M.pubN k = s
      · exact ⟨rfl, h2, h3⟩
      · rw [cliF_form h1 h2 h3] at h
        omega
    · rw [cliF_hel h1 h2] at h
      exact absurd h h2

def staC (k rd : Int) (n : ByteArray) : Int := if inB k 1 1438 && M.sumB rd then M.nameF n.data.toList else 3
def staI (k rd : Int) (n : ByteArray) (v : Int) : Int := if staC k rd n = 0 then v else 0
def staN (k rd : Int) (n : ByteArray) : ByteArray := if staC k rd n = 0 then M.bs (M.nrm n.data.toList) else { data := #[] }
theorem staC_no {k rd : Int} {n : ByteArray} (h : (inB k 1 1438 && M.sumB rd) = false) : staC k rd n = 3 := by simp [staC, h]
theorem staC_yes {k rd : Int} {n : ByteArray} (h : (inB k 1 1438 && M.sumB rd) = true) : staC k rd n = M.nameF n.data.toList := by simp [staC, h]
theorem staC_zero {k rd : Int} {n : ByteArray} (h : staC k rd n = 0) : inB k 1 1438 = true ∧ M.sumB rd = true ∧ M.nameF n.data.toList = 0 := by
  cases hc : (inB k 1 1438 && M.sumB rd)
  · rw [staC_no hc] at h
    omega
  · rw [staC_yes hc] at h
    simp only [Bool.and_eq_true] at hc
    exact ⟨hc.1, hc.2, h⟩

def heN (n : ByteArray) (r s rd sh pb : Int) : Int := M.heardL [packH n r s, frontR rd sh pb]
def shN (k s : Int) : Int := M.pw s k.toNat 2879
def ansB (i s rd : Int) : Bool := inB i 1 1438 && inB s 1 1438 && M.sumB rd
def ansH (i s rd : Int) (n : ByteArray) (r0 s0 : Int) : Int := heN n r0 s0 rd (M.pubN s) (M.pubN i)
def ansD (i s rd : Int) (n : ByteArray) (r0 s0 : Int) : TakD :=
  ⟨0, rd, M.pubN s, M.pubN i, M.sigPt i (verN (ansH i s rd n r0 s0)), M.sigPr i (verN (ansH i s rd n r0 s0)), finN (shN s s0) (ansH i s rd n r0 s0), upN (shN s s0) (ansH i s rd n r0 s0), downN (shN s s0) (ansH i s rd n r0 s0), ansH i s rd n r0 s0, M.pubN i⟩
def ansT (i s rd : Int) (n : ByteArray) (r0 s0 : Int) : TakD := if ansB i s rd then (if helF n.data.toList r0 s0 = 0 then ansD i s rd n r0 s0 else tak0 (helF n.data.toList r0 s0)) else tak0 3
theorem ansT_no {i s rd : Int} {n : ByteArray} {r0 s0 : Int} (h : ansB i s rd = false) : ansT i s rd n r0 s0 = tak0 3 := by simp [ansT, h]
theorem ansT_hel {i s rd : Int} {n : ByteArray} {r0 s0 : Int} (h : ansB i s rd = true) (h2 : ¬ helF n.data.toList r0 s0 = 0) : ansT i s rd n r0 s0 = tak0 (helF n.data.toList r0 s0) := by simp [ansT, h, h2]
theorem ansT_yes {i s rd : Int} {n : ByteArray} {r0 s0 : Int} (h : ansB i s rd = true) (h2 : helF n.data.toList r0 s0 = 0) : ansT i s rd n r0 s0 = ansD i s rd n r0 s0 := by simp [ansT, h, h2]

def takK (k : Int) (n : ByteArray) (r0 s0 r s p x y f : Int) : TakD :=
  ⟨0, r, s, p, x, y, f, upN (shN k s) (heN n r0 s0 r s p), downN (shN k s) (heN n r0 s0 r s p), heN n r0 s0 r s p, p⟩
def takC (k r0 s0 : Int) (n : ByteArray) (r s p x y f : Int) : Int :=
  if cliF k r0 s0 n = 0 then (if repF r s p x y f = 0 then (if M.checkB p (verN (heN n r0 s0 r s p)) x y then (if f = finN (shN k s) (heN n r0 s0 r s p) then 0 else 8) else 9) else repF r s p x y f) else cliF k r0 s0 n
def takT (k r0 s0 : Int) (n : ByteArray) (r s p x y f : Int) : TakD := if takC k r0 s0 n r s p x y f = 0 then takK k n r0 s0 r s p x y f else tak0 (takC k r0 s0 n r s p x y f)
section
variable {k r0 s0 : Int} {n : ByteArray} {r s p x y f : Int}
theorem takC_cli (h : ¬ cliF k r0 s0 n = 0) : takC k r0 s0 n r s p x y f = cliF k r0 s0 n := by simp [takC, h]
theorem takC_rep (h : cliF k r0 s0 n = 0) (h2 : ¬ repF r s p x y f = 0) : takC k r0 s0 n r s p x y f = repF r s p x y f := by simp [takC, h, h2]
theorem takC_sign (h : cliF k r0 s0 n = 0) (h2 : repF r s p x y f = 0) (h3 : M.checkB p (verN (heN n r0 s0 r s p)) x y = false) : takC k r0 s0 n r s p x y f = 9 := by simp [takC, h, h2, h3]
theorem takC_fin (h : cliF k r0 s0 n = 0) (h2 : repF r s p x y f = 0) (h3 : M.checkB p (verN (heN n r0 s0 r s p)) x y = true) (h4 : ¬ f = finN (shN k s) (heN n r0 s0 r s p)) : takC k r0 s0 n r s p x y f = 8 := by
  unfold takC
  rw [if_pos h, if_pos h2, if_pos h3, if_neg h4]
theorem takC_yes (h : cliF k r0 s0 n = 0) (h2 : repF r s p x y f = 0) (h3 : M.checkB p (verN (heN n r0 s0 r s p)) x y = true) (h4 : f = finN (shN k s) (heN n r0 s0 r s p)) : takC k r0 s0 n r s p x y f = 0 := by
  unfold takC
  rw [if_pos h, if_pos h2, if_pos h3, if_pos h4]
theorem takC_zero (h : takC k r0 s0 n r s p x y f = 0) : cliF k r0 s0 n = 0 ∧ repF r s p x y f = 0 ∧ M.checkB p (verN (heN n r0 s0 r s p)) x y = true ∧ f = finN (shN k s) (heN n r0 s0 r s p) := by
  by_cases h1 : cliF k r0 s0 n = 0
  · by_cases h2 : repF r s p x y f = 0
    · cases h3 : M.checkB p (verN (heN n r0 s0 r s p)) x y
      · rw [takC_sign h1 h2 h3] at h
        omega
      · by_cases h4 : f = finN (shN k s) (heN n r0 s0 r s p)
        · exact ⟨h1, h2, rfl, h4⟩
        · rw [takC_fin h1 h2 h3 h4] at h
          omega
    · rw [takC_rep h1 h2] at h
      exact absurd h h2
  · rw [takC_cli h1] at h
    exact absurd h h1
theorem takT_no (h : ¬ takC k r0 s0 n r s p x y f = 0) : takT k r0 s0 n r s p x y f = tak0 (takC k r0 s0 n r s p x y f) := by simp [takT, h]
theorem takT_yes (h : takC k r0 s0 n r s p x y f = 0) : takT k r0 s0 n r s p x y f = takK k n r0 s0 r s p x y f := by simp [takT, h]
end

theorem pub_of {k : Int} (h : inB k 1 1438 = true) : pubB (M.pubN k) = true := by
  simp only [inB, decide_eq_true_eq] at h
  exact M.pub_pow h.1 h.2
theorem sta_cli {k rd : Int} {n : ByteArray} (h : staC k rd n = 0) : cliF k rd (M.pubN k) (M.bs (M.nrm n.data.toList)) = 0 := by
  obtain ⟨h1, h2, h3⟩ := staC_zero h
  refine cliF_yes h1 ?_ rfl
  rw [helF_yes (by rw [h2, pub_of h1]; rfl), M.bs_list]
  exact M.normF_nrm h3
theorem ans_rep {i s rd : Int} {n : ByteArray} {r0 s0 : Int} (h : ansB i s rd = true) : repF rd (M.pubN s) (M.pubN i) (M.sigPt i (verN (ansH i s rd n r0 s0))) (M.sigPr i (verN (ansH i s rd n r0 s0))) (finN (shN s s0) (ansH i s rd n r0 s0)) = 0 := by
  simp only [ansB, Bool.and_eq_true] at h
  rw [repF_yes (by rw [h.2, pub_of h.1.1, pub_of h.1.2, finN_sum]; rfl)]
  simp [M.sigF, M.sigB_signed]
theorem ans_taken {k rd0 i s rd : Int} {n : ByteArray} (h : cliF k rd0 (M.pubN k) n = 0) (ha : ansB i s rd = true) :
    takT k rd0 (M.pubN k) n (ansD i s rd n rd0 (M.pubN k)).r (ansD i s rd n rd0 (M.pubN k)).s (ansD i s rd n rd0 (M.pubN k)).p (ansD i s rd n rd0 (M.pubN k)).x (ansD i s rd n rd0 (M.pubN k)).y (ansD i s rd n rd0 (M.pubN k)).f = ansD i s rd n rd0 (M.pubN k) := by
  have hr := ans_rep (n := n) (r0 := rd0) (s0 := M.pubN k) ha
  have ha' := ha
  simp only [ansB, Bool.and_eq_true] at ha'
  have hc := M.checked (s := i) (t := verN (ansH i s rd n rd0 (M.pubN k))) ha'.1.1 (verN_sum _)
  have e : shN k (M.pubN s) = shN s (M.pubN k) := by
    unfold shN M.pubN
    exact M.shared_eq k.toNat s.toNat
  have h0 : takC k rd0 (M.pubN k) n rd (M.pubN s) (M.pubN i) (M.sigPt i (verN (ansH i s rd n rd0 (M.pubN k)))) (M.sigPr i (verN (ansH i s rd n rd0 (M.pubN k)))) (finN (shN s (M.pubN k)) (ansH i s rd n rd0 (M.pubN k))) = 0 :=
    takC_yes h hr hc (by rw [e]; rfl)
  show takT k rd0 (M.pubN k) n rd (M.pubN s) (M.pubN i) (M.sigPt i (verN (ansH i s rd n rd0 (M.pubN k)))) (M.sigPr i (verN (ansH i s rd n rd0 (M.pubN k)))) (finN (shN s (M.pubN k)) (ansH i s rd n rd0 (M.pubN k))) = _
  rw [takT_yes h0]
  unfold takK ansD
  rw [e]
  rfl

theorem inv_all11 : M.allB (fun s => s == 0 || s * (s ^ 1437 % 1439) % 1439 == 1) 1439 = true := by decide +kernel
theorem pw_order {p : Int} (h : M.pw p 1439 2879 = 1) (e : Nat) : M.pw p (1439 * e) 2879 = 1 := by
  rw [← M.pw_pw, h, M.pw_one_base]
  rfl
theorem shN_pub {k s : Int} (hk : inB k 1 1438 = true) (hs : pubB s = true) : pubB (shN k s) = true := by
  have hs' := hs
  simp only [pubB, inB, Bool.and_eq_true, decide_eq_true_eq, beq_iff_eq] at hs'
  obtain ⟨⟨s0, s1⟩, so⟩ := hs'
  simp only [inB, decide_eq_true_eq] at hk
  obtain ⟨k0, k1⟩ := hk
  have hb := M.pw_bd s k.toNat (m := 2879) (by omega)
  have ho : M.pw (M.pw s k.toNat 2879) 1439 2879 = 1 := by
    rw [M.pw_pw, Nat.mul_comm]
    exact pw_order so _
  have h0 : M.pw s k.toNat 2879 ≠ 0 := by
    intro e
    rw [e] at ho
    exact absurd ho (by decide +kernel)
  have h1 : M.pw s k.toNat 2879 ≠ 1 := by
    intro e
    have hi := M.allB_out inv_all11 (k := k.toNat) (by omega)
    simp only [Bool.or_eq_true, beq_iff_eq] at hi
    have hi2 : k.toNat * (k.toNat ^ 1437 % 1439) % 1439 = 1 := by
      rcases hi with hi | hi
      · omega
      · exact hi
    generalize k.toNat ^ 1437 % 1439 = u at *
    have h2 : M.pw s (k.toNat * u) 2879 = 1 := by
      rw [← M.pw_pw, e, M.pw_one_base]
      rfl
    have h3 : k.toNat * u = 1439 * (k.toNat * u / 1439) + 1 := by omega
    rw [h3, ← M.pw_add, pw_order so, M.pw_one (by omega) (by omega)] at h2
    omega
  unfold shN
  simp only [pubB, inB, ho, Bool.and_eq_true, decide_eq_true_eq, beq_self_eq_true, and_true]
  omega
theorem tak_keys {k r0 s0 : Int} {n : ByteArray} {r s p x y f : Int} (h : takC k r0 s0 n r s p x y f = 0) : keysT (shN k s) (heN n r0 s0 r s p) p = keysK (shN k s) (heN n r0 s0 r s p) p ∧ finR (shN k s) (heN n r0 s0 r s p) = (0, f) ∧ sharedR k s = (0, shN k s) := by
  obtain ⟨h1, h2, -, h4⟩ := takC_zero h
  obtain ⟨c1, -, -⟩ := cliF_zero h1
  obtain ⟨-, r2, r3, -, -⟩ := repF_zero h2
  have hp := shN_pub c1 r2
  refine ⟨keysT_yes ?_, ?_, ?_⟩
  · rw [keysB, hp, r3]
    unfold heN
    rw [heardL_sum]
    rfl
  · unfold finR
    rw [hp]
    unfold heN at *
    rw [heardL_sum, h4]
    rfl
  · unfold sharedR
    rw [c1, r2]
    rfl
theorem ver_key {he : Int} (h : M.sumB he = true) : M.keyD he M.verifyS = (0, verN he) := by
  have hl : M.labB M.verifyS = true := by decide +kernel
  simp only [M.keyD, h, hl, verN]
  rfl
end Go.Proofs.YtlodhleihnlchaaGreatDoor
namespace Go.Proofs.YtlodhleihnlchaaGreatDoor

structure ShakeT (k rd P i : Int) (N : ByteArray) (t : TakD) : Prop where
  taken : takT k rd P N t.r t.s t.p t.x t.y t.f = t
  code : t.c = 0
  key : t.k = M.pubN i
  rep : repF t.r t.s t.p t.x t.y t.f = 0
  heard : M.heardL [packH N rd P, frontR t.r t.s t.p] = t.h
theorem shake {k rd P i s d : Int} {N : ByteArray} (hc : cliF k rd P N = 0) (ha : ansB i s d = true) : ∃ t : TakD, ansT i s d N rd P = t ∧ ShakeT k rd P i N t := by
  obtain ⟨h1, h2, rfl⟩ := cliF_zero hc
  exact ⟨ansD i s d N rd (M.pubN k), ansT_yes ha h2, ⟨ans_taken hc ha, rfl, rfl, ans_rep ha, rfl⟩⟩
end Go.Proofs.YtlodhleihnlchaaGreatDoor
namespace Go.Proofs.YtlodhleihnlchaaGreatDoor
open Go.RowKit

def Own (w : World) (B size : Nat) (v : Value) (n : Nat) (xs : List Value) : Prop :=
  xs.length = n * size ∧ ((v = .slice none 0 0 ∧ n = 0) ∨
    ∃ g cap, v = .slice (some ⟨g, 0, none⟩) n cap ∧ B ≤ g ∧ g < w.heap.size ∧ n ≤ cap ∧ cap ≤ maxLen ∧
      (∀ j u, xs[j]? = some u → w.cell? ⟨g, j, none⟩ = some u) ∧ (∀ j, j < cap * size → (w.cell? ⟨g, j, none⟩).isSome = true ∧ w.frozen? ⟨g, j, none⟩ = false))

section
variable {w w' : World} {B size : Nat} {v : Value} {n : Nat} {xs : List Value}

theorem Own.nil (w : World) (B size : Nat) : Own w B size (.slice none 0 0) 0 [] := ⟨by simp, .inl ⟨rfl, rfl⟩⟩
theorem Own.lt (h : Own w B size v n xs) : ∀ k, v.ownBlock = some k → B ≤ k ∧ k < w.heap.size := by
  intro k hk
  rcases h.2 with ⟨rfl, _⟩ | ⟨g, cap, rfl, hb, hg, _⟩
  · simp [Value.ownBlock] at hk
  · simp [Value.ownBlock] at hk
    subst hk
    exact ⟨hb, hg⟩
theorem Own.keep (h : Own w B size v n xs) (hs : w.heap.size ≤ w'.heap.size) (hk : ∀ k, v.ownBlock = some k → w'.heap[k]? = w.heap[k]?) : Own w' B size v n xs := by
  refine ⟨h.1, ?_⟩
  rcases h.2 with hn | ⟨g, cap, rfl, hb, hg, h1, h2, hc, hf⟩
  · exact .inl hn
  · have e : w'.heap[g]? = w.heap[g]? := hk g rfl
    exact .inr ⟨g, cap, rfl, hb, by omega, h1, h2, fun j u hu => (World.cell?_of_block (w := w) e).trans (hc j u hu), fun j hj => by
      rw [World.cell?_of_block (w := w) (a := ⟨g, j, none⟩) e, World.frozen?_of_block (w := w) (a := ⟨g, j, none⟩) e]
      exact hf j hj⟩
theorem Own.below (h : Own w B size v n xs) (hb : Below w.heap.size w w') : Own w' B size v n xs :=
  h.keep hb.size fun k hk => hb.block k (h.lt k hk).2
theorem Own.alloc (h : Own w B size v n xs) (o : Obj) : Own (w.alloc o) B size v n xs :=
  h.keep (by simp) fun k hk => Below.heap_alloc w o k (h.lt k hk).2
theorem Own.drew (h : Own w B size v n xs) : Own w.drew B size v n xs := h
theorem Own.drewN (h : Own w B size v n xs) (k : Nat) : Own (w.drewN k) B size v n xs := h
theorem Own.setCell (h : Own w B size v n xs) {p : Addr} (hp : ∀ k, v.ownBlock = some k → k ≠ p.block) (u : Value) : Own (w.setCell p u) B size v n xs :=
  h.keep (by simp [World.setCell]) fun k hk => Below.heap_setCell w p u k (hp k hk)
theorem Own.kept {row : Option Nat} (h : Own w B size v n xs) (hg : w.grownBy w' row) (hne : v.ownBlock = none ∨ v.ownBlock ≠ row) : Own w' B size v n xs :=
  h.keep hg.size fun k hk => hg.block k (h.lt k hk).2 (by rcases hne with e | e <;> simp_all)
theorem Own.less {B' : Nat} (h : Own w B size v n xs) (hB : B' ≤ B) : Own w B' size v n xs := by
  refine ⟨h.1, ?_⟩
  rcases h.2 with hn | ⟨g, cap, rfl, hb, rest⟩
  · exact .inl hn
  · exact .inr ⟨g, cap, rfl, by omega, rest⟩
theorem Own.fits (h : Own w B size v n xs) : n ≤ maxLen := by
  rcases h.2 with ⟨_, rfl⟩ | ⟨g, cap, _, _, _, h1, h2, _⟩
  · exact Nat.zero_le _
  · omega
theorem Own.form (h : Own w B size v n xs) : ∃ a cap, v = .slice a n cap ∧ n ≤ cap ∧ cap ≤ maxLen ∧ (a = none → n = 0 ∧ cap = 0) := by
  rcases h.2 with ⟨rfl, rfl⟩ | ⟨g, cap, rfl, _, _, h1, h2, _⟩
  · exact ⟨none, 0, rfl, Nat.le_refl _, Nat.zero_le _, fun _ => ⟨rfl, rfl⟩⟩
  · exact ⟨_, cap, rfl, h1, h2, fun h => by cases h⟩

theorem Own.row {k : IntKind} {zs : List Int} {a : Option Addr} {len cap : Nat} (h : Own w B 1 (.slice a len cap) n (zs.map (Value.int k))) (hw : ∀ z ∈ zs, (Lit.int k z).wf = true) : Row k w w.heap.size a len cap zs := by
  have hl := h.1
  simp at hl
  rcases h.2 with ⟨e, rfl⟩ | ⟨g, c, e, hb, hg, h1, h2, hc, _⟩
  · injection e with e1 e2 e3
    subst e1; subst e2; subst e3
    obtain rfl : zs = [] := List.eq_nil_of_length_eq_zero hl
    exact Row.nil _ _ _
  · injection e with e1 e2 e3
    subst e1; subst e2; subst e3
    exact ⟨hl, hw, h1, h2, fun hp => ⟨g, 0, rfl, hg, fun j hj => by
      rw [Nat.zero_add]
      exact hc j _ (by simp [List.getD, show j < zs.length by omega])⟩⟩

theorem Own.made (w : World) (cur : Array Value) (e : TypeId) (cap : Nat) (hb : B ≤ w.heap.size) (hm : cap ≤ maxLen) (hs : cur.size = cap * size) :
    Own (w.alloc (.cells cur e)) B size (.slice (some ⟨w.heap.size, 0, none⟩) 0 cap) 0 [] := by
  have e1 : (w.alloc (.cells cur e)).heap[w.heap.size]? = some (.cells cur e) := (MapKept.heap_alloc w _).1
  refine ⟨by simp, .inr ⟨w.heap.size, cap, rfl, hb, by simp, Nat.zero_le _, hm, by simp, fun j hj => ?_⟩⟩
  unfold World.cell? World.frozen?
  rw [e1]
  simp [show j < cur.size by omega]

theorem Own.bytes (w : World) (cur : Array Value) (e : TypeId) (cap : Nat) (xs : List Value) (hb : B ≤ w.heap.size) (hn : n ≤ cap) (hm : cap ≤ maxLen) (hs : cur.size = cap) (hl : xs.length = n) (hx : cur.toList.take n = xs) (m1 : Nat) :
    Own (w.alloc (.cells cur e (cur.size, m1))) B 1 (.slice (some ⟨w.heap.size, 0, none⟩) n cap) n xs := by
  have e1 : (w.alloc (.cells cur e (cur.size, m1))).heap[w.heap.size]? = some (.cells cur e (cur.size, m1)) := (MapKept.heap_alloc w _).1
  refine ⟨by simp [hl], .inr ⟨w.heap.size, cap, rfl, hb, by simp, hn, hm, fun j u hu => ?_, fun j hj => ?_⟩⟩
  · unfold World.cell?
    rw [e1]
    rw [← hx, List.getElem?_take] at hu
    split at hu
    · simpa using hu
    · cases hu
  · unfold World.cell? World.frozen?
    rw [e1]
    simp [show j < cur.size by omega]
    intro h
    omega
end

section
variable {P : Program} (w : World)

theorem run_append_src (B : Nat) (t tx ty e : TypeId) (i : TypeInfo) (z : Value) (size bytes : Nat) (ht : P.underlying t = some (.slice e)) (hi : P.info? e = some i) (hz : i.zero = some z)
    (hsize : i.size = size) (hby : i.bytes = bytes) (hzs : z.cells.size = size)
    (v : Value) (n : Nat) (xs : List Value) (hown : Own w B size v n xs)
    (x : Value) (m : Nat) (news : List Value) (hs : Go.Src P size tx x m news w)
    (h63 : n + m ≤ maxLen) (hbytes : (n + m) * bytes ≤ 140737488355328) (hB : B ≤ w.heap.size) :
    ∃ v' w', (Builtin.append_ #[t, tx] ty #[v, x]).run P w = .ok v' w' ∧ Own w' B size v' (n + m) (xs ++ news) ∧ w.grownBy w' v.ownBlock ∧ (v'.ownBlock = v.ownBlock ∨ v'.ownBlock = some w.heap.size) := by
  subst hsize
  subst hby
  have hlen : (xs ++ news).length = (n + m) * i.size := by rw [List.length_append, hown.1, hs.newsLen, Nat.add_mul]
  have grown : ∀ (old : Nat) (row : Option Nat),
      Own (w.drew.alloc (.cells ((xs ++ news).toArray ++ Builtin.zeroCells z.cells (grownCap w (n + m) old e - (n + m))) e)) B i.size
        (.slice (some ⟨w.heap.size, 0, none⟩) (n + m) (grownCap w (n + m) old e)) (n + m) (xs ++ news) ∧
      w.grownBy (w.drew.alloc (.cells ((xs ++ news).toArray ++ Builtin.zeroCells z.cells (grownCap w (n + m) old e - (n + m))) e)) row := by
    intro old row
    have hge := grownCap_ge w (n + m) old e
    have hcm : grownCap w (n + m) old e ≤ maxLen := grownCap_le_maxLen w (n + m) old e h63
    have e1 := (MapKept.heap_alloc w.drew (.cells ((xs ++ news).toArray ++ Builtin.zeroCells z.cells (grownCap w (n + m) old e - (n + m))) e)).1
    have e2 : w.drew.heap.size = w.heap.size := rfl
    rw [e2] at e1
    refine ⟨⟨hlen, .inr ⟨w.heap.size, _, rfl, hB, by simp, hge, hcm, fun j u hu => ?_, fun j hj => ?_⟩⟩, ⟨rfl, rfl, rfl, by simp, fun k hk _ => Below.heap_alloc w.drew _ k hk⟩⟩
    · unfold World.cell?
      rw [e1]
      have hj := (List.getElem?_eq_some_iff.1 hu).1
      simp only [Array.getElem?_append, List.size_toArray, hj, if_true]
      simpa using hu
    · have hsz : j < ((xs ++ news).toArray ++ Builtin.zeroCells z.cells (grownCap w (n + m) old e - (n + m))).size := by
        simp only [Array.size_append, List.size_toArray, size_zeroCells, hzs, hlen, ← Nat.add_mul]
        rw [Nat.add_sub_cancel' hge]
        exact hj
      unfold World.cell? World.frozen?
      rw [e1]
      simp only [Array.getElem?_eq_getElem hsz]
      simp
  rcases hown.2 with ⟨rfl, rfl⟩ | ⟨g, cap, rfl, hbg, hgl, hnc, hcm, hcell, hroomc⟩
  · have hx : xs = [] := List.eq_nil_of_length_eq_zero (by simpa using hown.1)
    subst hx
    by_cases hm : m = 0
    · subst hm
      have hn : news = [] := List.eq_nil_of_length_eq_zero (by simpa using hs.newsLen)
      subst hn
      refine ⟨.slice none 0 0, w, ?_, Own.nil w B i.size, ⟨rfl, rfl, rfl, Nat.le_refl _, fun _ _ _ => rfl⟩, .inl rfl⟩
      rcases hs.kind with ⟨e', hk⟩ | hk <;> simp [Builtin.append_, run_underlying ht, run_underlying hk, sizeOf, typeInfo, hi, hs.len, hs.cells]
    · have hr := run_append_grow_src (P := P) w t tx ty e i z ht hi hz none 0 0 [] (run_firstCells_none w.drew i.size 0 0 0) x m news hs (by omega) (by simp only [maxLen] at h63; omega) (growslice_fits (by omega) hbytes)
      have hgr := grown 0 (Value.ownBlock (.slice none 0 0))
      exact ⟨_, _, hr, hgr.1, hgr.2, .inr rfl⟩
  · by_cases hroom : n + m ≤ cap
    · have hfit : ∀ j, j < news.length → n * i.size + j < cap * i.size := by
        intro j hj
        have h1 : (n + m) * i.size ≤ cap * i.size := Nat.mul_le_mul_right _ hroom
        rw [Nat.add_mul, ← hs.newsLen] at h1
        omega
      have hr := run_append_room_src (P := P) w t tx ty e i ht hi g 0 n cap x m news hs hroom
        (fun j hj => by rw [Nat.zero_add]; exact (hroomc _ (hfit j hj)).1) (fun j hj => by rw [Nat.zero_add]; exact (hroomc _ (hfit j hj)).2)
      rw [Nat.zero_add] at hr
      have hk := World.keptBut_setCells g (may := fun _ => True) news (n * i.size) w (fun _ _ => trivial)
      have hsz : (w.setCells g (n * i.size) news).heap.size = w.heap.size := by
        have : ∀ (vs : List Value) (o : Nat) (u : World), (u.setCells g o vs).heap.size = u.heap.size := by
          intro vs
          induction vs with
          | nil => intro o u; rfl
          | cons c cs ih => intro o u; show ((u.setCell _ _).setCells g _ cs).heap.size = _; rw [ih]; simp [World.setCell]
        exact this _ _ _
      have htp : ∀ (vs : List Value) (o : Nat) (u : World), (u.setCells g o vs).tape = u.tape := by
        intro vs
        induction vs with
        | nil => intro o u; rfl
        | cons c cs ih => intro o u; show ((u.setCell _ _).setCells g _ cs).tape = _; rw [ih]; rfl
      refine ⟨_, _, hr, ⟨hlen, .inr ⟨g, cap, rfl, hbg, by rw [hsz]; exact hgl, hroom, hcm, fun j u hu => ?_, fun j hj => ?_⟩⟩,
        ⟨World.os_setCells w g _ _, htp _ _ _, World.output_setCells w g _ _, by rw [hsz]; exact Nat.le_refl _, fun k hk hne => World.heap_setCells_other w g _ _ hk (fun e => hne (by simp [Value.ownBlock, e]))⟩, .inl rfl⟩
      · rcases Nat.lt_or_ge j xs.length with hj | hj
        · rw [World.cell?_setCells_out g news (n * i.size) w ⟨g, j, none⟩ (fun _ _ => .inl (by rw [← hown.1]; exact hj))]
          rw [List.getElem?_append_left hj] at hu
          exact hcell j u hu
        · rw [List.getElem?_append_right hj] at hu
          have hj2 := (List.getElem?_eq_some_iff.1 hu).1
          have key := World.cell?_setCells_in g news (n * i.size) w (fun j hj => (hroomc _ (hfit j hj)).1) (j - xs.length) hj2
          have eo : n * i.size + (j - xs.length) = j := by rw [← hown.1]; omega
          rw [eo] at key
          rw [key]
          rw [List.getElem?_eq_getElem hj2] at hu
          exact hu
      · refine ⟨World.isSome_setCells g news _ w _ (hroomc j hj).1, ?_⟩
        rw [World.frozen?_setCells]
        exact (hroomc j hj).2
    · have hold : (Builtin.firstCells i.size n (.slice (some ⟨g, 0, none⟩) n cap)).run P w.drew = .ok xs.toArray w.drew :=
        run_firstCells_some w.drew i.size n ⟨g, 0, none⟩ n cap xs hown.1 (fun j u hu => by
          have := hcell j u hu
          rw [Addr.add_lit, Nat.zero_add]
          exact this)
      have hr := run_append_grow_src (P := P) w t tx ty e i z ht hi hz (some ⟨g, 0, none⟩) n cap xs hold x m news hs (by omega) (by simp only [maxLen] at h63; omega) (growslice_fits (by omega) hbytes)
      have hgr := grown cap (Value.ownBlock (.slice (some ⟨g, 0, none⟩) n cap))
      exact ⟨_, _, hr, hgr.1, hgr.2, .inr rfl⟩

theorem wp_append_src {o : Oper} {a : Act} {K : Act → World → Prop} {Q : Exit → Act → World → Prop} (s y : Operand) (t tx : TypeId)
    (ho : o.op = .call { callee := .builtin .append, args := #[s, y], argTypes := #[t, tx] })
    (B : Nat) (e : TypeId) (i : TypeInfo) (z : Value) (size bytes : Nat) (ht : P.underlying t = some (.slice e)) (hi : P.info? e = some i) (hz : i.zero = some z)
    (hsize : i.size = size) (hby : i.bytes = bytes) (hzs : z.cells.size = size)
    (v : Value) (n : Nat) (xs : List Value) (hsv : a.eval s = v) (hown : Own w B size v n xs)
    (x : Value) (m : Nat) (news : List Value) (hx : a.eval y = x) (hs : Go.Src P size tx x m news w)
    (h63 : n + m ≤ maxLen) (hbytes : (n + m) * bytes ≤ 140737488355328) (hB : B ≤ w.heap.size)
    (h : ∀ v' w', Own w' B size v' (n + m) (xs ++ news) → w.grownBy w' v.ownBlock → (v'.ownBlock = v.ownBlock ∨ v'.ownBlock = some w.heap.size) → K (a.put o.dst v') w') : o.wp P a w K Q := by
  obtain ⟨v', w', hr, h2, h3, h4⟩ := run_append_src (P := P) w B t tx o.type e i z size bytes ht hi hz hsize hby hzs v n xs hown x m news hs h63 hbytes hB
  unfold Oper.wp execOp
  simp only [ho, resolve, invoke, builtin, Sem.run_bind, Sem.run_pure, Result.andThen_ok, List.map_toArray, List.map_cons, List.map_nil, hsv, hx, hr]
  exact h v' w' h2 h3 h4

theorem wpList_append_src {ops : Array Oper} {rest : List Oper} {o : Oper} {a : Act} {Q : Exit → Act → World → Prop} (hgd : o.guard = none) (s y : Operand) (t tx : TypeId)
    (ho : o.op = .call { callee := .builtin .append, args := #[s, y], argTypes := #[t, tx] })
    (B : Nat) (e : TypeId) (i : TypeInfo) (z : Value) (size bytes : Nat) (ht : P.underlying t = some (.slice e)) (hi : P.info? e = some i) (hz : i.zero = some z)
    (hsize : i.size = size) (hby : i.bytes = bytes) (hzs : z.cells.size = size)
    (v : Value) (n : Nat) (xs : List Value) (hsv : a.eval s = v) (hown : Own w B size v n xs)
    (x : Value) (m : Nat) (news : List Value) (hx : a.eval y = x) (hs : Go.Src P size tx x m news w)
    (h63 : n + m ≤ maxLen) (hbytes : (n + m) * bytes ≤ 140737488355328) (hB : B ≤ w.heap.size)
    (h : ∀ v' w', Own w' B size v' (n + m) (xs ++ news) → w.grownBy w' v.ownBlock → (v'.ownBlock = v.ownBlock ∨ v'.ownBlock = some w.heap.size) → wpList P ops Q rest (a.put o.dst v') w') : wpList P ops Q (o :: rest) a w :=
  wpList_plain hgd fun _ hK => wp_append_src w s y t tx ho B e i z size bytes ht hi hz hsize hby hzs v n xs hsv hown x m news hx hs h63 hbytes hB fun v' w' h2 h3 h4 => hK _ _ (h v' w' h2 h3 h4)

end

end Go.Proofs.YtlodhleihnlchaaGreatDoor
namespace Go.Proofs.YtlodhleihnlchaaGreatDoor
open Go.RowKit

theorem ret_int {k : IntKind} {a b : Int} (h : a = b) : Ending.returned (.int k a) = .returned (.int k b) := by rw [h]
theorem ret_bool {a b : Bool} (h : a = b) : Ending.returned (.bool a) = .returned (.bool b) := by rw [h]

theorem l2Sum_any (a : Option Addr) (len cap B : Nat) (zs : List Int) (w : World) (hR : Row .u8 w B a len cap zs) :
    Calls Tryz.prog 263 #[.slice a len cap] w fun e w' => e = .returned (.int .i64 (M.sumL zs)) ∧ w = w' := by
  have hlen := hR.fits
  have hmost := hR.most
  unfold maxLen at hmost
  have hL := Lib.hid hR.length
  rcases Nat.eq_zero_or_pos len with h0 | h0
  · subst h0
    obtain rfl : zs = [] := List.eq_nil_of_length_eq_zero hL.out
    go_enter Tryz.func263, Tryz.ntmps263
    go_wp2_with fail
    refine wp_loop_rounds 1 ?_
    rw [rounds_succ]; go_wp2_with fail
    go_ret
    exact ⟨rfl, rfl⟩
  · obtain ⟨b, off, rfl, hb, hc⟩ := hR.cells h0
    have Hc := Lib.hid hc
    have HB := Lib.hid hR.byte
    clear hc hR
    go_enter Tryz.func263, Tryz.ntmps263
    go_wp2_with fail
    go_loop [3, 4] (fun n i => ∃ k : Nat, k ≤ len ∧ i = .int .i64 k ∧ n = .int .i64 (M.sumL (zs.take k))) (fun _ i => len - (intOf i).toNat)
    case atStart => exact ⟨0, Nat.zero_le _, rfl, rfl⟩
    case round =>
      obtain ⟨k, hk, rfl, rfl⟩ := hrel
      obtain ⟨s0, s1⟩ := M.sumL_bd (zs.take k)
      by_cases hlt : k < len
      · have hcell := Hc.out k hlt
        obtain ⟨z0, z1⟩ := HB.out k
        simp only [List.getD_eq_getElem?_getD] at hcell z0 z1
        have H := Lib.hid (M.sumL_take zs k (by rw [hL.out]; exact hlt))
        go_wp2_with fail
        go_round
        case rel => exact ⟨k + 1, by omega, by go_num, by rw [H.out]⟩
        case measure => simp [intOf]; omega
      · go_wp2_with fail
        go_ret
        exact ⟨ret_int (by rw [List.take_of_length_le (by rw [hL.out]; omega)]), rfl⟩

theorem sumBytes_any (a : Option Addr) (len cap B : Nat) (zs : List Int) (w : World) (hR : Row .u8 w B a len cap zs) :
    Calls Tryz.prog 202 #[.slice a len cap] w fun e w' => e = .returned (.int .u32 (M.sumL zs)) ∧ w = w' := by
  have hlen := hR.fits
  have hmost := hR.most
  unfold maxLen at hmost
  have hL := Lib.hid hR.length
  rcases Nat.eq_zero_or_pos len with h0 | h0
  · subst h0
    obtain rfl : zs = [] := List.eq_nil_of_length_eq_zero hL.out
    go_enter Tryz.func202, Tryz.ntmps202
    go_wp2_with fail
    refine wp_loop_rounds 1 ?_
    rw [rounds_succ]; go_wp2_with fail
    go_ret
    exact ⟨rfl, rfl⟩
  · obtain ⟨b, off, rfl, hb, hc⟩ := hR.cells h0
    have Hc := Lib.hid hc
    have HB := Lib.hid hR.byte
    clear hc hR
    go_enter Tryz.func202, Tryz.ntmps202
    go_wp2_with fail
    go_loop [3, 8] (fun n i => ∃ k : Nat, k ≤ len ∧ i = .int .i64 k ∧ n = .int .u32 (M.sumL (zs.take k))) (fun _ i => len - (intOf i).toNat)
    case atStart => exact ⟨0, Nat.zero_le _, rfl, rfl⟩
    case round =>
      obtain ⟨k, hk, rfl, rfl⟩ := hrel
      obtain ⟨s0, s1⟩ := M.sumL_bd (zs.take k)
      by_cases hlt : k < len
      · have hcell := Hc.out k hlt
        obtain ⟨z0, z1⟩ := HB.out k
        simp only [List.getD_eq_getElem?_getD] at hcell z0 z1
        have H := Lib.hid (M.sumL_take zs k (by rw [hL.out]; exact hlt))
        go_wp2_with fail
        go_round
        case rel => exact ⟨k + 1, by omega, by go_num, by rw [H.out]⟩
        case measure => simp [intOf]; omega
      · go_wp2_with fail
        go_ret
        exact ⟨ret_int (by rw [List.take_of_length_le (by rw [hL.out]; omega)]), rfl⟩

theorem isLabel_any (s : ByteArray) (w : World) (hs : s.size ≤ maxLen) :
    Calls Tryz.prog 203 #[.string s] w fun e w' => e = .returned (.bool (M.labB s)) ∧ w = w' := by
  unfold maxLen at hs
  by_cases h1 : s.size < 1
  · have h1' : (s.size : Int) < 1 := by omega
    have HS := Lib.hid (M.labB_short s h1)
    go_enter Tryz.func203, Tryz.ntmps203
    go_wp2_with fail
    go_ret
    exact ⟨ret_bool HS.out.symm, rfl⟩
  by_cases h2 : 12 < s.size
  · have h2' : (12 : Int) < s.size := by omega
    have HS := Lib.hid (M.labB_long s h2)
    go_enter Tryz.func203, Tryz.ntmps203
    go_wp2_with fail
    go_ret
    exact ⟨ret_bool HS.out.symm, rfl⟩
  have h1' : 1 ≤ (s.size : Int) := by omega
  have h2' : (s.size : Int) ≤ 12 := by omega
  go_enter Tryz.func203, Tryz.ntmps203
  go_wp2_with fail
  go_loop [14] (fun i => ∃ k : Nat, k ≤ s.size ∧ i = .int .i64 k ∧ Hid (M.lowTo s k = true)) (fun i => s.size - (intOf i).toNat)
  case atStart => exact ⟨0, Nat.zero_le _, rfl, Lib.hid (M.lowTo_zero s)⟩
  case round =>
    obtain ⟨k, hk, rfl, hlow⟩ := hrel
    by_cases hlt : k < s.size
    · have HN := Lib.hid (M.lowTo_next s k hlt hlow.out)
      have HS := Lib.hid (M.labB_stop s k hlt)
      go_wp2_with fail
      · have hb : (s[k].toNat : Int) < 97 ∨ 122 < (s[k].toNat : Int) := by assumption
        go_ret
        exact ⟨ret_bool (HS.out hb).symm, rfl⟩
      · have hb : 97 ≤ (s[k].toNat : Int) ∧ (s[k].toNat : Int) ≤ 122 := by assumption
        go_round
        case rel => exact ⟨k + 1, by omega, by go_num, Lib.hid (HN.out hb.1 hb.2)⟩
        case measure => simp [intOf]; omega
      · have hb : (s[k].toNat : Int) < 97 := by assumption
        go_ret
        exact ⟨ret_bool (HS.out (.inl hb)).symm, rfl⟩
    · obtain rfl : k = s.size := by omega
      go_wp2_with fail
      go_ret
      exact ⟨ret_bool (M.labB_all s hlow.out (by omega) (by omega)).symm, rfl⟩

theorem l2Is_any (v : Int) (w : World) :
    Calls Tryz.prog 166 #[.int .i64 v] w fun e w' => e = .returned (.bool (M.sumB v)) ∧ w = w' := by
  go_enter Tryz.func166, Tryz.ntmps166
  go_wp2_with fail
  refine (l1In_any _ _ _ _).mono ?_
  rintro r w' ⟨rfl, rfl⟩
  go_wp2_with fail
  go_ret
  exact ⟨rfl, rfl⟩

theorem isSum_any (v : Int) (w : World) :
    Calls Tryz.prog 104 #[.int .i64 v] w fun e w' => e = .returned (.bool (M.sumB v)) ∧ w = w' := by
  by_cases h1 : 0 ≤ v
  · by_cases h2 : v ≤ 65520
    · have e : M.sumB v = true := by simp [M.sumB, h1, h2]
      rw [e]; clear e
      go_enter Tryz.func104, Tryz.ntmps104
      go_wp2_with fail
      go_ret
      simp
    · have e : M.sumB v = false := by simp [M.sumB, h2]
      rw [e]; clear e
      go_enter Tryz.func104, Tryz.ntmps104
      go_wp2_with fail
      go_ret
      simp
  · have e : M.sumB v = false := by simp [M.sumB, h1]
    rw [e]; clear e
    go_enter Tryz.func104, Tryz.ntmps104
    go_wp2_with fail
    go_ret
    simp

end Go.Proofs.YtlodhleihnlchaaGreatDoor
