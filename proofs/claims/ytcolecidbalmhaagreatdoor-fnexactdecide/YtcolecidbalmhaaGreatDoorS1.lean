/- Texts of this seat that several laws rest on, laid into one. Conditions: as each theorem states. -/
import Derived.Test.YtcolecidbalmhaaGreatDoorS0
import Derived.Lib.Bytealg
import Derived.Deep.AppendSrc
import Derived.Deep.MidRow
import Derived.Deep.Upon
import Derived.OwnWalk
import Derived.RegionTactic
import Derived.Laws.IdiomStrings
import Derived.Lib.SlBytesConst
namespace Go.Proofs.YtcolecidbalmhaaGreatDoor
open Go.RowKit

theorem l1Pow_any (a : Int) (e : Nat) (m : Int) (w : World) (h1 : 1 ≤ m) (h2 : m ≤ 1000000) (ha0 : 0 ≤ a) (ha1 : a < m) (he : e ≤ 1000000000) :
    Calls Tryz.prog 256 #[.int .i64 a, .int .i64 e, .int .i64 m] w fun r w' => r = .returned (.int .i64 (M.pw a e m)) ∧ w = w' := by
  obtain ⟨o0, o1⟩ := M.mod_bd 1 h1
  go_enter Tryz.func256, Tryz.ntmps256
  go_wp2_with fail
  go_loop [0, 1, 7] (fun x y z => ∃ (b n : Int) (k : Nat), x = .int .i64 b ∧ y = .int .i64 k ∧ z = .int .i64 n ∧ 0 ≤ b ∧ b < m ∧ 0 ≤ n ∧ n < m ∧ k ≤ 1000000000 ∧ M.Keep a e m n b k) (fun _ y _ => (intOf y).toNat)
  case atStart => exact ⟨a, 1 % m, e, rfl, rfl, rfl, ha0, ha1, o0, o1, he, M.keep_start a e m⟩
  case round =>
    obtain ⟨b, n, k, rfl, rfl, rfl, b0, b1, n0, n1, hk, hkeep⟩ := hrel
    obtain ⟨p0, p1⟩ := M.mul_bd b0 b1 b0 b1 h2
    obtain ⟨q0, q1⟩ := M.mul_bd n0 n1 b0 b1 h2
    obtain ⟨r0, r1⟩ := M.mod_bd (b * b) h1
    obtain ⟨s0, s1⟩ := M.mod_bd (n * b) h1
    by_cases hz : 0 < k
    · by_cases ho : k % 2 = 1
      · have H1 := Lib.hid (M.keep_odd hkeep ho)
        have ht : ((k : Int) % 2 == 1) = true := by rw [beq_iff_eq]; omega
        clear ho hkeep
        go_wp2_with fail
        go_round
        case rel => exact ⟨b * b % m, n * b % m, k / 2, rfl, by go_num, rfl, r0, r1, s0, s1, by omega, H1.out⟩
        case measure => simp [intOf]; omega
      · have H1 := Lib.hid (M.keep_even hkeep (by omega))
        have ht : ((k : Int) % 2 == 1) = false := by rw [beq_eq_false_iff_ne]; omega
        clear ho hkeep
        go_wp2_with fail
        go_round
        case rel => exact ⟨b * b % m, n, k / 2, rfl, by go_num, rfl, r0, r1, n0, n1, by omega, H1.out⟩
        case measure => simp [intOf]; omega
    · obtain rfl : k = 0 := by omega
      have H1 := Lib.hid (M.keep_end hkeep n0 n1)
      clear hkeep
      go_wp2_with fail
      go_ret
      exact ⟨by rw [← H1.out]; rfl, rfl⟩

theorem l1Pow_int (a e m : Int) (w : World) (h1 : 1 ≤ m) (h2 : m ≤ 1000000) (ha0 : 0 ≤ a) (ha1 : a < m) (he0 : 0 ≤ e) (he1 : e ≤ 1000000000) :
    Calls Tryz.prog 256 #[.int .i64 a, .int .i64 e, .int .i64 m] w fun r w' => r = .returned (.int .i64 (M.pw a e.toNat m)) ∧ w = w' := by
  obtain ⟨n, rfl⟩ := Int.eq_ofNat_of_zero_le he0
  exact l1Pow_any a n m w h1 h2 ha0 ha1 (by omega)

theorem l1Raise_int (a e : Int) (w : World) (ha0 : 0 ≤ a) (ha1 : a < 2879) (he0 : 0 ≤ e) (he1 : e ≤ 1000000000) :
    Calls Tryz.prog 216 #[.int .i64 a, .int .i64 e] w fun r w' => r = .returned (.int .i64 (M.pw a e.toNat 2879)) ∧ w = w' := by
  go_enter Tryz.func216, Tryz.ntmps216
  go_wp2_with fail
  refine (l1Pow_int _ _ _ _ (by omega) (by omega) ha0 ha1 he0 he1).mono ?_
  rintro r w' ⟨rfl, rfl⟩
  go_wp2_with fail
  go_ret
  simp

abbrev I2 (c v : Int) : Value := .agg #[.int .i64 c, .int .i64 v]

def mulR (a b m : Int) : Int × Int := if restB a m && restB b m then (0, a * b % m) else (3, 0)
def powR (a e m : Int) : Int × Int := if restB a m && inB e 0 1000000000 then (0, M.pw a e.toNat m) else (3, 0)

end Go.Proofs.YtcolecidbalmhaaGreatDoor
namespace Go.Proofs.YtcolecidbalmhaaGreatDoor
open Go.RowKit

def pubB (v : Int) : Bool := inB v 2 2878 && (M.pw v 1439 2879 == 1)
def keyR (s : Int) : Int × Int × Int := if inB s 1 1438 then (0, s, M.pw 4 s.toNat 2879) else (3, 0, 0)
def sharedR (s p : Int) : Int × Int := if inB s 1 1438 && pubB p then (0, M.pw p s.toNat 2879) else (3, 0)
def invR (v : Int) : Int × Int := if inB v 1 2878 then (0, M.pw v 2877 2879) else (3, 0)
abbrev I3 (c u v : Int) : Value := .agg #[.int .i64 c, .int .i64 u, .int .i64 v]

theorem l1Public_any (v : Int) (w : World) :
    Calls Tryz.prog 156 #[.int .i64 v] w fun r w' => r = .returned (.bool (pubB v)) ∧ w = w' := by
  cases hV : inB v 2 2878
  · have E : pubB v = false := by simp [pubB, hV]
    rw [E]; clear E
    go_enter Tryz.func156, Tryz.ntmps156
    go_wp2_with fail
    refine (l1In_any _ _ _ _).mono ?_
    rintro r w' ⟨rfl, rfl⟩
    go_wp2_with fail
    go_ret
    simp
  have hV' := hV
  simp only [inB, decide_eq_true_eq] at hV'
  obtain ⟨v0, v1⟩ := hV'
  cases hP : (M.pw v 1439 2879 == 1)
  · have E : pubB v = false := by simp only [pubB, hP, Bool.and_false]
    rw [E]; clear E
    go_enter Tryz.func156, Tryz.ntmps156
    go_wp2_with fail
    refine (l1In_any _ _ _ _).mono ?_
    rintro r w' ⟨rfl, rfl⟩
    go_wp2_with fail
    refine (l1Raise_int _ _ _ (by omega) (by omega) (by omega) (by omega)).mono ?_
    rintro r w' ⟨rfl, rfl⟩
    go_wp2_with fail
    go_ret
    simp
  have E : pubB v = true := by simp only [pubB, hV, hP, Bool.and_true]
  rw [E]; clear E
  go_enter Tryz.func156, Tryz.ntmps156
  go_wp2_with fail
  refine (l1In_any _ _ _ _).mono ?_
  rintro r w' ⟨rfl, rfl⟩
  go_wp2_with fail
  refine (l1Raise_int _ _ _ (by omega) (by omega) (by omega) (by omega)).mono ?_
  rintro r w' ⟨rfl, rfl⟩
  go_wp2_with fail
  go_ret
  simp

theorem implIsPublic_any (v : Int) (w : World) :
    Calls Tryz.prog 113 #[.int .i64 v] w fun r w' => r = .returned (.bool (pubB v)) ∧ Below w.heap.size w w' := by
  by_cases h0 : 2 ≤ v
  · by_cases h1 : v ≤ 2878
    · cases hP : (M.pw v 1439 2879 == 1)
      · have E : pubB v = false := by simp only [pubB, hP, Bool.and_false]
        rw [E]; clear E
        go_enter Tryz.func113, Tryz.ntmps113
        go_wp2_with fail
        refine (power_int _ _ _ _ (by omega) (by omega) (by omega) (by omega) (by omega) (by omega)).mono ?_
        rintro r w1 ⟨rfl, hb_w1⟩
        obtain ⟨hc_w1, hf_w1⟩ := bcell hb_w1
        have hz_w1 := hb_w1.size
        (try simp at hz_w1)
        go_wp2_with fail
        go_ret
        exact ⟨rfl, hb_w1⟩
      · have E : pubB v = true := by simp only [pubB, inB, h0, h1, hP, Bool.and_true, and_self, decide_true]
        rw [E]; clear E
        go_enter Tryz.func113, Tryz.ntmps113
        go_wp2_with fail
        refine (power_int _ _ _ _ (by omega) (by omega) (by omega) (by omega) (by omega) (by omega)).mono ?_
        rintro r w1 ⟨rfl, hb_w1⟩
        obtain ⟨hc_w1, hf_w1⟩ := bcell hb_w1
        have hz_w1 := hb_w1.size
        (try simp at hz_w1)
        go_wp2_with fail
        go_ret
        exact ⟨rfl, hb_w1⟩
    · have E : pubB v = false := by simp [pubB, inB, h1]
      rw [E]; clear E
      go_enter Tryz.func113, Tryz.ntmps113
      go_wp2_with fail
      go_ret
      exact ⟨rfl, Below.refl _ _⟩
  · have E : pubB v = false := by simp [pubB, inB, h0]
    rw [E]; clear E
    go_enter Tryz.func113, Tryz.ntmps113
    go_wp2_with fail
    go_ret
    exact ⟨rfl, Below.refl _ _⟩

end Go.Proofs.YtcolecidbalmhaaGreatDoor
namespace Go.Proofs.YtcolecidbalmhaaGreatDoor.M
open Go.Proofs.YtcolecidbalmhaaGreatDoor (inB pubB)

def secB (s : Int) : Bool := inB s 1 1438
def nonceN (s t : Int) : Int := 1 + tagL nonceS [s, t] % 1438
def nonceR (s t : Int) : Int × Int := if inB s 1 1438 && sumB t then (0, nonceN s t) else (3, 0)
def chalN (p q t : Int) : Int := tagL signS [p, q, t] % 1439
def pubN (s : Int) : Int := pw 4 s.toNat 2879
def sigPt (s t : Int) : Int := pw 4 (nonceN s t).toNat 2879
def sigPr (s t : Int) : Int := (nonceN s t + chalN (pubN s) (sigPt s t) t * s) % 1439
def signR (s t : Int) : Int × Int × Int := if inB s 1 1438 && sumB t then (0, sigPt s t, sigPr s t) else (3, 0, 0)
/-- A signature without a fault. -/
def sigB (p q : Int) : Bool := pubB p && inB q 0 1438
def sigF (p q : Int) : Int := if sigB p q then 0 else 3
def checkB (u t p q : Int) : Bool := pubB u && sumB t && sigB p q && (pw 4 q.toNat 2879 == p * pw u (chalN u p t).toNat 2879 % 2879)
def packL (p q : Int) : List Int := if sigB p q then two p ++ two q else []
def readP (zs : List Int) : Int := 256 * zs.getD 0 0 + zs.getD 1 0
def readQ (zs : List Int) : Int := 256 * zs.getD 2 0 + zs.getD 3 0
def readB (zs : List Int) : Bool := decide (zs.length = 4) && sigB (readP zs) (readQ zs)
def readR (zs : List Int) : Int × Int × Int := if readB zs then (0, readP zs, readQ zs) else (5, 0, 0)

theorem nonceN_bd (s t : Int) : 1 ≤ nonceN s t ∧ nonceN s t ≤ 1438 := by unfold nonceN; omega
theorem chalN_bd (p q t : Int) : 0 ≤ chalN p q t ∧ chalN p q t ≤ 1438 := by unfold chalN; omega
theorem sigPr_bd (s t : Int) : 0 ≤ sigPr s t ∧ sigPr s t ≤ 1438 := by unfold sigPr; omega
theorem pub_pow {a : Int} (a0 : 1 ≤ a) (a1 : a ≤ 1438) : pubB (pw 4 a.toNat 2879) = true := by
  have h := base_pub a.toNat (by omega) (by omega)
  simp only [pubB, inB, Bool.and_eq_true, decide_eq_true_eq, beq_iff_eq]
  exact ⟨h, base_raised _⟩
theorem sigPt_pub (s t : Int) : pubB (sigPt s t) = true := pub_pow (nonceN_bd s t).1 (nonceN_bd s t).2
theorem sigB_signed (s t : Int) : sigB (sigPt s t) (sigPr s t) = true := by
  have h := sigPr_bd s t
  simp only [sigB, sigPt_pub, inB, Bool.true_and, decide_eq_true_eq]
  exact h
/-- The equation of a signature that was made. -/
theorem sign_eq {s t : Int} (s0 : 1 ≤ s) : pw 4 (sigPr s t).toNat 2879 = sigPt s t * pw (pubN s) (chalN (pubN s) (sigPt s t) t).toNat 2879 % 2879 := by
  have hh := nonceN_bd s t
  have he := chalN_bd (pubN s) (sigPt s t) t
  unfold sigPr
  generalize chalN (pubN s) (sigPt s t) t = e at *
  unfold sigPt pubN
  generalize nonceN s t = h at *
  rw [pw_pw, pw_add]
  rw [base_mod (h.toNat + s.toNat * e.toNat)]
  congr 1
  obtain ⟨h, rfl⟩ := Int.eq_ofNat_of_zero_le (show 0 ≤ h by omega)
  obtain ⟨e, rfl⟩ := Int.eq_ofNat_of_zero_le he.1
  obtain ⟨s, rfl⟩ := Int.eq_ofNat_of_zero_le (show 0 ≤ s by omega)
  have q : ((h : Int) + (e : Int) * (s : Int)) % 1439 = ((h + e * s) % 1439 : Nat) := by simp
  rw [q]
  show (h + e * s) % 1439 = (h + s * e) % 1439
  rw [Nat.mul_comm s e]
theorem checked {s t : Int} (hs : inB s 1 1438 = true) (ht : sumB t = true) : checkB (pubN s) t (sigPt s t) (sigPr s t) = true := by
  have hs' := hs
  simp only [inB, decide_eq_true_eq] at hs'
  have hp : pubB (pubN s) = true := pub_pow hs'.1 hs'.2
  have he := sign_eq (t := t) hs'.1
  simp only [checkB, hp, ht, sigB_signed, Bool.and_self, Bool.true_and, beq_iff_eq]
  exact he
theorem four_moves {q : Int} (q0 : 0 ≤ q) (q1 : q ≤ 1438) : pw 4 ((q + 1) % 1439).toNat 2879 ≠ pw 4 q.toNat 2879 := by
  obtain ⟨q, rfl⟩ := Int.eq_ofNat_of_zero_le q0
  have e : (((q : Int) + 1) % 1439).toNat = (q + 1) % 1439 := by
    have : ((q : Int) + 1) % 1439 = ((q + 1) % 1439 : Nat) := by simp
    rw [this]; rfl
  have e2 : ((q : Int)).toNat = q := rfl
  rw [e, e2, ← base_mod, ← pw_add]
  have h1 : pw 4 1 2879 = 4 := pw_one (by omega) (by omega)
  rw [h1]
  have b := pw_bd 4 q (m := 2879) (by omega)
  have hpos : 1 ≤ pw 4 q 2879 := by
    rcases Nat.eq_zero_or_pos q with h | h
    · subst h; rw [pw_zero]; decide
    · have := (base_pub q h (by omega)).1; omega
  omega
theorem turned {s t : Int} (hs : inB s 1 1438 = true) : checkB (pubN s) t (sigPt s t) ((sigPr s t + 1) % 1439) = false := by
  have hs' := hs
  simp only [inB, decide_eq_true_eq] at hs'
  have he := sign_eq (t := t) hs'.1
  have hq := sigPr_bd s t
  have hm := four_moves hq.1 hq.2
  have : (pw 4 ((sigPr s t + 1) % 1439).toNat 2879 == sigPt s t * pw (pubN s) (chalN (pubN s) (sigPt s t) t).toNat 2879 % 2879) = false := by
    rw [← he, beq_eq_false_iff_ne]; exact hm
  simp only [checkB, this, Bool.and_false]

end Go.Proofs.YtcolecidbalmhaaGreatDoor.M
namespace Go.Proofs.YtcolecidbalmhaaGreatDoor
set_option linter.unusedVariables false

/-- What is wrong with a hello; with a reply. -/
def helF (l : List UInt8) (r s : Int) : Int := if M.sumB r && pubB s then M.normF l else 3
def repF (r s p x y f : Int) : Int := if M.sumB r && pubB s && pubB p && M.sumB f then M.sigF x y else 3
/-- The bytes ahead of a hello's name; the bytes of a hello. -/
def helHead (r s : Int) : List Int := [1] ++ M.two r ++ M.two s
def packH (n : ByteArray) (r s : Int) : List Int := helHead r s ++ M.textL n
def packHL (n : ByteArray) (r s : Int) : List Int := if helF n.data.toList r s = 0 then packH n r s else []
/-- The bytes ahead of a reply's signature; the bytes of a reply. -/
def frontR (r s p : Int) : List Int := [2] ++ M.two r ++ M.two s ++ M.two p
def packR (r s p x y f : Int) : List Int := frontR r s p ++ (M.two x ++ M.two y) ++ M.two f
def packRL (r s p x y f : Int) : List Int := if repF r s p x y f = 0 then packR r s p x y f else []
/-- What bytes say, read as a hello; as a reply. -/
def helNm (zs : List Int) : List UInt8 := (zs.drop 5).map fun z => UInt8.ofNat z.toNat
def tw (zs : List Int) (i : Nat) : Int := 256 * zs.getD i 0 + zs.getD (i + 1) 0
def helB (zs : List Int) : Bool := decide (helF (helNm zs) (tw zs 1) (tw zs 3) = 0)
def helOk (zs : List Int) : Bool := decide (5 ≤ zs.length) && decide (zs.getD 0 0 = 1) && helB zs
def repB (zs : List Int) : Bool := decide (repF (tw zs 1) (tw zs 3) (tw zs 5) (tw zs 7) (tw zs 9) (tw zs 11) = 0)
def repOk (zs : List Int) : Bool := decide (zs.length = 13) && decide (zs.getD 0 0 = 2) && repB zs
end Go.Proofs.YtcolecidbalmhaaGreatDoor
namespace Go.Proofs.YtcolecidbalmhaaGreatDoor
set_option linter.unusedVariables false

/-- A pin. -/
structure PinD where
  n : ByteArray
  a : Int
  b : Int
  e : Int
  u : Int
def pin0 : PinD := ⟨{ data := #[] }, 0, 0, 0, 0⟩
instance : Inhabited PinD := ⟨pin0⟩
def PinD.nm (p : PinD) : List UInt8 := p.n.data.toList
abbrev P5 (p : PinD) : Value := .agg #[.string p.n, .int .i64 p.a, .int .i64 p.b, .int .i64 p.e, .int .i64 p.u]
def PinD.vals (p : PinD) : List Value := [.string p.n, .int .i64 p.a, .int .i64 p.b, .int .i64 p.e, .int .i64 p.u]
theorem PinD.vals_length (p : PinD) : p.vals.length = 5 := rfl
/-- The cells of pins. -/
def flat (ps : List PinD) : List Value := ps.flatMap PinD.vals
theorem flat_cons (p : PinD) (ps : List PinD) : flat (p :: ps) = p.vals ++ flat ps := by simp [flat]
theorem flat_length : ∀ ps : List PinD, (flat ps).length = ps.length * 5
  | [] => rfl
  | p :: r => by rw [flat_cons, List.length_append, flat_length r, PinD.vals_length, List.length_cons]; omega
theorem flat_get : ∀ (ps : List PinD) (j i : Nat) (v : Value), j < ps.length → (ps[j]?.getD pin0).vals[i]? = some v → (flat ps)[j * 5 + i]? = some v
  | [], j, i, v, hj, _ => by simp at hj
  | p :: r, 0, i, v, _, h => by
    have hi : i < 5 := by have := (List.getElem?_eq_some_iff.1 h).1; simpa [PinD.vals_length] using this
    rw [flat_cons, Nat.zero_mul, Nat.zero_add, List.getElem?_append_left (by rw [PinD.vals_length]; exact hi)]
    simpa using h
  | p :: r, j + 1, i, v, hj, h => by
    have := flat_get r j i v (by simpa using hj) (by simpa using h)
    rw [flat_cons, List.getElem?_append_right (by rw [PinD.vals_length]; omega), PinD.vals_length, show (j + 1) * 5 + i - 5 = j * 5 + i by omega]
    exact this
theorem flat_set : ∀ (ps : List PinD) (j : Nat) (p : PinD), j < ps.length → flat (ps.set j p) = (((((flat ps).set (j * 5) (.string p.n)).set (j * 5 + 1) (.int .i64 p.a)).set (j * 5 + 2) (.int .i64 p.b)).set (j * 5 + 3) (.int .i64 p.e)).set (j * 5 + 4) (.int .i64 p.u)
  | [], j, p, hj => by simp at hj
  | q :: r, 0, p, _ => by simp [flat_cons, PinD.vals]
  | q :: r, j + 1, p, hj => by
    rw [List.set_cons_succ, flat_cons, flat_set r j p (by simpa using hj), flat_cons]
    simp only [PinD.vals, List.cons_append, List.nil_append, show (j + 1) * 5 = j * 5 + 1 + 1 + 1 + 1 + 1 by omega, show j * 5 + 1 + 1 + 1 + 1 + 1 + 1 = (j * 5 + 1) + 1 + 1 + 1 + 1 + 1 by omega, show j * 5 + 1 + 1 + 1 + 1 + 1 + 2 = (j * 5 + 2) + 1 + 1 + 1 + 1 + 1 by omega, show j * 5 + 1 + 1 + 1 + 1 + 1 + 3 = (j * 5 + 3) + 1 + 1 + 1 + 1 + 1 by omega, show j * 5 + 1 + 1 + 1 + 1 + 1 + 4 = (j * 5 + 4) + 1 + 1 + 1 + 1 + 1 by omega, List.set_cons_succ]
/-- What is wrong with a pin. -/
def bakB (v : Int) : Bool := decide (v = 0) || pubB v
def epB (v : Int) : Bool := decide (1 ≤ v ∧ v ≤ 200)
def timB (v : Int) : Bool := decide (0 ≤ v ∧ v ≤ 9999)
def pinB (a b e u : Int) : Bool := pubB a && bakB b && epB e && timB u
def pinF (l : List UInt8) (a b e u : Int) : Int := if M.normF l = 0 then (if pinB a b e u then (if b = a then 6 else 0) else 3) else M.normF l
def PinD.f (p : PinD) : Int := pinF p.nm p.a p.b p.e p.u
theorem pinF_norm {l : List UInt8} {a b e u : Int} (h : M.normF l ≠ 0) : pinF l a b e u = M.normF l := by simp [pinF, h]
theorem pinF_no {l : List UInt8} {a b e u : Int} (h : M.normF l = 0) (h1 : pinB a b e u = false) : pinF l a b e u = 3 := by simp [pinF, h, h1]
theorem pinF_taken {l : List UInt8} {a b e u : Int} (h : M.normF l = 0) (h1 : pinB a b e u = true) (h2 : b = a) : pinF l a b e u = 6 := by
  unfold pinF
  rw [if_pos h, if_pos h1, if_pos h2]
theorem pinF_yes {l : List UInt8} {a b e u : Int} (h : M.normF l = 0) (h1 : pinB a b e u = true) (h2 : b ≠ a) : pinF l a b e u = 0 := by simp [pinF, h, h1, h2]
theorem pinF_zero {l : List UInt8} {a b e u : Int} (h : pinF l a b e u = 0) : M.normF l = 0 ∧ pubB a = true ∧ bakB b = true ∧ epB e = true ∧ timB u = true ∧ b ≠ a := by
  unfold pinF at h
  split at h
  · split at h
    · split at h
      · omega
      · rename_i h1 h2 h3
        simp only [pinB, Bool.and_eq_true] at h2
        exact ⟨h1, h2.1.1.1, h2.1.1.2, h2.1.2, h2.2, h3⟩
    · omega
  · exact absurd h ‹_›
theorem nm_inj {p q : ByteArray} (h : p.data.toList = q.data.toList) : p = q := by
  cases p; cases q
  simp only [ByteArray.mk.injEq]
  exact Array.toList_inj.1 h

/-- The order of names: bytes, one by one. -/
abbrev nlt (x y : List UInt8) : Bool := Op.bytesLess x y
theorem nlt_irrefl : ∀ x : List UInt8, nlt x x = false
  | [] => rfl
  | a :: r => by simp [nlt, Op.bytesLess]; exact nlt_irrefl r
theorem nlt_trans : ∀ {x y z : List UInt8}, nlt x y = true → nlt y z = true → nlt x z = true
  | _, [], _, h, _ => by simp [nlt, Op.bytesLess] at h
  | _, _ :: _, [], _, h => by simp [nlt, Op.bytesLess] at h
  | [], _ :: _, _ :: _, _, _ => by simp [nlt, Op.bytesLess]
  | a :: x, b :: y, c :: z, h1, h2 => by
    simp only [nlt, Op.bytesLess, Bool.or_eq_true, decide_eq_true_eq, Bool.and_eq_true, beq_iff_eq] at h1 h2 ⊢
    rcases h1 with h1 | ⟨rfl, h1⟩
    · rcases h2 with h2 | ⟨rfl, h2⟩
      · exact .inl (UInt8.lt_trans h1 h2)
      · exact .inl h1
    · rcases h2 with h2 | ⟨rfl, h2⟩
      · exact .inl h2
      · exact .inr ⟨rfl, nlt_trans h1 h2⟩
theorem nlt_total : ∀ {x y : List UInt8}, nlt x y = false → x ≠ y → nlt y x = true
  | [], [], _, h => absurd rfl h
  | [], _ :: _, h, _ => by simp [nlt, Op.bytesLess] at h
  | _ :: _, [], _, _ => by simp [nlt, Op.bytesLess]
  | a :: x, b :: y, h, hne => by
    simp only [nlt, Op.bytesLess, Bool.or_eq_false_iff, decide_eq_false_iff_not, Bool.and_eq_false_iff, beq_eq_false_iff_ne] at h
    simp only [nlt, Op.bytesLess, Bool.or_eq_true, decide_eq_true_eq, Bool.and_eq_true, beq_iff_eq]
    by_cases e : a = b
    · subst e
      refine .inr ⟨rfl, nlt_total (h.2.resolve_left (fun h => h rfl)) (fun e => hne (by rw [e]))⟩
    · refine .inl ?_
      have h1 := h.1
      rw [UInt8.lt_iff_toNat_lt] at h1 ⊢
      have : a.toNat ≠ b.toNat := fun h => e (UInt8.toNat_inj.1 h)
      omega
theorem nlt_asymm {x y : List UInt8} (h : nlt x y = true) : nlt y x = false := by
  cases h2 : nlt y x
  · rfl
  · have := nlt_trans h h2
    rw [nlt_irrefl] at this
    cases this
theorem nlt_ne {x y : List UInt8} (h : nlt x y = true) : x ≠ y := fun e => by rw [e, nlt_irrefl] at h; cases h
/-- 'list[i].Name <= list[i-1].Name' and 'list[i-1].Name >= list[i].Name'. -/
theorem nle_eq (x y : List UInt8) : (nlt x y || x == y) = !nlt y x := by
  cases h : nlt y x
  · by_cases e : y = x
    · subst e; simp
    · rw [nlt_total h e]; simp
  · rw [nlt_asymm h]
    have : (x == y) = false := by
      rw [beq_eq_false_iff_ne]
      exact fun e => nlt_ne h e.symm
    rw [this]; rfl
/-- Whether a name may stand behind another. -/
def okN : Option (List UInt8) → List UInt8 → Bool
  | none, _ => true
  | some x, l => nlt x l
def pinsG : Option (List UInt8) → List PinD → Int
  | _, [] => 0
  | q, p :: r => if p.f = 0 then (if okN q p.nm then pinsG (some p.nm) r else 1) else p.f
def pinsF (ps : List PinD) : Int := if 4 < ps.length then 2 else pinsG none ps
abbrev Rise (ps : List PinD) : Prop := ps.Pairwise fun p q => nlt p.nm q.nm = true
theorem pinsG_zero : ∀ {q : Option (List UInt8)} {ps : List PinD}, pinsG q ps = 0 → (∀ p ∈ ps, p.f = 0) ∧ Rise ps ∧ ∀ x, q = some x → ∀ p ∈ ps, nlt x p.nm = true
  | _, [], _ => ⟨by simp, .nil, by simp⟩
  | q, p :: r, h => by
    unfold pinsG at h
    by_cases h0 : p.f = 0
    · rw [if_pos h0] at h
      by_cases h1 : okN q p.nm = true
      · rw [if_pos h1] at h
        obtain ⟨g1, g2, g3⟩ := pinsG_zero h
        refine ⟨fun y hy => ?_, List.pairwise_cons.2 ⟨fun y hy => g3 _ rfl y hy, g2⟩, fun x hx y hy => ?_⟩
        · rcases List.mem_cons.1 hy with rfl | hy
          · exact h0
          · exact g1 y hy
        · subst hx
          rcases List.mem_cons.1 hy with rfl | hy
          · exact h1
          · exact nlt_trans h1 (g3 _ rfl y hy)
      · rw [if_neg h1] at h
        omega
    · rw [if_neg h0] at h
      exact absurd h h0
theorem pinsF_zero {ps : List PinD} (h : pinsF ps = 0) : ps.length ≤ 4 ∧ (∀ p ∈ ps, p.f = 0) ∧ Rise ps := by
  unfold pinsF at h
  by_cases h4 : 4 < ps.length
  · rw [if_pos h4] at h; omega
  · rw [if_neg h4] at h
    obtain ⟨g1, g2, -⟩ := pinsG_zero h
    exact ⟨by omega, g1, g2⟩
/-- Ahead of pin k. -/
def prevN (ps : List PinD) : Nat → Option (List UInt8)
  | 0 => none
  | k + 1 => some (ps[k]?.getD pin0).nm
theorem pinsG_step {ps : List PinD} {k : Nat} (hk : k < ps.length) : pinsG (prevN ps k) (ps.drop k) = (if (ps[k]?.getD pin0).f = 0 then (if okN (prevN ps k) (ps[k]?.getD pin0).nm then pinsG (prevN ps (k + 1)) (ps.drop (k + 1)) else 1) else (ps[k]?.getD pin0).f) := by
  have e : ps.drop k = (ps[k]?.getD pin0) :: ps.drop (k + 1) := by
    rw [List.drop_eq_getElem_cons hk, List.getElem?_eq_getElem hk]
    rfl
  rw [e]
  rfl

/-- The pin of a name. -/
def findP (ps : List PinD) (l : List UInt8) : Option PinD := ps.find? fun p => decide (p.nm = l)
theorem findP_mem {ps : List PinD} {l : List UInt8} {p : PinD} (h : findP ps l = some p) : p ∈ ps ∧ p.nm = l := by
  refine ⟨List.mem_of_find?_eq_some h, ?_⟩
  have := List.find?_some h
  simpa using this
theorem findP_none {ps : List PinD} {l : List UInt8} (h : findP ps l = none) : ∀ p ∈ ps, p.nm ≠ l := by
  intro p hp
  have := List.find?_eq_none.1 h p hp
  simpa using this
/-- A pin put among others, as the model does it. -/
def putG (p : PinD) : Bool → List PinD → List PinD
  | d, [] => if d then [] else [p]
  | d, q :: r => (if !d && !nlt q.nm p.nm then [p] else []) ++ (if q.nm = p.nm then [] else [q]) ++ putG p (d || !nlt q.nm p.nm) r
def putL (ps : List PinD) (p : PinD) : List PinD := putG p false ps
/-- What putting a pin answers. -/
def putC (ps : List PinD) (p : PinD) : Int :=
  if pinsF ps ≠ 0 then pinsF ps else if p.f ≠ 0 then p.f else match findP ps p.nm with
    | some q => if q.e ≥ p.e then 11 else 0
    | none => if ps.length = 4 then 7 else 0
def putR (ps : List PinD) (p : PinD) : List PinD := if putC ps p = 0 then putL ps p else []
/-- What finding a pin answers. -/
def findC (ps : List PinD) (l : List UInt8) : Int :=
  if pinsF ps ≠ 0 then pinsF ps else if M.nameF l ≠ 0 then M.nameF l else match findP ps (M.nrm l) with
    | some _ => 0
    | none => 4
def findR (ps : List PinD) (l : List UInt8) : PinD :=
  if pinsF ps ≠ 0 then pin0 else if M.nameF l ≠ 0 then pin0 else (findP ps (M.nrm l)).getD pin0
end Go.Proofs.YtcolecidbalmhaaGreatDoor
namespace Go.Proofs.YtcolecidbalmhaaGreatDoor
open Go.RowKit
set_option linter.unusedVariables false

/-- A supplied key. -/
structure TlsaD where
  n : ByteArray
  u : Int
  m : Int
  v : Int
def TlsaD.nm (p : TlsaD) : List UInt8 := p.n.data.toList
def TlsaD.f (p : TlsaD) : Int := M.tlsaF p.nm p.u p.m p.v
def tls0 : TlsaD := ⟨{ data := #[] }, 0, 0, 0⟩
instance : Inhabited TlsaD := ⟨tls0⟩
abbrev TV (p : TlsaD) : Value := .agg #[.string p.n, .int .i64 p.u, .int .i64 p.m, .int .i64 p.v]
def TlsaD.vals (p : TlsaD) : List Value := [.string p.n, .int .i64 p.u, .int .i64 p.m, .int .i64 p.v]
theorem TlsaD.vals_length (p : TlsaD) : p.vals.length = 4 := rfl
def flatT (ps : List TlsaD) : List Value := ps.flatMap TlsaD.vals
theorem flatT_cons (p : TlsaD) (ps : List TlsaD) : flatT (p :: ps) = p.vals ++ flatT ps := by simp [flatT]
theorem flatT_append (ps qs : List TlsaD) : flatT (ps ++ qs) = flatT ps ++ flatT qs := by simp [flatT]
theorem flatT_length : ∀ ps : List TlsaD, (flatT ps).length = ps.length * 4
  | [] => rfl
  | p :: r => by rw [flatT_cons, List.length_append, flatT_length r, TlsaD.vals_length, List.length_cons]; omega
theorem flatT_get : ∀ (ps : List TlsaD) (j i : Nat) (v : Value), j < ps.length → (ps[j]?.getD tls0).vals[i]? = some v → (flatT ps)[j * 4 + i]? = some v
  | [], j, i, v, hj, _ => by simp at hj
  | p :: r, 0, i, v, _, h => by
    have hi : i < 4 := by have := (List.getElem?_eq_some_iff.1 h).1; simpa [TlsaD.vals_length] using this
    rw [flatT_cons, Nat.zero_mul, Nat.zero_add, List.getElem?_append_left (by rw [TlsaD.vals_length]; exact hi)]
    simpa using h
  | p :: r, j + 1, i, v, hj, h => by
    have := flatT_get r j i v (by simpa using hj) (by simpa using h)
    rw [flatT_cons, List.getElem?_append_right (by rw [TlsaD.vals_length]; omega), TlsaD.vals_length, show (j + 1) * 4 + i - 4 = j * 4 + i by omega]
    exact this
theorem flatT_set : ∀ (ps : List TlsaD) (j : Nat) (p : TlsaD), j < ps.length → flatT (ps.set j p) = (((((flatT ps).set (j * 4) (.string p.n)).set (j * 4 + 1) (.int .i64 p.u)).set (j * 4 + 2) (.int .i64 p.m)).set (j * 4 + 3) (.int .i64 p.v))
  | [], j, p, hj => by simp at hj
  | q :: r, 0, p, _ => by simp [flatT_cons, TlsaD.vals]
  | q :: r, j + 1, p, hj => by
    rw [List.set_cons_succ, flatT_cons, flatT_set r j p (by simpa using hj), flatT_cons]
    simp only [TlsaD.vals, List.cons_append, List.nil_append, show (j + 1) * 4 = j * 4 + 1 + 1 + 1 + 1 by omega, show j * 4 + 1 + 1 + 1 + 1 + 1 = (j * 4 + 1) + 1 + 1 + 1 + 1 by omega, show j * 4 + 1 + 1 + 1 + 1 + 2 = (j * 4 + 2) + 1 + 1 + 1 + 1 by omega, show j * 4 + 1 + 1 + 1 + 1 + 3 = (j * 4 + 3) + 1 + 1 + 1 + 1 by omega, List.set_cons_succ]

/-- Whether a supplied key says something of a name. -/
def useT (l : List UInt8) (t : TlsaD) : Bool := decide (t.f = 0) && (decide (t.u = 3) && decide (t.nm = l))
def usable (l : List UInt8) (ts : List TlsaD) : List TlsaD := ts.filter (useT l)
theorem usable_mem {l : List UInt8} {ts : List TlsaD} {t : TlsaD} (h : t ∈ usable l ts) : t ∈ ts ∧ t.f = 0 ∧ t.u = 3 ∧ t.nm = l := by
  obtain ⟨h1, h2⟩ := List.mem_filter.1 h
  simp only [useT, Bool.and_eq_true, decide_eq_true_eq] at h2
  exact ⟨h1, h2.1, h2.2.1, h2.2.2⟩
theorem usable_le (l : List UInt8) (ts : List TlsaD) : (usable l ts).length ≤ ts.length := List.length_filter_le _ _
/-- What has been taken of the first k. -/
theorem usable_next {l : List UInt8} {ts : List TlsaD} {k : Nat} (hk : k < ts.length) : usable l (ts.take (k + 1)) = usable l (ts.take k) ++ (if useT l (ts[k]?.getD tls0) then [ts[k]?.getD tls0] else []) := by
  unfold usable
  rw [List.take_succ_eq_append_getElem hk, List.filter_append, List.getElem?_eq_getElem hk]
  congr 1
  cases h : useT l ts[k] <;> simp [h]
def usableC (ts : List TlsaD) (l : List UInt8) : Int := if 8 < ts.length then 2 else M.nameF l
def usableR (ts : List TlsaD) (l : List UInt8) : List TlsaD := if usableC ts l = 0 then usable (M.nrm l) ts else []
theorem usableC_many {ts : List TlsaD} {l : List UInt8} (h : 8 < ts.length) : usableC ts l = 2 := by unfold usableC; rw [if_pos h]
theorem usableC_name {ts : List TlsaD} {l : List UInt8} (h : ¬ 8 < ts.length) : usableC ts l = M.nameF l := by unfold usableC; rw [if_neg h]
theorem usableR_no {ts : List TlsaD} {l : List UInt8} (h : usableC ts l ≠ 0) : usableR ts l = [] := by unfold usableR; rw [if_neg h]
theorem usableR_yes {ts : List TlsaD} {l : List UInt8} (h : usableC ts l = 0) : usableR ts l = usable (M.nrm l) ts := by unfold usableR; rw [if_pos h]
/-- An asking. -/
structure AskD where
  first : Bool
  ps : List PinD
  ts : List TlsaD
  n : ByteArray
  p : Int
  t : Int
def AskD.nm (a : AskD) : List UInt8 := a.n.data.toList
def askF (a : AskD) : Int := if pinsF a.ps = 0 then (if 8 < a.ts.length then 2 else if M.nameF a.nm = 0 then (if pubB a.p && timB a.t then 0 else 3) else M.nameF a.nm) else pinsF a.ps
theorem askF_pins {a : AskD} (h : pinsF a.ps ≠ 0) : askF a = pinsF a.ps := by unfold askF; rw [if_neg h]
theorem askF_many {a : AskD} (h : pinsF a.ps = 0) (h1 : 8 < a.ts.length) : askF a = 2 := by unfold askF; rw [if_pos h, if_pos h1]
theorem askF_name {a : AskD} (h : pinsF a.ps = 0) (h1 : ¬ 8 < a.ts.length) (h2 : M.nameF a.nm ≠ 0) : askF a = M.nameF a.nm := by unfold askF; rw [if_pos h, if_neg h1, if_neg h2]
theorem askF_range {a : AskD} (h : pinsF a.ps = 0) (h1 : ¬ 8 < a.ts.length) (h2 : M.nameF a.nm = 0) (h3 : (pubB a.p && timB a.t) = false) : askF a = 3 := by unfold askF; rw [if_pos h, if_neg h1, if_pos h2, h3]; rfl
theorem askF_yes {a : AskD} (h : pinsF a.ps = 0) (h1 : ¬ 8 < a.ts.length) (h2 : M.nameF a.nm = 0) (h3 : (pubB a.p && timB a.t) = true) : askF a = 0 := by unfold askF; rw [if_pos h, if_neg h1, if_pos h2, h3]; rfl
theorem askF_zero {a : AskD} (h : askF a = 0) : pinsF a.ps = 0 ∧ a.ts.length ≤ 8 ∧ M.nameF a.nm = 0 ∧ pubB a.p = true ∧ timB a.t = true := by
  by_cases h0 : pinsF a.ps = 0
  · by_cases h1 : 8 < a.ts.length
    · rw [askF_many h0 h1] at h; cases h
    · by_cases h2 : M.nameF a.nm = 0
      · cases h3 : (pubB a.p && timB a.t)
        · rw [askF_range h0 h1 h2 h3] at h; cases h
        · simp only [Bool.and_eq_true] at h3
          exact ⟨h0, by omega, h2, h3.1, h3.2⟩
      · rw [askF_name h0 h1 h2] at h; exact absurd h h2
  · rw [askF_pins h0] at h; exact absurd h h0
/-- Whether one of the supplied keys is of that number. -/
def daneB (ts : List TlsaD) (p : Int) : Bool := ts.any fun t => decide (t.v = M.valM p t.m)
theorem dane_match {l : List UInt8} {ts : List TlsaD} {p : Int} (hn : M.nameF l = 0) : ∀ t ∈ usable (M.nrm l) ts, M.matchB t.nm t.u t.m t.v l true p = decide (t.v = M.valM p t.m) := by
  intro t ht
  obtain ⟨_, h1, h2, h3⟩ := usable_mem ht
  unfold TlsaD.f at h1
  unfold M.matchB
  rw [decide_eq_true h1, decide_eq_true hn, decide_eq_true h2, decide_eq_true h3]
  simp
def pinReason (q : PinD) (p t : Int) : Int := if t ≤ q.u then (if q.a = p then 3 else if q.b = p then 4 else 5) else 6
/-- Why who shows the key is believed, or not. -/
def reason (a : AskD) : Int :=
  if (usable (M.nrm a.nm) a.ts).length = 0 then
    match findP a.ps (M.nrm a.nm) with
    | some q => pinReason q a.p a.t
    | none => if a.first then 7 else 8
  else if daneB (usable (M.nrm a.nm) a.ts) a.p then 1 else 2
def acceptB (r : Int) : Bool := decide (r = 1) || (decide (r = 3) || (decide (r = 4) || decide (r = 7)))
theorem reason_dane {a : AskD} (h : (usable (M.nrm a.nm) a.ts).length ≠ 0) : reason a = if daneB (usable (M.nrm a.nm) a.ts) a.p then 1 else 2 := by unfold reason; rw [if_neg h]
theorem reason_pin {a : AskD} {q : PinD} (h : (usable (M.nrm a.nm) a.ts).length = 0) (h1 : findP a.ps (M.nrm a.nm) = some q) : reason a = pinReason q a.p a.t := by unfold reason; rw [if_pos h, h1]
theorem reason_none {a : AskD} (h : (usable (M.nrm a.nm) a.ts).length = 0) (h1 : findP a.ps (M.nrm a.nm) = none) : reason a = if a.first then 7 else 8 := by unfold reason; rw [if_pos h, h1]
def decA (a : AskD) : Bool := if askF a = 0 then acceptB (reason a) else false
def decR (a : AskD) : Int := if askF a = 0 then reason a else 0
theorem decA_no {a : AskD} (h : askF a ≠ 0) : decA a = false := by unfold decA; rw [if_neg h]
theorem decR_no {a : AskD} (h : askF a ≠ 0) : decR a = 0 := by unfold decR; rw [if_neg h]
theorem decA_yes {a : AskD} (h : askF a = 0) : decA a = acceptB (reason a) := by unfold decA; rw [if_pos h]
theorem decR_yes {a : AskD} (h : askF a = 0) : decR a = reason a := by unfold decR; rw [if_pos h]
/-- What the program lays into its map: names and keys, and the reason to believe each. -/
def claimsL (ps : List PinD) : List ((ByteArray × Int) × Int) := ps.flatMap fun p => [((p.n, p.a), 3), ((p.n, p.b), 4)]
theorem claimsL_cons (p : PinD) (ps : List PinD) : claimsL (p :: ps) = ((p.n, p.a), 3) :: ((p.n, p.b), 4) :: claimsL ps := rfl
theorem claimsL_append (ps qs : List PinD) : claimsL (ps ++ qs) = claimsL ps ++ claimsL qs := by simp [claimsL]
theorem claimsL_length : ∀ ps : List PinD, (claimsL ps).length = 2 * ps.length
  | [] => rfl
  | p :: r => by rw [claimsL_cons, List.length_cons, List.length_cons, claimsL_length r, List.length_cons]; omega
theorem claimsL_name {ps : List PinD} {e : (ByteArray × Int) × Int} (h : e ∈ claimsL ps) : ∃ p ∈ ps, e.1.1 = p.n := by
  obtain ⟨p, hp, he⟩ := List.mem_flatMap.1 h
  simp at he
  rcases he with rfl | rfl <;> exact ⟨p, hp, rfl⟩
def lookL (es : List ((ByteArray × Int) × Int)) (n : ByteArray) (x : Int) : Option Int := (es.find? fun e => decide (e.1 = (n, x))).map (·.2)
theorem lookL_none {ps : List PinD} {n : ByteArray} {x : Int} (h : ∀ p ∈ ps, p.n ≠ n) : lookL (claimsL ps) n x = none := by
  unfold lookL
  rw [Option.map_eq_none_iff, List.find?_eq_none]
  intro e he
  obtain ⟨p, hp, h1⟩ := claimsL_name he
  have := h p hp
  simp only [decide_eq_true_eq]
  intro h2
  rw [h2] at h1
  exact this h1.symm
theorem lookL_claims : ∀ {ps : List PinD}, Rise ps → ∀ {q : PinD} (x : Int), q ∈ ps → lookL (claimsL ps) q.n x = if q.a = x then some 3 else if q.b = x then some 4 else none
  | [], _, q, x, h => by cases h
  | p :: r, hr, q, x, h => by
    obtain ⟨h1, h2⟩ := List.pairwise_cons.1 hr
    have key : ∀ (e : (ByteArray × Int) × Int) (es : List ((ByteArray × Int) × Int)) (n : ByteArray), lookL (e :: es) n x = if e.1 = (n, x) then some e.2 else lookL es n x := fun e es n => by
      unfold lookL
      rw [List.find?_cons]
      by_cases he : e.1 = (n, x) <;> simp [he]
    rw [claimsL_cons, key, key]
    rcases List.mem_cons.1 h with rfl | hq
    · have hn : lookL (claimsL r) q.n x = none := lookL_none fun p hp e => nlt_ne (h1 p hp) (by unfold PinD.nm; rw [e])
      rw [hn]
      simp
    · have hne : p.n ≠ q.n := fun e => nlt_ne (h1 q hq) (by unfold PinD.nm; rw [e])
      rw [if_neg (by simp [hne]), if_neg (by simp [hne])]
      exact lookL_claims h2 x hq
end Go.Proofs.YtcolecidbalmhaaGreatDoor
namespace Go.Proofs.YtcolecidbalmhaaGreatDoor
open Go.RowKit

/-- The slice v holds n elements, the cells xs; it is nil, or lies at the head of a block from B on; all that it has room for is there and may be written. -/
def Own (w : World) (B size : Nat) (v : Value) (n : Nat) (xs : List Value) : Prop :=
  xs.length = n * size ∧ ((v = .slice none 0 0 ∧ n = 0) ∨
    ∃ g cap, v = .slice (some ⟨g, 0, none⟩) n cap ∧ B ≤ g ∧ g < w.heap.size ∧ n ≤ cap ∧ cap ≤ maxLen ∧
      (∀ j u, xs[j]? = some u → w.cell? ⟨g, j, none⟩ = some u) ∧ (∀ j, j < cap * size → (w.cell? ⟨g, j, none⟩).isSome = true ∧ w.frozen? ⟨g, j, none⟩ = false))

section
variable {w w' : World} {B size : Nat} {v : Value} {n : Nat} {xs : List Value}

theorem Own.nil (w : World) (B size : Nat) : Own w B size (.slice none 0 0) 0 [] := ⟨by simp, .inl ⟨rfl, rfl⟩⟩
theorem Own.lt (h : Own w B size v n xs) : ∀ k, v.ownBlock = some k → B ≤ k ∧ k < w.heap.size := by
  intro k hk
  rcases h.2 with ⟨rfl, _⟩ | ⟨g, cap, rfl, hb, hg, _⟩
  · simp [Value.ownBlock] at hk
  · simp [Value.ownBlock] at hk
    subst hk
    exact ⟨hb, hg⟩
theorem Own.keep (h : Own w B size v n xs) (hs : w.heap.size ≤ w'.heap.size) (hk : ∀ k, v.ownBlock = some k → w'.heap[k]? = w.heap[k]?) : Own w' B size v n xs := by
  refine ⟨h.1, ?_⟩
  rcases h.2 with hn | ⟨g, cap, rfl, hb, hg, h1, h2, hc, hf⟩
  · exact .inl hn
  · have e : w'.heap[g]? = w.heap[g]? := hk g rfl
    exact .inr ⟨g, cap, rfl, hb, by omega, h1, h2, fun j u hu => (World.cell?_of_block (w := w) e).trans (hc j u hu), fun j hj => by
      rw [World.cell?_of_block (w := w) (a := ⟨g, j, none⟩) e, World.frozen?_of_block (w := w) (a := ⟨g, j, none⟩) e]
      exact hf j hj⟩
theorem Own.below (h : Own w B size v n xs) (hb : Below w.heap.size w w') : Own w' B size v n xs :=
  h.keep hb.size fun k hk => hb.block k (h.lt k hk).2
theorem Own.alloc (h : Own w B size v n xs) (o : Obj) : Own (w.alloc o) B size v n xs :=
  h.keep (by simp) fun k hk => Below.heap_alloc w o k (h.lt k hk).2
theorem Own.drew (h : Own w B size v n xs) : Own w.drew B size v n xs := h
theorem Own.setCell (h : Own w B size v n xs) {p : Addr} (hp : ∀ k, v.ownBlock = some k → k ≠ p.block) (u : Value) : Own (w.setCell p u) B size v n xs :=
  h.keep (by simp [World.setCell]) fun k hk => Below.heap_setCell w p u k (hp k hk)
theorem Own.kept {row : Option Nat} (h : Own w B size v n xs) (hg : w.grownBy w' row) (hne : v.ownBlock = none ∨ v.ownBlock ≠ row) : Own w' B size v n xs :=
  h.keep hg.size fun k hk => hg.block k (h.lt k hk).2 (by rcases hne with e | e <;> simp_all)
theorem Own.less {B' : Nat} (h : Own w B size v n xs) (hB : B' ≤ B) : Own w B' size v n xs := by
  refine ⟨h.1, ?_⟩
  rcases h.2 with hn | ⟨g, cap, rfl, hb, rest⟩
  · exact .inl hn
  · exact .inr ⟨g, cap, rfl, by omega, rest⟩
theorem Own.fits (h : Own w B size v n xs) : n ≤ maxLen := by
  rcases h.2 with ⟨_, rfl⟩ | ⟨g, cap, _, _, _, h1, h2, _⟩
  · exact Nat.zero_le _
  · omega
/-- Its value, written out. -/
theorem Own.form (h : Own w B size v n xs) : ∃ a cap, v = .slice a n cap ∧ n ≤ cap ∧ cap ≤ maxLen ∧ (a = none → n = 0 ∧ cap = 0) := by
  rcases h.2 with ⟨rfl, rfl⟩ | ⟨g, cap, rfl, _, _, h1, h2, _⟩
  · exact ⟨none, 0, rfl, Nat.le_refl _, Nat.zero_le _, fun _ => ⟨rfl, rfl⟩⟩
  · exact ⟨_, cap, rfl, h1, h2, fun h => by cases h⟩

/-- A slice of whole numbers that is owned can be read. -/
theorem Own.row {k : IntKind} {zs : List Int} {a : Option Addr} {len cap : Nat} (h : Own w B 1 (.slice a len cap) n (zs.map (Value.int k))) (hw : ∀ z ∈ zs, (Lit.int k z).wf = true) : Row k w w.heap.size a len cap zs := by
  have hl := h.1
  simp at hl
  rcases h.2 with ⟨e, rfl⟩ | ⟨g, c, e, hb, hg, h1, h2, hc, _⟩
  · injection e with e1 e2 e3
    subst e1; subst e2; subst e3
    obtain rfl : zs = [] := List.eq_nil_of_length_eq_zero hl
    exact Row.nil _ _ _
  · injection e with e1 e2 e3
    subst e1; subst e2; subst e3
    exact ⟨hl, hw, h1, h2, fun hp => ⟨g, 0, rfl, hg, fun j hj => by
      rw [Nat.zero_add]
      exact hc j _ (by simp [List.getD, show j < zs.length by omega])⟩⟩

/-- A block that was just made, with room for cap. -/
theorem Own.made (w : World) (cur : Array Value) (e : TypeId) (cap : Nat) (hb : B ≤ w.heap.size) (hm : cap ≤ maxLen) (hs : cur.size = cap * size) :
    Own (w.alloc (.cells cur e)) B size (.slice (some ⟨w.heap.size, 0, none⟩) 0 cap) 0 [] := by
  have e1 : (w.alloc (.cells cur e)).heap[w.heap.size]? = some (.cells cur e) := (MapKept.heap_alloc w _).1
  refine ⟨by simp, .inr ⟨w.heap.size, cap, rfl, hb, by simp, Nat.zero_le _, hm, by simp, fun j hj => ?_⟩⟩
  unfold World.cell? World.frozen?
  rw [e1]
  simp [show j < cur.size by omega]

/-- The bytes of a text, newly laid: the block is marked behind its end alone. -/
theorem Own.bytes (w : World) (cur : Array Value) (e : TypeId) (cap : Nat) (xs : List Value) (hb : B ≤ w.heap.size) (hn : n ≤ cap) (hm : cap ≤ maxLen) (hs : cur.size = cap) (hl : xs.length = n) (hx : cur.toList.take n = xs) (m1 : Nat) :
    Own (w.alloc (.cells cur e (cur.size, m1))) B 1 (.slice (some ⟨w.heap.size, 0, none⟩) n cap) n xs := by
  have e1 : (w.alloc (.cells cur e (cur.size, m1))).heap[w.heap.size]? = some (.cells cur e (cur.size, m1)) := (MapKept.heap_alloc w _).1
  refine ⟨by simp [hl], .inr ⟨w.heap.size, cap, rfl, hb, by simp, hn, hm, fun j u hu => ?_, fun j hj => ?_⟩⟩
  · unfold World.cell?
    rw [e1]
    rw [← hx, List.getElem?_take] at hu
    split at hu
    · simpa using hu
    · cases hu
  · unfold World.cell? World.frozen?
    rw [e1]
    simp [show j < cur.size by omega]
    intro h
    omega
end

section
variable {P : Program} (w : World)

/-- WHAT AN append MAKES OF IT, whatever is appended. -/
theorem run_append_src (B : Nat) (t tx ty e : TypeId) (i : TypeInfo) (z : Value) (size bytes : Nat) (ht : P.underlying t = some (.slice e)) (hi : P.info? e = some i) (hz : i.zero = some z)
    (hsize : i.size = size) (hby : i.bytes = bytes) (hzs : z.cells.size = size)
    (v : Value) (n : Nat) (xs : List Value) (hown : Own w B size v n xs)
    (x : Value) (m : Nat) (news : List Value) (hs : Go.Src P size tx x m news w)
    (h63 : n + m ≤ maxLen) (hbytes : (n + m) * bytes ≤ 140737488355328) (hB : B ≤ w.heap.size) :
    ∃ v' w', (Builtin.append_ #[t, tx] ty #[v, x]).run P w = .ok v' w' ∧ Own w' B size v' (n + m) (xs ++ news) ∧ w.grownBy w' v.ownBlock ∧ (v'.ownBlock = v.ownBlock ∨ v'.ownBlock = some w.heap.size) := by
  subst hsize
  subst hby
  have hlen : (xs ++ news).length = (n + m) * i.size := by rw [List.length_append, hown.1, hs.newsLen, Nat.add_mul]
  have grown : ∀ (old : Nat) (row : Option Nat),
      Own (w.drew.alloc (.cells ((xs ++ news).toArray ++ Builtin.zeroCells z.cells (grownCap w (n + m) old e - (n + m))) e)) B i.size
        (.slice (some ⟨w.heap.size, 0, none⟩) (n + m) (grownCap w (n + m) old e)) (n + m) (xs ++ news) ∧
      w.grownBy (w.drew.alloc (.cells ((xs ++ news).toArray ++ Builtin.zeroCells z.cells (grownCap w (n + m) old e - (n + m))) e)) row := by
    intro old row
    have hge := grownCap_ge w (n + m) old e
    have hcm : grownCap w (n + m) old e ≤ maxLen := grownCap_le_maxLen w (n + m) old e h63
    have e1 := (MapKept.heap_alloc w.drew (.cells ((xs ++ news).toArray ++ Builtin.zeroCells z.cells (grownCap w (n + m) old e - (n + m))) e)).1
    have e2 : w.drew.heap.size = w.heap.size := rfl
    rw [e2] at e1
    refine ⟨⟨hlen, .inr ⟨w.heap.size, _, rfl, hB, by simp, hge, hcm, fun j u hu => ?_, fun j hj => ?_⟩⟩, ⟨rfl, rfl, rfl, by simp, fun k hk _ => Below.heap_alloc w.drew _ k hk⟩⟩
    · unfold World.cell?
      rw [e1]
      have hj := (List.getElem?_eq_some_iff.1 hu).1
      simp only [Array.getElem?_append, List.size_toArray, hj, if_true]
      simpa using hu
    · have hsz : j < ((xs ++ news).toArray ++ Builtin.zeroCells z.cells (grownCap w (n + m) old e - (n + m))).size := by
        simp only [Array.size_append, List.size_toArray, size_zeroCells, hzs, hlen, ← Nat.add_mul]
        rw [Nat.add_sub_cancel' hge]
        exact hj
      unfold World.cell? World.frozen?
      rw [e1]
      simp only [Array.getElem?_eq_getElem hsz]
      simp
  rcases hown.2 with ⟨rfl, rfl⟩ | ⟨g, cap, rfl, hbg, hgl, hnc, hcm, hcell, hroomc⟩
  · have hx : xs = [] := List.eq_nil_of_length_eq_zero (by simpa using hown.1)
    subst hx
    by_cases hm : m = 0
    · subst hm
      have hn : news = [] := List.eq_nil_of_length_eq_zero (by simpa using hs.newsLen)
      subst hn
      refine ⟨.slice none 0 0, w, ?_, Own.nil w B i.size, ⟨rfl, rfl, rfl, Nat.le_refl _, fun _ _ _ => rfl⟩, .inl rfl⟩
      rcases hs.kind with ⟨e', hk⟩ | hk <;> simp [Builtin.append_, run_underlying ht, run_underlying hk, sizeOf, typeInfo, hi, hs.len, hs.cells]
    · have hr := run_append_grow_src (P := P) w t tx ty e i z ht hi hz none 0 0 [] (run_firstCells_none w.drew i.size 0 0 0) x m news hs (by omega) (by simp only [maxLen] at h63; omega) (growslice_fits (by omega) hbytes)
      have hgr := grown 0 (Value.ownBlock (.slice none 0 0))
      exact ⟨_, _, hr, hgr.1, hgr.2, .inr rfl⟩
  · by_cases hroom : n + m ≤ cap
    · have hfit : ∀ j, j < news.length → n * i.size + j < cap * i.size := by
        intro j hj
        have h1 : (n + m) * i.size ≤ cap * i.size := Nat.mul_le_mul_right _ hroom
        rw [Nat.add_mul, ← hs.newsLen] at h1
        omega
      have hr := run_append_room_src (P := P) w t tx ty e i ht hi g 0 n cap x m news hs hroom
        (fun j hj => by rw [Nat.zero_add]; exact (hroomc _ (hfit j hj)).1) (fun j hj => by rw [Nat.zero_add]; exact (hroomc _ (hfit j hj)).2)
      rw [Nat.zero_add] at hr
      have hk := World.keptBut_setCells g (may := fun _ => True) news (n * i.size) w (fun _ _ => trivial)
      have hsz : (w.setCells g (n * i.size) news).heap.size = w.heap.size := by
        have : ∀ (vs : List Value) (o : Nat) (u : World), (u.setCells g o vs).heap.size = u.heap.size := by
          intro vs
          induction vs with
          | nil => intro o u; rfl
          | cons c cs ih => intro o u; show ((u.setCell _ _).setCells g _ cs).heap.size = _; rw [ih]; simp [World.setCell]
        exact this _ _ _
      have htp : ∀ (vs : List Value) (o : Nat) (u : World), (u.setCells g o vs).tape = u.tape := by
        intro vs
        induction vs with
        | nil => intro o u; rfl
        | cons c cs ih => intro o u; show ((u.setCell _ _).setCells g _ cs).tape = _; rw [ih]; rfl
      refine ⟨_, _, hr, ⟨hlen, .inr ⟨g, cap, rfl, hbg, by rw [hsz]; exact hgl, hroom, hcm, fun j u hu => ?_, fun j hj => ?_⟩⟩,
        ⟨World.os_setCells w g _ _, htp _ _ _, World.output_setCells w g _ _, by rw [hsz]; exact Nat.le_refl _, fun k hk hne => World.heap_setCells_other w g _ _ hk (fun e => hne (by simp [Value.ownBlock, e]))⟩, .inl rfl⟩
      · rcases Nat.lt_or_ge j xs.length with hj | hj
        · rw [World.cell?_setCells_out g news (n * i.size) w ⟨g, j, none⟩ (fun _ _ => .inl (by rw [← hown.1]; exact hj))]
          rw [List.getElem?_append_left hj] at hu
          exact hcell j u hu
        · rw [List.getElem?_append_right hj] at hu
          have hj2 := (List.getElem?_eq_some_iff.1 hu).1
          have key := World.cell?_setCells_in g news (n * i.size) w (fun j hj => (hroomc _ (hfit j hj)).1) (j - xs.length) hj2
          have eo : n * i.size + (j - xs.length) = j := by rw [← hown.1]; omega
          rw [eo] at key
          rw [key]
          rw [List.getElem?_eq_getElem hj2] at hu
          exact hu
      · refine ⟨World.isSome_setCells g news _ w _ (hroomc j hj).1, ?_⟩
        rw [World.frozen?_setCells]
        exact (hroomc j hj).2
    · have hold : (Builtin.firstCells i.size n (.slice (some ⟨g, 0, none⟩) n cap)).run P w.drew = .ok xs.toArray w.drew :=
        run_firstCells_some w.drew i.size n ⟨g, 0, none⟩ n cap xs hown.1 (fun j u hu => by
          have := hcell j u hu
          rw [Addr.add_lit, Nat.zero_add]
          exact this)
      have hr := run_append_grow_src (P := P) w t tx ty e i z ht hi hz (some ⟨g, 0, none⟩) n cap xs hold x m news hs (by omega) (by simp only [maxLen] at h63; omega) (growslice_fits (by omega) hbytes)
      have hgr := grown cap (Value.ownBlock (.slice (some ⟨g, 0, none⟩) n cap))
      exact ⟨_, _, hr, hgr.1, hgr.2, .inr rfl⟩

theorem wp_append_src {o : Oper} {a : Act} {K : Act → World → Prop} {Q : Exit → Act → World → Prop} (s y : Operand) (t tx : TypeId)
    (ho : o.op = .call { callee := .builtin .append, args := #[s, y], argTypes := #[t, tx] })
    (B : Nat) (e : TypeId) (i : TypeInfo) (z : Value) (size bytes : Nat) (ht : P.underlying t = some (.slice e)) (hi : P.info? e = some i) (hz : i.zero = some z)
    (hsize : i.size = size) (hby : i.bytes = bytes) (hzs : z.cells.size = size)
    (v : Value) (n : Nat) (xs : List Value) (hsv : a.eval s = v) (hown : Own w B size v n xs)
    (x : Value) (m : Nat) (news : List Value) (hx : a.eval y = x) (hs : Go.Src P size tx x m news w)
    (h63 : n + m ≤ maxLen) (hbytes : (n + m) * bytes ≤ 140737488355328) (hB : B ≤ w.heap.size)
    (h : ∀ v' w', Own w' B size v' (n + m) (xs ++ news) → w.grownBy w' v.ownBlock → (v'.ownBlock = v.ownBlock ∨ v'.ownBlock = some w.heap.size) → K (a.put o.dst v') w') : o.wp P a w K Q := by
  obtain ⟨v', w', hr, h2, h3, h4⟩ := run_append_src (P := P) w B t tx o.type e i z size bytes ht hi hz hsize hby hzs v n xs hown x m news hs h63 hbytes hB
  unfold Oper.wp execOp
  simp only [ho, resolve, invoke, builtin, Sem.run_bind, Sem.run_pure, Result.andThen_ok, List.map_toArray, List.map_cons, List.map_nil, hsv, hx, hr]
  exact h v' w' h2 h3 h4

theorem wpList_append_src {ops : Array Oper} {rest : List Oper} {o : Oper} {a : Act} {Q : Exit → Act → World → Prop} (hgd : o.guard = none) (s y : Operand) (t tx : TypeId)
    (ho : o.op = .call { callee := .builtin .append, args := #[s, y], argTypes := #[t, tx] })
    (B : Nat) (e : TypeId) (i : TypeInfo) (z : Value) (size bytes : Nat) (ht : P.underlying t = some (.slice e)) (hi : P.info? e = some i) (hz : i.zero = some z)
    (hsize : i.size = size) (hby : i.bytes = bytes) (hzs : z.cells.size = size)
    (v : Value) (n : Nat) (xs : List Value) (hsv : a.eval s = v) (hown : Own w B size v n xs)
    (x : Value) (m : Nat) (news : List Value) (hx : a.eval y = x) (hs : Go.Src P size tx x m news w)
    (h63 : n + m ≤ maxLen) (hbytes : (n + m) * bytes ≤ 140737488355328) (hB : B ≤ w.heap.size)
    (h : ∀ v' w', Own w' B size v' (n + m) (xs ++ news) → w.grownBy w' v.ownBlock → (v'.ownBlock = v.ownBlock ∨ v'.ownBlock = some w.heap.size) → wpList P ops Q rest (a.put o.dst v') w') : wpList P ops Q (o :: rest) a w :=
  wpList_plain hgd fun _ hK => wp_append_src w s y t tx ho B e i z size bytes ht hi hz hsize hby hzs v n xs hsv hown x m news hx hs h63 hbytes hB fun v' w' h2 h3 h4 => hK _ _ (h v' w' h2 h3 h4)

end

end Go.Proofs.YtcolecidbalmhaaGreatDoor
namespace Go.Proofs.YtcolecidbalmhaaGreatDoor
open Go.RowKit

theorem ret_int {k : IntKind} {a b : Int} (h : a = b) : Ending.returned (.int k a) = .returned (.int k b) := by rw [h]
theorem ret_bool {a b : Bool} (h : a = b) : Ending.returned (.bool a) = .returned (.bool b) := by rw [h]

theorem l2Sum_any (a : Option Addr) (len cap B : Nat) (zs : List Int) (w : World) (hR : Row .u8 w B a len cap zs) :
    Calls Tryz.prog 164 #[.slice a len cap] w fun e w' => e = .returned (.int .i64 (M.sumL zs)) ∧ w = w' := by
  have hlen := hR.fits
  have hmost := hR.most
  unfold maxLen at hmost
  have hL := Lib.hid hR.length
  rcases Nat.eq_zero_or_pos len with h0 | h0
  · subst h0
    obtain rfl : zs = [] := List.eq_nil_of_length_eq_zero hL.out
    go_enter Tryz.func164, Tryz.ntmps164
    go_wp2_with fail
    refine wp_loop_rounds 1 ?_
    rw [rounds_succ]; go_wp2_with fail
    go_ret
    exact ⟨rfl, rfl⟩
  · obtain ⟨b, off, rfl, hb, hc⟩ := hR.cells h0
    have Hc := Lib.hid hc
    have HB := Lib.hid hR.byte
    clear hc hR
    go_enter Tryz.func164, Tryz.ntmps164
    go_wp2_with fail
    go_loop [3, 4] (fun n i => ∃ k : Nat, k ≤ len ∧ i = .int .i64 k ∧ n = .int .i64 (M.sumL (zs.take k))) (fun _ i => len - (intOf i).toNat)
    case atStart => exact ⟨0, Nat.zero_le _, rfl, rfl⟩
    case round =>
      obtain ⟨k, hk, rfl, rfl⟩ := hrel
      obtain ⟨s0, s1⟩ := M.sumL_bd (zs.take k)
      by_cases hlt : k < len
      · have hcell := Hc.out k hlt
        obtain ⟨z0, z1⟩ := HB.out k
        simp only [List.getD_eq_getElem?_getD] at hcell z0 z1
        have H := Lib.hid (M.sumL_take zs k (by rw [hL.out]; exact hlt))
        go_wp2_with fail
        go_round
        case rel => exact ⟨k + 1, by omega, by go_num, by rw [H.out]⟩
        case measure => simp [intOf]; omega
      · go_wp2_with fail
        go_ret
        exact ⟨ret_int (by rw [List.take_of_length_le (by rw [hL.out]; omega)]), rfl⟩

theorem sumBytes_any (a : Option Addr) (len cap B : Nat) (zs : List Int) (w : World) (hR : Row .u8 w B a len cap zs) :
    Calls Tryz.prog 137 #[.slice a len cap] w fun e w' => e = .returned (.int .u32 (M.sumL zs)) ∧ w = w' := by
  have hlen := hR.fits
  have hmost := hR.most
  unfold maxLen at hmost
  have hL := Lib.hid hR.length
  rcases Nat.eq_zero_or_pos len with h0 | h0
  · subst h0
    obtain rfl : zs = [] := List.eq_nil_of_length_eq_zero hL.out
    go_enter Tryz.func137, Tryz.ntmps137
    go_wp2_with fail
    refine wp_loop_rounds 1 ?_
    rw [rounds_succ]; go_wp2_with fail
    go_ret
    exact ⟨rfl, rfl⟩
  · obtain ⟨b, off, rfl, hb, hc⟩ := hR.cells h0
    have Hc := Lib.hid hc
    have HB := Lib.hid hR.byte
    clear hc hR
    go_enter Tryz.func137, Tryz.ntmps137
    go_wp2_with fail
    go_loop [3, 8] (fun n i => ∃ k : Nat, k ≤ len ∧ i = .int .i64 k ∧ n = .int .u32 (M.sumL (zs.take k))) (fun _ i => len - (intOf i).toNat)
    case atStart => exact ⟨0, Nat.zero_le _, rfl, rfl⟩
    case round =>
      obtain ⟨k, hk, rfl, rfl⟩ := hrel
      obtain ⟨s0, s1⟩ := M.sumL_bd (zs.take k)
      by_cases hlt : k < len
      · have hcell := Hc.out k hlt
        obtain ⟨z0, z1⟩ := HB.out k
        simp only [List.getD_eq_getElem?_getD] at hcell z0 z1
        have H := Lib.hid (M.sumL_take zs k (by rw [hL.out]; exact hlt))
        go_wp2_with fail
        go_round
        case rel => exact ⟨k + 1, by omega, by go_num, by rw [H.out]⟩
        case measure => simp [intOf]; omega
      · go_wp2_with fail
        go_ret
        exact ⟨ret_int (by rw [List.take_of_length_le (by rw [hL.out]; omega)]), rfl⟩

theorem l2Is_any (v : Int) (w : World) :
    Calls Tryz.prog 224 #[.int .i64 v] w fun e w' => e = .returned (.bool (M.sumB v)) ∧ w = w' := by
  go_enter Tryz.func224, Tryz.ntmps224
  go_wp2_with fail
  refine (l1In_any _ _ _ _).mono ?_
  rintro r w' ⟨rfl, rfl⟩
  go_wp2_with fail
  go_ret
  exact ⟨rfl, rfl⟩

theorem isSum_any (v : Int) (w : World) :
    Calls Tryz.prog 171 #[.int .i64 v] w fun e w' => e = .returned (.bool (M.sumB v)) ∧ w = w' := by
  by_cases h1 : 0 ≤ v
  · by_cases h2 : v ≤ 65520
    · have e : M.sumB v = true := by simp [M.sumB, h1, h2]
      rw [e]; clear e
      go_enter Tryz.func171, Tryz.ntmps171
      go_wp2_with fail
      go_ret
      simp
    · have e : M.sumB v = false := by simp [M.sumB, h2]
      rw [e]; clear e
      go_enter Tryz.func171, Tryz.ntmps171
      go_wp2_with fail
      go_ret
      simp
  · have e : M.sumB v = false := by simp [M.sumB, h1]
    rw [e]; clear e
    go_enter Tryz.func171, Tryz.ntmps171
    go_wp2_with fail
    go_ret
    simp

end Go.Proofs.YtcolecidbalmhaaGreatDoor
