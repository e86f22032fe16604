/- Texts of this seat that several laws rest on, laid into one. Conditions: as each theorem states. -/
import Derived.Test.YtefgimpodhjdpaaGreatDoorS0
import Derived.Test.YtefgimpodhjdpaaGreatDoorS1
import Derived.Test.YtefgimpodhjdpaaGreatDoorS2
import Derived.Lib.Bytealg
import Derived.Scope
import Derived.WalkMore
namespace Go.Proofs.YtefgimpodhjdpaaGreatDoor.M
open Go.Proofs.YtefgimpodhjdpaaGreatDoor (inB pubB)

def secB (s : Int) : Bool := inB s 1 1438
def nonceN (s t : Int) : Int := 1 + tagL nonceS [s, t] % 1438
def nonceR (s t : Int) : Int × Int := if inB s 1 1438 && sumB t then (0, nonceN s t) else (3, 0)
def chalN (p q t : Int) : Int := tagL signS [p, q, t] % 1439
def pubN (s : Int) : Int := pw 4 s.toNat 2879
def sigPt (s t : Int) : Int := pw 4 (nonceN s t).toNat 2879
def sigPr (s t : Int) : Int := (nonceN s t + chalN (pubN s) (sigPt s t) t * s) % 1439
def signR (s t : Int) : Int × Int × Int := if inB s 1 1438 && sumB t then (0, sigPt s t, sigPr s t) else (3, 0, 0)
/-- A signature without a fault. -/
def sigB (p q : Int) : Bool := pubB p && inB q 0 1438
def sigF (p q : Int) : Int := if sigB p q then 0 else 3
def checkB (u t p q : Int) : Bool := pubB u && sumB t && sigB p q && (pw 4 q.toNat 2879 == p * pw u (chalN u p t).toNat 2879 % 2879)
def packL (p q : Int) : List Int := if sigB p q then two p ++ two q else []
def readP (zs : List Int) : Int := 256 * zs.getD 0 0 + zs.getD 1 0
def readQ (zs : List Int) : Int := 256 * zs.getD 2 0 + zs.getD 3 0
def readB (zs : List Int) : Bool := decide (zs.length = 4) && sigB (readP zs) (readQ zs)
def readR (zs : List Int) : Int × Int × Int := if readB zs then (0, readP zs, readQ zs) else (5, 0, 0)

theorem nonceN_bd (s t : Int) : 1 ≤ nonceN s t ∧ nonceN s t ≤ 1438 := by unfold nonceN; omega
theorem chalN_bd (p q t : Int) : 0 ≤ chalN p q t ∧ chalN p q t ≤ 1438 := by unfold chalN; omega
theorem sigPr_bd (s t : Int) : 0 ≤ sigPr s t ∧ sigPr s t ≤ 1438 := by unfold sigPr; omega
theorem pub_pow {a : Int} (a0 : 1 ≤ a) (a1 : a ≤ 1438) : pubB (pw 4 a.toNat 2879) = true := by
  have h := base_pub a.toNat (by omega) (by omega)
  simp only [pubB, inB, Bool.and_eq_true, decide_eq_true_eq, beq_iff_eq]
  exact ⟨h, base_raised _⟩
theorem sigPt_pub (s t : Int) : pubB (sigPt s t) = true := pub_pow (nonceN_bd s t).1 (nonceN_bd s t).2
theorem sigB_signed (s t : Int) : sigB (sigPt s t) (sigPr s t) = true := by
  have h := sigPr_bd s t
  simp only [sigB, sigPt_pub, inB, Bool.true_and, decide_eq_true_eq]
  exact h
theorem sum_of_pub {p : Int} (h : pubB p = true) : sumB p = true := by
  have := Go.Proofs.YtefgimpodhjdpaaGreatDoor.pubB_bd h
  simp only [sumB, decide_eq_true_eq]; omega
theorem sum_of_sec {p : Int} (h : inB p 1 1438 = true) : sumB p = true := by
  simp only [inB, decide_eq_true_eq] at h
  simp only [sumB, decide_eq_true_eq]; omega
theorem pow_sum {a : Int} (e : Nat) : sumB (pw a e 2879) = true := by
  have := pw_bd a e (m := 2879) (by omega)
  simp only [sumB, decide_eq_true_eq]; omega

/-- The equation of a signature that was made. -/
theorem sign_eq {s t : Int} (s0 : 1 ≤ s) : pw 4 (sigPr s t).toNat 2879 = sigPt s t * pw (pubN s) (chalN (pubN s) (sigPt s t) t).toNat 2879 % 2879 := by
  have hh := nonceN_bd s t
  have he := chalN_bd (pubN s) (sigPt s t) t
  unfold sigPr
  generalize chalN (pubN s) (sigPt s t) t = e at *
  unfold sigPt pubN
  generalize nonceN s t = h at *
  rw [pw_pw, pw_add]
  rw [base_mod (h.toNat + s.toNat * e.toNat)]
  congr 1
  obtain ⟨h, rfl⟩ := Int.eq_ofNat_of_zero_le (show 0 ≤ h by omega)
  obtain ⟨e, rfl⟩ := Int.eq_ofNat_of_zero_le he.1
  obtain ⟨s, rfl⟩ := Int.eq_ofNat_of_zero_le (show 0 ≤ s by omega)
  have q : ((h : Int) + (e : Int) * (s : Int)) % 1439 = ((h + e * s) % 1439 : Nat) := by simp
  rw [q]
  show (h + e * s) % 1439 = (h + s * e) % 1439
  rw [Nat.mul_comm s e]
theorem checked {s t : Int} (hs : inB s 1 1438 = true) (ht : sumB t = true) : checkB (pubN s) t (sigPt s t) (sigPr s t) = true := by
  have hs' := hs
  simp only [inB, decide_eq_true_eq] at hs'
  have hp : pubB (pubN s) = true := pub_pow hs'.1 hs'.2
  have he := sign_eq (t := t) hs'.1
  simp only [checkB, hp, ht, sigB_signed, Bool.and_self, Bool.true_and, beq_iff_eq]
  exact he
theorem four_moves {q : Int} (q0 : 0 ≤ q) (q1 : q ≤ 1438) : pw 4 ((q + 1) % 1439).toNat 2879 ≠ pw 4 q.toNat 2879 := by
  obtain ⟨q, rfl⟩ := Int.eq_ofNat_of_zero_le q0
  have e : (((q : Int) + 1) % 1439).toNat = (q + 1) % 1439 := by
    have : ((q : Int) + 1) % 1439 = ((q + 1) % 1439 : Nat) := by simp
    rw [this]; rfl
  have e2 : ((q : Int)).toNat = q := rfl
  rw [e, e2, ← base_mod, ← pw_add]
  have h1 : pw 4 1 2879 = 4 := pw_one (by omega) (by omega)
  rw [h1]
  have b := pw_bd 4 q (m := 2879) (by omega)
  have hpos : 1 ≤ pw 4 q 2879 := by
    rcases Nat.eq_zero_or_pos q with h | h
    · subst h; rw [pw_zero]; decide
    · have := (base_pub q h (by omega)).1; omega
  omega
theorem turned {s t : Int} (hs : inB s 1 1438 = true) : checkB (pubN s) t (sigPt s t) ((sigPr s t + 1) % 1439) = false := by
  have hs' := hs
  simp only [inB, decide_eq_true_eq] at hs'
  have he := sign_eq (t := t) hs'.1
  have hq := sigPr_bd s t
  have hm := four_moves hq.1 hq.2
  have : (pw 4 ((sigPr s t + 1) % 1439).toNat 2879 == sigPt s t * pw (pubN s) (chalN (pubN s) (sigPt s t) t).toNat 2879 % 2879) = false := by
    rw [← he, beq_eq_false_iff_ne]; exact hm
  simp only [checkB, this, Bool.and_false]

theorem sigB_bd {p q : Int} (h : sigB p q = true) : 2 ≤ p ∧ p ≤ 2878 ∧ 0 ≤ q ∧ q ≤ 1438 := by
  simp only [sigB, Bool.and_eq_true] at h
  have := Go.Proofs.YtefgimpodhjdpaaGreatDoor.pubB_bd h.1
  have h2 := h.2
  simp only [inB, decide_eq_true_eq] at h2
  omega
theorem packL_byte (p q : Int) : ∀ b ∈ packL p q, byteB b := by
  unfold packL
  split
  · rename_i h
    have := sigB_bd h
    intro b hb
    rcases List.mem_append.1 hb with hb | hb
    · exact two_byte (by simp only [sumB, decide_eq_true_eq]; omega) b hb
    · exact two_byte (by simp only [sumB, decide_eq_true_eq]; omega) b hb
  · intro b hb; cases hb
theorem packL_yes {p q : Int} (h : sigB p q = true) : packL p q = [p / 256, p % 256, q / 256, q % 256] := by simp [packL, h, two]
theorem packL_no {p q : Int} (h : sigB p q = false) : packL p q = [] := by simp [packL, h]
theorem read_packed {p q : Int} (h : sigB p q = true) : readR (packL p q) = (0, p, q) := by
  rw [packL_yes h]
  have e1 : readP [p / 256, p % 256, q / 256, q % 256] = p := by simp [readP]; omega
  have e2 : readQ [p / 256, p % 256, q / 256, q % 256] = q := by simp [readQ]; omega
  simp [readR, readB, e1, e2, h]
theorem pack_read {zs : List Int} (hb : ∀ z ∈ zs, byteB z) (h : readB zs = true) : packL (readP zs) (readQ zs) = zs := by
  simp only [readB, Bool.and_eq_true, decide_eq_true_eq] at h
  obtain ⟨hl, hs⟩ := h
  rw [packL_yes hs]
  match zs, hl with
  | [a, b, c, d], _ =>
    have ha := hb a (by simp)
    have h1 := hb b (by simp)
    have hc := hb c (by simp)
    have hd := hb d (by simp)
    unfold byteB at ha h1 hc hd
    simp only [readP, readQ, List.getD_eq_getElem?_getD, List.getElem?_cons_zero, List.getElem?_cons_succ, Option.getD_some]
    have q1 : (256 * a + b) / 256 = a := by omega
    have q2 : (256 * a + b) % 256 = b := by omega
    have q3 : (256 * c + d) / 256 = c := by omega
    have q4 : (256 * c + d) % 256 = d := by omega
    rw [q1, q2, q3, q4]
theorem readR_code (zs : List Int) : (readR zs).1 = if readB zs then 0 else 5 := by unfold readR; split <;> rfl
end Go.Proofs.YtefgimpodhjdpaaGreatDoor.M
namespace Go.Proofs.YtefgimpodhjdpaaGreatDoor
set_option linter.unusedVariables false

/-- What is wrong with a hello; with a reply. -/
def helF (l : List UInt8) (r s : Int) : Int := if M.sumB r && pubB s then M.normF l else 3
def repF (r s p x y f : Int) : Int := if M.sumB r && pubB s && pubB p && M.sumB f then M.sigF x y else 3
theorem helF_no {l : List UInt8} {r s : Int} (h : (M.sumB r && pubB s) = false) : helF l r s = 3 := by simp [helF, h]
theorem helF_yes {l : List UInt8} {r s : Int} (h : (M.sumB r && pubB s) = true) : helF l r s = M.normF l := by simp [helF, h]
theorem helF_zero {l : List UInt8} {r s : Int} (h : helF l r s = 0) : M.sumB r = true ∧ pubB s = true ∧ M.normF l = 0 := by
  cases hc : (M.sumB r && pubB s)
  · rw [helF_no hc] at h
    omega
  · rw [helF_yes hc] at h
    simp only [Bool.and_eq_true] at hc
    exact ⟨hc.1, hc.2, h⟩
theorem repF_no {r s p x y f : Int} (h : (M.sumB r && pubB s && pubB p && M.sumB f) = false) : repF r s p x y f = 3 := by simp [repF, h]
theorem repF_yes {r s p x y f : Int} (h : (M.sumB r && pubB s && pubB p && M.sumB f) = true) : repF r s p x y f = M.sigF x y := by simp [repF, h]
theorem repF_zero {r s p x y f : Int} (h : repF r s p x y f = 0) : M.sumB r = true ∧ pubB s = true ∧ pubB p = true ∧ M.sumB f = true ∧ M.sigB x y = true := by
  cases hc : (M.sumB r && pubB s && pubB p && M.sumB f)
  · rw [repF_no hc] at h
    omega
  · rw [repF_yes hc] at h
    simp only [Bool.and_eq_true] at hc
    refine ⟨hc.1.1.1, hc.1.1.2, hc.1.2, hc.2, ?_⟩
    unfold M.sigF at h
    split at h
    · assumption
    · omega
theorem pub_bd {p : Int} (h : pubB p = true) : 0 ≤ p ∧ p ≤ 2878 := by
  simp only [pubB, inB, Bool.and_eq_true, decide_eq_true_eq] at h
  omega
theorem pub_sum6 {p : Int} (h : pubB p = true) : M.sumB p = true := by
  have := pub_bd h
  simp only [M.sumB, decide_eq_true_eq]
  omega
theorem hel_size {n : ByteArray} {r s : Int} (h : helF n.data.toList r s = 0) : n.size ≤ 20 := by
  have h4 := (M.nameF_zero (M.normF_zero (helF_zero h).2.2).1).1
  have hL : n.data.toList.length = n.size := by simp
  omega
/-- The bytes ahead of a hello's name; the bytes of a hello. -/
def helHead (r s : Int) : List Int := [1] ++ M.two r ++ M.two s
def packH (n : ByteArray) (r s : Int) : List Int := helHead r s ++ M.textL n
def packHL (n : ByteArray) (r s : Int) : List Int := if helF n.data.toList r s = 0 then packH n r s else []
/-- The bytes ahead of a reply's signature; the bytes of a reply. -/
def frontR (r s p : Int) : List Int := [2] ++ M.two r ++ M.two s ++ M.two p
def packR (r s p x y f : Int) : List Int := frontR r s p ++ (M.two x ++ M.two y) ++ M.two f
def packRL (r s p x y f : Int) : List Int := if repF r s p x y f = 0 then packR r s p x y f else []
theorem helHead_length (r s : Int) : (helHead r s).length = 5 := rfl
theorem frontR_length (r s p : Int) : (frontR r s p).length = 7 := rfl
theorem packR_length (r s p x y f : Int) : (packR r s p x y f).length = 13 := rfl
theorem packH_length (n : ByteArray) (r s : Int) : (packH n r s).length = 5 + n.size := by
  unfold packH
  rw [List.length_append, helHead_length, M.textL_length]
theorem two_byte {v : Int} (h : M.sumB v = true) : ∀ z ∈ M.two v, M.byteB z := by
  intro z hz
  simp only [M.sumB, decide_eq_true_eq] at h
  simp only [M.two, List.mem_cons, List.not_mem_nil, or_false] at hz
  unfold M.byteB
  omega
theorem packH_byte {n : ByteArray} {r s : Int} (h : helF n.data.toList r s = 0) : ∀ z ∈ packH n r s, M.byteB z := by
  intro z hz
  obtain ⟨h1, h2, -⟩ := helF_zero h
  simp only [packH, helHead, List.mem_append] at hz
  rcases hz with ((hz | hz) | hz) | hz
  · simp only [List.mem_cons, List.not_mem_nil, or_false] at hz
    unfold M.byteB
    omega
  · exact two_byte h1 z hz
  · exact two_byte (pub_sum6 h2) z hz
  · exact M.textL_byte n z hz
theorem sig_sums {x y : Int} (h : M.sigB x y = true) : M.sumB x = true ∧ M.sumB y = true := by
  have := M.sigB_bd h
  simp only [M.sumB, decide_eq_true_eq]
  omega
theorem packR_byte {r s p x y f : Int} (h : repF r s p x y f = 0) : ∀ z ∈ packR r s p x y f, M.byteB z := by
  intro z hz
  obtain ⟨h1, h2, h3, h4, h5⟩ := repF_zero h
  obtain ⟨h6, h7⟩ := sig_sums h5
  simp only [packR, frontR, List.mem_append] at hz
  rcases hz with ((((hz | hz) | hz) | hz) | (hz | hz)) | hz
  · simp only [List.mem_cons, List.not_mem_nil, or_false] at hz
    unfold M.byteB
    omega
  · exact two_byte h1 z hz
  · exact two_byte (pub_sum6 h2) z hz
  · exact two_byte (pub_sum6 h3) z hz
  · exact two_byte h6 z hz
  · exact two_byte h7 z hz
  · exact two_byte h4 z hz
theorem packHL_len (n : ByteArray) (r s : Int) : (packHL n r s).length ≤ 25 := by
  unfold packHL
  split
  · rename_i h
    have hb := hel_size h
    rw [packH_length]
    omega
  · simp
theorem packHL_byte (n : ByteArray) (r s : Int) : ∀ z ∈ packHL n r s, M.byteB z := by
  intro z hz
  unfold packHL at hz
  split at hz
  · rename_i h
    exact packH_byte h z hz
  · cases hz
theorem packRL_len (r s p x y f : Int) : (packRL r s p x y f).length ≤ 13 := by
  unfold packRL
  split
  · rw [packR_length]
    omega
  · simp
theorem packRL_byte (r s p x y f : Int) : ∀ z ∈ packRL r s p x y f, M.byteB z := by
  intro z hz
  unfold packRL at hz
  split at hz
  · rename_i h
    exact packR_byte h z hz
  · cases hz

/-- What bytes say, read as a hello; as a reply. -/
def helNm (zs : List Int) : List UInt8 := (zs.drop 5).map fun z => UInt8.ofNat z.toNat
def tw (zs : List Int) (i : Nat) : Int := 256 * zs.getD i 0 + zs.getD (i + 1) 0
def helB (zs : List Int) : Bool := decide (helF (helNm zs) (tw zs 1) (tw zs 3) = 0)
def helOk (zs : List Int) : Bool := decide (5 ≤ zs.length) && decide (zs.getD 0 0 = 1) && helB zs
def repB (zs : List Int) : Bool := decide (repF (tw zs 1) (tw zs 3) (tw zs 5) (tw zs 7) (tw zs 9) (tw zs 11) = 0)
def repOk (zs : List Int) : Bool := decide (zs.length = 13) && decide (zs.getD 0 0 = 2) && repB zs
theorem not_both {zs : List Int} (h : helOk zs = true) : repOk zs = false := by
  simp only [helOk, Bool.and_eq_true, decide_eq_true_eq] at h
  unfold repOk
  rw [h.1.2]
  simp
theorem helOk_short {zs : List Int} (h : zs.length < 6) : helOk zs = false := by
  unfold helOk
  by_cases h5 : 5 ≤ zs.length
  · have e : helNm zs = [] := by
      unfold helNm
      rw [List.drop_of_length_le (by omega)]
      rfl
    have : helB zs = false := by
      unfold helB
      rw [e, decide_eq_false_iff_not]
      intro h0
      have h5 : M.nameF [] = 5 := by decide
      have h6 : M.normF [] = 5 := by rw [M.normF_no (by rw [h5]; omega), h5]
      have := (helF_zero h0).2.2
      omega
    rw [this]
    simp
  · simp [h5]
end Go.Proofs.YtefgimpodhjdpaaGreatDoor
namespace Go.Proofs.YtefgimpodhjdpaaGreatDoor
set_option linter.unusedVariables false

/-- A pin. -/
structure PinD where
  n : ByteArray
  a : Int
  b : Int
  e : Int
  u : Int
def pin0 : PinD := ⟨{ data := #[] }, 0, 0, 0, 0⟩
instance : Inhabited PinD := ⟨pin0⟩
def PinD.nm (p : PinD) : List UInt8 := p.n.data.toList
abbrev P5 (p : PinD) : Value := .agg #[.string p.n, .int .i64 p.a, .int .i64 p.b, .int .i64 p.e, .int .i64 p.u]
def PinD.vals (p : PinD) : List Value := [.string p.n, .int .i64 p.a, .int .i64 p.b, .int .i64 p.e, .int .i64 p.u]
theorem PinD.vals_length (p : PinD) : p.vals.length = 5 := rfl
/-- The cells of pins. -/
def flat (ps : List PinD) : List Value := ps.flatMap PinD.vals
theorem flat_nil : flat [] = [] := rfl
theorem flat_cons (p : PinD) (ps : List PinD) : flat (p :: ps) = p.vals ++ flat ps := by simp [flat]
theorem flat_append (ps qs : List PinD) : flat (ps ++ qs) = flat ps ++ flat qs := by simp [flat]
theorem flat_length : ∀ ps : List PinD, (flat ps).length = ps.length * 5
  | [] => rfl
  | p :: r => by rw [flat_cons, List.length_append, flat_length r, PinD.vals_length, List.length_cons]; omega
theorem flat_get : ∀ (ps : List PinD) (j i : Nat) (v : Value), j < ps.length → (ps[j]?.getD pin0).vals[i]? = some v → (flat ps)[j * 5 + i]? = some v
  | [], j, i, v, hj, _ => by simp at hj
  | p :: r, 0, i, v, _, h => by
    have hi : i < 5 := by have := (List.getElem?_eq_some_iff.1 h).1; simpa [PinD.vals_length] using this
    rw [flat_cons, Nat.zero_mul, Nat.zero_add, List.getElem?_append_left (by rw [PinD.vals_length]; exact hi)]
    simpa using h
  | p :: r, j + 1, i, v, hj, h => by
    have := flat_get r j i v (by simpa using hj) (by simpa using h)
    rw [flat_cons, List.getElem?_append_right (by rw [PinD.vals_length]; omega), PinD.vals_length, show (j + 1) * 5 + i - 5 = j * 5 + i by omega]
    exact this
theorem flat_set : ∀ (ps : List PinD) (j : Nat) (p : PinD), j < ps.length → flat (ps.set j p) = (((((flat ps).set (j * 5) (.string p.n)).set (j * 5 + 1) (.int .i64 p.a)).set (j * 5 + 2) (.int .i64 p.b)).set (j * 5 + 3) (.int .i64 p.e)).set (j * 5 + 4) (.int .i64 p.u)
  | [], j, p, hj => by simp at hj
  | q :: r, 0, p, _ => by simp [flat_cons, PinD.vals]
  | q :: r, j + 1, p, hj => by
    rw [List.set_cons_succ, flat_cons, flat_set r j p (by simpa using hj), flat_cons]
    simp only [PinD.vals, List.cons_append, List.nil_append, show (j + 1) * 5 = j * 5 + 1 + 1 + 1 + 1 + 1 by omega, show j * 5 + 1 + 1 + 1 + 1 + 1 + 1 = (j * 5 + 1) + 1 + 1 + 1 + 1 + 1 by omega, show j * 5 + 1 + 1 + 1 + 1 + 1 + 2 = (j * 5 + 2) + 1 + 1 + 1 + 1 + 1 by omega, show j * 5 + 1 + 1 + 1 + 1 + 1 + 3 = (j * 5 + 3) + 1 + 1 + 1 + 1 + 1 by omega, show j * 5 + 1 + 1 + 1 + 1 + 1 + 4 = (j * 5 + 4) + 1 + 1 + 1 + 1 + 1 by omega, List.set_cons_succ]
theorem flat_inj : ∀ {ps qs : List PinD}, flat ps = flat qs → ps = qs
  | [], [], _ => rfl
  | [], q :: r, h => by simp [flat_cons, flat_nil, PinD.vals] at h
  | p :: r, [], h => by simp [flat_cons, flat_nil, PinD.vals] at h
  | p :: r, q :: s, h => by
    simp only [flat_cons, PinD.vals, List.cons_append, List.nil_append, List.cons.injEq, Value.string.injEq, Value.int.injEq, true_and] at h
    obtain ⟨h1, h2, h3, h4, h5, h6⟩ := h
    rw [flat_inj h6]
    cases p; cases q
    simp_all

/-- What is wrong with a pin. -/
def bakB (v : Int) : Bool := decide (v = 0) || pubB v
def epB (v : Int) : Bool := decide (1 ≤ v ∧ v ≤ 200)
def timB (v : Int) : Bool := decide (0 ≤ v ∧ v ≤ 9999)
def pinB (a b e u : Int) : Bool := pubB a && bakB b && epB e && timB u
def pinF (l : List UInt8) (a b e u : Int) : Int := if M.normF l = 0 then (if pinB a b e u then (if b = a then 6 else 0) else 3) else M.normF l
def PinD.f (p : PinD) : Int := pinF p.nm p.a p.b p.e p.u
theorem pinF_norm {l : List UInt8} {a b e u : Int} (h : M.normF l ≠ 0) : pinF l a b e u = M.normF l := by simp [pinF, h]
theorem pinF_no {l : List UInt8} {a b e u : Int} (h : M.normF l = 0) (h1 : pinB a b e u = false) : pinF l a b e u = 3 := by simp [pinF, h, h1]
theorem pinF_taken {l : List UInt8} {a b e u : Int} (h : M.normF l = 0) (h1 : pinB a b e u = true) (h2 : b = a) : pinF l a b e u = 6 := by
  unfold pinF
  rw [if_pos h, if_pos h1, if_pos h2]
theorem pinF_yes {l : List UInt8} {a b e u : Int} (h : M.normF l = 0) (h1 : pinB a b e u = true) (h2 : b ≠ a) : pinF l a b e u = 0 := by simp [pinF, h, h1, h2]
theorem pinF_zero {l : List UInt8} {a b e u : Int} (h : pinF l a b e u = 0) : M.normF l = 0 ∧ pubB a = true ∧ bakB b = true ∧ epB e = true ∧ timB u = true ∧ b ≠ a := by
  unfold pinF at h
  split at h
  · split at h
    · split at h
      · omega
      · rename_i h1 h2 h3
        simp only [pinB, Bool.and_eq_true] at h2
        exact ⟨h1, h2.1.1.1, h2.1.1.2, h2.1.2, h2.2, h3⟩
    · omega
  · exact absurd h ‹_›
theorem pin0_f : pin0.f = 5 := by
  have h5 : M.nameF [] = 5 := by decide
  have h6 : M.normF [] = 5 := by rw [M.normF_no (by rw [h5]; omega), h5]
  show pinF [] 0 0 0 0 = 5
  rw [pinF_norm (by rw [h6]; omega), h6]
theorem pin_size {p : PinD} (h : p.f = 0) : p.n.size ≤ 20 := by
  have h4 := (M.nameF_zero (M.normF_zero (pinF_zero h).1).1).1
  have hL : p.n.data.toList.length = p.n.size := by simp
  unfold PinD.nm at h4
  omega
theorem pin_norm {p : PinD} (h : p.f = 0) : M.nrm p.nm = p.nm := (M.normF_zero (pinF_zero h).1).2
theorem pin_name {p : PinD} (h : p.f = 0) : M.nameF p.nm = 0 := (M.normF_zero (pinF_zero h).1).1
theorem nm_inj {p q : ByteArray} (h : p.data.toList = q.data.toList) : p = q := by
  cases p; cases q
  simp only [ByteArray.mk.injEq]
  exact Array.toList_inj.1 h

/-- The order of names: bytes, one by one. -/
abbrev nlt (x y : List UInt8) : Bool := Op.bytesLess x y
theorem nlt_irrefl : ∀ x : List UInt8, nlt x x = false
  | [] => rfl
  | a :: r => by simp [nlt, Op.bytesLess]; exact nlt_irrefl r
theorem nlt_trans : ∀ {x y z : List UInt8}, nlt x y = true → nlt y z = true → nlt x z = true
  | _, [], _, h, _ => by simp [nlt, Op.bytesLess] at h
  | _, _ :: _, [], _, h => by simp [nlt, Op.bytesLess] at h
  | [], _ :: _, _ :: _, _, _ => by simp [nlt, Op.bytesLess]
  | a :: x, b :: y, c :: z, h1, h2 => by
    simp only [nlt, Op.bytesLess, Bool.or_eq_true, decide_eq_true_eq, Bool.and_eq_true, beq_iff_eq] at h1 h2 ⊢
    rcases h1 with h1 | ⟨rfl, h1⟩
    · rcases h2 with h2 | ⟨rfl, h2⟩
      · exact .inl (UInt8.lt_trans h1 h2)
      · exact .inl h1
    · rcases h2 with h2 | ⟨rfl, h2⟩
      · exact .inl h2
      · exact .inr ⟨rfl, nlt_trans h1 h2⟩
theorem nlt_total : ∀ {x y : List UInt8}, nlt x y = false → x ≠ y → nlt y x = true
  | [], [], _, h => absurd rfl h
  | [], _ :: _, h, _ => by simp [nlt, Op.bytesLess] at h
  | _ :: _, [], _, _ => by simp [nlt, Op.bytesLess]
  | a :: x, b :: y, h, hne => by
    simp only [nlt, Op.bytesLess, Bool.or_eq_false_iff, decide_eq_false_iff_not, Bool.and_eq_false_iff, beq_eq_false_iff_ne] at h
    simp only [nlt, Op.bytesLess, Bool.or_eq_true, decide_eq_true_eq, Bool.and_eq_true, beq_iff_eq]
    by_cases e : a = b
    · subst e
      refine .inr ⟨rfl, nlt_total (h.2.resolve_left (fun h => h rfl)) (fun e => hne (by rw [e]))⟩
    · refine .inl ?_
      have h1 := h.1
      rw [UInt8.lt_iff_toNat_lt] at h1 ⊢
      have : a.toNat ≠ b.toNat := fun h => e (UInt8.toNat_inj.1 h)
      omega
theorem nlt_asymm {x y : List UInt8} (h : nlt x y = true) : nlt y x = false := by
  cases h2 : nlt y x
  · rfl
  · have := nlt_trans h h2
    rw [nlt_irrefl] at this
    cases this
theorem nlt_ne {x y : List UInt8} (h : nlt x y = true) : x ≠ y := fun e => by rw [e, nlt_irrefl] at h; cases h
/-- 'list[i].Name <= list[i-1].Name' and 'list[i-1].Name >= list[i].Name'. -/
theorem nle_eq (x y : List UInt8) : (nlt x y || x == y) = !nlt y x := by
  cases h : nlt y x
  · by_cases e : y = x
    · subst e; simp
    · rw [nlt_total h e]; simp
  · rw [nlt_asymm h]
    have : (x == y) = false := by
      rw [beq_eq_false_iff_ne]
      exact fun e => nlt_ne h e.symm
    rw [this]; rfl
theorem cmp_lt : ∀ x y : List UInt8, decide (Lib.compareBytes x y < 0) = nlt x y
  | [], [] => by simp [Lib.compareBytes, nlt, Op.bytesLess]
  | [], _ :: _ => by simp [Lib.compareBytes, nlt, Op.bytesLess]
  | _ :: _, [] => by simp [Lib.compareBytes, nlt, Op.bytesLess]
  | a :: x, b :: y => by
    have ih := cmp_lt x y
    simp only [Lib.compareBytes, nlt, Op.bytesLess]
    by_cases h1 : a < b
    · simp [h1]
    · by_cases h2 : b < a
      · have : (a == b) = false := by
          rw [beq_eq_false_iff_ne]
          intro e
          subst e
          exact h1 h2
        simp [h1, h2, this]
      · have : a = b := by
          rw [UInt8.lt_iff_toNat_lt] at h1 h2
          exact UInt8.toNat_inj.1 (by omega)
        subst this
        simp only [h1, if_false, decide_false, Bool.false_or, beq_self_eq_true, Bool.true_and]
        exact ih

/-- Whether a name may stand behind another. -/
def okN : Option (List UInt8) → List UInt8 → Bool
  | none, _ => true
  | some x, l => nlt x l
def pinsG : Option (List UInt8) → List PinD → Int
  | _, [] => 0
  | q, p :: r => if p.f = 0 then (if okN q p.nm then pinsG (some p.nm) r else 1) else p.f
def pinsF (ps : List PinD) : Int := if 4 < ps.length then 2 else pinsG none ps
abbrev Rise (ps : List PinD) : Prop := ps.Pairwise fun p q => nlt p.nm q.nm = true
theorem pinsG_zero : ∀ {q : Option (List UInt8)} {ps : List PinD}, pinsG q ps = 0 → (∀ p ∈ ps, p.f = 0) ∧ Rise ps ∧ ∀ x, q = some x → ∀ p ∈ ps, nlt x p.nm = true
  | _, [], _ => ⟨by simp, .nil, by simp⟩
  | q, p :: r, h => by
    unfold pinsG at h
    by_cases h0 : p.f = 0
    · rw [if_pos h0] at h
      by_cases h1 : okN q p.nm = true
      · rw [if_pos h1] at h
        obtain ⟨g1, g2, g3⟩ := pinsG_zero h
        refine ⟨fun y hy => ?_, List.pairwise_cons.2 ⟨fun y hy => g3 _ rfl y hy, g2⟩, fun x hx y hy => ?_⟩
        · rcases List.mem_cons.1 hy with rfl | hy
          · exact h0
          · exact g1 y hy
        · subst hx
          rcases List.mem_cons.1 hy with rfl | hy
          · exact h1
          · exact nlt_trans h1 (g3 _ rfl y hy)
      · rw [if_neg h1] at h
        omega
    · rw [if_neg h0] at h
      exact absurd h h0
theorem pinsF_zero {ps : List PinD} (h : pinsF ps = 0) : ps.length ≤ 4 ∧ (∀ p ∈ ps, p.f = 0) ∧ Rise ps := by
  unfold pinsF at h
  by_cases h4 : 4 < ps.length
  · rw [if_pos h4] at h; omega
  · rw [if_neg h4] at h
    obtain ⟨g1, g2, -⟩ := pinsG_zero h
    exact ⟨by omega, g1, g2⟩
theorem pinsG_make : ∀ {q : Option (List UInt8)} {ps : List PinD}, (∀ p ∈ ps, p.f = 0) → Rise ps → (∀ x, q = some x → ∀ p ∈ ps, nlt x p.nm = true) → pinsG q ps = 0
  | _, [], _, _, _ => rfl
  | q, p :: r, h1, h2, h3 => by
    obtain ⟨r1, r2⟩ := List.pairwise_cons.1 h2
    unfold pinsG
    rw [if_pos (h1 p (by simp))]
    have hq : okN q p.nm = true := by
      cases q with
      | none => rfl
      | some x => exact h3 x rfl p (by simp)
    rw [if_pos hq]
    exact pinsG_make (fun y hy => h1 y (by simp [hy])) r2 (fun x hx y hy => by injection hx with hx; subst hx; exact r1 y hy)
theorem pinsF_make {ps : List PinD} (h : ps.length ≤ 4) (h1 : ∀ p ∈ ps, p.f = 0) (h2 : Rise ps) : pinsF ps = 0 := by
  unfold pinsF
  rw [if_neg (by omega)]
  exact pinsG_make h1 h2 (by simp)
/-- Ahead of pin k. -/
def prevN (ps : List PinD) : Nat → Option (List UInt8)
  | 0 => none
  | k + 1 => some (ps[k]?.getD pin0).nm
theorem pinsG_step {ps : List PinD} {k : Nat} (hk : k < ps.length) : pinsG (prevN ps k) (ps.drop k) = (if (ps[k]?.getD pin0).f = 0 then (if okN (prevN ps k) (ps[k]?.getD pin0).nm then pinsG (prevN ps (k + 1)) (ps.drop (k + 1)) else 1) else (ps[k]?.getD pin0).f) := by
  have e : ps.drop k = (ps[k]?.getD pin0) :: ps.drop (k + 1) := by
    rw [List.drop_eq_getElem_cons hk, List.getElem?_eq_getElem hk]
    rfl
  rw [e]
  rfl

/-- The pin of a name. -/
def findP (ps : List PinD) (l : List UInt8) : Option PinD := ps.find? fun p => decide (p.nm = l)
theorem rise_inj : ∀ {ps : List PinD}, Rise ps → ∀ {p q : PinD}, p ∈ ps → q ∈ ps → p.nm = q.nm → p = q
  | [], _, _, _, h, _, _ => by cases h
  | x :: r, hr, p, q, hp, hq, e => by
    obtain ⟨h1, h2⟩ := List.pairwise_cons.1 hr
    rcases List.mem_cons.1 hp with rfl | hp'
    · rcases List.mem_cons.1 hq with rfl | hq'
      · rfl
      · exact absurd e (nlt_ne (h1 q hq'))
    · rcases List.mem_cons.1 hq with rfl | hq'
      · exact absurd e.symm (nlt_ne (h1 p hp'))
      · exact rise_inj h2 hp' hq' e
theorem findP_mem {ps : List PinD} {l : List UInt8} {p : PinD} (h : findP ps l = some p) : p ∈ ps ∧ p.nm = l := by
  refine ⟨List.mem_of_find?_eq_some h, ?_⟩
  have := List.find?_some h
  simpa using this
theorem findP_none {ps : List PinD} {l : List UInt8} (h : findP ps l = none) : ∀ p ∈ ps, p.nm ≠ l := by
  intro p hp
  have := List.find?_eq_none.1 h p hp
  simpa using this
theorem findP_of {ps : List PinD} (hr : Rise ps) {p : PinD} (hp : p ∈ ps) : findP ps p.nm = some p := by
  cases h : findP ps p.nm with
  | none => exact absurd rfl (findP_none h p hp)
  | some q =>
    obtain ⟨h1, h2⟩ := findP_mem h
    rw [rise_inj hr h1 hp h2]

/-- A pin put among others, as the model does it. -/
def putG (p : PinD) : Bool → List PinD → List PinD
  | d, [] => if d then [] else [p]
  | d, q :: r => (if !d && !nlt q.nm p.nm then [p] else []) ++ (if q.nm = p.nm then [] else [q]) ++ putG p (d || !nlt q.nm p.nm) r
def putL (ps : List PinD) (p : PinD) : List PinD := putG p false ps
theorem putG_true (p : PinD) : ∀ (ps : List PinD), putG p true ps = ps.filter fun q => !decide (q.nm = p.nm)
  | [] => rfl
  | q :: r => by
    unfold putG
    simp only [Bool.not_true, Bool.false_and, Bool.false_eq_true, if_false, List.nil_append, Bool.true_or, putG_true p r]
    by_cases h : q.nm = p.nm
    · simp [h]
    · simp [h]
theorem putG_perm (p : PinD) : ∀ (ps : List PinD), (putG p false ps).Perm (p :: ps.filter fun q => !decide (q.nm = p.nm))
  | [] => by simp [putG]
  | q :: r => by
    unfold putG
    cases h : nlt q.nm p.nm
    · simp only [Bool.not_false, Bool.and_self, if_true, Bool.false_or, putG_true]
      by_cases e : q.nm = p.nm
      · simp [e]
      · simp [e]
    · simp only [Bool.not_true, Bool.and_false, Bool.false_eq_true, if_false, List.nil_append, Bool.or_false]
      rw [if_neg (nlt_ne h)]
      have ih := putG_perm p r
      have e : (List.filter (fun q => !decide (q.nm = p.nm)) (q :: r)) = q :: r.filter fun q => !decide (q.nm = p.nm) := by simp [nlt_ne h]
      rw [e]
      exact (List.Perm.cons q ih).trans (List.Perm.swap _ _ _)
theorem putL_mem {ps : List PinD} {p x : PinD} (h : x ∈ putL ps p) : x = p ∨ x ∈ ps := by
  have := (putG_perm p ps).mem_iff.1 h
  rcases List.mem_cons.1 this with h | h
  · exact .inl h
  · exact .inr (List.mem_filter.1 h).1
theorem putL_rise (p : PinD) : ∀ {ps : List PinD}, Rise ps → Rise (putL ps p)
  | [], _ => by simp [putL, putG, Rise]
  | q :: r, h => by
    obtain ⟨h1, h2⟩ := List.pairwise_cons.1 h
    show Rise (putG p false (q :: r))
    unfold putG
    cases hq : nlt q.nm p.nm
    · simp only [Bool.not_false, Bool.and_self, if_true, Bool.false_or, putG_true, List.singleton_append]
      have hf : r.filter (fun q => !decide (q.nm = p.nm)) = r := by
        refine List.filter_eq_self.2 fun x hx => ?_
        have hx1 := h1 x hx
        simp only [Bool.not_eq_true', decide_eq_false_iff_not]
        intro e
        rw [e] at hx1
        rw [hq] at hx1
        cases hx1
      rw [hf]
      by_cases e : q.nm = p.nm
      · rw [if_pos e]
        exact List.pairwise_cons.2 ⟨fun x hx => by rw [← e]; exact h1 x (by simpa using hx), by simpa using h2⟩
      · rw [if_neg e]
        have hpq := nlt_total hq e
        refine List.pairwise_cons.2 ⟨fun x hx => ?_, h⟩
        rcases List.mem_cons.1 hx with rfl | hx
        · exact hpq
        · exact nlt_trans hpq (h1 x (by simpa using hx))
    · simp only [Bool.not_true, Bool.and_false, Bool.false_eq_true, if_false, List.nil_append, Bool.or_false]
      rw [if_neg (nlt_ne hq)]
      refine List.pairwise_cons.2 ⟨fun x hx => ?_, putL_rise p h2⟩
      rcases putL_mem (ps := r) hx with rfl | hx
      · exact hq
      · exact h1 x hx
theorem rise_eq : ∀ {xs ys : List PinD}, xs.Perm ys → Rise xs → Rise ys → xs = ys
  | [], ys, h, _, _ => (List.nil_perm.1 h).symm
  | x :: r, [], h, _, _ => by simp at h
  | x :: r, y :: s, h, hx, hy => by
    obtain ⟨x1, x2⟩ := List.pairwise_cons.1 hx
    obtain ⟨y1, y2⟩ := List.pairwise_cons.1 hy
    have hxy : x = y := by
      have m1 : x ∈ y :: s := h.mem_iff.1 (by simp)
      have m2 : y ∈ x :: r := h.mem_iff.2 (by simp)
      rcases List.mem_cons.1 m1 with e | m1
      · exact e
      · rcases List.mem_cons.1 m2 with e | m2
        · exact e.symm
        · have := nlt_trans (x1 y m2) (y1 x m1)
          rw [nlt_irrefl] at this
          cases this
    subst hxy
    rw [rise_eq (List.Perm.cons_inv h) x2 y2]
/-- What putting a pin answers. -/
def putC (ps : List PinD) (p : PinD) : Int :=
  if pinsF ps ≠ 0 then pinsF ps else if p.f ≠ 0 then p.f else match findP ps p.nm with
    | some q => if q.e ≥ p.e then 11 else 0
    | none => if ps.length = 4 then 7 else 0
def putR (ps : List PinD) (p : PinD) : List PinD := if putC ps p = 0 then putL ps p else []
/-- What finding a pin answers. -/
def findC (ps : List PinD) (l : List UInt8) : Int :=
  if pinsF ps ≠ 0 then pinsF ps else if M.nameF l ≠ 0 then M.nameF l else match findP ps (M.nrm l) with
    | some _ => 0
    | none => 4
def findR (ps : List PinD) (l : List UInt8) : PinD :=
  if pinsF ps ≠ 0 then pin0 else if M.nameF l ≠ 0 then pin0 else (findP ps (M.nrm l)).getD pin0
end Go.Proofs.YtefgimpodhjdpaaGreatDoor
namespace Go.Proofs.YtefgimpodhjdpaaGreatDoor
open Go.RowKit
set_option maxRecDepth 100000
set_option linter.unusedVariables false

/-- A slice of pins that is read: 'ps' are its elements; it lies below block B. -/
structure PRow (w : World) (B : Nat) (a : Option Addr) (len cap : Nat) (ps : List PinD) : Prop where
  length : ps.length = len
  fits : len ≤ cap
  most : cap ≤ maxLen
  names : ∀ p ∈ ps, p.n.size ≤ maxLen
  cells : 0 < len → ∃ b off, a = some ⟨b, off, none⟩ ∧ b < B ∧ ∀ j, j < len → ∀ i v, (ps[j]?.getD pin0).vals[i]? = some v → w.cell? ⟨b, off + j * 5 + i, none⟩ = some v
section
variable {w w' : World} {B B' : Nat} {a : Option Addr} {len cap : Nat} {ps : List PinD}
theorem PRow.keep (h : PRow w B a len cap ps) (hk : ∀ i, i < B → w'.heap[i]? = w.heap[i]?) : PRow w' B a len cap ps :=
  ⟨h.length, h.fits, h.most, h.names, fun hp => by
    obtain ⟨b, off, e, hb, hc⟩ := h.cells hp
    exact ⟨b, off, e, hb, fun j hj i v hv => (World.cell?_of_block (w := w) (hk b hb)).trans (hc j hj i v hv)⟩⟩
theorem PRow.below (h : PRow w B a len cap ps) (hb : Below B w w') : PRow w' B a len cap ps := h.keep hb.block
theorem PRow.more (h : PRow w B a len cap ps) (hB : B ≤ B') : PRow w B' a len cap ps :=
  ⟨h.length, h.fits, h.most, h.names, fun hp => by
    obtain ⟨b, off, e, hb, hc⟩ := h.cells hp
    exact ⟨b, off, e, by omega, hc⟩⟩
theorem PRow.on (h : PRow w w.heap.size a len cap ps) (hb : Below w.heap.size w w') : PRow w' w'.heap.size a len cap ps := (h.below hb).more hb.size
theorem PRow.on' (h : PRow w B a len cap ps) (hB : B ≤ w.heap.size) (hb : Below w.heap.size w w') : PRow w' B a len cap ps := h.below (hb.mono hB)
theorem PRow.alloc (h : PRow w B a len cap ps) (hB : B ≤ w.heap.size) (o : Obj) : PRow (w.alloc o) B a len cap ps := h.below ((Below.refl B w).alloc hB o)
theorem PRow.nil (w : World) (B : Nat) : PRow w B none 0 0 [] := ⟨rfl, Nat.le_refl _, Nat.zero_le _, by simp, fun h => absurd h (by omega)⟩
/-- Element k's five cells. -/
theorem PRow.at' (h : PRow w B a len cap ps) {k : Nat} (hk : k < len) : ∃ b off, a = some ⟨b, off, none⟩ ∧ b < B ∧
    w.cell? ⟨b, off + k * 5, none⟩ = some (.string (ps[k]?.getD pin0).n) ∧ w.cell? ⟨b, off + k * 5 + 1, none⟩ = some (.int .i64 (ps[k]?.getD pin0).a) ∧ w.cell? ⟨b, off + k * 5 + 2, none⟩ = some (.int .i64 (ps[k]?.getD pin0).b) ∧
    w.cell? ⟨b, off + k * 5 + 3, none⟩ = some (.int .i64 (ps[k]?.getD pin0).e) ∧ w.cell? ⟨b, off + k * 5 + 4, none⟩ = some (.int .i64 (ps[k]?.getD pin0).u) := by
  obtain ⟨b, off, e, hb, hc⟩ := h.cells (by omega)
  exact ⟨b, off, e, hb, hc k hk 0 _ rfl, hc k hk 1 _ rfl, hc k hk 2 _ rfl, hc k hk 3 _ rfl, hc k hk 4 _ rfl⟩
theorem PRow.mem (h : PRow w B a len cap ps) {k : Nat} (hk : k < len) : (ps[k]?.getD pin0) ∈ ps := by
  have := h.length
  rw [List.getElem?_eq_getElem (by omega)]
  exact List.getElem_mem _
theorem PRow.name (h : PRow w B a len cap ps) {k : Nat} (hk : k < len) : (ps[k]?.getD pin0).n.size ≤ maxLen := h.names _ (h.mem hk)
end

/-- A slice of pins of the call's own. -/
def OwnP (w : World) (B : Nat) (v : Value) (ps : List PinD) : Prop := Own w B 5 v ps.length (flat ps)
section
variable {w w' : World} {B : Nat} {v : Value} {ps : List PinD}
theorem OwnP.row {a : Option Addr} {len cap : Nat} (h : OwnP w B (.slice a len cap) ps) (hs : ∀ p ∈ ps, p.n.size ≤ maxLen) : PRow w w.heap.size a len cap ps := by
  rcases h.2 with ⟨e, h0⟩ | ⟨g, c, e, hb, hg, h1, h2, hc, _⟩
  · injection e with e1 e2 e3
    subst e1; subst e2; subst e3
    obtain rfl : ps = [] := List.eq_nil_of_length_eq_zero h0
    exact PRow.nil _ _
  · injection e with e1 e2 e3
    subst e1; subst e2; subst e3
    exact ⟨rfl, h1, h2, hs, fun hp => ⟨g, 0, rfl, hg, fun j hj i v hv => by
      rw [Nat.zero_add]
      exact hc _ v (flat_get ps j i v hj hv)⟩⟩
theorem OwnP.row' {a : Option Addr} {len cap : Nat} (h : OwnP w B (.slice a len cap) ps) (hs : ∀ p ∈ ps, p.n.size ≤ maxLen) : PRow w w.heap.size a len cap ps ∧ len = ps.length := ⟨h.row hs, (h.row hs).length.symm⟩
theorem OwnP.nil (w : World) (B : Nat) : OwnP w B (.slice none 0 0) [] := Own.nil w B 5
theorem OwnP.alloc (h : OwnP w B v ps) (o : Obj) : OwnP (w.alloc o) B v ps := Own.alloc h o
theorem OwnP.below (h : OwnP w B v ps) (hb : Below w.heap.size w w') : OwnP w' B v ps := Own.below h hb
theorem OwnP.form (h : OwnP w B v ps) : ∃ a cap, v = .slice a ps.length cap ∧ ps.length ≤ cap ∧ cap ≤ maxLen ∧ (a = none → ps.length = 0 ∧ cap = 0) := Own.form h
theorem OwnP.less {B' : Nat} (h : OwnP w B v ps) (hB : B' ≤ B) : OwnP w B' v ps := Own.less h hB
end
/-- One cell of an owned slice is stored. -/
theorem Own.putCell {w : World} {B s g n c : Nat} {xs : List Value} {i : Nat} {u : Value} (h : Own w B s (.slice (some ⟨g, 0, none⟩) n c) n xs) (hi : i < xs.length) : Own (w.setCell ⟨g, i, none⟩ u) B s (.slice (some ⟨g, 0, none⟩) n c) n (xs.set i u) := by
  have hlen := h.1
  rcases h.2 with ⟨e, h0⟩ | ⟨g', c', e, hB, hg, hn, hm, hcell, hroom⟩
  · cases e
  injection e with e1 e2 e3
  injection e1 with e1
  injection e1 with e1 _ _
  subst e1
  subst e3
  have hfit : n * s ≤ c * s := Nat.mul_le_mul_right _ hn
  refine ⟨by simpa using hlen, .inr ⟨g, c, rfl, hB, by simpa [World.setCell] using hg, hn, hm, fun j u' hu => ?_, fun j hj => ?_⟩⟩
  · have hj := (List.getElem?_eq_some_iff.1 hu).1
    simp at hj
    by_cases hji : j = i
    · subst hji
      obtain ⟨u0, hu0⟩ := Option.isSome_iff_exists.1 (hroom j (by omega)).1
      rw [World.cell?_setCell_same _ _ _ (by rw [hu0]), ← hu]
      simp [hj]
    · rw [World.cell?_setCell_other _ _ _ _ (fun e => by injection e with _ e2; omega)]
      refine hcell j u' ?_
      rw [← hu]
      simp [show ¬ i = j by omega]
  · obtain ⟨q1, q2⟩ := hroom j hj
    refine ⟨?_, by rw [World.frozen?_setCell]; exact q2⟩
    obtain ⟨u0, hu0⟩ := Option.isSome_iff_exists.1 q1
    obtain ⟨v, hv⟩ := cell?_setCell_some (w := w) (p := ⟨g, i, none⟩) (x := u) (q := ⟨g, j, none⟩) (v := u0) hu0
    rw [hv]; rfl
/-- One pin of an owned slice is stored. -/
theorem OwnP.put {w : World} {B g n c : Nat} {ps : List PinD} {k : Nat} {p : PinD} (h : OwnP w B (.slice (some ⟨g, 0, none⟩) n c) ps) (hk : k < ps.length) :
    OwnP (((((w.setCell ⟨g, k * 5, none⟩ (.string p.n)).setCell ⟨g, k * 5 + 1, none⟩ (.int .i64 p.a)).setCell ⟨g, k * 5 + 2, none⟩ (.int .i64 p.b)).setCell ⟨g, k * 5 + 3, none⟩ (.int .i64 p.e)).setCell ⟨g, k * 5 + 4, none⟩ (.int .i64 p.u)) B (.slice (some ⟨g, 0, none⟩) n c) (ps.set k p) := by
  have hn : n = ps.length := by
    obtain ⟨a, cap, e, _⟩ := h.form
    injection e
  subst hn
  have hl := flat_length ps
  unfold OwnP
  rw [flat_set ps k p hk, List.length_set]
  refine Own.putCell (Own.putCell (Own.putCell (Own.putCell (Own.putCell h ?_) ?_) ?_) ?_) ?_ <;> (try simp only [List.length_set]) <;> omega
/-- That a cell of an owned slice can be written. -/
theorem OwnP.cell {w : World} {B g n c : Nat} {ps : List PinD} (h : OwnP w B (.slice (some ⟨g, 0, none⟩) n c) ps) {k i : Nat} (hk : k < ps.length) {u : Value} (hu : (ps[k]?.getD pin0).vals[i]? = some u) :
    w.cell? ⟨g, k * 5 + i, none⟩ = some u ∧ w.frozen? ⟨g, k * 5 + i, none⟩ = false := by
  rcases h.2 with ⟨e, h0⟩ | ⟨g', c', e, hB, hg, hn, hm, hcell, hroom⟩
  · cases e
  injection e with e1 e2 e3
  injection e1 with e1
  injection e1 with e1 _ _
  subst e1
  subst e3
  have hi : i < 5 := by have := (List.getElem?_eq_some_iff.1 hu).1; simpa [PinD.vals_length] using this
  have : (k + 1) * 5 ≤ c * 5 := Nat.mul_le_mul_right _ (by omega)
  exact ⟨hcell _ _ (flat_get ps k i u hk hu), (hroom _ (by omega)).2⟩
theorem pin_oneCell (p : PinD) : ∀ v ∈ p.vals, v.oneCell' = true := by
  intro v hv
  simp only [PinD.vals, List.mem_cons, List.not_mem_nil, or_false] at hv
  rcases hv with rfl | rfl | rfl | rfl | rfl <;> rfl
end Go.Proofs.YtefgimpodhjdpaaGreatDoor
namespace Go.Proofs.YtefgimpodhjdpaaGreatDoor
open Go.RowKit
set_option linter.unusedVariables false

/-- A disk: records, how many are safe. -/
structure DiskD where
  rs : List (List Int)
  s : Int
/-- A store: pins, a disk. -/
structure StoreD where
  ps : List PinD
  d : DiskD
def disk0 : DiskD := ⟨[], 0⟩
def store0 : StoreD := ⟨[], disk0⟩
def longR (zs : List Int) : Bool := decide (40 < zs.length)
/-- What is wrong with a disk. -/
def diskF (d : DiskD) : Int := if 12 < d.rs.length then 2 else if d.rs.any longR then 2 else if 0 ≤ d.s ∧ d.s ≤ d.rs.length then 0 else 3
theorem diskF_many {d : DiskD} (h : 12 < d.rs.length) : diskF d = 2 := by unfold diskF; rw [if_pos h]
theorem diskF_long {d : DiskD} (h : ¬ 12 < d.rs.length) (h1 : d.rs.any longR = true) : diskF d = 2 := by unfold diskF; rw [if_neg h, if_pos h1]
theorem diskF_safe {d : DiskD} (h : ¬ 12 < d.rs.length) (h1 : d.rs.any longR = false) (h2 : ¬ (0 ≤ d.s ∧ d.s ≤ d.rs.length)) : diskF d = 3 := by unfold diskF; rw [if_neg h, if_neg (by rw [h1]; simp), if_neg h2]
theorem diskF_yes {d : DiskD} (h : ¬ 12 < d.rs.length) (h1 : d.rs.any longR = false) (h2 : 0 ≤ d.s ∧ d.s ≤ d.rs.length) : diskF d = 0 := by unfold diskF; rw [if_neg h, if_neg (by rw [h1]; simp), if_pos h2]
theorem diskF_zero {d : DiskD} (h : diskF d = 0) : d.rs.length ≤ 12 ∧ d.rs.any longR = false ∧ 0 ≤ d.s ∧ d.s ≤ d.rs.length := by
  by_cases h1 : 12 < d.rs.length
  · rw [diskF_many h1] at h; cases h
  · cases h2 : d.rs.any longR
    · by_cases h3 : 0 ≤ d.s ∧ d.s ≤ d.rs.length
      · exact ⟨by omega, rfl, h3.1, h3.2⟩
      · rw [diskF_safe h1 h2 h3] at h; cases h
    · rw [diskF_long h1 h2] at h; cases h
theorem diskF_pos (d : DiskD) : diskF d = 0 ∨ diskF d = 2 ∨ diskF d = 3 := by
  unfold diskF
  repeat' split
  all_goals simp
theorem long_of {rs : List (List Int)} (h : rs.any longR = false) : ∀ r ∈ rs, r.length ≤ 40 := by
  intro r hr
  have := List.any_eq_false.1 h r hr
  simp only [longR, decide_eq_true_eq] at this
  omega
end Go.Proofs.YtefgimpodhjdpaaGreatDoor
namespace Go.Proofs.YtefgimpodhjdpaaGreatDoor
open Go Go.RowKit

/-- As Q; by a goto: what is held at its label. -/
def jumps (J : Nat → Act → World → Prop) (Q : Exit → Act → World → Prop) : Exit → Act → World → Prop
  | .goto l, a, w => J l a w
  | e, a, w => Q e a w

theorem wp_scope_labels {P : Program} {a : Act} {w : World} {Q : Exit → Act → World → Prop} {c : Code} (J : Nat → Act → World → Prop) (m : Nat → Act → World → Nat)
    (first : c.wp P (jumps J Q) a w)
    (pass : ∀ l a w, J l a w → ∃ rest, findLabel c l = some rest ∧ rest.wp P (jumps (fun l' a' w' => J l' a' w' ∧ m l' a' w' < m l a w) Q) a w) : (Code.scope c).wp P Q a w := by
  intro b k cs
  have key : ∀ n l a w, m l a w = n → J l a w → ∃ rest, findLabel c l = some rest ∧ ∃ e a' w', Q e a' w' ∧ Arrives P (lone (b.at a (.code rest :: .inScope c :: k)) cs w) b k cs e a' w' := by
    intro n
    induction n using Nat.strongRecOn with
    | _ n ih =>
      intro l a w hn hJ
      obtain ⟨rest, hf, hp⟩ := pass l a w hJ
      refine ⟨rest, hf, ?_⟩
      obtain ⟨e, a₁, w₁, hq, harr⟩ := hp b (.inScope c :: k) cs
      cases e with
      | normal => exact ⟨.normal, a₁, w₁, hq, Steps.trans harr (.one step_inScope)⟩
      | exit id => exact ⟨.exit id, a₁, w₁, hq, fun k' hk => harr k' (by simp [exitTo, hk])⟩
      | goto l' =>
        obtain ⟨hJ', hlt⟩ := hq
        obtain ⟨rest', hf', e₂, a₂, w₂, hq₂, harr₂⟩ := ih _ (by omega) l' a₁ w₁ rfl hJ'
        have hg : gotoIn l' (.inScope c :: k) = some (.code rest' :: .inScope c :: k) := by simp [gotoIn, hf']
        exact ⟨e₂, a₂, w₂, hq₂, .of_steps (harr _ hg) harr₂⟩
      | ret => exact ⟨_, a₁, w₁, hq, harr⟩
      | panic ch => exact ⟨_, a₁, w₁, hq, harr⟩
      | outgrown => exact ⟨_, a₁, w₁, hq, harr⟩
  obtain ⟨e, a₁, w₁, hq, harr⟩ := first b (.inScope c :: k) cs
  cases e with
  | normal => exact ⟨.normal, a₁, w₁, hq, .head step_scope (Steps.trans harr (.one step_inScope))⟩
  | exit id => exact ⟨.exit id, a₁, w₁, hq, fun k' hk => .head step_scope (harr k' (by simp [exitTo, hk]))⟩
  | goto l' =>
    obtain ⟨rest', hf', e₂, a₂, w₂, hq₂, harr₂⟩ := key _ l' a₁ w₁ rfl hq
    have hg : gotoIn l' (.inScope c :: k) = some (.code rest' :: .inScope c :: k) := by simp [gotoIn, hf']
    exact ⟨e₂, a₂, w₂, hq₂, .of_steps (.head step_scope (harr _ hg)) harr₂⟩
  | ret => exact ⟨_, a₁, w₁, hq, .of_steps (.one step_scope) harr⟩
  | panic ch => exact ⟨_, a₁, w₁, hq, .of_steps (.one step_scope) harr⟩
  | outgrown => exact ⟨_, a₁, w₁, hq, .of_steps (.one step_scope) harr⟩
end Go.Proofs.YtefgimpodhjdpaaGreatDoor
namespace Go.Proofs.YtefgimpodhjdpaaGreatDoor
open Go.RowKit
set_option maxRecDepth 100000
set_option linter.unusedVariables false

theorem charAt_any (s : ByteArray) (k : Nat) (w : World) (hs : s.size ≤ maxLen) (hk : k ≤ 1000) :
    Calls Tryz.prog 169 #[.string s, .int .i64 k] w fun e w' => e = .returned (.int .i64 (M.chr s.data.toList k)) ∧ w = w' := by
  unfold maxLen at hs
  by_cases hlt : k < s.size
  · have HC := Lib.hid ((M.chr_at s k hlt).trans (M.cls_eq _))
    go_enter Tryz.func169, Tryz.ntmps169
    go_wp2_with fail
    all_goals
      go_ret
      refine ⟨ret_int ?_, rfl⟩
      (try simp only [beq_iff_eq, beq_eq_false_iff_ne, ne_eq] at *)
      rw [HC.out]
      repeat' (first | rfl | omega | split)
  · have HC := Lib.hid (M.chr_end s k (by omega))
    have hge : (s.size : Int) ≤ k := by omega
    go_enter Tryz.func169, Tryz.ntmps169
    go_wp2_with fail
    go_ret
    exact ⟨ret_int HC.out.symm, rfl⟩

/-- What holds where the machine comes to a label. -/
def AtLab (l : List UInt8) : Nat → Nat → Prop
  | 0, k => M.mDot (l.drop k) = M.mDot l
  | 1, k => M.mPlain (l.drop (k + 1)) = M.mDot l
  | 2, k => M.mDash (l.drop (k + 1)) = M.mDot l
  | _, _ => False
def PartsJ (s : ByteArray) (w : World) (lab : Nat) (a' : Act) (w' : World) : Prop :=
  w = w' ∧ ∃ (i : Int) (k : Nat) (u4 u5 u6 u7 u8 u9 u10 u11 u12 u13 u14 u15 u16 u17 u18 u19 u20 u21 u22 u23 u24 u25 u26 u27 u28 u29 u30 u31 u32 u33 u34 u35 : Value), a' = { tmps := #[.string s, undef, .bool false, .int .i64 i, u4, u5, u6, u7, u8, u9, u10, u11, u12, u13, u14, u15, u16, u17, u18, u19, u20, u21, u22, u23, u24, u25, u26, u27, u28, u29, u30, u31, u32, u33, u34, u35], defers := [] } ∧ i = k ∧ k < s.size ∧ AtLab s.data.toList lab k
def placeOf (a : Act) : Nat := (intOf (a.tmps.getD 3 undef)).toNat

theorem hasParts_any (s : ByteArray) (w : World) (hs : s.size ≤ 20) :
    Calls Tryz.prog 125 #[.string s] w fun e w' => e = .returned (.bool (M.mDot s.data.toList)) ∧ w = w' := by
  have hm : s.size ≤ maxLen := by simp only [maxLen]; omega
  have C : ∀ (i : Int) (k : Nat) (c : Int), M.chr s.data.toList k = c → i = k → k ≤ 1000 → ∀ w, Calls Tryz.prog 169 #[.string s, .int .i64 i] w fun e w' => e = .returned (.int .i64 c) ∧ w = w' := by
    intro i k c hc hi hk w
    subst hi
    subst hc
    exact charAt_any s k w hm hk
  have hL : s.data.toList.length = s.size := by simp
  have S := fun k => M.step s.data.toList k
  have h0 : M.mDot (s.data.toList.drop 0) = M.mDot s.data.toList := rfl
  obtain ⟨B, hB⟩ : ∃ B, B = M.mDot s.data.toList := ⟨_, rfl⟩
  have fin : ∀ (b : Bool), b = B → Ending.returned (.bool b) = .returned (.bool (M.mDot s.data.toList)) := fun _ h => by rw [h, hB]
  have HF := Lib.hid fin
  have HB := Lib.hid hB
  clear fin hB
  go_enter Tryz.func125, Tryz.ntmps125
  go_wp2_with fail
  refine wp_scope_labels (PartsJ s w) (fun _ a' _ => s.size - placeOf a') ?_ ?_
  · go_wp2_with fail
    go_step3
    rcases S (0) with ⟨e, hl, d, p, q⟩ | ⟨e, hl, d, p, q⟩ | ⟨e, hl, d, p, q⟩ | ⟨e, hl, d, p, q⟩ | ⟨e, hl, d, p, q⟩ | ⟨e, hl, d, p, q⟩
    · go_wp2_with fail
      refine (C 0 (0) _ e (by omega) (by omega) _).mono ?_
      rintro r w' ⟨rfl, rfl⟩
      have h1 := d.symm.trans h0
      clear e
      go_wp2_with fail
      go_step3
      rcases S (0 + 1) with ⟨e, hl, d, p, q⟩ | ⟨e, hl, d, p, q⟩ | ⟨e, hl, d, p, q⟩ | ⟨e, hl, d, p, q⟩ | ⟨e, hl, d, p, q⟩ | ⟨e, hl, d, p, q⟩ <;> clear S
      · go_wp2_with fail
        refine (C (0 + 1) (0 + 1) _ e (by omega) (by omega) _).mono ?_
        rintro r w' ⟨rfl, rfl⟩
        go_wp2_with fail
        go_step3
        refine ⟨rfl, _, 0 + 1, _, _, _, _, _, _, _, _, _, _, _, _, _, _, _, _, _, _, _, _, _, _, _, _, _, _, _, _, _, _, _, _, rfl, by omega, by omega, ?_⟩
        exact (p.symm).trans h1
      · go_wp2_with fail
        refine (C (0 + 1) (0 + 1) _ e (by omega) (by omega) _).mono ?_
        rintro r w' ⟨rfl, rfl⟩
        go_wp2_with fail
        go_step3
        refine ⟨rfl, _, 0 + 1, _, _, _, _, _, _, _, _, _, _, _, _, _, _, _, _, _, _, _, _, _, _, _, _, _, _, _, _, _, _, _, _, rfl, by omega, by omega, ?_⟩
        exact (p.symm).trans h1
      · go_wp2_with fail
        refine (C (0 + 1) (0 + 1) _ e (by omega) (by omega) _).mono ?_
        rintro r w' ⟨rfl, rfl⟩
        have hlt : (0 + 1) + 1 < (s.size : Int) := by omega
        go_wp2_with fail
        go_step3
        refine ⟨rfl, _, 0 + 1 + 1, _, _, _, _, _, _, _, _, _, _, _, _, _, _, _, _, _, _, _, _, _, _, _, _, _, _, _, _, _, _, _, _, rfl, by omega, by omega, ?_⟩
        exact (p.symm).trans h1
      · go_wp2_with fail
        refine (C (0 + 1) (0 + 1) _ e (by omega) (by omega) _).mono ?_
        rintro r w' ⟨rfl, rfl⟩
        have hlt : ¬ (0 + 1) + 1 < (s.size : Int) := by omega
        go_wp2_with fail
        simp only [jumps]
        go_ret
        exact ⟨HF.out _ ((p.symm).trans (h1.trans HB.out.symm)), rfl⟩
      · go_wp2_with fail
        refine (C (0 + 1) (0 + 1) _ e (by omega) (by omega) _).mono ?_
        rintro r w' ⟨rfl, rfl⟩
        go_wp2_with fail
        simp only [jumps]
        go_ret
        exact ⟨HF.out _ ((p.symm).trans (h1.trans HB.out.symm)), rfl⟩
      · go_wp2_with fail
        refine (C (0 + 1) (0 + 1) _ e (by omega) (by omega) _).mono ?_
        rintro r w' ⟨rfl, rfl⟩
        go_wp2_with fail
        simp only [jumps]
        go_ret
        exact ⟨HF.out _ ((p.symm).trans (h1.trans HB.out.symm)), rfl⟩
    · go_wp2_with fail
      refine (C 0 (0) _ e (by omega) (by omega) _).mono ?_
      rintro r w' ⟨rfl, rfl⟩
      go_wp2_with fail
      simp only [jumps]
      go_ret
      exact ⟨HF.out _ ((d.symm).trans (h0.trans HB.out.symm)), rfl⟩
    · go_wp2_with fail
      refine (C 0 (0) _ e (by omega) (by omega) _).mono ?_
      rintro r w' ⟨rfl, rfl⟩
      go_wp2_with fail
      simp only [jumps]
      go_ret
      exact ⟨HF.out _ ((d.symm).trans (h0.trans HB.out.symm)), rfl⟩
    · go_wp2_with fail
      refine (C 0 (0) _ e (by omega) (by omega) _).mono ?_
      rintro r w' ⟨rfl, rfl⟩
      go_wp2_with fail
      simp only [jumps]
      go_ret
      exact ⟨HF.out _ ((d.symm).trans (h0.trans HB.out.symm)), rfl⟩
    · go_wp2_with fail
      refine (C 0 (0) _ e (by omega) (by omega) _).mono ?_
      rintro r w' ⟨rfl, rfl⟩
      go_wp2_with fail
      simp only [jumps]
      go_ret
      exact ⟨HF.out _ ((d.symm).trans (h0.trans HB.out.symm)), rfl⟩
    · go_wp2_with fail
      refine (C 0 (0) _ e (by omega) (by omega) _).mono ?_
      rintro r w' ⟨rfl, rfl⟩
      go_wp2_with fail
      simp only [jumps]
      go_ret
      exact ⟨HF.out _ ((d.symm).trans (h0.trans HB.out.symm)), rfl⟩
  · rintro lab a' w' ⟨rfl, i, k, u4, u5, u6, u7, u8, u9, u10, u11, u12, u13, u14, u15, u16, u17, u18, u19, u20, u21, u22, u23, u24, u25, u26, u27, u28, u29, u30, u31, u32, u33, u34, u35, rfl, rfl, hk, hat⟩
    rcases lab with _ | _ | _ | n
    · refine ⟨_, rfl, ?_⟩
      have h1 : M.mDot (s.data.toList.drop k) = M.mDot s.data.toList := hat
      clear hat
      rcases S (k) with ⟨e, hl, d, p, q⟩ | ⟨e, hl, d, p, q⟩ | ⟨e, hl, d, p, q⟩ | ⟨e, hl, d, p, q⟩ | ⟨e, hl, d, p, q⟩ | ⟨e, hl, d, p, q⟩
      · go_wp2_with fail
        refine (C k (k) _ e (by omega) (by omega) _).mono ?_
        rintro r w' ⟨rfl, rfl⟩
        have h1 := d.symm.trans h1
        clear e
        go_wp2_with fail
        go_step3
        rcases S (k + 1) with ⟨e, hl, d, p, q⟩ | ⟨e, hl, d, p, q⟩ | ⟨e, hl, d, p, q⟩ | ⟨e, hl, d, p, q⟩ | ⟨e, hl, d, p, q⟩ | ⟨e, hl, d, p, q⟩ <;> clear S
        · go_wp2_with fail
          refine (C ((k : Int) + 1) (k + 1) _ e (by omega) (by omega) _).mono ?_
          rintro r w' ⟨rfl, rfl⟩
          go_wp2_with fail
          go_step3
          refine ⟨⟨rfl, _, k + 1, _, _, _, _, _, _, _, _, _, _, _, _, _, _, _, _, _, _, _, _, _, _, _, _, _, _, _, _, _, _, _, _, rfl, by omega, by omega, ?_⟩, ?_⟩
          · exact (p.symm).trans h1
          · simp [placeOf, intOf]; omega
        · go_wp2_with fail
          refine (C ((k : Int) + 1) (k + 1) _ e (by omega) (by omega) _).mono ?_
          rintro r w' ⟨rfl, rfl⟩
          go_wp2_with fail
          go_step3
          refine ⟨⟨rfl, _, k + 1, _, _, _, _, _, _, _, _, _, _, _, _, _, _, _, _, _, _, _, _, _, _, _, _, _, _, _, _, _, _, _, _, rfl, by omega, by omega, ?_⟩, ?_⟩
          · exact (p.symm).trans h1
          · simp [placeOf, intOf]; omega
        · go_wp2_with fail
          refine (C ((k : Int) + 1) (k + 1) _ e (by omega) (by omega) _).mono ?_
          rintro r w' ⟨rfl, rfl⟩
          have hlt : ((k : Int) + 1) + 1 < (s.size : Int) := by omega
          go_wp2_with fail
          go_step3
          refine ⟨⟨rfl, _, k + 1 + 1, _, _, _, _, _, _, _, _, _, _, _, _, _, _, _, _, _, _, _, _, _, _, _, _, _, _, _, _, _, _, _, _, rfl, by omega, by omega, ?_⟩, ?_⟩
          · exact (p.symm).trans h1
          · simp [placeOf, intOf]; omega
        · go_wp2_with fail
          refine (C ((k : Int) + 1) (k + 1) _ e (by omega) (by omega) _).mono ?_
          rintro r w' ⟨rfl, rfl⟩
          have hlt : ¬ ((k : Int) + 1) + 1 < (s.size : Int) := by omega
          go_wp2_with fail
          simp only [jumps]
          go_ret
          exact ⟨HF.out _ ((p.symm).trans (h1.trans HB.out.symm)), rfl⟩
        · go_wp2_with fail
          refine (C ((k : Int) + 1) (k + 1) _ e (by omega) (by omega) _).mono ?_
          rintro r w' ⟨rfl, rfl⟩
          go_wp2_with fail
          simp only [jumps]
          go_ret
          exact ⟨HF.out _ ((p.symm).trans (h1.trans HB.out.symm)), rfl⟩
        · go_wp2_with fail
          refine (C ((k : Int) + 1) (k + 1) _ e (by omega) (by omega) _).mono ?_
          rintro r w' ⟨rfl, rfl⟩
          go_wp2_with fail
          simp only [jumps]
          go_ret
          exact ⟨HF.out _ ((p.symm).trans (h1.trans HB.out.symm)), rfl⟩
      · go_wp2_with fail
        refine (C k (k) _ e (by omega) (by omega) _).mono ?_
        rintro r w' ⟨rfl, rfl⟩
        go_wp2_with fail
        simp only [jumps]
        go_ret
        exact ⟨HF.out _ ((d.symm).trans (h1.trans HB.out.symm)), rfl⟩
      · go_wp2_with fail
        refine (C k (k) _ e (by omega) (by omega) _).mono ?_
        rintro r w' ⟨rfl, rfl⟩
        go_wp2_with fail
        simp only [jumps]
        go_ret
        exact ⟨HF.out _ ((d.symm).trans (h1.trans HB.out.symm)), rfl⟩
      · go_wp2_with fail
        refine (C k (k) _ e (by omega) (by omega) _).mono ?_
        rintro r w' ⟨rfl, rfl⟩
        go_wp2_with fail
        simp only [jumps]
        go_ret
        exact ⟨HF.out _ ((d.symm).trans (h1.trans HB.out.symm)), rfl⟩
      · go_wp2_with fail
        refine (C k (k) _ e (by omega) (by omega) _).mono ?_
        rintro r w' ⟨rfl, rfl⟩
        go_wp2_with fail
        simp only [jumps]
        go_ret
        exact ⟨HF.out _ ((d.symm).trans (h1.trans HB.out.symm)), rfl⟩
      · go_wp2_with fail
        refine (C k (k) _ e (by omega) (by omega) _).mono ?_
        rintro r w' ⟨rfl, rfl⟩
        go_wp2_with fail
        simp only [jumps]
        go_ret
        exact ⟨HF.out _ ((d.symm).trans (h1.trans HB.out.symm)), rfl⟩
    · refine ⟨_, rfl, ?_⟩
      have h1 : M.mPlain (s.data.toList.drop (k + 1)) = M.mDot s.data.toList := hat
      clear hat
      rcases S (k + 1) with ⟨e, hl, d, p, q⟩ | ⟨e, hl, d, p, q⟩ | ⟨e, hl, d, p, q⟩ | ⟨e, hl, d, p, q⟩ | ⟨e, hl, d, p, q⟩ | ⟨e, hl, d, p, q⟩ <;> clear S
      · go_wp2_with fail
        refine (C ((k : Int) + 1) (k + 1) _ e (by omega) (by omega) _).mono ?_
        rintro r w' ⟨rfl, rfl⟩
        go_wp2_with fail
        go_step3
        refine ⟨⟨rfl, _, k + 1, _, _, _, _, _, _, _, _, _, _, _, _, _, _, _, _, _, _, _, _, _, _, _, _, _, _, _, _, _, _, _, _, rfl, by omega, by omega, ?_⟩, ?_⟩
        · exact (p.symm).trans h1
        · simp [placeOf, intOf]; omega
      · go_wp2_with fail
        refine (C ((k : Int) + 1) (k + 1) _ e (by omega) (by omega) _).mono ?_
        rintro r w' ⟨rfl, rfl⟩
        go_wp2_with fail
        go_step3
        refine ⟨⟨rfl, _, k + 1, _, _, _, _, _, _, _, _, _, _, _, _, _, _, _, _, _, _, _, _, _, _, _, _, _, _, _, _, _, _, _, _, rfl, by omega, by omega, ?_⟩, ?_⟩
        · exact (p.symm).trans h1
        · simp [placeOf, intOf]; omega
      · go_wp2_with fail
        refine (C ((k : Int) + 1) (k + 1) _ e (by omega) (by omega) _).mono ?_
        rintro r w' ⟨rfl, rfl⟩
        have hlt : ((k : Int) + 1) + 1 < (s.size : Int) := by omega
        go_wp2_with fail
        go_step3
        refine ⟨⟨rfl, _, k + 1 + 1, _, _, _, _, _, _, _, _, _, _, _, _, _, _, _, _, _, _, _, _, _, _, _, _, _, _, _, _, _, _, _, _, rfl, by omega, by omega, ?_⟩, ?_⟩
        · exact (p.symm).trans h1
        · simp [placeOf, intOf]; omega
      · go_wp2_with fail
        refine (C ((k : Int) + 1) (k + 1) _ e (by omega) (by omega) _).mono ?_
        rintro r w' ⟨rfl, rfl⟩
        have hlt : ¬ ((k : Int) + 1) + 1 < (s.size : Int) := by omega
        go_wp2_with fail
        simp only [jumps]
        go_ret
        exact ⟨HF.out _ ((p.symm).trans (h1.trans HB.out.symm)), rfl⟩
      · go_wp2_with fail
        refine (C ((k : Int) + 1) (k + 1) _ e (by omega) (by omega) _).mono ?_
        rintro r w' ⟨rfl, rfl⟩
        go_wp2_with fail
        simp only [jumps]
        go_ret
        exact ⟨HF.out _ ((p.symm).trans (h1.trans HB.out.symm)), rfl⟩
      · go_wp2_with fail
        refine (C ((k : Int) + 1) (k + 1) _ e (by omega) (by omega) _).mono ?_
        rintro r w' ⟨rfl, rfl⟩
        go_wp2_with fail
        simp only [jumps]
        go_ret
        exact ⟨HF.out _ ((p.symm).trans (h1.trans HB.out.symm)), rfl⟩
    · refine ⟨_, rfl, ?_⟩
      have h1 : M.mDash (s.data.toList.drop (k + 1)) = M.mDot s.data.toList := hat
      clear hat
      rcases S (k + 1) with ⟨e, hl, d, p, q⟩ | ⟨e, hl, d, p, q⟩ | ⟨e, hl, d, p, q⟩ | ⟨e, hl, d, p, q⟩ | ⟨e, hl, d, p, q⟩ | ⟨e, hl, d, p, q⟩ <;> clear S
      · go_wp2_with fail
        refine (C ((k : Int) + 1) (k + 1) _ e (by omega) (by omega) _).mono ?_
        rintro r w' ⟨rfl, rfl⟩
        go_wp2_with fail
        go_step3
        refine ⟨⟨rfl, _, k + 1, _, _, _, _, _, _, _, _, _, _, _, _, _, _, _, _, _, _, _, _, _, _, _, _, _, _, _, _, _, _, _, _, rfl, by omega, by omega, ?_⟩, ?_⟩
        · exact (q.symm).trans h1
        · simp [placeOf, intOf]; omega
      · go_wp2_with fail
        refine (C ((k : Int) + 1) (k + 1) _ e (by omega) (by omega) _).mono ?_
        rintro r w' ⟨rfl, rfl⟩
        go_wp2_with fail
        go_step3
        refine ⟨⟨rfl, _, k + 1, _, _, _, _, _, _, _, _, _, _, _, _, _, _, _, _, _, _, _, _, _, _, _, _, _, _, _, _, _, _, _, _, rfl, by omega, by omega, ?_⟩, ?_⟩
        · exact (q.symm).trans h1
        · simp [placeOf, intOf]; omega
      · go_wp2_with fail
        refine (C ((k : Int) + 1) (k + 1) _ e (by omega) (by omega) _).mono ?_
        rintro r w' ⟨rfl, rfl⟩
        go_wp2_with fail
        simp only [jumps]
        go_ret
        exact ⟨HF.out _ ((q.symm).trans (h1.trans HB.out.symm)), rfl⟩
      · go_wp2_with fail
        refine (C ((k : Int) + 1) (k + 1) _ e (by omega) (by omega) _).mono ?_
        rintro r w' ⟨rfl, rfl⟩
        go_wp2_with fail
        simp only [jumps]
        go_ret
        exact ⟨HF.out _ ((q.symm).trans (h1.trans HB.out.symm)), rfl⟩
      · go_wp2_with fail
        refine (C ((k : Int) + 1) (k + 1) _ e (by omega) (by omega) _).mono ?_
        rintro r w' ⟨rfl, rfl⟩
        go_wp2_with fail
        simp only [jumps]
        go_ret
        exact ⟨HF.out _ ((q.symm).trans (h1.trans HB.out.symm)), rfl⟩
      · go_wp2_with fail
        refine (C ((k : Int) + 1) (k + 1) _ e (by omega) (by omega) _).mono ?_
        rintro r w' ⟨rfl, rfl⟩
        go_wp2_with fail
        simp only [jumps]
        go_ret
        exact ⟨HF.out _ ((q.symm).trans (h1.trans HB.out.symm)), rfl⟩
    · exact hat.elim
end Go.Proofs.YtefgimpodhjdpaaGreatDoor
namespace Go.Proofs.YtefgimpodhjdpaaGreatDoor
open Go.RowKit
set_option maxRecDepth 100000
set_option linter.unusedVariables false

theorem l5Sign_any (b : UInt8) (w : World) :
    Calls Tryz.prog 209 #[.int .u8 (b.toNat : Int)] w fun e w' => e = .returned (.bool (M.signB b)) ∧ w = w' := by
  have HS := Lib.hid (M.signB_eq b)
  go_enter Tryz.func209, Tryz.ntmps209
  go_wp2_with fail
  all_goals
    go_ret
    refine ⟨ret_bool ?_, rfl⟩
    rw [HS.out]
    (try simp only [beq_iff_eq, beq_eq_false_iff_ne, ne_eq] at *)
    first | (symm; rw [decide_eq_true_iff]; omega) | (symm; rw [decide_eq_false_iff_not]; omega) | (rw [Bool.eq_iff_iff]; simp only [beq_iff_eq, decide_eq_true_eq, Bool.or_eq_true]; omega)

theorem implNameFault_any (s : ByteArray) (w : World) (hs : s.size ≤ maxLen) :
    Calls Tryz.prog 76 #[.string s] w fun e w' => e = .returned (.int .i64 (M.nameF s.data.toList)) ∧ w = w' := by
  have hL : s.data.toList.length = s.size := by simp
  unfold maxLen at hs
  by_cases h : 20 < s.size
  · have HE := Lib.hid (M.nameF_long (l := s.data.toList) (by omega))
    have h' : (20 : Int) < s.size := by omega
    go_enter Tryz.func76, Tryz.ntmps76
    go_wp2_with fail
    go_ret
    exact ⟨ret_int HE.out.symm, rfl⟩
  have h' : ¬ (20 : Int) < s.size := by omega
  have F := fun w => hasParts_any s w (by omega)
  cases hm : M.mDot s.data.toList
  · have HE := Lib.hid (M.nameF_no (l := s.data.toList) (by omega) hm)
    simp only [hm] at F
    clear hm
    go_enter Tryz.func76, Tryz.ntmps76
    go_wp2_with fail
    refine (F _).mono ?_
    rintro r w' ⟨rfl, rfl⟩
    go_wp2_with fail
    go_ret
    exact ⟨ret_int HE.out.symm, rfl⟩
  · have HE := Lib.hid (M.nameF_yes (l := s.data.toList) (by omega) hm)
    simp only [hm] at F
    clear hm
    go_enter Tryz.func76, Tryz.ntmps76
    go_wp2_with fail
    refine (F _).mono ?_
    rintro r w' ⟨rfl, rfl⟩
    go_wp2_with fail
    go_ret
    exact ⟨ret_int HE.out.symm, rfl⟩

theorem l5Part_any (s : ByteArray) (w : World) (hs : s.size ≤ maxLen) :
    Calls Tryz.prog 179 #[.string s] w fun e w' => e = .returned (.bool (M.partB s.data.toList)) ∧ w = w' := by
  unfold maxLen at hs
  go_enter Tryz.func179, Tryz.ntmps179
  go_wp2_with fail
  go_loop [3] (fun i => ∃ k : Nat, k ≤ s.size ∧ i = .int .i64 k ∧ Hid (M.signTo s k = true)) (fun i => s.size - (intOf i).toNat)
  case atStart => exact ⟨0, Nat.zero_le _, rfl, Lib.hid (M.signTo_zero s)⟩
  case round =>
    obtain ⟨k, hk, rfl, hlow⟩ := hrel
    by_cases hlt : k < s.size
    · have F := fun w => l5Sign_any s[k] w
      cases hb : M.signB s[k]
      · have HS := Lib.hid (M.partB_stop s k hlt hb)
        simp only [hb] at F
        clear hb
        go_wp2_with fail
        refine (F _).mono ?_
        rintro r w' ⟨rfl, rfl⟩
        go_wp2_with fail
        go_ret
        exact ⟨ret_bool HS.out.symm, rfl⟩
      · have HN := Lib.hid (M.signTo_next s k hlt hlow.out hb)
        simp only [hb] at F
        clear hb
        go_wp2_with fail
        refine (F _).mono ?_
        rintro r w' ⟨rfl, rfl⟩
        go_wp2_with fail
        go_round
        case rel => exact ⟨k + 1, by omega, by go_num, HN⟩
        case measure => simp [intOf]; omega
    · obtain rfl : k = s.size := by omega
      by_cases h1 : s.size < 1
      · have HS := Lib.hid (M.partB_short s h1)
        have h1' : ¬ 1 ≤ (s.size : Int) := by omega
        go_wp2_with fail
        go_ret
        exact ⟨ret_bool HS.out.symm, rfl⟩
      · obtain ⟨n, hn⟩ : ∃ n, s.size = n + 1 := ⟨s.size - 1, by omega⟩
        have HS := Lib.hid (M.partB_ends s n hn hlow.out)
        have h1' : 1 ≤ (s.size : Int) := by omega
        go_wp2_with fail
        all_goals
          go_ret
          refine ⟨ret_bool ?_, rfl⟩
          rw [HS.out]
          unfold M.dashB
          rcases Classical.em ((s[0].toNat : Int) = 45) with q0 | q0 <;> rcases Classical.em ((s[n].toNat : Int) = 45) with q1 | q1 <;> simp [q0, q1] at * <;> simp [bne, q0, q1]

theorem l5Bare_any (s : ByteArray) (w : World) (hs : s.size ≤ maxLen) :
    Calls Tryz.prog 178 #[.string s] w fun e w' => e = .returned (.string (M.bs (M.bare s.data.toList))) ∧ w = w' := by
  unfold maxLen at hs
  by_cases h1 : s.size ≤ 1
  · have h1' : ¬ 1 < (s.size : Int) := by omega
    rw [M.bare_one s h1]
    go_enter Tryz.func178, Tryz.ntmps178
    go_wp2_with fail
    go_ret
    simp
  obtain ⟨n, hn⟩ : ∃ n, s.size = n + 2 := ⟨s.size - 2, by omega⟩
  cases hd : M.dotB (s[n + 1]'(by omega))
  · rw [M.bare_not s n hn hd]
    have hd' : ((s[n + 1]'(by omega)).toNat : Int) ≠ 46 := by simpa [M.dotB] using hd
    go_enter Tryz.func178, Tryz.ntmps178
    go_wp2_with fail
    go_ret
    exact ⟨rfl, rfl⟩
  · rw [M.bare_dot s n hn hd]
    have hd' : ((s[n + 1]'(by omega)).toNat : Int) = 46 := by simpa [M.dotB] using hd
    go_enter Tryz.func178, Tryz.ntmps178
    go_wp2_with fail
    go_ret
    exact ⟨rfl, rfl⟩
end Go.Proofs.YtefgimpodhjdpaaGreatDoor
