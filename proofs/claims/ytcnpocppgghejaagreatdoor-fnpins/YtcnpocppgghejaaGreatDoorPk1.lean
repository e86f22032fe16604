/- Texts of this seat that several laws rest on, laid into one. Conditions: as each theorem states. -/
import Derived.Test.YtcnpocppgghejaaGreatDoorPk0
import Derived.Lib.Bytealg
import Derived.Maps.OwnSet
import Derived.Maps.RangeWalk
import Derived.Maps.OwnIn
import Derived.Sort.MapsRangeIn
import Derived.Sort.KeysCollected
import Derived.RangeFuncMany
import Derived.RangeFuncWrites
import Derived.RangeFuncNested
import Derived.TacticsInMore
import Derived.OwnWalkIn
import Derived.RegionIn
import Derived.LoopNIn
import Derived.LoopIn
import Derived.Shelf.Abstract
import Derived.Test.YtcnpocppgghejaaGreatDoorProg
import Derived.Shelf.Small.Strs
import Derived.Shelf.Small.Bits
import Derived.Shelf.SlSortCmp.SmallK
import Derived.Sort.LotA
namespace Go.Proofs.YtcnpocppgghejaaGreatDoor.M
open Go.Proofs.YtcnpocppgghejaaGreatDoor (inB pubB)

def secB (s : Int) : Bool := inB s 1 1438
def nonceN (s t : Int) : Int := 1 + tagL nonceS [s, t] % 1438
def nonceR (s t : Int) : Int × Int := if inB s 1 1438 && sumB t then (0, nonceN s t) else (3, 0)
def chalN (p q t : Int) : Int := tagL signS [p, q, t] % 1439
def pubN (s : Int) : Int := pw 4 s.toNat 2879
def sigPt (s t : Int) : Int := pw 4 (nonceN s t).toNat 2879
def sigPr (s t : Int) : Int := (nonceN s t + chalN (pubN s) (sigPt s t) t * s) % 1439
def signR (s t : Int) : Int × Int × Int := if inB s 1 1438 && sumB t then (0, sigPt s t, sigPr s t) else (3, 0, 0)
/-- A signature without a fault. -/
def sigB (p q : Int) : Bool := pubB p && inB q 0 1438
def sigF (p q : Int) : Int := if sigB p q then 0 else 3
def checkB (u t p q : Int) : Bool := pubB u && sumB t && sigB p q && (pw 4 q.toNat 2879 == p * pw u (chalN u p t).toNat 2879 % 2879)
def packL (p q : Int) : List Int := if sigB p q then two p ++ two q else []
def readP (zs : List Int) : Int := 256 * zs.getD 0 0 + zs.getD 1 0
def readQ (zs : List Int) : Int := 256 * zs.getD 2 0 + zs.getD 3 0
def readB (zs : List Int) : Bool := decide (zs.length = 4) && sigB (readP zs) (readQ zs)
def readR (zs : List Int) : Int × Int × Int := if readB zs then (0, readP zs, readQ zs) else (5, 0, 0)

theorem nonceN_bd (s t : Int) : 1 ≤ nonceN s t ∧ nonceN s t ≤ 1438 := by unfold nonceN; omega
theorem chalN_bd (p q t : Int) : 0 ≤ chalN p q t ∧ chalN p q t ≤ 1438 := by unfold chalN; omega
theorem sigPr_bd (s t : Int) : 0 ≤ sigPr s t ∧ sigPr s t ≤ 1438 := by unfold sigPr; omega
theorem pub_pow {a : Int} (a0 : 1 ≤ a) (a1 : a ≤ 1438) : pubB (pw 4 a.toNat 2879) = true := by
  have h := base_pub a.toNat (by omega) (by omega)
  simp only [pubB, inB, Bool.and_eq_true, decide_eq_true_eq, beq_iff_eq]
  exact ⟨h, base_raised _⟩
theorem sigPt_pub (s t : Int) : pubB (sigPt s t) = true := pub_pow (nonceN_bd s t).1 (nonceN_bd s t).2
theorem sigB_signed (s t : Int) : sigB (sigPt s t) (sigPr s t) = true := by
  have h := sigPr_bd s t
  simp only [sigB, sigPt_pub, inB, Bool.true_and, decide_eq_true_eq]
  exact h
theorem sum_of_pub {p : Int} (h : pubB p = true) : sumB p = true := by
  have := Go.Proofs.YtcnpocppgghejaaGreatDoor.pubB_bd h
  simp only [sumB, decide_eq_true_eq]; omega
theorem sum_of_sec {p : Int} (h : inB p 1 1438 = true) : sumB p = true := by
  simp only [inB, decide_eq_true_eq] at h
  simp only [sumB, decide_eq_true_eq]; omega
theorem pow_sum {a : Int} (e : Nat) : sumB (pw a e 2879) = true := by
  have := pw_bd a e (m := 2879) (by omega)
  simp only [sumB, decide_eq_true_eq]; omega

/-- The equation of a signature that was made. -/
theorem sign_eq {s t : Int} (s0 : 1 ≤ s) : pw 4 (sigPr s t).toNat 2879 = sigPt s t * pw (pubN s) (chalN (pubN s) (sigPt s t) t).toNat 2879 % 2879 := by
  have hh := nonceN_bd s t
  have he := chalN_bd (pubN s) (sigPt s t) t
  unfold sigPr
  generalize chalN (pubN s) (sigPt s t) t = e at *
  unfold sigPt pubN
  generalize nonceN s t = h at *
  rw [pw_pw, pw_add]
  rw [base_mod (h.toNat + s.toNat * e.toNat)]
  congr 1
  obtain ⟨h, rfl⟩ := Int.eq_ofNat_of_zero_le (show 0 ≤ h by omega)
  obtain ⟨e, rfl⟩ := Int.eq_ofNat_of_zero_le he.1
  obtain ⟨s, rfl⟩ := Int.eq_ofNat_of_zero_le (show 0 ≤ s by omega)
  have q : ((h : Int) + (e : Int) * (s : Int)) % 1439 = ((h + e * s) % 1439 : Nat) := by simp
  rw [q]
  show (h + e * s) % 1439 = (h + s * e) % 1439
  rw [Nat.mul_comm s e]
theorem checked {s t : Int} (hs : inB s 1 1438 = true) (ht : sumB t = true) : checkB (pubN s) t (sigPt s t) (sigPr s t) = true := by
  have hs' := hs
  simp only [inB, decide_eq_true_eq] at hs'
  have hp : pubB (pubN s) = true := pub_pow hs'.1 hs'.2
  have he := sign_eq (t := t) hs'.1
  simp only [checkB, hp, ht, sigB_signed, Bool.and_self, Bool.true_and, beq_iff_eq]
  exact he
theorem four_moves {q : Int} (q0 : 0 ≤ q) (q1 : q ≤ 1438) : pw 4 ((q + 1) % 1439).toNat 2879 ≠ pw 4 q.toNat 2879 := by
  obtain ⟨q, rfl⟩ := Int.eq_ofNat_of_zero_le q0
  have e : (((q : Int) + 1) % 1439).toNat = (q + 1) % 1439 := by
    have : ((q : Int) + 1) % 1439 = ((q + 1) % 1439 : Nat) := by simp
    rw [this]; rfl
  have e2 : ((q : Int)).toNat = q := rfl
  rw [e, e2, ← base_mod, ← pw_add]
  have h1 : pw 4 1 2879 = 4 := pw_one (by omega) (by omega)
  rw [h1]
  have b := pw_bd 4 q (m := 2879) (by omega)
  have hpos : 1 ≤ pw 4 q 2879 := by
    rcases Nat.eq_zero_or_pos q with h | h
    · subst h; rw [pw_zero]; decide
    · have := (base_pub q h (by omega)).1; omega
  omega
theorem turned {s t : Int} (hs : inB s 1 1438 = true) : checkB (pubN s) t (sigPt s t) ((sigPr s t + 1) % 1439) = false := by
  have hs' := hs
  simp only [inB, decide_eq_true_eq] at hs'
  have he := sign_eq (t := t) hs'.1
  have hq := sigPr_bd s t
  have hm := four_moves hq.1 hq.2
  have : (pw 4 ((sigPr s t + 1) % 1439).toNat 2879 == sigPt s t * pw (pubN s) (chalN (pubN s) (sigPt s t) t).toNat 2879 % 2879) = false := by
    rw [← he, beq_eq_false_iff_ne]; exact hm
  simp only [checkB, this, Bool.and_false]

theorem sigB_bd {p q : Int} (h : sigB p q = true) : 2 ≤ p ∧ p ≤ 2878 ∧ 0 ≤ q ∧ q ≤ 1438 := by
  simp only [sigB, Bool.and_eq_true] at h
  have := Go.Proofs.YtcnpocppgghejaaGreatDoor.pubB_bd h.1
  have h2 := h.2
  simp only [inB, decide_eq_true_eq] at h2
  omega
theorem packL_byte (p q : Int) : ∀ b ∈ packL p q, byteB b := by
  unfold packL
  split
  · rename_i h
    have := sigB_bd h
    intro b hb
    rcases List.mem_append.1 hb with hb | hb
    · exact two_byte (by simp only [sumB, decide_eq_true_eq]; omega) b hb
    · exact two_byte (by simp only [sumB, decide_eq_true_eq]; omega) b hb
  · intro b hb; cases hb
theorem packL_yes {p q : Int} (h : sigB p q = true) : packL p q = [p / 256, p % 256, q / 256, q % 256] := by simp [packL, h, two]
theorem packL_no {p q : Int} (h : sigB p q = false) : packL p q = [] := by simp [packL, h]
theorem read_packed {p q : Int} (h : sigB p q = true) : readR (packL p q) = (0, p, q) := by
  rw [packL_yes h]
  have e1 : readP [p / 256, p % 256, q / 256, q % 256] = p := by simp [readP]; omega
  have e2 : readQ [p / 256, p % 256, q / 256, q % 256] = q := by simp [readQ]; omega
  simp [readR, readB, e1, e2, h]
theorem pack_read {zs : List Int} (hb : ∀ z ∈ zs, byteB z) (h : readB zs = true) : packL (readP zs) (readQ zs) = zs := by
  simp only [readB, Bool.and_eq_true, decide_eq_true_eq] at h
  obtain ⟨hl, hs⟩ := h
  rw [packL_yes hs]
  match zs, hl with
  | [a, b, c, d], _ =>
    have ha := hb a (by simp)
    have h1 := hb b (by simp)
    have hc := hb c (by simp)
    have hd := hb d (by simp)
    unfold byteB at ha h1 hc hd
    simp only [readP, readQ, List.getD_eq_getElem?_getD, List.getElem?_cons_zero, List.getElem?_cons_succ, Option.getD_some]
    have q1 : (256 * a + b) / 256 = a := by omega
    have q2 : (256 * a + b) % 256 = b := by omega
    have q3 : (256 * c + d) / 256 = c := by omega
    have q4 : (256 * c + d) % 256 = d := by omega
    rw [q1, q2, q3, q4]
theorem readR_code (zs : List Int) : (readR zs).1 = if readB zs then 0 else 5 := by unfold readR; split <;> rfl
end Go.Proofs.YtcnpocppgghejaaGreatDoor.M
namespace Go.Proofs.YtcnpocppgghejaaGreatDoor
set_option linter.unusedVariables false

/-- What is wrong with a hello; with a reply. -/
def helF (l : List UInt8) (r s : Int) : Int := if M.sumB r && pubB s then M.normF l else 3
def repF (r s p x y f : Int) : Int := if M.sumB r && pubB s && pubB p && M.sumB f then M.sigF x y else 3
theorem helF_no {l : List UInt8} {r s : Int} (h : (M.sumB r && pubB s) = false) : helF l r s = 3 := by simp [helF, h]
theorem helF_yes {l : List UInt8} {r s : Int} (h : (M.sumB r && pubB s) = true) : helF l r s = M.normF l := by simp [helF, h]
theorem helF_zero {l : List UInt8} {r s : Int} (h : helF l r s = 0) : M.sumB r = true ∧ pubB s = true ∧ M.normF l = 0 := by
  cases hc : (M.sumB r && pubB s)
  · rw [helF_no hc] at h
    omega
  · rw [helF_yes hc] at h
    simp only [Bool.and_eq_true] at hc
    exact ⟨hc.1, hc.2, h⟩
theorem repF_no {r s p x y f : Int} (h : (M.sumB r && pubB s && pubB p && M.sumB f) = false) : repF r s p x y f = 3 := by simp [repF, h]
theorem repF_yes {r s p x y f : Int} (h : (M.sumB r && pubB s && pubB p && M.sumB f) = true) : repF r s p x y f = M.sigF x y := by simp [repF, h]
theorem repF_zero {r s p x y f : Int} (h : repF r s p x y f = 0) : M.sumB r = true ∧ pubB s = true ∧ pubB p = true ∧ M.sumB f = true ∧ M.sigB x y = true := by
  cases hc : (M.sumB r && pubB s && pubB p && M.sumB f)
  · rw [repF_no hc] at h
    omega
  · rw [repF_yes hc] at h
    simp only [Bool.and_eq_true] at hc
    refine ⟨hc.1.1.1, hc.1.1.2, hc.1.2, hc.2, ?_⟩
    unfold M.sigF at h
    split at h
    · assumption
    · omega
theorem pub_bd {p : Int} (h : pubB p = true) : 0 ≤ p ∧ p ≤ 2878 := by
  simp only [pubB, inB, Bool.and_eq_true, decide_eq_true_eq] at h
  omega
theorem pub_sum6 {p : Int} (h : pubB p = true) : M.sumB p = true := by
  have := pub_bd h
  simp only [M.sumB, decide_eq_true_eq]
  omega
theorem hel_size {n : ByteArray} {r s : Int} (h : helF n.data.toList r s = 0) : n.size ≤ 20 := by
  have h4 := (M.nameF_zero (M.normF_zero (helF_zero h).2.2).1).1
  have hL : n.data.toList.length = n.size := by simp
  omega
/-- The bytes ahead of a hello's name; the bytes of a hello. -/
def helHead (r s : Int) : List Int := [1] ++ M.two r ++ M.two s
def packH (n : ByteArray) (r s : Int) : List Int := helHead r s ++ M.textL n
def packHL (n : ByteArray) (r s : Int) : List Int := if helF n.data.toList r s = 0 then packH n r s else []
/-- The bytes ahead of a reply's signature; the bytes of a reply. -/
def frontR (r s p : Int) : List Int := [2] ++ M.two r ++ M.two s ++ M.two p
def packR (r s p x y f : Int) : List Int := frontR r s p ++ (M.two x ++ M.two y) ++ M.two f
def packRL (r s p x y f : Int) : List Int := if repF r s p x y f = 0 then packR r s p x y f else []
theorem helHead_length (r s : Int) : (helHead r s).length = 5 := rfl
theorem frontR_length (r s p : Int) : (frontR r s p).length = 7 := rfl
theorem packR_length (r s p x y f : Int) : (packR r s p x y f).length = 13 := rfl
theorem packH_length (n : ByteArray) (r s : Int) : (packH n r s).length = 5 + n.size := by
  unfold packH
  rw [List.length_append, helHead_length, M.textL_length]
theorem two_byte {v : Int} (h : M.sumB v = true) : ∀ z ∈ M.two v, M.byteB z := by
  intro z hz
  simp only [M.sumB, decide_eq_true_eq] at h
  simp only [M.two, List.mem_cons, List.not_mem_nil, or_false] at hz
  unfold M.byteB
  omega
theorem packH_byte {n : ByteArray} {r s : Int} (h : helF n.data.toList r s = 0) : ∀ z ∈ packH n r s, M.byteB z := by
  intro z hz
  obtain ⟨h1, h2, -⟩ := helF_zero h
  simp only [packH, helHead, List.mem_append] at hz
  rcases hz with ((hz | hz) | hz) | hz
  · simp only [List.mem_cons, List.not_mem_nil, or_false] at hz
    unfold M.byteB
    omega
  · exact two_byte h1 z hz
  · exact two_byte (pub_sum6 h2) z hz
  · exact M.textL_byte n z hz
theorem sig_sums {x y : Int} (h : M.sigB x y = true) : M.sumB x = true ∧ M.sumB y = true := by
  have := M.sigB_bd h
  simp only [M.sumB, decide_eq_true_eq]
  omega
theorem packR_byte {r s p x y f : Int} (h : repF r s p x y f = 0) : ∀ z ∈ packR r s p x y f, M.byteB z := by
  intro z hz
  obtain ⟨h1, h2, h3, h4, h5⟩ := repF_zero h
  obtain ⟨h6, h7⟩ := sig_sums h5
  simp only [packR, frontR, List.mem_append] at hz
  rcases hz with ((((hz | hz) | hz) | hz) | (hz | hz)) | hz
  · simp only [List.mem_cons, List.not_mem_nil, or_false] at hz
    unfold M.byteB
    omega
  · exact two_byte h1 z hz
  · exact two_byte (pub_sum6 h2) z hz
  · exact two_byte (pub_sum6 h3) z hz
  · exact two_byte h6 z hz
  · exact two_byte h7 z hz
  · exact two_byte h4 z hz
theorem packHL_len (n : ByteArray) (r s : Int) : (packHL n r s).length ≤ 25 := by
  unfold packHL
  split
  · rename_i h
    have hb := hel_size h
    rw [packH_length]
    omega
  · simp
theorem packHL_byte (n : ByteArray) (r s : Int) : ∀ z ∈ packHL n r s, M.byteB z := by
  intro z hz
  unfold packHL at hz
  split at hz
  · rename_i h
    exact packH_byte h z hz
  · cases hz
theorem packRL_len (r s p x y f : Int) : (packRL r s p x y f).length ≤ 13 := by
  unfold packRL
  split
  · rw [packR_length]
    omega
  · simp
theorem packRL_byte (r s p x y f : Int) : ∀ z ∈ packRL r s p x y f, M.byteB z := by
  intro z hz
  unfold packRL at hz
  split at hz
  · rename_i h
    exact packR_byte h z hz
  · cases hz

/-- What bytes say, read as a hello; as a reply. -/
def helNm (zs : List Int) : List UInt8 := (zs.drop 5).map fun z => UInt8.ofNat z.toNat
def tw (zs : List Int) (i : Nat) : Int := 256 * zs.getD i 0 + zs.getD (i + 1) 0
def helB (zs : List Int) : Bool := decide (helF (helNm zs) (tw zs 1) (tw zs 3) = 0)
def helOk (zs : List Int) : Bool := decide (5 ≤ zs.length) && decide (zs.getD 0 0 = 1) && helB zs
def repB (zs : List Int) : Bool := decide (repF (tw zs 1) (tw zs 3) (tw zs 5) (tw zs 7) (tw zs 9) (tw zs 11) = 0)
def repOk (zs : List Int) : Bool := decide (zs.length = 13) && decide (zs.getD 0 0 = 2) && repB zs
theorem not_both {zs : List Int} (h : helOk zs = true) : repOk zs = false := by
  simp only [helOk, Bool.and_eq_true, decide_eq_true_eq] at h
  unfold repOk
  rw [h.1.2]
  simp
theorem helOk_short {zs : List Int} (h : zs.length < 6) : helOk zs = false := by
  unfold helOk
  by_cases h5 : 5 ≤ zs.length
  · have e : helNm zs = [] := by
      unfold helNm
      rw [List.drop_of_length_le (by omega)]
      rfl
    have : helB zs = false := by
      unfold helB
      rw [e, decide_eq_false_iff_not]
      intro h0
      have h5 : M.nameF [] = 5 := by decide
      have h6 : M.normF [] = 5 := by rw [M.normF_no (by rw [h5]; omega), h5]
      have := (helF_zero h0).2.2
      omega
    rw [this]
    simp
  · simp [h5]
end Go.Proofs.YtcnpocppgghejaaGreatDoor
namespace Go.Proofs.YtcnpocppgghejaaGreatDoor
set_option linter.unusedVariables false

/-- A pin. -/
structure PinD where
  n : ByteArray
  a : Int
  b : Int
  e : Int
  u : Int
def pin0 : PinD := ⟨{ data := #[] }, 0, 0, 0, 0⟩
instance : Inhabited PinD := ⟨pin0⟩
def PinD.nm (p : PinD) : List UInt8 := p.n.data.toList
abbrev P5 (p : PinD) : Value := .agg #[.string p.n, .int .i64 p.a, .int .i64 p.b, .int .i64 p.e, .int .i64 p.u]
def PinD.vals (p : PinD) : List Value := [.string p.n, .int .i64 p.a, .int .i64 p.b, .int .i64 p.e, .int .i64 p.u]
theorem PinD.vals_length (p : PinD) : p.vals.length = 5 := rfl
/-- The cells of pins. -/
def flat (ps : List PinD) : List Value := ps.flatMap PinD.vals
theorem flat_nil : flat [] = [] := rfl
theorem flat_cons (p : PinD) (ps : List PinD) : flat (p :: ps) = p.vals ++ flat ps := by simp [flat]
theorem flat_append (ps qs : List PinD) : flat (ps ++ qs) = flat ps ++ flat qs := by simp [flat]
theorem flat_length : ∀ ps : List PinD, (flat ps).length = ps.length * 5
  | [] => rfl
  | p :: r => by rw [flat_cons, List.length_append, flat_length r, PinD.vals_length, List.length_cons]; omega
theorem flat_get : ∀ (ps : List PinD) (j i : Nat) (v : Value), j < ps.length → (ps[j]?.getD pin0).vals[i]? = some v → (flat ps)[j * 5 + i]? = some v
  | [], j, i, v, hj, _ => by simp at hj
  | p :: r, 0, i, v, _, h => by
    have hi : i < 5 := by have := (List.getElem?_eq_some_iff.1 h).1; simpa [PinD.vals_length] using this
    rw [flat_cons, Nat.zero_mul, Nat.zero_add, List.getElem?_append_left (by rw [PinD.vals_length]; exact hi)]
    simpa using h
  | p :: r, j + 1, i, v, hj, h => by
    have := flat_get r j i v (by simpa using hj) (by simpa using h)
    rw [flat_cons, List.getElem?_append_right (by rw [PinD.vals_length]; omega), PinD.vals_length, show (j + 1) * 5 + i - 5 = j * 5 + i by omega]
    exact this
theorem flat_set : ∀ (ps : List PinD) (j : Nat) (p : PinD), j < ps.length → flat (ps.set j p) = (((((flat ps).set (j * 5) (.string p.n)).set (j * 5 + 1) (.int .i64 p.a)).set (j * 5 + 2) (.int .i64 p.b)).set (j * 5 + 3) (.int .i64 p.e)).set (j * 5 + 4) (.int .i64 p.u)
  | [], j, p, hj => by simp at hj
  | q :: r, 0, p, _ => by simp [flat_cons, PinD.vals]
  | q :: r, j + 1, p, hj => by
    rw [List.set_cons_succ, flat_cons, flat_set r j p (by simpa using hj), flat_cons]
    simp only [PinD.vals, List.cons_append, List.nil_append, show (j + 1) * 5 = j * 5 + 1 + 1 + 1 + 1 + 1 by omega, show j * 5 + 1 + 1 + 1 + 1 + 1 + 1 = (j * 5 + 1) + 1 + 1 + 1 + 1 + 1 by omega, show j * 5 + 1 + 1 + 1 + 1 + 1 + 2 = (j * 5 + 2) + 1 + 1 + 1 + 1 + 1 by omega, show j * 5 + 1 + 1 + 1 + 1 + 1 + 3 = (j * 5 + 3) + 1 + 1 + 1 + 1 + 1 by omega, show j * 5 + 1 + 1 + 1 + 1 + 1 + 4 = (j * 5 + 4) + 1 + 1 + 1 + 1 + 1 by omega, List.set_cons_succ]
theorem flat_inj : ∀ {ps qs : List PinD}, flat ps = flat qs → ps = qs
  | [], [], _ => rfl
  | [], q :: r, h => by simp [flat_cons, flat_nil, PinD.vals] at h
  | p :: r, [], h => by simp [flat_cons, flat_nil, PinD.vals] at h
  | p :: r, q :: s, h => by
    simp only [flat_cons, PinD.vals, List.cons_append, List.nil_append, List.cons.injEq, Value.string.injEq, Value.int.injEq, true_and] at h
    obtain ⟨h1, h2, h3, h4, h5, h6⟩ := h
    rw [flat_inj h6]
    cases p; cases q
    simp_all

/-- What is wrong with a pin. -/
def bakB (v : Int) : Bool := decide (v = 0) || pubB v
def epB (v : Int) : Bool := decide (1 ≤ v ∧ v ≤ 200)
def timB (v : Int) : Bool := decide (0 ≤ v ∧ v ≤ 9999)
def pinB (a b e u : Int) : Bool := pubB a && bakB b && epB e && timB u
def pinF (l : List UInt8) (a b e u : Int) : Int := if M.normF l = 0 then (if pinB a b e u then (if b = a then 6 else 0) else 3) else M.normF l
def PinD.f (p : PinD) : Int := pinF p.nm p.a p.b p.e p.u
theorem pinF_norm {l : List UInt8} {a b e u : Int} (h : M.normF l ≠ 0) : pinF l a b e u = M.normF l := by simp [pinF, h]
theorem pinF_no {l : List UInt8} {a b e u : Int} (h : M.normF l = 0) (h1 : pinB a b e u = false) : pinF l a b e u = 3 := by simp [pinF, h, h1]
theorem pinF_taken {l : List UInt8} {a b e u : Int} (h : M.normF l = 0) (h1 : pinB a b e u = true) (h2 : b = a) : pinF l a b e u = 6 := by
  unfold pinF
  rw [if_pos h, if_pos h1, if_pos h2]
theorem pinF_yes {l : List UInt8} {a b e u : Int} (h : M.normF l = 0) (h1 : pinB a b e u = true) (h2 : b ≠ a) : pinF l a b e u = 0 := by simp [pinF, h, h1, h2]
theorem pinF_zero {l : List UInt8} {a b e u : Int} (h : pinF l a b e u = 0) : M.normF l = 0 ∧ pubB a = true ∧ bakB b = true ∧ epB e = true ∧ timB u = true ∧ b ≠ a := by
  unfold pinF at h
  split at h
  · split at h
    · split at h
      · omega
      · rename_i h1 h2 h3
        simp only [pinB, Bool.and_eq_true] at h2
        exact ⟨h1, h2.1.1.1, h2.1.1.2, h2.1.2, h2.2, h3⟩
    · omega
  · exact absurd h ‹_›
theorem pin0_f : pin0.f = 5 := by
  have h5 : M.nameF [] = 5 := by decide
  have h6 : M.normF [] = 5 := by rw [M.normF_no (by rw [h5]; omega), h5]
  show pinF [] 0 0 0 0 = 5
  rw [pinF_norm (by rw [h6]; omega), h6]
theorem pin_size {p : PinD} (h : p.f = 0) : p.n.size ≤ 20 := by
  have h4 := (M.nameF_zero (M.normF_zero (pinF_zero h).1).1).1
  have hL : p.n.data.toList.length = p.n.size := by simp
  unfold PinD.nm at h4
  omega
theorem pin_norm {p : PinD} (h : p.f = 0) : M.nrm p.nm = p.nm := (M.normF_zero (pinF_zero h).1).2
theorem pin_name {p : PinD} (h : p.f = 0) : M.nameF p.nm = 0 := (M.normF_zero (pinF_zero h).1).1
theorem nm_inj {p q : ByteArray} (h : p.data.toList = q.data.toList) : p = q := by
  cases p; cases q
  simp only [ByteArray.mk.injEq]
  exact Array.toList_inj.1 h

/-- The order of names: bytes, one by one. -/
abbrev nlt (x y : List UInt8) : Bool := Op.bytesLess x y
theorem nlt_irrefl : ∀ x : List UInt8, nlt x x = false
  | [] => rfl
  | a :: r => by simp [nlt, Op.bytesLess]; exact nlt_irrefl r
theorem nlt_trans : ∀ {x y z : List UInt8}, nlt x y = true → nlt y z = true → nlt x z = true
  | _, [], _, h, _ => by simp [nlt, Op.bytesLess] at h
  | _, _ :: _, [], _, h => by simp [nlt, Op.bytesLess] at h
  | [], _ :: _, _ :: _, _, _ => by simp [nlt, Op.bytesLess]
  | a :: x, b :: y, c :: z, h1, h2 => by
    simp only [nlt, Op.bytesLess, Bool.or_eq_true, decide_eq_true_eq, Bool.and_eq_true, beq_iff_eq] at h1 h2 ⊢
    rcases h1 with h1 | ⟨rfl, h1⟩
    · rcases h2 with h2 | ⟨rfl, h2⟩
      · exact .inl (UInt8.lt_trans h1 h2)
      · exact .inl h1
    · rcases h2 with h2 | ⟨rfl, h2⟩
      · exact .inl h2
      · exact .inr ⟨rfl, nlt_trans h1 h2⟩
theorem nlt_total : ∀ {x y : List UInt8}, nlt x y = false → x ≠ y → nlt y x = true
  | [], [], _, h => absurd rfl h
  | [], _ :: _, h, _ => by simp [nlt, Op.bytesLess] at h
  | _ :: _, [], _, _ => by simp [nlt, Op.bytesLess]
  | a :: x, b :: y, h, hne => by
    simp only [nlt, Op.bytesLess, Bool.or_eq_false_iff, decide_eq_false_iff_not, Bool.and_eq_false_iff, beq_eq_false_iff_ne] at h
    simp only [nlt, Op.bytesLess, Bool.or_eq_true, decide_eq_true_eq, Bool.and_eq_true, beq_iff_eq]
    by_cases e : a = b
    · subst e
      refine .inr ⟨rfl, nlt_total (h.2.resolve_left (fun h => h rfl)) (fun e => hne (by rw [e]))⟩
    · refine .inl ?_
      have h1 := h.1
      rw [UInt8.lt_iff_toNat_lt] at h1 ⊢
      have : a.toNat ≠ b.toNat := fun h => e (UInt8.toNat_inj.1 h)
      omega
theorem nlt_asymm {x y : List UInt8} (h : nlt x y = true) : nlt y x = false := by
  cases h2 : nlt y x
  · rfl
  · have := nlt_trans h h2
    rw [nlt_irrefl] at this
    cases this
theorem nlt_ne {x y : List UInt8} (h : nlt x y = true) : x ≠ y := fun e => by rw [e, nlt_irrefl] at h; cases h
/-- 'list[i].Name <= list[i-1].Name' and 'list[i-1].Name >= list[i].Name'. -/
theorem nle_eq (x y : List UInt8) : (nlt x y || x == y) = !nlt y x := by
  cases h : nlt y x
  · by_cases e : y = x
    · subst e; simp
    · rw [nlt_total h e]; simp
  · rw [nlt_asymm h]
    have : (x == y) = false := by
      rw [beq_eq_false_iff_ne]
      exact fun e => nlt_ne h e.symm
    rw [this]; rfl
theorem cmp_lt : ∀ x y : List UInt8, decide (Lib.compareBytes x y < 0) = nlt x y
  | [], [] => by simp [Lib.compareBytes, nlt, Op.bytesLess]
  | [], _ :: _ => by simp [Lib.compareBytes, nlt, Op.bytesLess]
  | _ :: _, [] => by simp [Lib.compareBytes, nlt, Op.bytesLess]
  | a :: x, b :: y => by
    have ih := cmp_lt x y
    simp only [Lib.compareBytes, nlt, Op.bytesLess]
    by_cases h1 : a < b
    · simp [h1]
    · by_cases h2 : b < a
      · have : (a == b) = false := by
          rw [beq_eq_false_iff_ne]
          intro e
          subst e
          exact h1 h2
        simp [h1, h2, this]
      · have : a = b := by
          rw [UInt8.lt_iff_toNat_lt] at h1 h2
          exact UInt8.toNat_inj.1 (by omega)
        subst this
        simp only [h1, if_false, decide_false, Bool.false_or, beq_self_eq_true, Bool.true_and]
        exact ih

/-- Whether a name may stand behind another. -/
def okN : Option (List UInt8) → List UInt8 → Bool
  | none, _ => true
  | some x, l => nlt x l
def pinsG : Option (List UInt8) → List PinD → Int
  | _, [] => 0
  | q, p :: r => if p.f = 0 then (if okN q p.nm then pinsG (some p.nm) r else 1) else p.f
def pinsF (ps : List PinD) : Int := if 4 < ps.length then 2 else pinsG none ps
abbrev Rise (ps : List PinD) : Prop := ps.Pairwise fun p q => nlt p.nm q.nm = true
theorem pinsG_zero : ∀ {q : Option (List UInt8)} {ps : List PinD}, pinsG q ps = 0 → (∀ p ∈ ps, p.f = 0) ∧ Rise ps ∧ ∀ x, q = some x → ∀ p ∈ ps, nlt x p.nm = true
  | _, [], _ => ⟨by simp, .nil, by simp⟩
  | q, p :: r, h => by
    unfold pinsG at h
    by_cases h0 : p.f = 0
    · rw [if_pos h0] at h
      by_cases h1 : okN q p.nm = true
      · rw [if_pos h1] at h
        obtain ⟨g1, g2, g3⟩ := pinsG_zero h
        refine ⟨fun y hy => ?_, List.pairwise_cons.2 ⟨fun y hy => g3 _ rfl y hy, g2⟩, fun x hx y hy => ?_⟩
        · rcases List.mem_cons.1 hy with rfl | hy
          · exact h0
          · exact g1 y hy
        · subst hx
          rcases List.mem_cons.1 hy with rfl | hy
          · exact h1
          · exact nlt_trans h1 (g3 _ rfl y hy)
      · rw [if_neg h1] at h
        omega
    · rw [if_neg h0] at h
      exact absurd h h0
theorem pinsF_zero {ps : List PinD} (h : pinsF ps = 0) : ps.length ≤ 4 ∧ (∀ p ∈ ps, p.f = 0) ∧ Rise ps := by
  unfold pinsF at h
  by_cases h4 : 4 < ps.length
  · rw [if_pos h4] at h; omega
  · rw [if_neg h4] at h
    obtain ⟨g1, g2, -⟩ := pinsG_zero h
    exact ⟨by omega, g1, g2⟩
theorem pinsG_make : ∀ {q : Option (List UInt8)} {ps : List PinD}, (∀ p ∈ ps, p.f = 0) → Rise ps → (∀ x, q = some x → ∀ p ∈ ps, nlt x p.nm = true) → pinsG q ps = 0
  | _, [], _, _, _ => rfl
  | q, p :: r, h1, h2, h3 => by
    obtain ⟨r1, r2⟩ := List.pairwise_cons.1 h2
    unfold pinsG
    rw [if_pos (h1 p (by simp))]
    have hq : okN q p.nm = true := by
      cases q with
      | none => rfl
      | some x => exact h3 x rfl p (by simp)
    rw [if_pos hq]
    exact pinsG_make (fun y hy => h1 y (by simp [hy])) r2 (fun x hx y hy => by injection hx with hx; subst hx; exact r1 y hy)
theorem pinsF_make {ps : List PinD} (h : ps.length ≤ 4) (h1 : ∀ p ∈ ps, p.f = 0) (h2 : Rise ps) : pinsF ps = 0 := by
  unfold pinsF
  rw [if_neg (by omega)]
  exact pinsG_make h1 h2 (by simp)
/-- Ahead of pin k. -/
def prevN (ps : List PinD) : Nat → Option (List UInt8)
  | 0 => none
  | k + 1 => some (ps[k]?.getD pin0).nm
theorem pinsG_step {ps : List PinD} {k : Nat} (hk : k < ps.length) : pinsG (prevN ps k) (ps.drop k) = (if (ps[k]?.getD pin0).f = 0 then (if okN (prevN ps k) (ps[k]?.getD pin0).nm then pinsG (prevN ps (k + 1)) (ps.drop (k + 1)) else 1) else (ps[k]?.getD pin0).f) := by
  have e : ps.drop k = (ps[k]?.getD pin0) :: ps.drop (k + 1) := by
    rw [List.drop_eq_getElem_cons hk, List.getElem?_eq_getElem hk]
    rfl
  rw [e]
  rfl

/-- The pin of a name. -/
def findP (ps : List PinD) (l : List UInt8) : Option PinD := ps.find? fun p => decide (p.nm = l)
theorem rise_inj : ∀ {ps : List PinD}, Rise ps → ∀ {p q : PinD}, p ∈ ps → q ∈ ps → p.nm = q.nm → p = q
  | [], _, _, _, h, _, _ => by cases h
  | x :: r, hr, p, q, hp, hq, e => by
    obtain ⟨h1, h2⟩ := List.pairwise_cons.1 hr
    rcases List.mem_cons.1 hp with rfl | hp'
    · rcases List.mem_cons.1 hq with rfl | hq'
      · rfl
      · exact absurd e (nlt_ne (h1 q hq'))
    · rcases List.mem_cons.1 hq with rfl | hq'
      · exact absurd e.symm (nlt_ne (h1 p hp'))
      · exact rise_inj h2 hp' hq' e
theorem findP_mem {ps : List PinD} {l : List UInt8} {p : PinD} (h : findP ps l = some p) : p ∈ ps ∧ p.nm = l := by
  refine ⟨List.mem_of_find?_eq_some h, ?_⟩
  have := List.find?_some h
  simpa using this
theorem findP_none {ps : List PinD} {l : List UInt8} (h : findP ps l = none) : ∀ p ∈ ps, p.nm ≠ l := by
  intro p hp
  have := List.find?_eq_none.1 h p hp
  simpa using this
theorem findP_of {ps : List PinD} (hr : Rise ps) {p : PinD} (hp : p ∈ ps) : findP ps p.nm = some p := by
  cases h : findP ps p.nm with
  | none => exact absurd rfl (findP_none h p hp)
  | some q =>
    obtain ⟨h1, h2⟩ := findP_mem h
    rw [rise_inj hr h1 hp h2]

/-- A pin put among others, as the model does it. -/
def putG (p : PinD) : Bool → List PinD → List PinD
  | d, [] => if d then [] else [p]
  | d, q :: r => (if !d && !nlt q.nm p.nm then [p] else []) ++ (if q.nm = p.nm then [] else [q]) ++ putG p (d || !nlt q.nm p.nm) r
def putL (ps : List PinD) (p : PinD) : List PinD := putG p false ps
theorem putG_true (p : PinD) : ∀ (ps : List PinD), putG p true ps = ps.filter fun q => !decide (q.nm = p.nm)
  | [] => rfl
  | q :: r => by
    unfold putG
    simp only [Bool.not_true, Bool.false_and, Bool.false_eq_true, if_false, List.nil_append, Bool.true_or, putG_true p r]
    by_cases h : q.nm = p.nm
    · simp [h]
    · simp [h]
theorem putG_perm (p : PinD) : ∀ (ps : List PinD), (putG p false ps).Perm (p :: ps.filter fun q => !decide (q.nm = p.nm))
  | [] => by simp [putG]
  | q :: r => by
    unfold putG
    cases h : nlt q.nm p.nm
    · simp only [Bool.not_false, Bool.and_self, if_true, Bool.false_or, putG_true]
      by_cases e : q.nm = p.nm
      · simp [e]
      · simp [e]
    · simp only [Bool.not_true, Bool.and_false, Bool.false_eq_true, if_false, List.nil_append, Bool.or_false]
      rw [if_neg (nlt_ne h)]
      have ih := putG_perm p r
      have e : (List.filter (fun q => !decide (q.nm = p.nm)) (q :: r)) = q :: r.filter fun q => !decide (q.nm = p.nm) := by simp [nlt_ne h]
      rw [e]
      exact (List.Perm.cons q ih).trans (List.Perm.swap _ _ _)
theorem putL_mem {ps : List PinD} {p x : PinD} (h : x ∈ putL ps p) : x = p ∨ x ∈ ps := by
  have := (putG_perm p ps).mem_iff.1 h
  rcases List.mem_cons.1 this with h | h
  · exact .inl h
  · exact .inr (List.mem_filter.1 h).1
theorem putL_rise (p : PinD) : ∀ {ps : List PinD}, Rise ps → Rise (putL ps p)
  | [], _ => by simp [putL, putG, Rise]
  | q :: r, h => by
    obtain ⟨h1, h2⟩ := List.pairwise_cons.1 h
    show Rise (putG p false (q :: r))
    unfold putG
    cases hq : nlt q.nm p.nm
    · simp only [Bool.not_false, Bool.and_self, if_true, Bool.false_or, putG_true, List.singleton_append]
      have hf : r.filter (fun q => !decide (q.nm = p.nm)) = r := by
        refine List.filter_eq_self.2 fun x hx => ?_
        have hx1 := h1 x hx
        simp only [Bool.not_eq_true', decide_eq_false_iff_not]
        intro e
        rw [e] at hx1
        rw [hq] at hx1
        cases hx1
      rw [hf]
      by_cases e : q.nm = p.nm
      · rw [if_pos e]
        exact List.pairwise_cons.2 ⟨fun x hx => by rw [← e]; exact h1 x (by simpa using hx), by simpa using h2⟩
      · rw [if_neg e]
        have hpq := nlt_total hq e
        refine List.pairwise_cons.2 ⟨fun x hx => ?_, h⟩
        rcases List.mem_cons.1 hx with rfl | hx
        · exact hpq
        · exact nlt_trans hpq (h1 x (by simpa using hx))
    · simp only [Bool.not_true, Bool.and_false, Bool.false_eq_true, if_false, List.nil_append, Bool.or_false]
      rw [if_neg (nlt_ne hq)]
      refine List.pairwise_cons.2 ⟨fun x hx => ?_, putL_rise p h2⟩
      rcases putL_mem (ps := r) hx with rfl | hx
      · exact hq
      · exact h1 x hx
theorem rise_eq : ∀ {xs ys : List PinD}, xs.Perm ys → Rise xs → Rise ys → xs = ys
  | [], ys, h, _, _ => (List.nil_perm.1 h).symm
  | x :: r, [], h, _, _ => by simp at h
  | x :: r, y :: s, h, hx, hy => by
    obtain ⟨x1, x2⟩ := List.pairwise_cons.1 hx
    obtain ⟨y1, y2⟩ := List.pairwise_cons.1 hy
    have hxy : x = y := by
      have m1 : x ∈ y :: s := h.mem_iff.1 (by simp)
      have m2 : y ∈ x :: r := h.mem_iff.2 (by simp)
      rcases List.mem_cons.1 m1 with e | m1
      · exact e
      · rcases List.mem_cons.1 m2 with e | m2
        · exact e.symm
        · have := nlt_trans (x1 y m2) (y1 x m1)
          rw [nlt_irrefl] at this
          cases this
    subst hxy
    rw [rise_eq (List.Perm.cons_inv h) x2 y2]
/-- What putting a pin answers. -/
def putC (ps : List PinD) (p : PinD) : Int :=
  if pinsF ps ≠ 0 then pinsF ps else if p.f ≠ 0 then p.f else match findP ps p.nm with
    | some q => if q.e ≥ p.e then 11 else 0
    | none => if ps.length = 4 then 7 else 0
def putR (ps : List PinD) (p : PinD) : List PinD := if putC ps p = 0 then putL ps p else []
/-- What finding a pin answers. -/
def findC (ps : List PinD) (l : List UInt8) : Int :=
  if pinsF ps ≠ 0 then pinsF ps else if M.nameF l ≠ 0 then M.nameF l else match findP ps (M.nrm l) with
    | some _ => 0
    | none => 4
def findR (ps : List PinD) (l : List UInt8) : PinD :=
  if pinsF ps ≠ 0 then pin0 else if M.nameF l ≠ 0 then pin0 else (findP ps (M.nrm l)).getD pin0
end Go.Proofs.YtcnpocppgghejaaGreatDoor
namespace Go.Proofs.YtcnpocppgghejaaGreatDoor
open Go.RowKit
set_option maxRecDepth 100000
set_option linter.unusedVariables false

/-- A slice of pins that is read: 'ps' are its elements; it lies below block B. -/
structure PRow (w : World) (B : Nat) (a : Option Addr) (len cap : Nat) (ps : List PinD) : Prop where
  length : ps.length = len
  fits : len ≤ cap
  most : cap ≤ maxLen
  names : ∀ p ∈ ps, p.n.size ≤ maxLen
  cells : 0 < len → ∃ b off, a = some ⟨b, off, none⟩ ∧ b < B ∧ ∀ j, j < len → ∀ i v, (ps[j]?.getD pin0).vals[i]? = some v → w.cell? ⟨b, off + j * 5 + i, none⟩ = some v
section
variable {w w' : World} {B B' : Nat} {a : Option Addr} {len cap : Nat} {ps : List PinD}
theorem PRow.keep (h : PRow w B a len cap ps) (hk : ∀ i, i < B → w'.heap[i]? = w.heap[i]?) : PRow w' B a len cap ps :=
  ⟨h.length, h.fits, h.most, h.names, fun hp => by
    obtain ⟨b, off, e, hb, hc⟩ := h.cells hp
    exact ⟨b, off, e, hb, fun j hj i v hv => (World.cell?_of_block (w := w) (hk b hb)).trans (hc j hj i v hv)⟩⟩
theorem PRow.below (h : PRow w B a len cap ps) (hb : Below B w w') : PRow w' B a len cap ps := h.keep hb.block
theorem PRow.more (h : PRow w B a len cap ps) (hB : B ≤ B') : PRow w B' a len cap ps :=
  ⟨h.length, h.fits, h.most, h.names, fun hp => by
    obtain ⟨b, off, e, hb, hc⟩ := h.cells hp
    exact ⟨b, off, e, by omega, hc⟩⟩
theorem PRow.on (h : PRow w w.heap.size a len cap ps) (hb : Below w.heap.size w w') : PRow w' w'.heap.size a len cap ps := (h.below hb).more hb.size
theorem PRow.on' (h : PRow w B a len cap ps) (hB : B ≤ w.heap.size) (hb : Below w.heap.size w w') : PRow w' B a len cap ps := h.below (hb.mono hB)
theorem PRow.alloc (h : PRow w B a len cap ps) (hB : B ≤ w.heap.size) (o : Obj) : PRow (w.alloc o) B a len cap ps := h.below ((Below.refl B w).alloc hB o)
theorem PRow.nil (w : World) (B : Nat) : PRow w B none 0 0 [] := ⟨rfl, Nat.le_refl _, Nat.zero_le _, by simp, fun h => absurd h (by omega)⟩
/-- Element k's five cells. -/
theorem PRow.at' (h : PRow w B a len cap ps) {k : Nat} (hk : k < len) : ∃ b off, a = some ⟨b, off, none⟩ ∧ b < B ∧
    w.cell? ⟨b, off + k * 5, none⟩ = some (.string (ps[k]?.getD pin0).n) ∧ w.cell? ⟨b, off + k * 5 + 1, none⟩ = some (.int .i64 (ps[k]?.getD pin0).a) ∧ w.cell? ⟨b, off + k * 5 + 2, none⟩ = some (.int .i64 (ps[k]?.getD pin0).b) ∧
    w.cell? ⟨b, off + k * 5 + 3, none⟩ = some (.int .i64 (ps[k]?.getD pin0).e) ∧ w.cell? ⟨b, off + k * 5 + 4, none⟩ = some (.int .i64 (ps[k]?.getD pin0).u) := by
  obtain ⟨b, off, e, hb, hc⟩ := h.cells (by omega)
  exact ⟨b, off, e, hb, hc k hk 0 _ rfl, hc k hk 1 _ rfl, hc k hk 2 _ rfl, hc k hk 3 _ rfl, hc k hk 4 _ rfl⟩
theorem PRow.mem (h : PRow w B a len cap ps) {k : Nat} (hk : k < len) : (ps[k]?.getD pin0) ∈ ps := by
  have := h.length
  rw [List.getElem?_eq_getElem (by omega)]
  exact List.getElem_mem _
theorem PRow.name (h : PRow w B a len cap ps) {k : Nat} (hk : k < len) : (ps[k]?.getD pin0).n.size ≤ maxLen := h.names _ (h.mem hk)
end

/-- A slice of pins of the call's own. -/
def OwnP (w : World) (B : Nat) (v : Value) (ps : List PinD) : Prop := Own w B 5 v ps.length (flat ps)
section
variable {w w' : World} {B : Nat} {v : Value} {ps : List PinD}
theorem OwnP.row {a : Option Addr} {len cap : Nat} (h : OwnP w B (.slice a len cap) ps) (hs : ∀ p ∈ ps, p.n.size ≤ maxLen) : PRow w w.heap.size a len cap ps := by
  rcases h.2 with ⟨e, h0⟩ | ⟨g, c, e, hb, hg, h1, h2, hc, _⟩
  · injection e with e1 e2 e3
    subst e1; subst e2; subst e3
    obtain rfl : ps = [] := List.eq_nil_of_length_eq_zero h0
    exact PRow.nil _ _
  · injection e with e1 e2 e3
    subst e1; subst e2; subst e3
    exact ⟨rfl, h1, h2, hs, fun hp => ⟨g, 0, rfl, hg, fun j hj i v hv => by
      rw [Nat.zero_add]
      exact hc _ v (flat_get ps j i v hj hv)⟩⟩
theorem OwnP.row' {a : Option Addr} {len cap : Nat} (h : OwnP w B (.slice a len cap) ps) (hs : ∀ p ∈ ps, p.n.size ≤ maxLen) : PRow w w.heap.size a len cap ps ∧ len = ps.length := ⟨h.row hs, (h.row hs).length.symm⟩
theorem OwnP.nil (w : World) (B : Nat) : OwnP w B (.slice none 0 0) [] := Own.nil w B 5
theorem OwnP.alloc (h : OwnP w B v ps) (o : Obj) : OwnP (w.alloc o) B v ps := Own.alloc h o
theorem OwnP.below (h : OwnP w B v ps) (hb : Below w.heap.size w w') : OwnP w' B v ps := Own.below h hb
theorem OwnP.form (h : OwnP w B v ps) : ∃ a cap, v = .slice a ps.length cap ∧ ps.length ≤ cap ∧ cap ≤ maxLen ∧ (a = none → ps.length = 0 ∧ cap = 0) := Own.form h
theorem OwnP.less {B' : Nat} (h : OwnP w B v ps) (hB : B' ≤ B) : OwnP w B' v ps := Own.less h hB
end
/-- One cell of an owned slice is stored. -/
theorem Own.putCell {w : World} {B s g n c : Nat} {xs : List Value} {i : Nat} {u : Value} (h : Own w B s (.slice (some ⟨g, 0, none⟩) n c) n xs) (hi : i < xs.length) : Own (w.setCell ⟨g, i, none⟩ u) B s (.slice (some ⟨g, 0, none⟩) n c) n (xs.set i u) := by
  have hlen := h.1
  rcases h.2 with ⟨e, h0⟩ | ⟨g', c', e, hB, hg, hn, hm, hcell, hroom⟩
  · cases e
  injection e with e1 e2 e3
  injection e1 with e1
  injection e1 with e1 _ _
  subst e1
  subst e3
  have hfit : n * s ≤ c * s := Nat.mul_le_mul_right _ hn
  refine ⟨by simpa using hlen, .inr ⟨g, c, rfl, hB, by simpa [World.setCell] using hg, hn, hm, fun j u' hu => ?_, fun j hj => ?_⟩⟩
  · have hj := (List.getElem?_eq_some_iff.1 hu).1
    simp at hj
    by_cases hji : j = i
    · subst hji
      obtain ⟨u0, hu0⟩ := Option.isSome_iff_exists.1 (hroom j (by omega)).1
      rw [World.cell?_setCell_same _ _ _ (by rw [hu0]), ← hu]
      simp [hj]
    · rw [World.cell?_setCell_other _ _ _ _ (fun e => by injection e with _ e2; omega)]
      refine hcell j u' ?_
      rw [← hu]
      simp [show ¬ i = j by omega]
  · obtain ⟨q1, q2⟩ := hroom j hj
    refine ⟨?_, by rw [World.frozen?_setCell]; exact q2⟩
    obtain ⟨u0, hu0⟩ := Option.isSome_iff_exists.1 q1
    obtain ⟨v, hv⟩ := cell?_setCell_some (w := w) (p := ⟨g, i, none⟩) (x := u) (q := ⟨g, j, none⟩) (v := u0) hu0
    rw [hv]; rfl
/-- One pin of an owned slice is stored. -/
theorem OwnP.put {w : World} {B g n c : Nat} {ps : List PinD} {k : Nat} {p : PinD} (h : OwnP w B (.slice (some ⟨g, 0, none⟩) n c) ps) (hk : k < ps.length) :
    OwnP (((((w.setCell ⟨g, k * 5, none⟩ (.string p.n)).setCell ⟨g, k * 5 + 1, none⟩ (.int .i64 p.a)).setCell ⟨g, k * 5 + 2, none⟩ (.int .i64 p.b)).setCell ⟨g, k * 5 + 3, none⟩ (.int .i64 p.e)).setCell ⟨g, k * 5 + 4, none⟩ (.int .i64 p.u)) B (.slice (some ⟨g, 0, none⟩) n c) (ps.set k p) := by
  have hn : n = ps.length := by
    obtain ⟨a, cap, e, _⟩ := h.form
    injection e
  subst hn
  have hl := flat_length ps
  unfold OwnP
  rw [flat_set ps k p hk, List.length_set]
  refine Own.putCell (Own.putCell (Own.putCell (Own.putCell (Own.putCell h ?_) ?_) ?_) ?_) ?_ <;> (try simp only [List.length_set]) <;> omega
/-- That a cell of an owned slice can be written. -/
theorem OwnP.cell {w : World} {B g n c : Nat} {ps : List PinD} (h : OwnP w B (.slice (some ⟨g, 0, none⟩) n c) ps) {k i : Nat} (hk : k < ps.length) {u : Value} (hu : (ps[k]?.getD pin0).vals[i]? = some u) :
    w.cell? ⟨g, k * 5 + i, none⟩ = some u ∧ w.frozen? ⟨g, k * 5 + i, none⟩ = false := by
  rcases h.2 with ⟨e, h0⟩ | ⟨g', c', e, hB, hg, hn, hm, hcell, hroom⟩
  · cases e
  injection e with e1 e2 e3
  injection e1 with e1
  injection e1 with e1 _ _
  subst e1
  subst e3
  have hi : i < 5 := by have := (List.getElem?_eq_some_iff.1 hu).1; simpa [PinD.vals_length] using this
  have : (k + 1) * 5 ≤ c * 5 := Nat.mul_le_mul_right _ (by omega)
  exact ⟨hcell _ _ (flat_get ps k i u hk hu), (hroom _ (by omega)).2⟩
theorem pin_oneCell (p : PinD) : ∀ v ∈ p.vals, v.oneCell' = true := by
  intro v hv
  simp only [PinD.vals, List.mem_cons, List.not_mem_nil, or_false] at hv
  rcases hv with rfl | rfl | rfl | rfl | rfl <;> rfl
end Go.Proofs.YtcnpocppgghejaaGreatDoor
namespace Go.Proofs.YtcnpocppgghejaaGreatDoor
open Go.RowKit
set_option maxRecDepth 100000
set_option linter.unusedVariables false

theorem isTime_any (v : Int) (w : World) : Calls Tryz.prog 43 #[.int .i64 v] w fun e w' => e = .returned (.bool (timB v)) ∧ w = w' := by
  by_cases h0 : 0 ≤ v
  · by_cases h1 : v ≤ 9999
    · have e : timB v = true := by simp [timB]; omega
      rw [e]
      go_enter Tryz.func43, Tryz.ntmps43
      go_wp2_with fail
      go_ret
      simp
    · have e : timB v = false := by simp [timB]; omega
      rw [e]
      go_enter Tryz.func43, Tryz.ntmps43
      go_wp2_with fail
      go_ret
      simp
  · have e : timB v = false := by simp [timB]; omega
    rw [e]
    go_enter Tryz.func43, Tryz.ntmps43
    go_wp2_with fail
    go_ret
    simp
theorem isEpoch_any (v : Int) (w : World) : Calls Tryz.prog 53 #[.int .i64 v] w fun e w' => e = .returned (.bool (epB v)) ∧ w = w' := by
  by_cases h0 : 1 ≤ v
  · by_cases h1 : v ≤ 200
    · have e : epB v = true := by simp [epB]; omega
      rw [e]
      go_enter Tryz.func53, Tryz.ntmps53
      go_wp2_with fail
      go_ret
      simp
    · have e : epB v = false := by simp [epB]; omega
      rw [e]
      go_enter Tryz.func53, Tryz.ntmps53
      go_wp2_with fail
      go_ret
      simp
  · have e : epB v = false := by simp [epB]; omega
    rw [e]
    go_enter Tryz.func53, Tryz.ntmps53
    go_wp2_with fail
    go_ret
    simp
theorem isBackup_any (v : Int) (w : World) : Calls Tryz.prog 52 #[.int .i64 v] w fun e w' => e = .returned (.bool (bakB v)) ∧ Below w.heap.size w w' := by
  by_cases h0 : v = 0
  · have e : bakB v = true := by simp [bakB, h0]
    rw [e]
    subst h0
    go_enter Tryz.func52, Tryz.ntmps52
    go_wp2_with fail
    go_ret
    exact ⟨rfl, Below.refl _ _⟩
  · have e : bakB v = pubB v := by simp [bakB, h0]
    rw [e]
    have q0 : (v == 0) = false := by simpa using h0
    generalize hp : pubB v = c
    go_enter Tryz.func52, Tryz.ntmps52
    go_wp2_with fail
    refine (implIsPublic_any _ _).mono ?_
    rintro r u1 ⟨rfl, b1⟩
    rw [hp]
    go_wp2_with fail
    go_ret
    exact ⟨rfl, b1⟩

theorem implPinFault_any (p : PinD) (w : World) (hn : p.n.size ≤ maxLen) :
    Calls Tryz.prog 21 #[P5 p] w fun e w' => e = .returned (.int .i64 p.f) ∧ Below w.heap.size w w' := by
  obtain ⟨n, a, b, c, u⟩ := p
  show Calls Tryz.prog 21 #[.agg #[.string n, .int .i64 a, .int .i64 b, .int .i64 c, .int .i64 u]] w fun e w' => e = .returned (.int .i64 (pinF n.data.toList a b c u)) ∧ Below w.heap.size w w'
  have b0 := bal (Below.refl _ w) (.cells #[.string n, .int .i64 a, .int .i64 b, .int .i64 c, .int .i64 u] 26)
  have A0 := At.new w [.string n, .int .i64 a, .int .i64 b, .int .i64 c, .int .i64 u] 26
  have F := fun w => implNormalFault_any n w hn
  by_cases h0 : M.normF n.data.toList = 0
  · rw [h0] at F
    cases hp : pubB a
    · rw [pinF_no h0 (by simp [pinB, hp])]
      go_enter Tryz.func21, Tryz.ntmps21
      go_wp2_with fail
      generalize w.alloc (.cells #[.string n, .int .i64 a, .int .i64 b, .int .i64 c, .int .i64 u] 26) = W0 at *
      refine (F _).mono ?_
      rintro r u1 ⟨rfl, b1⟩
      have A1 := A0.on b1
      have p0 := A1.cell 0 _ rfl
      have p1 := A1.cell 1 _ rfl
      have p2 := A1.cell 2 _ rfl
      have p3 := A1.cell 3 _ rfl
      have p4 := A1.cell 4 _ rfl
      have B1 := btr b0 b1
      clear A0 b0 b1 F
      go_wp2_with fail
      refine (implIsPublic_any _ _).mono ?_
      rintro r u2 ⟨rfl, b2⟩
      have A2 := A1.on b2
      have q0 := A2.cell 0 _ rfl
      have q1 := A2.cell 1 _ rfl
      have q2 := A2.cell 2 _ rfl
      have q3 := A2.cell 3 _ rfl
      have q4 := A2.cell 4 _ rfl
      have B2 := btr B1 b2
      clear A1 B1 b2 p0 p1 p2 p3 p4
      go_wp2_with fail
      go_ret
      exact ⟨rfl, B2⟩
    cases hk : bakB b
    · rw [pinF_no h0 (by simp [pinB, hk])]
      go_enter Tryz.func21, Tryz.ntmps21
      go_wp2_with fail
      generalize w.alloc (.cells #[.string n, .int .i64 a, .int .i64 b, .int .i64 c, .int .i64 u] 26) = W0 at *
      refine (F _).mono ?_
      rintro r u1 ⟨rfl, b1⟩
      have A1 := A0.on b1
      have p0 := A1.cell 0 _ rfl
      have p1 := A1.cell 1 _ rfl
      have p2 := A1.cell 2 _ rfl
      have p3 := A1.cell 3 _ rfl
      have p4 := A1.cell 4 _ rfl
      have B1 := btr b0 b1
      clear A0 b0 b1 F
      go_wp2_with fail
      refine (implIsPublic_any _ _).mono ?_
      rintro r u2 ⟨rfl, b2⟩
      have A2 := A1.on b2
      have q0 := A2.cell 0 _ rfl
      have q1 := A2.cell 1 _ rfl
      have q2 := A2.cell 2 _ rfl
      have q3 := A2.cell 3 _ rfl
      have q4 := A2.cell 4 _ rfl
      have B2 := btr B1 b2
      clear A1 B1 b2 p0 p1 p2 p3 p4
      go_wp2_with fail
      refine (isBackup_any _ _).mono ?_
      rintro r u3 ⟨rfl, b3⟩
      have A3 := A2.on b3
      have x0 := A3.cell 0 _ rfl
      have x1 := A3.cell 1 _ rfl
      have x2 := A3.cell 2 _ rfl
      have x3 := A3.cell 3 _ rfl
      have x4 := A3.cell 4 _ rfl
      have B3 := btr B2 b3
      clear A2 B2 b3 q0 q1 q2 q3 q4
      go_wp2_with fail
      go_ret
      exact ⟨rfl, B3⟩
    cases he : epB c
    · rw [pinF_no h0 (by simp [pinB, he])]
      go_enter Tryz.func21, Tryz.ntmps21
      go_wp2_with fail
      generalize w.alloc (.cells #[.string n, .int .i64 a, .int .i64 b, .int .i64 c, .int .i64 u] 26) = W0 at *
      refine (F _).mono ?_
      rintro r u1 ⟨rfl, b1⟩
      have A1 := A0.on b1
      have p0 := A1.cell 0 _ rfl
      have p1 := A1.cell 1 _ rfl
      have p2 := A1.cell 2 _ rfl
      have p3 := A1.cell 3 _ rfl
      have p4 := A1.cell 4 _ rfl
      have B1 := btr b0 b1
      clear A0 b0 b1 F
      go_wp2_with fail
      refine (implIsPublic_any _ _).mono ?_
      rintro r u2 ⟨rfl, b2⟩
      have A2 := A1.on b2
      have q0 := A2.cell 0 _ rfl
      have q1 := A2.cell 1 _ rfl
      have q2 := A2.cell 2 _ rfl
      have q3 := A2.cell 3 _ rfl
      have q4 := A2.cell 4 _ rfl
      have B2 := btr B1 b2
      clear A1 B1 b2 p0 p1 p2 p3 p4
      go_wp2_with fail
      refine (isBackup_any _ _).mono ?_
      rintro r u3 ⟨rfl, b3⟩
      have A3 := A2.on b3
      have x0 := A3.cell 0 _ rfl
      have x1 := A3.cell 1 _ rfl
      have x2 := A3.cell 2 _ rfl
      have x3 := A3.cell 3 _ rfl
      have x4 := A3.cell 4 _ rfl
      have B3 := btr B2 b3
      clear A2 B2 b3 q0 q1 q2 q3 q4
      go_wp2_with fail
      refine (isEpoch_any _ _).mono ?_
      rintro r w' ⟨rfl, rfl⟩
      go_wp2_with fail
      go_ret
      exact ⟨rfl, B3⟩
    cases ht : timB u
    · rw [pinF_no h0 (by simp [pinB, ht])]
      go_enter Tryz.func21, Tryz.ntmps21
      go_wp2_with fail
      generalize w.alloc (.cells #[.string n, .int .i64 a, .int .i64 b, .int .i64 c, .int .i64 u] 26) = W0 at *
      refine (F _).mono ?_
      rintro r u1 ⟨rfl, b1⟩
      have A1 := A0.on b1
      have p0 := A1.cell 0 _ rfl
      have p1 := A1.cell 1 _ rfl
      have p2 := A1.cell 2 _ rfl
      have p3 := A1.cell 3 _ rfl
      have p4 := A1.cell 4 _ rfl
      have B1 := btr b0 b1
      clear A0 b0 b1 F
      go_wp2_with fail
      refine (implIsPublic_any _ _).mono ?_
      rintro r u2 ⟨rfl, b2⟩
      have A2 := A1.on b2
      have q0 := A2.cell 0 _ rfl
      have q1 := A2.cell 1 _ rfl
      have q2 := A2.cell 2 _ rfl
      have q3 := A2.cell 3 _ rfl
      have q4 := A2.cell 4 _ rfl
      have B2 := btr B1 b2
      clear A1 B1 b2 p0 p1 p2 p3 p4
      go_wp2_with fail
      refine (isBackup_any _ _).mono ?_
      rintro r u3 ⟨rfl, b3⟩
      have A3 := A2.on b3
      have x0 := A3.cell 0 _ rfl
      have x1 := A3.cell 1 _ rfl
      have x2 := A3.cell 2 _ rfl
      have x3 := A3.cell 3 _ rfl
      have x4 := A3.cell 4 _ rfl
      have B3 := btr B2 b3
      clear A2 B2 b3 q0 q1 q2 q3 q4
      go_wp2_with fail
      refine (isEpoch_any _ _).mono ?_
      rintro r w' ⟨rfl, rfl⟩
      go_wp2_with fail
      refine (isTime_any _ _).mono ?_
      rintro r w' ⟨rfl, rfl⟩
      go_wp2_with fail
      go_ret
      exact ⟨rfl, B3⟩
    by_cases hba : b = a
    · rw [pinF_taken h0 (by simp [pinB, hp, hk, he, ht]) hba]
      have qba : (b == a) = true := by simpa using hba
      clear hba
      go_enter Tryz.func21, Tryz.ntmps21
      go_wp2_with fail
      generalize w.alloc (.cells #[.string n, .int .i64 a, .int .i64 b, .int .i64 c, .int .i64 u] 26) = W0 at *
      refine (F _).mono ?_
      rintro r u1 ⟨rfl, b1⟩
      have A1 := A0.on b1
      have p0 := A1.cell 0 _ rfl
      have p1 := A1.cell 1 _ rfl
      have p2 := A1.cell 2 _ rfl
      have p3 := A1.cell 3 _ rfl
      have p4 := A1.cell 4 _ rfl
      have B1 := btr b0 b1
      clear A0 b0 b1 F
      go_wp2_with fail
      refine (implIsPublic_any _ _).mono ?_
      rintro r u2 ⟨rfl, b2⟩
      have A2 := A1.on b2
      have q0 := A2.cell 0 _ rfl
      have q1 := A2.cell 1 _ rfl
      have q2 := A2.cell 2 _ rfl
      have q3 := A2.cell 3 _ rfl
      have q4 := A2.cell 4 _ rfl
      have B2 := btr B1 b2
      clear A1 B1 b2 p0 p1 p2 p3 p4
      go_wp2_with fail
      refine (isBackup_any _ _).mono ?_
      rintro r u3 ⟨rfl, b3⟩
      have A3 := A2.on b3
      have x0 := A3.cell 0 _ rfl
      have x1 := A3.cell 1 _ rfl
      have x2 := A3.cell 2 _ rfl
      have x3 := A3.cell 3 _ rfl
      have x4 := A3.cell 4 _ rfl
      have B3 := btr B2 b3
      clear A2 B2 b3 q0 q1 q2 q3 q4
      go_wp2_with fail
      refine (isEpoch_any _ _).mono ?_
      rintro r w' ⟨rfl, rfl⟩
      go_wp2_with fail
      refine (isTime_any _ _).mono ?_
      rintro r w' ⟨rfl, rfl⟩
      go_wp2_with fail
      go_ret
      exact ⟨rfl, B3⟩
    · rw [pinF_yes h0 (by simp [pinB, hp, hk, he, ht]) hba]
      have qba : (b == a) = false := by simpa using hba
      go_enter Tryz.func21, Tryz.ntmps21
      go_wp2_with fail
      generalize w.alloc (.cells #[.string n, .int .i64 a, .int .i64 b, .int .i64 c, .int .i64 u] 26) = W0 at *
      refine (F _).mono ?_
      rintro r u1 ⟨rfl, b1⟩
      have A1 := A0.on b1
      have p0 := A1.cell 0 _ rfl
      have p1 := A1.cell 1 _ rfl
      have p2 := A1.cell 2 _ rfl
      have p3 := A1.cell 3 _ rfl
      have p4 := A1.cell 4 _ rfl
      have B1 := btr b0 b1
      clear A0 b0 b1 F
      go_wp2_with fail
      refine (implIsPublic_any _ _).mono ?_
      rintro r u2 ⟨rfl, b2⟩
      have A2 := A1.on b2
      have q0 := A2.cell 0 _ rfl
      have q1 := A2.cell 1 _ rfl
      have q2 := A2.cell 2 _ rfl
      have q3 := A2.cell 3 _ rfl
      have q4 := A2.cell 4 _ rfl
      have B2 := btr B1 b2
      clear A1 B1 b2 p0 p1 p2 p3 p4
      go_wp2_with fail
      refine (isBackup_any _ _).mono ?_
      rintro r u3 ⟨rfl, b3⟩
      have A3 := A2.on b3
      have x0 := A3.cell 0 _ rfl
      have x1 := A3.cell 1 _ rfl
      have x2 := A3.cell 2 _ rfl
      have x3 := A3.cell 3 _ rfl
      have x4 := A3.cell 4 _ rfl
      have B3 := btr B2 b3
      clear A2 B2 b3 q0 q1 q2 q3 q4
      go_wp2_with fail
      refine (isEpoch_any _ _).mono ?_
      rintro r w' ⟨rfl, rfl⟩
      go_wp2_with fail
      refine (isTime_any _ _).mono ?_
      rintro r w' ⟨rfl, rfl⟩
      go_wp2_with fail
      go_ret
      exact ⟨rfl, B3⟩
  · rw [pinF_norm h0]
    generalize M.normF n.data.toList = c0 at *
    go_enter Tryz.func21, Tryz.ntmps21
    go_wp2_with fail
    generalize w.alloc (.cells #[.string n, .int .i64 a, .int .i64 b, .int .i64 c, .int .i64 u] 26) = W0 at *
    refine (F _).mono ?_
    rintro r u1 ⟨rfl, b1⟩
    have A1 := A0.on b1
    have p0 := A1.cell 0 _ rfl
    have p1 := A1.cell 1 _ rfl
    have p2 := A1.cell 2 _ rfl
    have p3 := A1.cell 3 _ rfl
    have p4 := A1.cell 4 _ rfl
    have B1 := btr b0 b1
    clear A0 b0 b1 F
    go_wp2_with fail
    go_ret
    exact ⟨rfl, B1⟩

theorem l7Time_any (v : Int) (w : World) : Calls Tryz.prog 45 #[.int .i64 v] w fun e w' => e = .returned (.bool (timB v)) ∧ w = w' := by
  have T : ∀ w, Calls Tryz.prog 70 #[.int .i64 v, .int .i64 0, .int .i64 9999] w fun e w' => e = .returned (.bool (timB v)) ∧ w = w' := fun w => l1In_any v 0 9999 w
  generalize timB v = c at *
  go_enter Tryz.func45, Tryz.ntmps45
  go_wp2_with fail
  refine (T _).mono ?_
  rintro r w' ⟨rfl, rfl⟩
  go_wp2_with fail
  go_ret
  simp
theorem l1In_ep (v : Int) (w : World) : Calls Tryz.prog 70 #[.int .i64 v, .int .i64 1, .int .i64 200] w fun e w' => e = .returned (.bool (epB v)) ∧ w = w' := l1In_any v 1 200 w

set_option maxHeartbeats 4000000 in
theorem l7Fault_at (g o : Nat) (p : PinD) (w : World) (hn : p.n.size ≤ maxLen)
    (d0 : w.cell? ⟨g, o, none⟩ = some (.string p.n)) (d1 : w.cell? ⟨g, o + 1, none⟩ = some (.int .i64 p.a)) (d2 : w.cell? ⟨g, o + 2, none⟩ = some (.int .i64 p.b)) (d3 : w.cell? ⟨g, o + 3, none⟩ = some (.int .i64 p.e)) (d4 : w.cell? ⟨g, o + 4, none⟩ = some (.int .i64 p.u)) :
    Calls Tryz.prog 44 #[.pointer (some ⟨g, o, none⟩)] w fun e w' => e = .returned (.int .i64 p.f) ∧ Below w.heap.size w w' := by
  obtain ⟨n, a, b, c, u⟩ := p
  show Calls Tryz.prog 44 #[.pointer (some ⟨g, o, none⟩)] w fun e w' => e = .returned (.int .i64 (pinF n.data.toList a b c u)) ∧ Below w.heap.size w w'
  dsimp only at hn d0 d1 d2 d3 d4
  have hL : n.data.toList.length = n.size := by simp
  have F := fun w => l5Fault_any n w hn
  by_cases h0 : M.nameF n.data.toList = 0
  · obtain ⟨h20, hm⟩ := M.nameF_zero h0
    rw [hL] at h20
    have N := fun w : World => l5Normal_any n w h20
    have Q := text_beq (M.bs (M.nrm n.data.toList)) n
    rw [M.bs_list] at Q
    rw [h0] at F
    by_cases hq : M.nrm n.data.toList = n.data.toList
    · have h1 := M.normF_yes h0 hq
      rw [decide_eq_true hq] at Q
      generalize M.bs (M.nrm n.data.toList) = R at *
      clear h0 hm hq hL
      cases hp : pubB a
      · rw [pinF_no h1 (by simp [pinB, hp])]
        go_enter Tryz.func44, Tryz.ntmps44
        go_wp2_with fail
        refine (F _).mono ?_
        rintro r u1 ⟨rfl, b1⟩
        have p0 := cell_keep b1 d0
        go_wp2_with fail
        refine wp_region_line (Bel u1) [(0, true), (1, true), (2, true), (3, true), (5, true), (6, true), (7, true), (8, true), (4, false), (9, true)] (by kernel_rfl) (by kernel_rfl) (fun _ _ d _ _ h => by cases d <;> exact h) (Bel.drew u1) ?_
        have hst := Bel.drew u1
        have inst : Nonempty (Of (Bel u1)) := ⟨⟨_, hst⟩⟩
        have q0 := bel_cell p0
        iterate 8 (refine line_read rfl (by kernel_rfl) (fun K hK => ?_); go_big_quiet_op; refine hK _ ?_; clear hK K)
        refine line_alone rfl (by kernel_rfl) (fun K hK => ?_)
        refine call_wp (args := #[.string n]) rfl (by kernel_rfl) (by kernel_rfl) (N _) (fun wn hbn => ?_)
        have hst2 := hst.on hbn
        refine hK _ _ hst2 ?_
        clear hK K hst hbn
        have hst := hst2
        clear hst2
        simp only [Act.put, List.setIfInBounds_toArray, List.set_cons_zero, List.set_cons_succ]
        iterate 1 (refine line_read rfl (by kernel_rfl) (fun K hK => ?_); go_big_quiet_op; refine hK _ ?_; clear hK K)
        refine line_nil ?_
        have bb := btr b1 hst.out
        have y1 := cell_keep bb d1
        have y2 := cell_keep bb d2
        have y3 := cell_keep bb d3
        have y4 := cell_keep bb d4
        clear hst inst q0 p0 b1 F N d0 d1 d2 d3 d4
        go_wp2_with fail
        refine (l1Public_any _ _).mono ?_
        rintro r w' ⟨rfl, rfl⟩
        go_wp2_with fail
        go_ret
        exact ⟨rfl, bb⟩
      by_cases hb0 : b = 0
      · have hk : bakB b = true := by simp [bakB, hb0]
        subst hb0
        cases he : epB c
        · rw [pinF_no h1 (by simp [pinB, he])]
          go_enter Tryz.func44, Tryz.ntmps44
          go_wp2_with fail
          refine (F _).mono ?_
          rintro r u1 ⟨rfl, b1⟩
          have p0 := cell_keep b1 d0
          go_wp2_with fail
          refine wp_region_line (Bel u1) [(0, true), (1, true), (2, true), (3, true), (5, true), (6, true), (7, true), (8, true), (4, false), (9, true)] (by kernel_rfl) (by kernel_rfl) (fun _ _ d _ _ h => by cases d <;> exact h) (Bel.drew u1) ?_
          have hst := Bel.drew u1
          have inst : Nonempty (Of (Bel u1)) := ⟨⟨_, hst⟩⟩
          have q0 := bel_cell p0
          iterate 8 (refine line_read rfl (by kernel_rfl) (fun K hK => ?_); go_big_quiet_op; refine hK _ ?_; clear hK K)
          refine line_alone rfl (by kernel_rfl) (fun K hK => ?_)
          refine call_wp (args := #[.string n]) rfl (by kernel_rfl) (by kernel_rfl) (N _) (fun wn hbn => ?_)
          have hst2 := hst.on hbn
          refine hK _ _ hst2 ?_
          clear hK K hst hbn
          have hst := hst2
          clear hst2
          simp only [Act.put, List.setIfInBounds_toArray, List.set_cons_zero, List.set_cons_succ]
          iterate 1 (refine line_read rfl (by kernel_rfl) (fun K hK => ?_); go_big_quiet_op; refine hK _ ?_; clear hK K)
          refine line_nil ?_
          have bb := btr b1 hst.out
          have y1 := cell_keep bb d1
          have y2 := cell_keep bb d2
          have y3 := cell_keep bb d3
          have y4 := cell_keep bb d4
          clear hst inst q0 p0 b1 F N d0 d1 d2 d3 d4
          go_wp2_with fail
          refine (l1Public_any _ _).mono ?_
          rintro r w' ⟨rfl, rfl⟩
          go_wp2_with fail
          refine (l1In_ep _ _).mono ?_
          rintro r w' ⟨rfl, rfl⟩
          go_wp2_with fail
          go_ret
          exact ⟨rfl, bb⟩
        cases ht : timB u
        · rw [pinF_no h1 (by simp [pinB, ht])]
          go_enter Tryz.func44, Tryz.ntmps44
          go_wp2_with fail
          refine (F _).mono ?_
          rintro r u1 ⟨rfl, b1⟩
          have p0 := cell_keep b1 d0
          go_wp2_with fail
          refine wp_region_line (Bel u1) [(0, true), (1, true), (2, true), (3, true), (5, true), (6, true), (7, true), (8, true), (4, false), (9, true)] (by kernel_rfl) (by kernel_rfl) (fun _ _ d _ _ h => by cases d <;> exact h) (Bel.drew u1) ?_
          have hst := Bel.drew u1
          have inst : Nonempty (Of (Bel u1)) := ⟨⟨_, hst⟩⟩
          have q0 := bel_cell p0
          iterate 8 (refine line_read rfl (by kernel_rfl) (fun K hK => ?_); go_big_quiet_op; refine hK _ ?_; clear hK K)
          refine line_alone rfl (by kernel_rfl) (fun K hK => ?_)
          refine call_wp (args := #[.string n]) rfl (by kernel_rfl) (by kernel_rfl) (N _) (fun wn hbn => ?_)
          have hst2 := hst.on hbn
          refine hK _ _ hst2 ?_
          clear hK K hst hbn
          have hst := hst2
          clear hst2
          simp only [Act.put, List.setIfInBounds_toArray, List.set_cons_zero, List.set_cons_succ]
          iterate 1 (refine line_read rfl (by kernel_rfl) (fun K hK => ?_); go_big_quiet_op; refine hK _ ?_; clear hK K)
          refine line_nil ?_
          have bb := btr b1 hst.out
          have y1 := cell_keep bb d1
          have y2 := cell_keep bb d2
          have y3 := cell_keep bb d3
          have y4 := cell_keep bb d4
          clear hst inst q0 p0 b1 F N d0 d1 d2 d3 d4
          go_wp2_with fail
          refine (l1Public_any _ _).mono ?_
          rintro r w' ⟨rfl, rfl⟩
          go_wp2_with fail
          refine (l1In_ep _ _).mono ?_
          rintro r w' ⟨rfl, rfl⟩
          go_wp2_with fail
          refine (l7Time_any _ _).mono ?_
          rintro r w' ⟨rfl, rfl⟩
          go_wp2_with fail
          go_ret
          exact ⟨rfl, bb⟩
        by_cases hba : (0 : Int) = a
        · rw [pinF_taken h1 (by simp [pinB, hp, hk, he, ht]) hba]
          subst hba
          go_enter Tryz.func44, Tryz.ntmps44
          go_wp2_with fail
          refine (F _).mono ?_
          rintro r u1 ⟨rfl, b1⟩
          have p0 := cell_keep b1 d0
          go_wp2_with fail
          refine wp_region_line (Bel u1) [(0, true), (1, true), (2, true), (3, true), (5, true), (6, true), (7, true), (8, true), (4, false), (9, true)] (by kernel_rfl) (by kernel_rfl) (fun _ _ d _ _ h => by cases d <;> exact h) (Bel.drew u1) ?_
          have hst := Bel.drew u1
          have inst : Nonempty (Of (Bel u1)) := ⟨⟨_, hst⟩⟩
          have q0 := bel_cell p0
          iterate 8 (refine line_read rfl (by kernel_rfl) (fun K hK => ?_); go_big_quiet_op; refine hK _ ?_; clear hK K)
          refine line_alone rfl (by kernel_rfl) (fun K hK => ?_)
          refine call_wp (args := #[.string n]) rfl (by kernel_rfl) (by kernel_rfl) (N _) (fun wn hbn => ?_)
          have hst2 := hst.on hbn
          refine hK _ _ hst2 ?_
          clear hK K hst hbn
          have hst := hst2
          clear hst2
          simp only [Act.put, List.setIfInBounds_toArray, List.set_cons_zero, List.set_cons_succ]
          iterate 1 (refine line_read rfl (by kernel_rfl) (fun K hK => ?_); go_big_quiet_op; refine hK _ ?_; clear hK K)
          refine line_nil ?_
          have bb := btr b1 hst.out
          have y1 := cell_keep bb d1
          have y2 := cell_keep bb d2
          have y3 := cell_keep bb d3
          have y4 := cell_keep bb d4
          clear hst inst q0 p0 b1 F N d0 d1 d2 d3 d4
          go_wp2_with fail
          refine (l1Public_any _ _).mono ?_
          rintro r w' ⟨rfl, rfl⟩
          go_wp2_with fail
          refine (l1In_ep _ _).mono ?_
          rintro r w' ⟨rfl, rfl⟩
          go_wp2_with fail
          refine (l7Time_any _ _).mono ?_
          rintro r w' ⟨rfl, rfl⟩
          go_wp2_with fail
          go_quiet (fail)
          go_wp2_with fail
          go_ret
          exact ⟨rfl, bdrewN bb _⟩
        · rw [pinF_yes h1 (by simp [pinB, hp, hk, he, ht]) hba]
          have qba : ((0 : Int) == a) = false := by simpa using hba
          go_enter Tryz.func44, Tryz.ntmps44
          go_wp2_with fail
          refine (F _).mono ?_
          rintro r u1 ⟨rfl, b1⟩
          have p0 := cell_keep b1 d0
          go_wp2_with fail
          refine wp_region_line (Bel u1) [(0, true), (1, true), (2, true), (3, true), (5, true), (6, true), (7, true), (8, true), (4, false), (9, true)] (by kernel_rfl) (by kernel_rfl) (fun _ _ d _ _ h => by cases d <;> exact h) (Bel.drew u1) ?_
          have hst := Bel.drew u1
          have inst : Nonempty (Of (Bel u1)) := ⟨⟨_, hst⟩⟩
          have q0 := bel_cell p0
          iterate 8 (refine line_read rfl (by kernel_rfl) (fun K hK => ?_); go_big_quiet_op; refine hK _ ?_; clear hK K)
          refine line_alone rfl (by kernel_rfl) (fun K hK => ?_)
          refine call_wp (args := #[.string n]) rfl (by kernel_rfl) (by kernel_rfl) (N _) (fun wn hbn => ?_)
          have hst2 := hst.on hbn
          refine hK _ _ hst2 ?_
          clear hK K hst hbn
          have hst := hst2
          clear hst2
          simp only [Act.put, List.setIfInBounds_toArray, List.set_cons_zero, List.set_cons_succ]
          iterate 1 (refine line_read rfl (by kernel_rfl) (fun K hK => ?_); go_big_quiet_op; refine hK _ ?_; clear hK K)
          refine line_nil ?_
          have bb := btr b1 hst.out
          have y1 := cell_keep bb d1
          have y2 := cell_keep bb d2
          have y3 := cell_keep bb d3
          have y4 := cell_keep bb d4
          clear hst inst q0 p0 b1 F N d0 d1 d2 d3 d4
          go_wp2_with fail
          refine (l1Public_any _ _).mono ?_
          rintro r w' ⟨rfl, rfl⟩
          go_wp2_with fail
          refine (l1In_ep _ _).mono ?_
          rintro r w' ⟨rfl, rfl⟩
          go_wp2_with fail
          refine (l7Time_any _ _).mono ?_
          rintro r w' ⟨rfl, rfl⟩
          go_wp2_with fail
          go_quiet (fail)
          go_wp2_with fail
          go_ret
          exact ⟨rfl, bdrewN bb _⟩
      · have hk : bakB b = pubB b := by simp [bakB, hb0]
        have qb0 : (b == 0) = false := by simpa using hb0
        cases hkp : pubB b
        · rw [pinF_no h1 (by simp [pinB, hk, hkp])]
          clear hk
          go_enter Tryz.func44, Tryz.ntmps44
          go_wp2_with fail
          refine (F _).mono ?_
          rintro r u1 ⟨rfl, b1⟩
          have p0 := cell_keep b1 d0
          go_wp2_with fail
          refine wp_region_line (Bel u1) [(0, true), (1, true), (2, true), (3, true), (5, true), (6, true), (7, true), (8, true), (4, false), (9, true)] (by kernel_rfl) (by kernel_rfl) (fun _ _ d _ _ h => by cases d <;> exact h) (Bel.drew u1) ?_
          have hst := Bel.drew u1
          have inst : Nonempty (Of (Bel u1)) := ⟨⟨_, hst⟩⟩
          have q0 := bel_cell p0
          iterate 8 (refine line_read rfl (by kernel_rfl) (fun K hK => ?_); go_big_quiet_op; refine hK _ ?_; clear hK K)
          refine line_alone rfl (by kernel_rfl) (fun K hK => ?_)
          refine call_wp (args := #[.string n]) rfl (by kernel_rfl) (by kernel_rfl) (N _) (fun wn hbn => ?_)
          have hst2 := hst.on hbn
          refine hK _ _ hst2 ?_
          clear hK K hst hbn
          have hst := hst2
          clear hst2
          simp only [Act.put, List.setIfInBounds_toArray, List.set_cons_zero, List.set_cons_succ]
          iterate 1 (refine line_read rfl (by kernel_rfl) (fun K hK => ?_); go_big_quiet_op; refine hK _ ?_; clear hK K)
          refine line_nil ?_
          have bb := btr b1 hst.out
          have y1 := cell_keep bb d1
          have y2 := cell_keep bb d2
          have y3 := cell_keep bb d3
          have y4 := cell_keep bb d4
          clear hst inst q0 p0 b1 F N d0 d1 d2 d3 d4
          go_wp2_with fail
          refine (l1Public_any _ _).mono ?_
          rintro r w' ⟨rfl, rfl⟩
          go_wp2_with fail
          refine (l1Public_any _ _).mono ?_
          rintro r w' ⟨rfl, rfl⟩
          go_wp2_with fail
          go_ret
          exact ⟨rfl, bb⟩
        rw [hkp] at hk
        cases he : epB c
        · rw [pinF_no h1 (by simp [pinB, he])]
          go_enter Tryz.func44, Tryz.ntmps44
          go_wp2_with fail
          refine (F _).mono ?_
          rintro r u1 ⟨rfl, b1⟩
          have p0 := cell_keep b1 d0
          go_wp2_with fail
          refine wp_region_line (Bel u1) [(0, true), (1, true), (2, true), (3, true), (5, true), (6, true), (7, true), (8, true), (4, false), (9, true)] (by kernel_rfl) (by kernel_rfl) (fun _ _ d _ _ h => by cases d <;> exact h) (Bel.drew u1) ?_
          have hst := Bel.drew u1
          have inst : Nonempty (Of (Bel u1)) := ⟨⟨_, hst⟩⟩
          have q0 := bel_cell p0
          iterate 8 (refine line_read rfl (by kernel_rfl) (fun K hK => ?_); go_big_quiet_op; refine hK _ ?_; clear hK K)
          refine line_alone rfl (by kernel_rfl) (fun K hK => ?_)
          refine call_wp (args := #[.string n]) rfl (by kernel_rfl) (by kernel_rfl) (N _) (fun wn hbn => ?_)
          have hst2 := hst.on hbn
          refine hK _ _ hst2 ?_
          clear hK K hst hbn
          have hst := hst2
          clear hst2
          simp only [Act.put, List.setIfInBounds_toArray, List.set_cons_zero, List.set_cons_succ]
          iterate 1 (refine line_read rfl (by kernel_rfl) (fun K hK => ?_); go_big_quiet_op; refine hK _ ?_; clear hK K)
          refine line_nil ?_
          have bb := btr b1 hst.out
          have y1 := cell_keep bb d1
          have y2 := cell_keep bb d2
          have y3 := cell_keep bb d3
          have y4 := cell_keep bb d4
          clear hst inst q0 p0 b1 F N d0 d1 d2 d3 d4
          go_wp2_with fail
          refine (l1Public_any _ _).mono ?_
          rintro r w' ⟨rfl, rfl⟩
          go_wp2_with fail
          refine (l1Public_any _ _).mono ?_
          rintro r w' ⟨rfl, rfl⟩
          go_wp2_with fail
          refine (l1In_ep _ _).mono ?_
          rintro r w' ⟨rfl, rfl⟩
          go_wp2_with fail
          go_ret
          exact ⟨rfl, bb⟩
        cases ht : timB u
        · rw [pinF_no h1 (by simp [pinB, ht])]
          go_enter Tryz.func44, Tryz.ntmps44
          go_wp2_with fail
          refine (F _).mono ?_
          rintro r u1 ⟨rfl, b1⟩
          have p0 := cell_keep b1 d0
          go_wp2_with fail
          refine wp_region_line (Bel u1) [(0, true), (1, true), (2, true), (3, true), (5, true), (6, true), (7, true), (8, true), (4, false), (9, true)] (by kernel_rfl) (by kernel_rfl) (fun _ _ d _ _ h => by cases d <;> exact h) (Bel.drew u1) ?_
          have hst := Bel.drew u1
          have inst : Nonempty (Of (Bel u1)) := ⟨⟨_, hst⟩⟩
          have q0 := bel_cell p0
          iterate 8 (refine line_read rfl (by kernel_rfl) (fun K hK => ?_); go_big_quiet_op; refine hK _ ?_; clear hK K)
          refine line_alone rfl (by kernel_rfl) (fun K hK => ?_)
          refine call_wp (args := #[.string n]) rfl (by kernel_rfl) (by kernel_rfl) (N _) (fun wn hbn => ?_)
          have hst2 := hst.on hbn
          refine hK _ _ hst2 ?_
          clear hK K hst hbn
          have hst := hst2
          clear hst2
          simp only [Act.put, List.setIfInBounds_toArray, List.set_cons_zero, List.set_cons_succ]
          iterate 1 (refine line_read rfl (by kernel_rfl) (fun K hK => ?_); go_big_quiet_op; refine hK _ ?_; clear hK K)
          refine line_nil ?_
          have bb := btr b1 hst.out
          have y1 := cell_keep bb d1
          have y2 := cell_keep bb d2
          have y3 := cell_keep bb d3
          have y4 := cell_keep bb d4
          clear hst inst q0 p0 b1 F N d0 d1 d2 d3 d4
          go_wp2_with fail
          refine (l1Public_any _ _).mono ?_
          rintro r w' ⟨rfl, rfl⟩
          go_wp2_with fail
          refine (l1Public_any _ _).mono ?_
          rintro r w' ⟨rfl, rfl⟩
          go_wp2_with fail
          refine (l1In_ep _ _).mono ?_
          rintro r w' ⟨rfl, rfl⟩
          go_wp2_with fail
          refine (l7Time_any _ _).mono ?_
          rintro r w' ⟨rfl, rfl⟩
          go_wp2_with fail
          go_ret
          exact ⟨rfl, bb⟩
        by_cases hba : b = a
        · rw [pinF_taken h1 (by simp [pinB, hp, hk, he, ht]) hba]
          have qba : (b == a) = true := by simpa using hba
          clear hba
          go_enter Tryz.func44, Tryz.ntmps44
          go_wp2_with fail
          refine (F _).mono ?_
          rintro r u1 ⟨rfl, b1⟩
          have p0 := cell_keep b1 d0
          go_wp2_with fail
          refine wp_region_line (Bel u1) [(0, true), (1, true), (2, true), (3, true), (5, true), (6, true), (7, true), (8, true), (4, false), (9, true)] (by kernel_rfl) (by kernel_rfl) (fun _ _ d _ _ h => by cases d <;> exact h) (Bel.drew u1) ?_
          have hst := Bel.drew u1
          have inst : Nonempty (Of (Bel u1)) := ⟨⟨_, hst⟩⟩
          have q0 := bel_cell p0
          iterate 8 (refine line_read rfl (by kernel_rfl) (fun K hK => ?_); go_big_quiet_op; refine hK _ ?_; clear hK K)
          refine line_alone rfl (by kernel_rfl) (fun K hK => ?_)
          refine call_wp (args := #[.string n]) rfl (by kernel_rfl) (by kernel_rfl) (N _) (fun wn hbn => ?_)
          have hst2 := hst.on hbn
          refine hK _ _ hst2 ?_
          clear hK K hst hbn
          have hst := hst2
          clear hst2
          simp only [Act.put, List.setIfInBounds_toArray, List.set_cons_zero, List.set_cons_succ]
          iterate 1 (refine line_read rfl (by kernel_rfl) (fun K hK => ?_); go_big_quiet_op; refine hK _ ?_; clear hK K)
          refine line_nil ?_
          have bb := btr b1 hst.out
          have y1 := cell_keep bb d1
          have y2 := cell_keep bb d2
          have y3 := cell_keep bb d3
          have y4 := cell_keep bb d4
          clear hst inst q0 p0 b1 F N d0 d1 d2 d3 d4
          go_wp2_with fail
          refine (l1Public_any _ _).mono ?_
          rintro r w' ⟨rfl, rfl⟩
          go_wp2_with fail
          refine (l1Public_any _ _).mono ?_
          rintro r w' ⟨rfl, rfl⟩
          go_wp2_with fail
          refine (l1In_ep _ _).mono ?_
          rintro r w' ⟨rfl, rfl⟩
          go_wp2_with fail
          refine (l7Time_any _ _).mono ?_
          rintro r w' ⟨rfl, rfl⟩
          go_wp2_with fail
          go_quiet (fail)
          go_wp2_with fail
          go_ret
          exact ⟨rfl, bdrewN bb _⟩
        · rw [pinF_yes h1 (by simp [pinB, hp, hk, he, ht]) hba]
          have qba : (b == a) = false := by simpa using hba
          go_enter Tryz.func44, Tryz.ntmps44
          go_wp2_with fail
          refine (F _).mono ?_
          rintro r u1 ⟨rfl, b1⟩
          have p0 := cell_keep b1 d0
          go_wp2_with fail
          refine wp_region_line (Bel u1) [(0, true), (1, true), (2, true), (3, true), (5, true), (6, true), (7, true), (8, true), (4, false), (9, true)] (by kernel_rfl) (by kernel_rfl) (fun _ _ d _ _ h => by cases d <;> exact h) (Bel.drew u1) ?_
          have hst := Bel.drew u1
          have inst : Nonempty (Of (Bel u1)) := ⟨⟨_, hst⟩⟩
          have q0 := bel_cell p0
          iterate 8 (refine line_read rfl (by kernel_rfl) (fun K hK => ?_); go_big_quiet_op; refine hK _ ?_; clear hK K)
          refine line_alone rfl (by kernel_rfl) (fun K hK => ?_)
          refine call_wp (args := #[.string n]) rfl (by kernel_rfl) (by kernel_rfl) (N _) (fun wn hbn => ?_)
          have hst2 := hst.on hbn
          refine hK _ _ hst2 ?_
          clear hK K hst hbn
          have hst := hst2
          clear hst2
          simp only [Act.put, List.setIfInBounds_toArray, List.set_cons_zero, List.set_cons_succ]
          iterate 1 (refine line_read rfl (by kernel_rfl) (fun K hK => ?_); go_big_quiet_op; refine hK _ ?_; clear hK K)
          refine line_nil ?_
          have bb := btr b1 hst.out
          have y1 := cell_keep bb d1
          have y2 := cell_keep bb d2
          have y3 := cell_keep bb d3
          have y4 := cell_keep bb d4
          clear hst inst q0 p0 b1 F N d0 d1 d2 d3 d4
          go_wp2_with fail
          refine (l1Public_any _ _).mono ?_
          rintro r w' ⟨rfl, rfl⟩
          go_wp2_with fail
          refine (l1Public_any _ _).mono ?_
          rintro r w' ⟨rfl, rfl⟩
          go_wp2_with fail
          refine (l1In_ep _ _).mono ?_
          rintro r w' ⟨rfl, rfl⟩
          go_wp2_with fail
          refine (l7Time_any _ _).mono ?_
          rintro r w' ⟨rfl, rfl⟩
          go_wp2_with fail
          go_quiet (fail)
          go_wp2_with fail
          go_ret
          exact ⟨rfl, bdrewN bb _⟩
    · have h1 := M.normF_form h0 hq
      rw [decide_eq_false hq] at Q
      rw [pinF_norm (by rw [h1]; omega), h1]
      generalize M.bs (M.nrm n.data.toList) = R at *
      clear h0 hm hq hL h1
      go_enter Tryz.func44, Tryz.ntmps44
      go_wp2_with fail
      refine (F _).mono ?_
      rintro r u1 ⟨rfl, b1⟩
      have p0 := cell_keep b1 d0
      go_wp2_with fail
      refine wp_region_line (Bel u1) [(0, true), (1, true), (2, true), (3, true), (5, true), (6, true), (7, true), (8, true), (4, false), (9, true)] (by kernel_rfl) (by kernel_rfl) (fun _ _ d _ _ h => by cases d <;> exact h) (Bel.drew u1) ?_
      have hst := Bel.drew u1
      have inst : Nonempty (Of (Bel u1)) := ⟨⟨_, hst⟩⟩
      have q0 := bel_cell p0
      iterate 8 (refine line_read rfl (by kernel_rfl) (fun K hK => ?_); go_big_quiet_op; refine hK _ ?_; clear hK K)
      refine line_alone rfl (by kernel_rfl) (fun K hK => ?_)
      refine call_wp (args := #[.string n]) rfl (by kernel_rfl) (by kernel_rfl) (N _) (fun wn hbn => ?_)
      have hst2 := hst.on hbn
      refine hK _ _ hst2 ?_
      clear hK K hst hbn
      have hst := hst2
      clear hst2
      simp only [Act.put, List.setIfInBounds_toArray, List.set_cons_zero, List.set_cons_succ]
      iterate 1 (refine line_read rfl (by kernel_rfl) (fun K hK => ?_); go_big_quiet_op; refine hK _ ?_; clear hK K)
      refine line_nil ?_
      have bb := btr b1 hst.out
      have y1 := cell_keep bb d1
      have y2 := cell_keep bb d2
      have y3 := cell_keep bb d3
      have y4 := cell_keep bb d4
      clear hst inst q0 p0 b1 F N d0 d1 d2 d3 d4
      go_wp2_with fail
      go_ret
      exact ⟨rfl, bb⟩
  · have h1 := M.normF_no h0
    rw [pinF_norm (by rw [h1]; exact h0), h1]
    clear h1
    generalize M.nameF n.data.toList = c at *
    go_enter Tryz.func44, Tryz.ntmps44
    go_wp2_with fail
    refine (F _).mono ?_
    rintro r u1 ⟨rfl, b1⟩
    go_wp2_with fail
    go_ret
    exact ⟨rfl, b1⟩
theorem l7Fault_any (g : Nat) (p : PinD) (w : World) (A : At g p.vals w) (hn : p.n.size ≤ maxLen) :
    Calls Tryz.prog 44 #[.pointer (some ⟨g, 0, none⟩)] w fun e w' => e = .returned (.int .i64 p.f) ∧ Below w.heap.size w w' :=
  l7Fault_at g 0 p w hn (A.cell 0 _ rfl) (A.cell 1 _ rfl) (A.cell 2 _ rfl) (A.cell 3 _ rfl) (A.cell 4 _ rfl)
theorem specPinFault_any (p : PinD) (w : World) (hn : p.n.size ≤ maxLen) :
    Calls Tryz.prog 22 #[P5 p] w fun e w' => e = .returned (.int .i64 p.f) ∧ Below w.heap.size w w' := by
  have b0 := bal (Below.refl _ w) (.cells #[.string p.n, .int .i64 p.a, .int .i64 p.b, .int .i64 p.e, .int .i64 p.u] 26)
  have A0 : At w.heap.size p.vals (w.alloc (.cells #[.string p.n, .int .i64 p.a, .int .i64 p.b, .int .i64 p.e, .int .i64 p.u] 26)) := At.new w p.vals 26
  go_enter Tryz.func22, Tryz.ntmps22
  go_wp2_with fail
  refine (l7Fault_any _ p _ A0 hn).mono ?_
  rintro r u1 ⟨rfl, b1⟩
  have hb := btr b0 b1
  go_wp2_with fail
  go_ret
  exact ⟨rfl, hb⟩
end Go.Proofs.YtcnpocppgghejaaGreatDoor
namespace Go.Proofs.YtcnpocppgghejaaGreatDoor
open Go.RowKit
set_option maxRecDepth 100000
set_option linter.unusedVariables false

def FaultRel (w : World) (ps : List PinD) (t : Int) (k : Nat) (wr : World) : Prop := pinsG (prevN ps k) (ps.drop k) = t ∧ Below w.heap.size w wr
theorem pinsG_bad {ps : List PinD} {k : Nat} {t : Int} (hk : k < ps.length) (h : pinsG (prevN ps k) (ps.drop k) = t) (h0 : (ps[k]?.getD pin0).f ≠ 0) : t = (ps[k]?.getD pin0).f := by
  rw [← h, pinsG_step hk, if_neg h0]
theorem pinsG_form {ps : List PinD} {k : Nat} {t : Int} (hk : k < ps.length) (h : pinsG (prevN ps k) (ps.drop k) = t) (h0 : (ps[k]?.getD pin0).f = 0) (h1 : okN (prevN ps k) (ps[k]?.getD pin0).nm = false) : t = 1 := by
  rw [← h, pinsG_step hk, if_pos h0, h1]
  rfl
theorem pinsG_next {ps : List PinD} {k : Nat} {t : Int} (hk : k < ps.length) (h : pinsG (prevN ps k) (ps.drop k) = t) (h0 : (ps[k]?.getD pin0).f = 0) (h1 : okN (prevN ps k) (ps[k]?.getD pin0).nm = true) : pinsG (prevN ps (k + 1)) (ps.drop (k + 1)) = t := by
  rw [← h, pinsG_step hk, if_pos h0, h1, if_pos rfl]

theorem implPinsFault_any (a : Option Addr) (len cap B : Nat) (ps : List PinD) (w : World) (hR : PRow w B a len cap ps) (hB : B ≤ w.heap.size) :
    Calls Tryz.prog 19 #[.slice a len cap] w fun e w' => e = .returned (.int .i64 (pinsF ps)) ∧ Below w.heap.size w w' := by
  have hf := hR.fits
  have hm := hR.most
  unfold maxLen at hm
  have hL := Lib.hid hR.length
  by_cases h4 : 4 < len
  · have e : pinsF ps = 2 := by unfold pinsF; rw [hL.out, if_pos h4]
    rw [e]
    have h4' : (4 : Int) < len := by omega
    go_enter Tryz.func19, Tryz.ntmps19
    go_wp2_with fail
    go_ret
    exact ⟨rfl, Below.refl _ _⟩
  have e : pinsF ps = pinsG none ps := by unfold pinsF; rw [hL.out, if_neg h4]
  rw [e]
  have T0 : FaultRel w ps (pinsG none ps) 0 w := ⟨rfl, Below.refl _ _⟩
  have h4' : ¬ (4 : Int) < len := by omega
  generalize pinsG none ps = t at *
  clear e
  go_enter Tryz.func19, Tryz.ntmps19
  go_wp2_with fail
  go_loopw [11] (fun i wr => ∃ k : Nat, k ≤ len ∧ i = .int .i64 k ∧ FaultRel w ps t k wr) (fun i _ => len - (intOf i).toNat)
  case atStart => exact ⟨0, Nat.zero_le _, rfl, T0⟩
  case round =>
    obtain ⟨k, hk, rfl, ht, hb⟩ := hrel
    clear T0
    by_cases hlt : k < len
    · rcases Nat.eq_zero_or_pos k with hk0 | hk0
      · have hkz : ¬ (0 : Int) < k := by omega
        have hkn : ¬ 0 < k := by omega
        have hkd : decide (0 < k) = false := decide_eq_false hkn
        obtain ⟨b, off, ha, hbB, c0, c1, c2, c3, c4⟩ := (hR.below (hb.mono hB)).at' hlt
        subst ha
        have hkp : k < ps.length := by rw [hL.out]; exact hlt
        have F := fun w => implPinFault_any (ps[k]?.getD pin0) w (hR.name hlt)
        have A0 : At wr.heap.size (ps[k]?.getD pin0).vals (wr.alloc (.cells #[.string (ps[k]?.getD pin0).n, .int .i64 (ps[k]?.getD pin0).a, .int .i64 (ps[k]?.getD pin0).b, .int .i64 (ps[k]?.getD pin0).e, .int .i64 (ps[k]?.getD pin0).u] 26)) := At.new wr (ps[k]?.getD pin0).vals 26
        have b0 := bal hb (.cells #[.string (ps[k]?.getD pin0).n, .int .i64 (ps[k]?.getD pin0).a, .int .i64 (ps[k]?.getD pin0).b, .int .i64 (ps[k]?.getD pin0).e, .int .i64 (ps[k]?.getD pin0).u] 26)
        by_cases h0 : (ps[k]?.getD pin0).f = 0
        · rw [h0] at F
          have hn := pinsG_next hkp ht h0 (by rw [hk0]; rfl)
          have HN := Lib.hid hn
          have HK := Lib.hid hk0
          clear hn ht h0 hk0
          generalize ps[k]?.getD pin0 = p at *
          go_wp2_with fail
          generalize wr.alloc (.cells #[.string p.n, .int .i64 p.a, .int .i64 p.b, .int .i64 p.e, .int .i64 p.u] 26) = W0 at *
          refine (F _).mono ?_
          rintro r u1 ⟨rfl, b1⟩
          have x0 := (A0.on b1).cell 0 _ rfl
          have B1 := btr b0 b1
          clear b1 A0 b0 F c0 c1 c2 c3 c4
          go_wp2_with fail
          refine wp_region_line (Bel u1) [(0, true), (1, true), (2, true), (3, true), (4, true), (5, true), (6, true), (7, true), (8, true), (9, true), (10, true), (11, true), (12, true)] (by kernel_rfl) (by kernel_rfl) (fun _ _ d _ _ h => by cases d <;> exact h) (Bel.drew u1) ?_
          have hst := Bel.drew u1
          have inst : Nonempty (Of (Bel u1)) := ⟨⟨_, hst⟩⟩
          iterate 3 (refine line_read rfl (by kernel_rfl) (fun K hK => ?_); go_big_quiet_op; refine hK _ ?_; clear hK K)
          iterate 9 (refine line_skip rfl (by kernel_rfl) ?_; simp only [Act.put, List.setIfInBounds_toArray, List.set_cons_zero, List.set_cons_succ])
          iterate 1 (refine line_read rfl (by kernel_rfl) (fun K hK => ?_); go_big_quiet_op; refine hK _ ?_; clear hK K)
          refine line_nil ?_
          have B2 := btr B1 hst.out
          go_wp2_with fail
          go_roundw
          case rel => exact ⟨k + 1, by omega, by go_num, HN.out, B2⟩
          case measure => simp [intOf]; omega
        · have ht' := pinsG_bad hkp ht h0
          have HK := Lib.hid hk0
          clear ht hk0
          generalize ps[k]?.getD pin0 = p at *
          subst ht'
          go_wp2_with fail
          generalize wr.alloc (.cells #[.string p.n, .int .i64 p.a, .int .i64 p.b, .int .i64 p.e, .int .i64 p.u] 26) = W0 at *
          refine (F _).mono ?_
          rintro r u1 ⟨rfl, b1⟩
          have x0 := (A0.on b1).cell 0 _ rfl
          have B1 := btr b0 b1
          clear b1 A0 b0 F c0 c1 c2 c3 c4
          go_wp2_with fail
          go_ret
          exact ⟨rfl, B1⟩
      · obtain ⟨j, rfl⟩ : ∃ j, k = j + 1 := ⟨k - 1, by omega⟩
        obtain ⟨b, off, ha, hbB, c0, c1, c2, c3, c4⟩ := (hR.below (hb.mono hB)).at' hlt
        subst ha
        have hkp : j + 1 < ps.length := by rw [hL.out]; exact hlt
        have F := fun w => implPinFault_any (ps[j + 1]?.getD pin0) w (hR.name hlt)
        have A0 : At wr.heap.size (ps[j + 1]?.getD pin0).vals (wr.alloc (.cells #[.string (ps[j + 1]?.getD pin0).n, .int .i64 (ps[j + 1]?.getD pin0).a, .int .i64 (ps[j + 1]?.getD pin0).b, .int .i64 (ps[j + 1]?.getD pin0).e, .int .i64 (ps[j + 1]?.getD pin0).u] 26)) := At.new wr (ps[j + 1]?.getD pin0).vals 26
        have b0 := bal hb (.cells #[.string (ps[j + 1]?.getD pin0).n, .int .i64 (ps[j + 1]?.getD pin0).a, .int .i64 (ps[j + 1]?.getD pin0).b, .int .i64 (ps[j + 1]?.getD pin0).e, .int .i64 (ps[j + 1]?.getD pin0).u] 26)
        by_cases h0 : (ps[j + 1]?.getD pin0).f = 0
        · rw [h0] at F
          have hjl : j < len := by omega
          have QR := Lib.hid (fun u1 (B1 : Below w.heap.size w u1) => (hR.below (B1.mono hB)).at' hjl)
          cases h1 : nlt (ps[j]?.getD pin0).nm (ps[j + 1]?.getD pin0).nm
          · have hn := pinsG_form hkp ht h0 h1
            have Q : Op.bytesLess (ps[j]?.getD pin0).n.toList (ps[j + 1]?.getD pin0).n.toList = false := by rw [ByteArray.toList_eq, ByteArray.toList_eq]; exact h1
            subst hn
            clear ht h0 h1
            generalize ps[j + 1]?.getD pin0 = p at *
            go_wp2_with fail
            generalize wr.alloc (.cells #[.string p.n, .int .i64 p.a, .int .i64 p.b, .int .i64 p.e, .int .i64 p.u] 26) = W0 at *
            refine (F _).mono ?_
            rintro r u1 ⟨rfl, b1⟩
            have x0 := (A0.on b1).cell 0 _ rfl
            have B1 := btr b0 b1
            clear b1 A0 b0 F c0 c1 c2 c3 c4
            obtain ⟨b', off', ha', hbB', z0, -⟩ := QR.out u1 B1
            injection ha' with ha'
            injection ha' with e1 e2
            subst e1
            subst e2
            generalize ps[j]?.getD pin0 = q at *
            go_wp2_with fail
            refine wp_region_line (Bel u1) [(0, true), (1, true), (2, true), (3, true), (4, true), (5, true), (6, true), (7, true), (8, true), (9, true), (10, true), (11, true), (12, true)] (by kernel_rfl) (by kernel_rfl) (fun _ _ d _ _ h => by cases d <;> exact h) (Bel.drew u1) ?_
            have hst := Bel.drew u1
            have inst : Nonempty (Of (Bel u1)) := ⟨⟨_, hst⟩⟩
            have q0 := bel_cell z0
            have q1 := bel_cell x0
            iterate 13 (refine line_read rfl (by kernel_rfl) (fun K hK => ?_); go_big_quiet_op; refine hK _ ?_; clear hK K)
            refine line_nil ?_
            have B2 := btr B1 hst.out
            go_wp2_with fail
            go_ret
            exact ⟨rfl, B2⟩
          · have hn := pinsG_next hkp ht h0 h1
            have Q : Op.bytesLess (ps[j]?.getD pin0).n.toList (ps[j + 1]?.getD pin0).n.toList = true := by rw [ByteArray.toList_eq, ByteArray.toList_eq]; exact h1
            have HN := Lib.hid hn
            clear ht h0 h1 hn
            generalize ps[j + 1]?.getD pin0 = p at *
            go_wp2_with fail
            generalize wr.alloc (.cells #[.string p.n, .int .i64 p.a, .int .i64 p.b, .int .i64 p.e, .int .i64 p.u] 26) = W0 at *
            refine (F _).mono ?_
            rintro r u1 ⟨rfl, b1⟩
            have x0 := (A0.on b1).cell 0 _ rfl
            have B1 := btr b0 b1
            clear b1 A0 b0 F c0 c1 c2 c3 c4
            obtain ⟨b', off', ha', hbB', z0, -⟩ := QR.out u1 B1
            injection ha' with ha'
            injection ha' with e1 e2
            subst e1
            subst e2
            generalize ps[j]?.getD pin0 = q at *
            go_wp2_with fail
            refine wp_region_line (Bel u1) [(0, true), (1, true), (2, true), (3, true), (4, true), (5, true), (6, true), (7, true), (8, true), (9, true), (10, true), (11, true), (12, true)] (by kernel_rfl) (by kernel_rfl) (fun _ _ d _ _ h => by cases d <;> exact h) (Bel.drew u1) ?_
            have hst := Bel.drew u1
            have inst : Nonempty (Of (Bel u1)) := ⟨⟨_, hst⟩⟩
            have q0 := bel_cell z0
            have q1 := bel_cell x0
            iterate 13 (refine line_read rfl (by kernel_rfl) (fun K hK => ?_); go_big_quiet_op; refine hK _ ?_; clear hK K)
            refine line_nil ?_
            have B2 := btr B1 hst.out
            go_wp2_with fail
            go_roundw
            case rel => exact ⟨j + 1 + 1, by omega, by go_num, HN.out, B2⟩
            case measure => simp [intOf]; omega
        · have ht' := pinsG_bad hkp ht h0
          clear ht
          generalize ps[j + 1]?.getD pin0 = p at *
          subst ht'
          go_wp2_with fail
          generalize wr.alloc (.cells #[.string p.n, .int .i64 p.a, .int .i64 p.b, .int .i64 p.e, .int .i64 p.u] 26) = W0 at *
          refine (F _).mono ?_
          rintro r u1 ⟨rfl, b1⟩
          have x0 := (A0.on b1).cell 0 _ rfl
          have B1 := btr b0 b1
          clear b1 A0 b0 F c0 c1 c2 c3 c4
          go_wp2_with fail
          go_ret
          exact ⟨rfl, B1⟩
    · obtain rfl : k = len := by omega
      have e : ps.drop k = [] := List.drop_of_length_le (by rw [hL.out]; omega)
      rw [e] at ht
      have ht' : t = 0 := by rw [← ht]; cases prevN ps k <;> rfl
      subst ht'
      go_wp2_with fail
      go_ret
      exact ⟨rfl, hb⟩
theorem l7Pins_any (a : Option Addr) (len cap B : Nat) (ps : List PinD) (w : World) (hR : PRow w B a len cap ps) (hB : B ≤ w.heap.size) :
    Calls Tryz.prog 39 #[.slice a len cap] w fun e w' => e = .returned (.int .i64 (pinsF ps)) ∧ Below w.heap.size w w' := by
  have hf := hR.fits
  have hm := hR.most
  unfold maxLen at hm
  have hL := Lib.hid hR.length
  by_cases h4 : 4 < len
  · have e : pinsF ps = 2 := by unfold pinsF; rw [hL.out, if_pos h4]
    rw [e]
    have h4' : (4 : Int) < len := by omega
    go_enter Tryz.func39, Tryz.ntmps39
    go_wp2_with fail
    go_ret
    exact ⟨rfl, Below.refl _ _⟩
  have e : pinsF ps = pinsG none ps := by unfold pinsF; rw [hL.out, if_neg h4]
  rw [e]
  have T0 : FaultRel w ps (pinsG none ps) 0 w := ⟨rfl, Below.refl _ _⟩
  have h4' : ¬ (4 : Int) < len := by omega
  generalize pinsG none ps = t at *
  clear e
  go_enter Tryz.func39, Tryz.ntmps39
  go_wp2_with fail
  go_loopw [3] (fun i wr => ∃ k : Nat, k ≤ len ∧ i = .int .i64 k ∧ FaultRel w ps t k wr) (fun i _ => len - (intOf i).toNat)
  case atStart => exact ⟨0, Nat.zero_le _, rfl, T0⟩
  case round =>
    obtain ⟨k, hk, rfl, ht, hb⟩ := hrel
    clear T0
    by_cases hlt : k < len
    · rcases Nat.eq_zero_or_pos k with hk0 | hk0
      · have hkz : ¬ (0 : Int) < k := by omega
        have hkn : ¬ 0 < k := by omega
        have hkd : decide (0 < k) = false := decide_eq_false hkn
        obtain ⟨b, off, ha, hbB, c0, c1, c2, c3, c4⟩ := (hR.below (hb.mono hB)).at' hlt
        subst ha
        have hkp : k < ps.length := by rw [hL.out]; exact hlt
        have F := l7Fault_at b (off + (k) * 5) (ps[k]?.getD pin0) wr (hR.name hlt) c0 c1 c2 c3 c4
        by_cases h0 : (ps[k]?.getD pin0).f = 0
        · rw [h0] at F
          have hn := pinsG_next hkp ht h0 (by rw [hk0]; rfl)
          have HN := Lib.hid hn
          have HK := Lib.hid hk0
          clear hn ht h0 hk0
          generalize ps[k]?.getD pin0 = p at *
          go_wp2_with fail
          refine F.mono ?_
          rintro r u1 ⟨rfl, b1⟩
          have B1 := btr hb b1
          have x0 := cell_keep b1 c0
          clear b1 F c0 c1 c2 c3 c4
          go_wp2_with fail
          refine wp_region_line (Bel u1) [(0, true), (1, true), (2, true), (3, true), (4, true), (5, true), (6, true), (7, true), (8, true), (9, true), (10, true), (11, true), (12, true), (13, true), (14, true), (15, true)] (by kernel_rfl) (by kernel_rfl) (fun _ _ d _ _ h => by cases d <;> exact h) (Bel.drew u1) ?_
          have hst := Bel.drew u1
          have inst : Nonempty (Of (Bel u1)) := ⟨⟨_, hst⟩⟩
          iterate 3 (refine line_read rfl (by kernel_rfl) (fun K hK => ?_); go_big_quiet_op; refine hK _ ?_; clear hK K)
          iterate 12 (refine line_skip rfl (by kernel_rfl) ?_; simp only [Act.put, List.setIfInBounds_toArray, List.set_cons_zero, List.set_cons_succ])
          iterate 1 (refine line_read rfl (by kernel_rfl) (fun K hK => ?_); go_big_quiet_op; refine hK _ ?_; clear hK K)
          refine line_nil ?_
          have B2 := btr B1 hst.out
          go_wp2_with fail
          go_roundw
          case rel => exact ⟨k + 1, by omega, by go_num, HN.out, B2⟩
          case measure => simp [intOf]; omega
        · have ht' := pinsG_bad hkp ht h0
          have HK := Lib.hid hk0
          clear ht hk0
          generalize ps[k]?.getD pin0 = p at *
          subst ht'
          go_wp2_with fail
          refine F.mono ?_
          rintro r u1 ⟨rfl, b1⟩
          have B1 := btr hb b1
          have x0 := cell_keep b1 c0
          clear b1 F c0 c1 c2 c3 c4
          go_wp2_with fail
          go_ret
          exact ⟨rfl, B1⟩
      · obtain ⟨j, rfl⟩ : ∃ j, k = j + 1 := ⟨k - 1, by omega⟩
        obtain ⟨b, off, ha, hbB, c0, c1, c2, c3, c4⟩ := (hR.below (hb.mono hB)).at' hlt
        subst ha
        have hkp : j + 1 < ps.length := by rw [hL.out]; exact hlt
        have F := l7Fault_at b (off + (j + 1) * 5) (ps[j + 1]?.getD pin0) wr (hR.name hlt) c0 c1 c2 c3 c4
        by_cases h0 : (ps[j + 1]?.getD pin0).f = 0
        · rw [h0] at F
          have hjl : j < len := by omega
          have QR := Lib.hid (fun u1 (B1 : Below w.heap.size w u1) => (hR.below (B1.mono hB)).at' hjl)
          have hQ := nle_eq (ps[j + 1]?.getD pin0).n.toList (ps[j]?.getD pin0).n.toList
          rw [show nlt (ps[j]?.getD pin0).n.toList (ps[j + 1]?.getD pin0).n.toList = nlt (ps[j]?.getD pin0).nm (ps[j + 1]?.getD pin0).nm by rw [ByteArray.toList_eq, ByteArray.toList_eq]; rfl] at hQ
          cases h1 : nlt (ps[j]?.getD pin0).nm (ps[j + 1]?.getD pin0).nm
          · have hn := pinsG_form hkp ht h0 h1
            rw [h1] at hQ
            subst hn
            clear ht h0 h1
            generalize ps[j + 1]?.getD pin0 = p at *
            go_wp2_with fail
            refine F.mono ?_
            rintro r u1 ⟨rfl, b1⟩
            have B1 := btr hb b1
            have x0 := cell_keep b1 c0
            clear b1 F c0 c1 c2 c3 c4
            obtain ⟨b', off', ha', hbB', z0, -⟩ := QR.out u1 B1
            injection ha' with ha'
            injection ha' with e1 e2
            subst e1
            subst e2
            generalize ps[j]?.getD pin0 = q at *
            go_wp2_with fail
            refine wp_region_line (Bel u1) [(0, true), (1, true), (2, true), (3, true), (4, true), (5, true), (6, true), (7, true), (8, true), (9, true), (10, true), (11, true), (12, true), (13, true), (14, true), (15, true)] (by kernel_rfl) (by kernel_rfl) (fun _ _ d _ _ h => by cases d <;> exact h) (Bel.drew u1) ?_
            have hst := Bel.drew u1
            have inst : Nonempty (Of (Bel u1)) := ⟨⟨_, hst⟩⟩
            have q0 := bel_cell z0
            have q1 := bel_cell x0
            iterate 16 (refine line_read rfl (by kernel_rfl) (fun K hK => ?_); go_big_quiet_op; refine hK _ ?_; clear hK K)
            refine line_nil ?_
            have B2 := btr B1 hst.out
            go_wp2_with fail
            go_ret
            exact ⟨rfl, B2⟩
          · have hn := pinsG_next hkp ht h0 h1
            rw [h1] at hQ
            have HN := Lib.hid hn
            clear ht h0 h1 hn
            generalize ps[j + 1]?.getD pin0 = p at *
            go_wp2_with fail
            refine F.mono ?_
            rintro r u1 ⟨rfl, b1⟩
            have B1 := btr hb b1
            have x0 := cell_keep b1 c0
            clear b1 F c0 c1 c2 c3 c4
            obtain ⟨b', off', ha', hbB', z0, -⟩ := QR.out u1 B1
            injection ha' with ha'
            injection ha' with e1 e2
            subst e1
            subst e2
            generalize ps[j]?.getD pin0 = q at *
            go_wp2_with fail
            refine wp_region_line (Bel u1) [(0, true), (1, true), (2, true), (3, true), (4, true), (5, true), (6, true), (7, true), (8, true), (9, true), (10, true), (11, true), (12, true), (13, true), (14, true), (15, true)] (by kernel_rfl) (by kernel_rfl) (fun _ _ d _ _ h => by cases d <;> exact h) (Bel.drew u1) ?_
            have hst := Bel.drew u1
            have inst : Nonempty (Of (Bel u1)) := ⟨⟨_, hst⟩⟩
            have q0 := bel_cell z0
            have q1 := bel_cell x0
            iterate 16 (refine line_read rfl (by kernel_rfl) (fun K hK => ?_); go_big_quiet_op; refine hK _ ?_; clear hK K)
            refine line_nil ?_
            have B2 := btr B1 hst.out
            go_wp2_with fail
            go_roundw
            case rel => exact ⟨j + 1 + 1, by omega, by go_num, HN.out, B2⟩
            case measure => simp [intOf]; omega
        · have ht' := pinsG_bad hkp ht h0
          clear ht
          generalize ps[j + 1]?.getD pin0 = p at *
          subst ht'
          go_wp2_with fail
          refine F.mono ?_
          rintro r u1 ⟨rfl, b1⟩
          have B1 := btr hb b1
          have x0 := cell_keep b1 c0
          clear b1 F c0 c1 c2 c3 c4
          go_wp2_with fail
          go_ret
          exact ⟨rfl, B1⟩
    · obtain rfl : k = len := by omega
      have e : ps.drop k = [] := List.drop_of_length_le (by rw [hL.out]; omega)
      rw [e] at ht
      have ht' : t = 0 := by rw [← ht]; cases prevN ps k <;> rfl
      subst ht'
      go_wp2_with fail
      go_ret
      exact ⟨rfl, hb⟩
theorem specPinsFault_any (a : Option Addr) (len cap B : Nat) (ps : List PinD) (w : World) (hR : PRow w B a len cap ps) (hB : B ≤ w.heap.size) :
    Calls Tryz.prog 20 #[.slice a len cap] w fun e w' => e = .returned (.int .i64 (pinsF ps)) ∧ Below w.heap.size w w' := by
  have F := l7Pins_any a len cap B ps w hR hB
  generalize pinsF ps = t at *
  clear hR
  go_enter Tryz.func20, Tryz.ntmps20
  go_wp2_with fail
  refine F.mono ?_
  rintro r u1 ⟨rfl, b1⟩
  go_wp2_with fail
  go_ret
  exact ⟨rfl, b1⟩
end Go.Proofs.YtcnpocppgghejaaGreatDoor
namespace Go.Proofs.YtcnpocppgghejaaGreatDoor
open Go.RowKit Go.Maps Go.WideShapes
open Go.ChangeMaps (putKey delKey notKey)
set_option maxRecDepth 100000
set_option linter.unusedVariables false

/-- How a pin in a map reads. -/
def pinR (v : Value) : Option (DataW PinD × List MemPlace) :=
  match v with
  | .agg cs => match cs.toList with
    | [.string n, .int .i64 a, .int .i64 b, .int .i64 e, .int .i64 u] => some (.held ⟨n, a, b, e, u⟩, [])
    | _ => none
  | _ => none
theorem pinR_mk (p : PinD) : pinR (P5 p) = some (.held p, []) := rfl
theorem pinR_inv {v : Value} {y : DataW PinD × List MemPlace} (h : pinR v = some y) : ∃ p, v = P5 p ∧ y = (.held p, []) := by
  unfold pinR at h
  split at h
  · rename_i cs
    split at h
    · rename_i n a b e u hcs
      injection h with h
      refine ⟨⟨n, a, b, e, u⟩, ?_, h.symm⟩
      have : cs = #[.string n, .int .i64 a, .int .i64 b, .int .i64 e, .int .i64 u] := by
        rw [← Array.toList_inj, hcs]
      rw [this]
    · cases h
  · cases h
def ent (p : PinD) : Lit × DataW PinD := (.string p.nm, .held p)
theorem same_str (x y : List UInt8) : (Lit.string x).sameKey (.string y) = decide (x = y) := by
  show (x == y) = decide (x = y)
  by_cases e : x = y <;> simp [e]
abbrev Apart (ps : List PinD) : Prop := ps.Pairwise fun p q => p.nm ≠ q.nm
theorem Rise.apart {ps : List PinD} (h : Rise ps) : Apart ps := h.imp fun h => nlt_ne h
theorem apart_inj : ∀ {ps : List PinD}, Apart ps → ∀ {p q : PinD}, p ∈ ps → q ∈ ps → p.nm = q.nm → p = q
  | [], _, _, _, h, _, _ => by cases h
  | x :: r, hr, p, q, hp, hq, e => by
    obtain ⟨h1, h2⟩ := List.pairwise_cons.1 hr
    rcases List.mem_cons.1 hp with rfl | hp'
    · rcases List.mem_cons.1 hq with rfl | hq'
      · rfl
      · exact absurd e (h1 q hq')
    · rcases List.mem_cons.1 hq with rfl | hq'
      · exact absurd e.symm (h1 p hp')
      · exact apart_inj h2 hp' hq' e
/-- The map holds just those pins, each at its name. -/
def MapIs (D : DataW PinD) (ps : List PinD) : Prop := ∃ es, D = .map es ∧ es.Perm (ps.map ent)
theorem MapIs.nil : MapIs (.map []) [] := ⟨[], rfl, .refl _⟩
theorem MapIs.has {D : DataW PinD} {ps : List PinD} (h : MapIs D ps) (l : List UInt8) : Maps.has D (.string l) = (findP ps l).isSome := by
  obtain ⟨es, rfl, hp⟩ := h
  rw [Maps.has_eq, Bool.eq_iff_iff, List.any_eq_true]
  unfold findP
  rw [List.find?_isSome]
  constructor
  · rintro ⟨x, hx, hs⟩
    obtain ⟨p, hpm, rfl⟩ := List.mem_map.1 (hp.mem_iff.1 hx)
    exact ⟨p, hpm, by simpa [ent, same_str] using hs⟩
  · rintro ⟨p, hpm, hs⟩
    exact ⟨ent p, hp.mem_iff.2 (List.mem_map.2 ⟨p, hpm, rfl⟩), by simpa [ent, same_str] using hs⟩
theorem MapIs.at' {D : DataW PinD} {ps : List PinD} (h : MapIs D ps) (ha : Apart ps) (l : List UInt8) : D.atKey (.string l) (.held pin0) = .held ((findP ps l).getD pin0) := by
  obtain ⟨es, rfl, hp⟩ := h
  unfold DataW.atKey
  cases hf : es.find? (fun p => p.1.sameKey (.string l)) with
  | none =>
    have : findP ps l = none := by
      unfold findP
      rw [List.find?_eq_none]
      intro p hpm
      have := List.find?_eq_none.1 hf (ent p) (hp.mem_iff.2 (List.mem_map.2 ⟨p, hpm, rfl⟩))
      simpa [ent, same_str] using this
    simp only [hf]
    rw [this]
    rfl
  | some x =>
    have hx := List.mem_of_find?_eq_some hf
    have hs := List.find?_some hf
    obtain ⟨p, hpm, rfl⟩ := List.mem_map.1 (hp.mem_iff.1 hx)
    have hl : p.nm = l := by simpa [ent, same_str] using hs
    have : findP ps l = some p := by
      cases hq : findP ps l with
      | none => exact absurd hl (findP_none hq p hpm)
      | some q =>
        obtain ⟨q1, q2⟩ := findP_mem hq
        rw [apart_inj ha q1 hpm (q2.trans hl.symm)]
    simp only [hf]
    rw [this]
    rfl
theorem MapIs.put {D : DataW PinD} {ps : List PinD} (h : MapIs D ps) {p : PinD} (hn : ∀ q ∈ ps, q.nm ≠ p.nm) : MapIs (D.put (.string p.nm) (.held p)) (ps ++ [p]) := by
  obtain ⟨es, rfl, hp⟩ := h
  refine ⟨_, DataW.put_eq _ _ _, ?_⟩
  unfold putKey
  have hf : es.filter (notKey (.string p.nm)) = es := by
    refine List.filter_eq_self.2 fun x hx => ?_
    obtain ⟨q, hq, rfl⟩ := List.mem_map.1 (hp.mem_iff.1 hx)
    have := hn q hq
    simp [notKey, ent, same_str, this]
  have e : delKey (.string p.nm) es = es := hf
  refine (insert_perm _ _).trans ?_
  rw [List.map_append]
  have h1 : ((Lit.string p.nm, DataW.held p) :: es.filter (notKey (.string p.nm))).Perm (ent p :: ps.map ent) := by
    rw [hf]
    exact hp.cons _
  exact h1.trans (List.perm_append_singleton _ _).symm
theorem MapIs.del {D : DataW PinD} {ps : List PinD} (h : MapIs D ps) (l : List UInt8) : MapIs (D.del (.string l)) (ps.filter fun q => !decide (q.nm = l)) := by
  obtain ⟨es, rfl, hp⟩ := h
  refine ⟨_, DataW.del_eq _ _, ?_⟩
  have e : ((ps.map ent).filter (notKey (.string l))) = (ps.filter fun q => !decide (q.nm = l)).map ent := by
    rw [List.filter_map]
    congr 1
    refine List.filter_congr fun q _ => ?_
    simp [notKey, ent, same_str]
  rw [← e]
  exact hp.filter _
theorem MapIs.size {D : DataW PinD} {ps : List PinD} (h : MapIs D ps) : Maps.size D = ps.length := by
  obtain ⟨es, rfl, hp⟩ := h
  rw [Maps.size_eq, hp.length_eq, List.length_map]

/-- Block b is a map of pins: those of ps. -/
structure PMap (w : World) (b : Nat) (ps : List PinD) : Prop where
  own : ∃ D, w.ownsMap Tryz.prog 9 pinR b ps.length D ∧ MapIs D ps
  apart : Apart ps
theorem str_law : Keyed Tryz.prog 9 := string_keyed Tryz.underlying9
theorem key_str {s : ByteArray} (h : s.size ≤ maxLen) : keyOf Tryz.prog 9 (.string s) = some (.string s.data.toList) := WideMaps.keyOf_string_mk Tryz.underlying9 h
section
variable {w w' : World} {b : Nat} {ps : List PinD}
theorem map_fit {n : Nat} {D : DataW PinD} (h : w.ownsMap Tryz.prog 9 pinR b n D) (hm : MapIs D ps) : w.ownsMap Tryz.prog 9 pinR b ps.length D := by
  have hz := hm.size
  obtain ⟨es, c, hb, F, hs, rfl⟩ := h
  refine ⟨es, c, hb, F, ?_, rfl⟩
  rw [← hz]
  simp [Maps.size, length_sorted]
theorem PMap.lt (h : PMap w b ps) : b < w.heap.size := by
  obtain ⟨D, ho, _⟩ := h.own
  exact ho.lt
theorem PMap.keep (h : PMap w b ps) (hk : w'.heap[b]? = w.heap[b]?) : PMap w' b ps := by
  obtain ⟨D, ⟨es, c, hb, r⟩, hm⟩ := h.own
  exact ⟨⟨D, ⟨es, c, hk.trans hb, r⟩, hm⟩, h.apart⟩
theorem PMap.on (h : PMap w b ps) (hb : Below w.heap.size w w') : PMap w' b ps := h.keep (hb.block b h.lt)
theorem PMap.alloc (h : PMap w b ps) (o : Obj) : PMap (w.alloc o) b ps := h.on (bal (Below.refl _ _) o)
theorem PMap.new (w : World) : PMap (w.alloc (.map #[] 0)) w.heap.size [] := ⟨⟨_, World.ownsMap_made w _ _ _, MapIs.nil⟩, .nil⟩
theorem PMap.look (h : PMap w b ps) {s : ByteArray} (hs : s.size ≤ maxLen) :
    (Instr.lookup 53 (.map (some b)) (.string s) true).run Tryz.prog w = .ok (.tuple #[P5 ((findP ps s.data.toList).getD pin0), .bool (findP ps s.data.toList).isSome]) w := by
  obtain ⟨D, ho, hm⟩ := h.own
  obtain ⟨v, z, hrun, hv⟩ := ho.look_ok str_law Tryz.underlying53 (z := P5 pin0) (by kernel_rfl) (pinR_mk pin0) (key_str hs)
  rw [hm.at' h.apart] at hv
  obtain ⟨p, rfl, e⟩ := pinR_inv hv
  injection e with e1 e2
  injection e1 with e1
  rw [hm.has] at hrun
  rw [hrun, e1]
theorem PMap.len (h : PMap w b ps) (ty : TypeId) : (Builtin.len_ #[53] ty #[.map (some b)]).run Tryz.prog w = .ok (.int .i64 ps.length) w := by
  obtain ⟨D, ho, hm⟩ := h.own
  rw [ho.len Tryz.underlying53 ty, hm.size]
theorem PMap.drop (h : PMap w b ps) {s : ByteArray} (hs : s.size ≤ maxLen) (ty : TypeId) :
    ∃ w', (Builtin.delete_ #[53, 9] ty #[.map (some b), .string s]).run Tryz.prog w = .ok (.tuple #[]) w' ∧ PMap w' b (ps.filter fun q => !decide (q.nm = s.data.toList)) ∧ w.mapTurned w' b := by
  obtain ⟨D, ho, hm⟩ := h.own
  obtain ⟨w', hrun, h1, h2⟩ := ho.drop str_law Tryz.underlying53 (key_str hs) ty
  exact ⟨w', hrun, ⟨⟨_, map_fit h1 (hm.del _), hm.del _⟩, h.apart.filter _⟩, h2⟩
theorem PMap.store (h : PMap w b ps) {p : PinD} (hl : ps.length ≤ 1000) (hs : p.n.size ≤ maxLen) (hn : ∀ q ∈ ps, q.nm ≠ p.nm) :
    ∃ w', (Instr.mapUpdate 53 (.map (some b)) (.string p.n) (P5 p)).run Tryz.prog w = .ok () w' ∧ PMap w' b (ps ++ [p]) ∧ w.mapTurned w' b := by
  obtain ⟨D, ho, hm⟩ := h.own
  obtain ⟨w', hrun, h1, h2⟩ := ho.store str_law Tryz.underlying53 (by simp only [maxLen]; omega) (key_str hs) (pinR_mk p)
  refine ⟨w', hrun, ⟨⟨_, map_fit h1 (hm.put hn), hm.put hn⟩, ?_⟩, h2⟩
  exact List.pairwise_append.2 ⟨h.apart, by simp, fun q hq r hr => by simp at hr; subst hr; exact hn q hq⟩
theorem turned_below {W : World} (h : w.mapTurned w' b) (hb : Below W.heap.size W w) (hB : W.heap.size ≤ b) : Below W.heap.size W w' := hb.grown h.grown hb.size (fun k e => by injection e with e; subst e; exact hB)
end
end Go.Proofs.YtcnpocppgghejaaGreatDoor
namespace Go.Proofs.YtcnpocppgghejaaGreatDoor
open Go.RowKit
set_option maxRecDepth 100000
set_option linter.unusedVariables false

/-- The map that holds the first k pins. -/
structure ByName (w : World) (ps : List PinD) (k : Nat) (wr : World) : Prop where
  map : PMap wr w.heap.size (ps.take k)
  bel : Below w.heap.size w wr
theorem take_apart {ps : List PinD} (h : Apart ps) {k : Nat} (hk : k < ps.length) : ∀ q ∈ ps.take k, q.nm ≠ (ps[k]?.getD pin0).nm := by
  intro q hq
  have e : ps = ps.take k ++ (ps[k]?.getD pin0) :: ps.drop (k + 1) := by
    rw [List.getElem?_eq_getElem hk, Option.getD_some, ← List.drop_eq_getElem_cons hk, List.take_append_drop]
  rw [e] at h
  exact (List.pairwise_append.1 h).2.2 q hq _ (by simp)
theorem take_snoc {ps : List PinD} {k : Nat} (hk : k < ps.length) : ps.take k ++ [ps[k]?.getD pin0] = ps.take (k + 1) := by
  rw [List.take_succ_eq_append_getElem hk, List.getElem?_eq_getElem hk]
  rfl
theorem run_makeMap_hint (n : Int) (w : World) : (Instr.makeMap 53 (some (.int .i64 n))).run Tryz.prog w = .ok (.map (some w.heap.size)) (w.alloc (.map #[] 0)) := by
  simp [Instr.makeMap, run_underlying Tryz.underlying53, asInt, asIntOf]
theorem pinsByName_any (a : Option Addr) (len cap B : Nat) (ps : List PinD) (w : World) (hR : PRow w B a len cap ps) (hB : B ≤ w.heap.size) (hl : len ≤ 4) (ha : Apart ps) :
    Calls Tryz.prog 27 #[.slice a len cap] w fun e w' => e = .returned (.map (some w.heap.size)) ∧ PMap w' w.heap.size ps ∧ Below w.heap.size w w' := by
  have hmm := fun w => run_makeMap_hint len w
  have hL := Lib.hid hR.length
  have T0 : ByName w ps 0 (w.alloc (.map #[] 0)) := ⟨PMap.new w, bal (Below.refl _ _) _⟩
  go_enter Tryz.func27, Tryz.ntmps27
  go_wp2_with fail
  generalize w.alloc (.map #[] 0) = w1 at *
  go_loopw [11] (fun i wr => ∃ k : Nat, k ≤ len ∧ i = .int .i64 k ∧ ByName w ps k wr) (fun i _ => len - (intOf i).toNat)
  case atStart => exact ⟨0, Nat.zero_le _, rfl, T0⟩
  case round =>
    obtain ⟨k, hk, rfl, hT⟩ := hrel
    clear T0
    by_cases hlt : k < len
    · obtain ⟨b, off, hab, hbB, c0, c1, c2, c3, c4⟩ := (hR.below (hT.bel.mono hB)).at' hlt
      subst hab
      have hkp : k < ps.length := by rw [hL.out]; exact hlt
      obtain ⟨w2, hrun, M2, hturn⟩ := (hT.map.alloc (.cells #[.string (ps[k]?.getD pin0).n, .int .i64 (ps[k]?.getD pin0).a, .int .i64 (ps[k]?.getD pin0).b, .int .i64 (ps[k]?.getD pin0).e, .int .i64 (ps[k]?.getD pin0).u] 26)).store (p := ps[k]?.getD pin0) (by simp; omega) (hR.name hlt) (take_apart ha hkp)
      have b2 := turned_below hturn (bal hT.bel _) (Nat.le_refl _)
      rw [take_snoc hkp] at M2
      have T2 := Lib.hid (ByName.mk M2 b2)
      clear M2 b2 hturn hT hmm
      generalize ps[k]?.getD pin0 = p at *
      go_wp2_with fail
      go_roundw
      case rel => exact ⟨k + 1, by omega, by go_num, T2.out⟩
      case measure => simp [intOf]; omega
    · obtain rfl : k = len := by omega
      have e : ps.take k = ps := List.take_of_length_le (by rw [hL.out]; omega)
      have HM := Lib.hid (e ▸ hT.map)
      have HB := Lib.hid hT.bel
      clear hT hmm
      go_wp2_with fail
      go_ret
      exact ⟨rfl, HM.out, HB.out⟩

def fndC : Option PinD → Int
  | some _ => 0
  | none => 4
theorem findC_ok {ps : List PinD} {l : List UInt8} (h0 : pinsF ps = 0) (h1 : M.nameF l = 0) : findC ps l = fndC (findP ps (M.nrm l)) := by
  unfold findC
  rw [if_neg (fun h => h h0), if_neg (fun h => h h1)]
  cases findP ps (M.nrm l) <;> rfl
theorem nrm_size {s : ByteArray} (h : s.size ≤ 20) : (M.bs (M.nrm s.data.toList)).size ≤ maxLen := by
  have hL : s.data.toList.length = s.size := by simp
  have hb := M.bare_length s.data.toList
  rw [M.bs_size, M.nrm, Lib.toLowerA, List.length_map]
  simp only [maxLen]
  omega
abbrev R6 (c : Int) (p : PinD) : Value := .agg #[.int .i64 c, .string p.n, .int .i64 p.a, .int .i64 p.b, .int .i64 p.e, .int .i64 p.u]
def RL6 (c : Int) (p : PinD) : List Value := [.int .i64 c, .string p.n, .int .i64 p.a, .int .i64 p.b, .int .i64 p.e, .int .i64 p.u]
theorem implFindPin_any (a : Option Addr) (len cap B : Nat) (ps : List PinD) (s : ByteArray) (w : World) (hR : PRow w B a len cap ps) (hB : B ≤ w.heap.size) (hs : s.size ≤ maxLen) :
    Calls Tryz.prog 8 #[.slice a len cap, .string s] w fun e w' => e = .returned (R6 (findC ps s.data.toList) (findR ps s.data.toList)) ∧ Below w.heap.size w w' := by
  have hL := Lib.hid hR.length
  have b0 := bal (Below.refl _ w) (.cells #[.int .i64 0, .string { data := #[] }, .int .i64 0, .int .i64 0, .int .i64 0, .int .i64 0] 35)
  have A0 := At.new w [.int .i64 0, .string { data := #[] }, .int .i64 0, .int .i64 0, .int .i64 0, .int .i64 0] 35
  have F := implPinsFault_any a len cap B ps _ (hR.below (b0.mono hB)) (Nat.le_trans hB b0.size)
  by_cases h0 : pinsF ps = 0
  case neg =>
    rw [show findC ps s.data.toList = pinsF ps by simp [findC, h0], show findR ps s.data.toList = pin0 by simp [findR, h0]]
    generalize pinsF ps = c at *
    clear hR
    go_enter Tryz.func8, Tryz.ntmps8
    go_wp2_with fail
    generalize w.alloc (.cells #[.int .i64 0, .string { data := #[] }, .int .i64 0, .int .i64 0, .int .i64 0, .int .i64 0] 35) = W0 at *
    refine F.mono ?_
    rintro r u1 ⟨rfl, b1⟩
    have q0 := (A0.on b1).cell 0 _ rfl
    have q1 := (A0.on b1).cell 1 _ rfl
    have q2 := (A0.on b1).cell 2 _ rfl
    have q3 := (A0.on b1).cell 3 _ rfl
    have q4 := (A0.on b1).cell 4 _ rfl
    have q5 := (A0.on b1).cell 5 _ rfl
    have z0 := (A0.on b1).free 0 _ rfl
    have z1 := (A0.on b1).free 1 _ rfl
    have z2 := (A0.on b1).free 2 _ rfl
    have z3 := (A0.on b1).free 3 _ rfl
    have z4 := (A0.on b1).free 4 _ rfl
    have z5 := (A0.on b1).free 5 _ rfl
    have B1 := btr b0 b1
    clear A0 b0 b1 F
    go_wp2_with fail
    refine bodyPost_ret (v := R6 c ⟨{ data := #[] }, 0, 0, 0, 0⟩) (by simp [results, Tryz.results8, go_sem, q0, q1, q2, q3, q4, q5]) rfl ⟨rfl, ?_⟩
    exact (by (iterate 6 (refine bset ?_ (by dsimp only; omega) _)); exact B1)
  rw [h0] at F
  obtain ⟨hl4, hgood, hrise⟩ := pinsF_zero h0
  have N0 := fun w => implNameFault_any s w hs
  by_cases h1 : M.nameF s.data.toList = 0
  case neg =>
    rw [show findC ps s.data.toList = M.nameF s.data.toList by simp [findC, h0, h1], show findR ps s.data.toList = pin0 by simp [findR, h0, h1]]
    generalize M.nameF s.data.toList = c at *
    clear hR
    go_enter Tryz.func8, Tryz.ntmps8
    go_wp2_with fail
    generalize w.alloc (.cells #[.int .i64 0, .string { data := #[] }, .int .i64 0, .int .i64 0, .int .i64 0, .int .i64 0] 35) = W0 at *
    refine F.mono ?_
    rintro r u1 ⟨rfl, b1⟩
    have q0 := (A0.on b1).cell 0 _ rfl
    have q1 := (A0.on b1).cell 1 _ rfl
    have q2 := (A0.on b1).cell 2 _ rfl
    have q3 := (A0.on b1).cell 3 _ rfl
    have q4 := (A0.on b1).cell 4 _ rfl
    have q5 := (A0.on b1).cell 5 _ rfl
    have z0 := (A0.on b1).free 0 _ rfl
    have z1 := (A0.on b1).free 1 _ rfl
    have z2 := (A0.on b1).free 2 _ rfl
    have z3 := (A0.on b1).free 3 _ rfl
    have z4 := (A0.on b1).free 4 _ rfl
    have z5 := (A0.on b1).free 5 _ rfl
    have B1 := btr b0 b1
    clear A0 b0 b1 F
    go_wp2_with fail
    refine (N0 _).mono ?_
    rintro r w' ⟨rfl, rfl⟩
    go_wp2_with fail
    refine bodyPost_ret (v := R6 c ⟨{ data := #[] }, 0, 0, 0, 0⟩) (by simp [results, Tryz.results8, go_sem, q0, q1, q2, q3, q4, q5]) rfl ⟨rfl, ?_⟩
    exact (by (iterate 6 (refine bset ?_ (by dsimp only; omega) _)); exact B1)
  rw [h1] at N0
  obtain ⟨h20, hm⟩ := M.nameF_zero h1
  have hsz : s.data.toList.length = s.size := by simp
  have NT := fun w => normalText_any s w (by omega) hm
  have hns : (M.bs (M.nrm s.data.toList)).size ≤ maxLen := nrm_size (by omega)
  have LK := Lib.hid (fun (w : World) (b : Nat) (h : PMap w b ps) => h.look (s := M.bs (M.nrm s.data.toList)) hns)
  rw [M.bs_list] at LK
  have BN := Lib.hid (fun (w1 : World) (h : Below w.heap.size w w1) => pinsByName_any a len cap B ps w1 (hR.below (h.mono hB)) (Nat.le_trans hB h.size) (by have := hL.out; omega) hrise.apart)
  have EC := findC_ok (l := s.data.toList) h0 h1
  have ER : findR ps s.data.toList = (findP ps (M.nrm s.data.toList)).getD pin0 := by simp [findR, h0, h1]
  rw [EC, ER]
  clear EC ER
  generalize M.bs (M.nrm s.data.toList) = S2 at *
  generalize findP ps (M.nrm s.data.toList) = o at *
  clear hR h0 h1 hgood hrise
  go_enter Tryz.func8, Tryz.ntmps8
  go_wp2_with fail
  generalize w.alloc (.cells #[.int .i64 0, .string { data := #[] }, .int .i64 0, .int .i64 0, .int .i64 0, .int .i64 0] 35) = W0 at *
  refine F.mono ?_
  rintro r u1 ⟨rfl, b1⟩
  have A1 := A0.on b1
  have B0 := btr b0 b1
  clear A0 b0 b1 F
  go_wp2_with fail
  refine (N0 _).mono ?_
  rintro r w' ⟨rfl, rfl⟩
  go_wp2_with fail
  refine (BN.out _ B0).mono ?_
  rintro r u2 ⟨rfl, M2, b2⟩
  go_wp2_with fail
  refine (NT _).mono ?_
  rintro r u3 ⟨rfl, b3⟩
  have M3 := M2.on b3
  have lk := LK.out _ _ M3
  have bb := btr b2 b3
  have B1 := btr B0 bb
  have q0 := (A1.on bb).cell 0 _ rfl
  have q1 := (A1.on bb).cell 1 _ rfl
  have q2 := (A1.on bb).cell 2 _ rfl
  have q3 := (A1.on bb).cell 3 _ rfl
  have q4 := (A1.on bb).cell 4 _ rfl
  have q5 := (A1.on bb).cell 5 _ rfl
  have z0 := (A1.on bb).free 0 _ rfl
  have z1 := (A1.on bb).free 1 _ rfl
  have z2 := (A1.on bb).free 2 _ rfl
  have z3 := (A1.on bb).free 3 _ rfl
  have z4 := (A1.on bb).free 4 _ rfl
  have z5 := (A1.on bb).free 5 _ rfl
  have lt3 : w.heap.size < u3.heap.size := (A1.on bb).lt (by simp)
  clear BN NT N0 LK M2 M3 A1 B0 b2 b3 bb
  cases o with
  | none =>
    go_wp2_with fail
    refine bodyPost_ret (v := R6 4 ⟨{ data := #[] }, 0, 0, 0, 0⟩) (by simp [results, Tryz.results8, go_sem, q0, q1, q2, q3, q4, q5, lt3]) rfl ⟨rfl, ?_⟩
    exact bal (by (iterate 6 (refine bset ?_ (by dsimp only; omega) _)); exact B1) _
  | some p =>
    go_wp2_with fail
    refine bodyPost_ret (v := R6 0 p) (by simp [results, Tryz.results8, go_sem, q0, q1, q2, q3, q4, q5, lt3]) rfl ⟨rfl, ?_⟩
    exact bal (by (iterate 6 (refine bset ?_ (by dsimp only; omega) _)); exact B1) _

/-- The place of the first pin of a name, from place i on. -/
def atI : List PinD → List UInt8 → Int → Int
  | [], _, _ => -1
  | p :: r, l, i => if p.nm = l then i else atI r l (i + 1)
theorem atI_step {ps : List PinD} {k : Nat} (hk : k < ps.length) (l : List UInt8) (i : Int) : atI (ps.drop k) l i = if (ps[k]?.getD pin0).nm = l then i else atI (ps.drop (k + 1)) l (i + 1) := by
  have e : ps.drop k = (ps[k]?.getD pin0) :: ps.drop (k + 1) := by
    rw [List.drop_eq_getElem_cons hk, List.getElem?_eq_getElem hk]
    rfl
  rw [e]
  rfl
theorem atI_spec : ∀ (ps : List PinD) (l : List UInt8) (i : Int), (findP ps l = none ∧ atI ps l i = -1) ∨ ∃ k : Nat, k < ps.length ∧ atI ps l i = i + k ∧ findP ps l = some (ps[k]?.getD pin0)
  | [], l, i => .inl ⟨rfl, rfl⟩
  | p :: r, l, i => by
    by_cases h : p.nm = l
    · refine .inr ⟨0, by simp, ?_, ?_⟩
      · rw [atI, if_pos h]; simp
      · simp [findP, h]
    · have ef : findP (p :: r) l = findP r l := by simp [findP, h]
      rw [ef, atI, if_neg h]
      rcases atI_spec r l (i + 1) with h1 | ⟨k, hk, h1, h2⟩
      · exact .inl h1
      · exact .inr ⟨k + 1, by simpa using hk, by rw [h1]; push_cast; omega, by simpa using h2⟩
def AtRel (w : World) (ps : List PinD) (l : List UInt8) (t : Int) (k : Nat) (wr : World) : Prop := atI (ps.drop k) l k = t ∧ Below w.heap.size w wr
theorem l7At_any (a : Option Addr) (len cap B : Nat) (ps : List PinD) (s : ByteArray) (w : World) (hR : PRow w B a len cap ps) (hB : B ≤ w.heap.size) :
    Calls Tryz.prog 41 #[.slice a len cap, .string s] w fun e w' => e = .returned (.int .i64 (atI ps s.data.toList 0)) ∧ Below w.heap.size w w' := by
  have hf := hR.fits
  have hm := hR.most
  unfold maxLen at hm
  have hL := Lib.hid hR.length
  have T0 : AtRel w ps s.data.toList (atI ps s.data.toList 0) 0 w := ⟨rfl, Below.refl _ _⟩
  generalize atI ps s.data.toList 0 = t at *
  go_enter Tryz.func41, Tryz.ntmps41
  go_wp2_with fail
  go_loopw [5] (fun i wr => ∃ k : Nat, k ≤ len ∧ i = .int .i64 k ∧ AtRel w ps s.data.toList t k wr) (fun i _ => len - (intOf i).toNat)
  case atStart => exact ⟨0, Nat.zero_le _, rfl, T0⟩
  case round =>
    obtain ⟨k, hk, rfl, ht, hb⟩ := hrel
    clear T0
    by_cases hlt : k < len
    · obtain ⟨b, off, hab, hbB, c0, -⟩ := (hR.below (hb.mono hB)).at' hlt
      subst hab
      rw [atI_step (by rw [hL.out]; exact hlt)] at ht
      have Q : ((ps[k]?.getD pin0).n.toList == s.toList) = decide ((ps[k]?.getD pin0).nm = s.data.toList) := text_beq (ps[k]?.getD pin0).n s
      have HB := Lib.hid hb
      by_cases h1 : (ps[k]?.getD pin0).nm = s.data.toList
      · rw [if_pos h1] at ht
        rw [decide_eq_true h1] at Q
        subst ht
        clear h1 hb
        generalize ps[k]?.getD pin0 = p at *
        go_wp2_with fail
        go_ret
        exact ⟨rfl, HB.out⟩
      · rw [if_neg h1] at ht
        rw [decide_eq_false h1] at Q
        have HT := Lib.hid ht
        clear h1 ht hb
        generalize ps[k]?.getD pin0 = p at *
        go_wp2_with fail
        go_roundw
        case rel => exact ⟨k + 1, by omega, by go_num, HT.out, HB.out⟩
        case measure => simp [intOf]; omega
    · obtain rfl : k = len := by omega
      have e : ps.drop k = [] := List.drop_of_length_le (by rw [hL.out]; omega)
      rw [e] at ht
      have ht' : -1 = t := ht
      subst ht'
      go_wp2_with fail
      go_ret
      exact ⟨rfl, hb⟩

theorem specFindPin_any (a : Option Addr) (len cap B : Nat) (ps : List PinD) (s : ByteArray) (w : World) (hR : PRow w B a len cap ps) (hB : B ≤ w.heap.size) (hs : s.size ≤ maxLen) :
    Calls Tryz.prog 12 #[.slice a len cap, .string s] w fun e w' => e = .returned (R6 (findC ps s.data.toList) (findR ps s.data.toList)) ∧ Below w.heap.size w w' := by
  have hL := Lib.hid hR.length
  have hm := hR.most
  have hfit := hR.fits
  unfold maxLen at hm
  have b0 := bal (Below.refl _ w) (.cells #[.int .i64 0, .string { data := #[] }, .int .i64 0, .int .i64 0, .int .i64 0, .int .i64 0] 35)
  have A0 := At.new w [.int .i64 0, .string { data := #[] }, .int .i64 0, .int .i64 0, .int .i64 0, .int .i64 0] 35
  have F := l7Pins_any a len cap B ps _ (hR.below (b0.mono hB)) (Nat.le_trans hB b0.size)
  by_cases h0 : pinsF ps = 0
  case neg =>
    rw [show findC ps s.data.toList = pinsF ps by simp [findC, h0], show findR ps s.data.toList = pin0 by simp [findR, h0]]
    generalize pinsF ps = c at *
    clear hR
    go_enter Tryz.func12, Tryz.ntmps12
    go_wp2_with fail
    generalize w.alloc (.cells #[.int .i64 0, .string { data := #[] }, .int .i64 0, .int .i64 0, .int .i64 0, .int .i64 0] 35) = W0 at *
    refine F.mono ?_
    rintro r u1 ⟨rfl, b1⟩
    have q0 := (A0.on b1).cell 0 _ rfl
    have q1 := (A0.on b1).cell 1 _ rfl
    have q2 := (A0.on b1).cell 2 _ rfl
    have q3 := (A0.on b1).cell 3 _ rfl
    have q4 := (A0.on b1).cell 4 _ rfl
    have q5 := (A0.on b1).cell 5 _ rfl
    have z0 := (A0.on b1).free 0 _ rfl
    have z1 := (A0.on b1).free 1 _ rfl
    have z2 := (A0.on b1).free 2 _ rfl
    have z3 := (A0.on b1).free 3 _ rfl
    have z4 := (A0.on b1).free 4 _ rfl
    have z5 := (A0.on b1).free 5 _ rfl
    have B1 := btr b0 b1
    clear A0 b0 b1 F
    go_wp2_with fail
    refine bodyPost_ret (v := R6 c ⟨{ data := #[] }, 0, 0, 0, 0⟩) (by simp [results, Tryz.results12, go_sem, q0, q1, q2, q3, q4, q5]) rfl ⟨rfl, ?_⟩
    exact (by (iterate 6 (refine bset ?_ (by dsimp only; omega) _)); exact B1)
  rw [h0] at F
  have N0 := fun w => l5Fault_any s w hs
  by_cases h1 : M.nameF s.data.toList = 0
  case neg =>
    rw [show findC ps s.data.toList = M.nameF s.data.toList by simp [findC, h0, h1], show findR ps s.data.toList = pin0 by simp [findR, h0, h1]]
    generalize M.nameF s.data.toList = c at *
    clear hR
    go_enter Tryz.func12, Tryz.ntmps12
    go_wp2_with fail
    generalize w.alloc (.cells #[.int .i64 0, .string { data := #[] }, .int .i64 0, .int .i64 0, .int .i64 0, .int .i64 0] 35) = W0 at *
    refine F.mono ?_
    rintro r u1 ⟨rfl, b1⟩
    go_wp2_with fail
    refine (N0 _).mono ?_
    rintro r u2 ⟨rfl, b2⟩
    have bb := btr b1 b2
    have q0 := (A0.on bb).cell 0 _ rfl
    have q1 := (A0.on bb).cell 1 _ rfl
    have q2 := (A0.on bb).cell 2 _ rfl
    have q3 := (A0.on bb).cell 3 _ rfl
    have q4 := (A0.on bb).cell 4 _ rfl
    have q5 := (A0.on bb).cell 5 _ rfl
    have z0 := (A0.on bb).free 0 _ rfl
    have z1 := (A0.on bb).free 1 _ rfl
    have z2 := (A0.on bb).free 2 _ rfl
    have z3 := (A0.on bb).free 3 _ rfl
    have z4 := (A0.on bb).free 4 _ rfl
    have z5 := (A0.on bb).free 5 _ rfl
    have B1 := btr b0 bb
    clear A0 b0 b1 b2 bb F
    go_wp2_with fail
    refine bodyPost_ret (v := R6 c ⟨{ data := #[] }, 0, 0, 0, 0⟩) (by simp [results, Tryz.results12, go_sem, q0, q1, q2, q3, q4, q5]) rfl ⟨rfl, ?_⟩
    exact (by (iterate 6 (refine bset ?_ (by dsimp only; omega) _)); exact B1)
  rw [h1] at N0
  obtain ⟨h20, hm20⟩ := M.nameF_zero h1
  have hsz : s.data.toList.length = s.size := by simp
  have NT := fun w => l5Normal_any s w (by omega)
  have EC := findC_ok (l := s.data.toList) h0 h1
  have ER : findR ps s.data.toList = (findP ps (M.nrm s.data.toList)).getD pin0 := by simp [findR, h0, h1]
  rw [EC, ER]
  have AT := Lib.hid (fun (w1 : World) (h : Below w.heap.size w w1) => l7At_any a len cap B ps (M.bs (M.nrm s.data.toList)) w1 (hR.below (h.mono hB)) (Nat.le_trans hB h.size))
  have AS := atI_spec ps (M.nrm s.data.toList) 0
  rw [M.bs_list] at AT
  clear EC ER
  generalize M.bs (M.nrm s.data.toList) = S2 at *
  generalize atI ps (M.nrm s.data.toList) 0 = t at *
  generalize findP ps (M.nrm s.data.toList) = o at *
  have HR := Lib.hid hR
  clear hR h0 h1
  rcases AS with ⟨rfl, rfl⟩ | ⟨k, hk, rfl, rfl⟩
  · go_enter Tryz.func12, Tryz.ntmps12
    go_wp2_with fail
    generalize w.alloc (.cells #[.int .i64 0, .string { data := #[] }, .int .i64 0, .int .i64 0, .int .i64 0, .int .i64 0] 35) = W0 at *
    refine F.mono ?_
    rintro r u1 ⟨rfl, b1⟩
    go_wp2_with fail
    refine (N0 _).mono ?_
    rintro r u2 ⟨rfl, b2⟩
    go_wp2_with fail
    refine (NT _).mono ?_
    rintro r u3 ⟨rfl, b3⟩
    have bb := btr b1 (btr b2 b3)
    have A1 := A0.on bb
    have B0 := btr b0 bb
    clear A0 b0 b1 b2 b3 bb F N0 NT
    go_wp2_with fail
    refine (AT.out _ B0).mono ?_
    rintro r u4 ⟨rfl, b4⟩
    have B1 := btr B0 b4
    have q0 := (A1.on b4).cell 0 _ rfl
    have q1 := (A1.on b4).cell 1 _ rfl
    have q2 := (A1.on b4).cell 2 _ rfl
    have q3 := (A1.on b4).cell 3 _ rfl
    have q4 := (A1.on b4).cell 4 _ rfl
    have q5 := (A1.on b4).cell 5 _ rfl
    have z0 := (A1.on b4).free 0 _ rfl
    have z1 := (A1.on b4).free 1 _ rfl
    have z2 := (A1.on b4).free 2 _ rfl
    have z3 := (A1.on b4).free 3 _ rfl
    have z4 := (A1.on b4).free 4 _ rfl
    have z5 := (A1.on b4).free 5 _ rfl
    clear A1 B0 b4 AT
    go_wp2_with fail
    refine bodyPost_ret (v := R6 4 ⟨{ data := #[] }, 0, 0, 0, 0⟩) (by simp [results, Tryz.results12, go_sem, q0, q1, q2, q3, q4, q5]) rfl ⟨rfl, ?_⟩
    exact (by (iterate 6 (refine bset ?_ (by dsimp only; omega) _)); exact B1)
  · have hkl : k < len := by rw [← hL.out]; exact hk
    obtain ⟨b, off, ha, -⟩ := HR.out.at' hkl
    subst ha
    have hk0 : ¬ (0 : Int) + k < 0 := by omega
    have hk1 : ¬ (k : Int) < 0 := by omega
    go_enter Tryz.func12, Tryz.ntmps12
    go_wp2_with fail
    generalize w.alloc (.cells #[.int .i64 0, .string { data := #[] }, .int .i64 0, .int .i64 0, .int .i64 0, .int .i64 0] 35) = W0 at *
    refine F.mono ?_
    rintro r u1 ⟨rfl, b1⟩
    go_wp2_with fail
    refine (N0 _).mono ?_
    rintro r u2 ⟨rfl, b2⟩
    go_wp2_with fail
    refine (NT _).mono ?_
    rintro r u3 ⟨rfl, b3⟩
    have bb := btr b1 (btr b2 b3)
    have A1 := A0.on bb
    have B0 := btr b0 bb
    clear A0 b0 b1 b2 b3 bb F N0 NT
    go_wp2_with fail
    refine (AT.out _ B0).mono ?_
    rintro r u4 ⟨rfl, b4⟩
    have B1 := btr B0 b4
    have q0 := (A1.on b4).cell 0 _ rfl
    have q1 := (A1.on b4).cell 1 _ rfl
    have q2 := (A1.on b4).cell 2 _ rfl
    have q3 := (A1.on b4).cell 3 _ rfl
    have q4 := (A1.on b4).cell 4 _ rfl
    have q5 := (A1.on b4).cell 5 _ rfl
    have z0 := (A1.on b4).free 0 _ rfl
    have z1 := (A1.on b4).free 1 _ rfl
    have z2 := (A1.on b4).free 2 _ rfl
    have z3 := (A1.on b4).free 3 _ rfl
    have z4 := (A1.on b4).free 4 _ rfl
    have z5 := (A1.on b4).free 5 _ rfl
    clear A1 B0 b4 AT
    obtain ⟨b', off', ha', hbB', c0, c1, c2, c3, c4⟩ := (HR.out.below (B1.mono hB)).at' hkl
    injection ha' with ha'
    injection ha' with e1 e2
    subst e1
    subst e2
    generalize hp : ps[k]?.getD pin0 = p at *
    go_wp2_with fail
    refine bodyPost_ret (v := R6 0 p) (by simp [results, Tryz.results12, go_sem, q0, q1, q2, q3, q4, q5]) rfl ⟨by rw [hp]; rfl, ?_⟩
    exact (by (iterate 6 (refine bset ?_ (by dsimp only; omega) _)); exact B1)
end Go.Proofs.YtcnpocppgghejaaGreatDoor
namespace Go.Proofs.YtcnpocppgghejaaGreatDoor
open Go.RowKit Go.Maps Go.Sort
set_option maxRecDepth 100000
set_option linter.unusedVariables false

/-- The pins that have been told: those that are no longer to come. -/
def CollP (ps : List PinD) (left : Lit → Bool) (xs : List PinD) : Prop := xs.Nodup ∧ ∀ x, x ∈ xs ↔ (x ∈ ps ∧ left (.string x.nm) = false)
theorem CollP.start {D : DataW PinD} {ps : List PinD} (hm : MapIs D ps) (ha : Apart ps) : CollP ps (Maps.has D) [] := by
  refine ⟨List.nodup_nil, fun x => ⟨fun h => absurd h (by simp), fun ⟨h1, h2⟩ => ?_⟩⟩
  rw [hm.has] at h2
  cases hf : findP ps x.nm with
  | none => exact absurd rfl (findP_none hf x h1)
  | some q => rw [hf] at h2; cases h2
theorem CollP.step {ps : List PinD} {left : Lit → Bool} {xs : List PinD} {c : PinD} {l : List UInt8} (h : CollP ps left xs) (ha : Apart ps) (hlk : left (.string l) = true) (hf : findP ps l = some c) : CollP ps (fun z => left z && !z.sameKey (.string l)) (xs ++ [c]) := by
  obtain ⟨hc, hl⟩ := findP_mem hf
  have hnew : c ∉ xs := fun hx => by
    have := ((h.2 c).1 hx).2
    rw [hl, hlk] at this
    cases this
  refine ⟨List.nodup_append.2 ⟨h.1, by simp, fun a ha' b hb => by simp at hb; subst hb; exact fun e => hnew (e ▸ ha')⟩, fun x => ?_⟩
  rw [List.mem_append, h.2 x]
  constructor
  · rintro (⟨h1, h2⟩ | hx)
    · exact ⟨h1, by simp [h2]⟩
    · simp at hx
      subst hx
      exact ⟨hc, by simp [hl, same_str]⟩
  · rintro ⟨h1, h2⟩
    by_cases e : x.nm = l
    · refine .inr ?_
      rw [apart_inj ha h1 hc (e.trans hl.symm)]
      simp
    · refine .inl ⟨h1, ?_⟩
      simpa [same_str, e] using h2
theorem Apart.nodup {ps : List PinD} (h : Apart ps) : ps.Nodup := h.imp fun h e => h (by rw [e])
theorem CollP.done {ps : List PinD} {left : Lit → Bool} {xs : List PinD} (h : CollP ps left xs) (ha : Apart ps) (hl : ∀ k, left k = false) : xs.Perm ps :=
  (List.perm_ext_iff_of_nodup h.1 ha.nodup).2 fun x => by rw [h.2 x, hl]; simp

set_option maxHeartbeats 2000000 in
theorem values_stops (m : Nat) (hm1 : 1 ≤ m) (Bm b : Nat) (ps : List PinD) (w : World) (hBm : Bm < w.heap.size) (cm : w.cell? ⟨Bm, 0, none⟩ = some (.map (some b))) (hM : PMap w b ps) :
    SeqStopsK Fence.wide m Tryz.prog 75 #[.pointer (some ⟨Bm, 0, none⟩)] (fun p : PinD => #[P5 p]) KeepsWalks (fun xs => xs.Perm ps) (fun _ => True) ps.length w := fun l J Jx W hW hJ hJx hY h0 => by
  have ap := hM.apart
  obtain ⟨D, ho, hm⟩ := (hM.on hW).own
  have cm1 := cell_keep hW cm
  have hz := hm.size
  have HJ := Lib.hid hJ
  have HY := Lib.hid hY
  clear hJ hJx hY hM cm
  refine callsIn_of_wp Tryz.func75 rfl trivial ?_ rfl
  simp only [Tryz.ntmps75, List.size_toArray, List.length_cons, List.length_nil, Nat.reduceAdd, Nat.reduceSub, Array.replicate_succ, Array.replicate_zero, List.push_toArray, List.append_toArray, List.nil_append, List.cons_append]
  gi_wp2_with (first
    | (gi_at_range; refine wpListIn_range_own _ rfl _ 53 rfl 9 26 str_law Tryz.underlying53 _ b ps.length _ rfl ho ?_; intro w0 hrg0 hg0 hs0)
    | gi_in)
  gi_loopw [4] (fun _ wr => ∃ (left : Lit → Bool) (cnt : Nat) (xs : List PinD), wr.ranges Tryz.prog 9 pinR b W.heap.size ps.length D left cnt ∧ xs.length + cnt ≤ ps.length ∧ CollP ps left xs ∧ J xs wr) (fun _ wr => wr.rangeLeft b W.heap.size)
  case atStart =>
    exact ⟨_, _, [], hrg0, by simp [hz], CollP.start hm ap, HJ.out [] W w0 none h0 hg0 (fun r e => by cases e)⟩
  case round =>
    obtain ⟨left, cnt, xs, hrg, hcs, hC, hJs⟩ := hrel
    gi_wp2_with (first
      | (gi_at_next; refine wpListIn_next_ranges _ rfl _ rfl 9 str_law pinR encStr (fun p : PinD => P5 p) (fun key kl hk => by obtain ⟨x, hx, _⟩ := Maps.keyOf_str Tryz.underlying9 hk; exact ⟨x, hx⟩) (fun v y hv => by obtain ⟨c, rfl, _⟩ := pinR_inv hv; exact ⟨c, rfl⟩) b W.heap.size ps.length _ _ _ rfl hrg ?_ ?_)
      | gi_in)
    · intro hc0 hl0
      gi_wp2
      go_end0
      exact ⟨⟨_, rfl⟩, .inl ⟨xs, hC.done ap hl0, hJs⟩⟩
    · intro x c kl yd yp w2 cnt2 hkey hlk hv hat hrg2 hlt hg2 hs2 hen
      obtain ⟨x', ex, rfl, _⟩ := Maps.keyOf_str Tryz.underlying9 hkey
      obtain rfl : x = x' := encStr_inj ex
      have hyd : yd = .held c := by
        rw [pinR_mk] at hv
        injection hv with hv
        injection hv with h1 _
        exact h1.symm
      have hf : findP ps x = some c := by
        have h1 := Maps.has_true_of_atKey hat
        have h2 := hat (.held pin0)
        rw [hm.at' ap, hyd] at h2
        rw [hm.has] at h1
        cases h3 : findP ps x with
        | none => rw [h3] at h1; cases h1
        | some q =>
          rw [h3] at h2
          injection h2 with h2
          exact congrArg some h2
      have hJ2 := HJ.out _ wr w2 (some W.heap.size) hJs hg2 (fun r e => by cases e; exact ⟨Nat.le_refl _, hrg.iter_walk⟩)
      have hJ3 := HJ.out _ w2 (w2.alloc (.cells #[.string c.n, .int .i64 c.a, .int .i64 c.b, .int .i64 c.e, .int .i64 c.u] 26)) none hJ2 (World.grownBy_alloc w2 _ none) (fun r e => by cases e)
      obtain ⟨fn, tmps, assign, body, hy, hR⟩ := HY.out xs c _ hJ3 (by omega)
      have hrg3 := hrg2.alloc (.cells #[.string c.n, .int .i64 c.a, .int .i64 c.b, .int .i64 c.e, .int .i64 c.u] 26)
      have hC2 := Lib.hid (hC.step ap hlk hf)
      have HR3 := Lib.hid hrg3
      have HLT := Lib.hid hlt
      have HRG := Lib.hid hrg
      clear hs2 hat hv hkey hJ2 hJ3 hrg2 hrg3 hg2 hC hJs hlt hf hyd
      gi_wp2
      refine hR.mono ?_
      rintro e W3 (⟨rfl, hJ4, hk4⟩ | ⟨rfl, hJx4⟩)
      · have hrg4 := HR3.out.of_walks hk4
        gi_wp2
        go_roundw
        case rel => exact ⟨_, cnt2, xs ++ [c], hrg4, by have := HLT.out; simp; omega, hC2.out, hJ4⟩
        case measure => rw [hrg4.left_eq, HRG.out.left_eq]; exact HLT.out
      · gi_wp2
        refine bodyPost_ret (results_none rfl _ _ _) rfl ?_
        exact ⟨⟨_, rfl⟩, .inr ⟨_, trivial, hJx4⟩⟩
end Go.Proofs.YtcnpocppgghejaaGreatDoor
namespace Go.Proofs.YtcnpocppgghejaaGreatDoor
open Go.RowKit
set_option maxRecDepth 100000
set_option linter.unusedVariables false

/-- How much of a bound pins leave. -/
def szL : List PinD → Int → Int
  | [], l => l
  | p :: r, l => if l < p.n.size then -1 else szL r (l - p.n.size)
def szP (ps : List PinD) (l : Int) : Int := if l < ps.length then -1 else szL ps (l - ps.length)
theorem szL_le : ∀ (ps : List PinD) (l : Int), 0 ≤ l → szL ps l ≤ l ∧ -1 ≤ szL ps l
  | [], l, h => ⟨Int.le_refl _, by unfold szL; omega⟩
  | p :: r, l, h => by
    unfold szL
    split
    · omega
    · have := szL_le r (l - p.n.size) (by omega)
      omega
theorem szL_mem : ∀ (ps : List PinD) (l : Int), 0 ≤ szL ps l → ∀ p ∈ ps, (p.n.size : Int) ≤ l
  | [], l, _, _, hp => by cases hp
  | q :: r, l, h, p, hp => by
    unfold szL at h
    split at h
    · omega
    · rcases List.mem_cons.1 hp with rfl | hp
      · omega
      · have := szL_mem r _ h p hp
        omega
theorem szP_ok {ps : List PinD} {l : Int} (h : 0 ≤ szP ps l) : (ps.length : Int) ≤ l ∧ (∀ p ∈ ps, (p.n.size : Int) ≤ l) ∧ szP ps l ≤ l := by
  unfold szP at h ⊢
  split at h
  · omega
  · rw [if_neg ‹_›]
    refine ⟨by omega, fun p hp => ?_, ?_⟩
    · have := szL_mem _ _ h p hp
      omega
    · have := (szL_le ps (l - ps.length) (by omega)).1
      omega
theorem szL_step {ps : List PinD} {k : Nat} (hk : k < ps.length) (l : Int) : szL (ps.drop k) l = if l < (ps[k]?.getD pin0).n.size then -1 else szL (ps.drop (k + 1)) (l - (ps[k]?.getD pin0).n.size) := by
  have e : ps.drop k = (ps[k]?.getD pin0) :: ps.drop (k + 1) := by
    rw [List.drop_eq_getElem_cons hk, List.getElem?_eq_getElem hk]
    rfl
  rw [e]
  rfl
def SzRel (w : World) (ps : List PinD) (t : Int) (k : Nat) (l : Int) (wr : World) : Prop := 0 ≤ l ∧ l ≤ 1048576 ∧ szL (ps.drop k) l = t ∧ Below w.heap.size w wr
/-- The pins that have been laid so far into a new block. -/
structure FillP (w : World) (n : Nat) (ps : List PinD) (k : Nat) (wr : World) : Prop where
  told : ∀ j, j < k → ∀ i v, (ps[j]?.getD pin0).vals[i]? = some v → wr.cell? ⟨w.heap.size, j * 5 + i, none⟩ = some v
  room : ∀ j, j < n * 5 → (∃ u, wr.cell? ⟨w.heap.size, j, none⟩ = some u) ∧ wr.frozen? ⟨w.heap.size, j, none⟩ = false
  lt : w.heap.size < wr.heap.size
  bel : Below w.heap.size w wr
theorem FillP.new (w : World) (n : Nat) (ps : List PinD) (cs : Array Value) (t : TypeId) (hs : cs.size = n * 5) : FillP w n ps 0 (w.alloc (.cells cs t)) := by
  have e1 : (w.alloc (.cells cs t)).heap[w.heap.size]? = some (.cells cs t) := (MapKept.heap_alloc w _).1
  refine ⟨fun j hj => absurd hj (by omega), fun j hj => ?_, by simp, bal (Below.refl _ _) _⟩
  unfold World.cell? World.frozen?
  rw [e1]
  exact ⟨⟨cs[j], by simp [show j < cs.size by omega]⟩, by simp⟩
theorem FillP.on {w wr wr' : World} {n : Nat} {ps : List PinD} {k : Nat} (h : FillP w n ps k wr) (hb : Below wr.heap.size wr wr') : FillP w n ps k wr' := by
  have e := hb.block w.heap.size h.lt
  refine ⟨fun j hj i v hv => cell_keep hb (h.told j hj i v hv), fun j hj => ?_, Nat.lt_of_lt_of_le h.lt hb.size, btr h.bel hb⟩
  rw [World.cell?_of_block (w := wr) (a := ⟨w.heap.size, j, none⟩) e, World.frozen?_of_block (w := wr) (a := ⟨w.heap.size, j, none⟩) e]
  exact h.room j hj
theorem FillP.one {w wr : World} {n : Nat} {ps : List PinD} {k : Nat} (h : FillP w n ps k wr) {j : Nat} (hj : k * 5 ≤ j) (v : Value) : FillP w n ps k (wr.setCell ⟨w.heap.size, j, none⟩ v) := by
  refine ⟨fun i hi c u hu => ?_, fun i hi => ?_, by simpa [World.setCell] using h.lt, bset h.bel (Nat.le_refl _) v⟩
  · have hc : c < 5 := by have := (List.getElem?_eq_some_iff.1 hu).1; simpa [PinD.vals_length] using this
    rw [World.cell?_setCell_other _ _ _ _ (fun e => by injection e with _ e2; omega)]
    exact h.told i hi c u hu
  · obtain ⟨⟨u, hu⟩, hf⟩ := h.room i hi
    exact ⟨cell?_setCell_some (w := wr) (p := ⟨w.heap.size, j, none⟩) (x := v) (q := ⟨w.heap.size, i, none⟩) (v := u) hu, by rw [World.frozen?_setCell]; exact hf⟩
theorem set5_cell {w : World} {g k : Nat} {p : PinD} (hs : ∀ i, i < 5 → ∃ u, w.cell? ⟨g, k * 5 + i, none⟩ = some u) (i : Nat) (v : Value) (hv : p.vals[i]? = some v) :
    (((((w.setCell ⟨g, k * 5, none⟩ (.string p.n)).setCell ⟨g, k * 5 + 1, none⟩ (.int .i64 p.a)).setCell ⟨g, k * 5 + 2, none⟩ (.int .i64 p.b)).setCell ⟨g, k * 5 + 3, none⟩ (.int .i64 p.e)).setCell ⟨g, k * 5 + 4, none⟩ (.int .i64 p.u)).cell? ⟨g, k * 5 + i, none⟩ = some v := by
  have hi : i < 5 := by have := (List.getElem?_eq_some_iff.1 hv).1; simpa [PinD.vals_length] using this
  have ne : ∀ {a b : Nat}, a ≠ b → (⟨g, k * 5 + a, none⟩ : Addr) ≠ ⟨g, k * 5 + b, none⟩ := fun h e => by injection e with _ e2; omega
  have ne0 : ∀ {b : Nat}, b ≠ 0 → (⟨g, k * 5 + b, none⟩ : Addr) ≠ ⟨g, k * 5, none⟩ := fun h e => by injection e with _ e2; omega
  have st : ∀ (w : World) (q : Addr) (x : Value), (∀ i, i < 5 → ∃ u, w.cell? ⟨g, k * 5 + i, none⟩ = some u) → ∀ i, i < 5 → ∃ u, (w.setCell q x).cell? ⟨g, k * 5 + i, none⟩ = some u := fun w q x h i hi => by
    obtain ⟨u, hu⟩ := h i hi
    exact cell?_setCell_some (w := w) (p := q) (x := x) (q := ⟨g, k * 5 + i, none⟩) (v := u) hu
  have s1 := st _ ⟨g, k * 5, none⟩ (.string p.n) hs
  have s2 := st _ ⟨g, k * 5 + 1, none⟩ (.int .i64 p.a) s1
  have s3 := st _ ⟨g, k * 5 + 2, none⟩ (.int .i64 p.b) s2
  have s4 := st _ ⟨g, k * 5 + 3, none⟩ (.int .i64 p.e) s3
  match i, hi with
  | 0, _ =>
    obtain ⟨u, hu⟩ := hs 0 (by omega)
    rw [World.cell?_setCell_other _ _ _ _ (by intro e; injection e with _ e2; omega), World.cell?_setCell_other _ _ _ _ (by intro e; injection e with _ e2; omega), World.cell?_setCell_other _ _ _ _ (by intro e; injection e with _ e2; omega), World.cell?_setCell_other _ _ _ _ (by intro e; injection e with _ e2; omega)]
    rw [show k * 5 + 0 = k * 5 from rfl] at hu ⊢
    rw [World.cell?_setCell_same _ _ _ (by rw [hu])]
    exact hv
  | 1, _ =>
    obtain ⟨u, hu⟩ := s1 1 (by omega)
    rw [World.cell?_setCell_other _ _ _ _ (by intro e; injection e with _ e2; omega), World.cell?_setCell_other _ _ _ _ (by intro e; injection e with _ e2; omega), World.cell?_setCell_other _ _ _ _ (by intro e; injection e with _ e2; omega), World.cell?_setCell_same _ _ _ (by rw [hu])]
    exact hv
  | 2, _ =>
    obtain ⟨u, hu⟩ := s2 2 (by omega)
    rw [World.cell?_setCell_other _ _ _ _ (by intro e; injection e with _ e2; omega), World.cell?_setCell_other _ _ _ _ (by intro e; injection e with _ e2; omega), World.cell?_setCell_same _ _ _ (by rw [hu])]
    exact hv
  | 3, _ =>
    obtain ⟨u, hu⟩ := s3 3 (by omega)
    rw [World.cell?_setCell_other _ _ _ _ (by intro e; injection e with _ e2; omega), World.cell?_setCell_same _ _ _ (by rw [hu])]
    exact hv
  | 4, _ =>
    obtain ⟨u, hu⟩ := s4 4 (by omega)
    rw [World.cell?_setCell_same _ _ _ (by rw [hu])]
    exact hv
theorem FillP.step {w wr : World} {n : Nat} {ps : List PinD} {k : Nat} (h : FillP w n ps k wr) (hk : k < n) {p : PinD} (hp : ps[k]?.getD pin0 = p) :
    FillP w n ps (k + 1) (((((wr.setCell ⟨w.heap.size, k * 5, none⟩ (.string p.n)).setCell ⟨w.heap.size, k * 5 + 1, none⟩ (.int .i64 p.a)).setCell ⟨w.heap.size, k * 5 + 2, none⟩ (.int .i64 p.b)).setCell ⟨w.heap.size, k * 5 + 3, none⟩ (.int .i64 p.e)).setCell ⟨w.heap.size, k * 5 + 4, none⟩ (.int .i64 p.u)) := by
  have hall := ((((h.one (j := k * 5) (by omega) (.string p.n)).one (j := k * 5 + 1) (by omega) (.int .i64 p.a)).one (j := k * 5 + 2) (by omega) (.int .i64 p.b)).one (j := k * 5 + 3) (by omega) (.int .i64 p.e)).one (j := k * 5 + 4) (by omega) (.int .i64 p.u)
  refine ⟨fun j hj i v hv => ?_, hall.room, hall.lt, hall.bel⟩
  by_cases e : j = k
  · subst e
    rw [hp] at hv
    exact set5_cell (fun i hi => (h.room (j * 5 + i) (by omega)).1) i v hv
  · exact hall.told j (by omega) i v hv
theorem FillP.own {w wr : World} {n : Nat} {ps : List PinD} (h : FillP w n ps n wr) (hl : ps.length = n) (hm : n ≤ maxLen) : OwnP wr w.heap.size (.slice (some ⟨w.heap.size, 0, none⟩) n n) ps := by
  subst hl
  refine ⟨flat_length ps, .inr ⟨w.heap.size, _, rfl, Nat.le_refl _, h.lt, Nat.le_refl _, hm, fun j u hu => ?_, fun j hj => ?_⟩⟩
  · have hj := (List.getElem?_eq_some_iff.1 hu).1
    rw [flat_length] at hj
    have hjk : j / 5 < ps.length := by omega
    have hjj : j / 5 * 5 + j % 5 = j := by omega
    have h5 : j % 5 < 5 := Nat.mod_lt _ (by omega)
    have hv : (ps[j / 5]?.getD pin0).vals[j % 5]? = some ((ps[j / 5]?.getD pin0).vals[j % 5]'(by rw [PinD.vals_length]; exact h5)) := List.getElem?_eq_getElem _
    have q1 := flat_get ps (j / 5) (j % 5) _ hjk hv
    have q2 := h.told (j / 5) hjk (j % 5) _ hv
    rw [hjj] at q1 q2
    rw [hu] at q1
    injection q1 with q1
    rw [q1]
    exact q2
  · obtain ⟨⟨u, hu⟩, hf⟩ := h.room j hj
    exact ⟨by rw [hu]; rfl, hf⟩

/-- A slice of pins was copied. -/
def CopiedP (n : Nat) (ps : List PinD) (w : World) (r : Ending) (w' : World) : Prop :=
  r = .returned (.slice (some ⟨w.heap.size, 0, none⟩) n n) ∧ OwnP w' w.heap.size (.slice (some ⟨w.heap.size, 0, none⟩) n n) ps ∧ Below w.heap.size w w'
theorem pin_info : (Tryz.prog.info? 26).map (fun i => (i.zero, i.size, i.bytes)) = some (some (P5 pin0), 5, 48) := by kernel_rfl
end Go.Proofs.YtcnpocppgghejaaGreatDoor
namespace Go.Proofs.YtcnpocppgghejaaGreatDoor
open Go.RowKit Go.Maps Go.Sort
set_option maxRecDepth 100000
set_option linter.unusedVariables false
attribute [local go_sem] Oper.semAt_some

theorem wpListIn_append_src {F : Fence} {nn : Nat} {P : Program} (w : World) {ops : Array Oper} {rest : List Oper} {o : Oper} {a : Act} {Q : Exit → Act → World → Prop} (hgd : o.guard = none) (s y : Operand) (t tx : TypeId)
    (ho : o.op = .call { callee := .builtin .append, args := #[s, y], argTypes := #[t, tx] })
    (B : Nat) (e : TypeId) (i : TypeInfo) (z : Value) (size bytes : Nat) (ht : P.underlying t = some (.slice e)) (hi : P.info? e = some i) (hz : i.zero = some z)
    (hsize : i.size = size) (hby : i.bytes = bytes) (hzs : z.cells.size = size)
    (v : Value) (n : Nat) (xs : List Value) (hsv : a.eval s = v) (hown : Own w B size v n xs)
    (x : Value) (m : Nat) (news : List Value) (hx : a.eval y = x) (hs : Go.Src P size tx x m news w)
    (h63 : n + m ≤ maxLen) (hbytes : (n + m) * bytes ≤ 140737488355328) (hB : B ≤ w.heap.size)
    (h : ∀ v' w', Own w' B size v' (n + m) (xs ++ news) → w.grownBy w' v.ownBlock → (v'.ownBlock = v.ownBlock ∨ v'.ownBlock = some w.heap.size) → wpListIn F nn P ops Q rest (a.put o.dst v') w') : wpListIn F nn P ops Q (o :: rest) a w := by
  refine wpListIn_plain hgd fun K hK' => ?_
  obtain ⟨v', w', hr, h2, h3, h4⟩ := run_append_src (P := P) w B t tx o.type e i z size bytes ht hi hz hsize hby hzs v n xs hown x m news hs h63 hbytes hB
  unfold Oper.wpIn
  refine ⟨?_, ?_⟩
  · simp [Oper.about, ho, resolve, Target.leads, Sem.run_pure]
  · rw [Oper.semAt_plain F _ _ (by rw [ho]; intro c hc'; cases hc')]
    simp [execOp, ho, resolve, invoke, builtin, hsv, hx, hr, Result.andThen]
    exact hK' _ _ (h v' w' h2 h3 h4)
theorem src_new5 {P : Program} (w : World) (p : PinD) (t tx e' : TypeId) (hk : P.underlying tx = some (.slice e')) :
    Go.Src P 5 tx (.slice (some ⟨w.heap.size, 0, none⟩) 1 1) 1 p.vals (w.alloc (.cells #[.string p.n, .int .i64 p.a, .int .i64 p.b, .int .i64 p.e, .int .i64 p.u] t)) := by
  refine Src.ofSlice _ hk _ _ _ _ rfl (fun j u hu => ?_) (pin_oneCell p)
  have A : At w.heap.size p.vals (w.alloc (.cells #[.string p.n, .int .i64 p.a, .int .i64 p.b, .int .i64 p.e, .int .i64 p.u] t)) := At.new w p.vals t
  rw [Addr.add_lit, Nat.zero_add]
  exact A.cell j u hu
theorem values_any (b : Nat) (w : World) : Calls Tryz.prog 58 #[.map (some b)] w fun e w' =>
    e = .returned (.func (.func 75) #[] #[.pointer (some ⟨w.heap.size, 0, none⟩)]) ∧ w' = w.alloc (.cells #[.map (some b)] 53) := by
  go_enter Tryz.func58, Tryz.ntmps58
  go_wp2_with fail
  go_ret
  exact ⟨rfl, rfl⟩
/-- Between two rounds: the box holds a slice of what has been told. -/
structure ApI (w : World) (bx : Nat) (pre : List PinD) (W : World) : Prop where
  box : ∃ v, At bx [v] W ∧ OwnP W w.heap.size v pre ∧ (pre = [] → v = .slice none 0 0) ∧ v.ownBlock ≠ some bx
  bel : Below w.heap.size w W
  lt : w.heap.size ≤ bx
theorem Own.isCells {w : World} {B size : Nat} {v : Value} {n : Nat} {xs : List Value} (h : Own w B size v n xs) (hn : 0 < n) (hs : 0 < size) : ∀ (j : Nat) (o : Obj), v.ownBlock = some j → w.heap[j]? = some o → o.isCells = true := by
  intro j o hj ho
  rcases h.2 with ⟨rfl, h0⟩ | ⟨g, cap, rfl, _, _, h1, _, _, hroom⟩
  · omega
  · simp [Value.ownBlock] at hj
    subst hj
    have : 0 < cap * size := Nat.mul_pos (by omega) hs
    have hc := (hroom 0 this).1
    unfold World.cell? at hc
    rw [ho] at hc
    cases o <;> simp_all [Obj.isCells]
theorem ApI.from {w : World} {bx B : Nat} (hB : bx < B) : OwnFrom B (ApI w bx) := fun s W W' row hs hgr hr => by
  obtain ⟨v, hA, hO, hn, hv⟩ := hs.box
  have hne : ∀ k, row = some k → k ≠ bx := fun k e h => by have := (hr k e).1; omega
  refine ⟨⟨v, hA.keep (fun hl => hgr.block bx hl (fun e => hne bx e.symm rfl)), ?_, hn, hv⟩, ?_, hs.lt⟩
  · refine Own.keep hO hgr.size (fun k hk => hgr.block k (Own.lt hO k hk).2 (fun e => ?_))
    obtain ⟨hB', o, ho, hc⟩ := hr k e.symm
    cases s with
    | nil => rw [hn rfl] at hk; simp [Value.ownBlock] at hk
    | cons p r =>
      have := Own.isCells hO (by simp) (by omega) k o hk ho
      rw [hc] at this
      cases this
  · exact hs.bel.grown hgr hs.bel.size (fun k e => by have := (hr k e).1; have := hs.lt; omega)

theorem At.isCells {g : Nat} {v : Value} {cs : List Value} {w : World} (h : At g (v :: cs) w) {o : Obj} (ho : w.heap[g]? = some o) : o.isCells = true := by
  have hc := h.cell 0 v rfl
  unfold World.cell? at hc
  rw [ho] at hc
  cases o <;> simp_all [Obj.isCells]
/-- The round's own variable lies in a new block. -/
def BoxA (mk : Nat → Act) (bx : Nat) (x : PinD) (a' : Act) (W : World) : Prop := ∃ g, a' = mk g ∧ At g x.vals W
theorem BoxA.from {mk : Nat → Act} {bx B : Nat} (x : PinD) (a' : Act) : OwnFrom B (fun (_ : Unit) W => BoxA mk bx x a' W) := fun _ W W' row hs hgr hr => by
  obtain ⟨g, rfl, hA⟩ := hs
  refine ⟨g, rfl, hA.keep (fun hl => hgr.block g hl (fun e => ?_))⟩
  obtain ⟨_, o, ho, hc⟩ := hr g e.symm
  have := At.isCells (cs := [.int .i64 x.a, .int .i64 x.b, .int .i64 x.e, .int .i64 x.u]) hA ho
  rw [hc] at this
  cases this
/-- What an append and a store into the box make of it. -/
theorem ApI.step {w W w3 : World} {bx : Nat} {pre : List PinD} {x : PinD} {v v3 : Value} {o : Obj} (h : ApI w bx pre W) (hA : At bx [v] W) (hO : OwnP W w.heap.size v pre) (hn : pre = [] → v = .slice none 0 0) (hv : v.ownBlock ≠ some bx)
    (hown : Own w3 w.heap.size 5 v3 (pre.length + 1) (flat pre ++ x.vals)) (hgrow : (W.alloc o).grownBy w3 v.ownBlock) (hat : v3.ownBlock = v.ownBlock ∨ v3.ownBlock = some (W.alloc o).heap.size) :
    ApI w bx (pre ++ [x]) (w3.setCell ⟨bx, 0, none⟩ v3) ∧ KeepsOthers W (w3.setCell ⟨bx, 0, none⟩ v3) := by
  have hlt := hA.lt (by simp)
  have hv3 : v3.ownBlock ≠ some bx := by
    rcases hat with e | e
    · rw [e]; exact hv
    · rw [e]; intro e2; injection e2 with e2; simp at e2; omega
  have hO2 : OwnP w3 w.heap.size v3 (pre ++ [x]) := by
    unfold OwnP
    rw [flat_append, List.length_append]
    simpa [flat] using hown
  have hb3 : Below w.heap.size w w3 := (bal h.bel o).grown hgrow (bal h.bel o).size (fun k e => (Own.lt hO k e).1)
  have hA3 : At bx [v] w3 := (hA.alloc o).kept hgrow (fun e => hv e.symm)
  refine ⟨⟨⟨v3, ?_, ?_, fun e => by simp at e, hv3⟩, bset hb3 h.lt v3, h.lt⟩, ?_⟩
  · have := hA3.set 0 v3
    simpa using this
  · exact Own.setCell hO2 (fun k hk e => hv3 (by rw [hk]; exact congrArg some e)) v3
  · refine ((KeepsOthers.alloc W o).trans (KeepsOthers.of_grownBy hgrow ?_)).trans (KeepsOthers.setCell _ _ _)
    intro j o' hj ho'
    cases pre with
    | nil => rw [hn rfl] at hj; simp [Value.ownBlock] at hj
    | cons p r => exact Own.isCells (OwnP.alloc hO o) (by simp) (by omega) j o' hj ho'

set_option maxHeartbeats 4000000 in
theorem appendSeq_any (b Bm : Nat) (ps : List PinD) (w : World) (hBm : Bm < w.heap.size) (cm : w.cell? ⟨Bm, 0, none⟩ = some (.map (some b))) (hM : PMap w b ps) (hl : ps.length ≤ 1000) :
    Calls Tryz.prog 89 #[.slice none 0 0, .func (.func 75) #[] #[.pointer (some ⟨Bm, 0, none⟩)]] w fun e w' =>
      ∃ v xs, e = .returned v ∧ xs.Perm ps ∧ OwnP w' w.heap.size v xs ∧ Below w.heap.size w w' := by
  obtain ⟨i0, hi0, hz0, hz1, hz2⟩ := info_parts pin_info
  refine (callsIn_wide (n := 5)).1 ?_
  refine callsIn_of_wp_marks Tryz.func89 rfl trivial ?_ rfl
  simp only [Tryz.ntmps89, List.size_toArray, List.length_cons, List.length_nil, Nat.reduceAdd, Nat.reduceSub, Array.replicate_succ, Array.replicate_zero, List.push_toArray, List.append_toArray, List.nil_append, List.cons_append]
  refine wpIn_wide.2 ?_
  go_wp2_with fail
  have b0 := bal (Below.refl _ w) (.cells #[.slice none 0 0] 24)
  have X0 := At.new w [.slice none 0 0] 24
  have I0 : ApI w w.heap.size [] (w.alloc (.cells #[.slice none 0 0] 24)) := ⟨⟨_, X0, OwnP.nil _ _, fun _ => rfl, by simp [Value.ownBlock]⟩, b0, Nat.le_refl _⟩
  have hB0 : Bm < (w.alloc (.cells #[.slice none 0 0] 24)).heap.size := by simp; omega
  have hsz0 : (w.alloc (.cells #[.slice none 0 0] 24)).heap.size = w.heap.size + 1 := by simp
  have hS := values_stops (5 - 1) (by omega) Bm b ps w hBm cm hM
  clear X0
  generalize w.alloc (.cells #[.slice none 0 0] 24) = w1 at *
  refine (wpIn_wide (n := 5)).1 ?_
  refine wpIn_rangeFunc_ownH rfl (by omega) (gf := 75) (lb := #[.pointer (some ⟨Bm, 0, none⟩)]) rfl trivial (enters_of Tryz.func75 (by kernel_rfl) rfl)
    hS (fun h k => h.trans k) (walksK_b (w := w1)) b0 (fun _ => rfl)
    (ApI w w.heap.size) (fun _ _ _ => False) (ApI.from (by omega)) (fun _ _ _ _ _ hs _ _ => hs) I0
    (fun x a' W => ∃ g, a' = { tmps := #[.slice none 0 0, .func (.func 75) #[] #[.pointer (some ⟨Bm, 0, none⟩)], .pointer (some ⟨w.heap.size, 0, none⟩), undef, .slice none 0 0, .pointer (some ⟨g, 0, none⟩), .func (.func 75) #[] #[.pointer (some ⟨Bm, 0, none⟩)], P5 x, undef, undef, undef, undef, undef], defers := [] } ∧ At g x.vals W)
    (fun x a' => BoxA.from (mk := fun g => { tmps := #[.slice none 0 0, .func (.func 75) #[] #[.pointer (some ⟨Bm, 0, none⟩)], .pointer (some ⟨w.heap.size, 0, none⟩), undef, .slice none 0 0, .pointer (some ⟨g, 0, none⟩), .func (.func 75) #[] #[.pointer (some ⟨Bm, 0, none⟩)], P5 x, undef, undef, undef, undef, undef], defers := [] }) (bx := 0) x a') ?assign ?body ?done ?stop
  case assign =>
    intro l pre x W K hI hK
    gi_wp2
    exact hK _ _ ((KeepsOthers.alloc W _).from _) (KeepsWalks.alloc W _) (OwnFrom.alloc (ApI.from (B := w.heap.size + 1) (by omega)) _ hI) ⟨W.heap.size, rfl, At.new W x.vals 26⟩
  case body =>
    rintro l pre x a' W - - hI ⟨g, rfl, hAg⟩ hlen
    obtain ⟨v, hAx, hO, hn, hv⟩ := hI.box
    obtain ⟨a0, c0, rfl, -⟩ := hO.form
    have hsrc := src_new5 (P := Tryz.prog) W x 26 24 26 Tryz.underlying24
    have x0 := hAx.cell 0 _ rfl
    have hbs := hI.bel.size
    have S3 := Lib.hid (fun (w3 : World) (v3 : Value) => hI.step (w3 := w3) (v3 := v3) (x := x) (o := .cells #[.string x.n, .int .i64 x.a, .int .i64 x.b, .int .i64 x.e, .int .i64 x.u] 26) hAx hO hn hv)
    have A3' := Lib.hid (fun (w3 : World) (hgrow : (W.alloc (.cells #[.string x.n, .int .i64 x.a, .int .i64 x.b, .int .i64 x.e, .int .i64 x.u] 26)).grownBy w3 (Value.slice a0 pre.length c0).ownBlock) => (hAx.alloc (.cells #[.string x.n, .int .i64 x.a, .int .i64 x.b, .int .i64 x.e, .int .i64 x.u] 26)).kept hgrow (fun e => hv e.symm))
    have HO := Lib.hid hO
    have y0 := hAg.cell 0 _ rfl
    have y1 := hAg.cell 1 _ rfl
    have y2 := hAg.cell 2 _ rfl
    have y3 := hAg.cell 3 _ rfl
    have y4 := hAg.cell 4 _ rfl
    clear hO hn hI hAg hAx hS hM cm
    gi_wp2_with (first
      | (gi_at_builtin; refine wpListIn_append_src _ rfl (.tmp 8) (.tmp 10) 24 24 rfl w.heap.size 26 i0 (P5 pin0) 5 48 Tryz.underlying24 hi0 hz0 hz1 hz2 rfl _ _ _ rfl (Own.alloc HO.out _) _ 1 x.vals rfl hsrc (by simp only [maxLen]; omega) (by omega) (by simp; omega) ?_; intro v3 w3 hown hgrow hat
         have st := S3.out w3 v3 hown hgrow hat
         have A3 := A3'.out w3 hgrow
         have z0 := A3.cell 0 _ rfl
         have f0 := A3.free 0 _ rfl
         obtain ⟨a3, c3, rfl, -⟩ := Own.form hown
         go_frame)
      | gi_in)
    exact ⟨st.2.from _, st.2.walks, st.1⟩
  case done =>
    rintro D xs W hD hxs hI hdef
    obtain ⟨v, hAx, hO, hn, hv⟩ := hI.box
    have hb := hI.bel
    obtain ⟨a0, c0, rfl, -⟩ := hO.form
    have x0 := hAx.cell 0 _ rfl
    have HO := Lib.hid hO
    have HB := Lib.hid hb
    have HX := Lib.hid hxs
    have HN := Lib.hid hn
    have hDD : w.heap.size ≤ D := by omega
    have HD := Lib.hid hDD
    clear hO hn hI hAx hS hM cm hb hxs
    gi_wp2
    go_wp2_with fail
    refine ⟨by simp, .inl ⟨_, _, rfl, run_takeDeferred hdef, ?_⟩⟩
    have hgr := grownBy_putObj' W D (.deferred none)
    refine ⟨_, results_tmp rfl _ _ _, ?_⟩
    refine ⟨_, xs, rfl, HX.out, ?_, HB.out.trans (belowK_b (w := w) (Nat.le_refl _) W D _ _ HD.out hdef rfl rfl)⟩
    refine Own.keep HO.out hgr.size (fun q hq => hgr.block q (Own.lt HO.out q hq).2 (fun e => ?_))
    injection e with e
    subst e
    cases xs with
    | nil => rw [HN.out rfl] at hq; simp [Value.ownBlock] at hq
    | cons p r =>
      have := Own.isCells HO.out (by simp) (by omega) q _ hq hdef
      cases this
  case stop =>
    rintro D c' pre W _ _ h _
    exact h.elim

theorem collect_any (b Bm : Nat) (ps : List PinD) (w : World) (hBm : Bm < w.heap.size) (cm : w.cell? ⟨Bm, 0, none⟩ = some (.map (some b))) (hM : PMap w b ps) (hl : ps.length ≤ 1000) :
    Calls Tryz.prog 73 #[.func (.func 75) #[] #[.pointer (some ⟨Bm, 0, none⟩)]] w fun e w' =>
      ∃ v xs, e = .returned v ∧ xs.Perm ps ∧ OwnP w' w.heap.size v xs ∧ Below w.heap.size w w' := by
  have S := appendSeq_any b Bm ps w hBm cm hM hl
  clear hM cm
  go_enter Tryz.func73, Tryz.ntmps73
  go_wp2_with fail
  refine S.mono ?_
  rintro r u1 ⟨v, xs, rfl, hp, hO, b1⟩
  have HO := Lib.hid hO
  obtain ⟨a0, c0, rfl, -⟩ := hO.form
  clear hO
  go_wp2_with fail
  go_ret
  exact ⟨_, xs, rfl, hp, HO.out, b1⟩
end Go.Proofs.YtcnpocppgghejaaGreatDoor
namespace Go.Proofs.YtcnpocppgghejaaGreatDoor
open Go.Shelf
def lays106_ren : Go.Shelf.Ren := ⟨fun | 106 => 60 | 213 => 76 | 265 => 92 | n => n, fun | 9 => 9 | 3 => 3 | n => n, fun | n => n⟩
theorem lays106 : Go.Proofs.Lays.n106 Tryz.prog lays106_ren := {
  mixed := by kernel_rfl
  f106 := Tryz.func60.trans (congrArg some (by kernel_rfl))
  f213 := Tryz.func76.trans (congrArg some (by kernel_rfl))
  f265 := Tryz.func92.trans (congrArg some (by kernel_rfl))
  t3 := Tryz.underlying3
  a3 := Tryz.isAgg3
  z3 := Tryz.sizeOf3
  v3 := Tryz.zeroValue3
  t9 := Tryz.underlying9
  a9 := Tryz.isAgg9
  z9 := Tryz.sizeOf9
  v9 := Tryz.zeroValue9 }
def lays125_ren : Go.Shelf.Ren := ⟨fun | 125 => 91 | 128 => 110 | 129 => 111 | n => n, fun | 46 => 89 | 3 => 3 | 51 => 136 | 53 => 138 | 4 => 4 | 5 => 5 | 9 => 9 | n => n, fun | n => n⟩
theorem lays125 : Go.Proofs.Lays.n125 Tryz.prog lays125_ren := {
  mixed := by kernel_rfl
  f125 := Tryz.func91.trans (congrArg some (by kernel_rfl))
  f128 := Tryz.func110.trans (congrArg some (by kernel_rfl))
  f129 := Tryz.func111.trans (congrArg some (by kernel_rfl))
  t3 := Tryz.underlying3
  a3 := Tryz.isAgg3
  z3 := Tryz.sizeOf3
  v3 := Tryz.zeroValue3
  t4 := Tryz.underlying4
  a4 := Tryz.isAgg4
  z4 := Tryz.sizeOf4
  v4 := Tryz.zeroValue4
  t5 := Tryz.underlying5
  a5 := Tryz.isAgg5
  z5 := Tryz.sizeOf5
  v5 := Tryz.zeroValue5
  t9 := Tryz.underlying9
  a9 := Tryz.isAgg9
  z9 := Tryz.sizeOf9
  v9 := Tryz.zeroValue9
  t46 := Tryz.underlying89
  a46 := Tryz.isAgg89
  z46 := Tryz.sizeOf89
  v46 := Tryz.zeroValue89
  t51 := Tryz.underlying136
  a51 := Tryz.isAgg136
  z51 := Tryz.sizeOf136
  v51 := Tryz.zeroValue136
  t53 := Tryz.underlying138
  a53 := Tryz.isAgg138
  z53 := Tryz.sizeOf138
  v53 := Tryz.zeroValue138 }
def laysSort_ren : Go.Shelf.Ren := ⟨fun | 6 => 74 | 15 => 91 | 14 => 90 | 28 => 110 | 29 => 111 | 20 => 102 | 21 => 103 | 22 => 104 | 23 => 105 | 24 => 106 | 25 => 107 | 26 => 108 | 27 => 109 | 46 => 117 | 47 => 118 | 48 => 119 | 49 => 120 | 50 => 121 | 57 => 125 | n => n, fun | 22 => 24 | 24 => 26 | 25 => 82 | 3 => 3 | 39 => 89 | 0 => 0 | 53 => 136 | 55 => 138 | 4 => 4 | 46 => 129 | 45 => 128 | 50 => 133 | 5 => 5 | 9 => 9 | 66 => 146 | 70 => 150 | 76 => 159 | 77 => 160 | n => n, fun | n => n⟩
theorem laysSort : Go.Proofs.SlLaysF0.n6 Tryz.prog laysSort_ren := {
  mixed := by kernel_rfl
  f6 := ⟨Tryz.f74.name, by decide, Tryz.func74.trans (congrArg some (by kernel_rfl))⟩
  f14 := ⟨Tryz.f90.name, by decide, Tryz.func90.trans (congrArg some (by kernel_rfl))⟩
  f15 := Tryz.func91.trans (congrArg some (by kernel_rfl))
  f20 := ⟨Tryz.f102.name, by decide, Tryz.func102.trans (congrArg some (by kernel_rfl))⟩
  f21 := ⟨Tryz.f103.name, by decide, Tryz.func103.trans (congrArg some (by kernel_rfl))⟩
  f22 := ⟨Tryz.f104.name, by decide, Tryz.func104.trans (congrArg some (by kernel_rfl))⟩
  f23 := ⟨Tryz.f105.name, by decide, Tryz.func105.trans (congrArg some (by kernel_rfl))⟩
  f24 := ⟨Tryz.f106.name, by decide, Tryz.func106.trans (congrArg some (by kernel_rfl))⟩
  f25 := ⟨Tryz.f107.name, by decide, Tryz.func107.trans (congrArg some (by kernel_rfl))⟩
  f26 := ⟨Tryz.f108.name, by decide, Tryz.func108.trans (congrArg some (by kernel_rfl))⟩
  f27 := ⟨Tryz.f109.name, by decide, Tryz.func109.trans (congrArg some (by kernel_rfl))⟩
  f28 := Tryz.func110.trans (congrArg some (by kernel_rfl))
  f29 := Tryz.func111.trans (congrArg some (by kernel_rfl))
  f46 := ⟨Tryz.f117.name, by decide, Tryz.func117.trans (congrArg some (by kernel_rfl))⟩
  f47 := Tryz.func118.trans (congrArg some (by kernel_rfl))
  f48 := Tryz.func119.trans (congrArg some (by kernel_rfl))
  f49 := ⟨Tryz.f120.name, by decide, Tryz.func120.trans (congrArg some (by kernel_rfl))⟩
  f50 := ⟨Tryz.f121.name, by decide, Tryz.func121.trans (congrArg some (by kernel_rfl))⟩
  f57 := ⟨Tryz.f125.name, by decide, Tryz.func125.trans (congrArg some (by kernel_rfl))⟩
  t0 := Tryz.underlying0
  a0 := Tryz.isAgg0
  z0 := Tryz.sizeOf0
  v0 := Tryz.zeroValue0
  t3 := Tryz.underlying3
  a3 := Tryz.isAgg3
  z3 := Tryz.sizeOf3
  v3 := Tryz.zeroValue3
  t4 := Tryz.underlying4
  a4 := Tryz.isAgg4
  z4 := Tryz.sizeOf4
  v4 := Tryz.zeroValue4
  t5 := Tryz.underlying5
  a5 := Tryz.isAgg5
  z5 := Tryz.sizeOf5
  v5 := Tryz.zeroValue5
  t9 := Tryz.underlying9
  a9 := Tryz.isAgg9
  z9 := Tryz.sizeOf9
  v9 := Tryz.zeroValue9
  t22 := Tryz.underlying24
  a22 := Tryz.isAgg24
  z22 := Tryz.sizeOf24
  v22 := Tryz.zeroValue24
  t25 := Tryz.underlying82
  a25 := Tryz.isAgg82
  z25 := Tryz.sizeOf82
  v25 := Tryz.zeroValue82
  t39 := Tryz.underlying89
  a39 := Tryz.isAgg89
  z39 := Tryz.sizeOf89
  v39 := Tryz.zeroValue89
  t45 := Tryz.underlying128
  a45 := Tryz.isAgg128
  z45 := Tryz.sizeOf128
  v45 := Tryz.zeroValue128
  t46 := Tryz.underlying129
  a46 := Tryz.isAgg129
  z46 := Tryz.sizeOf129
  v46 := Tryz.zeroValue129
  t50 := Tryz.underlying133
  a50 := Tryz.isAgg133
  z50 := Tryz.sizeOf133
  v50 := Tryz.zeroValue133
  t53 := Tryz.underlying136
  a53 := Tryz.isAgg136
  z53 := Tryz.sizeOf136
  v53 := Tryz.zeroValue136
  t55 := Tryz.underlying138
  a55 := Tryz.isAgg138
  z55 := Tryz.sizeOf138
  v55 := Tryz.zeroValue138
  t66 := Tryz.underlying146
  a66 := Tryz.isAgg146
  z66 := Tryz.sizeOf146
  v66 := Tryz.zeroValue146
  t70 := Tryz.underlying150
  a70 := Tryz.isAgg150
  z70 := Tryz.sizeOf150
  v70 := Tryz.zeroValue150
  t76 := Tryz.underlying159
  a76 := Tryz.isAgg159
  z76 := Tryz.sizeOf159
  v76 := Tryz.zeroValue159
  t77 := Tryz.underlying160
  a77 := Tryz.isAgg160
  z77 := Tryz.sizeOf160
  v77 := Tryz.zeroValue160 }
end Go.Proofs.YtcnpocppgghejaaGreatDoor
namespace Go.Proofs.YtcnpocppgghejaaGreatDoor
open Go.RowKit Go.Maps Go.Sort Go.Shelf
set_option maxRecDepth 100000
set_option linter.unusedVariables false

theorem flatK_get (ps : List PinD) (t : Nat) (h : t < ps.length * 5) : (flatK PinD.vals 5 ps.toArray)[t]! = ((ps[t / 5]?.getD pin0).vals)[t % 5]! := by
  rw [get_flatK _ _ _ _ (by simpa using h)]
  have h5 : t / 5 < ps.length := by omega
  congr 2
  simp [h5]
theorem vals_get (p : PinD) {i : Nat} (hi : i < 5) : p.vals[i]? = some p.vals[i]! := by
  rw [List.getElem?_eq_getElem (by rw [PinD.vals_length]; exact hi), List.getElem!_eq_getElem?_getD, List.getElem?_eq_getElem (by rw [PinD.vals_length]; exact hi)]
  rfl
theorem OwnP.holds {w : World} {B g n c : Nat} {ps : List PinD} (h : OwnP w B (.slice (some ⟨g, 0, none⟩) n c) ps) : HoldsK PinD.vals 5 w g 0 ps.toArray := by
  intro j hj
  rw [size_flatK] at hj
  have hj' : j < ps.length * 5 := by simpa using hj
  have h5 : j / 5 < ps.length := by omega
  have hm : j % 5 < 5 := Nat.mod_lt _ (by omega)
  have hjj : j / 5 * 5 + j % 5 = j := by omega
  rw [flatK_get ps j hj']
  have := h.cell h5 (vals_get (ps[j / 5]?.getD pin0) hm)
  rw [hjj] at this
  rw [Nat.zero_add]
  exact this
theorem grownBy_sortK {w : World} {g m : Nat} {os : Array Obj} (d : Array PinD) : w.grownBy (sortWorldK PinD.vals 5 w g 0 m d os) (some g) := by
  refine ⟨rfl, rfl, rfl, by simp [sortWorldK, putRowK], fun k hk hne => ?_⟩
  unfold sortWorldK putRowK putRow mapBlock
  rw [heap_grow_old _ _ (by simpa using hk)]
  have : g ≠ k := fun e => hne (by rw [e])
  simp [Array.getElem?_modify, this]
theorem OwnP.sorted {w : World} {B g n c m : Nat} {xs ys : List PinD} {os : Array Obj} (h : OwnP w B (.slice (some ⟨g, 0, none⟩) n c) xs) (hl : ys.length = xs.length) :
    OwnP (sortWorldK PinD.vals 5 w g 0 m ys.toArray os) B (.slice (some ⟨g, 0, none⟩) n c) ys := by
  have hH := h.holds
  rcases h.2 with ⟨e, h0⟩ | ⟨g', c', e, hB, hg, hn, hm, hcell, hroom⟩
  · cases e
  injection e with e1 e2 e3
  injection e1 with e1
  injection e1 with e1 _ _
  subst e1
  subst e3
  have hK : HoldsK PinD.vals 5 (sortWorldK PinD.vals 5 w g 0 m ys.toArray os) g 0 ys.toArray :=
    holdsK_grow _ _ _ _ _ _ _ (by simp [putRowK]; exact hg) (holdsK_putRowK _ _ _ _ _ xs.toArray _ (holdsK_ahead _ _ _ _ _ _ _ hH) (by simpa using hl))
  refine ⟨by rw [flat_length], .inr ⟨g, c, by rw [e2, hl], hB, ?_, by omega, hm, fun j u hu => ?_, fun j hj => ?_⟩⟩
  · simp [sortWorldK, putRowK]; omega
  · have hj := (List.getElem?_eq_some_iff.1 hu).1
    rw [flat_length] at hj
    have h5 : j / 5 < ys.length := by omega
    have hm5 : j % 5 < 5 := Nat.mod_lt _ (by omega)
    have hjj : j / 5 * 5 + j % 5 = j := by omega
    have q1 := flat_get ys (j / 5) (j % 5) _ h5 (vals_get _ hm5)
    rw [hjj, hu] at q1
    injection q1 with q1
    have := (hK j (by rw [size_flatK]; simpa using hj)).1
    rw [flatK_get ys j hj, Nat.zero_add] at this
    rw [q1]
    exact this
  · by_cases hj5 : j < ys.length * 5
    · have := hK j (by rw [size_flatK]; simpa using hj5)
      rw [Nat.zero_add] at this
      exact ⟨by rw [this.1]; rfl, this.2⟩
    · obtain ⟨q1, q2⟩ := hroom j hj
      have hgw : g < (putRowK PinD.vals 5 (Sort.ahead w m) g 0 ys.toArray).heap.size := by simp [putRowK]; exact hg
      unfold sortWorldK
      rw [cell?_grow _ _ ⟨g, j, none⟩ hgw, frozen?_grow _ _ ⟨g, j, none⟩ hgw]
      unfold putRowK
      rw [frozen?_putRow, cell?_putRow_other _ _ _ _ _ ⟨g, j, none⟩ (.inr (.inr (by rw [size_flatK]; simp; omega)))]
      exact ⟨q1, q2⟩

theorem cmpPin_any (p q : PinD) (W : World) : Calls Tryz.prog 59 #[P5 p, P5 q] W fun e w' => e = .returned (.int .i64 (Lib.compareBytes p.nm q.nm)) ∧ ∃ n os', w' = grow (W.drewN n) os' := by
  have hcon : ∀ W', Calls Tryz.prog 60 #[.string p.n, .string q.n] W' fun e w' => e = .returned (.int .i64 (Lib.compareBytes p.nm q.nm)) ∧ w' = W' := fun W' => Any.strings_Compare lays106 p.n q.n W'
  generalize Lib.compareBytes p.nm q.nm = r at hcon ⊢
  go_enter Tryz.func59, Tryz.ntmps59
  go_wp2_with fail
  refine (hcon _).mono ?_
  rintro e w' ⟨rfl, rfl⟩
  go_wp2_with fail
  go_ret
  exact ⟨rfl, 0, _, by rw [alloc_eq_grow, alloc_eq_grow, grow_grow]; rfl⟩
def cfP (p q : PinD) : Int := Lib.compareBytes p.nm q.nm
theorem ltOf_cfP (p q : PinD) : ltOf cfP p q = nlt p.nm q.nm := cmp_lt p.nm q.nm
theorem swo_cfP : SWO (ltOf cfP) where
  irrefl x := by rw [ltOf_cfP]; exact nlt_irrefl _
  trans x y z h1 h2 := by rw [ltOf_cfP] at *; exact nlt_trans h1 h2
  ntrans x y z h1 h2 := by
    rw [ltOf_cfP] at *
    cases h : nlt x.nm z.nm
    · rfl
    · by_cases e : x.nm = y.nm
      · rw [e, h2] at h; cases h
      · have h3 := nlt_trans (nlt_total h1 e) h
        rw [h2] at h3
        cases h3
theorem sortFunc_any (blk cap : Nat) (xs : List PinD) (w : World) (hH : HoldsK PinD.vals 5 w blk 0 xs.toArray) (hb : blk < w.heap.size) (h12 : xs.length ≤ 12) :
    Calls Tryz.prog 74 #[.slice (some ⟨blk, 0, none⟩) xs.length cap, .func (.func 59) #[] #[]] w fun e w' =>
      e = .returned (.tuple #[]) ∧ ∃ (ys : List PinD) (n : Nat) (os : Array Obj), ys.Perm xs ∧ ys.Pairwise (fun p q => nlt q.nm p.nm = false) ∧ w' = sortWorldK PinD.vals 5 w blk 0 n ys.toArray os := by
  have eg : ∀ args w, (callFunc 59 args).run Tryz.prog w = .ok (.enter 59 args) w := enters_of Tryz.func59 (by kernel_rfl) rfl
  have hlen : ∀ (n : Nat) (W : World), n ≤ 12 → Calls Tryz.prog 91 #[.int .u64 n] W fun e w' => (∃ l : Int, e = .returned (.int .i64 l)) ∧ w' = W := fun n W h => (Any.bits_Len lays125 n W (by omega) (by omega)).mono fun _ _ ⟨he, hw⟩ => ⟨⟨_, he⟩, hw⟩
  have hcon := AnyQ.slices_SortFunc_small_sorted laysSort 5 Tryz.isAgg26 Tryz.sizeOf26 PinD.vals (fun _ => rfl) pin_oneCell cfP 59 #[] swo_cfP blk 0 cap xs.toArray w eg (fun _ _ _ _ x y => cmpPin_any x y _) hH hb (by simpa using h12) hlen
  simp only [List.size_toArray] at hcon
  refine Calls.mono (show Calls Tryz.prog 74 _ _ _ from hcon) ?_
  rintro e w' ⟨rfl, d', n, os, ⟨p1, p2, p3⟩, hs, rfl⟩
  refine ⟨rfl, d'.toList, n, os, ?_, ?_, by simp⟩
  · have e1 : d'.extract 0 xs.length = d' := by rw [Array.extract_eq_self_iff]; right; exact ⟨rfl, by simp at p1; omega⟩
    rw [e1] at p3
    simpa using p3
  · rw [List.pairwise_iff_getElem]
    intro i j hi hj hij
    have := hs i j (Nat.zero_le _) hij (by simp at p1 hj; omega)
    rw [ltOf_cfP] at this
    simp at hi hj
    simpa [hi, hj] using this

theorem OwnP.some' {w : World} {B : Nat} {v : Value} {xs : List PinD} (h : OwnP w B v xs) (hx : 0 < xs.length) : ∃ g c, v = .slice (some ⟨g, 0, none⟩) xs.length c ∧ B ≤ g ∧ g < w.heap.size := by
  rcases h.2 with ⟨e, h0⟩ | ⟨g, c, e, hB, hg, _⟩
  · omega
  · exact ⟨g, c, e, hB, hg⟩
theorem rise_of {xs ys ps : List PinD} (hp : ys.Perm ps) (ha : Apart ps) (h : ys.Pairwise (fun p q => nlt q.nm p.nm = false)) : Rise ys := by
  have ha' : Apart ys := (hp.symm.pairwise_iff (fun {a b} (h : a.nm ≠ b.nm) => h.symm)).1 ha
  exact (ha'.and h).imp fun ⟨h1, h2⟩ => nlt_total h2 (fun e => h1 e.symm)
/-- A new slice of the pins of ps in rising order was answered. -/
def Sorted (ps : List PinD) (w : World) (e : Ending) (w' : World) : Prop := ∃ g c ys, e = .returned (.slice (some ⟨g, 0, none⟩) ys.length c) ∧ ys.Perm ps ∧ Rise ys ∧ OwnP w' w.heap.size (.slice (some ⟨g, 0, none⟩) ys.length c) ys ∧ Below w.heap.size w w'
theorem sortedFunc_any (b Bm : Nat) (ps : List PinD) (w : World) (hBm : Bm < w.heap.size) (cm : w.cell? ⟨Bm, 0, none⟩ = some (.map (some b))) (hM : PMap w b ps) (hl : ps.length ≤ 12) (h0 : 0 < ps.length) :
    Calls Tryz.prog 57 #[.func (.func 75) #[] #[.pointer (some ⟨Bm, 0, none⟩)], .func (.func 59) #[] #[]] w (Sorted ps w) := by
  have ha := hM.apart
  have S := collect_any b Bm ps w hBm cm hM (by omega)
  clear hM cm
  go_enter Tryz.func57, Tryz.ntmps57
  go_wp2_with fail
  refine S.mono ?_
  rintro r u1 ⟨v, xs, rfl, hp, hO, b1⟩
  have hlx := hp.length_eq
  obtain ⟨g, c, rfl, hg0, hg1⟩ := hO.some' (by omega)
  have T := sortFunc_any g c xs u1 hO.holds hg1 (by omega)
  have HO := Lib.hid hO
  have HP := Lib.hid hp
  clear hO S hlx hp
  go_wp2_with fail
  refine T.mono ?_
  rintro r u2 ⟨rfl, ys, n, os, hq, hs, hw⟩
  have hl2 : xs.length = ys.length := hq.length_eq.symm
  have O2 : OwnP u2 w.heap.size (.slice (some ⟨g, 0, none⟩) xs.length c) ys := by
    rw [hw]
    exact HO.out.sorted (m := n) (os := os) (ys := ys) hq.length_eq
  have b2 : RowKit.Below w.heap.size w u2 := by
    rw [hw]
    exact b1.grown (grownBy_sortK (w := u1) (g := g) (m := n) (os := os) ys.toArray) b1.size (fun k e => by injection e with e; subst e; exact hg0)
  have H : Sorted ps w (.returned (.slice (some ⟨g, 0, none⟩) xs.length c)) u2 := ⟨g, c, ys, by rw [hl2], hq.trans HP.out, rise_of (xs := xs) (hq.trans HP.out) ha hs, by rw [← hl2]; exact O2, b2⟩
  have HH := Lib.hid H
  clear O2 b2 hs T HO hw H hq hl2
  go_wp2_with fail
  go_ret
  exact HH.out
theorem risingPins_any (b : Nat) (ps : List PinD) (w : World) (hM : PMap w b ps) (hl : ps.length ≤ 12) (h0 : 0 < ps.length) :
    Calls Tryz.prog 28 #[.map (some b)] w (Sorted ps w) := by
  have b0 := bal (Below.refl _ w) (.cells #[.map (some b)] 53)
  have X0 := (At.new w [.map (some b)] 53).cell 0 _ rfl
  have S := sortedFunc_any b w.heap.size ps _ (by simp) X0 (hM.alloc _) hl h0
  clear X0 hM
  go_enter Tryz.func28, Tryz.ntmps28
  go_wp2_with fail
  refine (values_any b _).mono ?_
  rintro r u1 ⟨rfl, rfl⟩
  go_wp2_with fail
  refine S.mono ?_
  rintro r u2 ⟨g, c, ys, rfl, hp, hr, hO, b2⟩
  have bb := btr b0 b2
  have hO2 := hO.less b0.size
  have H := Lib.hid (show Sorted ps w (.returned (.slice (some ⟨g, 0, none⟩) ys.length c)) u2 from ⟨g, c, ys, rfl, hp, hr, hO2, bb⟩)
  clear hO hO2 hr b2 bb
  go_wp2_with fail
  go_ret
  exact H.out
end Go.Proofs.YtcnpocppgghejaaGreatDoor
namespace Go.Proofs.YtcnpocppgghejaaGreatDoor
open Go.RowKit
set_option maxRecDepth 100000
set_option linter.unusedVariables false

/-- A code and a new slice of pins were answered. -/
def PinsRes (c : Int) (ps : List PinD) (w : World) (e : Ending) (w' : World) : Prop := ∃ a n cap, e = .returned (.agg #[.int .i64 c, .slice a n cap]) ∧ OwnP w' w.heap.size (.slice a n cap) ps ∧ Below w.heap.size w w'
theorem At.turned {g b : Nat} {cs : List Value} {w w' : World} (h : At g cs w) (ht : w.mapTurned w' b) (hne : g ≠ b) : At g cs w' := h.kept ht.grown (fun e => by injection e with e; exact hne e)
theorem putC_list {ps : List PinD} {p : PinD} (h : pinsF ps ≠ 0) : putC ps p = pinsF ps ∧ putR ps p = [] := by
  have e : putC ps p = pinsF ps := by unfold putC; rw [if_pos h]
  exact ⟨e, by unfold putR; rw [e, if_neg h]⟩
theorem putC_pin {ps : List PinD} {p : PinD} (h0 : pinsF ps = 0) (h : p.f ≠ 0) : putC ps p = p.f ∧ putR ps p = [] := by
  have e : putC ps p = p.f := by unfold putC; rw [if_neg (fun h => h h0), if_pos h]
  exact ⟨e, by unfold putR; rw [e, if_neg h]⟩
theorem putC_old {ps : List PinD} {p q : PinD} (h0 : pinsF ps = 0) (h1 : p.f = 0) (hq : findP ps p.nm = some q) (h : p.e ≤ q.e) : putC ps p = 11 ∧ putR ps p = [] := by
  have e : putC ps p = 11 := by unfold putC; rw [if_neg (fun h => h h0), if_neg (fun h => h h1), hq]; simp only; rw [if_pos h]
  exact ⟨e, by unfold putR; rw [e, if_neg (by decide)]⟩
theorem putC_young {ps : List PinD} {p q : PinD} (h0 : pinsF ps = 0) (h1 : p.f = 0) (hq : findP ps p.nm = some q) (h : ¬ p.e ≤ q.e) : putC ps p = 0 ∧ putR ps p = putL ps p := by
  have e : putC ps p = 0 := by unfold putC; rw [if_neg (fun h => h h0), if_neg (fun h => h h1), hq]; simp only; rw [if_neg h]
  exact ⟨e, by unfold putR; rw [if_pos e]⟩
theorem putC_full {ps : List PinD} {p : PinD} (h0 : pinsF ps = 0) (h1 : p.f = 0) (hq : findP ps p.nm = none) (h : ps.length = 4) : putC ps p = 7 ∧ putR ps p = [] := by
  have e : putC ps p = 7 := by unfold putC; rw [if_neg (fun h => h h0), if_neg (fun h => h h1), hq]; simp only; rw [if_pos h]
  exact ⟨e, by unfold putR; rw [e, if_neg (by decide)]⟩
theorem putC_new {ps : List PinD} {p : PinD} (h0 : pinsF ps = 0) (h1 : p.f = 0) (hq : findP ps p.nm = none) (h : ps.length ≠ 4) : putC ps p = 0 ∧ putR ps p = putL ps p := by
  have e : putC ps p = 0 := by unfold putC; rw [if_neg (fun h => h h0), if_neg (fun h => h h1), hq]; simp only; rw [if_neg h]
  exact ⟨e, by unfold putR; rw [if_pos e]⟩
abbrev Others (ps : List PinD) (p : PinD) : List PinD := ps.filter fun q => !decide (q.nm = p.nm)
theorem others_ne {ps : List PinD} {p : PinD} : ∀ q ∈ Others ps p, q.nm ≠ p.nm := by
  intro q hq
  have := (List.mem_filter.1 hq).2
  simpa using this
theorem others_none {ps : List PinD} {p : PinD} (h : findP ps p.nm = none) : Others ps p = ps := List.filter_eq_self.2 fun q hq => by simpa using findP_none h q hq
theorem others_lt {ps : List PinD} {p q : PinD} (h : findP ps p.nm = some q) : (Others ps p).length < ps.length := by
  obtain ⟨h1, h2⟩ := findP_mem h
  have h3 := List.length_filter_le (fun q => !decide (q.nm = p.nm)) ps
  have h4 : (Others ps p).length ≠ ps.length := fun e => by
    have := (List.length_filter_eq_length_iff.1 e) q h1
    simp [h2] at this
  have : (Others ps p).length ≤ ps.length := h3
  omega
/-- What is left, and the pin, in rising order: just what the model makes. -/
theorem put_eq {ps ys : List PinD} {p : PinD} (hr : Rise ps) (hp : ys.Perm (Others ps p ++ [p])) (hy : Rise ys) : ys = putL ps p := by
  refine rise_eq ?_ hy (putL_rise p hr)
  exact hp.trans ((List.perm_append_singleton p (Others ps p)).trans (putG_perm p ps).symm)

theorem implPutPin_any (a : Option Addr) (len cap B : Nat) (ps : List PinD) (p : PinD) (w : World) (hR : PRow w B a len cap ps) (hB : B ≤ w.heap.size) (hn : p.n.size ≤ maxLen) :
    Calls Tryz.prog 6 #[.slice a len cap, P5 p] w (PinsRes (putC ps p) (putR ps p) w) := by
  have hL := Lib.hid hR.length
  have b0 := bal (bal (Below.refl _ w) (.cells #[.string p.n, .int .i64 p.a, .int .i64 p.b, .int .i64 p.e, .int .i64 p.u] 26)) (.cells #[.int .i64 0, .slice none 0 0] 30)
  have A1 : At w.heap.size p.vals ((w.alloc (.cells #[.string p.n, .int .i64 p.a, .int .i64 p.b, .int .i64 p.e, .int .i64 p.u] 26)).alloc (.cells #[.int .i64 0, .slice none 0 0] 30)) := (At.new w p.vals 26).alloc _
  have A2 := At.new (w.alloc (.cells #[.string p.n, .int .i64 p.a, .int .i64 p.b, .int .i64 p.e, .int .i64 p.u] 26)) [.int .i64 0, .slice none 0 0] 30
  rw [show (w.alloc (.cells #[.string p.n, .int .i64 p.a, .int .i64 p.b, .int .i64 p.e, .int .i64 p.u] 26)).heap.size = w.heap.size + 1 by simp] at A2
  have F := implPinsFault_any a len cap B ps _ (hR.below (b0.mono hB)) (Nat.le_trans hB b0.size)
  by_cases h0 : pinsF ps = 0
  case neg =>
    rw [(putC_list h0).1, (putC_list h0).2]
    generalize pinsF ps = c at *
    clear hR
    go_enter Tryz.func6, Tryz.ntmps6
    go_wp2_with fail
    generalize (w.alloc (.cells #[.string p.n, .int .i64 p.a, .int .i64 p.b, .int .i64 p.e, .int .i64 p.u] 26)).alloc (.cells #[.int .i64 0, .slice none 0 0] 30) = W0 at *
    refine F.mono ?_
    rintro r u1 ⟨rfl, b1⟩
    have q0 := (A2.on b1).cell 0 _ rfl
    have q1 := (A2.on b1).cell 1 _ rfl
    have z0 := (A2.on b1).free 0 _ rfl
    have z1 := (A2.on b1).free 1 _ rfl
    have B1 := btr b0 b1
    clear A1 A2 b0 b1 F
    go_wp2_with fail
    refine bodyPost_ret (v := .agg #[.int .i64 c, .slice none 0 0]) (by simp [results, Tryz.results6, go_sem, q0, q1]) rfl ⟨none, 0, 0, rfl, OwnP.nil _ _, ?_⟩
    exact (by (iterate 2 (refine bset ?_ (by dsimp only; omega) _)); exact B1)
  rw [h0] at F
  have F2 := fun w => implPinFault_any p w hn
  by_cases h1 : p.f = 0
  case neg =>
    rw [(putC_pin h0 h1).1, (putC_pin h0 h1).2]
    clear hR
    go_enter Tryz.func6, Tryz.ntmps6
    go_wp2_with fail
    generalize (w.alloc (.cells #[.string p.n, .int .i64 p.a, .int .i64 p.b, .int .i64 p.e, .int .i64 p.u] 26)).alloc (.cells #[.int .i64 0, .slice none 0 0] 30) = W0 at *
    refine F.mono ?_
    rintro r u1 ⟨rfl, b1⟩
    have x0 := (A1.on b1).cell 0 _ rfl
    have x1 := (A1.on b1).cell 1 _ rfl
    have x2 := (A1.on b1).cell 2 _ rfl
    have x3 := (A1.on b1).cell 3 _ rfl
    have x4 := (A1.on b1).cell 4 _ rfl
    go_wp2_with fail
    refine (F2 _).mono ?_
    rintro r u2 ⟨rfl, b2⟩
    have bb := btr b1 b2
    have q0 := (A2.on bb).cell 0 _ rfl
    have q1 := (A2.on bb).cell 1 _ rfl
    have z0 := (A2.on bb).free 0 _ rfl
    have z1 := (A2.on bb).free 1 _ rfl
    have B1 := btr b0 bb
    clear A1 A2 b0 b1 b2 bb F F2 x0 x1 x2 x3 x4
    go_wp2_with fail
    refine bodyPost_ret (v := .agg #[.int .i64 p.f, .slice none 0 0]) (by simp [results, Tryz.results6, go_sem, q0, q1]) rfl ⟨none, 0, 0, rfl, OwnP.nil _ _, ?_⟩
    exact (by (iterate 2 (refine bset ?_ (by dsimp only; omega) _)); exact B1)
  rw [h1] at F2
  obtain ⟨hl4, hgood, hrise⟩ := pinsF_zero h0
  have LK := Lib.hid (fun (w : World) (b : Nat) (h : PMap w b ps) => h.look (s := p.n) hn)
  have BN := Lib.hid (fun (w1 : World) (h : Below w.heap.size w w1) => pinsByName_any a len cap B ps w1 (hR.below (h.mono hB)) (Nat.le_trans hB h.size) (by have := hL.out; omega) hrise.apart)
  clear hR
  cases hf : findP ps p.nm with
  | none =>
    have hf2 : findP ps p.n.data.toList = none := hf
    simp only [hf2] at LK
    by_cases h4 : ps.length = 4
    · rw [(putC_full h0 h1 hf h4).1, (putC_full h0 h1 hf h4).2]
      have ho : (Others ps p).length = 4 := by rw [others_none hf]; exact h4
      go_enter Tryz.func6, Tryz.ntmps6
      go_wp2_with fail
      generalize (w.alloc (.cells #[.string p.n, .int .i64 p.a, .int .i64 p.b, .int .i64 p.e, .int .i64 p.u] 26)).alloc (.cells #[.int .i64 0, .slice none 0 0] 30) = W0 at *
      refine F.mono ?_
      rintro r u1 ⟨rfl, b1⟩
      have x0 := (A1.on b1).cell 0 _ rfl
      have x1 := (A1.on b1).cell 1 _ rfl
      have x2 := (A1.on b1).cell 2 _ rfl
      have x3 := (A1.on b1).cell 3 _ rfl
      have x4 := (A1.on b1).cell 4 _ rfl
      go_wp2_with fail
      refine (F2 _).mono ?_
      rintro r u2 ⟨rfl, b2⟩
      have B0 := btr b0 (btr b1 b2)
      go_wp2_with fail
      refine (BN.out _ B0).mono ?_
      rintro r u3 ⟨rfl, M3, b3⟩
      have bb := btr b1 (btr b2 b3)
      have B3 := btr B0 b3
      have lk := LK.out _ _ M3
      have A13 := A1.on bb
      have A23 := A2.on bb
      have lt2 := (A2.on (btr b1 b2)).lt (by simp)
      have lt3 := M3.lt
      have ltp : w.heap.size < u3.heap.size := by omega
      have ltr : w.heap.size + 1 < u3.heap.size := by omega
      have y0 := A13.cell 0 _ rfl
      have y1 := A13.cell 1 _ rfl
      have y2 := A13.cell 2 _ rfl
      have y3 := A13.cell 3 _ rfl
      have y4 := A13.cell 4 _ rfl
      have q0 := A23.cell 0 _ rfl
      have q1 := A23.cell 1 _ rfl
      have z0 := A23.free 0 _ rfl
      have z1 := A23.free 1 _ rfl
      have B1 := B3
      clear x0 x1 x2 x3 x4 A1 A2 b0 b1 b2 b3 F F2 BN LK B0 bb
      have Mb := M3.alloc (.cells #[.string pin0.n, .int .i64 pin0.a, .int .i64 pin0.b, .int .i64 pin0.e, .int .i64 pin0.u] 26)
      obtain ⟨w4, hdel, M4', tn4⟩ := Mb.drop (s := p.n) hn 0
      have M4 : PMap w4 u2.heap.size (Others ps p) := M4'
      have B4 := turned_below tn4 (bal B3 _) (by omega)
      have A14 := (A13.alloc (.cells #[.string pin0.n, .int .i64 pin0.a, .int .i64 pin0.b, .int .i64 pin0.e, .int .i64 pin0.u] 26)).turned tn4 (by omega)
      have A24 := (A23.alloc (.cells #[.string pin0.n, .int .i64 pin0.a, .int .i64 pin0.b, .int .i64 pin0.e, .int .i64 pin0.u] 26)).turned tn4 (by omega)
      have hlen := fun ty => M4.len ty
      clear Mb M3 M4' A13 A23 B3 B1 tn4 q0 q1 z0 z1
      rw [ho] at hlen
      have B1 := B4
      have q0 := A24.cell 0 _ rfl
      have q1 := A24.cell 1 _ rfl
      have z0 := A24.free 0 _ rfl
      have z1 := A24.free 1 _ rfl
      go_wp2_with fail
      refine bodyPost_ret (v := .agg #[.int .i64 7, .slice none 0 0]) (by simp [results, Tryz.results6, go_sem, q0, q1]) rfl ⟨none, 0, 0, rfl, OwnP.nil _ _, ?_⟩
      exact (by (iterate 2 (refine bset ?_ (by dsimp only; omega) _)); exact B1)
    · rw [(putC_new h0 h1 hf h4).1, (putC_new h0 h1 hf h4).2]
      have ho4 : ¬ (((Others ps p).length : Nat) : Int) = 4 := by rw [others_none hf]; omega
      have ho5 : (Others ps p).length ≤ 4 := by rw [others_none hf]; omega
      go_enter Tryz.func6, Tryz.ntmps6
      go_wp2_with fail
      generalize (w.alloc (.cells #[.string p.n, .int .i64 p.a, .int .i64 p.b, .int .i64 p.e, .int .i64 p.u] 26)).alloc (.cells #[.int .i64 0, .slice none 0 0] 30) = W0 at *
      refine F.mono ?_
      rintro r u1 ⟨rfl, b1⟩
      have x0 := (A1.on b1).cell 0 _ rfl
      have x1 := (A1.on b1).cell 1 _ rfl
      have x2 := (A1.on b1).cell 2 _ rfl
      have x3 := (A1.on b1).cell 3 _ rfl
      have x4 := (A1.on b1).cell 4 _ rfl
      go_wp2_with fail
      refine (F2 _).mono ?_
      rintro r u2 ⟨rfl, b2⟩
      have B0 := btr b0 (btr b1 b2)
      go_wp2_with fail
      refine (BN.out _ B0).mono ?_
      rintro r u3 ⟨rfl, M3, b3⟩
      have bb := btr b1 (btr b2 b3)
      have B3 := btr B0 b3
      have lk := LK.out _ _ M3
      have A13 := A1.on bb
      have A23 := A2.on bb
      have lt2 := (A2.on (btr b1 b2)).lt (by simp)
      have lt3 := M3.lt
      have ltp : w.heap.size < u3.heap.size := by omega
      have ltr : w.heap.size + 1 < u3.heap.size := by omega
      have y0 := A13.cell 0 _ rfl
      have y1 := A13.cell 1 _ rfl
      have y2 := A13.cell 2 _ rfl
      have y3 := A13.cell 3 _ rfl
      have y4 := A13.cell 4 _ rfl
      have q0 := A23.cell 0 _ rfl
      have q1 := A23.cell 1 _ rfl
      have z0 := A23.free 0 _ rfl
      have z1 := A23.free 1 _ rfl
      have B1 := B3
      clear x0 x1 x2 x3 x4 A1 A2 b0 b1 b2 b3 F F2 BN LK B0 bb
      have Mb := M3.alloc (.cells #[.string pin0.n, .int .i64 pin0.a, .int .i64 pin0.b, .int .i64 pin0.e, .int .i64 pin0.u] 26)
      obtain ⟨w4, hdel, M4', tn4⟩ := Mb.drop (s := p.n) hn 0
      have M4 : PMap w4 u2.heap.size (Others ps p) := M4'
      have B4 := turned_below tn4 (bal B3 _) (by omega)
      have A14 := (A13.alloc (.cells #[.string pin0.n, .int .i64 pin0.a, .int .i64 pin0.b, .int .i64 pin0.e, .int .i64 pin0.u] 26)).turned tn4 (by omega)
      have A24 := (A23.alloc (.cells #[.string pin0.n, .int .i64 pin0.a, .int .i64 pin0.b, .int .i64 pin0.e, .int .i64 pin0.u] 26)).turned tn4 (by omega)
      have hlen := fun ty => M4.len ty
      clear Mb M3 M4' A13 A23 B3 B1 tn4 q0 q1 z0 z1
      obtain ⟨w5, hst, M5, tn5⟩ := M4.store (p := p) (by omega) hn others_ne
      have B5 := turned_below tn5 B4 (by omega)
      have A25 := A24.turned tn5 (by omega)
      have lt5 := A25.lt (by simp)
      have x0 := A14.cell 0 _ rfl
      have x1 := A14.cell 1 _ rfl
      have x2 := A14.cell 2 _ rfl
      have x3 := A14.cell 3 _ rfl
      have x4 := A14.cell 4 _ rfl
      have RP := risingPins_any _ _ _ M5 (by simp; omega) (by simp)
      have hob : (((Others ps p).length : Int) == 4) = false := by simpa using ho4
      generalize (Others ps p).length = n4 at *
      clear A14 A24 M4 tn5 B4 M5
      go_wp2_with fail
      refine RP.mono ?_
      rintro r u6 ⟨g, c, ys, rfl, hp, hr, hO, b6⟩
      have hys := put_eq hrise hp hr
      have A26 := A25.on b6
      have q0 := A26.cell 0 _ rfl
      have q1 := A26.cell 1 _ rfl
      have z0 := A26.free 0 _ rfl
      have z1 := A26.free 1 _ rfl
      have hgl := (Own.lt hO g rfl)
      have B1 := btr B5 b6
      have O6 := Lib.hid (hO.less B5.size)
      have HY := Lib.hid hys
      have hne : w.heap.size + 1 ≠ g := by omega
      clear hO hp hr hys A25 A26 b6 B5 RP
      go_wp2_with fail
      refine bodyPost_ret (v := .agg #[.int .i64 0, .slice (some ⟨g, 0, none⟩) ys.length c]) (by simp [results, Tryz.results6, go_sem, q0, q1]) rfl ⟨_, _, c, rfl, ?_, (by (iterate 2 (refine bset ?_ (by dsimp only; omega) _)); exact B1)⟩
      rw [← HY.out]
      refine Own.setCell (Own.setCell O6.out (fun k hk e => ?_) _) (fun k hk e => ?_) _
      · simp [Value.ownBlock] at hk; dsimp only at e; omega
      · simp [Value.ownBlock] at hk; dsimp only at e; omega
  | some q =>
    have hf2 : findP ps p.n.data.toList = some q := hf
    simp only [hf2] at LK
    by_cases he : p.e ≤ q.e
    · rw [(putC_old h0 h1 hf he).1, (putC_old h0 h1 hf he).2]
      go_enter Tryz.func6, Tryz.ntmps6
      go_wp2_with fail
      generalize (w.alloc (.cells #[.string p.n, .int .i64 p.a, .int .i64 p.b, .int .i64 p.e, .int .i64 p.u] 26)).alloc (.cells #[.int .i64 0, .slice none 0 0] 30) = W0 at *
      refine F.mono ?_
      rintro r u1 ⟨rfl, b1⟩
      have x0 := (A1.on b1).cell 0 _ rfl
      have x1 := (A1.on b1).cell 1 _ rfl
      have x2 := (A1.on b1).cell 2 _ rfl
      have x3 := (A1.on b1).cell 3 _ rfl
      have x4 := (A1.on b1).cell 4 _ rfl
      go_wp2_with fail
      refine (F2 _).mono ?_
      rintro r u2 ⟨rfl, b2⟩
      have B0 := btr b0 (btr b1 b2)
      go_wp2_with fail
      refine (BN.out _ B0).mono ?_
      rintro r u3 ⟨rfl, M3, b3⟩
      have bb := btr b1 (btr b2 b3)
      have B3 := btr B0 b3
      have lk := LK.out _ _ M3
      have A13 := A1.on bb
      have A23 := A2.on bb
      have lt2 := (A2.on (btr b1 b2)).lt (by simp)
      have lt3 := M3.lt
      have ltp : w.heap.size < u3.heap.size := by omega
      have ltr : w.heap.size + 1 < u3.heap.size := by omega
      have y0 := A13.cell 0 _ rfl
      have y1 := A13.cell 1 _ rfl
      have y2 := A13.cell 2 _ rfl
      have y3 := A13.cell 3 _ rfl
      have y4 := A13.cell 4 _ rfl
      have q0 := A23.cell 0 _ rfl
      have q1 := A23.cell 1 _ rfl
      have z0 := A23.free 0 _ rfl
      have z1 := A23.free 1 _ rfl
      have B1 := B3
      clear x0 x1 x2 x3 x4 A1 A2 b0 b1 b2 b3 F F2 BN LK B0 bb
      go_wp2_with fail
      refine bodyPost_ret (v := .agg #[.int .i64 11, .slice none 0 0]) (by simp [results, Tryz.results6, go_sem, q0, q1, ltr]) rfl ⟨none, 0, 0, rfl, OwnP.nil _ _, ?_⟩
      exact bal (by (iterate 2 (refine bset ?_ (by dsimp only; omega) _)); exact B1) _
    · rw [(putC_young h0 h1 hf he).1, (putC_young h0 h1 hf he).2]
      have ho := others_lt hf
      have ho4 : ¬ (((Others ps p).length : Nat) : Int) = 4 := by omega
      have ho5 : (Others ps p).length ≤ 4 := by omega
      go_enter Tryz.func6, Tryz.ntmps6
      go_wp2_with fail
      generalize (w.alloc (.cells #[.string p.n, .int .i64 p.a, .int .i64 p.b, .int .i64 p.e, .int .i64 p.u] 26)).alloc (.cells #[.int .i64 0, .slice none 0 0] 30) = W0 at *
      refine F.mono ?_
      rintro r u1 ⟨rfl, b1⟩
      have x0 := (A1.on b1).cell 0 _ rfl
      have x1 := (A1.on b1).cell 1 _ rfl
      have x2 := (A1.on b1).cell 2 _ rfl
      have x3 := (A1.on b1).cell 3 _ rfl
      have x4 := (A1.on b1).cell 4 _ rfl
      go_wp2_with fail
      refine (F2 _).mono ?_
      rintro r u2 ⟨rfl, b2⟩
      have B0 := btr b0 (btr b1 b2)
      go_wp2_with fail
      refine (BN.out _ B0).mono ?_
      rintro r u3 ⟨rfl, M3, b3⟩
      have bb := btr b1 (btr b2 b3)
      have B3 := btr B0 b3
      have lk := LK.out _ _ M3
      have A13 := A1.on bb
      have A23 := A2.on bb
      have lt2 := (A2.on (btr b1 b2)).lt (by simp)
      have lt3 := M3.lt
      have ltp : w.heap.size < u3.heap.size := by omega
      have ltr : w.heap.size + 1 < u3.heap.size := by omega
      have y0 := A13.cell 0 _ rfl
      have y1 := A13.cell 1 _ rfl
      have y2 := A13.cell 2 _ rfl
      have y3 := A13.cell 3 _ rfl
      have y4 := A13.cell 4 _ rfl
      have q0 := A23.cell 0 _ rfl
      have q1 := A23.cell 1 _ rfl
      have z0 := A23.free 0 _ rfl
      have z1 := A23.free 1 _ rfl
      have B1 := B3
      clear x0 x1 x2 x3 x4 A1 A2 b0 b1 b2 b3 F F2 BN LK B0 bb
      have Mb := M3.alloc (.cells #[.string q.n, .int .i64 q.a, .int .i64 q.b, .int .i64 q.e, .int .i64 q.u] 26)
      obtain ⟨w4, hdel, M4', tn4⟩ := Mb.drop (s := p.n) hn 0
      have M4 : PMap w4 u2.heap.size (Others ps p) := M4'
      have B4 := turned_below tn4 (bal B3 _) (by omega)
      have A14 := (A13.alloc (.cells #[.string q.n, .int .i64 q.a, .int .i64 q.b, .int .i64 q.e, .int .i64 q.u] 26)).turned tn4 (by omega)
      have A24 := (A23.alloc (.cells #[.string q.n, .int .i64 q.a, .int .i64 q.b, .int .i64 q.e, .int .i64 q.u] 26)).turned tn4 (by omega)
      have hlen := fun ty => M4.len ty
      clear Mb M3 M4' A13 A23 B3 B1 tn4 q0 q1 z0 z1
      obtain ⟨w5, hst, M5, tn5⟩ := M4.store (p := p) (by omega) hn others_ne
      have B5 := turned_below tn5 B4 (by omega)
      have A25 := A24.turned tn5 (by omega)
      have lt5 := A25.lt (by simp)
      have x0 := A14.cell 0 _ rfl
      have x1 := A14.cell 1 _ rfl
      have x2 := A14.cell 2 _ rfl
      have x3 := A14.cell 3 _ rfl
      have x4 := A14.cell 4 _ rfl
      have RP := risingPins_any _ _ _ M5 (by simp; omega) (by simp)
      have hob : (((Others ps p).length : Int) == 4) = false := by simpa using ho4
      generalize (Others ps p).length = n4 at *
      clear A14 A24 M4 tn5 B4 M5
      go_wp2_with fail
      refine RP.mono ?_
      rintro r u6 ⟨g, c, ys, rfl, hp, hr, hO, b6⟩
      have hys := put_eq hrise hp hr
      have A26 := A25.on b6
      have q0 := A26.cell 0 _ rfl
      have q1 := A26.cell 1 _ rfl
      have z0 := A26.free 0 _ rfl
      have z1 := A26.free 1 _ rfl
      have hgl := (Own.lt hO g rfl)
      have B1 := btr B5 b6
      have O6 := Lib.hid (hO.less B5.size)
      have HY := Lib.hid hys
      have hne : w.heap.size + 1 ≠ g := by omega
      clear hO hp hr hys A25 A26 b6 B5 RP
      go_wp2_with fail
      refine bodyPost_ret (v := .agg #[.int .i64 0, .slice (some ⟨g, 0, none⟩) ys.length c]) (by simp [results, Tryz.results6, go_sem, q0, q1]) rfl ⟨_, _, c, rfl, ?_, (by (iterate 2 (refine bset ?_ (by dsimp only; omega) _)); exact B1)⟩
      rw [← HY.out]
      refine Own.setCell (Own.setCell O6.out (fun k hk e => ?_) _) (fun k hk e => ?_) _
      · simp [Value.ownBlock] at hk; dsimp only at e; omega
      · simp [Value.ownBlock] at hk; dsimp only at e; omega
end Go.Proofs.YtcnpocppgghejaaGreatDoor
