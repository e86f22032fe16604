/- Texts of this seat that several laws rest on, laid into one. Conditions: as each theorem states. -/
import Derived.Test.YtcolecidbalmhaaGreatDoorS0
import Derived.Test.YtcolecidbalmhaaGreatDoorS1
import Derived.Test.YtcolecidbalmhaaGreatDoorS2
import Derived.Lib.Bytealg
import Derived.Deep.DeepCutAuto
namespace Go.Proofs.YtcolecidbalmhaaGreatDoor.M
open Go.Proofs.YtcolecidbalmhaaGreatDoor (inB pubB)

def secB (s : Int) : Bool := inB s 1 1438
def nonceN (s t : Int) : Int := 1 + tagL nonceS [s, t] % 1438
def nonceR (s t : Int) : Int × Int := if inB s 1 1438 && sumB t then (0, nonceN s t) else (3, 0)
def chalN (p q t : Int) : Int := tagL signS [p, q, t] % 1439
def pubN (s : Int) : Int := pw 4 s.toNat 2879
def sigPt (s t : Int) : Int := pw 4 (nonceN s t).toNat 2879
def sigPr (s t : Int) : Int := (nonceN s t + chalN (pubN s) (sigPt s t) t * s) % 1439
def signR (s t : Int) : Int × Int × Int := if inB s 1 1438 && sumB t then (0, sigPt s t, sigPr s t) else (3, 0, 0)
/-- A signature without a fault. -/
def sigB (p q : Int) : Bool := pubB p && inB q 0 1438
def sigF (p q : Int) : Int := if sigB p q then 0 else 3
def checkB (u t p q : Int) : Bool := pubB u && sumB t && sigB p q && (pw 4 q.toNat 2879 == p * pw u (chalN u p t).toNat 2879 % 2879)
def packL (p q : Int) : List Int := if sigB p q then two p ++ two q else []
def readP (zs : List Int) : Int := 256 * zs.getD 0 0 + zs.getD 1 0
def readQ (zs : List Int) : Int := 256 * zs.getD 2 0 + zs.getD 3 0
def readB (zs : List Int) : Bool := decide (zs.length = 4) && sigB (readP zs) (readQ zs)
def readR (zs : List Int) : Int × Int × Int := if readB zs then (0, readP zs, readQ zs) else (5, 0, 0)

theorem nonceN_bd (s t : Int) : 1 ≤ nonceN s t ∧ nonceN s t ≤ 1438 := by unfold nonceN; omega
theorem chalN_bd (p q t : Int) : 0 ≤ chalN p q t ∧ chalN p q t ≤ 1438 := by unfold chalN; omega
theorem sigPr_bd (s t : Int) : 0 ≤ sigPr s t ∧ sigPr s t ≤ 1438 := by unfold sigPr; omega
theorem pub_pow {a : Int} (a0 : 1 ≤ a) (a1 : a ≤ 1438) : pubB (pw 4 a.toNat 2879) = true := by
  have h := base_pub a.toNat (by omega) (by omega)
  simp only [pubB, inB, Bool.and_eq_true, decide_eq_true_eq, beq_iff_eq]
  exact ⟨h, base_raised _⟩
theorem sigPt_pub (s t : Int) : pubB (sigPt s t) = true := pub_pow (nonceN_bd s t).1 (nonceN_bd s t).2
theorem sigB_signed (s t : Int) : sigB (sigPt s t) (sigPr s t) = true := by
  have h := sigPr_bd s t
  simp only [sigB, sigPt_pub, inB, Bool.true_and, decide_eq_true_eq]
  exact h
theorem sum_of_pub {p : Int} (h : pubB p = true) : sumB p = true := by
  have := Go.Proofs.YtcolecidbalmhaaGreatDoor.pubB_bd h
  simp only [sumB, decide_eq_true_eq]; omega
/-- The equation of a signature that was made. -/
theorem sign_eq {s t : Int} (s0 : 1 ≤ s) : pw 4 (sigPr s t).toNat 2879 = sigPt s t * pw (pubN s) (chalN (pubN s) (sigPt s t) t).toNat 2879 % 2879 := by
  have hh := nonceN_bd s t
  have he := chalN_bd (pubN s) (sigPt s t) t
  unfold sigPr
  generalize chalN (pubN s) (sigPt s t) t = e at *
  unfold sigPt pubN
  generalize nonceN s t = h at *
  rw [pw_pw, pw_add]
  rw [base_mod (h.toNat + s.toNat * e.toNat)]
  congr 1
  obtain ⟨h, rfl⟩ := Int.eq_ofNat_of_zero_le (show 0 ≤ h by omega)
  obtain ⟨e, rfl⟩ := Int.eq_ofNat_of_zero_le he.1
  obtain ⟨s, rfl⟩ := Int.eq_ofNat_of_zero_le (show 0 ≤ s by omega)
  have q : ((h : Int) + (e : Int) * (s : Int)) % 1439 = ((h + e * s) % 1439 : Nat) := by simp
  rw [q]
  show (h + e * s) % 1439 = (h + s * e) % 1439
  rw [Nat.mul_comm s e]
theorem checked {s t : Int} (hs : inB s 1 1438 = true) (ht : sumB t = true) : checkB (pubN s) t (sigPt s t) (sigPr s t) = true := by
  have hs' := hs
  simp only [inB, decide_eq_true_eq] at hs'
  have hp : pubB (pubN s) = true := pub_pow hs'.1 hs'.2
  have he := sign_eq (t := t) hs'.1
  simp only [checkB, hp, ht, sigB_signed, Bool.and_self, Bool.true_and, beq_iff_eq]
  exact he
theorem four_moves {q : Int} (q0 : 0 ≤ q) (q1 : q ≤ 1438) : pw 4 ((q + 1) % 1439).toNat 2879 ≠ pw 4 q.toNat 2879 := by
  obtain ⟨q, rfl⟩ := Int.eq_ofNat_of_zero_le q0
  have e : (((q : Int) + 1) % 1439).toNat = (q + 1) % 1439 := by
    have : ((q : Int) + 1) % 1439 = ((q + 1) % 1439 : Nat) := by simp
    rw [this]; rfl
  have e2 : ((q : Int)).toNat = q := rfl
  rw [e, e2, ← base_mod, ← pw_add]
  have h1 : pw 4 1 2879 = 4 := pw_one (by omega) (by omega)
  rw [h1]
  have b := pw_bd 4 q (m := 2879) (by omega)
  have hpos : 1 ≤ pw 4 q 2879 := by
    rcases Nat.eq_zero_or_pos q with h | h
    · subst h; rw [pw_zero]; decide
    · have := (base_pub q h (by omega)).1; omega
  omega
theorem turned {s t : Int} (hs : inB s 1 1438 = true) : checkB (pubN s) t (sigPt s t) ((sigPr s t + 1) % 1439) = false := by
  have hs' := hs
  simp only [inB, decide_eq_true_eq] at hs'
  have he := sign_eq (t := t) hs'.1
  have hq := sigPr_bd s t
  have hm := four_moves hq.1 hq.2
  have : (pw 4 ((sigPr s t + 1) % 1439).toNat 2879 == sigPt s t * pw (pubN s) (chalN (pubN s) (sigPt s t) t).toNat 2879 % 2879) = false := by
    rw [← he, beq_eq_false_iff_ne]; exact hm
  simp only [checkB, this, Bool.and_false]

theorem sigB_bd {p q : Int} (h : sigB p q = true) : 2 ≤ p ∧ p ≤ 2878 ∧ 0 ≤ q ∧ q ≤ 1438 := by
  simp only [sigB, Bool.and_eq_true] at h
  have := Go.Proofs.YtcolecidbalmhaaGreatDoor.pubB_bd h.1
  have h2 := h.2
  simp only [inB, decide_eq_true_eq] at h2
  omega
end Go.Proofs.YtcolecidbalmhaaGreatDoor.M
namespace Go.Proofs.YtcolecidbalmhaaGreatDoor
set_option linter.unusedVariables false

/-- What is wrong with a hello; with a reply. -/
def helF (l : List UInt8) (r s : Int) : Int := if M.sumB r && pubB s then M.normF l else 3
def repF (r s p x y f : Int) : Int := if M.sumB r && pubB s && pubB p && M.sumB f then M.sigF x y else 3
theorem pub_bd {p : Int} (h : pubB p = true) : 0 ≤ p ∧ p ≤ 2878 := by
  simp only [pubB, inB, Bool.and_eq_true, decide_eq_true_eq] at h
  omega
theorem pub_sum6 {p : Int} (h : pubB p = true) : M.sumB p = true := by
  have := pub_bd h
  simp only [M.sumB, decide_eq_true_eq]
  omega
/-- The bytes ahead of a hello's name; the bytes of a hello. -/
def helHead (r s : Int) : List Int := [1] ++ M.two r ++ M.two s
def packH (n : ByteArray) (r s : Int) : List Int := helHead r s ++ M.textL n
def packHL (n : ByteArray) (r s : Int) : List Int := if helF n.data.toList r s = 0 then packH n r s else []
/-- The bytes ahead of a reply's signature; the bytes of a reply. -/
def frontR (r s p : Int) : List Int := [2] ++ M.two r ++ M.two s ++ M.two p
def packR (r s p x y f : Int) : List Int := frontR r s p ++ (M.two x ++ M.two y) ++ M.two f
def packRL (r s p x y f : Int) : List Int := if repF r s p x y f = 0 then packR r s p x y f else []
theorem two_byte {v : Int} (h : M.sumB v = true) : ∀ z ∈ M.two v, M.byteB z := by
  intro z hz
  simp only [M.sumB, decide_eq_true_eq] at h
  simp only [M.two, List.mem_cons, List.not_mem_nil, or_false] at hz
  unfold M.byteB
  omega
/-- What bytes say, read as a hello; as a reply. -/
def helNm (zs : List Int) : List UInt8 := (zs.drop 5).map fun z => UInt8.ofNat z.toNat
def tw (zs : List Int) (i : Nat) : Int := 256 * zs.getD i 0 + zs.getD (i + 1) 0
def helB (zs : List Int) : Bool := decide (helF (helNm zs) (tw zs 1) (tw zs 3) = 0)
def helOk (zs : List Int) : Bool := decide (5 ≤ zs.length) && decide (zs.getD 0 0 = 1) && helB zs
def repB (zs : List Int) : Bool := decide (repF (tw zs 1) (tw zs 3) (tw zs 5) (tw zs 7) (tw zs 9) (tw zs 11) = 0)
def repOk (zs : List Int) : Bool := decide (zs.length = 13) && decide (zs.getD 0 0 = 2) && repB zs
end Go.Proofs.YtcolecidbalmhaaGreatDoor
namespace Go.Proofs.YtcolecidbalmhaaGreatDoor
set_option linter.unusedVariables false

/-- A pin. -/
structure PinD where
  n : ByteArray
  a : Int
  b : Int
  e : Int
  u : Int
def pin0 : PinD := ⟨{ data := #[] }, 0, 0, 0, 0⟩
instance : Inhabited PinD := ⟨pin0⟩
def PinD.nm (p : PinD) : List UInt8 := p.n.data.toList
abbrev P5 (p : PinD) : Value := .agg #[.string p.n, .int .i64 p.a, .int .i64 p.b, .int .i64 p.e, .int .i64 p.u]
def PinD.vals (p : PinD) : List Value := [.string p.n, .int .i64 p.a, .int .i64 p.b, .int .i64 p.e, .int .i64 p.u]
theorem PinD.vals_length (p : PinD) : p.vals.length = 5 := rfl
/-- The cells of pins. -/
def flat (ps : List PinD) : List Value := ps.flatMap PinD.vals
theorem flat_cons (p : PinD) (ps : List PinD) : flat (p :: ps) = p.vals ++ flat ps := by simp [flat]
theorem flat_append (ps qs : List PinD) : flat (ps ++ qs) = flat ps ++ flat qs := by simp [flat]
theorem flat_length : ∀ ps : List PinD, (flat ps).length = ps.length * 5
  | [] => rfl
  | p :: r => by rw [flat_cons, List.length_append, flat_length r, PinD.vals_length, List.length_cons]; omega
theorem flat_get : ∀ (ps : List PinD) (j i : Nat) (v : Value), j < ps.length → (ps[j]?.getD pin0).vals[i]? = some v → (flat ps)[j * 5 + i]? = some v
  | [], j, i, v, hj, _ => by simp at hj
  | p :: r, 0, i, v, _, h => by
    have hi : i < 5 := by have := (List.getElem?_eq_some_iff.1 h).1; simpa [PinD.vals_length] using this
    rw [flat_cons, Nat.zero_mul, Nat.zero_add, List.getElem?_append_left (by rw [PinD.vals_length]; exact hi)]
    simpa using h
  | p :: r, j + 1, i, v, hj, h => by
    have := flat_get r j i v (by simpa using hj) (by simpa using h)
    rw [flat_cons, List.getElem?_append_right (by rw [PinD.vals_length]; omega), PinD.vals_length, show (j + 1) * 5 + i - 5 = j * 5 + i by omega]
    exact this
theorem flat_set : ∀ (ps : List PinD) (j : Nat) (p : PinD), j < ps.length → flat (ps.set j p) = (((((flat ps).set (j * 5) (.string p.n)).set (j * 5 + 1) (.int .i64 p.a)).set (j * 5 + 2) (.int .i64 p.b)).set (j * 5 + 3) (.int .i64 p.e)).set (j * 5 + 4) (.int .i64 p.u)
  | [], j, p, hj => by simp at hj
  | q :: r, 0, p, _ => by simp [flat_cons, PinD.vals]
  | q :: r, j + 1, p, hj => by
    rw [List.set_cons_succ, flat_cons, flat_set r j p (by simpa using hj), flat_cons]
    simp only [PinD.vals, List.cons_append, List.nil_append, show (j + 1) * 5 = j * 5 + 1 + 1 + 1 + 1 + 1 by omega, show j * 5 + 1 + 1 + 1 + 1 + 1 + 1 = (j * 5 + 1) + 1 + 1 + 1 + 1 + 1 by omega, show j * 5 + 1 + 1 + 1 + 1 + 1 + 2 = (j * 5 + 2) + 1 + 1 + 1 + 1 + 1 by omega, show j * 5 + 1 + 1 + 1 + 1 + 1 + 3 = (j * 5 + 3) + 1 + 1 + 1 + 1 + 1 by omega, show j * 5 + 1 + 1 + 1 + 1 + 1 + 4 = (j * 5 + 4) + 1 + 1 + 1 + 1 + 1 by omega, List.set_cons_succ]
/-- What is wrong with a pin. -/
def bakB (v : Int) : Bool := decide (v = 0) || pubB v
def epB (v : Int) : Bool := decide (1 ≤ v ∧ v ≤ 200)
def timB (v : Int) : Bool := decide (0 ≤ v ∧ v ≤ 9999)
def pinB (a b e u : Int) : Bool := pubB a && bakB b && epB e && timB u
def pinF (l : List UInt8) (a b e u : Int) : Int := if M.normF l = 0 then (if pinB a b e u then (if b = a then 6 else 0) else 3) else M.normF l
def PinD.f (p : PinD) : Int := pinF p.nm p.a p.b p.e p.u
theorem pinF_norm {l : List UInt8} {a b e u : Int} (h : M.normF l ≠ 0) : pinF l a b e u = M.normF l := by simp [pinF, h]
theorem pinF_no {l : List UInt8} {a b e u : Int} (h : M.normF l = 0) (h1 : pinB a b e u = false) : pinF l a b e u = 3 := by simp [pinF, h, h1]
theorem pinF_taken {l : List UInt8} {a b e u : Int} (h : M.normF l = 0) (h1 : pinB a b e u = true) (h2 : b = a) : pinF l a b e u = 6 := by
  unfold pinF
  rw [if_pos h, if_pos h1, if_pos h2]
theorem pinF_yes {l : List UInt8} {a b e u : Int} (h : M.normF l = 0) (h1 : pinB a b e u = true) (h2 : b ≠ a) : pinF l a b e u = 0 := by simp [pinF, h, h1, h2]
theorem pinF_zero {l : List UInt8} {a b e u : Int} (h : pinF l a b e u = 0) : M.normF l = 0 ∧ pubB a = true ∧ bakB b = true ∧ epB e = true ∧ timB u = true ∧ b ≠ a := by
  unfold pinF at h
  split at h
  · split at h
    · split at h
      · omega
      · rename_i h1 h2 h3
        simp only [pinB, Bool.and_eq_true] at h2
        exact ⟨h1, h2.1.1.1, h2.1.1.2, h2.1.2, h2.2, h3⟩
    · omega
  · exact absurd h ‹_›
theorem pin_size {p : PinD} (h : p.f = 0) : p.n.size ≤ 20 := by
  have h4 := (M.nameF_zero (M.normF_zero (pinF_zero h).1).1).1
  have hL : p.n.data.toList.length = p.n.size := by simp
  unfold PinD.nm at h4
  omega
theorem nm_inj {p q : ByteArray} (h : p.data.toList = q.data.toList) : p = q := by
  cases p; cases q
  simp only [ByteArray.mk.injEq]
  exact Array.toList_inj.1 h

/-- The order of names: bytes, one by one. -/
abbrev nlt (x y : List UInt8) : Bool := Op.bytesLess x y
theorem nlt_irrefl : ∀ x : List UInt8, nlt x x = false
  | [] => rfl
  | a :: r => by simp [nlt, Op.bytesLess]; exact nlt_irrefl r
theorem nlt_trans : ∀ {x y z : List UInt8}, nlt x y = true → nlt y z = true → nlt x z = true
  | _, [], _, h, _ => by simp [nlt, Op.bytesLess] at h
  | _, _ :: _, [], _, h => by simp [nlt, Op.bytesLess] at h
  | [], _ :: _, _ :: _, _, _ => by simp [nlt, Op.bytesLess]
  | a :: x, b :: y, c :: z, h1, h2 => by
    simp only [nlt, Op.bytesLess, Bool.or_eq_true, decide_eq_true_eq, Bool.and_eq_true, beq_iff_eq] at h1 h2 ⊢
    rcases h1 with h1 | ⟨rfl, h1⟩
    · rcases h2 with h2 | ⟨rfl, h2⟩
      · exact .inl (UInt8.lt_trans h1 h2)
      · exact .inl h1
    · rcases h2 with h2 | ⟨rfl, h2⟩
      · exact .inl h2
      · exact .inr ⟨rfl, nlt_trans h1 h2⟩
theorem nlt_total : ∀ {x y : List UInt8}, nlt x y = false → x ≠ y → nlt y x = true
  | [], [], _, h => absurd rfl h
  | [], _ :: _, h, _ => by simp [nlt, Op.bytesLess] at h
  | _ :: _, [], _, _ => by simp [nlt, Op.bytesLess]
  | a :: x, b :: y, h, hne => by
    simp only [nlt, Op.bytesLess, Bool.or_eq_false_iff, decide_eq_false_iff_not, Bool.and_eq_false_iff, beq_eq_false_iff_ne] at h
    simp only [nlt, Op.bytesLess, Bool.or_eq_true, decide_eq_true_eq, Bool.and_eq_true, beq_iff_eq]
    by_cases e : a = b
    · subst e
      refine .inr ⟨rfl, nlt_total (h.2.resolve_left (fun h => h rfl)) (fun e => hne (by rw [e]))⟩
    · refine .inl ?_
      have h1 := h.1
      rw [UInt8.lt_iff_toNat_lt] at h1 ⊢
      have : a.toNat ≠ b.toNat := fun h => e (UInt8.toNat_inj.1 h)
      omega
theorem nlt_asymm {x y : List UInt8} (h : nlt x y = true) : nlt y x = false := by
  cases h2 : nlt y x
  · rfl
  · have := nlt_trans h h2
    rw [nlt_irrefl] at this
    cases this
theorem nlt_ne {x y : List UInt8} (h : nlt x y = true) : x ≠ y := fun e => by rw [e, nlt_irrefl] at h; cases h
/-- 'list[i].Name <= list[i-1].Name' and 'list[i-1].Name >= list[i].Name'. -/
theorem nle_eq (x y : List UInt8) : (nlt x y || x == y) = !nlt y x := by
  cases h : nlt y x
  · by_cases e : y = x
    · subst e; simp
    · rw [nlt_total h e]; simp
  · rw [nlt_asymm h]
    have : (x == y) = false := by
      rw [beq_eq_false_iff_ne]
      exact fun e => nlt_ne h e.symm
    rw [this]; rfl
theorem cmp_lt : ∀ x y : List UInt8, decide (Lib.compareBytes x y < 0) = nlt x y
  | [], [] => by simp [Lib.compareBytes, nlt, Op.bytesLess]
  | [], _ :: _ => by simp [Lib.compareBytes, nlt, Op.bytesLess]
  | _ :: _, [] => by simp [Lib.compareBytes, nlt, Op.bytesLess]
  | a :: x, b :: y => by
    have ih := cmp_lt x y
    simp only [Lib.compareBytes, nlt, Op.bytesLess]
    by_cases h1 : a < b
    · simp [h1]
    · by_cases h2 : b < a
      · have : (a == b) = false := by
          rw [beq_eq_false_iff_ne]
          intro e
          subst e
          exact h1 h2
        simp [h1, h2, this]
      · have : a = b := by
          rw [UInt8.lt_iff_toNat_lt] at h1 h2
          exact UInt8.toNat_inj.1 (by omega)
        subst this
        simp only [h1, if_false, decide_false, Bool.false_or, beq_self_eq_true, Bool.true_and]
        exact ih

/-- Whether a name may stand behind another. -/
def okN : Option (List UInt8) → List UInt8 → Bool
  | none, _ => true
  | some x, l => nlt x l
def pinsG : Option (List UInt8) → List PinD → Int
  | _, [] => 0
  | q, p :: r => if p.f = 0 then (if okN q p.nm then pinsG (some p.nm) r else 1) else p.f
def pinsF (ps : List PinD) : Int := if 4 < ps.length then 2 else pinsG none ps
abbrev Rise (ps : List PinD) : Prop := ps.Pairwise fun p q => nlt p.nm q.nm = true
theorem pinsG_zero : ∀ {q : Option (List UInt8)} {ps : List PinD}, pinsG q ps = 0 → (∀ p ∈ ps, p.f = 0) ∧ Rise ps ∧ ∀ x, q = some x → ∀ p ∈ ps, nlt x p.nm = true
  | _, [], _ => ⟨by simp, .nil, by simp⟩
  | q, p :: r, h => by
    unfold pinsG at h
    by_cases h0 : p.f = 0
    · rw [if_pos h0] at h
      by_cases h1 : okN q p.nm = true
      · rw [if_pos h1] at h
        obtain ⟨g1, g2, g3⟩ := pinsG_zero h
        refine ⟨fun y hy => ?_, List.pairwise_cons.2 ⟨fun y hy => g3 _ rfl y hy, g2⟩, fun x hx y hy => ?_⟩
        · rcases List.mem_cons.1 hy with rfl | hy
          · exact h0
          · exact g1 y hy
        · subst hx
          rcases List.mem_cons.1 hy with rfl | hy
          · exact h1
          · exact nlt_trans h1 (g3 _ rfl y hy)
      · rw [if_neg h1] at h
        omega
    · rw [if_neg h0] at h
      exact absurd h h0
theorem pinsF_zero {ps : List PinD} (h : pinsF ps = 0) : ps.length ≤ 4 ∧ (∀ p ∈ ps, p.f = 0) ∧ Rise ps := by
  unfold pinsF at h
  by_cases h4 : 4 < ps.length
  · rw [if_pos h4] at h; omega
  · rw [if_neg h4] at h
    obtain ⟨g1, g2, -⟩ := pinsG_zero h
    exact ⟨by omega, g1, g2⟩
theorem pinsG_make : ∀ {q : Option (List UInt8)} {ps : List PinD}, (∀ p ∈ ps, p.f = 0) → Rise ps → (∀ x, q = some x → ∀ p ∈ ps, nlt x p.nm = true) → pinsG q ps = 0
  | _, [], _, _, _ => rfl
  | q, p :: r, h1, h2, h3 => by
    obtain ⟨r1, r2⟩ := List.pairwise_cons.1 h2
    unfold pinsG
    rw [if_pos (h1 p (by simp))]
    have hq : okN q p.nm = true := by
      cases q with
      | none => rfl
      | some x => exact h3 x rfl p (by simp)
    rw [if_pos hq]
    exact pinsG_make (fun y hy => h1 y (by simp [hy])) r2 (fun x hx y hy => by injection hx with hx; subst hx; exact r1 y hy)
theorem pinsF_make {ps : List PinD} (h : ps.length ≤ 4) (h1 : ∀ p ∈ ps, p.f = 0) (h2 : Rise ps) : pinsF ps = 0 := by
  unfold pinsF
  rw [if_neg (by omega)]
  exact pinsG_make h1 h2 (by simp)
/-- Ahead of pin k. -/
def prevN (ps : List PinD) : Nat → Option (List UInt8)
  | 0 => none
  | k + 1 => some (ps[k]?.getD pin0).nm
theorem pinsG_step {ps : List PinD} {k : Nat} (hk : k < ps.length) : pinsG (prevN ps k) (ps.drop k) = (if (ps[k]?.getD pin0).f = 0 then (if okN (prevN ps k) (ps[k]?.getD pin0).nm then pinsG (prevN ps (k + 1)) (ps.drop (k + 1)) else 1) else (ps[k]?.getD pin0).f) := by
  have e : ps.drop k = (ps[k]?.getD pin0) :: ps.drop (k + 1) := by
    rw [List.drop_eq_getElem_cons hk, List.getElem?_eq_getElem hk]
    rfl
  rw [e]
  rfl

/-- The pin of a name. -/
def findP (ps : List PinD) (l : List UInt8) : Option PinD := ps.find? fun p => decide (p.nm = l)
theorem rise_inj : ∀ {ps : List PinD}, Rise ps → ∀ {p q : PinD}, p ∈ ps → q ∈ ps → p.nm = q.nm → p = q
  | [], _, _, _, h, _, _ => by cases h
  | x :: r, hr, p, q, hp, hq, e => by
    obtain ⟨h1, h2⟩ := List.pairwise_cons.1 hr
    rcases List.mem_cons.1 hp with rfl | hp'
    · rcases List.mem_cons.1 hq with rfl | hq'
      · rfl
      · exact absurd e (nlt_ne (h1 q hq'))
    · rcases List.mem_cons.1 hq with rfl | hq'
      · exact absurd e.symm (nlt_ne (h1 p hp'))
      · exact rise_inj h2 hp' hq' e
theorem findP_mem {ps : List PinD} {l : List UInt8} {p : PinD} (h : findP ps l = some p) : p ∈ ps ∧ p.nm = l := by
  refine ⟨List.mem_of_find?_eq_some h, ?_⟩
  have := List.find?_some h
  simpa using this
theorem findP_none {ps : List PinD} {l : List UInt8} (h : findP ps l = none) : ∀ p ∈ ps, p.nm ≠ l := by
  intro p hp
  have := List.find?_eq_none.1 h p hp
  simpa using this
theorem findP_of {ps : List PinD} (hr : Rise ps) {p : PinD} (hp : p ∈ ps) : findP ps p.nm = some p := by
  cases h : findP ps p.nm with
  | none => exact absurd rfl (findP_none h p hp)
  | some q =>
    obtain ⟨h1, h2⟩ := findP_mem h
    rw [rise_inj hr h1 hp h2]

/-- A pin put among others, as the model does it. -/
def putG (p : PinD) : Bool → List PinD → List PinD
  | d, [] => if d then [] else [p]
  | d, q :: r => (if !d && !nlt q.nm p.nm then [p] else []) ++ (if q.nm = p.nm then [] else [q]) ++ putG p (d || !nlt q.nm p.nm) r
def putL (ps : List PinD) (p : PinD) : List PinD := putG p false ps
theorem putG_true (p : PinD) : ∀ (ps : List PinD), putG p true ps = ps.filter fun q => !decide (q.nm = p.nm)
  | [] => rfl
  | q :: r => by
    unfold putG
    simp only [Bool.not_true, Bool.false_and, Bool.false_eq_true, if_false, List.nil_append, Bool.true_or, putG_true p r]
    by_cases h : q.nm = p.nm
    · simp [h]
    · simp [h]
theorem putG_perm (p : PinD) : ∀ (ps : List PinD), (putG p false ps).Perm (p :: ps.filter fun q => !decide (q.nm = p.nm))
  | [] => by simp [putG]
  | q :: r => by
    unfold putG
    cases h : nlt q.nm p.nm
    · simp only [Bool.not_false, Bool.and_self, if_true, Bool.false_or, putG_true]
      by_cases e : q.nm = p.nm
      · simp [e]
      · simp [e]
    · simp only [Bool.not_true, Bool.and_false, Bool.false_eq_true, if_false, List.nil_append, Bool.or_false]
      rw [if_neg (nlt_ne h)]
      have ih := putG_perm p r
      have e : (List.filter (fun q => !decide (q.nm = p.nm)) (q :: r)) = q :: r.filter fun q => !decide (q.nm = p.nm) := by simp [nlt_ne h]
      rw [e]
      exact (List.Perm.cons q ih).trans (List.Perm.swap _ _ _)
theorem putL_mem {ps : List PinD} {p x : PinD} (h : x ∈ putL ps p) : x = p ∨ x ∈ ps := by
  have := (putG_perm p ps).mem_iff.1 h
  rcases List.mem_cons.1 this with h | h
  · exact .inl h
  · exact .inr (List.mem_filter.1 h).1
theorem putL_rise (p : PinD) : ∀ {ps : List PinD}, Rise ps → Rise (putL ps p)
  | [], _ => by simp [putL, putG, Rise]
  | q :: r, h => by
    obtain ⟨h1, h2⟩ := List.pairwise_cons.1 h
    show Rise (putG p false (q :: r))
    unfold putG
    cases hq : nlt q.nm p.nm
    · simp only [Bool.not_false, Bool.and_self, if_true, Bool.false_or, putG_true, List.singleton_append]
      have hf : r.filter (fun q => !decide (q.nm = p.nm)) = r := by
        refine List.filter_eq_self.2 fun x hx => ?_
        have hx1 := h1 x hx
        simp only [Bool.not_eq_true', decide_eq_false_iff_not]
        intro e
        rw [e] at hx1
        rw [hq] at hx1
        cases hx1
      rw [hf]
      by_cases e : q.nm = p.nm
      · rw [if_pos e]
        exact List.pairwise_cons.2 ⟨fun x hx => by rw [← e]; exact h1 x (by simpa using hx), by simpa using h2⟩
      · rw [if_neg e]
        have hpq := nlt_total hq e
        refine List.pairwise_cons.2 ⟨fun x hx => ?_, h⟩
        rcases List.mem_cons.1 hx with rfl | hx
        · exact hpq
        · exact nlt_trans hpq (h1 x (by simpa using hx))
    · simp only [Bool.not_true, Bool.and_false, Bool.false_eq_true, if_false, List.nil_append, Bool.or_false]
      rw [if_neg (nlt_ne hq)]
      refine List.pairwise_cons.2 ⟨fun x hx => ?_, putL_rise p h2⟩
      rcases putL_mem (ps := r) hx with rfl | hx
      · exact hq
      · exact h1 x hx
theorem rise_eq : ∀ {xs ys : List PinD}, xs.Perm ys → Rise xs → Rise ys → xs = ys
  | [], ys, h, _, _ => (List.nil_perm.1 h).symm
  | x :: r, [], h, _, _ => by simp at h
  | x :: r, y :: s, h, hx, hy => by
    obtain ⟨x1, x2⟩ := List.pairwise_cons.1 hx
    obtain ⟨y1, y2⟩ := List.pairwise_cons.1 hy
    have hxy : x = y := by
      have m1 : x ∈ y :: s := h.mem_iff.1 (by simp)
      have m2 : y ∈ x :: r := h.mem_iff.2 (by simp)
      rcases List.mem_cons.1 m1 with e | m1
      · exact e
      · rcases List.mem_cons.1 m2 with e | m2
        · exact e.symm
        · have := nlt_trans (x1 y m2) (y1 x m1)
          rw [nlt_irrefl] at this
          cases this
    subst hxy
    rw [rise_eq (List.Perm.cons_inv h) x2 y2]
/-- What putting a pin answers. -/
def putC (ps : List PinD) (p : PinD) : Int :=
  if pinsF ps ≠ 0 then pinsF ps else if p.f ≠ 0 then p.f else match findP ps p.nm with
    | some q => if q.e ≥ p.e then 11 else 0
    | none => if ps.length = 4 then 7 else 0
def putR (ps : List PinD) (p : PinD) : List PinD := if putC ps p = 0 then putL ps p else []
/-- What finding a pin answers. -/
def findC (ps : List PinD) (l : List UInt8) : Int :=
  if pinsF ps ≠ 0 then pinsF ps else if M.nameF l ≠ 0 then M.nameF l else match findP ps (M.nrm l) with
    | some _ => 0
    | none => 4
def findR (ps : List PinD) (l : List UInt8) : PinD :=
  if pinsF ps ≠ 0 then pin0 else if M.nameF l ≠ 0 then pin0 else (findP ps (M.nrm l)).getD pin0
end Go.Proofs.YtcolecidbalmhaaGreatDoor
namespace Go.Proofs.YtcolecidbalmhaaGreatDoor
open Go.RowKit
set_option maxRecDepth 100000
set_option linter.unusedVariables false

/-- A slice of pins that is read: 'ps' are its elements; it lies below block B. -/
structure PRow (w : World) (B : Nat) (a : Option Addr) (len cap : Nat) (ps : List PinD) : Prop where
  length : ps.length = len
  fits : len ≤ cap
  most : cap ≤ maxLen
  names : ∀ p ∈ ps, p.n.size ≤ maxLen
  cells : 0 < len → ∃ b off, a = some ⟨b, off, none⟩ ∧ b < B ∧ ∀ j, j < len → ∀ i v, (ps[j]?.getD pin0).vals[i]? = some v → w.cell? ⟨b, off + j * 5 + i, none⟩ = some v
section
variable {w w' : World} {B B' : Nat} {a : Option Addr} {len cap : Nat} {ps : List PinD}
theorem PRow.keep (h : PRow w B a len cap ps) (hk : ∀ i, i < B → w'.heap[i]? = w.heap[i]?) : PRow w' B a len cap ps :=
  ⟨h.length, h.fits, h.most, h.names, fun hp => by
    obtain ⟨b, off, e, hb, hc⟩ := h.cells hp
    exact ⟨b, off, e, hb, fun j hj i v hv => (World.cell?_of_block (w := w) (hk b hb)).trans (hc j hj i v hv)⟩⟩
theorem PRow.below (h : PRow w B a len cap ps) (hb : Below B w w') : PRow w' B a len cap ps := h.keep hb.block
theorem PRow.more (h : PRow w B a len cap ps) (hB : B ≤ B') : PRow w B' a len cap ps :=
  ⟨h.length, h.fits, h.most, h.names, fun hp => by
    obtain ⟨b, off, e, hb, hc⟩ := h.cells hp
    exact ⟨b, off, e, by omega, hc⟩⟩
theorem PRow.on (h : PRow w w.heap.size a len cap ps) (hb : Below w.heap.size w w') : PRow w' w'.heap.size a len cap ps := (h.below hb).more hb.size
theorem PRow.alloc (h : PRow w B a len cap ps) (hB : B ≤ w.heap.size) (o : Obj) : PRow (w.alloc o) B a len cap ps := h.below ((Below.refl B w).alloc hB o)
theorem PRow.nil (w : World) (B : Nat) : PRow w B none 0 0 [] := ⟨rfl, Nat.le_refl _, Nat.zero_le _, by simp, fun h => absurd h (by omega)⟩
/-- Element k's five cells. -/
theorem PRow.at' (h : PRow w B a len cap ps) {k : Nat} (hk : k < len) : ∃ b off, a = some ⟨b, off, none⟩ ∧ b < B ∧
    w.cell? ⟨b, off + k * 5, none⟩ = some (.string (ps[k]?.getD pin0).n) ∧ w.cell? ⟨b, off + k * 5 + 1, none⟩ = some (.int .i64 (ps[k]?.getD pin0).a) ∧ w.cell? ⟨b, off + k * 5 + 2, none⟩ = some (.int .i64 (ps[k]?.getD pin0).b) ∧
    w.cell? ⟨b, off + k * 5 + 3, none⟩ = some (.int .i64 (ps[k]?.getD pin0).e) ∧ w.cell? ⟨b, off + k * 5 + 4, none⟩ = some (.int .i64 (ps[k]?.getD pin0).u) := by
  obtain ⟨b, off, e, hb, hc⟩ := h.cells (by omega)
  exact ⟨b, off, e, hb, hc k hk 0 _ rfl, hc k hk 1 _ rfl, hc k hk 2 _ rfl, hc k hk 3 _ rfl, hc k hk 4 _ rfl⟩
theorem PRow.mem (h : PRow w B a len cap ps) {k : Nat} (hk : k < len) : (ps[k]?.getD pin0) ∈ ps := by
  have := h.length
  rw [List.getElem?_eq_getElem (by omega)]
  exact List.getElem_mem _
theorem PRow.name (h : PRow w B a len cap ps) {k : Nat} (hk : k < len) : (ps[k]?.getD pin0).n.size ≤ maxLen := h.names _ (h.mem hk)
end

/-- A slice of pins of the call's own. -/
def OwnP (w : World) (B : Nat) (v : Value) (ps : List PinD) : Prop := Own w B 5 v ps.length (flat ps)
section
variable {w w' : World} {B : Nat} {v : Value} {ps : List PinD}
theorem OwnP.row {a : Option Addr} {len cap : Nat} (h : OwnP w B (.slice a len cap) ps) (hs : ∀ p ∈ ps, p.n.size ≤ maxLen) : PRow w w.heap.size a len cap ps := by
  rcases h.2 with ⟨e, h0⟩ | ⟨g, c, e, hb, hg, h1, h2, hc, _⟩
  · injection e with e1 e2 e3
    subst e1; subst e2; subst e3
    obtain rfl : ps = [] := List.eq_nil_of_length_eq_zero h0
    exact PRow.nil _ _
  · injection e with e1 e2 e3
    subst e1; subst e2; subst e3
    exact ⟨rfl, h1, h2, hs, fun hp => ⟨g, 0, rfl, hg, fun j hj i v hv => by
      rw [Nat.zero_add]
      exact hc _ v (flat_get ps j i v hj hv)⟩⟩
theorem OwnP.row' {a : Option Addr} {len cap : Nat} (h : OwnP w B (.slice a len cap) ps) (hs : ∀ p ∈ ps, p.n.size ≤ maxLen) : PRow w w.heap.size a len cap ps ∧ len = ps.length := ⟨h.row hs, (h.row hs).length.symm⟩
theorem OwnP.nil (w : World) (B : Nat) : OwnP w B (.slice none 0 0) [] := Own.nil w B 5
theorem OwnP.alloc (h : OwnP w B v ps) (o : Obj) : OwnP (w.alloc o) B v ps := Own.alloc h o
theorem OwnP.below (h : OwnP w B v ps) (hb : Below w.heap.size w w') : OwnP w' B v ps := Own.below h hb
theorem OwnP.form (h : OwnP w B v ps) : ∃ a cap, v = .slice a ps.length cap ∧ ps.length ≤ cap ∧ cap ≤ maxLen ∧ (a = none → ps.length = 0 ∧ cap = 0) := Own.form h
theorem OwnP.less {B' : Nat} (h : OwnP w B v ps) (hB : B' ≤ B) : OwnP w B' v ps := Own.less h hB
end
/-- One cell of an owned slice is stored. -/
theorem Own.putCell {w : World} {B s g n c : Nat} {xs : List Value} {i : Nat} {u : Value} (h : Own w B s (.slice (some ⟨g, 0, none⟩) n c) n xs) (hi : i < xs.length) : Own (w.setCell ⟨g, i, none⟩ u) B s (.slice (some ⟨g, 0, none⟩) n c) n (xs.set i u) := by
  have hlen := h.1
  rcases h.2 with ⟨e, h0⟩ | ⟨g', c', e, hB, hg, hn, hm, hcell, hroom⟩
  · cases e
  injection e with e1 e2 e3
  injection e1 with e1
  injection e1 with e1 _ _
  subst e1
  subst e3
  have hfit : n * s ≤ c * s := Nat.mul_le_mul_right _ hn
  refine ⟨by simpa using hlen, .inr ⟨g, c, rfl, hB, by simpa [World.setCell] using hg, hn, hm, fun j u' hu => ?_, fun j hj => ?_⟩⟩
  · have hj := (List.getElem?_eq_some_iff.1 hu).1
    simp at hj
    by_cases hji : j = i
    · subst hji
      obtain ⟨u0, hu0⟩ := Option.isSome_iff_exists.1 (hroom j (by omega)).1
      rw [World.cell?_setCell_same _ _ _ (by rw [hu0]), ← hu]
      simp [hj]
    · rw [World.cell?_setCell_other _ _ _ _ (fun e => by injection e with _ e2; omega)]
      refine hcell j u' ?_
      rw [← hu]
      simp [show ¬ i = j by omega]
  · obtain ⟨q1, q2⟩ := hroom j hj
    refine ⟨?_, by rw [World.frozen?_setCell]; exact q2⟩
    obtain ⟨u0, hu0⟩ := Option.isSome_iff_exists.1 q1
    obtain ⟨v, hv⟩ := cell?_setCell_some (w := w) (p := ⟨g, i, none⟩) (x := u) (q := ⟨g, j, none⟩) (v := u0) hu0
    rw [hv]; rfl
/-- One pin of an owned slice is stored. -/
theorem OwnP.put {w : World} {B g n c : Nat} {ps : List PinD} {k : Nat} {p : PinD} (h : OwnP w B (.slice (some ⟨g, 0, none⟩) n c) ps) (hk : k < ps.length) :
    OwnP (((((w.setCell ⟨g, k * 5, none⟩ (.string p.n)).setCell ⟨g, k * 5 + 1, none⟩ (.int .i64 p.a)).setCell ⟨g, k * 5 + 2, none⟩ (.int .i64 p.b)).setCell ⟨g, k * 5 + 3, none⟩ (.int .i64 p.e)).setCell ⟨g, k * 5 + 4, none⟩ (.int .i64 p.u)) B (.slice (some ⟨g, 0, none⟩) n c) (ps.set k p) := by
  have hn : n = ps.length := by
    obtain ⟨a, cap, e, _⟩ := h.form
    injection e
  subst hn
  have hl := flat_length ps
  unfold OwnP
  rw [flat_set ps k p hk, List.length_set]
  refine Own.putCell (Own.putCell (Own.putCell (Own.putCell (Own.putCell h ?_) ?_) ?_) ?_) ?_ <;> (try simp only [List.length_set]) <;> omega
/-- That a cell of an owned slice can be written. -/
theorem OwnP.cell {w : World} {B g n c : Nat} {ps : List PinD} (h : OwnP w B (.slice (some ⟨g, 0, none⟩) n c) ps) {k i : Nat} (hk : k < ps.length) {u : Value} (hu : (ps[k]?.getD pin0).vals[i]? = some u) :
    w.cell? ⟨g, k * 5 + i, none⟩ = some u ∧ w.frozen? ⟨g, k * 5 + i, none⟩ = false := by
  rcases h.2 with ⟨e, h0⟩ | ⟨g', c', e, hB, hg, hn, hm, hcell, hroom⟩
  · cases e
  injection e with e1 e2 e3
  injection e1 with e1
  injection e1 with e1 _ _
  subst e1
  subst e3
  have hi : i < 5 := by have := (List.getElem?_eq_some_iff.1 hu).1; simpa [PinD.vals_length] using this
  have : (k + 1) * 5 ≤ c * 5 := Nat.mul_le_mul_right _ (by omega)
  exact ⟨hcell _ _ (flat_get ps k i u hk hu), (hroom _ (by omega)).2⟩
theorem pin_oneCell (p : PinD) : ∀ v ∈ p.vals, v.oneCell' = true := by
  intro v hv
  simp only [PinD.vals, List.mem_cons, List.not_mem_nil, or_false] at hv
  rcases hv with rfl | rfl | rfl | rfl | rfl <;> rfl
end Go.Proofs.YtcolecidbalmhaaGreatDoor
namespace Go.Proofs.YtcolecidbalmhaaGreatDoor
open Go.RowKit
set_option linter.unusedVariables false

/-- A disk: records, how many are safe. -/
structure DiskD where
  rs : List (List Int)
  s : Int
/-- A store: pins, a disk. -/
structure StoreD where
  ps : List PinD
  d : DiskD
def disk0 : DiskD := ⟨[], 0⟩
def store0 : StoreD := ⟨[], disk0⟩
def longR (zs : List Int) : Bool := decide (40 < zs.length)
/-- What is wrong with a disk. -/
def diskF (d : DiskD) : Int := if 12 < d.rs.length then 2 else if d.rs.any longR then 2 else if 0 ≤ d.s ∧ d.s ≤ d.rs.length then 0 else 3
theorem diskF_many {d : DiskD} (h : 12 < d.rs.length) : diskF d = 2 := by unfold diskF; rw [if_pos h]
theorem diskF_long {d : DiskD} (h : ¬ 12 < d.rs.length) (h1 : d.rs.any longR = true) : diskF d = 2 := by unfold diskF; rw [if_neg h, if_pos h1]
theorem diskF_safe {d : DiskD} (h : ¬ 12 < d.rs.length) (h1 : d.rs.any longR = false) (h2 : ¬ (0 ≤ d.s ∧ d.s ≤ d.rs.length)) : diskF d = 3 := by unfold diskF; rw [if_neg h, if_neg (by rw [h1]; simp), if_neg h2]
theorem diskF_yes {d : DiskD} (h : ¬ 12 < d.rs.length) (h1 : d.rs.any longR = false) (h2 : 0 ≤ d.s ∧ d.s ≤ d.rs.length) : diskF d = 0 := by unfold diskF; rw [if_neg h, if_neg (by rw [h1]; simp), if_pos h2]
theorem diskF_zero {d : DiskD} (h : diskF d = 0) : d.rs.length ≤ 12 ∧ d.rs.any longR = false ∧ 0 ≤ d.s ∧ d.s ≤ d.rs.length := by
  by_cases h1 : 12 < d.rs.length
  · rw [diskF_many h1] at h; cases h
  · cases h2 : d.rs.any longR
    · by_cases h3 : 0 ≤ d.s ∧ d.s ≤ d.rs.length
      · exact ⟨by omega, rfl, h3.1, h3.2⟩
      · rw [diskF_safe h1 h2 h3] at h; cases h
    · rw [diskF_long h1 h2] at h; cases h
theorem long_of {rs : List (List Int)} (h : rs.any longR = false) : ∀ r ∈ rs, r.length ≤ 40 := by
  intro r hr
  have := List.any_eq_false.1 h r hr
  simp only [longR, decide_eq_true_eq] at this
  omega
end Go.Proofs.YtcolecidbalmhaaGreatDoor
namespace Go.Proofs.YtcolecidbalmhaaGreatDoor
open Go.RowKit
set_option maxRecDepth 100000
set_option linter.unusedVariables false

/-- A store that is read: its pins, its records; it lies below block B. -/
structure SRow (w : World) (B : Nat) (a1 : Option Addr) (n1 c1 : Nat) (a2 : Option Addr) (n2 c2 : Nat) (s : StoreD) : Prop where
  ps : PRow w B a1 n1 c1 s.ps
  rs : Grid w B a2 n2 c2 s.d.rs
  wf : ∀ zs ∈ s.d.rs, ∀ z ∈ zs, (Lit.int .u8 z).wf = true
section
variable {w w' : World} {B B' : Nat} {a1 a2 : Option Addr} {n1 c1 n2 c2 : Nat} {s : StoreD}
theorem SRow.below (h : SRow w B a1 n1 c1 a2 n2 c2 s) (hb : Below B w w') : SRow w' B a1 n1 c1 a2 n2 c2 s := ⟨h.ps.below hb, h.rs.below hb, h.wf⟩
theorem SRow.more (h : SRow w B a1 n1 c1 a2 n2 c2 s) (hB : B ≤ B') : SRow w B' a1 n1 c1 a2 n2 c2 s := ⟨h.ps.more hB, h.rs.more hB, h.wf⟩
theorem SRow.on (h : SRow w w.heap.size a1 n1 c1 a2 n2 c2 s) (hb : Below w.heap.size w w') : SRow w' w'.heap.size a1 n1 c1 a2 n2 c2 s := (h.below hb).more hb.size
theorem SRow.nil (w : World) (B : Nat) : SRow w B none 0 0 none 0 0 store0 := ⟨PRow.nil w B, Grid.nil w B, fun _ h => by cases h⟩
end
/-- A store that a call made: its pins lie from block lo on, its records behind them, all of it ahead of block hi. -/
def SOwn (w : World) (lo hi : Nat) (v1 v2 : Value) (s : StoreD) : Prop :=
  ∃ mid xs, lo ≤ mid ∧ mid ≤ hi ∧ OwnP w lo v1 s.ps ∧ (∀ k, v1.ownBlock = some k → k < mid) ∧ OwnG w mid hi v2 s.d.rs xs ∧ (∀ p ∈ s.ps, p.n.size ≤ maxLen) ∧ ∀ zs ∈ s.d.rs, ∀ z ∈ zs, (Lit.int .u8 z).wf = true
section
variable {w w' : World} {lo hi : Nat} {v1 v2 : Value} {s : StoreD}
theorem SOwn.keep (h : SOwn w lo hi v1 v2 s) (hs : w.heap.size ≤ w'.heap.size) (hk : ∀ k, lo ≤ k → k < hi → w'.heap[k]? = w.heap[k]?) : SOwn w' lo hi v1 v2 s := by
  obtain ⟨mid, xs, h1, h2, h3, h4, h5, h6⟩ := h
  exact ⟨mid, xs, h1, h2, Own.keep h3 hs (fun k e => hk k (Own.lt h3 k e).1 (by have := h4 k e; omega)), h4, h5.keep hs (fun k e1 e2 => hk k (by omega) e2), h6⟩
theorem SOwn.top (h : SOwn w lo hi v1 v2 s) : lo ≤ hi ∧ hi ≤ w.heap.size := by
  obtain ⟨mid, xs, h1, h2, h3, h4, h5, h6⟩ := h
  exact ⟨by omega, h5.top⟩
theorem SOwn.below (h : SOwn w lo hi v1 v2 s) (hb : Below w.heap.size w w') : SOwn w' lo hi v1 v2 s := h.keep hb.size fun k _ h2 => hb.block k (by have := h.top; omega)
theorem SOwn.inn {l2 h2 : Nat} (h : SOwn w lo hi v1 v2 s) (k : Inn l2 h2 w w') (hd : hi ≤ l2 ∨ h2 ≤ lo) : SOwn w' lo hi v1 v2 s := h.keep k.size fun i h3 h4 => k.block i (by have := h.top; omega) (by omega)
theorem SOwn.setCell (h : SOwn w lo hi v1 v2 s) {p : Addr} (hp : p.block < lo ∨ hi ≤ p.block) (u : Value) : SOwn (w.setCell p u) lo hi v1 v2 s := h.keep (by simp [World.setCell]) fun k h1 h2 => Below.heap_setCell w p u k (by omega)
theorem SOwn.less {lo' : Nat} (h : SOwn w lo hi v1 v2 s) (hl : lo' ≤ lo) : SOwn w lo' hi v1 v2 s := by
  obtain ⟨mid, xs, h1, h2, h3, h4, h5, h6⟩ := h
  exact ⟨mid, xs, by omega, h2, OwnP.less h3 hl, h4, h5, h6⟩
theorem SOwn.more {hi' : Nat} (h : SOwn w lo hi v1 v2 s) (h1 : hi ≤ hi') (h2 : hi' ≤ w.heap.size) : SOwn w lo hi' v1 v2 s := by
  obtain ⟨mid, xs, q1, q2, h3, h4, h5, h6⟩ := h
  exact ⟨mid, xs, q1, by omega, h3, h4, h5.more h1 h2, h6⟩
theorem SOwn.nil (w : World) (lo : Nat) (hl : lo ≤ w.heap.size) : SOwn w lo w.heap.size (.slice none 0 0) (.slice none 0 0) store0 :=
  ⟨lo, [], Nat.le_refl _, hl, OwnP.nil _ _, fun k hk => by simp [Value.ownBlock] at hk, OwnG.nil _ _ _ (Nat.le_refl _), (fun _ h => by cases h), fun _ h => by cases h⟩
theorem SOwn.row {a1 a2 : Option Addr} {n1 c1 n2 c2 : Nat} (h : SOwn w lo hi (.slice a1 n1 c1) (.slice a2 n2 c2) s) : SRow w w.heap.size a1 n1 c1 a2 n2 c2 s := by
  obtain ⟨mid, xs, h1, h2, h3, h4, h5, h6, h7⟩ := h
  exact ⟨OwnP.row h3 h6, h5.grid h7, h7⟩
theorem SOwn.len {a1 a2 : Option Addr} {n1 c1 n2 c2 : Nat} (h : SOwn w lo hi (.slice a1 n1 c1) (.slice a2 n2 c2) s) : n1 = s.ps.length ∧ n2 = s.d.rs.length := by
  have := h.row
  exact ⟨this.ps.length.symm, this.rs.length.symm⟩
/-- Pins and records, each of a call's own, one behind the other. -/
theorem SOwn.mk' {W : World} {v1 v2 : Value} {ps : List PinD} {rs : List (List Int)} {x : Int} {xs : List Value} {mid : Nat} (h1 : OwnP w lo v1 ps) (hm : lo ≤ mid) (h2 : ∀ k, v1.ownBlock = some k → k < mid) (h3 : OwnG w mid hi v2 rs xs) (hh : mid ≤ hi) (h4 : ∀ p ∈ ps, p.n.size ≤ maxLen) (h5 : ∀ zs ∈ rs, ∀ z ∈ zs, (Lit.int .u8 z).wf = true) : SOwn w lo hi v1 v2 ⟨ps, ⟨rs, x⟩⟩ := ⟨mid, xs, hm, hh, h1, h2, h3, h4, h5⟩
end
/-- A store's value. -/
abbrev S3 (a1 : Option Addr) (n1 c1 : Nat) (a2 : Option Addr) (n2 c2 : Nat) (x : Int) : Value := .agg #[.slice a1 n1 c1, .slice a2 n2 c2, .int .i64 x]
def S3L (a1 : Option Addr) (n1 c1 : Nat) (a2 : Option Addr) (n2 c2 : Nat) (x : Int) : List Value := [.slice a1 n1 c1, .slice a2 n2 c2, .int .i64 x]
/-- A store's value in a result. -/
abbrev V4 (c : Int) (a1 : Option Addr) (n1 c1 : Nat) (a2 : Option Addr) (n2 c2 : Nat) (x : Int) : Value := .agg #[.int .i64 c, .slice a1 n1 c1, .slice a2 n2 c2, .int .i64 x]
/-- A code and a store of new memory were answered. -/
def StoreRes (c : Int) (s : StoreD) (w : World) (e : Ending) (w' : World) : Prop :=
  ∃ a1 n1 c1 a2 n2 c2, e = .returned (V4 c a1 n1 c1 a2 n2 c2 s.d.s) ∧ SOwn w' w.heap.size w'.heap.size (.slice a1 n1 c1) (.slice a2 n2 c2) s ∧ Below w.heap.size w w'
end Go.Proofs.YtcolecidbalmhaaGreatDoor
namespace Go.Proofs.YtcolecidbalmhaaGreatDoor
open Go.RowKit
set_option maxRecDepth 100000
set_option linter.unusedVariables false

theorem eqPin_any (p : PinD) (w : World) : Calls Tryz.prog 184 #[P5 p, P5 p] w fun e w' => e = .returned (.bool true) ∧ Below w.heap.size w w' := by
  have b0 := bal (bal (Below.refl _ w) (.cells #[.string p.n, .int .i64 p.a, .int .i64 p.b, .int .i64 p.e, .int .i64 p.u] 31)) (.cells #[.string p.n, .int .i64 p.a, .int .i64 p.b, .int .i64 p.e, .int .i64 p.u] 31)
  go_enter Tryz.func184, Tryz.ntmps184
  go_wp2_with fail
  go_ret
  exact ⟨rfl, b0⟩
theorem toPin_any (p : PinD) (w : World) : Calls Tryz.prog 122 #[P5 p] w fun e w' => e = .returned (P5 p) ∧ Below w.heap.size w w' := by
  have b0 := bal (bal (bal (Below.refl _ w) (.cells #[.string p.n, .int .i64 p.a, .int .i64 p.b, .int .i64 p.e, .int .i64 p.u] 85)) (.cells #[.string p.n, .int .i64 p.a, .int .i64 p.b, .int .i64 p.e, .int .i64 p.u] 31)) (.cells #[.string p.n, .int .i64 p.a, .int .i64 p.b, .int .i64 p.e, .int .i64 p.u] 31)
  go_enter Tryz.func122, Tryz.ntmps122
  go_wp2_with fail
  exact bodyPost_ret (v := P5 p) (by simp [results, Tryz.results122, go_sem]) rfl ⟨rfl, b0⟩
theorem szPin_any (p : PinD) (l : Int) (w : World) (hn : p.n.size ≤ maxLen) (l0 : 0 ≤ l) (l1 : l ≤ 1048576) :
    Calls Tryz.prog 119 #[P5 p, .int .i64 l] w fun e w' => e = .returned (.int .i64 (if l < p.n.size then -1 else l - p.n.size)) ∧ Below w.heap.size w w' := by
  have hb := bal (Below.refl _ w) (.cells #[.string p.n, .int .i64 p.a, .int .i64 p.b, .int .i64 p.e, .int .i64 p.u] 85)
  unfold maxLen at hn
  by_cases h : l < p.n.size
  · have h' : l - p.n.size < 0 := by omega
    rw [if_pos h]
    go_enter Tryz.func119, Tryz.ntmps119
    go_wp2_with fail
    go_ret
    exact ⟨rfl, hb⟩
  · have h' : ¬ l - p.n.size < 0 := by omega
    rw [if_neg h]
    go_enter Tryz.func119, Tryz.ntmps119
    go_wp2_with fail
    go_ret
    exact ⟨rfl, hb⟩

/-- How much of a bound pins leave. -/
def szL : List PinD → Int → Int
  | [], l => l
  | p :: r, l => if l < p.n.size then -1 else szL r (l - p.n.size)
def szP (ps : List PinD) (l : Int) : Int := if l < ps.length then -1 else szL ps (l - ps.length)
theorem szL_le : ∀ (ps : List PinD) (l : Int), 0 ≤ l → szL ps l ≤ l ∧ -1 ≤ szL ps l
  | [], l, h => ⟨Int.le_refl _, by unfold szL; omega⟩
  | p :: r, l, h => by
    unfold szL
    split
    · omega
    · have := szL_le r (l - p.n.size) (by omega)
      omega
theorem szL_mem : ∀ (ps : List PinD) (l : Int), 0 ≤ szL ps l → ∀ p ∈ ps, (p.n.size : Int) ≤ l
  | [], l, _, _, hp => by cases hp
  | q :: r, l, h, p, hp => by
    unfold szL at h
    split at h
    · omega
    · rcases List.mem_cons.1 hp with rfl | hp
      · omega
      · have := szL_mem r _ h p hp
        omega
theorem szP_ok {ps : List PinD} {l : Int} (h : 0 ≤ szP ps l) : (ps.length : Int) ≤ l ∧ (∀ p ∈ ps, (p.n.size : Int) ≤ l) ∧ szP ps l ≤ l := by
  unfold szP at h ⊢
  split at h
  · omega
  · rw [if_neg ‹_›]
    refine ⟨by omega, fun p hp => ?_, ?_⟩
    · have := szL_mem _ _ h p hp
      omega
    · have := (szL_le ps (l - ps.length) (by omega)).1
      omega
theorem szL_step {ps : List PinD} {k : Nat} (hk : k < ps.length) (l : Int) : szL (ps.drop k) l = if l < (ps[k]?.getD pin0).n.size then -1 else szL (ps.drop (k + 1)) (l - (ps[k]?.getD pin0).n.size) := by
  have e : ps.drop k = (ps[k]?.getD pin0) :: ps.drop (k + 1) := by
    rw [List.drop_eq_getElem_cons hk, List.getElem?_eq_getElem hk]
    rfl
  rw [e]
  rfl
def SzRel (w : World) (ps : List PinD) (t : Int) (k : Nat) (l : Int) (wr : World) : Prop := 0 ≤ l ∧ l ≤ 1048576 ∧ szL (ps.drop k) l = t ∧ Below w.heap.size w wr
theorem szPinS_any (a : Option Addr) (len cap B : Nat) (ps : List PinD) (l : Int) (w : World) (hR : PRow w B a len cap ps) (hB : B ≤ w.heap.size) (l0 : 0 ≤ l) (l1 : l ≤ 1048576) :
    Calls Tryz.prog 117 #[.slice a len cap, .int .i64 l] w fun e w' => e = .returned (.int .i64 (szP ps l)) ∧ Below w.heap.size w w' := by
  have hL := Lib.hid hR.length
  have hm := hR.most
  have hf := hR.fits
  unfold maxLen at hm
  by_cases h : l < len
  · have E : szP ps l = -1 := by unfold szP; rw [hL.out, if_pos h]
    rw [E]
    have h' : l - len < 0 := by omega
    go_enter Tryz.func117, Tryz.ntmps117
    go_wp2_with fail
    go_ret
    exact ⟨rfl, Below.refl _ _⟩
  have E : szP ps l = szL ps (l - len) := by unfold szP; rw [hL.out, if_neg h]
  rw [E]
  have h' : ¬ l - len < 0 := by omega
  have T0 : SzRel w ps (szL ps (l - len)) 0 (l - len) w := ⟨by omega, by omega, rfl, Below.refl _ _⟩
  generalize szL ps (l - len) = t at *
  clear E
  go_enter Tryz.func117, Tryz.ntmps117
  go_wp2_with fail
  go_loopw [1, 5] (fun x i wr => ∃ (k : Nat) (y : Int), k ≤ len ∧ i = .int .i64 k ∧ x = .int .i64 y ∧ SzRel w ps t k y wr) (fun _ i _ => len - (intOf i).toNat)
  case atStart => exact ⟨0, _, Nat.zero_le _, rfl, rfl, T0⟩
  case round =>
    obtain ⟨k, y, hk, rfl, rfl, y0, y1, hy, hb⟩ := hrel
    clear T0
    by_cases hlt : k < len
    · obtain ⟨b, off, ha, hbB, c0, c1, c2, c3, c4⟩ := (hR.below (hb.mono hB)).at' hlt
      have hst := szL_step (by rw [hL.out]; exact hlt) y
      rw [hy] at hst
      have S := szPin_any (ps[k]?.getD pin0) y wr (hR.name hlt) y0 y1
      subst ha
      generalize ps[k]?.getD pin0 = p at *
      by_cases hs : y < p.n.size
      · rw [if_pos hs] at hst S
        clear hy
        subst hst
        go_wp2_with fail
        refine S.mono ?_
        rintro r w2 ⟨rfl, b2⟩
        have bb := btr hb b2
        go_wp2_with fail
        go_ret
        exact ⟨rfl, bb⟩
      · rw [if_neg hs] at hst S
        have hn : ¬ y - p.n.size < 0 := by omega
        have hy0 : 0 ≤ y - (p.n.size : Int) := by omega
        have HY := Lib.hid hst
        have hm2 : (p.n.size : Int) ≤ y := by omega
        clear hst
        go_wp2_with fail
        refine S.mono ?_
        rintro r w2 ⟨rfl, b2⟩
        have bb := btr hb b2
        clear b2 S c0 c1 c2 c3 c4
        go_wp2_with fail
        go_roundw
        case rel => exact ⟨k + 1, _, by omega, by go_num, rfl, hy0, by omega, HY.out.symm, bb⟩
        case measure => simp [intOf]; omega
    · obtain rfl : k = len := by omega
      have e : ps.drop k = [] := List.drop_of_length_le (by rw [hL.out]; omega)
      rw [e] at hy
      have hy' : y = t := hy
      subst hy'
      go_wp2_with fail
      go_ret
      exact ⟨rfl, hb⟩

/-- The pins that have been laid so far into a new block. -/
structure FillP (w : World) (n : Nat) (ps : List PinD) (k : Nat) (wr : World) : Prop where
  told : ∀ j, j < k → ∀ i v, (ps[j]?.getD pin0).vals[i]? = some v → wr.cell? ⟨w.heap.size, j * 5 + i, none⟩ = some v
  room : ∀ j, j < n * 5 → (∃ u, wr.cell? ⟨w.heap.size, j, none⟩ = some u) ∧ wr.frozen? ⟨w.heap.size, j, none⟩ = false
  lt : w.heap.size < wr.heap.size
  bel : Below w.heap.size w wr
theorem FillP.new (w : World) (n : Nat) (ps : List PinD) (cs : Array Value) (t : TypeId) (hs : cs.size = n * 5) : FillP w n ps 0 (w.alloc (.cells cs t)) := by
  have e1 : (w.alloc (.cells cs t)).heap[w.heap.size]? = some (.cells cs t) := (MapKept.heap_alloc w _).1
  refine ⟨fun j hj => absurd hj (by omega), fun j hj => ?_, by simp, bal (Below.refl _ _) _⟩
  unfold World.cell? World.frozen?
  rw [e1]
  exact ⟨⟨cs[j], by simp [show j < cs.size by omega]⟩, by simp⟩
theorem FillP.on {w wr wr' : World} {n : Nat} {ps : List PinD} {k : Nat} (h : FillP w n ps k wr) (hb : Below wr.heap.size wr wr') : FillP w n ps k wr' := by
  have e := hb.block w.heap.size h.lt
  refine ⟨fun j hj i v hv => cell_keep hb (h.told j hj i v hv), fun j hj => ?_, Nat.lt_of_lt_of_le h.lt hb.size, btr h.bel hb⟩
  rw [World.cell?_of_block (w := wr) (a := ⟨w.heap.size, j, none⟩) e, World.frozen?_of_block (w := wr) (a := ⟨w.heap.size, j, none⟩) e]
  exact h.room j hj
theorem FillP.one {w wr : World} {n : Nat} {ps : List PinD} {k : Nat} (h : FillP w n ps k wr) {j : Nat} (hj : k * 5 ≤ j) (v : Value) : FillP w n ps k (wr.setCell ⟨w.heap.size, j, none⟩ v) := by
  refine ⟨fun i hi c u hu => ?_, fun i hi => ?_, by simpa [World.setCell] using h.lt, bset h.bel (Nat.le_refl _) v⟩
  · have hc : c < 5 := by have := (List.getElem?_eq_some_iff.1 hu).1; simpa [PinD.vals_length] using this
    rw [World.cell?_setCell_other _ _ _ _ (fun e => by injection e with _ e2; omega)]
    exact h.told i hi c u hu
  · obtain ⟨⟨u, hu⟩, hf⟩ := h.room i hi
    exact ⟨cell?_setCell_some (w := wr) (p := ⟨w.heap.size, j, none⟩) (x := v) (q := ⟨w.heap.size, i, none⟩) (v := u) hu, by rw [World.frozen?_setCell]; exact hf⟩
theorem set5_cell {w : World} {g k : Nat} {p : PinD} (hs : ∀ i, i < 5 → ∃ u, w.cell? ⟨g, k * 5 + i, none⟩ = some u) (i : Nat) (v : Value) (hv : p.vals[i]? = some v) :
    (((((w.setCell ⟨g, k * 5, none⟩ (.string p.n)).setCell ⟨g, k * 5 + 1, none⟩ (.int .i64 p.a)).setCell ⟨g, k * 5 + 2, none⟩ (.int .i64 p.b)).setCell ⟨g, k * 5 + 3, none⟩ (.int .i64 p.e)).setCell ⟨g, k * 5 + 4, none⟩ (.int .i64 p.u)).cell? ⟨g, k * 5 + i, none⟩ = some v := by
  have hi : i < 5 := by have := (List.getElem?_eq_some_iff.1 hv).1; simpa [PinD.vals_length] using this
  have ne : ∀ {a b : Nat}, a ≠ b → (⟨g, k * 5 + a, none⟩ : Addr) ≠ ⟨g, k * 5 + b, none⟩ := fun h e => by injection e with _ e2; omega
  have ne0 : ∀ {b : Nat}, b ≠ 0 → (⟨g, k * 5 + b, none⟩ : Addr) ≠ ⟨g, k * 5, none⟩ := fun h e => by injection e with _ e2; omega
  have st : ∀ (w : World) (q : Addr) (x : Value), (∀ i, i < 5 → ∃ u, w.cell? ⟨g, k * 5 + i, none⟩ = some u) → ∀ i, i < 5 → ∃ u, (w.setCell q x).cell? ⟨g, k * 5 + i, none⟩ = some u := fun w q x h i hi => by
    obtain ⟨u, hu⟩ := h i hi
    exact cell?_setCell_some (w := w) (p := q) (x := x) (q := ⟨g, k * 5 + i, none⟩) (v := u) hu
  have s1 := st _ ⟨g, k * 5, none⟩ (.string p.n) hs
  have s2 := st _ ⟨g, k * 5 + 1, none⟩ (.int .i64 p.a) s1
  have s3 := st _ ⟨g, k * 5 + 2, none⟩ (.int .i64 p.b) s2
  have s4 := st _ ⟨g, k * 5 + 3, none⟩ (.int .i64 p.e) s3
  match i, hi with
  | 0, _ =>
    obtain ⟨u, hu⟩ := hs 0 (by omega)
    rw [World.cell?_setCell_other _ _ _ _ (by intro e; injection e with _ e2; omega), World.cell?_setCell_other _ _ _ _ (by intro e; injection e with _ e2; omega), World.cell?_setCell_other _ _ _ _ (by intro e; injection e with _ e2; omega), World.cell?_setCell_other _ _ _ _ (by intro e; injection e with _ e2; omega)]
    rw [show k * 5 + 0 = k * 5 from rfl] at hu ⊢
    rw [World.cell?_setCell_same _ _ _ (by rw [hu])]
    exact hv
  | 1, _ =>
    obtain ⟨u, hu⟩ := s1 1 (by omega)
    rw [World.cell?_setCell_other _ _ _ _ (by intro e; injection e with _ e2; omega), World.cell?_setCell_other _ _ _ _ (by intro e; injection e with _ e2; omega), World.cell?_setCell_other _ _ _ _ (by intro e; injection e with _ e2; omega), World.cell?_setCell_same _ _ _ (by rw [hu])]
    exact hv
  | 2, _ =>
    obtain ⟨u, hu⟩ := s2 2 (by omega)
    rw [World.cell?_setCell_other _ _ _ _ (by intro e; injection e with _ e2; omega), World.cell?_setCell_other _ _ _ _ (by intro e; injection e with _ e2; omega), World.cell?_setCell_same _ _ _ (by rw [hu])]
    exact hv
  | 3, _ =>
    obtain ⟨u, hu⟩ := s3 3 (by omega)
    rw [World.cell?_setCell_other _ _ _ _ (by intro e; injection e with _ e2; omega), World.cell?_setCell_same _ _ _ (by rw [hu])]
    exact hv
  | 4, _ =>
    obtain ⟨u, hu⟩ := s4 4 (by omega)
    rw [World.cell?_setCell_same _ _ _ (by rw [hu])]
    exact hv
theorem FillP.step {w wr : World} {n : Nat} {ps : List PinD} {k : Nat} (h : FillP w n ps k wr) (hk : k < n) {p : PinD} (hp : ps[k]?.getD pin0 = p) :
    FillP w n ps (k + 1) (((((wr.setCell ⟨w.heap.size, k * 5, none⟩ (.string p.n)).setCell ⟨w.heap.size, k * 5 + 1, none⟩ (.int .i64 p.a)).setCell ⟨w.heap.size, k * 5 + 2, none⟩ (.int .i64 p.b)).setCell ⟨w.heap.size, k * 5 + 3, none⟩ (.int .i64 p.e)).setCell ⟨w.heap.size, k * 5 + 4, none⟩ (.int .i64 p.u)) := by
  have hall := ((((h.one (j := k * 5) (by omega) (.string p.n)).one (j := k * 5 + 1) (by omega) (.int .i64 p.a)).one (j := k * 5 + 2) (by omega) (.int .i64 p.b)).one (j := k * 5 + 3) (by omega) (.int .i64 p.e)).one (j := k * 5 + 4) (by omega) (.int .i64 p.u)
  refine ⟨fun j hj i v hv => ?_, hall.room, hall.lt, hall.bel⟩
  by_cases e : j = k
  · subst e
    rw [hp] at hv
    exact set5_cell (fun i hi => (h.room (j * 5 + i) (by omega)).1) i v hv
  · exact hall.told j (by omega) i v hv
theorem FillP.own {w wr : World} {n : Nat} {ps : List PinD} (h : FillP w n ps n wr) (hl : ps.length = n) (hm : n ≤ maxLen) : OwnP wr w.heap.size (.slice (some ⟨w.heap.size, 0, none⟩) n n) ps := by
  subst hl
  refine ⟨flat_length ps, .inr ⟨w.heap.size, _, rfl, Nat.le_refl _, h.lt, Nat.le_refl _, hm, fun j u hu => ?_, fun j hj => ?_⟩⟩
  · have hj := (List.getElem?_eq_some_iff.1 hu).1
    rw [flat_length] at hj
    have hjk : j / 5 < ps.length := by omega
    have hjj : j / 5 * 5 + j % 5 = j := by omega
    have h5 : j % 5 < 5 := Nat.mod_lt _ (by omega)
    have hv : (ps[j / 5]?.getD pin0).vals[j % 5]? = some ((ps[j / 5]?.getD pin0).vals[j % 5]'(by rw [PinD.vals_length]; exact h5)) := List.getElem?_eq_getElem _
    have q1 := flat_get ps (j / 5) (j % 5) _ hjk hv
    have q2 := h.told (j / 5) hjk (j % 5) _ hv
    rw [hjj] at q1 q2
    rw [hu] at q1
    injection q1 with q1
    rw [q1]
    exact q2
  · obtain ⟨⟨u, hu⟩, hf⟩ := h.room j hj
    exact ⟨by rw [hu]; rfl, hf⟩

/-- A slice of pins was copied. -/
def CopiedP (n : Nat) (ps : List PinD) (w : World) (r : Ending) (w' : World) : Prop :=
  r = .returned (.slice (some ⟨w.heap.size, 0, none⟩) n n) ∧ OwnP w' w.heap.size (.slice (some ⟨w.heap.size, 0, none⟩) n n) ps ∧ Below w.heap.size w w'
theorem pin_info : (Tryz.prog.info? 31).map (fun i => (i.zero, i.size, i.bytes)) = some (some (P5 pin0), 5, 48) := by kernel_rfl
theorem toPinS_any (a : Option Addr) (len cap B : Nat) (ps : List PinD) (w : World) (hR : PRow w B a len cap ps) (hB : B ≤ w.heap.size) (hl : len ≤ 1048576) :
    Calls Tryz.prog 120 #[.slice a len cap] w (CopiedP len ps w) := by
  obtain ⟨i0, hi0, hz0, hz1, hz2⟩ := info_parts pin_info
  have hmk : ∀ W : World, (Instr.makeSlice 24 (.int .i64 (len : Int)) (.int .i64 (len : Int))).run Tryz.prog W = .ok (.slice (some ⟨W.heap.size, 0, none⟩) len len) (W.alloc (.cells (madeCells (P5 pin0).cells (len * 5)) 31)) := by
    intro W
    have := run_make (P := Tryz.prog) W 24 31 i0 (P5 pin0) Tryz.underlying24 hi0 hz0 .i64 .i64 len len (by omega) (by omega) (by rw [hz2]; omega) (by omega)
    simpa [hz1] using this
  have hL := Lib.hid hR.length
  clear hi0 hz0 hz1 hz2
  have T0 := FillP.new w len ps (madeCells (P5 pin0).cells (len * 5)) 31 (size_madeCells _ _)
  generalize madeCells (P5 pin0).cells (len * 5) = cs at *
  go_enter Tryz.func120, Tryz.ntmps120
  go_wp2_with fail
  generalize w.alloc (.cells cs 31) = w1 at *
  go_loopw [4] (fun i wr => ∃ k : Nat, k ≤ len ∧ i = .int .i64 k ∧ FillP w len ps k wr) (fun i _ => len - (intOf i).toNat)
  case atStart => exact ⟨0, Nat.zero_le _, rfl, T0⟩
  case round =>
    obtain ⟨k, hk, rfl, hT⟩ := hrel
    by_cases hlt : k < len
    · obtain ⟨b, off, ha, hbB, c0, c1, c2, c3, c4⟩ := (hR.below (hT.bel.mono hB)).at' hlt
      generalize hp : ps[k]?.getD pin0 = p at *
      subst ha
      clear hR T0
      go_wp2_with fail
      refine (toPin_any p _).mono ?_
      rintro r w2 ⟨rfl, b2⟩
      have hT2 := hT.on b2
      obtain ⟨⟨v0, r0⟩, f0⟩ := hT2.room (k * 5) (by omega)
      obtain ⟨⟨v1, r1⟩, f1⟩ := hT2.room (k * 5 + 1) (by omega)
      obtain ⟨⟨v2, r2⟩, f2⟩ := hT2.room (k * 5 + 2) (by omega)
      obtain ⟨⟨v3, r3⟩, f3⟩ := hT2.room (k * 5 + 3) (by omega)
      obtain ⟨⟨v4, r4⟩, f4⟩ := hT2.room (k * 5 + 4) (by omega)
      have T2 := Lib.hid (hT2.step hlt hp)
      clear hT hT2 hp b2 c0 c1 c2 c3 c4
      go_wp2_with fail
      go_roundw
      case rel => exact ⟨k + 1, by omega, by go_num, T2.out⟩
      case measure => simp [intOf]; omega
    · obtain rfl : k = len := by omega
      have T2 := hT.own hL.out (by simp only [maxLen]; omega)
      have hb := Lib.hid hT.bel
      clear hT
      go_wp2_with fail
      go_ret
      exact ⟨rfl, T2, hb.out⟩

theorem eqPinS_any (a b : Option Addr) (len c1 c2 B : Nat) (ps : List PinD) (w : World) (hR : PRow w B a len c1 ps) (hQ : PRow w B b len c2 ps) (hB : B ≤ w.heap.size) :
    Calls Tryz.prog 124 #[.slice a len c1, .slice b len c2] w fun e w' => e = .returned (.bool true) ∧ Below w.heap.size w w' := by
  have hlen := hR.fits
  have hmost := hR.most
  unfold maxLen at hmost
  go_enter Tryz.func124, Tryz.ntmps124
  go_wp2_with fail
  go_loopw [5] (fun i wr => ∃ k : Nat, k ≤ len ∧ i = .int .i64 k ∧ Below w.heap.size w wr) (fun i _ => len - (intOf i).toNat)
  case atStart => exact ⟨0, Nat.zero_le _, rfl, Below.refl _ _⟩
  case round =>
    obtain ⟨k, hk, rfl, hb⟩ := hrel
    by_cases hlt : k < len
    · obtain ⟨b1, o1, ha1, hb1, c0, c1, c2, c3, c4⟩ := (hR.below (hb.mono hB)).at' hlt
      obtain ⟨b2, o2, ha2, hb2, d0, d1, d2, d3, d4⟩ := (hQ.below (hb.mono hB)).at' hlt
      have HB := Lib.hid hb
      clear hb hR hQ
      subst ha1
      subst ha2
      generalize ps[k]?.getD pin0 = p at *
      go_wp2_with fail
      refine wp_region_line (Bel wr) [(0, true), (1, true), (2, true), (3, true), (4, true), (5, true), (6, true), (7, true), (8, false), (9, true)] (by kernel_rfl) (by kernel_rfl) (fun _ _ d _ _ h => by cases d <;> exact h) (Bel.drew wr) ?_
      have hst := Bel.drew wr
      have inst : Nonempty (Of (Bel wr)) := ⟨⟨_, hst⟩⟩
      have q0 := bel_cell c0
      have q1 := bel_cell c1
      have q2 := bel_cell c2
      have q3 := bel_cell c3
      have q4 := bel_cell c4
      have y0 := bel_cell d0
      have y1 := bel_cell d1
      have y2 := bel_cell d2
      have y3 := bel_cell d3
      have y4 := bel_cell d4
      iterate 8 (refine line_read rfl (by kernel_rfl) (fun K hK => ?_); go_big_quiet_op; refine hK _ ?_; clear hK K)
      refine line_alone rfl (by kernel_rfl) (fun K hK => ?_)
      refine call_wp (args := #[P5 p, P5 p]) rfl (by kernel_rfl) (by kernel_rfl) (eqPin_any p _) (fun wn hbn => ?_)
      have hst2 := hst.on hbn
      refine hK _ _ hst2 ?_
      clear hK K hst hbn
      have hst := hst2
      clear hst2
      simp only [Act.put, List.setIfInBounds_toArray, List.set_cons_zero, List.set_cons_succ]
      iterate 1 (refine line_read rfl (by kernel_rfl) (fun K hK => ?_); go_big_quiet_op; refine hK _ ?_; clear hK K)
      refine line_nil ?_
      have bb := btr HB.out hst.out
      clear hst inst q0 q1 q2 q3 q4 y0 y1 y2 y3 y4 c0 c1 c2 c3 c4 d0 d1 d2 d3 d4 HB
      go_wp2_with fail
      go_roundw
      case rel => exact ⟨k + 1, by omega, by go_num, bb⟩
      case measure => simp [intOf]; omega
    · go_wp2_with fail
      go_ret
      exact ⟨rfl, hb⟩
end Go.Proofs.YtcolecidbalmhaaGreatDoor
namespace Go.Proofs.YtcolecidbalmhaaGreatDoor
open Go.RowKit
set_option maxRecDepth 100000
set_option linter.unusedVariables false

/-- The digits of k, ahead of out. -/
def digs : Nat → Nat → ByteArray → ByteArray
  | 0, _, out => out
  | f + 1, k, out => if k = 0 then out else digs f (k / 10) ((⟨#[UInt8.ofNat (48 + k % 10)]⟩ : ByteArray) ++ out)
theorem digs_zero (f : Nat) (out : ByteArray) : digs f 0 out = out := by cases f <;> rfl
theorem digs_fuel : ∀ (f g k : Nat) (out : ByteArray), k ≤ f → k ≤ g → digs f k out = digs g k out
  | 0, g, k, out, h1, _ => by
    obtain rfl : k = 0 := by omega
    rw [digs_zero, digs_zero]
  | f + 1, 0, k, out, _, h2 => by
    obtain rfl : k = 0 := by omega
    rw [digs_zero, digs_zero]
  | f + 1, g + 1, k, out, h1, h2 => by
    unfold digs
    by_cases h : k = 0
    · rw [if_pos h, if_pos h]
    · rw [if_neg h, if_neg h]
      exact digs_fuel f g (k / 10) _ (by omega) (by omega)
def markT (k : Nat) : ByteArray := (⟨#[109]⟩ : ByteArray) ++ digs k k ⟨#[]⟩
theorem digs_step {k : Nat} (h : k ≠ 0) (out : ByteArray) : digs k k out = digs (k / 10) (k / 10) ((⟨#[UInt8.ofNat (48 + k % 10)]⟩ : ByteArray) ++ out) := by
  obtain ⟨f, rfl⟩ : ∃ f, k = f + 1 := ⟨k - 1, by omega⟩
  rw [digs, if_neg h]
  exact digs_fuel _ _ _ _ (by omega) (by omega)
theorem markText_any (k : Nat) (w : World) (h0 : 0 < k) (h1 : k ≤ 1000000000) :
    Calls Tryz.prog 186 #[.int .i64 k] w fun e w' => e = .returned (.string (markT k)) ∧ Below w.heap.size w w' := by
  have hk : ¬ (k : Int) ≤ 0 := by omega
  go_enter Tryz.func186, Tryz.ntmps186
  go_wp2_with fail
  go_loopw [0, 3] (fun kv ov wr => ∃ (j : Nat) (o : ByteArray), kv = .int .i64 j ∧ ov = .string o ∧ digs j j o = digs k k ⟨#[]⟩ ∧ o.size + j ≤ k ∧ Below w.heap.size w wr) (fun kv _ _ => (intOf kv).toNat)
  case atStart => exact ⟨k, ⟨#[]⟩, rfl, rfl, rfl, by show 0 + k ≤ k; omega, Below.refl _ _⟩
  case round =>
    obtain ⟨j, o, rfl, rfl, hd, hs, hb⟩ := hrel
    by_cases hj : 0 < j
    · have hj0 : (0 : Int) < j := by omega
      have hlt : j % 10 < 10 := Nat.mod_lt _ (by omega)
      have hst := digs_step (k := j) (by omega) o
      rw [hd] at hst
      have hO := own_lit (k := .u8) wr [48 + (j : Int) % 10] 1 5 (B := wr.heap.size) (Nat.le_refl _) rfl (by simp only [maxLen]; omega)
      have hrow := Own.row hO (by intro z hz; simp at hz; subst hz; exact byte_wf (show M.byteB _ by unfold M.byteB; omega))
      have es : strOf [48 + (j : Int) % 10] = (⟨#[UInt8.ofNat (48 + j % 10)]⟩ : ByteArray) := by
        show (⟨#[UInt8.ofNat (48 + (j : Int) % 10).toNat]⟩ : ByteArray) = _
        rw [show (48 + (j : Int) % 10).toNat = 48 + j % 10 by omega]
      have cv : (convert 22 9 (.slice (some ⟨wr.heap.size, 0, none⟩) 1 1)).run Tryz.prog (wr.alloc (.cells #[.int .u8 (48 + (j : Int) % 10)] 5)) = .ok (.string (⟨#[UInt8.ofNat (48 + j % 10)]⟩ : ByteArray)) (wr.alloc (.cells #[.int .u8 (48 + (j : Int) % 10)] 5)) := by rw [← es]; exact conv_row hrow
      have HS := Lib.hid hst
      have b2 := bal hb (.cells #[.int .u8 (48 + (j : Int) % 10)] 5)
      have hs2 : ((⟨#[UInt8.ofNat (48 + j % 10)]⟩ : ByteArray) ++ o).size + j / 10 ≤ k := by
        have : ((⟨#[UInt8.ofNat (48 + j % 10)]⟩ : ByteArray) ++ o).size = 1 + o.size := by simp [ByteArray.size_append]; rfl
        omega
      have hsz : (⟨#[UInt8.ofNat (48 + j % 10)]⟩ : ByteArray).size = 1 := rfl
      have HS2 := Lib.hid hs2
      have HB2 := Lib.hid b2
      clear hst hO hrow es hd hs2 b2
      generalize (⟨#[UInt8.ofNat (48 + j % 10)]⟩ : ByteArray) = ch at *
      have hsum : ch.size + o.size ≤ 9223372036854775807 := by omega
      have hadd := fun (W : World) => run_string_add_sum (P := Tryz.prog) W ch o hsum
      go_wp2_with fail
      go_roundw
      case rel => exact ⟨j / 10, ch ++ o, by go_num, rfl, HS.out.symm, HS2.out, HB2.out⟩
      case measure => simp [intOf]; omega
    · obtain rfl : j = 0 := by omega
      rw [digs_zero] at hd
      have em : markT k = (⟨#[109]⟩ : ByteArray) ++ o := by unfold markT; rw [← hd]
      have hsum : (⟨#[109]⟩ : ByteArray).size + o.size ≤ 9223372036854775807 := by show 1 + o.size ≤ _; omega
      have hadd := fun (W : World) => run_string_add_sum (P := Tryz.prog) W ⟨#[109]⟩ o hsum
      have HM := Lib.hid em
      clear em hd
      go_wp2_with fail
      go_ret
      exact ⟨by rw [HM.out]; rfl, hb⟩

theorem gset1 {w w1 : World} {g : Nat} (h : w.grownBy w1 (some g)) (i : Nat) (v : Value) : w.grownBy (w1.setCell ⟨g, i, none⟩ v) (some g) :=
  ⟨h.os, h.tape, h.output, by simpa [World.setCell] using h.size, fun k hk hne => (Below.heap_setCell w1 ⟨g, i, none⟩ v k (fun e => hne (by rw [e]))).trans (h.block k hk hne)⟩
theorem gbe1 {w w1 w2 : World} {g : Nat} (h : w.grownBy w1 (some g)) (k : Below w1.heap.size w1 w2) : w.grownBy w2 (some g) :=
  ⟨k.os.trans h.os, k.tape.trans h.tape, k.output.trans h.output, Nat.le_trans h.size k.size, fun i hi hne => (k.block i (Nat.lt_of_lt_of_le hi h.size)).trans (h.block i hi hne)⟩
theorem digs_size : ∀ (f k : Nat) (out : ByteArray), (digs f k out).size ≤ out.size + f
  | 0, k, out => by unfold digs; omega
  | f + 1, k, out => by
    unfold digs
    split
    · omega
    · have h1 := digs_size f (k / 10) ((⟨#[UInt8.ofNat (48 + k % 10)]⟩ : ByteArray) ++ out)
      have h2 : ((⟨#[UInt8.ofNat (48 + k % 10)]⟩ : ByteArray) ++ out).size = 1 + out.size := by simp [ByteArray.size_append]; rfl
      omega
theorem markT_size (k : Nat) : (markT k).size ≤ k + 1 := by
  unfold markT
  have h1 := digs_size k k ⟨#[]⟩
  have h2 : (⟨#[]⟩ : ByteArray).size = 0 := rfl
  have h3 : ((⟨#[109]⟩ : ByteArray) ++ digs k k ⟨#[]⟩).size = 1 + (digs k k ⟨#[]⟩).size := by simp [ByteArray.size_append]; rfl
  omega
end Go.Proofs.YtcolecidbalmhaaGreatDoor
