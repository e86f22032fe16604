/- Texts of this seat that several laws rest on, laid into one. Conditions: as each theorem states. -/
import Derived.Test.YtlodhleihnlchaaGreatDoorQ0
import Derived.Test.YtlodhleihnlchaaGreatDoorQ2
import Derived.Test.YtlodhleihnlchaaGreatDoorQ3
import Derived.Test.YtlodhleihnlchaaGreatDoorQ4
import Derived.Lib.Bytealg
import Derived.Maps.OwnSet
import Derived.Maps.RangeWalk
namespace Go.Proofs.YtlodhleihnlchaaGreatDoor.M
open Go.Proofs.YtlodhleihnlchaaGreatDoor (inB pubB)

def nonceN (s t : Int) : Int := 1 + tagL nonceS [s, t] % 1438
def chalN (p q t : Int) : Int := tagL signS [p, q, t] % 1439
def pubN (s : Int) : Int := pw 4 s.toNat 2879
def sigPt (s t : Int) : Int := pw 4 (nonceN s t).toNat 2879
def sigPr (s t : Int) : Int := (nonceN s t + chalN (pubN s) (sigPt s t) t * s) % 1439
def sigB (p q : Int) : Bool := pubB p && inB q 0 1438
def checkB (u t p q : Int) : Bool := pubB u && sumB t && sigB p q && (pw 4 q.toNat 2879 == p * pw u (chalN u p t).toNat 2879 % 2879)
theorem nonceN_bd (s t : Int) : 1 ≤ nonceN s t ∧ nonceN s t ≤ 1438 := by unfold nonceN; omega
theorem chalN_bd (p q t : Int) : 0 ≤ chalN p q t ∧ chalN p q t ≤ 1438 := by unfold chalN; omega
theorem sigPr_bd (s t : Int) : 0 ≤ sigPr s t ∧ sigPr s t ≤ 1438 := by unfold sigPr; omega
theorem pub_pow {a : Int} (a0 : 1 ≤ a) (a1 : a ≤ 1438) : pubB (pw 4 a.toNat 2879) = true := by
  have h := base_pub a.toNat (by omega) (by omega)
  simp only [pubB, inB, Bool.and_eq_true, decide_eq_true_eq, beq_iff_eq]
  exact ⟨h, base_raised _⟩
theorem sigPt_pub (s t : Int) : pubB (sigPt s t) = true := pub_pow (nonceN_bd s t).1 (nonceN_bd s t).2
theorem sigB_signed (s t : Int) : sigB (sigPt s t) (sigPr s t) = true := by
  have h := sigPr_bd s t
  simp only [sigB, sigPt_pub, inB, Bool.true_and, decide_eq_true_eq]
  exact h
theorem sign_eq {s t : Int} (s0 : 1 ≤ s) : pw 4 (sigPr s t).toNat 2879 = sigPt s t * pw (pubN s) (chalN (pubN s) (sigPt s t) t).toNat 2879 % 2879 := by
  have hh := nonceN_bd s t
  have he := chalN_bd (pubN s) (sigPt s t) t
  unfold sigPr
  generalize chalN (pubN s) (sigPt s t) t = e at *
  unfold sigPt pubN
  generalize nonceN s t = h at *
  rw [pw_pw, pw_add]
  rw [base_mod (h.toNat + s.toNat * e.toNat)]
  congr 1
  obtain ⟨h, rfl⟩ := Int.eq_ofNat_of_zero_le (show 0 ≤ h by omega)
  obtain ⟨e, rfl⟩ := Int.eq_ofNat_of_zero_le he.1
  obtain ⟨s, rfl⟩ := Int.eq_ofNat_of_zero_le (show 0 ≤ s by omega)
  have q : ((h : Int) + (e : Int) * (s : Int)) % 1439 = ((h + e * s) % 1439 : Nat) := by simp
  rw [q]
  show (h + e * s) % 1439 = (h + s * e) % 1439
  rw [Nat.mul_comm s e]
theorem checked {s t : Int} (hs : inB s 1 1438 = true) (ht : sumB t = true) : checkB (pubN s) t (sigPt s t) (sigPr s t) = true := by
  have hs' := hs
  simp only [inB, decide_eq_true_eq] at hs'
  have hp : pubB (pubN s) = true := pub_pow hs'.1 hs'.2
  have he := sign_eq (t := t) hs'.1
  simp only [checkB, hp, ht, sigB_signed, Bool.and_self, Bool.true_and, beq_iff_eq]
  exact he
end Go.Proofs.YtlodhleihnlchaaGreatDoor.M
namespace Go.Proofs.YtlodhleihnlchaaGreatDoor
set_option linter.unusedVariables false

end Go.Proofs.YtlodhleihnlchaaGreatDoor
namespace Go.Proofs.YtlodhleihnlchaaGreatDoor
set_option linter.unusedVariables false

structure PinD where
  n : ByteArray
  a : Int
  b : Int
  e : Int
  u : Int
def pin0 : PinD := ⟨{ data := #[] }, 0, 0, 0, 0⟩
instance : Inhabited PinD := ⟨pin0⟩
def PinD.nm (p : PinD) : List UInt8 := p.n.data.toList
abbrev P5 (p : PinD) : Value := .agg #[.string p.n, .int .i64 p.a, .int .i64 p.b, .int .i64 p.e, .int .i64 p.u]
def PinD.vals (p : PinD) : List Value := [.string p.n, .int .i64 p.a, .int .i64 p.b, .int .i64 p.e, .int .i64 p.u]
theorem PinD.vals_length (p : PinD) : p.vals.length = 5 := rfl
def flat (ps : List PinD) : List Value := ps.flatMap PinD.vals
theorem flat_cons (p : PinD) (ps : List PinD) : flat (p :: ps) = p.vals ++ flat ps := by simp [flat]
theorem flat_append (ps qs : List PinD) : flat (ps ++ qs) = flat ps ++ flat qs := by simp [flat]
theorem flat_length : ∀ ps : List PinD, (flat ps).length = ps.length * 5
  | [] => rfl
  | p :: r => by rw [flat_cons, List.length_append, flat_length r, PinD.vals_length, List.length_cons]; omega
theorem flat_get : ∀ (ps : List PinD) (j i : Nat) (v : Value), j < ps.length → (ps[j]?.getD pin0).vals[i]? = some v → (flat ps)[j * 5 + i]? = some v
  | [], j, i, v, hj, _ => by simp at hj
  | p :: r, 0, i, v, _, h => by
    have hi : i < 5 := by have := (List.getElem?_eq_some_iff.1 h).1; simpa [PinD.vals_length] using this
    rw [flat_cons, Nat.zero_mul, Nat.zero_add, List.getElem?_append_left (by rw [PinD.vals_length]; exact hi)]
    simpa using h
  | p :: r, j + 1, i, v, hj, h => by
    have := flat_get r j i v (by simpa using hj) (by simpa using h)
    rw [flat_cons, List.getElem?_append_right (by rw [PinD.vals_length]; omega), PinD.vals_length, show (j + 1) * 5 + i - 5 = j * 5 + i by omega]
    exact this
theorem flat_set : ∀ (ps : List PinD) (j : Nat) (p : PinD), j < ps.length → flat (ps.set j p) = (((((flat ps).set (j * 5) (.string p.n)).set (j * 5 + 1) (.int .i64 p.a)).set (j * 5 + 2) (.int .i64 p.b)).set (j * 5 + 3) (.int .i64 p.e)).set (j * 5 + 4) (.int .i64 p.u)
  | [], j, p, hj => by simp at hj
  | q :: r, 0, p, _ => by simp [flat_cons, PinD.vals]
  | q :: r, j + 1, p, hj => by
    rw [List.set_cons_succ, flat_cons, flat_set r j p (by simpa using hj), flat_cons]
    simp only [PinD.vals, List.cons_append, List.nil_append, show (j + 1) * 5 = j * 5 + 1 + 1 + 1 + 1 + 1 by omega, show j * 5 + 1 + 1 + 1 + 1 + 1 + 1 = (j * 5 + 1) + 1 + 1 + 1 + 1 + 1 by omega, show j * 5 + 1 + 1 + 1 + 1 + 1 + 2 = (j * 5 + 2) + 1 + 1 + 1 + 1 + 1 by omega, show j * 5 + 1 + 1 + 1 + 1 + 1 + 3 = (j * 5 + 3) + 1 + 1 + 1 + 1 + 1 by omega, show j * 5 + 1 + 1 + 1 + 1 + 1 + 4 = (j * 5 + 4) + 1 + 1 + 1 + 1 + 1 by omega, List.set_cons_succ]
def bakB (v : Int) : Bool := decide (v = 0) || pubB v
def epB (v : Int) : Bool := decide (1 ≤ v ∧ v ≤ 200)
def timB (v : Int) : Bool := decide (0 ≤ v ∧ v ≤ 9999)
def pinB (a b e u : Int) : Bool := pubB a && bakB b && epB e && timB u
def pinF (l : List UInt8) (a b e u : Int) : Int := if M.normF l = 0 then (if pinB a b e u then (if b = a then 6 else 0) else 3) else M.normF l
def PinD.f (p : PinD) : Int := pinF p.nm p.a p.b p.e p.u
theorem pinF_norm {l : List UInt8} {a b e u : Int} (h : M.normF l ≠ 0) : pinF l a b e u = M.normF l := by simp [pinF, h]
theorem pinF_no {l : List UInt8} {a b e u : Int} (h : M.normF l = 0) (h1 : pinB a b e u = false) : pinF l a b e u = 3 := by simp [pinF, h, h1]
theorem pinF_taken {l : List UInt8} {a b e u : Int} (h : M.normF l = 0) (h1 : pinB a b e u = true) (h2 : b = a) : pinF l a b e u = 6 := by
  unfold pinF
  rw [if_pos h, if_pos h1, if_pos h2]
theorem pinF_yes {l : List UInt8} {a b e u : Int} (h : M.normF l = 0) (h1 : pinB a b e u = true) (h2 : b ≠ a) : pinF l a b e u = 0 := by simp [pinF, h, h1, h2]
theorem pinF_zero {l : List UInt8} {a b e u : Int} (h : pinF l a b e u = 0) : M.normF l = 0 ∧ pubB a = true ∧ bakB b = true ∧ epB e = true ∧ timB u = true ∧ b ≠ a := by
  unfold pinF at h
  split at h
  · split at h
    · split at h
      · omega
      · rename_i h1 h2 h3
        simp only [pinB, Bool.and_eq_true] at h2
        exact ⟨h1, h2.1.1.1, h2.1.1.2, h2.1.2, h2.2, h3⟩
    · omega
  · exact absurd h ‹_›
theorem pin_size {p : PinD} (h : p.f = 0) : p.n.size ≤ 20 := by
  have h4 := (M.nameF_zero (M.normF_zero (pinF_zero h).1).1).1
  have hL : p.n.data.toList.length = p.n.size := by simp
  unfold PinD.nm at h4
  omega
theorem nm_inj {p q : ByteArray} (h : p.data.toList = q.data.toList) : p = q := by
  cases p; cases q
  simp only [ByteArray.mk.injEq]
  exact Array.toList_inj.1 h

abbrev nlt (x y : List UInt8) : Bool := Op.bytesLess x y
theorem nlt_irrefl : ∀ x : List UInt8, nlt x x = false
  | [] => rfl
  | a :: r => by simp [nlt, Op.bytesLess]; exact nlt_irrefl r
theorem nlt_trans : ∀ {x y z : List UInt8}, nlt x y = true → nlt y z = true → nlt x z = true
  | _, [], _, h, _ => by simp [nlt, Op.bytesLess] at h
  | _, _ :: _, [], _, h => by simp [nlt, Op.bytesLess] at h
  | [], _ :: _, _ :: _, _, _ => by simp [nlt, Op.bytesLess]
  | a :: x, b :: y, c :: z, h1, h2 => by
    simp only [nlt, Op.bytesLess, Bool.or_eq_true, decide_eq_true_eq, Bool.and_eq_true, beq_iff_eq] at h1 h2 ⊢
    rcases h1 with h1 | ⟨rfl, h1⟩
    · rcases h2 with h2 | ⟨rfl, h2⟩
      · exact .inl (UInt8.lt_trans h1 h2)
      · exact .inl h1
    · rcases h2 with h2 | ⟨rfl, h2⟩
      · exact .inl h2
      · exact .inr ⟨rfl, nlt_trans h1 h2⟩
theorem nlt_total : ∀ {x y : List UInt8}, nlt x y = false → x ≠ y → nlt y x = true
  | [], [], _, h => absurd rfl h
  | [], _ :: _, h, _ => by simp [nlt, Op.bytesLess] at h
  | _ :: _, [], _, _ => by simp [nlt, Op.bytesLess]
  | a :: x, b :: y, h, hne => by
    simp only [nlt, Op.bytesLess, Bool.or_eq_false_iff, decide_eq_false_iff_not, Bool.and_eq_false_iff, beq_eq_false_iff_ne] at h
    simp only [nlt, Op.bytesLess, Bool.or_eq_true, decide_eq_true_eq, Bool.and_eq_true, beq_iff_eq]
    by_cases e : a = b
    · subst e
      refine .inr ⟨rfl, nlt_total (h.2.resolve_left (fun h => h rfl)) (fun e => hne (by rw [e]))⟩
    · refine .inl ?_
      have h1 := h.1
      rw [UInt8.lt_iff_toNat_lt] at h1 ⊢
      have : a.toNat ≠ b.toNat := fun h => e (UInt8.toNat_inj.1 h)
      omega
theorem nlt_asymm {x y : List UInt8} (h : nlt x y = true) : nlt y x = false := by
  cases h2 : nlt y x
  · rfl
  · have := nlt_trans h h2
    rw [nlt_irrefl] at this
    cases this
theorem nlt_ne {x y : List UInt8} (h : nlt x y = true) : x ≠ y := fun e => by rw [e, nlt_irrefl] at h; cases h
theorem nle_eq (x y : List UInt8) : (nlt x y || x == y) = !nlt y x := by
  cases h : nlt y x
  · by_cases e : y = x
    · subst e; simp
    · rw [nlt_total h e]; simp
  · rw [nlt_asymm h]
    have : (x == y) = false := by
      rw [beq_eq_false_iff_ne]
      exact fun e => nlt_ne h e.symm
    rw [this]; rfl
def okN : Option (List UInt8) → List UInt8 → Bool
  | none, _ => true
  | some x, l => nlt x l
def pinsG : Option (List UInt8) → List PinD → Int
  | _, [] => 0
  | q, p :: r => if p.f = 0 then (if okN q p.nm then pinsG (some p.nm) r else 1) else p.f
def pinsF (ps : List PinD) : Int := if 4 < ps.length then 2 else pinsG none ps
abbrev Rise (ps : List PinD) : Prop := ps.Pairwise fun p q => nlt p.nm q.nm = true
theorem pinsG_zero : ∀ {q : Option (List UInt8)} {ps : List PinD}, pinsG q ps = 0 → (∀ p ∈ ps, p.f = 0) ∧ Rise ps ∧ ∀ x, q = some x → ∀ p ∈ ps, nlt x p.nm = true
  | _, [], _ => ⟨by simp, .nil, by simp⟩
  | q, p :: r, h => by
    unfold pinsG at h
    by_cases h0 : p.f = 0
    · rw [if_pos h0] at h
      by_cases h1 : okN q p.nm = true
      · rw [if_pos h1] at h
        obtain ⟨g1, g2, g3⟩ := pinsG_zero h
        refine ⟨fun y hy => ?_, List.pairwise_cons.2 ⟨fun y hy => g3 _ rfl y hy, g2⟩, fun x hx y hy => ?_⟩
        · rcases List.mem_cons.1 hy with rfl | hy
          · exact h0
          · exact g1 y hy
        · subst hx
          rcases List.mem_cons.1 hy with rfl | hy
          · exact h1
          · exact nlt_trans h1 (g3 _ rfl y hy)
      · rw [if_neg h1] at h
        omega
    · rw [if_neg h0] at h
      exact absurd h h0
theorem pinsF_zero {ps : List PinD} (h : pinsF ps = 0) : ps.length ≤ 4 ∧ (∀ p ∈ ps, p.f = 0) ∧ Rise ps := by
  unfold pinsF at h
  by_cases h4 : 4 < ps.length
  · rw [if_pos h4] at h; omega
  · rw [if_neg h4] at h
    obtain ⟨g1, g2, -⟩ := pinsG_zero h
    exact ⟨by omega, g1, g2⟩
def prevN (ps : List PinD) : Nat → Option (List UInt8)
  | 0 => none
  | k + 1 => some (ps[k]?.getD pin0).nm
theorem pinsG_step {ps : List PinD} {k : Nat} (hk : k < ps.length) : pinsG (prevN ps k) (ps.drop k) = (if (ps[k]?.getD pin0).f = 0 then (if okN (prevN ps k) (ps[k]?.getD pin0).nm then pinsG (prevN ps (k + 1)) (ps.drop (k + 1)) else 1) else (ps[k]?.getD pin0).f) := by
  have e : ps.drop k = (ps[k]?.getD pin0) :: ps.drop (k + 1) := by
    rw [List.drop_eq_getElem_cons hk, List.getElem?_eq_getElem hk]
    rfl
  rw [e]
  rfl

def findP (ps : List PinD) (l : List UInt8) : Option PinD := ps.find? fun p => decide (p.nm = l)
theorem findP_mem {ps : List PinD} {l : List UInt8} {p : PinD} (h : findP ps l = some p) : p ∈ ps ∧ p.nm = l := by
  refine ⟨List.mem_of_find?_eq_some h, ?_⟩
  have := List.find?_some h
  simpa using this
theorem findP_none {ps : List PinD} {l : List UInt8} (h : findP ps l = none) : ∀ p ∈ ps, p.nm ≠ l := by
  intro p hp
  have := List.find?_eq_none.1 h p hp
  simpa using this
def putG (p : PinD) : Bool → List PinD → List PinD
  | d, [] => if d then [] else [p]
  | d, q :: r => (if !d && !nlt q.nm p.nm then [p] else []) ++ (if q.nm = p.nm then [] else [q]) ++ putG p (d || !nlt q.nm p.nm) r
def putL (ps : List PinD) (p : PinD) : List PinD := putG p false ps
theorem putG_true (p : PinD) : ∀ (ps : List PinD), putG p true ps = ps.filter fun q => !decide (q.nm = p.nm)
  | [] => rfl
  | q :: r => by
    unfold putG
    simp only [Bool.not_true, Bool.false_and, Bool.false_eq_true, if_false, List.nil_append, Bool.true_or, putG_true p r]
    by_cases h : q.nm = p.nm
    · simp [h]
    · simp [h]
theorem putG_perm (p : PinD) : ∀ (ps : List PinD), (putG p false ps).Perm (p :: ps.filter fun q => !decide (q.nm = p.nm))
  | [] => by simp [putG]
  | q :: r => by
    unfold putG
    cases h : nlt q.nm p.nm
    · simp only [Bool.not_false, Bool.and_self, if_true, Bool.false_or, putG_true]
      by_cases e : q.nm = p.nm
      · simp [e]
      · simp [e]
    · simp only [Bool.not_true, Bool.and_false, Bool.false_eq_true, if_false, List.nil_append, Bool.or_false]
      rw [if_neg (nlt_ne h)]
      have ih := putG_perm p r
      have e : (List.filter (fun q => !decide (q.nm = p.nm)) (q :: r)) = q :: r.filter fun q => !decide (q.nm = p.nm) := by simp [nlt_ne h]
      rw [e]
      exact (List.Perm.cons q ih).trans (List.Perm.swap _ _ _)
theorem putL_mem {ps : List PinD} {p x : PinD} (h : x ∈ putL ps p) : x = p ∨ x ∈ ps := by
  have := (putG_perm p ps).mem_iff.1 h
  rcases List.mem_cons.1 this with h | h
  · exact .inl h
  · exact .inr (List.mem_filter.1 h).1
theorem putL_rise (p : PinD) : ∀ {ps : List PinD}, Rise ps → Rise (putL ps p)
  | [], _ => by simp [putL, putG, Rise]
  | q :: r, h => by
    obtain ⟨h1, h2⟩ := List.pairwise_cons.1 h
    show Rise (putG p false (q :: r))
    unfold putG
    cases hq : nlt q.nm p.nm
    · simp only [Bool.not_false, Bool.and_self, if_true, Bool.false_or, putG_true, List.singleton_append]
      have hf : r.filter (fun q => !decide (q.nm = p.nm)) = r := by
        refine List.filter_eq_self.2 fun x hx => ?_
        have hx1 := h1 x hx
        simp only [Bool.not_eq_true', decide_eq_false_iff_not]
        intro e
        rw [e] at hx1
        rw [hq] at hx1
        cases hx1
      rw [hf]
      by_cases e : q.nm = p.nm
      · rw [if_pos e]
        exact List.pairwise_cons.2 ⟨fun x hx => by rw [← e]; exact h1 x (by simpa using hx), by simpa using h2⟩
      · rw [if_neg e]
        have hpq := nlt_total hq e
        refine List.pairwise_cons.2 ⟨fun x hx => ?_, h⟩
        rcases List.mem_cons.1 hx with rfl | hx
        · exact hpq
        · exact nlt_trans hpq (h1 x (by simpa using hx))
    · simp only [Bool.not_true, Bool.and_false, Bool.false_eq_true, if_false, List.nil_append, Bool.or_false]
      rw [if_neg (nlt_ne hq)]
      refine List.pairwise_cons.2 ⟨fun x hx => ?_, putL_rise p h2⟩
      rcases putL_mem (ps := r) hx with rfl | hx
      · exact hq
      · exact h1 x hx
theorem rise_eq : ∀ {xs ys : List PinD}, xs.Perm ys → Rise xs → Rise ys → xs = ys
  | [], ys, h, _, _ => (List.nil_perm.1 h).symm
  | x :: r, [], h, _, _ => by simp at h
  | x :: r, y :: s, h, hx, hy => by
    obtain ⟨x1, x2⟩ := List.pairwise_cons.1 hx
    obtain ⟨y1, y2⟩ := List.pairwise_cons.1 hy
    have hxy : x = y := by
      have m1 : x ∈ y :: s := h.mem_iff.1 (by simp)
      have m2 : y ∈ x :: r := h.mem_iff.2 (by simp)
      rcases List.mem_cons.1 m1 with e | m1
      · exact e
      · rcases List.mem_cons.1 m2 with e | m2
        · exact e.symm
        · have := nlt_trans (x1 y m2) (y1 x m1)
          rw [nlt_irrefl] at this
          cases this
    subst hxy
    rw [rise_eq (List.Perm.cons_inv h) x2 y2]
def findC (ps : List PinD) (l : List UInt8) : Int :=
  if pinsF ps ≠ 0 then pinsF ps else if M.nameF l ≠ 0 then M.nameF l else match findP ps (M.nrm l) with
    | some _ => 0
    | none => 4
def findR (ps : List PinD) (l : List UInt8) : PinD :=
  if pinsF ps ≠ 0 then pin0 else if M.nameF l ≠ 0 then pin0 else (findP ps (M.nrm l)).getD pin0
end Go.Proofs.YtlodhleihnlchaaGreatDoor
namespace Go.Proofs.YtlodhleihnlchaaGreatDoor
open Go.RowKit
set_option maxRecDepth 100000
set_option linter.unusedVariables false

structure PRow (w : World) (B : Nat) (a : Option Addr) (len cap : Nat) (ps : List PinD) : Prop where
  length : ps.length = len
  fits : len ≤ cap
  most : cap ≤ maxLen
  names : ∀ p ∈ ps, p.n.size ≤ maxLen
  cells : 0 < len → ∃ b off, a = some ⟨b, off, none⟩ ∧ b < B ∧ ∀ j, j < len → ∀ i v, (ps[j]?.getD pin0).vals[i]? = some v → w.cell? ⟨b, off + j * 5 + i, none⟩ = some v
section
variable {w w' : World} {B B' : Nat} {a : Option Addr} {len cap : Nat} {ps : List PinD}
theorem PRow.keep (h : PRow w B a len cap ps) (hk : ∀ i, i < B → w'.heap[i]? = w.heap[i]?) : PRow w' B a len cap ps :=
  ⟨h.length, h.fits, h.most, h.names, fun hp => by
    obtain ⟨b, off, e, hb, hc⟩ := h.cells hp
    exact ⟨b, off, e, hb, fun j hj i v hv => (World.cell?_of_block (w := w) (hk b hb)).trans (hc j hj i v hv)⟩⟩
theorem PRow.below (h : PRow w B a len cap ps) (hb : Below B w w') : PRow w' B a len cap ps := h.keep hb.block
theorem PRow.more (h : PRow w B a len cap ps) (hB : B ≤ B') : PRow w B' a len cap ps :=
  ⟨h.length, h.fits, h.most, h.names, fun hp => by
    obtain ⟨b, off, e, hb, hc⟩ := h.cells hp
    exact ⟨b, off, e, by omega, hc⟩⟩
theorem PRow.on (h : PRow w w.heap.size a len cap ps) (hb : Below w.heap.size w w') : PRow w' w'.heap.size a len cap ps := (h.below hb).more hb.size
theorem PRow.alloc (h : PRow w B a len cap ps) (hB : B ≤ w.heap.size) (o : Obj) : PRow (w.alloc o) B a len cap ps := h.below ((Below.refl B w).alloc hB o)
theorem PRow.nil (w : World) (B : Nat) : PRow w B none 0 0 [] := ⟨rfl, Nat.le_refl _, Nat.zero_le _, by simp, fun h => absurd h (by omega)⟩
theorem PRow.at' (h : PRow w B a len cap ps) {k : Nat} (hk : k < len) : ∃ b off, a = some ⟨b, off, none⟩ ∧ b < B ∧
    w.cell? ⟨b, off + k * 5, none⟩ = some (.string (ps[k]?.getD pin0).n) ∧ w.cell? ⟨b, off + k * 5 + 1, none⟩ = some (.int .i64 (ps[k]?.getD pin0).a) ∧ w.cell? ⟨b, off + k * 5 + 2, none⟩ = some (.int .i64 (ps[k]?.getD pin0).b) ∧
    w.cell? ⟨b, off + k * 5 + 3, none⟩ = some (.int .i64 (ps[k]?.getD pin0).e) ∧ w.cell? ⟨b, off + k * 5 + 4, none⟩ = some (.int .i64 (ps[k]?.getD pin0).u) := by
  obtain ⟨b, off, e, hb, hc⟩ := h.cells (by omega)
  exact ⟨b, off, e, hb, hc k hk 0 _ rfl, hc k hk 1 _ rfl, hc k hk 2 _ rfl, hc k hk 3 _ rfl, hc k hk 4 _ rfl⟩
theorem PRow.mem (h : PRow w B a len cap ps) {k : Nat} (hk : k < len) : (ps[k]?.getD pin0) ∈ ps := by
  have := h.length
  rw [List.getElem?_eq_getElem (by omega)]
  exact List.getElem_mem _
theorem PRow.name (h : PRow w B a len cap ps) {k : Nat} (hk : k < len) : (ps[k]?.getD pin0).n.size ≤ maxLen := h.names _ (h.mem hk)
end

def OwnP (w : World) (B : Nat) (v : Value) (ps : List PinD) : Prop := Own w B 5 v ps.length (flat ps)
section
variable {w w' : World} {B : Nat} {v : Value} {ps : List PinD}
theorem OwnP.row {a : Option Addr} {len cap : Nat} (h : OwnP w B (.slice a len cap) ps) (hs : ∀ p ∈ ps, p.n.size ≤ maxLen) : PRow w w.heap.size a len cap ps := by
  rcases h.2 with ⟨e, h0⟩ | ⟨g, c, e, hb, hg, h1, h2, hc, _⟩
  · injection e with e1 e2 e3
    subst e1; subst e2; subst e3
    obtain rfl : ps = [] := List.eq_nil_of_length_eq_zero h0
    exact PRow.nil _ _
  · injection e with e1 e2 e3
    subst e1; subst e2; subst e3
    exact ⟨rfl, h1, h2, hs, fun hp => ⟨g, 0, rfl, hg, fun j hj i v hv => by
      rw [Nat.zero_add]
      exact hc _ v (flat_get ps j i v hj hv)⟩⟩
theorem OwnP.nil (w : World) (B : Nat) : OwnP w B (.slice none 0 0) [] := Own.nil w B 5
theorem OwnP.alloc (h : OwnP w B v ps) (o : Obj) : OwnP (w.alloc o) B v ps := Own.alloc h o
theorem OwnP.below (h : OwnP w B v ps) (hb : Below w.heap.size w w') : OwnP w' B v ps := Own.below h hb
theorem OwnP.form (h : OwnP w B v ps) : ∃ a cap, v = .slice a ps.length cap ∧ ps.length ≤ cap ∧ cap ≤ maxLen ∧ (a = none → ps.length = 0 ∧ cap = 0) := Own.form h
theorem OwnP.less {B' : Nat} (h : OwnP w B v ps) (hB : B' ≤ B) : OwnP w B' v ps := Own.less h hB
end
theorem Own.putCell {w : World} {B s g n c : Nat} {xs : List Value} {i : Nat} {u : Value} (h : Own w B s (.slice (some ⟨g, 0, none⟩) n c) n xs) (hi : i < xs.length) : Own (w.setCell ⟨g, i, none⟩ u) B s (.slice (some ⟨g, 0, none⟩) n c) n (xs.set i u) := by
  have hlen := h.1
  rcases h.2 with ⟨e, h0⟩ | ⟨g', c', e, hB, hg, hn, hm, hcell, hroom⟩
  · cases e
  injection e with e1 e2 e3
  injection e1 with e1
  injection e1 with e1 _ _
  subst e1
  subst e3
  have hfit : n * s ≤ c * s := Nat.mul_le_mul_right _ hn
  refine ⟨by simpa using hlen, .inr ⟨g, c, rfl, hB, by simpa [World.setCell] using hg, hn, hm, fun j u' hu => ?_, fun j hj => ?_⟩⟩
  · have hj := (List.getElem?_eq_some_iff.1 hu).1
    simp at hj
    by_cases hji : j = i
    · subst hji
      obtain ⟨u0, hu0⟩ := Option.isSome_iff_exists.1 (hroom j (by omega)).1
      rw [World.cell?_setCell_same _ _ _ (by rw [hu0]), ← hu]
      simp [hj]
    · rw [World.cell?_setCell_other _ _ _ _ (fun e => by injection e with _ e2; omega)]
      refine hcell j u' ?_
      rw [← hu]
      simp [show ¬ i = j by omega]
  · obtain ⟨q1, q2⟩ := hroom j hj
    refine ⟨?_, by rw [World.frozen?_setCell]; exact q2⟩
    obtain ⟨u0, hu0⟩ := Option.isSome_iff_exists.1 q1
    obtain ⟨v, hv⟩ := cell?_setCell_some (w := w) (p := ⟨g, i, none⟩) (x := u) (q := ⟨g, j, none⟩) (v := u0) hu0
    rw [hv]; rfl
theorem OwnP.put {w : World} {B g n c : Nat} {ps : List PinD} {k : Nat} {p : PinD} (h : OwnP w B (.slice (some ⟨g, 0, none⟩) n c) ps) (hk : k < ps.length) :
    OwnP (((((w.setCell ⟨g, k * 5, none⟩ (.string p.n)).setCell ⟨g, k * 5 + 1, none⟩ (.int .i64 p.a)).setCell ⟨g, k * 5 + 2, none⟩ (.int .i64 p.b)).setCell ⟨g, k * 5 + 3, none⟩ (.int .i64 p.e)).setCell ⟨g, k * 5 + 4, none⟩ (.int .i64 p.u)) B (.slice (some ⟨g, 0, none⟩) n c) (ps.set k p) := by
  have hn : n = ps.length := by
    obtain ⟨a, cap, e, _⟩ := h.form
    injection e
  subst hn
  have hl := flat_length ps
  unfold OwnP
  rw [flat_set ps k p hk, List.length_set]
  refine Own.putCell (Own.putCell (Own.putCell (Own.putCell (Own.putCell h ?_) ?_) ?_) ?_) ?_ <;> (try simp only [List.length_set]) <;> omega
theorem OwnP.cell {w : World} {B g n c : Nat} {ps : List PinD} (h : OwnP w B (.slice (some ⟨g, 0, none⟩) n c) ps) {k i : Nat} (hk : k < ps.length) {u : Value} (hu : (ps[k]?.getD pin0).vals[i]? = some u) :
    w.cell? ⟨g, k * 5 + i, none⟩ = some u ∧ w.frozen? ⟨g, k * 5 + i, none⟩ = false := by
  rcases h.2 with ⟨e, h0⟩ | ⟨g', c', e, hB, hg, hn, hm, hcell, hroom⟩
  · cases e
  injection e with e1 e2 e3
  injection e1 with e1
  injection e1 with e1 _ _
  subst e1
  subst e3
  have hi : i < 5 := by have := (List.getElem?_eq_some_iff.1 hu).1; simpa [PinD.vals_length] using this
  have : (k + 1) * 5 ≤ c * 5 := Nat.mul_le_mul_right _ (by omega)
  exact ⟨hcell _ _ (flat_get ps k i u hk hu), (hroom _ (by omega)).2⟩
theorem pin_oneCell (p : PinD) : ∀ v ∈ p.vals, v.oneCell' = true := by
  intro v hv
  simp only [PinD.vals, List.mem_cons, List.not_mem_nil, or_false] at hv
  rcases hv with rfl | rfl | rfl | rfl | rfl <;> rfl
end Go.Proofs.YtlodhleihnlchaaGreatDoor
namespace Go.Proofs.YtlodhleihnlchaaGreatDoor
open Go.RowKit
set_option maxRecDepth 100000
set_option linter.unusedVariables false

theorem isTime_any (v : Int) (w : World) : Calls Tryz.prog 156 #[.int .i64 v] w fun e w' => e = .returned (.bool (timB v)) ∧ w = w' := by
  by_cases h0 : 0 ≤ v
  · by_cases h1 : v ≤ 9999
    · have e : timB v = true := by simp [timB]; omega
      rw [e]
      go_enter Tryz.func156, Tryz.ntmps156
      go_wp2_with fail
      go_ret
      simp
    · have e : timB v = false := by simp [timB]; omega
      rw [e]
      go_enter Tryz.func156, Tryz.ntmps156
      go_wp2_with fail
      go_ret
      simp
  · have e : timB v = false := by simp [timB]; omega
    rw [e]
    go_enter Tryz.func156, Tryz.ntmps156
    go_wp2_with fail
    go_ret
    simp
theorem isEpoch_any (v : Int) (w : World) : Calls Tryz.prog 247 #[.int .i64 v] w fun e w' => e = .returned (.bool (epB v)) ∧ w = w' := by
  by_cases h0 : 1 ≤ v
  · by_cases h1 : v ≤ 200
    · have e : epB v = true := by simp [epB]; omega
      rw [e]
      go_enter Tryz.func247, Tryz.ntmps247
      go_wp2_with fail
      go_ret
      simp
    · have e : epB v = false := by simp [epB]; omega
      rw [e]
      go_enter Tryz.func247, Tryz.ntmps247
      go_wp2_with fail
      go_ret
      simp
  · have e : epB v = false := by simp [epB]; omega
    rw [e]
    go_enter Tryz.func247, Tryz.ntmps247
    go_wp2_with fail
    go_ret
    simp
theorem isBackup_any (v : Int) (w : World) : Calls Tryz.prog 246 #[.int .i64 v] w fun e w' => e = .returned (.bool (bakB v)) ∧ Below w.heap.size w w' := by
  by_cases h0 : v = 0
  · have e : bakB v = true := by simp [bakB, h0]
    rw [e]
    subst h0
    go_enter Tryz.func246, Tryz.ntmps246
    go_wp2_with fail
    go_ret
    exact ⟨rfl, Below.refl _ _⟩
  · have e : bakB v = pubB v := by simp [bakB, h0]
    rw [e]
    have q0 : (v == 0) = false := by simpa using h0
    generalize hp : pubB v = c
    go_enter Tryz.func246, Tryz.ntmps246
    go_wp2_with fail
    refine (implIsPublic_any _ _).mono ?_
    rintro r u1 ⟨rfl, b1⟩
    rw [hp]
    go_wp2_with fail
    go_ret
    exact ⟨rfl, b1⟩

theorem implPinFault_any (p : PinD) (w : World) (hn : p.n.size ≤ maxLen) :
    Calls Tryz.prog 158 #[P5 p] w fun e w' => e = .returned (.int .i64 p.f) ∧ Below w.heap.size w w' := by
  obtain ⟨n, a, b, c, u⟩ := p
  show Calls Tryz.prog 158 #[.agg #[.string n, .int .i64 a, .int .i64 b, .int .i64 c, .int .i64 u]] w fun e w' => e = .returned (.int .i64 (pinF n.data.toList a b c u)) ∧ Below w.heap.size w w'
  have b0 := bal (Below.refl _ w) (.cells #[.string n, .int .i64 a, .int .i64 b, .int .i64 c, .int .i64 u] 59)
  have A0 := At.new w [.string n, .int .i64 a, .int .i64 b, .int .i64 c, .int .i64 u] 59
  have F := fun w => implNormalFault_any n w hn
  by_cases h0 : M.normF n.data.toList = 0
  · rw [h0] at F
    cases hp : pubB a
    · rw [pinF_no h0 (by simp [pinB, hp])]
      go_enter Tryz.func158, Tryz.ntmps158
      go_wp2_with fail
      generalize w.alloc (.cells #[.string n, .int .i64 a, .int .i64 b, .int .i64 c, .int .i64 u] 59) = W0 at *
      refine (F _).mono ?_
      rintro r u1 ⟨rfl, b1⟩
      have A1 := A0.on b1
      have p0 := A1.cell 0 _ rfl
      have p1 := A1.cell 1 _ rfl
      have p2 := A1.cell 2 _ rfl
      have p3 := A1.cell 3 _ rfl
      have p4 := A1.cell 4 _ rfl
      have B1 := btr b0 b1
      clear A0 b0 b1 F
      go_wp2_with fail
      refine (implIsPublic_any _ _).mono ?_
      rintro r u2 ⟨rfl, b2⟩
      have A2 := A1.on b2
      have q0 := A2.cell 0 _ rfl
      have q1 := A2.cell 1 _ rfl
      have q2 := A2.cell 2 _ rfl
      have q3 := A2.cell 3 _ rfl
      have q4 := A2.cell 4 _ rfl
      have B2 := btr B1 b2
      clear A1 B1 b2 p0 p1 p2 p3 p4
      go_wp2_with fail
      go_ret
      exact ⟨rfl, B2⟩
    cases hk : bakB b
    · rw [pinF_no h0 (by simp [pinB, hk])]
      go_enter Tryz.func158, Tryz.ntmps158
      go_wp2_with fail
      generalize w.alloc (.cells #[.string n, .int .i64 a, .int .i64 b, .int .i64 c, .int .i64 u] 59) = W0 at *
      refine (F _).mono ?_
      rintro r u1 ⟨rfl, b1⟩
      have A1 := A0.on b1
      have p0 := A1.cell 0 _ rfl
      have p1 := A1.cell 1 _ rfl
      have p2 := A1.cell 2 _ rfl
      have p3 := A1.cell 3 _ rfl
      have p4 := A1.cell 4 _ rfl
      have B1 := btr b0 b1
      clear A0 b0 b1 F
      go_wp2_with fail
      refine (implIsPublic_any _ _).mono ?_
      rintro r u2 ⟨rfl, b2⟩
      have A2 := A1.on b2
      have q0 := A2.cell 0 _ rfl
      have q1 := A2.cell 1 _ rfl
      have q2 := A2.cell 2 _ rfl
      have q3 := A2.cell 3 _ rfl
      have q4 := A2.cell 4 _ rfl
      have B2 := btr B1 b2
      clear A1 B1 b2 p0 p1 p2 p3 p4
      go_wp2_with fail
      refine (isBackup_any _ _).mono ?_
      rintro r u3 ⟨rfl, b3⟩
      have A3 := A2.on b3
      have x0 := A3.cell 0 _ rfl
      have x1 := A3.cell 1 _ rfl
      have x2 := A3.cell 2 _ rfl
      have x3 := A3.cell 3 _ rfl
      have x4 := A3.cell 4 _ rfl
      have B3 := btr B2 b3
      clear A2 B2 b3 q0 q1 q2 q3 q4
      go_wp2_with fail
      go_ret
      exact ⟨rfl, B3⟩
    cases he : epB c
    · rw [pinF_no h0 (by simp [pinB, he])]
      go_enter Tryz.func158, Tryz.ntmps158
      go_wp2_with fail
      generalize w.alloc (.cells #[.string n, .int .i64 a, .int .i64 b, .int .i64 c, .int .i64 u] 59) = W0 at *
      refine (F _).mono ?_
      rintro r u1 ⟨rfl, b1⟩
      have A1 := A0.on b1
      have p0 := A1.cell 0 _ rfl
      have p1 := A1.cell 1 _ rfl
      have p2 := A1.cell 2 _ rfl
      have p3 := A1.cell 3 _ rfl
      have p4 := A1.cell 4 _ rfl
      have B1 := btr b0 b1
      clear A0 b0 b1 F
      go_wp2_with fail
      refine (implIsPublic_any _ _).mono ?_
      rintro r u2 ⟨rfl, b2⟩
      have A2 := A1.on b2
      have q0 := A2.cell 0 _ rfl
      have q1 := A2.cell 1 _ rfl
      have q2 := A2.cell 2 _ rfl
      have q3 := A2.cell 3 _ rfl
      have q4 := A2.cell 4 _ rfl
      have B2 := btr B1 b2
      clear A1 B1 b2 p0 p1 p2 p3 p4
      go_wp2_with fail
      refine (isBackup_any _ _).mono ?_
      rintro r u3 ⟨rfl, b3⟩
      have A3 := A2.on b3
      have x0 := A3.cell 0 _ rfl
      have x1 := A3.cell 1 _ rfl
      have x2 := A3.cell 2 _ rfl
      have x3 := A3.cell 3 _ rfl
      have x4 := A3.cell 4 _ rfl
      have B3 := btr B2 b3
      clear A2 B2 b3 q0 q1 q2 q3 q4
      go_wp2_with fail
      refine (isEpoch_any _ _).mono ?_
      rintro r w' ⟨rfl, rfl⟩
      go_wp2_with fail
      go_ret
      exact ⟨rfl, B3⟩
    cases ht : timB u
    · rw [pinF_no h0 (by simp [pinB, ht])]
      go_enter Tryz.func158, Tryz.ntmps158
      go_wp2_with fail
      generalize w.alloc (.cells #[.string n, .int .i64 a, .int .i64 b, .int .i64 c, .int .i64 u] 59) = W0 at *
      refine (F _).mono ?_
      rintro r u1 ⟨rfl, b1⟩
      have A1 := A0.on b1
      have p0 := A1.cell 0 _ rfl
      have p1 := A1.cell 1 _ rfl
      have p2 := A1.cell 2 _ rfl
      have p3 := A1.cell 3 _ rfl
      have p4 := A1.cell 4 _ rfl
      have B1 := btr b0 b1
      clear A0 b0 b1 F
      go_wp2_with fail
      refine (implIsPublic_any _ _).mono ?_
      rintro r u2 ⟨rfl, b2⟩
      have A2 := A1.on b2
      have q0 := A2.cell 0 _ rfl
      have q1 := A2.cell 1 _ rfl
      have q2 := A2.cell 2 _ rfl
      have q3 := A2.cell 3 _ rfl
      have q4 := A2.cell 4 _ rfl
      have B2 := btr B1 b2
      clear A1 B1 b2 p0 p1 p2 p3 p4
      go_wp2_with fail
      refine (isBackup_any _ _).mono ?_
      rintro r u3 ⟨rfl, b3⟩
      have A3 := A2.on b3
      have x0 := A3.cell 0 _ rfl
      have x1 := A3.cell 1 _ rfl
      have x2 := A3.cell 2 _ rfl
      have x3 := A3.cell 3 _ rfl
      have x4 := A3.cell 4 _ rfl
      have B3 := btr B2 b3
      clear A2 B2 b3 q0 q1 q2 q3 q4
      go_wp2_with fail
      refine (isEpoch_any _ _).mono ?_
      rintro r w' ⟨rfl, rfl⟩
      go_wp2_with fail
      refine (isTime_any _ _).mono ?_
      rintro r w' ⟨rfl, rfl⟩
      go_wp2_with fail
      go_ret
      exact ⟨rfl, B3⟩
    by_cases hba : b = a
    · rw [pinF_taken h0 (by simp [pinB, hp, hk, he, ht]) hba]
      have qba : (b == a) = true := by simpa using hba
      clear hba
      go_enter Tryz.func158, Tryz.ntmps158
      go_wp2_with fail
      generalize w.alloc (.cells #[.string n, .int .i64 a, .int .i64 b, .int .i64 c, .int .i64 u] 59) = W0 at *
      refine (F _).mono ?_
      rintro r u1 ⟨rfl, b1⟩
      have A1 := A0.on b1
      have p0 := A1.cell 0 _ rfl
      have p1 := A1.cell 1 _ rfl
      have p2 := A1.cell 2 _ rfl
      have p3 := A1.cell 3 _ rfl
      have p4 := A1.cell 4 _ rfl
      have B1 := btr b0 b1
      clear A0 b0 b1 F
      go_wp2_with fail
      refine (implIsPublic_any _ _).mono ?_
      rintro r u2 ⟨rfl, b2⟩
      have A2 := A1.on b2
      have q0 := A2.cell 0 _ rfl
      have q1 := A2.cell 1 _ rfl
      have q2 := A2.cell 2 _ rfl
      have q3 := A2.cell 3 _ rfl
      have q4 := A2.cell 4 _ rfl
      have B2 := btr B1 b2
      clear A1 B1 b2 p0 p1 p2 p3 p4
      go_wp2_with fail
      refine (isBackup_any _ _).mono ?_
      rintro r u3 ⟨rfl, b3⟩
      have A3 := A2.on b3
      have x0 := A3.cell 0 _ rfl
      have x1 := A3.cell 1 _ rfl
      have x2 := A3.cell 2 _ rfl
      have x3 := A3.cell 3 _ rfl
      have x4 := A3.cell 4 _ rfl
      have B3 := btr B2 b3
      clear A2 B2 b3 q0 q1 q2 q3 q4
      go_wp2_with fail
      refine (isEpoch_any _ _).mono ?_
      rintro r w' ⟨rfl, rfl⟩
      go_wp2_with fail
      refine (isTime_any _ _).mono ?_
      rintro r w' ⟨rfl, rfl⟩
      go_wp2_with fail
      go_ret
      exact ⟨rfl, B3⟩
    · rw [pinF_yes h0 (by simp [pinB, hp, hk, he, ht]) hba]
      have qba : (b == a) = false := by simpa using hba
      go_enter Tryz.func158, Tryz.ntmps158
      go_wp2_with fail
      generalize w.alloc (.cells #[.string n, .int .i64 a, .int .i64 b, .int .i64 c, .int .i64 u] 59) = W0 at *
      refine (F _).mono ?_
      rintro r u1 ⟨rfl, b1⟩
      have A1 := A0.on b1
      have p0 := A1.cell 0 _ rfl
      have p1 := A1.cell 1 _ rfl
      have p2 := A1.cell 2 _ rfl
      have p3 := A1.cell 3 _ rfl
      have p4 := A1.cell 4 _ rfl
      have B1 := btr b0 b1
      clear A0 b0 b1 F
      go_wp2_with fail
      refine (implIsPublic_any _ _).mono ?_
      rintro r u2 ⟨rfl, b2⟩
      have A2 := A1.on b2
      have q0 := A2.cell 0 _ rfl
      have q1 := A2.cell 1 _ rfl
      have q2 := A2.cell 2 _ rfl
      have q3 := A2.cell 3 _ rfl
      have q4 := A2.cell 4 _ rfl
      have B2 := btr B1 b2
      clear A1 B1 b2 p0 p1 p2 p3 p4
      go_wp2_with fail
      refine (isBackup_any _ _).mono ?_
      rintro r u3 ⟨rfl, b3⟩
      have A3 := A2.on b3
      have x0 := A3.cell 0 _ rfl
      have x1 := A3.cell 1 _ rfl
      have x2 := A3.cell 2 _ rfl
      have x3 := A3.cell 3 _ rfl
      have x4 := A3.cell 4 _ rfl
      have B3 := btr B2 b3
      clear A2 B2 b3 q0 q1 q2 q3 q4
      go_wp2_with fail
      refine (isEpoch_any _ _).mono ?_
      rintro r w' ⟨rfl, rfl⟩
      go_wp2_with fail
      refine (isTime_any _ _).mono ?_
      rintro r w' ⟨rfl, rfl⟩
      go_wp2_with fail
      go_ret
      exact ⟨rfl, B3⟩
  · rw [pinF_norm h0]
    generalize M.normF n.data.toList = c0 at *
    go_enter Tryz.func158, Tryz.ntmps158
    go_wp2_with fail
    generalize w.alloc (.cells #[.string n, .int .i64 a, .int .i64 b, .int .i64 c, .int .i64 u] 59) = W0 at *
    refine (F _).mono ?_
    rintro r u1 ⟨rfl, b1⟩
    have A1 := A0.on b1
    have p0 := A1.cell 0 _ rfl
    have p1 := A1.cell 1 _ rfl
    have p2 := A1.cell 2 _ rfl
    have p3 := A1.cell 3 _ rfl
    have p4 := A1.cell 4 _ rfl
    have B1 := btr b0 b1
    clear A0 b0 b1 F
    go_wp2_with fail
    go_ret
    exact ⟨rfl, B1⟩

theorem l7Time_any (v : Int) (w : World) : Calls Tryz.prog 231 #[.int .i64 v] w fun e w' => e = .returned (.bool (timB v)) ∧ w = w' := by
  have T : ∀ w, Calls Tryz.prog 151 #[.int .i64 v, .int .i64 0, .int .i64 9999] w fun e w' => e = .returned (.bool (timB v)) ∧ w = w' := fun w => l1In_any v 0 9999 w
  generalize timB v = c at *
  go_enter Tryz.func231, Tryz.ntmps231
  go_wp2_with fail
  refine (T _).mono ?_
  rintro r w' ⟨rfl, rfl⟩
  go_wp2_with fail
  go_ret
  simp
theorem l1In_ep (v : Int) (w : World) : Calls Tryz.prog 151 #[.int .i64 v, .int .i64 1, .int .i64 200] w fun e w' => e = .returned (.bool (epB v)) ∧ w = w' := l1In_any v 1 200 w

set_option maxHeartbeats 4000000 in
theorem l7Fault_at (g o : Nat) (p : PinD) (w : World) (hn : p.n.size ≤ maxLen)
    (d0 : w.cell? ⟨g, o, none⟩ = some (.string p.n)) (d1 : w.cell? ⟨g, o + 1, none⟩ = some (.int .i64 p.a)) (d2 : w.cell? ⟨g, o + 2, none⟩ = some (.int .i64 p.b)) (d3 : w.cell? ⟨g, o + 3, none⟩ = some (.int .i64 p.e)) (d4 : w.cell? ⟨g, o + 4, none⟩ = some (.int .i64 p.u)) :
    Calls Tryz.prog 136 #[.pointer (some ⟨g, o, none⟩)] w fun e w' => e = .returned (.int .i64 p.f) ∧ Below w.heap.size w w' := by
  obtain ⟨n, a, b, c, u⟩ := p
  show Calls Tryz.prog 136 #[.pointer (some ⟨g, o, none⟩)] w fun e w' => e = .returned (.int .i64 (pinF n.data.toList a b c u)) ∧ Below w.heap.size w w'
  dsimp only at hn d0 d1 d2 d3 d4
  have hL : n.data.toList.length = n.size := by simp
  have F := fun w => l5Fault_any n w hn
  by_cases h0 : M.nameF n.data.toList = 0
  · obtain ⟨h20, hm⟩ := M.nameF_zero h0
    rw [hL] at h20
    have N := fun w : World => l5Normal_any n w h20
    have Q := text_beq (M.bs (M.nrm n.data.toList)) n
    rw [M.bs_list] at Q
    rw [h0] at F
    by_cases hq : M.nrm n.data.toList = n.data.toList
    · have h1 := M.normF_yes h0 hq
      rw [decide_eq_true hq] at Q
      generalize M.bs (M.nrm n.data.toList) = R at *
      clear h0 hm hq hL
      cases hp : pubB a
      · rw [pinF_no h1 (by simp [pinB, hp])]
        go_enter Tryz.func136, Tryz.ntmps136
        go_wp2_with fail
        refine (F _).mono ?_
        rintro r u1 ⟨rfl, b1⟩
        have p0 := cell_keep b1 d0
        go_wp2_with fail
        refine wp_region_line (Bel u1) [(0, true), (1, true), (2, true), (3, true), (5, true), (6, true), (7, true), (8, true), (4, false), (9, true)] (by kernel_rfl) (by kernel_rfl) (fun _ _ d _ _ h => by cases d <;> exact h) (Bel.drew u1) ?_
        have hst := Bel.drew u1
        have inst : Nonempty (Of (Bel u1)) := ⟨⟨_, hst⟩⟩
        have q0 := bel_cell p0
        iterate 8 (refine line_read rfl (by kernel_rfl) (fun K hK => ?_); go_big_quiet_op; refine hK _ ?_; clear hK K)
        refine line_alone rfl (by kernel_rfl) (fun K hK => ?_)
        refine call_wp (args := #[.string n]) rfl (by kernel_rfl) (by kernel_rfl) (N _) (fun wn hbn => ?_)
        have hst2 := hst.on hbn
        refine hK _ _ hst2 ?_
        clear hK K hst hbn
        have hst := hst2
        clear hst2
        simp only [Act.put, List.setIfInBounds_toArray, List.set_cons_zero, List.set_cons_succ]
        iterate 1 (refine line_read rfl (by kernel_rfl) (fun K hK => ?_); go_big_quiet_op; refine hK _ ?_; clear hK K)
        refine line_nil ?_
        have bb := btr b1 hst.out
        have y1 := cell_keep bb d1
        have y2 := cell_keep bb d2
        have y3 := cell_keep bb d3
        have y4 := cell_keep bb d4
        clear hst inst q0 p0 b1 F N d0 d1 d2 d3 d4
        go_wp2_with fail
        refine (l1Public_any _ _).mono ?_
        rintro r w' ⟨rfl, rfl⟩
        go_wp2_with fail
        go_ret
        exact ⟨rfl, bb⟩
      by_cases hb0 : b = 0
      · have hk : bakB b = true := by simp [bakB, hb0]
        subst hb0
        cases he : epB c
        · rw [pinF_no h1 (by simp [pinB, he])]
          go_enter Tryz.func136, Tryz.ntmps136
          go_wp2_with fail
          refine (F _).mono ?_
          rintro r u1 ⟨rfl, b1⟩
          have p0 := cell_keep b1 d0
          go_wp2_with fail
          refine wp_region_line (Bel u1) [(0, true), (1, true), (2, true), (3, true), (5, true), (6, true), (7, true), (8, true), (4, false), (9, true)] (by kernel_rfl) (by kernel_rfl) (fun _ _ d _ _ h => by cases d <;> exact h) (Bel.drew u1) ?_
          have hst := Bel.drew u1
          have inst : Nonempty (Of (Bel u1)) := ⟨⟨_, hst⟩⟩
          have q0 := bel_cell p0
          iterate 8 (refine line_read rfl (by kernel_rfl) (fun K hK => ?_); go_big_quiet_op; refine hK _ ?_; clear hK K)
          refine line_alone rfl (by kernel_rfl) (fun K hK => ?_)
          refine call_wp (args := #[.string n]) rfl (by kernel_rfl) (by kernel_rfl) (N _) (fun wn hbn => ?_)
          have hst2 := hst.on hbn
          refine hK _ _ hst2 ?_
          clear hK K hst hbn
          have hst := hst2
          clear hst2
          simp only [Act.put, List.setIfInBounds_toArray, List.set_cons_zero, List.set_cons_succ]
          iterate 1 (refine line_read rfl (by kernel_rfl) (fun K hK => ?_); go_big_quiet_op; refine hK _ ?_; clear hK K)
          refine line_nil ?_
          have bb := btr b1 hst.out
          have y1 := cell_keep bb d1
          have y2 := cell_keep bb d2
          have y3 := cell_keep bb d3
          have y4 := cell_keep bb d4
          clear hst inst q0 p0 b1 F N d0 d1 d2 d3 d4
          go_wp2_with fail
          refine (l1Public_any _ _).mono ?_
          rintro r w' ⟨rfl, rfl⟩
          go_wp2_with fail
          refine (l1In_ep _ _).mono ?_
          rintro r w' ⟨rfl, rfl⟩
          go_wp2_with fail
          go_ret
          exact ⟨rfl, bb⟩
        cases ht : timB u
        · rw [pinF_no h1 (by simp [pinB, ht])]
          go_enter Tryz.func136, Tryz.ntmps136
          go_wp2_with fail
          refine (F _).mono ?_
          rintro r u1 ⟨rfl, b1⟩
          have p0 := cell_keep b1 d0
          go_wp2_with fail
          refine wp_region_line (Bel u1) [(0, true), (1, true), (2, true), (3, true), (5, true), (6, true), (7, true), (8, true), (4, false), (9, true)] (by kernel_rfl) (by kernel_rfl) (fun _ _ d _ _ h => by cases d <;> exact h) (Bel.drew u1) ?_
          have hst := Bel.drew u1
          have inst : Nonempty (Of (Bel u1)) := ⟨⟨_, hst⟩⟩
          have q0 := bel_cell p0
          iterate 8 (refine line_read rfl (by kernel_rfl) (fun K hK => ?_); go_big_quiet_op; refine hK _ ?_; clear hK K)
          refine line_alone rfl (by kernel_rfl) (fun K hK => ?_)
          refine call_wp (args := #[.string n]) rfl (by kernel_rfl) (by kernel_rfl) (N _) (fun wn hbn => ?_)
          have hst2 := hst.on hbn
          refine hK _ _ hst2 ?_
          clear hK K hst hbn
          have hst := hst2
          clear hst2
          simp only [Act.put, List.setIfInBounds_toArray, List.set_cons_zero, List.set_cons_succ]
          iterate 1 (refine line_read rfl (by kernel_rfl) (fun K hK => ?_); go_big_quiet_op; refine hK _ ?_; clear hK K)
          refine line_nil ?_
          have bb := btr b1 hst.out
          have y1 := cell_keep bb d1
          have y2 := cell_keep bb d2
          have y3 := cell_keep bb d3
          have y4 := cell_keep bb d4
          clear hst inst q0 p0 b1 F N d0 d1 d2 d3 d4
          go_wp2_with fail
          refine (l1Public_any _ _).mono ?_
          rintro r w' ⟨rfl, rfl⟩
          go_wp2_with fail
          refine (l1In_ep _ _).mono ?_
          rintro r w' ⟨rfl, rfl⟩
          go_wp2_with fail
          refine (l7Time_any _ _).mono ?_
          rintro r w' ⟨rfl, rfl⟩
          go_wp2_with fail
          go_ret
          exact ⟨rfl, bb⟩
        by_cases hba : (0 : Int) = a
        · rw [pinF_taken h1 (by simp [pinB, hp, hk, he, ht]) hba]
          subst hba
          go_enter Tryz.func136, Tryz.ntmps136
          go_wp2_with fail
          refine (F _).mono ?_
          rintro r u1 ⟨rfl, b1⟩
          have p0 := cell_keep b1 d0
          go_wp2_with fail
          refine wp_region_line (Bel u1) [(0, true), (1, true), (2, true), (3, true), (5, true), (6, true), (7, true), (8, true), (4, false), (9, true)] (by kernel_rfl) (by kernel_rfl) (fun _ _ d _ _ h => by cases d <;> exact h) (Bel.drew u1) ?_
          have hst := Bel.drew u1
          have inst : Nonempty (Of (Bel u1)) := ⟨⟨_, hst⟩⟩
          have q0 := bel_cell p0
          iterate 8 (refine line_read rfl (by kernel_rfl) (fun K hK => ?_); go_big_quiet_op; refine hK _ ?_; clear hK K)
          refine line_alone rfl (by kernel_rfl) (fun K hK => ?_)
          refine call_wp (args := #[.string n]) rfl (by kernel_rfl) (by kernel_rfl) (N _) (fun wn hbn => ?_)
          have hst2 := hst.on hbn
          refine hK _ _ hst2 ?_
          clear hK K hst hbn
          have hst := hst2
          clear hst2
          simp only [Act.put, List.setIfInBounds_toArray, List.set_cons_zero, List.set_cons_succ]
          iterate 1 (refine line_read rfl (by kernel_rfl) (fun K hK => ?_); go_big_quiet_op; refine hK _ ?_; clear hK K)
          refine line_nil ?_
          have bb := btr b1 hst.out
          have y1 := cell_keep bb d1
          have y2 := cell_keep bb d2
          have y3 := cell_keep bb d3
          have y4 := cell_keep bb d4
          clear hst inst q0 p0 b1 F N d0 d1 d2 d3 d4
          go_wp2_with fail
          refine (l1Public_any _ _).mono ?_
          rintro r w' ⟨rfl, rfl⟩
          go_wp2_with fail
          refine (l1In_ep _ _).mono ?_
          rintro r w' ⟨rfl, rfl⟩
          go_wp2_with fail
          refine (l7Time_any _ _).mono ?_
          rintro r w' ⟨rfl, rfl⟩
          go_wp2_with fail
          go_quiet (fail)
          go_wp2_with fail
          go_ret
          exact ⟨rfl, bdrewN bb _⟩
        · rw [pinF_yes h1 (by simp [pinB, hp, hk, he, ht]) hba]
          have qba : ((0 : Int) == a) = false := by simpa using hba
          go_enter Tryz.func136, Tryz.ntmps136
          go_wp2_with fail
          refine (F _).mono ?_
          rintro r u1 ⟨rfl, b1⟩
          have p0 := cell_keep b1 d0
          go_wp2_with fail
          refine wp_region_line (Bel u1) [(0, true), (1, true), (2, true), (3, true), (5, true), (6, true), (7, true), (8, true), (4, false), (9, true)] (by kernel_rfl) (by kernel_rfl) (fun _ _ d _ _ h => by cases d <;> exact h) (Bel.drew u1) ?_
          have hst := Bel.drew u1
          have inst : Nonempty (Of (Bel u1)) := ⟨⟨_, hst⟩⟩
          have q0 := bel_cell p0
          iterate 8 (refine line_read rfl (by kernel_rfl) (fun K hK => ?_); go_big_quiet_op; refine hK _ ?_; clear hK K)
          refine line_alone rfl (by kernel_rfl) (fun K hK => ?_)
          refine call_wp (args := #[.string n]) rfl (by kernel_rfl) (by kernel_rfl) (N _) (fun wn hbn => ?_)
          have hst2 := hst.on hbn
          refine hK _ _ hst2 ?_
          clear hK K hst hbn
          have hst := hst2
          clear hst2
          simp only [Act.put, List.setIfInBounds_toArray, List.set_cons_zero, List.set_cons_succ]
          iterate 1 (refine line_read rfl (by kernel_rfl) (fun K hK => ?_); go_big_quiet_op; refine hK _ ?_; clear hK K)
          refine line_nil ?_
          have bb := btr b1 hst.out
          have y1 := cell_keep bb d1
          have y2 := cell_keep bb d2
          have y3 := cell_keep bb d3
          have y4 := cell_keep bb d4
          clear hst inst q0 p0 b1 F N d0 d1 d2 d3 d4
          go_wp2_with fail
          refine (l1Public_any _ _).mono ?_
          rintro r w' ⟨rfl, rfl⟩
          go_wp2_with fail
          refine (l1In_ep _ _).mono ?_
          rintro r w' ⟨rfl, rfl⟩
          go_wp2_with fail
          refine (l7Time_any _ _).mono ?_
          rintro r w' ⟨rfl, rfl⟩
          go_wp2_with fail
          go_quiet (fail)
          go_wp2_with fail
          go_ret
          exact ⟨rfl, bdrewN bb _⟩
      · have hk : bakB b = pubB b := by simp [bakB, hb0]
        have qb0 : (b == 0) = false := by simpa using hb0
        cases hkp : pubB b
        · rw [pinF_no h1 (by simp [pinB, hk, hkp])]
          clear hk
          go_enter Tryz.func136, Tryz.ntmps136
          go_wp2_with fail
          refine (F _).mono ?_
          rintro r u1 ⟨rfl, b1⟩
          have p0 := cell_keep b1 d0
          go_wp2_with fail
          refine wp_region_line (Bel u1) [(0, true), (1, true), (2, true), (3, true), (5, true), (6, true), (7, true), (8, true), (4, false), (9, true)] (by kernel_rfl) (by kernel_rfl) (fun _ _ d _ _ h => by cases d <;> exact h) (Bel.drew u1) ?_
          have hst := Bel.drew u1
          have inst : Nonempty (Of (Bel u1)) := ⟨⟨_, hst⟩⟩
          have q0 := bel_cell p0
          iterate 8 (refine line_read rfl (by kernel_rfl) (fun K hK => ?_); go_big_quiet_op; refine hK _ ?_; clear hK K)
          refine line_alone rfl (by kernel_rfl) (fun K hK => ?_)
          refine call_wp (args := #[.string n]) rfl (by kernel_rfl) (by kernel_rfl) (N _) (fun wn hbn => ?_)
          have hst2 := hst.on hbn
          refine hK _ _ hst2 ?_
          clear hK K hst hbn
          have hst := hst2
          clear hst2
          simp only [Act.put, List.setIfInBounds_toArray, List.set_cons_zero, List.set_cons_succ]
          iterate 1 (refine line_read rfl (by kernel_rfl) (fun K hK => ?_); go_big_quiet_op; refine hK _ ?_; clear hK K)
          refine line_nil ?_
          have bb := btr b1 hst.out
          have y1 := cell_keep bb d1
          have y2 := cell_keep bb d2
          have y3 := cell_keep bb d3
          have y4 := cell_keep bb d4
          clear hst inst q0 p0 b1 F N d0 d1 d2 d3 d4
          go_wp2_with fail
          refine (l1Public_any _ _).mono ?_
          rintro r w' ⟨rfl, rfl⟩
          go_wp2_with fail
          refine (l1Public_any _ _).mono ?_
          rintro r w' ⟨rfl, rfl⟩
          go_wp2_with fail
          go_ret
          exact ⟨rfl, bb⟩
        rw [hkp] at hk
        cases he : epB c
        · rw [pinF_no h1 (by simp [pinB, he])]
          go_enter Tryz.func136, Tryz.ntmps136
          go_wp2_with fail
          refine (F _).mono ?_
          rintro r u1 ⟨rfl, b1⟩
          have p0 := cell_keep b1 d0
          go_wp2_with fail
          refine wp_region_line (Bel u1) [(0, true), (1, true), (2, true), (3, true), (5, true), (6, true), (7, true), (8, true), (4, false), (9, true)] (by kernel_rfl) (by kernel_rfl) (fun _ _ d _ _ h => by cases d <;> exact h) (Bel.drew u1) ?_
          have hst := Bel.drew u1
          have inst : Nonempty (Of (Bel u1)) := ⟨⟨_, hst⟩⟩
          have q0 := bel_cell p0
          iterate 8 (refine line_read rfl (by kernel_rfl) (fun K hK => ?_); go_big_quiet_op; refine hK _ ?_; clear hK K)
          refine line_alone rfl (by kernel_rfl) (fun K hK => ?_)
          refine call_wp (args := #[.string n]) rfl (by kernel_rfl) (by kernel_rfl) (N _) (fun wn hbn => ?_)
          have hst2 := hst.on hbn
          refine hK _ _ hst2 ?_
          clear hK K hst hbn
          have hst := hst2
          clear hst2
          simp only [Act.put, List.setIfInBounds_toArray, List.set_cons_zero, List.set_cons_succ]
          iterate 1 (refine line_read rfl (by kernel_rfl) (fun K hK => ?_); go_big_quiet_op; refine hK _ ?_; clear hK K)
          refine line_nil ?_
          have bb := btr b1 hst.out
          have y1 := cell_keep bb d1
          have y2 := cell_keep bb d2
          have y3 := cell_keep bb d3
          have y4 := cell_keep bb d4
          clear hst inst q0 p0 b1 F N d0 d1 d2 d3 d4
          go_wp2_with fail
          refine (l1Public_any _ _).mono ?_
          rintro r w' ⟨rfl, rfl⟩
          go_wp2_with fail
          refine (l1Public_any _ _).mono ?_
          rintro r w' ⟨rfl, rfl⟩
          go_wp2_with fail
          refine (l1In_ep _ _).mono ?_
          rintro r w' ⟨rfl, rfl⟩
          go_wp2_with fail
          go_ret
          exact ⟨rfl, bb⟩
        cases ht : timB u
        · rw [pinF_no h1 (by simp [pinB, ht])]
          go_enter Tryz.func136, Tryz.ntmps136
          go_wp2_with fail
          refine (F _).mono ?_
          rintro r u1 ⟨rfl, b1⟩
          have p0 := cell_keep b1 d0
          go_wp2_with fail
          refine wp_region_line (Bel u1) [(0, true), (1, true), (2, true), (3, true), (5, true), (6, true), (7, true), (8, true), (4, false), (9, true)] (by kernel_rfl) (by kernel_rfl) (fun _ _ d _ _ h => by cases d <;> exact h) (Bel.drew u1) ?_
          have hst := Bel.drew u1
          have inst : Nonempty (Of (Bel u1)) := ⟨⟨_, hst⟩⟩
          have q0 := bel_cell p0
          iterate 8 (refine line_read rfl (by kernel_rfl) (fun K hK => ?_); go_big_quiet_op; refine hK _ ?_; clear hK K)
          refine line_alone rfl (by kernel_rfl) (fun K hK => ?_)
          refine call_wp (args := #[.string n]) rfl (by kernel_rfl) (by kernel_rfl) (N _) (fun wn hbn => ?_)
          have hst2 := hst.on hbn
          refine hK _ _ hst2 ?_
          clear hK K hst hbn
          have hst := hst2
          clear hst2
          simp only [Act.put, List.setIfInBounds_toArray, List.set_cons_zero, List.set_cons_succ]
          iterate 1 (refine line_read rfl (by kernel_rfl) (fun K hK => ?_); go_big_quiet_op; refine hK _ ?_; clear hK K)
          refine line_nil ?_
          have bb := btr b1 hst.out
          have y1 := cell_keep bb d1
          have y2 := cell_keep bb d2
          have y3 := cell_keep bb d3
          have y4 := cell_keep bb d4
          clear hst inst q0 p0 b1 F N d0 d1 d2 d3 d4
          go_wp2_with fail
          refine (l1Public_any _ _).mono ?_
          rintro r w' ⟨rfl, rfl⟩
          go_wp2_with fail
          refine (l1Public_any _ _).mono ?_
          rintro r w' ⟨rfl, rfl⟩
          go_wp2_with fail
          refine (l1In_ep _ _).mono ?_
          rintro r w' ⟨rfl, rfl⟩
          go_wp2_with fail
          refine (l7Time_any _ _).mono ?_
          rintro r w' ⟨rfl, rfl⟩
          go_wp2_with fail
          go_ret
          exact ⟨rfl, bb⟩
        by_cases hba : b = a
        · rw [pinF_taken h1 (by simp [pinB, hp, hk, he, ht]) hba]
          have qba : (b == a) = true := by simpa using hba
          clear hba
          go_enter Tryz.func136, Tryz.ntmps136
          go_wp2_with fail
          refine (F _).mono ?_
          rintro r u1 ⟨rfl, b1⟩
          have p0 := cell_keep b1 d0
          go_wp2_with fail
          refine wp_region_line (Bel u1) [(0, true), (1, true), (2, true), (3, true), (5, true), (6, true), (7, true), (8, true), (4, false), (9, true)] (by kernel_rfl) (by kernel_rfl) (fun _ _ d _ _ h => by cases d <;> exact h) (Bel.drew u1) ?_
          have hst := Bel.drew u1
          have inst : Nonempty (Of (Bel u1)) := ⟨⟨_, hst⟩⟩
          have q0 := bel_cell p0
          iterate 8 (refine line_read rfl (by kernel_rfl) (fun K hK => ?_); go_big_quiet_op; refine hK _ ?_; clear hK K)
          refine line_alone rfl (by kernel_rfl) (fun K hK => ?_)
          refine call_wp (args := #[.string n]) rfl (by kernel_rfl) (by kernel_rfl) (N _) (fun wn hbn => ?_)
          have hst2 := hst.on hbn
          refine hK _ _ hst2 ?_
          clear hK K hst hbn
          have hst := hst2
          clear hst2
          simp only [Act.put, List.setIfInBounds_toArray, List.set_cons_zero, List.set_cons_succ]
          iterate 1 (refine line_read rfl (by kernel_rfl) (fun K hK => ?_); go_big_quiet_op; refine hK _ ?_; clear hK K)
          refine line_nil ?_
          have bb := btr b1 hst.out
          have y1 := cell_keep bb d1
          have y2 := cell_keep bb d2
          have y3 := cell_keep bb d3
          have y4 := cell_keep bb d4
          clear hst inst q0 p0 b1 F N d0 d1 d2 d3 d4
          go_wp2_with fail
          refine (l1Public_any _ _).mono ?_
          rintro r w' ⟨rfl, rfl⟩
          go_wp2_with fail
          refine (l1Public_any _ _).mono ?_
          rintro r w' ⟨rfl, rfl⟩
          go_wp2_with fail
          refine (l1In_ep _ _).mono ?_
          rintro r w' ⟨rfl, rfl⟩
          go_wp2_with fail
          refine (l7Time_any _ _).mono ?_
          rintro r w' ⟨rfl, rfl⟩
          go_wp2_with fail
          go_quiet (fail)
          go_wp2_with fail
          go_ret
          exact ⟨rfl, bdrewN bb _⟩
        · rw [pinF_yes h1 (by simp [pinB, hp, hk, he, ht]) hba]
          have qba : (b == a) = false := by simpa using hba
          go_enter Tryz.func136, Tryz.ntmps136
          go_wp2_with fail
          refine (F _).mono ?_
          rintro r u1 ⟨rfl, b1⟩
          have p0 := cell_keep b1 d0
          go_wp2_with fail
          refine wp_region_line (Bel u1) [(0, true), (1, true), (2, true), (3, true), (5, true), (6, true), (7, true), (8, true), (4, false), (9, true)] (by kernel_rfl) (by kernel_rfl) (fun _ _ d _ _ h => by cases d <;> exact h) (Bel.drew u1) ?_
          have hst := Bel.drew u1
          have inst : Nonempty (Of (Bel u1)) := ⟨⟨_, hst⟩⟩
          have q0 := bel_cell p0
          iterate 8 (refine line_read rfl (by kernel_rfl) (fun K hK => ?_); go_big_quiet_op; refine hK _ ?_; clear hK K)
          refine line_alone rfl (by kernel_rfl) (fun K hK => ?_)
          refine call_wp (args := #[.string n]) rfl (by kernel_rfl) (by kernel_rfl) (N _) (fun wn hbn => ?_)
          have hst2 := hst.on hbn
          refine hK _ _ hst2 ?_
          clear hK K hst hbn
          have hst := hst2
          clear hst2
          simp only [Act.put, List.setIfInBounds_toArray, List.set_cons_zero, List.set_cons_succ]
          iterate 1 (refine line_read rfl (by kernel_rfl) (fun K hK => ?_); go_big_quiet_op; refine hK _ ?_; clear hK K)
          refine line_nil ?_
          have bb := btr b1 hst.out
          have y1 := cell_keep bb d1
          have y2 := cell_keep bb d2
          have y3 := cell_keep bb d3
          have y4 := cell_keep bb d4
          clear hst inst q0 p0 b1 F N d0 d1 d2 d3 d4
          go_wp2_with fail
          refine (l1Public_any _ _).mono ?_
          rintro r w' ⟨rfl, rfl⟩
          go_wp2_with fail
          refine (l1Public_any _ _).mono ?_
          rintro r w' ⟨rfl, rfl⟩
          go_wp2_with fail
          refine (l1In_ep _ _).mono ?_
          rintro r w' ⟨rfl, rfl⟩
          go_wp2_with fail
          refine (l7Time_any _ _).mono ?_
          rintro r w' ⟨rfl, rfl⟩
          go_wp2_with fail
          go_quiet (fail)
          go_wp2_with fail
          go_ret
          exact ⟨rfl, bdrewN bb _⟩
    · have h1 := M.normF_form h0 hq
      rw [decide_eq_false hq] at Q
      rw [pinF_norm (by rw [h1]; omega), h1]
      generalize M.bs (M.nrm n.data.toList) = R at *
      clear h0 hm hq hL h1
      go_enter Tryz.func136, Tryz.ntmps136
      go_wp2_with fail
      refine (F _).mono ?_
      rintro r u1 ⟨rfl, b1⟩
      have p0 := cell_keep b1 d0
      go_wp2_with fail
      refine wp_region_line (Bel u1) [(0, true), (1, true), (2, true), (3, true), (5, true), (6, true), (7, true), (8, true), (4, false), (9, true)] (by kernel_rfl) (by kernel_rfl) (fun _ _ d _ _ h => by cases d <;> exact h) (Bel.drew u1) ?_
      have hst := Bel.drew u1
      have inst : Nonempty (Of (Bel u1)) := ⟨⟨_, hst⟩⟩
      have q0 := bel_cell p0
      iterate 8 (refine line_read rfl (by kernel_rfl) (fun K hK => ?_); go_big_quiet_op; refine hK _ ?_; clear hK K)
      refine line_alone rfl (by kernel_rfl) (fun K hK => ?_)
      refine call_wp (args := #[.string n]) rfl (by kernel_rfl) (by kernel_rfl) (N _) (fun wn hbn => ?_)
      have hst2 := hst.on hbn
      refine hK _ _ hst2 ?_
      clear hK K hst hbn
      have hst := hst2
      clear hst2
      simp only [Act.put, List.setIfInBounds_toArray, List.set_cons_zero, List.set_cons_succ]
      iterate 1 (refine line_read rfl (by kernel_rfl) (fun K hK => ?_); go_big_quiet_op; refine hK _ ?_; clear hK K)
      refine line_nil ?_
      have bb := btr b1 hst.out
      have y1 := cell_keep bb d1
      have y2 := cell_keep bb d2
      have y3 := cell_keep bb d3
      have y4 := cell_keep bb d4
      clear hst inst q0 p0 b1 F N d0 d1 d2 d3 d4
      go_wp2_with fail
      go_ret
      exact ⟨rfl, bb⟩
  · have h1 := M.normF_no h0
    rw [pinF_norm (by rw [h1]; exact h0), h1]
    clear h1
    generalize M.nameF n.data.toList = c at *
    go_enter Tryz.func136, Tryz.ntmps136
    go_wp2_with fail
    refine (F _).mono ?_
    rintro r u1 ⟨rfl, b1⟩
    go_wp2_with fail
    go_ret
    exact ⟨rfl, b1⟩
end Go.Proofs.YtlodhleihnlchaaGreatDoor
namespace Go.Proofs.YtlodhleihnlchaaGreatDoor
open Go.RowKit
set_option maxRecDepth 100000
set_option linter.unusedVariables false

def FaultRel (w : World) (ps : List PinD) (t : Int) (k : Nat) (wr : World) : Prop := pinsG (prevN ps k) (ps.drop k) = t ∧ Below w.heap.size w wr
theorem pinsG_bad {ps : List PinD} {k : Nat} {t : Int} (hk : k < ps.length) (h : pinsG (prevN ps k) (ps.drop k) = t) (h0 : (ps[k]?.getD pin0).f ≠ 0) : t = (ps[k]?.getD pin0).f := by
  rw [← h, pinsG_step hk, if_neg h0]
theorem pinsG_form {ps : List PinD} {k : Nat} {t : Int} (hk : k < ps.length) (h : pinsG (prevN ps k) (ps.drop k) = t) (h0 : (ps[k]?.getD pin0).f = 0) (h1 : okN (prevN ps k) (ps[k]?.getD pin0).nm = false) : t = 1 := by
  rw [← h, pinsG_step hk, if_pos h0, h1]
  rfl
theorem pinsG_next {ps : List PinD} {k : Nat} {t : Int} (hk : k < ps.length) (h : pinsG (prevN ps k) (ps.drop k) = t) (h0 : (ps[k]?.getD pin0).f = 0) (h1 : okN (prevN ps k) (ps[k]?.getD pin0).nm = true) : pinsG (prevN ps (k + 1)) (ps.drop (k + 1)) = t := by
  rw [← h, pinsG_step hk, if_pos h0, h1, if_pos rfl]

theorem implPinsFault_any (a : Option Addr) (len cap B : Nat) (ps : List PinD) (w : World) (hR : PRow w B a len cap ps) (hB : B ≤ w.heap.size) :
    Calls Tryz.prog 131 #[.slice a len cap] w fun e w' => e = .returned (.int .i64 (pinsF ps)) ∧ Below w.heap.size w w' := by
  have hf := hR.fits
  have hm := hR.most
  unfold maxLen at hm
  have hL := Lib.hid hR.length
  by_cases h4 : 4 < len
  · have e : pinsF ps = 2 := by unfold pinsF; rw [hL.out, if_pos h4]
    rw [e]
    have h4' : (4 : Int) < len := by omega
    go_enter Tryz.func131, Tryz.ntmps131
    go_wp2_with fail
    go_ret
    exact ⟨rfl, Below.refl _ _⟩
  have e : pinsF ps = pinsG none ps := by unfold pinsF; rw [hL.out, if_neg h4]
  rw [e]
  have T0 : FaultRel w ps (pinsG none ps) 0 w := ⟨rfl, Below.refl _ _⟩
  have h4' : ¬ (4 : Int) < len := by omega
  generalize pinsG none ps = t at *
  clear e
  go_enter Tryz.func131, Tryz.ntmps131
  go_wp2_with fail
  go_loopw [11] (fun i wr => ∃ k : Nat, k ≤ len ∧ i = .int .i64 k ∧ FaultRel w ps t k wr) (fun i _ => len - (intOf i).toNat)
  case atStart => exact ⟨0, Nat.zero_le _, rfl, T0⟩
  case round =>
    obtain ⟨k, hk, rfl, ht, hb⟩ := hrel
    clear T0
    by_cases hlt : k < len
    · rcases Nat.eq_zero_or_pos k with hk0 | hk0
      · have hkz : ¬ (0 : Int) < k := by omega
        have hkn : ¬ 0 < k := by omega
        have hkd : decide (0 < k) = false := decide_eq_false hkn
        obtain ⟨b, off, ha, hbB, c0, c1, c2, c3, c4⟩ := (hR.below (hb.mono hB)).at' hlt
        subst ha
        have hkp : k < ps.length := by rw [hL.out]; exact hlt
        have F := fun w => implPinFault_any (ps[k]?.getD pin0) w (hR.name hlt)
        have A0 : At wr.heap.size (ps[k]?.getD pin0).vals (wr.alloc (.cells #[.string (ps[k]?.getD pin0).n, .int .i64 (ps[k]?.getD pin0).a, .int .i64 (ps[k]?.getD pin0).b, .int .i64 (ps[k]?.getD pin0).e, .int .i64 (ps[k]?.getD pin0).u] 59)) := At.new wr (ps[k]?.getD pin0).vals 59
        have b0 := bal hb (.cells #[.string (ps[k]?.getD pin0).n, .int .i64 (ps[k]?.getD pin0).a, .int .i64 (ps[k]?.getD pin0).b, .int .i64 (ps[k]?.getD pin0).e, .int .i64 (ps[k]?.getD pin0).u] 59)
        by_cases h0 : (ps[k]?.getD pin0).f = 0
        · rw [h0] at F
          have hn := pinsG_next hkp ht h0 (by rw [hk0]; rfl)
          have HN := Lib.hid hn
          have HK := Lib.hid hk0
          clear hn ht h0 hk0
          generalize ps[k]?.getD pin0 = p at *
          go_wp2_with fail
          generalize wr.alloc (.cells #[.string p.n, .int .i64 p.a, .int .i64 p.b, .int .i64 p.e, .int .i64 p.u] 59) = W0 at *
          refine (F _).mono ?_
          rintro r u1 ⟨rfl, b1⟩
          have x0 := (A0.on b1).cell 0 _ rfl
          have B1 := btr b0 b1
          clear b1 A0 b0 F c0 c1 c2 c3 c4
          go_wp2_with fail
          refine wp_region_line (Bel u1) [(0, true), (1, true), (2, true), (3, true), (4, true), (5, true), (6, true), (7, true), (8, true), (9, true), (10, true), (11, true), (12, true)] (by kernel_rfl) (by kernel_rfl) (fun _ _ d _ _ h => by cases d <;> exact h) (Bel.drew u1) ?_
          have hst := Bel.drew u1
          have inst : Nonempty (Of (Bel u1)) := ⟨⟨_, hst⟩⟩
          iterate 3 (refine line_read rfl (by kernel_rfl) (fun K hK => ?_); go_big_quiet_op; refine hK _ ?_; clear hK K)
          iterate 9 (refine line_skip rfl (by kernel_rfl) ?_; simp only [Act.put, List.setIfInBounds_toArray, List.set_cons_zero, List.set_cons_succ])
          iterate 1 (refine line_read rfl (by kernel_rfl) (fun K hK => ?_); go_big_quiet_op; refine hK _ ?_; clear hK K)
          refine line_nil ?_
          have B2 := btr B1 hst.out
          go_wp2_with fail
          go_roundw
          case rel => exact ⟨k + 1, by omega, by go_num, HN.out, B2⟩
          case measure => simp [intOf]; omega
        · have ht' := pinsG_bad hkp ht h0
          have HK := Lib.hid hk0
          clear ht hk0
          generalize ps[k]?.getD pin0 = p at *
          subst ht'
          go_wp2_with fail
          generalize wr.alloc (.cells #[.string p.n, .int .i64 p.a, .int .i64 p.b, .int .i64 p.e, .int .i64 p.u] 59) = W0 at *
          refine (F _).mono ?_
          rintro r u1 ⟨rfl, b1⟩
          have x0 := (A0.on b1).cell 0 _ rfl
          have B1 := btr b0 b1
          clear b1 A0 b0 F c0 c1 c2 c3 c4
          go_wp2_with fail
          go_ret
          exact ⟨rfl, B1⟩
      · obtain ⟨j, rfl⟩ : ∃ j, k = j + 1 := ⟨k - 1, by omega⟩
        obtain ⟨b, off, ha, hbB, c0, c1, c2, c3, c4⟩ := (hR.below (hb.mono hB)).at' hlt
        subst ha
        have hkp : j + 1 < ps.length := by rw [hL.out]; exact hlt
        have F := fun w => implPinFault_any (ps[j + 1]?.getD pin0) w (hR.name hlt)
        have A0 : At wr.heap.size (ps[j + 1]?.getD pin0).vals (wr.alloc (.cells #[.string (ps[j + 1]?.getD pin0).n, .int .i64 (ps[j + 1]?.getD pin0).a, .int .i64 (ps[j + 1]?.getD pin0).b, .int .i64 (ps[j + 1]?.getD pin0).e, .int .i64 (ps[j + 1]?.getD pin0).u] 59)) := At.new wr (ps[j + 1]?.getD pin0).vals 59
        have b0 := bal hb (.cells #[.string (ps[j + 1]?.getD pin0).n, .int .i64 (ps[j + 1]?.getD pin0).a, .int .i64 (ps[j + 1]?.getD pin0).b, .int .i64 (ps[j + 1]?.getD pin0).e, .int .i64 (ps[j + 1]?.getD pin0).u] 59)
        by_cases h0 : (ps[j + 1]?.getD pin0).f = 0
        · rw [h0] at F
          have hjl : j < len := by omega
          have QR := Lib.hid (fun u1 (B1 : Below w.heap.size w u1) => (hR.below (B1.mono hB)).at' hjl)
          cases h1 : nlt (ps[j]?.getD pin0).nm (ps[j + 1]?.getD pin0).nm
          · have hn := pinsG_form hkp ht h0 h1
            have Q : Op.bytesLess (ps[j]?.getD pin0).n.toList (ps[j + 1]?.getD pin0).n.toList = false := by rw [ByteArray.toList_eq, ByteArray.toList_eq]; exact h1
            subst hn
            clear ht h0 h1
            generalize ps[j + 1]?.getD pin0 = p at *
            go_wp2_with fail
            generalize wr.alloc (.cells #[.string p.n, .int .i64 p.a, .int .i64 p.b, .int .i64 p.e, .int .i64 p.u] 59) = W0 at *
            refine (F _).mono ?_
            rintro r u1 ⟨rfl, b1⟩
            have x0 := (A0.on b1).cell 0 _ rfl
            have B1 := btr b0 b1
            clear b1 A0 b0 F c0 c1 c2 c3 c4
            obtain ⟨b', off', ha', hbB', z0, -⟩ := QR.out u1 B1
            injection ha' with ha'
            injection ha' with e1 e2
            subst e1
            subst e2
            generalize ps[j]?.getD pin0 = q at *
            go_wp2_with fail
            refine wp_region_line (Bel u1) [(0, true), (1, true), (2, true), (3, true), (4, true), (5, true), (6, true), (7, true), (8, true), (9, true), (10, true), (11, true), (12, true)] (by kernel_rfl) (by kernel_rfl) (fun _ _ d _ _ h => by cases d <;> exact h) (Bel.drew u1) ?_
            have hst := Bel.drew u1
            have inst : Nonempty (Of (Bel u1)) := ⟨⟨_, hst⟩⟩
            have q0 := bel_cell z0
            have q1 := bel_cell x0
            iterate 13 (refine line_read rfl (by kernel_rfl) (fun K hK => ?_); go_big_quiet_op; refine hK _ ?_; clear hK K)
            refine line_nil ?_
            have B2 := btr B1 hst.out
            go_wp2_with fail
            go_ret
            exact ⟨rfl, B2⟩
          · have hn := pinsG_next hkp ht h0 h1
            have Q : Op.bytesLess (ps[j]?.getD pin0).n.toList (ps[j + 1]?.getD pin0).n.toList = true := by rw [ByteArray.toList_eq, ByteArray.toList_eq]; exact h1
            have HN := Lib.hid hn
            clear ht h0 h1 hn
            generalize ps[j + 1]?.getD pin0 = p at *
            go_wp2_with fail
            generalize wr.alloc (.cells #[.string p.n, .int .i64 p.a, .int .i64 p.b, .int .i64 p.e, .int .i64 p.u] 59) = W0 at *
            refine (F _).mono ?_
            rintro r u1 ⟨rfl, b1⟩
            have x0 := (A0.on b1).cell 0 _ rfl
            have B1 := btr b0 b1
            clear b1 A0 b0 F c0 c1 c2 c3 c4
            obtain ⟨b', off', ha', hbB', z0, -⟩ := QR.out u1 B1
            injection ha' with ha'
            injection ha' with e1 e2
            subst e1
            subst e2
            generalize ps[j]?.getD pin0 = q at *
            go_wp2_with fail
            refine wp_region_line (Bel u1) [(0, true), (1, true), (2, true), (3, true), (4, true), (5, true), (6, true), (7, true), (8, true), (9, true), (10, true), (11, true), (12, true)] (by kernel_rfl) (by kernel_rfl) (fun _ _ d _ _ h => by cases d <;> exact h) (Bel.drew u1) ?_
            have hst := Bel.drew u1
            have inst : Nonempty (Of (Bel u1)) := ⟨⟨_, hst⟩⟩
            have q0 := bel_cell z0
            have q1 := bel_cell x0
            iterate 13 (refine line_read rfl (by kernel_rfl) (fun K hK => ?_); go_big_quiet_op; refine hK _ ?_; clear hK K)
            refine line_nil ?_
            have B2 := btr B1 hst.out
            go_wp2_with fail
            go_roundw
            case rel => exact ⟨j + 1 + 1, by omega, by go_num, HN.out, B2⟩
            case measure => simp [intOf]; omega
        · have ht' := pinsG_bad hkp ht h0
          clear ht
          generalize ps[j + 1]?.getD pin0 = p at *
          subst ht'
          go_wp2_with fail
          generalize wr.alloc (.cells #[.string p.n, .int .i64 p.a, .int .i64 p.b, .int .i64 p.e, .int .i64 p.u] 59) = W0 at *
          refine (F _).mono ?_
          rintro r u1 ⟨rfl, b1⟩
          have x0 := (A0.on b1).cell 0 _ rfl
          have B1 := btr b0 b1
          clear b1 A0 b0 F c0 c1 c2 c3 c4
          go_wp2_with fail
          go_ret
          exact ⟨rfl, B1⟩
    · obtain rfl : k = len := by omega
      have e : ps.drop k = [] := List.drop_of_length_le (by rw [hL.out]; omega)
      rw [e] at ht
      have ht' : t = 0 := by rw [← ht]; cases prevN ps k <;> rfl
      subst ht'
      go_wp2_with fail
      go_ret
      exact ⟨rfl, hb⟩
theorem l7Pins_any (a : Option Addr) (len cap B : Nat) (ps : List PinD) (w : World) (hR : PRow w B a len cap ps) (hB : B ≤ w.heap.size) :
    Calls Tryz.prog 220 #[.slice a len cap] w fun e w' => e = .returned (.int .i64 (pinsF ps)) ∧ Below w.heap.size w w' := by
  have hf := hR.fits
  have hm := hR.most
  unfold maxLen at hm
  have hL := Lib.hid hR.length
  by_cases h4 : 4 < len
  · have e : pinsF ps = 2 := by unfold pinsF; rw [hL.out, if_pos h4]
    rw [e]
    have h4' : (4 : Int) < len := by omega
    go_enter Tryz.func220, Tryz.ntmps220
    go_wp2_with fail
    go_ret
    exact ⟨rfl, Below.refl _ _⟩
  have e : pinsF ps = pinsG none ps := by unfold pinsF; rw [hL.out, if_neg h4]
  rw [e]
  have T0 : FaultRel w ps (pinsG none ps) 0 w := ⟨rfl, Below.refl _ _⟩
  have h4' : ¬ (4 : Int) < len := by omega
  generalize pinsG none ps = t at *
  clear e
  go_enter Tryz.func220, Tryz.ntmps220
  go_wp2_with fail
  go_loopw [3] (fun i wr => ∃ k : Nat, k ≤ len ∧ i = .int .i64 k ∧ FaultRel w ps t k wr) (fun i _ => len - (intOf i).toNat)
  case atStart => exact ⟨0, Nat.zero_le _, rfl, T0⟩
  case round =>
    obtain ⟨k, hk, rfl, ht, hb⟩ := hrel
    clear T0
    by_cases hlt : k < len
    · rcases Nat.eq_zero_or_pos k with hk0 | hk0
      · have hkz : ¬ (0 : Int) < k := by omega
        have hkn : ¬ 0 < k := by omega
        have hkd : decide (0 < k) = false := decide_eq_false hkn
        obtain ⟨b, off, ha, hbB, c0, c1, c2, c3, c4⟩ := (hR.below (hb.mono hB)).at' hlt
        subst ha
        have hkp : k < ps.length := by rw [hL.out]; exact hlt
        have F := l7Fault_at b (off + (k) * 5) (ps[k]?.getD pin0) wr (hR.name hlt) c0 c1 c2 c3 c4
        by_cases h0 : (ps[k]?.getD pin0).f = 0
        · rw [h0] at F
          have hn := pinsG_next hkp ht h0 (by rw [hk0]; rfl)
          have HN := Lib.hid hn
          have HK := Lib.hid hk0
          clear hn ht h0 hk0
          generalize ps[k]?.getD pin0 = p at *
          go_wp2_with fail
          refine F.mono ?_
          rintro r u1 ⟨rfl, b1⟩
          have B1 := btr hb b1
          have x0 := cell_keep b1 c0
          clear b1 F c0 c1 c2 c3 c4
          go_wp2_with fail
          refine wp_region_line (Bel u1) [(0, true), (1, true), (2, true), (3, true), (4, true), (5, true), (6, true), (7, true), (8, true), (9, true), (10, true), (11, true), (12, true), (13, true), (14, true), (15, true)] (by kernel_rfl) (by kernel_rfl) (fun _ _ d _ _ h => by cases d <;> exact h) (Bel.drew u1) ?_
          have hst := Bel.drew u1
          have inst : Nonempty (Of (Bel u1)) := ⟨⟨_, hst⟩⟩
          iterate 3 (refine line_read rfl (by kernel_rfl) (fun K hK => ?_); go_big_quiet_op; refine hK _ ?_; clear hK K)
          iterate 12 (refine line_skip rfl (by kernel_rfl) ?_; simp only [Act.put, List.setIfInBounds_toArray, List.set_cons_zero, List.set_cons_succ])
          iterate 1 (refine line_read rfl (by kernel_rfl) (fun K hK => ?_); go_big_quiet_op; refine hK _ ?_; clear hK K)
          refine line_nil ?_
          have B2 := btr B1 hst.out
          go_wp2_with fail
          go_roundw
          case rel => exact ⟨k + 1, by omega, by go_num, HN.out, B2⟩
          case measure => simp [intOf]; omega
        · have ht' := pinsG_bad hkp ht h0
          have HK := Lib.hid hk0
          clear ht hk0
          generalize ps[k]?.getD pin0 = p at *
          subst ht'
          go_wp2_with fail
          refine F.mono ?_
          rintro r u1 ⟨rfl, b1⟩
          have B1 := btr hb b1
          have x0 := cell_keep b1 c0
          clear b1 F c0 c1 c2 c3 c4
          go_wp2_with fail
          go_ret
          exact ⟨rfl, B1⟩
      · obtain ⟨j, rfl⟩ : ∃ j, k = j + 1 := ⟨k - 1, by omega⟩
        obtain ⟨b, off, ha, hbB, c0, c1, c2, c3, c4⟩ := (hR.below (hb.mono hB)).at' hlt
        subst ha
        have hkp : j + 1 < ps.length := by rw [hL.out]; exact hlt
        have F := l7Fault_at b (off + (j + 1) * 5) (ps[j + 1]?.getD pin0) wr (hR.name hlt) c0 c1 c2 c3 c4
        by_cases h0 : (ps[j + 1]?.getD pin0).f = 0
        · rw [h0] at F
          have hjl : j < len := by omega
          have QR := Lib.hid (fun u1 (B1 : Below w.heap.size w u1) => (hR.below (B1.mono hB)).at' hjl)
          have hQ := nle_eq (ps[j + 1]?.getD pin0).n.toList (ps[j]?.getD pin0).n.toList
          rw [show nlt (ps[j]?.getD pin0).n.toList (ps[j + 1]?.getD pin0).n.toList = nlt (ps[j]?.getD pin0).nm (ps[j + 1]?.getD pin0).nm by rw [ByteArray.toList_eq, ByteArray.toList_eq]; rfl] at hQ
          cases h1 : nlt (ps[j]?.getD pin0).nm (ps[j + 1]?.getD pin0).nm
          · have hn := pinsG_form hkp ht h0 h1
            rw [h1] at hQ
            subst hn
            clear ht h0 h1
            generalize ps[j + 1]?.getD pin0 = p at *
            go_wp2_with fail
            refine F.mono ?_
            rintro r u1 ⟨rfl, b1⟩
            have B1 := btr hb b1
            have x0 := cell_keep b1 c0
            clear b1 F c0 c1 c2 c3 c4
            obtain ⟨b', off', ha', hbB', z0, -⟩ := QR.out u1 B1
            injection ha' with ha'
            injection ha' with e1 e2
            subst e1
            subst e2
            generalize ps[j]?.getD pin0 = q at *
            go_wp2_with fail
            refine wp_region_line (Bel u1) [(0, true), (1, true), (2, true), (3, true), (4, true), (5, true), (6, true), (7, true), (8, true), (9, true), (10, true), (11, true), (12, true), (13, true), (14, true), (15, true)] (by kernel_rfl) (by kernel_rfl) (fun _ _ d _ _ h => by cases d <;> exact h) (Bel.drew u1) ?_
            have hst := Bel.drew u1
            have inst : Nonempty (Of (Bel u1)) := ⟨⟨_, hst⟩⟩
            have q0 := bel_cell z0
            have q1 := bel_cell x0
            iterate 16 (refine line_read rfl (by kernel_rfl) (fun K hK => ?_); go_big_quiet_op; refine hK _ ?_; clear hK K)
            refine line_nil ?_
            have B2 := btr B1 hst.out
            go_wp2_with fail
            go_ret
            exact ⟨rfl, B2⟩
          · have hn := pinsG_next hkp ht h0 h1
            rw [h1] at hQ
            have HN := Lib.hid hn
            clear ht h0 h1 hn
            generalize ps[j + 1]?.getD pin0 = p at *
            go_wp2_with fail
            refine F.mono ?_
            rintro r u1 ⟨rfl, b1⟩
            have B1 := btr hb b1
            have x0 := cell_keep b1 c0
            clear b1 F c0 c1 c2 c3 c4
            obtain ⟨b', off', ha', hbB', z0, -⟩ := QR.out u1 B1
            injection ha' with ha'
            injection ha' with e1 e2
            subst e1
            subst e2
            generalize ps[j]?.getD pin0 = q at *
            go_wp2_with fail
            refine wp_region_line (Bel u1) [(0, true), (1, true), (2, true), (3, true), (4, true), (5, true), (6, true), (7, true), (8, true), (9, true), (10, true), (11, true), (12, true), (13, true), (14, true), (15, true)] (by kernel_rfl) (by kernel_rfl) (fun _ _ d _ _ h => by cases d <;> exact h) (Bel.drew u1) ?_
            have hst := Bel.drew u1
            have inst : Nonempty (Of (Bel u1)) := ⟨⟨_, hst⟩⟩
            have q0 := bel_cell z0
            have q1 := bel_cell x0
            iterate 16 (refine line_read rfl (by kernel_rfl) (fun K hK => ?_); go_big_quiet_op; refine hK _ ?_; clear hK K)
            refine line_nil ?_
            have B2 := btr B1 hst.out
            go_wp2_with fail
            go_roundw
            case rel => exact ⟨j + 1 + 1, by omega, by go_num, HN.out, B2⟩
            case measure => simp [intOf]; omega
        · have ht' := pinsG_bad hkp ht h0
          clear ht
          generalize ps[j + 1]?.getD pin0 = p at *
          subst ht'
          go_wp2_with fail
          refine F.mono ?_
          rintro r u1 ⟨rfl, b1⟩
          have B1 := btr hb b1
          have x0 := cell_keep b1 c0
          clear b1 F c0 c1 c2 c3 c4
          go_wp2_with fail
          go_ret
          exact ⟨rfl, B1⟩
    · obtain rfl : k = len := by omega
      have e : ps.drop k = [] := List.drop_of_length_le (by rw [hL.out]; omega)
      rw [e] at ht
      have ht' : t = 0 := by rw [← ht]; cases prevN ps k <;> rfl
      subst ht'
      go_wp2_with fail
      go_ret
      exact ⟨rfl, hb⟩
end Go.Proofs.YtlodhleihnlchaaGreatDoor
namespace Go.Proofs.YtlodhleihnlchaaGreatDoor
open Go.RowKit Go.Maps Go.WideShapes
open Go.ChangeMaps (putKey delKey notKey)
set_option maxRecDepth 100000
set_option linter.unusedVariables false

def pinR (v : Value) : Option (DataW PinD × List MemPlace) :=
  match v with
  | .agg cs => match cs.toList with
    | [.string n, .int .i64 a, .int .i64 b, .int .i64 e, .int .i64 u] => some (.held ⟨n, a, b, e, u⟩, [])
    | _ => none
  | _ => none
theorem pinR_mk (p : PinD) : pinR (P5 p) = some (.held p, []) := rfl
theorem pinR_inv {v : Value} {y : DataW PinD × List MemPlace} (h : pinR v = some y) : ∃ p, v = P5 p ∧ y = (.held p, []) := by
  unfold pinR at h
  split at h
  · rename_i cs
    split at h
    · rename_i n a b e u hcs
      injection h with h
      refine ⟨⟨n, a, b, e, u⟩, ?_, h.symm⟩
      have : cs = #[.string n, .int .i64 a, .int .i64 b, .int .i64 e, .int .i64 u] := by
        rw [← Array.toList_inj, hcs]
      rw [this]
    · cases h
  · cases h
def ent (p : PinD) : Lit × DataW PinD := (.string p.nm, .held p)
theorem same_str (x y : List UInt8) : (Lit.string x).sameKey (.string y) = decide (x = y) := by
  show (x == y) = decide (x = y)
  by_cases e : x = y <;> simp [e]
abbrev Apart (ps : List PinD) : Prop := ps.Pairwise fun p q => p.nm ≠ q.nm
theorem Rise.apart {ps : List PinD} (h : Rise ps) : Apart ps := h.imp fun h => nlt_ne h
theorem apart_inj : ∀ {ps : List PinD}, Apart ps → ∀ {p q : PinD}, p ∈ ps → q ∈ ps → p.nm = q.nm → p = q
  | [], _, _, _, h, _, _ => by cases h
  | x :: r, hr, p, q, hp, hq, e => by
    obtain ⟨h1, h2⟩ := List.pairwise_cons.1 hr
    rcases List.mem_cons.1 hp with rfl | hp'
    · rcases List.mem_cons.1 hq with rfl | hq'
      · rfl
      · exact absurd e (h1 q hq')
    · rcases List.mem_cons.1 hq with rfl | hq'
      · exact absurd e.symm (h1 p hp')
      · exact apart_inj h2 hp' hq' e
def MapIs (D : DataW PinD) (ps : List PinD) : Prop := ∃ es, D = .map es ∧ es.Perm (ps.map ent)
theorem MapIs.nil : MapIs (.map []) [] := ⟨[], rfl, .refl _⟩
theorem MapIs.has {D : DataW PinD} {ps : List PinD} (h : MapIs D ps) (l : List UInt8) : Maps.has D (.string l) = (findP ps l).isSome := by
  obtain ⟨es, rfl, hp⟩ := h
  rw [Maps.has_eq, Bool.eq_iff_iff, List.any_eq_true]
  unfold findP
  rw [List.find?_isSome]
  constructor
  · rintro ⟨x, hx, hs⟩
    obtain ⟨p, hpm, rfl⟩ := List.mem_map.1 (hp.mem_iff.1 hx)
    exact ⟨p, hpm, by simpa [ent, same_str] using hs⟩
  · rintro ⟨p, hpm, hs⟩
    exact ⟨ent p, hp.mem_iff.2 (List.mem_map.2 ⟨p, hpm, rfl⟩), by simpa [ent, same_str] using hs⟩
theorem MapIs.at' {D : DataW PinD} {ps : List PinD} (h : MapIs D ps) (ha : Apart ps) (l : List UInt8) : D.atKey (.string l) (.held pin0) = .held ((findP ps l).getD pin0) := by
  obtain ⟨es, rfl, hp⟩ := h
  unfold DataW.atKey
  cases hf : es.find? (fun p => p.1.sameKey (.string l)) with
  | none =>
    have : findP ps l = none := by
      unfold findP
      rw [List.find?_eq_none]
      intro p hpm
      have := List.find?_eq_none.1 hf (ent p) (hp.mem_iff.2 (List.mem_map.2 ⟨p, hpm, rfl⟩))
      simpa [ent, same_str] using this
    simp only [hf]
    rw [this]
    rfl
  | some x =>
    have hx := List.mem_of_find?_eq_some hf
    have hs := List.find?_some hf
    obtain ⟨p, hpm, rfl⟩ := List.mem_map.1 (hp.mem_iff.1 hx)
    have hl : p.nm = l := by simpa [ent, same_str] using hs
    have : findP ps l = some p := by
      cases hq : findP ps l with
      | none => exact absurd hl (findP_none hq p hpm)
      | some q =>
        obtain ⟨q1, q2⟩ := findP_mem hq
        rw [apart_inj ha q1 hpm (q2.trans hl.symm)]
    simp only [hf]
    rw [this]
    rfl
theorem MapIs.put {D : DataW PinD} {ps : List PinD} (h : MapIs D ps) {p : PinD} (hn : ∀ q ∈ ps, q.nm ≠ p.nm) : MapIs (D.put (.string p.nm) (.held p)) (ps ++ [p]) := by
  obtain ⟨es, rfl, hp⟩ := h
  refine ⟨_, DataW.put_eq _ _ _, ?_⟩
  unfold putKey
  have hf : es.filter (notKey (.string p.nm)) = es := by
    refine List.filter_eq_self.2 fun x hx => ?_
    obtain ⟨q, hq, rfl⟩ := List.mem_map.1 (hp.mem_iff.1 hx)
    have := hn q hq
    simp [notKey, ent, same_str, this]
  have e : delKey (.string p.nm) es = es := hf
  refine (insert_perm _ _).trans ?_
  rw [List.map_append]
  have h1 : ((Lit.string p.nm, DataW.held p) :: es.filter (notKey (.string p.nm))).Perm (ent p :: ps.map ent) := by
    rw [hf]
    exact hp.cons _
  exact h1.trans (List.perm_append_singleton _ _).symm
theorem MapIs.del {D : DataW PinD} {ps : List PinD} (h : MapIs D ps) (l : List UInt8) : MapIs (D.del (.string l)) (ps.filter fun q => !decide (q.nm = l)) := by
  obtain ⟨es, rfl, hp⟩ := h
  refine ⟨_, DataW.del_eq _ _, ?_⟩
  have e : ((ps.map ent).filter (notKey (.string l))) = (ps.filter fun q => !decide (q.nm = l)).map ent := by
    rw [List.filter_map]
    congr 1
    refine List.filter_congr fun q _ => ?_
    simp [notKey, ent, same_str]
  rw [← e]
  exact hp.filter _
theorem MapIs.size {D : DataW PinD} {ps : List PinD} (h : MapIs D ps) : Maps.size D = ps.length := by
  obtain ⟨es, rfl, hp⟩ := h
  rw [Maps.size_eq, hp.length_eq, List.length_map]

structure PMap (w : World) (b : Nat) (ps : List PinD) : Prop where
  own : ∃ D, w.ownsMap Tryz.prog 9 pinR b ps.length D ∧ MapIs D ps
  apart : Apart ps
theorem str_law : Keyed Tryz.prog 9 := string_keyed Tryz.underlying9
theorem key_str {s : ByteArray} (h : s.size ≤ maxLen) : keyOf Tryz.prog 9 (.string s) = some (.string s.data.toList) := WideMaps.keyOf_string_mk Tryz.underlying9 h
section
variable {w w' : World} {b : Nat} {ps : List PinD}
theorem map_fit {n : Nat} {D : DataW PinD} (h : w.ownsMap Tryz.prog 9 pinR b n D) (hm : MapIs D ps) : w.ownsMap Tryz.prog 9 pinR b ps.length D := by
  have hz := hm.size
  obtain ⟨es, c, hb, F, hs, rfl⟩ := h
  refine ⟨es, c, hb, F, ?_, rfl⟩
  rw [← hz]
  simp [Maps.size, length_sorted]
theorem PMap.lt (h : PMap w b ps) : b < w.heap.size := by
  obtain ⟨D, ho, _⟩ := h.own
  exact ho.lt
theorem PMap.keep (h : PMap w b ps) (hk : w'.heap[b]? = w.heap[b]?) : PMap w' b ps := by
  obtain ⟨D, ⟨es, c, hb, r⟩, hm⟩ := h.own
  exact ⟨⟨D, ⟨es, c, hk.trans hb, r⟩, hm⟩, h.apart⟩
theorem PMap.on (h : PMap w b ps) (hb : Below w.heap.size w w') : PMap w' b ps := h.keep (hb.block b h.lt)
theorem PMap.alloc (h : PMap w b ps) (o : Obj) : PMap (w.alloc o) b ps := h.on (bal (Below.refl _ _) o)
theorem PMap.new (w : World) : PMap (w.alloc (.map #[] 0)) w.heap.size [] := ⟨⟨_, World.ownsMap_made w _ _ _, MapIs.nil⟩, .nil⟩
theorem PMap.look (h : PMap w b ps) {s : ByteArray} (hs : s.size ≤ maxLen) :
    (Instr.lookup 204 (.map (some b)) (.string s) true).run Tryz.prog w = .ok (.tuple #[P5 ((findP ps s.data.toList).getD pin0), .bool (findP ps s.data.toList).isSome]) w := by
  obtain ⟨D, ho, hm⟩ := h.own
  obtain ⟨v, z, hrun, hv⟩ := ho.look_ok str_law Tryz.underlying204 (z := P5 pin0) (by kernel_rfl) (pinR_mk pin0) (key_str hs)
  rw [hm.at' h.apart] at hv
  obtain ⟨p, rfl, e⟩ := pinR_inv hv
  injection e with e1 e2
  injection e1 with e1
  rw [hm.has] at hrun
  rw [hrun, e1]
theorem PMap.len (h : PMap w b ps) (ty : TypeId) : (Builtin.len_ #[204] ty #[.map (some b)]).run Tryz.prog w = .ok (.int .i64 ps.length) w := by
  obtain ⟨D, ho, hm⟩ := h.own
  rw [ho.len Tryz.underlying204 ty, hm.size]
theorem PMap.drop (h : PMap w b ps) {s : ByteArray} (hs : s.size ≤ maxLen) (ty : TypeId) :
    ∃ w', (Builtin.delete_ #[204, 9] ty #[.map (some b), .string s]).run Tryz.prog w = .ok (.tuple #[]) w' ∧ PMap w' b (ps.filter fun q => !decide (q.nm = s.data.toList)) ∧ w.mapTurned w' b := by
  obtain ⟨D, ho, hm⟩ := h.own
  obtain ⟨w', hrun, h1, h2⟩ := ho.drop str_law Tryz.underlying204 (key_str hs) ty
  exact ⟨w', hrun, ⟨⟨_, map_fit h1 (hm.del _), hm.del _⟩, h.apart.filter _⟩, h2⟩
theorem PMap.store (h : PMap w b ps) {p : PinD} (hl : ps.length ≤ 1000) (hs : p.n.size ≤ maxLen) (hn : ∀ q ∈ ps, q.nm ≠ p.nm) :
    ∃ w', (Instr.mapUpdate 204 (.map (some b)) (.string p.n) (P5 p)).run Tryz.prog w = .ok () w' ∧ PMap w' b (ps ++ [p]) ∧ w.mapTurned w' b := by
  obtain ⟨D, ho, hm⟩ := h.own
  obtain ⟨w', hrun, h1, h2⟩ := ho.store str_law Tryz.underlying204 (by simp only [maxLen]; omega) (key_str hs) (pinR_mk p)
  refine ⟨w', hrun, ⟨⟨_, map_fit h1 (hm.put hn), hm.put hn⟩, ?_⟩, h2⟩
  exact List.pairwise_append.2 ⟨h.apart, by simp, fun q hq r hr => by simp at hr; subst hr; exact hn q hq⟩
theorem turned_below {W : World} (h : w.mapTurned w' b) (hb : Below W.heap.size W w) (hB : W.heap.size ≤ b) : Below W.heap.size W w' := hb.grown h.grown hb.size (fun k e => by injection e with e; subst e; exact hB)
end
end Go.Proofs.YtlodhleihnlchaaGreatDoor
namespace Go.Proofs.YtlodhleihnlchaaGreatDoor
open Go.RowKit
set_option maxRecDepth 100000
set_option linter.unusedVariables false

structure ByName (w : World) (ps : List PinD) (k : Nat) (wr : World) : Prop where
  map : PMap wr w.heap.size (ps.take k)
  bel : Below w.heap.size w wr
theorem take_apart {ps : List PinD} (h : Apart ps) {k : Nat} (hk : k < ps.length) : ∀ q ∈ ps.take k, q.nm ≠ (ps[k]?.getD pin0).nm := by
  intro q hq
  have e : ps = ps.take k ++ (ps[k]?.getD pin0) :: ps.drop (k + 1) := by
    rw [List.getElem?_eq_getElem hk, Option.getD_some, ← List.drop_eq_getElem_cons hk, List.take_append_drop]
  rw [e] at h
  exact (List.pairwise_append.1 h).2.2 q hq _ (by simp)
theorem take_snoc {ps : List PinD} {k : Nat} (hk : k < ps.length) : ps.take k ++ [ps[k]?.getD pin0] = ps.take (k + 1) := by
  rw [List.take_succ_eq_append_getElem hk, List.getElem?_eq_getElem hk]
  rfl
theorem run_makeMap_hint (n : Int) (w : World) : (Instr.makeMap 204 (some (.int .i64 n))).run Tryz.prog w = .ok (.map (some w.heap.size)) (w.alloc (.map #[] 0)) := by
  simp [Instr.makeMap, run_underlying Tryz.underlying204, asInt, asIntOf]
theorem pinsByName_any (a : Option Addr) (len cap B : Nat) (ps : List PinD) (w : World) (hR : PRow w B a len cap ps) (hB : B ≤ w.heap.size) (hl : len ≤ 4) (ha : Apart ps) :
    Calls Tryz.prog 133 #[.slice a len cap] w fun e w' => e = .returned (.map (some w.heap.size)) ∧ PMap w' w.heap.size ps ∧ Below w.heap.size w w' := by
  have hmm := fun w => run_makeMap_hint len w
  have hL := Lib.hid hR.length
  have T0 : ByName w ps 0 (w.alloc (.map #[] 0)) := ⟨PMap.new w, bal (Below.refl _ _) _⟩
  go_enter Tryz.func133, Tryz.ntmps133
  go_wp2_with fail
  generalize w.alloc (.map #[] 0) = w1 at *
  go_loopw [11] (fun i wr => ∃ k : Nat, k ≤ len ∧ i = .int .i64 k ∧ ByName w ps k wr) (fun i _ => len - (intOf i).toNat)
  case atStart => exact ⟨0, Nat.zero_le _, rfl, T0⟩
  case round =>
    obtain ⟨k, hk, rfl, hT⟩ := hrel
    clear T0
    by_cases hlt : k < len
    · obtain ⟨b, off, hab, hbB, c0, c1, c2, c3, c4⟩ := (hR.below (hT.bel.mono hB)).at' hlt
      subst hab
      have hkp : k < ps.length := by rw [hL.out]; exact hlt
      obtain ⟨w2, hrun, M2, hturn⟩ := (hT.map.alloc (.cells #[.string (ps[k]?.getD pin0).n, .int .i64 (ps[k]?.getD pin0).a, .int .i64 (ps[k]?.getD pin0).b, .int .i64 (ps[k]?.getD pin0).e, .int .i64 (ps[k]?.getD pin0).u] 59)).store (p := ps[k]?.getD pin0) (by simp; omega) (hR.name hlt) (take_apart ha hkp)
      have b2 := turned_below hturn (bal hT.bel _) (Nat.le_refl _)
      rw [take_snoc hkp] at M2
      have T2 := Lib.hid (ByName.mk M2 b2)
      clear M2 b2 hturn hT hmm
      generalize ps[k]?.getD pin0 = p at *
      go_wp2_with fail
      go_roundw
      case rel => exact ⟨k + 1, by omega, by go_num, T2.out⟩
      case measure => simp [intOf]; omega
    · obtain rfl : k = len := by omega
      have e : ps.take k = ps := List.take_of_length_le (by rw [hL.out]; omega)
      have HM := Lib.hid (e ▸ hT.map)
      have HB := Lib.hid hT.bel
      clear hT hmm
      go_wp2_with fail
      go_ret
      exact ⟨rfl, HM.out, HB.out⟩

def fndC : Option PinD → Int
  | some _ => 0
  | none => 4
theorem findC_ok {ps : List PinD} {l : List UInt8} (h0 : pinsF ps = 0) (h1 : M.nameF l = 0) : findC ps l = fndC (findP ps (M.nrm l)) := by
  unfold findC
  rw [if_neg (fun h => h h0), if_neg (fun h => h h1)]
  cases findP ps (M.nrm l) <;> rfl
theorem nrm_size {s : ByteArray} (h : s.size ≤ 20) : (M.bs (M.nrm s.data.toList)).size ≤ maxLen := by
  have hL : s.data.toList.length = s.size := by simp
  have hb := M.bare_length s.data.toList
  rw [M.bs_size, M.nrm, Lib.toLowerA, List.length_map]
  simp only [maxLen]
  omega
abbrev RP6 (c : Int) (p : PinD) : Value := .agg #[.int .i64 c, .string p.n, .int .i64 p.a, .int .i64 p.b, .int .i64 p.e, .int .i64 p.u]
theorem implFindPin_any (a : Option Addr) (len cap B : Nat) (ps : List PinD) (s : ByteArray) (w : World) (hR : PRow w B a len cap ps) (hB : B ≤ w.heap.size) (hs : s.size ≤ maxLen) :
    Calls Tryz.prog 39 #[.slice a len cap, .string s] w fun e w' => e = .returned (RP6 (findC ps s.data.toList) (findR ps s.data.toList)) ∧ Below w.heap.size w w' := by
  have hL := Lib.hid hR.length
  have b0 := bal (Below.refl _ w) (.cells #[.int .i64 0, .string { data := #[] }, .int .i64 0, .int .i64 0, .int .i64 0, .int .i64 0] 74)
  have A0 := At.new w [.int .i64 0, .string { data := #[] }, .int .i64 0, .int .i64 0, .int .i64 0, .int .i64 0] 74
  have F := implPinsFault_any a len cap B ps _ (hR.below (b0.mono hB)) (Nat.le_trans hB b0.size)
  by_cases h0 : pinsF ps = 0
  case neg =>
    rw [show findC ps s.data.toList = pinsF ps by simp [findC, h0], show findR ps s.data.toList = pin0 by simp [findR, h0]]
    generalize pinsF ps = c at *
    clear hR
    go_enter Tryz.func39, Tryz.ntmps39
    go_wp2_with fail
    generalize w.alloc (.cells #[.int .i64 0, .string { data := #[] }, .int .i64 0, .int .i64 0, .int .i64 0, .int .i64 0] 74) = W0 at *
    refine F.mono ?_
    rintro r u1 ⟨rfl, b1⟩
    have q0 := (A0.on b1).cell 0 _ rfl
    have q1 := (A0.on b1).cell 1 _ rfl
    have q2 := (A0.on b1).cell 2 _ rfl
    have q3 := (A0.on b1).cell 3 _ rfl
    have q4 := (A0.on b1).cell 4 _ rfl
    have q5 := (A0.on b1).cell 5 _ rfl
    have z0 := (A0.on b1).free 0 _ rfl
    have z1 := (A0.on b1).free 1 _ rfl
    have z2 := (A0.on b1).free 2 _ rfl
    have z3 := (A0.on b1).free 3 _ rfl
    have z4 := (A0.on b1).free 4 _ rfl
    have z5 := (A0.on b1).free 5 _ rfl
    have B1 := btr b0 b1
    clear A0 b0 b1 F
    go_wp2_with fail
    refine bodyPost_ret (v := RP6 c ⟨{ data := #[] }, 0, 0, 0, 0⟩) (by simp [results, Tryz.results39, go_sem, q0, q1, q2, q3, q4, q5]) rfl ⟨rfl, ?_⟩
    exact (by (iterate 6 (refine bset ?_ (by dsimp only; omega) _)); exact B1)
  rw [h0] at F
  obtain ⟨hl4, hgood, hrise⟩ := pinsF_zero h0
  have N0 := fun w => implNameFault_any s w hs
  by_cases h1 : M.nameF s.data.toList = 0
  case neg =>
    rw [show findC ps s.data.toList = M.nameF s.data.toList by simp [findC, h0, h1], show findR ps s.data.toList = pin0 by simp [findR, h0, h1]]
    generalize M.nameF s.data.toList = c at *
    clear hR
    go_enter Tryz.func39, Tryz.ntmps39
    go_wp2_with fail
    generalize w.alloc (.cells #[.int .i64 0, .string { data := #[] }, .int .i64 0, .int .i64 0, .int .i64 0, .int .i64 0] 74) = W0 at *
    refine F.mono ?_
    rintro r u1 ⟨rfl, b1⟩
    have q0 := (A0.on b1).cell 0 _ rfl
    have q1 := (A0.on b1).cell 1 _ rfl
    have q2 := (A0.on b1).cell 2 _ rfl
    have q3 := (A0.on b1).cell 3 _ rfl
    have q4 := (A0.on b1).cell 4 _ rfl
    have q5 := (A0.on b1).cell 5 _ rfl
    have z0 := (A0.on b1).free 0 _ rfl
    have z1 := (A0.on b1).free 1 _ rfl
    have z2 := (A0.on b1).free 2 _ rfl
    have z3 := (A0.on b1).free 3 _ rfl
    have z4 := (A0.on b1).free 4 _ rfl
    have z5 := (A0.on b1).free 5 _ rfl
    have B1 := btr b0 b1
    clear A0 b0 b1 F
    go_wp2_with fail
    refine (N0 _).mono ?_
    rintro r w' ⟨rfl, rfl⟩
    go_wp2_with fail
    refine bodyPost_ret (v := RP6 c ⟨{ data := #[] }, 0, 0, 0, 0⟩) (by simp [results, Tryz.results39, go_sem, q0, q1, q2, q3, q4, q5]) rfl ⟨rfl, ?_⟩
    exact (by (iterate 6 (refine bset ?_ (by dsimp only; omega) _)); exact B1)
  rw [h1] at N0
  obtain ⟨h20, hm⟩ := M.nameF_zero h1
  have hsz : s.data.toList.length = s.size := by simp
  have NT := fun w => normalText_any s w (by omega) hm
  have hns : (M.bs (M.nrm s.data.toList)).size ≤ maxLen := nrm_size (by omega)
  have LK := Lib.hid (fun (w : World) (b : Nat) (h : PMap w b ps) => h.look (s := M.bs (M.nrm s.data.toList)) hns)
  rw [M.bs_list] at LK
  have BN := Lib.hid (fun (w1 : World) (h : Below w.heap.size w w1) => pinsByName_any a len cap B ps w1 (hR.below (h.mono hB)) (Nat.le_trans hB h.size) (by have := hL.out; omega) hrise.apart)
  have EC := findC_ok (l := s.data.toList) h0 h1
  have ER : findR ps s.data.toList = (findP ps (M.nrm s.data.toList)).getD pin0 := by simp [findR, h0, h1]
  rw [EC, ER]
  clear EC ER
  generalize M.bs (M.nrm s.data.toList) = S2 at *
  generalize findP ps (M.nrm s.data.toList) = o at *
  clear hR h0 h1 hgood hrise
  go_enter Tryz.func39, Tryz.ntmps39
  go_wp2_with fail
  generalize w.alloc (.cells #[.int .i64 0, .string { data := #[] }, .int .i64 0, .int .i64 0, .int .i64 0, .int .i64 0] 74) = W0 at *
  refine F.mono ?_
  rintro r u1 ⟨rfl, b1⟩
  have A1 := A0.on b1
  have B0 := btr b0 b1
  clear A0 b0 b1 F
  go_wp2_with fail
  refine (N0 _).mono ?_
  rintro r w' ⟨rfl, rfl⟩
  go_wp2_with fail
  refine (BN.out _ B0).mono ?_
  rintro r u2 ⟨rfl, M2, b2⟩
  go_wp2_with fail
  refine (NT _).mono ?_
  rintro r u3 ⟨rfl, b3⟩
  have M3 := M2.on b3
  have lk := LK.out _ _ M3
  have bb := btr b2 b3
  have B1 := btr B0 bb
  have q0 := (A1.on bb).cell 0 _ rfl
  have q1 := (A1.on bb).cell 1 _ rfl
  have q2 := (A1.on bb).cell 2 _ rfl
  have q3 := (A1.on bb).cell 3 _ rfl
  have q4 := (A1.on bb).cell 4 _ rfl
  have q5 := (A1.on bb).cell 5 _ rfl
  have z0 := (A1.on bb).free 0 _ rfl
  have z1 := (A1.on bb).free 1 _ rfl
  have z2 := (A1.on bb).free 2 _ rfl
  have z3 := (A1.on bb).free 3 _ rfl
  have z4 := (A1.on bb).free 4 _ rfl
  have z5 := (A1.on bb).free 5 _ rfl
  have lt3 : w.heap.size < u3.heap.size := (A1.on bb).lt (by simp)
  clear BN NT N0 LK M2 M3 A1 B0 b2 b3 bb
  cases o with
  | none =>
    go_wp2_with fail
    refine bodyPost_ret (v := RP6 4 ⟨{ data := #[] }, 0, 0, 0, 0⟩) (by simp [results, Tryz.results39, go_sem, q0, q1, q2, q3, q4, q5, lt3]) rfl ⟨rfl, ?_⟩
    exact bal (by (iterate 6 (refine bset ?_ (by dsimp only; omega) _)); exact B1) _
  | some p =>
    go_wp2_with fail
    refine bodyPost_ret (v := RP6 0 p) (by simp [results, Tryz.results39, go_sem, q0, q1, q2, q3, q4, q5, lt3]) rfl ⟨rfl, ?_⟩
    exact bal (by (iterate 6 (refine bset ?_ (by dsimp only; omega) _)); exact B1) _

def atI : List PinD → List UInt8 → Int → Int
  | [], _, _ => -1
  | p :: r, l, i => if p.nm = l then i else atI r l (i + 1)
theorem atI_step {ps : List PinD} {k : Nat} (hk : k < ps.length) (l : List UInt8) (i : Int) : atI (ps.drop k) l i = if (ps[k]?.getD pin0).nm = l then i else atI (ps.drop (k + 1)) l (i + 1) := by
  have e : ps.drop k = (ps[k]?.getD pin0) :: ps.drop (k + 1) := by
    rw [List.drop_eq_getElem_cons hk, List.getElem?_eq_getElem hk]
    rfl
  rw [e]
  rfl
theorem atI_spec : ∀ (ps : List PinD) (l : List UInt8) (i : Int), (findP ps l = none ∧ atI ps l i = -1) ∨ ∃ k : Nat, k < ps.length ∧ atI ps l i = i + k ∧ findP ps l = some (ps[k]?.getD pin0)
  | [], l, i => .inl ⟨rfl, rfl⟩
  | p :: r, l, i => by
    by_cases h : p.nm = l
    · refine .inr ⟨0, by simp, ?_, ?_⟩
      · rw [atI, if_pos h]; simp
      · simp [findP, h]
    · have ef : findP (p :: r) l = findP r l := by simp [findP, h]
      rw [ef, atI, if_neg h]
      rcases atI_spec r l (i + 1) with h1 | ⟨k, hk, h1, h2⟩
      · exact .inl h1
      · exact .inr ⟨k + 1, by simpa using hk, by rw [h1]; push_cast; omega, by simpa using h2⟩
def AtRel (w : World) (ps : List PinD) (l : List UInt8) (t : Int) (k : Nat) (wr : World) : Prop := atI (ps.drop k) l k = t ∧ Below w.heap.size w wr
theorem l7At_any (a : Option Addr) (len cap B : Nat) (ps : List PinD) (s : ByteArray) (w : World) (hR : PRow w B a len cap ps) (hB : B ≤ w.heap.size) :
    Calls Tryz.prog 222 #[.slice a len cap, .string s] w fun e w' => e = .returned (.int .i64 (atI ps s.data.toList 0)) ∧ Below w.heap.size w w' := by
  have hf := hR.fits
  have hm := hR.most
  unfold maxLen at hm
  have hL := Lib.hid hR.length
  have T0 : AtRel w ps s.data.toList (atI ps s.data.toList 0) 0 w := ⟨rfl, Below.refl _ _⟩
  generalize atI ps s.data.toList 0 = t at *
  go_enter Tryz.func222, Tryz.ntmps222
  go_wp2_with fail
  go_loopw [5] (fun i wr => ∃ k : Nat, k ≤ len ∧ i = .int .i64 k ∧ AtRel w ps s.data.toList t k wr) (fun i _ => len - (intOf i).toNat)
  case atStart => exact ⟨0, Nat.zero_le _, rfl, T0⟩
  case round =>
    obtain ⟨k, hk, rfl, ht, hb⟩ := hrel
    clear T0
    by_cases hlt : k < len
    · obtain ⟨b, off, hab, hbB, c0, -⟩ := (hR.below (hb.mono hB)).at' hlt
      subst hab
      rw [atI_step (by rw [hL.out]; exact hlt)] at ht
      have Q : ((ps[k]?.getD pin0).n.toList == s.toList) = decide ((ps[k]?.getD pin0).nm = s.data.toList) := text_beq (ps[k]?.getD pin0).n s
      have HB := Lib.hid hb
      by_cases h1 : (ps[k]?.getD pin0).nm = s.data.toList
      · rw [if_pos h1] at ht
        rw [decide_eq_true h1] at Q
        subst ht
        clear h1 hb
        generalize ps[k]?.getD pin0 = p at *
        go_wp2_with fail
        go_ret
        exact ⟨rfl, HB.out⟩
      · rw [if_neg h1] at ht
        rw [decide_eq_false h1] at Q
        have HT := Lib.hid ht
        clear h1 ht hb
        generalize ps[k]?.getD pin0 = p at *
        go_wp2_with fail
        go_roundw
        case rel => exact ⟨k + 1, by omega, by go_num, HT.out, HB.out⟩
        case measure => simp [intOf]; omega
    · obtain rfl : k = len := by omega
      have e : ps.drop k = [] := List.drop_of_length_le (by rw [hL.out]; omega)
      rw [e] at ht
      have ht' : -1 = t := ht
      subst ht'
      go_wp2_with fail
      go_ret
      exact ⟨rfl, hb⟩

end Go.Proofs.YtlodhleihnlchaaGreatDoor
