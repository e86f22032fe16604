/- Plain facts on pins: what is wrong with them, their order, where one is found, where one is put. No condition beside what each theorem states. -/
import Derived.Test.YtcolecidbalmhaaMath6
import Derived.Lib.Bytealg
namespace Go.Proofs.Ytcolecidbalmhaa
set_option linter.unusedVariables false

/-- A pin. -/
structure PinD where
  n : ByteArray
  a : Int
  b : Int
  e : Int
  u : Int
def pin0 : PinD := ⟨{ data := #[] }, 0, 0, 0, 0⟩
instance : Inhabited PinD := ⟨pin0⟩
def PinD.nm (p : PinD) : List UInt8 := p.n.data.toList
abbrev P5 (p : PinD) : Value := .agg #[.string p.n, .int .i64 p.a, .int .i64 p.b, .int .i64 p.e, .int .i64 p.u]
def PinD.vals (p : PinD) : List Value := [.string p.n, .int .i64 p.a, .int .i64 p.b, .int .i64 p.e, .int .i64 p.u]
theorem PinD.vals_length (p : PinD) : p.vals.length = 5 := rfl
/-- The cells of pins. -/
def flat (ps : List PinD) : List Value := ps.flatMap PinD.vals
theorem flat_nil : flat [] = [] := rfl
theorem flat_cons (p : PinD) (ps : List PinD) : flat (p :: ps) = p.vals ++ flat ps := by simp [flat]
theorem flat_append (ps qs : List PinD) : flat (ps ++ qs) = flat ps ++ flat qs := by simp [flat]
theorem flat_length : ∀ ps : List PinD, (flat ps).length = ps.length * 5
  | [] => rfl
  | p :: r => by rw [flat_cons, List.length_append, flat_length r, PinD.vals_length, List.length_cons]; omega
theorem flat_get : ∀ (ps : List PinD) (j i : Nat) (v : Value), j < ps.length → (ps[j]?.getD pin0).vals[i]? = some v → (flat ps)[j * 5 + i]? = some v
  | [], j, i, v, hj, _ => by simp at hj
  | p :: r, 0, i, v, _, h => by
    have hi : i < 5 := by have := (List.getElem?_eq_some_iff.1 h).1; simpa [PinD.vals_length] using this
    rw [flat_cons, Nat.zero_mul, Nat.zero_add, List.getElem?_append_left (by rw [PinD.vals_length]; exact hi)]
    simpa using h
  | p :: r, j + 1, i, v, hj, h => by
    have := flat_get r j i v (by simpa using hj) (by simpa using h)
    rw [flat_cons, List.getElem?_append_right (by rw [PinD.vals_length]; omega), PinD.vals_length, show (j + 1) * 5 + i - 5 = j * 5 + i by omega]
    exact this
theorem flat_set : ∀ (ps : List PinD) (j : Nat) (p : PinD), j < ps.length → flat (ps.set j p) = (((((flat ps).set (j * 5) (.string p.n)).set (j * 5 + 1) (.int .i64 p.a)).set (j * 5 + 2) (.int .i64 p.b)).set (j * 5 + 3) (.int .i64 p.e)).set (j * 5 + 4) (.int .i64 p.u)
  | [], j, p, hj => by simp at hj
  | q :: r, 0, p, _ => by simp [flat_cons, PinD.vals]
  | q :: r, j + 1, p, hj => by
    rw [List.set_cons_succ, flat_cons, flat_set r j p (by simpa using hj), flat_cons]
    simp only [PinD.vals, List.cons_append, List.nil_append, show (j + 1) * 5 = j * 5 + 1 + 1 + 1 + 1 + 1 by omega, show j * 5 + 1 + 1 + 1 + 1 + 1 + 1 = (j * 5 + 1) + 1 + 1 + 1 + 1 + 1 by omega, show j * 5 + 1 + 1 + 1 + 1 + 1 + 2 = (j * 5 + 2) + 1 + 1 + 1 + 1 + 1 by omega, show j * 5 + 1 + 1 + 1 + 1 + 1 + 3 = (j * 5 + 3) + 1 + 1 + 1 + 1 + 1 by omega, show j * 5 + 1 + 1 + 1 + 1 + 1 + 4 = (j * 5 + 4) + 1 + 1 + 1 + 1 + 1 by omega, List.set_cons_succ]
theorem flat_inj : ∀ {ps qs : List PinD}, flat ps = flat qs → ps = qs
  | [], [], _ => rfl
  | [], q :: r, h => by simp [flat_cons, flat_nil, PinD.vals] at h
  | p :: r, [], h => by simp [flat_cons, flat_nil, PinD.vals] at h
  | p :: r, q :: s, h => by
    simp only [flat_cons, PinD.vals, List.cons_append, List.nil_append, List.cons.injEq, Value.string.injEq, Value.int.injEq, true_and] at h
    obtain ⟨h1, h2, h3, h4, h5, h6⟩ := h
    rw [flat_inj h6]
    cases p; cases q
    simp_all

/-- What is wrong with a pin. -/
def bakB (v : Int) : Bool := decide (v = 0) || pubB v
def epB (v : Int) : Bool := decide (1 ≤ v ∧ v ≤ 200)
def timB (v : Int) : Bool := decide (0 ≤ v ∧ v ≤ 9999)
def pinB (a b e u : Int) : Bool := pubB a && bakB b && epB e && timB u
def pinF (l : List UInt8) (a b e u : Int) : Int := if M.normF l = 0 then (if pinB a b e u then (if b = a then 6 else 0) else 3) else M.normF l
def PinD.f (p : PinD) : Int := pinF p.nm p.a p.b p.e p.u
theorem pinF_norm {l : List UInt8} {a b e u : Int} (h : M.normF l ≠ 0) : pinF l a b e u = M.normF l := by simp [pinF, h]
theorem pinF_no {l : List UInt8} {a b e u : Int} (h : M.normF l = 0) (h1 : pinB a b e u = false) : pinF l a b e u = 3 := by simp [pinF, h, h1]
theorem pinF_taken {l : List UInt8} {a b e u : Int} (h : M.normF l = 0) (h1 : pinB a b e u = true) (h2 : b = a) : pinF l a b e u = 6 := by
  unfold pinF
  rw [if_pos h, if_pos h1, if_pos h2]
theorem pinF_yes {l : List UInt8} {a b e u : Int} (h : M.normF l = 0) (h1 : pinB a b e u = true) (h2 : b ≠ a) : pinF l a b e u = 0 := by simp [pinF, h, h1, h2]
theorem pinF_zero {l : List UInt8} {a b e u : Int} (h : pinF l a b e u = 0) : M.normF l = 0 ∧ pubB a = true ∧ bakB b = true ∧ epB e = true ∧ timB u = true ∧ b ≠ a := by
  unfold pinF at h
  split at h
  · split at h
    · split at h
      · omega
      · rename_i h1 h2 h3
        simp only [pinB, Bool.and_eq_true] at h2
        exact ⟨h1, h2.1.1.1, h2.1.1.2, h2.1.2, h2.2, h3⟩
    · omega
  · exact absurd h ‹_›
theorem pin0_f : pin0.f = 5 := by
  have h5 : M.nameF [] = 5 := by decide
  have h6 : M.normF [] = 5 := by rw [M.normF_no (by rw [h5]; omega), h5]
  show pinF [] 0 0 0 0 = 5
  rw [pinF_norm (by rw [h6]; omega), h6]
theorem pin_size {p : PinD} (h : p.f = 0) : p.n.size ≤ 20 := by
  have h4 := (M.nameF_zero (M.normF_zero (pinF_zero h).1).1).1
  have hL : p.n.data.toList.length = p.n.size := by simp
  unfold PinD.nm at h4
  omega
theorem pin_norm {p : PinD} (h : p.f = 0) : M.nrm p.nm = p.nm := (M.normF_zero (pinF_zero h).1).2
theorem pin_name {p : PinD} (h : p.f = 0) : M.nameF p.nm = 0 := (M.normF_zero (pinF_zero h).1).1
theorem nm_inj {p q : ByteArray} (h : p.data.toList = q.data.toList) : p = q := by
  cases p; cases q
  simp only [ByteArray.mk.injEq]
  exact Array.toList_inj.1 h

/-- The order of names: bytes, one by one. -/
abbrev nlt (x y : List UInt8) : Bool := Op.bytesLess x y
theorem nlt_irrefl : ∀ x : List UInt8, nlt x x = false
  | [] => rfl
  | a :: r => by simp [nlt, Op.bytesLess]; exact nlt_irrefl r
theorem nlt_trans : ∀ {x y z : List UInt8}, nlt x y = true → nlt y z = true → nlt x z = true
  | _, [], _, h, _ => by simp [nlt, Op.bytesLess] at h
  | _, _ :: _, [], _, h => by simp [nlt, Op.bytesLess] at h
  | [], _ :: _, _ :: _, _, _ => by simp [nlt, Op.bytesLess]
  | a :: x, b :: y, c :: z, h1, h2 => by
    simp only [nlt, Op.bytesLess, Bool.or_eq_true, decide_eq_true_eq, Bool.and_eq_true, beq_iff_eq] at h1 h2 ⊢
    rcases h1 with h1 | ⟨rfl, h1⟩
    · rcases h2 with h2 | ⟨rfl, h2⟩
      · exact .inl (UInt8.lt_trans h1 h2)
      · exact .inl h1
    · rcases h2 with h2 | ⟨rfl, h2⟩
      · exact .inl h2
      · exact .inr ⟨rfl, nlt_trans h1 h2⟩
theorem nlt_total : ∀ {x y : List UInt8}, nlt x y = false → x ≠ y → nlt y x = true
  | [], [], _, h => absurd rfl h
  | [], _ :: _, h, _ => by simp [nlt, Op.bytesLess] at h
  | _ :: _, [], _, _ => by simp [nlt, Op.bytesLess]
  | a :: x, b :: y, h, hne => by
    simp only [nlt, Op.bytesLess, Bool.or_eq_false_iff, decide_eq_false_iff_not, Bool.and_eq_false_iff, beq_eq_false_iff_ne] at h
    simp only [nlt, Op.bytesLess, Bool.or_eq_true, decide_eq_true_eq, Bool.and_eq_true, beq_iff_eq]
    by_cases e : a = b
    · subst e
      refine .inr ⟨rfl, nlt_total (h.2.resolve_left (fun h => h rfl)) (fun e => hne (by rw [e]))⟩
    · refine .inl ?_
      have h1 := h.1
      rw [UInt8.lt_iff_toNat_lt] at h1 ⊢
      have : a.toNat ≠ b.toNat := fun h => e (UInt8.toNat_inj.1 h)
      omega
theorem nlt_asymm {x y : List UInt8} (h : nlt x y = true) : nlt y x = false := by
  cases h2 : nlt y x
  · rfl
  · have := nlt_trans h h2
    rw [nlt_irrefl] at this
    cases this
theorem nlt_ne {x y : List UInt8} (h : nlt x y = true) : x ≠ y := fun e => by rw [e, nlt_irrefl] at h; cases h
/-- 'list[i].Name <= list[i-1].Name' and 'list[i-1].Name >= list[i].Name'. -/
theorem nle_eq (x y : List UInt8) : (nlt x y || x == y) = !nlt y x := by
  cases h : nlt y x
  · by_cases e : y = x
    · subst e; simp
    · rw [nlt_total h e]; simp
  · rw [nlt_asymm h]
    have : (x == y) = false := by
      rw [beq_eq_false_iff_ne]
      exact fun e => nlt_ne h e.symm
    rw [this]; rfl
theorem cmp_lt : ∀ x y : List UInt8, decide (Lib.compareBytes x y < 0) = nlt x y
  | [], [] => by simp [Lib.compareBytes, nlt, Op.bytesLess]
  | [], _ :: _ => by simp [Lib.compareBytes, nlt, Op.bytesLess]
  | _ :: _, [] => by simp [Lib.compareBytes, nlt, Op.bytesLess]
  | a :: x, b :: y => by
    have ih := cmp_lt x y
    simp only [Lib.compareBytes, nlt, Op.bytesLess]
    by_cases h1 : a < b
    · simp [h1]
    · by_cases h2 : b < a
      · have : (a == b) = false := by
          rw [beq_eq_false_iff_ne]
          intro e
          subst e
          exact h1 h2
        simp [h1, h2, this]
      · have : a = b := by
          rw [UInt8.lt_iff_toNat_lt] at h1 h2
          exact UInt8.toNat_inj.1 (by omega)
        subst this
        simp only [h1, if_false, decide_false, Bool.false_or, beq_self_eq_true, Bool.true_and]
        exact ih

/-- Whether a name may stand behind another. -/
def okN : Option (List UInt8) → List UInt8 → Bool
  | none, _ => true
  | some x, l => nlt x l
def pinsG : Option (List UInt8) → List PinD → Int
  | _, [] => 0
  | q, p :: r => if p.f = 0 then (if okN q p.nm then pinsG (some p.nm) r else 1) else p.f
def pinsF (ps : List PinD) : Int := if 4 < ps.length then 2 else pinsG none ps
abbrev Rise (ps : List PinD) : Prop := ps.Pairwise fun p q => nlt p.nm q.nm = true
theorem pinsG_zero : ∀ {q : Option (List UInt8)} {ps : List PinD}, pinsG q ps = 0 → (∀ p ∈ ps, p.f = 0) ∧ Rise ps ∧ ∀ x, q = some x → ∀ p ∈ ps, nlt x p.nm = true
  | _, [], _ => ⟨by simp, .nil, by simp⟩
  | q, p :: r, h => by
    unfold pinsG at h
    by_cases h0 : p.f = 0
    · rw [if_pos h0] at h
      by_cases h1 : okN q p.nm = true
      · rw [if_pos h1] at h
        obtain ⟨g1, g2, g3⟩ := pinsG_zero h
        refine ⟨fun y hy => ?_, List.pairwise_cons.2 ⟨fun y hy => g3 _ rfl y hy, g2⟩, fun x hx y hy => ?_⟩
        · rcases List.mem_cons.1 hy with rfl | hy
          · exact h0
          · exact g1 y hy
        · subst hx
          rcases List.mem_cons.1 hy with rfl | hy
          · exact h1
          · exact nlt_trans h1 (g3 _ rfl y hy)
      · rw [if_neg h1] at h
        omega
    · rw [if_neg h0] at h
      exact absurd h h0
theorem pinsF_zero {ps : List PinD} (h : pinsF ps = 0) : ps.length ≤ 4 ∧ (∀ p ∈ ps, p.f = 0) ∧ Rise ps := by
  unfold pinsF at h
  by_cases h4 : 4 < ps.length
  · rw [if_pos h4] at h; omega
  · rw [if_neg h4] at h
    obtain ⟨g1, g2, -⟩ := pinsG_zero h
    exact ⟨by omega, g1, g2⟩
theorem pinsG_make : ∀ {q : Option (List UInt8)} {ps : List PinD}, (∀ p ∈ ps, p.f = 0) → Rise ps → (∀ x, q = some x → ∀ p ∈ ps, nlt x p.nm = true) → pinsG q ps = 0
  | _, [], _, _, _ => rfl
  | q, p :: r, h1, h2, h3 => by
    obtain ⟨r1, r2⟩ := List.pairwise_cons.1 h2
    unfold pinsG
    rw [if_pos (h1 p (by simp))]
    have hq : okN q p.nm = true := by
      cases q with
      | none => rfl
      | some x => exact h3 x rfl p (by simp)
    rw [if_pos hq]
    exact pinsG_make (fun y hy => h1 y (by simp [hy])) r2 (fun x hx y hy => by injection hx with hx; subst hx; exact r1 y hy)
theorem pinsF_make {ps : List PinD} (h : ps.length ≤ 4) (h1 : ∀ p ∈ ps, p.f = 0) (h2 : Rise ps) : pinsF ps = 0 := by
  unfold pinsF
  rw [if_neg (by omega)]
  exact pinsG_make h1 h2 (by simp)
/-- Ahead of pin k. -/
def prevN (ps : List PinD) : Nat → Option (List UInt8)
  | 0 => none
  | k + 1 => some (ps[k]?.getD pin0).nm
theorem pinsG_step {ps : List PinD} {k : Nat} (hk : k < ps.length) : pinsG (prevN ps k) (ps.drop k) = (if (ps[k]?.getD pin0).f = 0 then (if okN (prevN ps k) (ps[k]?.getD pin0).nm then pinsG (prevN ps (k + 1)) (ps.drop (k + 1)) else 1) else (ps[k]?.getD pin0).f) := by
  have e : ps.drop k = (ps[k]?.getD pin0) :: ps.drop (k + 1) := by
    rw [List.drop_eq_getElem_cons hk, List.getElem?_eq_getElem hk]
    rfl
  rw [e]
  rfl

/-- The pin of a name. -/
def findP (ps : List PinD) (l : List UInt8) : Option PinD := ps.find? fun p => decide (p.nm = l)
theorem rise_inj : ∀ {ps : List PinD}, Rise ps → ∀ {p q : PinD}, p ∈ ps → q ∈ ps → p.nm = q.nm → p = q
  | [], _, _, _, h, _, _ => by cases h
  | x :: r, hr, p, q, hp, hq, e => by
    obtain ⟨h1, h2⟩ := List.pairwise_cons.1 hr
    rcases List.mem_cons.1 hp with rfl | hp'
    · rcases List.mem_cons.1 hq with rfl | hq'
      · rfl
      · exact absurd e (nlt_ne (h1 q hq'))
    · rcases List.mem_cons.1 hq with rfl | hq'
      · exact absurd e.symm (nlt_ne (h1 p hp'))
      · exact rise_inj h2 hp' hq' e
theorem findP_mem {ps : List PinD} {l : List UInt8} {p : PinD} (h : findP ps l = some p) : p ∈ ps ∧ p.nm = l := by
  refine ⟨List.mem_of_find?_eq_some h, ?_⟩
  have := List.find?_some h
  simpa using this
theorem findP_none {ps : List PinD} {l : List UInt8} (h : findP ps l = none) : ∀ p ∈ ps, p.nm ≠ l := by
  intro p hp
  have := List.find?_eq_none.1 h p hp
  simpa using this
theorem findP_of {ps : List PinD} (hr : Rise ps) {p : PinD} (hp : p ∈ ps) : findP ps p.nm = some p := by
  cases h : findP ps p.nm with
  | none => exact absurd rfl (findP_none h p hp)
  | some q =>
    obtain ⟨h1, h2⟩ := findP_mem h
    rw [rise_inj hr h1 hp h2]

/-- A pin put among others, as the model does it. -/
def putG (p : PinD) : Bool → List PinD → List PinD
  | d, [] => if d then [] else [p]
  | d, q :: r => (if !d && !nlt q.nm p.nm then [p] else []) ++ (if q.nm = p.nm then [] else [q]) ++ putG p (d || !nlt q.nm p.nm) r
def putL (ps : List PinD) (p : PinD) : List PinD := putG p false ps
theorem putG_true (p : PinD) : ∀ (ps : List PinD), putG p true ps = ps.filter fun q => !decide (q.nm = p.nm)
  | [] => rfl
  | q :: r => by
    unfold putG
    simp only [Bool.not_true, Bool.false_and, Bool.false_eq_true, if_false, List.nil_append, Bool.true_or, putG_true p r]
    by_cases h : q.nm = p.nm
    · simp [h]
    · simp [h]
theorem putG_perm (p : PinD) : ∀ (ps : List PinD), (putG p false ps).Perm (p :: ps.filter fun q => !decide (q.nm = p.nm))
  | [] => by simp [putG]
  | q :: r => by
    unfold putG
    cases h : nlt q.nm p.nm
    · simp only [Bool.not_false, Bool.and_self, if_true, Bool.false_or, putG_true]
      by_cases e : q.nm = p.nm
      · simp [e]
      · simp [e]
    · simp only [Bool.not_true, Bool.and_false, Bool.false_eq_true, if_false, List.nil_append, Bool.or_false]
      rw [if_neg (nlt_ne h)]
      have ih := putG_perm p r
      have e : (List.filter (fun q => !decide (q.nm = p.nm)) (q :: r)) = q :: r.filter fun q => !decide (q.nm = p.nm) := by simp [nlt_ne h]
      rw [e]
      exact (List.Perm.cons q ih).trans (List.Perm.swap _ _ _)
theorem putL_mem {ps : List PinD} {p x : PinD} (h : x ∈ putL ps p) : x = p ∨ x ∈ ps := by
  have := (putG_perm p ps).mem_iff.1 h
  rcases List.mem_cons.1 this with h | h
  · exact .inl h
  · exact .inr (List.mem_filter.1 h).1
theorem putL_rise (p : PinD) : ∀ {ps : List PinD}, Rise ps → Rise (putL ps p)
  | [], _ => by simp [putL, putG, Rise]
  | q :: r, h => by
    obtain ⟨h1, h2⟩ := List.pairwise_cons.1 h
    show Rise (putG p false (q :: r))
    unfold putG
    cases hq : nlt q.nm p.nm
    · simp only [Bool.not_false, Bool.and_self, if_true, Bool.false_or, putG_true, List.singleton_append]
      have hf : r.filter (fun q => !decide (q.nm = p.nm)) = r := by
        refine List.filter_eq_self.2 fun x hx => ?_
        have hx1 := h1 x hx
        simp only [Bool.not_eq_true', decide_eq_false_iff_not]
        intro e
        rw [e] at hx1
        rw [hq] at hx1
        cases hx1
      rw [hf]
      by_cases e : q.nm = p.nm
      · rw [if_pos e]
        exact List.pairwise_cons.2 ⟨fun x hx => by rw [← e]; exact h1 x (by simpa using hx), by simpa using h2⟩
      · rw [if_neg e]
        have hpq := nlt_total hq e
        refine List.pairwise_cons.2 ⟨fun x hx => ?_, h⟩
        rcases List.mem_cons.1 hx with rfl | hx
        · exact hpq
        · exact nlt_trans hpq (h1 x (by simpa using hx))
    · simp only [Bool.not_true, Bool.and_false, Bool.false_eq_true, if_false, List.nil_append, Bool.or_false]
      rw [if_neg (nlt_ne hq)]
      refine List.pairwise_cons.2 ⟨fun x hx => ?_, putL_rise p h2⟩
      rcases putL_mem (ps := r) hx with rfl | hx
      · exact hq
      · exact h1 x hx
theorem rise_eq : ∀ {xs ys : List PinD}, xs.Perm ys → Rise xs → Rise ys → xs = ys
  | [], ys, h, _, _ => (List.nil_perm.1 h).symm
  | x :: r, [], h, _, _ => by simp at h
  | x :: r, y :: s, h, hx, hy => by
    obtain ⟨x1, x2⟩ := List.pairwise_cons.1 hx
    obtain ⟨y1, y2⟩ := List.pairwise_cons.1 hy
    have hxy : x = y := by
      have m1 : x ∈ y :: s := h.mem_iff.1 (by simp)
      have m2 : y ∈ x :: r := h.mem_iff.2 (by simp)
      rcases List.mem_cons.1 m1 with e | m1
      · exact e
      · rcases List.mem_cons.1 m2 with e | m2
        · exact e.symm
        · have := nlt_trans (x1 y m2) (y1 x m1)
          rw [nlt_irrefl] at this
          cases this
    subst hxy
    rw [rise_eq (List.Perm.cons_inv h) x2 y2]
/-- What putting a pin answers. -/
def putC (ps : List PinD) (p : PinD) : Int :=
  if pinsF ps ≠ 0 then pinsF ps else if p.f ≠ 0 then p.f else match findP ps p.nm with
    | some q => if q.e ≥ p.e then 11 else 0
    | none => if ps.length = 4 then 7 else 0
def putR (ps : List PinD) (p : PinD) : List PinD := if putC ps p = 0 then putL ps p else []
/-- What finding a pin answers. -/
def findC (ps : List PinD) (l : List UInt8) : Int :=
  if pinsF ps ≠ 0 then pinsF ps else if M.nameF l ≠ 0 then M.nameF l else match findP ps (M.nrm l) with
    | some _ => 0
    | none => 4
def findR (ps : List PinD) (l : List UInt8) : PinD :=
  if pinsF ps ≠ 0 then pin0 else if M.nameF l ≠ 0 then pin0 else (findP ps (M.nrm l)).getD pin0
end Go.Proofs.Ytcolecidbalmhaa
