/- Plain facts on rollovers: what is wrong with one, what is signed, what may follow what, chains of them. No condition beside what each theorem states. -/
import Derived.Test.YtmdknbgpddnplaaDoorC7k
import Derived.Test.YtmdknbgpddnplaaDoorMath3
namespace Go.Proofs.YtmdknbgpddnplaaDoor
set_option linter.unusedVariables false

/-- A rollover: a pin, who says it, a signature. -/
structure RollD where
  p : PinD
  b : Int
  x : Int
  y : Int
def roll0 : RollD := ⟨pin0, 0, 0, 0⟩
instance : Inhabited RollD := ⟨roll0⟩
abbrev R8 (r : RollD) : Value := .agg #[.string r.p.n, .int .i64 r.p.a, .int .i64 r.p.b, .int .i64 r.p.e, .int .i64 r.p.u, .int .i64 r.b, .int .i64 r.x, .int .i64 r.y]
def RollD.vals (r : RollD) : List Value := [.string r.p.n, .int .i64 r.p.a, .int .i64 r.p.b, .int .i64 r.p.e, .int .i64 r.p.u, .int .i64 r.b, .int .i64 r.x, .int .i64 r.y]
theorem RollD.vals_length (r : RollD) : r.vals.length = 8 := rfl
/-- A code and a rollover. -/
abbrev R9 (c : Int) (r : RollD) : Value := .agg #[.int .i64 c, .string r.p.n, .int .i64 r.p.a, .int .i64 r.p.b, .int .i64 r.p.e, .int .i64 r.p.u, .int .i64 r.b, .int .i64 r.x, .int .i64 r.y]
def RL9 (c : Int) (r : RollD) : List Value := [.int .i64 c, .string r.p.n, .int .i64 r.p.a, .int .i64 r.p.b, .int .i64 r.p.e, .int .i64 r.p.u, .int .i64 r.b, .int .i64 r.x, .int .i64 r.y]
/-- The cells of rollovers. -/
def flatR (rs : List RollD) : List Value := rs.flatMap RollD.vals
theorem flatR_nil : flatR [] = [] := rfl
theorem flatR_cons (p : RollD) (ps : List RollD) : flatR (p :: ps) = p.vals ++ flatR ps := by simp [flatR]
theorem flatR_append (ps qs : List RollD) : flatR (ps ++ qs) = flatR ps ++ flatR qs := by simp [flatR]
theorem flatR_length : ∀ ps : List RollD, (flatR ps).length = ps.length * 8
  | [] => rfl
  | p :: r => by rw [flatR_cons, List.length_append, flatR_length r, RollD.vals_length, List.length_cons]; omega
theorem flatR_get : ∀ (ps : List RollD) (j i : Nat) (v : Value), j < ps.length → (ps[j]?.getD roll0).vals[i]? = some v → (flatR ps)[j * 8 + i]? = some v
  | [], j, i, v, hj, _ => by simp at hj
  | p :: r, 0, i, v, _, h => by
    have hi : i < 8 := by have := (List.getElem?_eq_some_iff.1 h).1; simpa [RollD.vals_length] using this
    rw [flatR_cons, Nat.zero_mul, Nat.zero_add, List.getElem?_append_left (by rw [RollD.vals_length]; exact hi)]
    simpa using h
  | p :: r, j + 1, i, v, hj, h => by
    have := flatR_get r j i v (by simpa using hj) (by simpa using h)
    rw [flatR_cons, List.getElem?_append_right (by rw [RollD.vals_length]; omega), RollD.vals_length, show (j + 1) * 8 + i - 8 = j * 8 + i by omega]
    exact this

/-- What is wrong with a rollover. -/
def RollD.f (r : RollD) : Int := if r.p.f = 0 then (if pubB r.b then M.sigF r.x r.y else 3) else r.p.f
theorem rollF_pin {r : RollD} (h : r.p.f ≠ 0) : r.f = r.p.f := by unfold RollD.f; rw [if_neg h]
theorem rollF_by {r : RollD} (h : r.p.f = 0) (h1 : pubB r.b = false) : r.f = 3 := by unfold RollD.f; rw [if_pos h, h1]; rfl
theorem rollF_sig {r : RollD} (h : r.p.f = 0) (h1 : pubB r.b = true) : r.f = M.sigF r.x r.y := by unfold RollD.f; rw [if_pos h, if_pos h1]
theorem sigF_no {x y : Int} (h : M.sigB x y = false) : M.sigF x y = 3 := by simp [M.sigF, h]
theorem sigF_yes {x y : Int} (h : M.sigB x y = true) : M.sigF x y = 0 := by simp [M.sigF, h]
theorem rollF_zero {r : RollD} (h : r.f = 0) : r.p.f = 0 ∧ pubB r.b = true ∧ M.sigB r.x r.y = true := by
  by_cases h0 : r.p.f = 0
  · cases h1 : pubB r.b
    · rw [rollF_by h0 h1] at h; omega
    · rw [rollF_sig h0 h1] at h
      cases h2 : M.sigB r.x r.y
      · rw [sigF_no h2] at h; omega
      · exact ⟨h0, rfl, rfl⟩
  · rw [rollF_pin h0] at h; exact absurd h h0
theorem rollF_make {r : RollD} (h0 : r.p.f = 0) (h1 : pubB r.b = true) (h2 : M.sigB r.x r.y = true) : r.f = 0 := by rw [rollF_sig h0 h1, sigF_yes h2]
/-- What who names a pin as the next one signs. -/
def rsum (p : PinD) : Int := M.tagL M.rollS [M.sumL (packP p)]
theorem rsum_bd (p : PinD) : 0 ≤ rsum p ∧ rsum p < 65521 := M.tagL_bd _ _
theorem rsum_sum (p : PinD) : M.sumB (rsum p) = true := by
  have := rsum_bd p
  simp only [M.sumB, decide_eq_true_eq]; omega
def rsumV (p : PinD) : Int := if p.f = 0 then rsum p else 0
/-- Why a rollover may not follow a pin. -/
def chk (o : PinD) (r : RollD) (t : Int) : Int :=
  if r.p.nm = o.nm then (if r.p.e = o.e + 1 then (if r.b = o.a ∨ r.b = o.b then (if t ≤ o.u then (if M.checkB r.b (rsum r.p) r.x r.y then 0 else 9) else 11) else 10) else 11) else 1
theorem chk_name {o : PinD} {r : RollD} {t : Int} (h : r.p.nm ≠ o.nm) : chk o r t = 1 := by unfold chk; rw [if_neg h]
theorem chk_ep {o : PinD} {r : RollD} {t : Int} (h : r.p.nm = o.nm) (h1 : r.p.e ≠ o.e + 1) : chk o r t = 11 := by unfold chk; rw [if_pos h, if_neg h1]
theorem chk_by {o : PinD} {r : RollD} {t : Int} (h : r.p.nm = o.nm) (h1 : r.p.e = o.e + 1) (h2 : r.b ≠ o.a) (h3 : r.b ≠ o.b) : chk o r t = 10 := by
  unfold chk; rw [if_pos h, if_pos h1, if_neg (by rintro (h | h); exact h2 h; exact h3 h)]
theorem chk_old {o : PinD} {r : RollD} {t : Int} (h : r.p.nm = o.nm) (h1 : r.p.e = o.e + 1) (h2 : r.b = o.a ∨ r.b = o.b) (h3 : ¬ t ≤ o.u) : chk o r t = 11 := by unfold chk; rw [if_pos h, if_pos h1, if_pos h2, if_neg h3]
theorem chk_sign {o : PinD} {r : RollD} {t : Int} (h : r.p.nm = o.nm) (h1 : r.p.e = o.e + 1) (h2 : r.b = o.a ∨ r.b = o.b) (h3 : t ≤ o.u) (h4 : M.checkB r.b (rsum r.p) r.x r.y = false) : chk o r t = 9 := by unfold chk; rw [if_pos h, if_pos h1, if_pos h2, if_pos h3, h4]; rfl
theorem chk_yes {o : PinD} {r : RollD} {t : Int} (h : r.p.nm = o.nm) (h1 : r.p.e = o.e + 1) (h2 : r.b = o.a ∨ r.b = o.b) (h3 : t ≤ o.u) (h4 : M.checkB r.b (rsum r.p) r.x r.y = true) : chk o r t = 0 := by unfold chk; rw [if_pos h, if_pos h1, if_pos h2, if_pos h3, if_pos h4]
theorem chk_zero {o : PinD} {r : RollD} {t : Int} (h : chk o r t = 0) : r.p.nm = o.nm ∧ r.p.e = o.e + 1 ∧ (r.b = o.a ∨ r.b = o.b) ∧ t ≤ o.u ∧ M.checkB r.b (rsum r.p) r.x r.y = true := by
  unfold chk at h
  repeat' split at h
  all_goals first | omega | exact ⟨‹_›, ‹_›, ‹_›, ‹_›, ‹_›⟩
def checkF (o : PinD) (r : RollD) (t : Int) : Int := if o.f = 0 then (if r.f = 0 then (if timB t then chk o r t else 3) else r.f) else o.f
theorem checkF_old {o : PinD} {r : RollD} {t : Int} (h : o.f ≠ 0) : checkF o r t = o.f := by unfold checkF; rw [if_neg h]
theorem checkF_roll {o : PinD} {r : RollD} {t : Int} (h : o.f = 0) (h1 : r.f ≠ 0) : checkF o r t = r.f := by unfold checkF; rw [if_pos h, if_neg h1]
theorem checkF_time {o : PinD} {r : RollD} {t : Int} (h : o.f = 0) (h1 : r.f = 0) (h2 : timB t = false) : checkF o r t = 3 := by unfold checkF; rw [if_pos h, if_pos h1, h2]; rfl
theorem checkF_chk {o : PinD} {r : RollD} {t : Int} (h : o.f = 0) (h1 : r.f = 0) (h2 : timB t = true) : checkF o r t = chk o r t := by unfold checkF; rw [if_pos h, if_pos h1, if_pos h2]
theorem checkF_zero {o : PinD} {r : RollD} {t : Int} (h : checkF o r t = 0) : o.f = 0 ∧ r.f = 0 ∧ timB t = true ∧ chk o r t = 0 := by
  by_cases h0 : o.f = 0
  · by_cases h1 : r.f = 0
    · cases h2 : timB t
      · rw [checkF_time h0 h1 h2] at h; omega
      · rw [checkF_chk h0 h1 h2] at h; exact ⟨h0, h1, rfl, h⟩
    · rw [checkF_roll h0 h1] at h; exact absurd h h1
  · rw [checkF_old h0] at h; exact absurd h h0
/-- A rollover does not follow its own pin. -/
theorem checkF_once (r : RollD) (t : Int) : checkF r.p r t ≠ 0 := fun h => by
  have := (chk_zero (checkF_zero h).2.2.2).2.1
  omega
/-- Chains of rollovers. -/
def chainG : PinD → List RollD → Int → Int
  | _, [], _ => 0
  | o, r :: rs, t => if checkF o r t = 0 then chainG r.p rs t else checkF o r t
def chainF (o : PinD) (rs : List RollD) (t : Int) : Int := if o.f = 0 then (if 8 < rs.length then 2 else chainG o rs t) else o.f
theorem chainF_first {o : PinD} {rs : List RollD} {t : Int} (h : o.f ≠ 0) : chainF o rs t = o.f := by unfold chainF; rw [if_neg h]
theorem chainF_many {o : PinD} {rs : List RollD} {t : Int} (h : o.f = 0) (h1 : 8 < rs.length) : chainF o rs t = 2 := by unfold chainF; rw [if_pos h, if_pos h1]
theorem chainF_go {o : PinD} {rs : List RollD} {t : Int} (h : o.f = 0) (h1 : ¬ 8 < rs.length) : chainF o rs t = chainG o rs t := by unfold chainF; rw [if_pos h, if_neg h1]
theorem chainF_zero {o : PinD} {rs : List RollD} {t : Int} (h : chainF o rs t = 0) : o.f = 0 ∧ rs.length ≤ 8 ∧ chainG o rs t = 0 := by
  by_cases h0 : o.f = 0
  · by_cases h1 : 8 < rs.length
    · rw [chainF_many h0 h1] at h; omega
    · rw [chainF_go h0 h1] at h; exact ⟨h0, by omega, h⟩
  · rw [chainF_first h0] at h; exact absurd h h0
/-- The pin ahead of rollover k. -/
def prevP (o : PinD) (rs : List RollD) : Nat → PinD
  | 0 => o
  | k + 1 => (rs[k]?.getD roll0).p
theorem chainG_step {o : PinD} {rs : List RollD} {k : Nat} {t : Int} (hk : k < rs.length) : chainG (prevP o rs k) (rs.drop k) t = if checkF (prevP o rs k) (rs[k]?.getD roll0) t = 0 then chainG (prevP o rs (k + 1)) (rs.drop (k + 1)) t else checkF (prevP o rs k) (rs[k]?.getD roll0) t := by
  have e : rs.drop k = (rs[k]?.getD roll0) :: rs.drop (k + 1) := by
    rw [List.drop_eq_getElem_cons hk, List.getElem?_eq_getElem hk]
    rfl
  rw [e]
  rfl
theorem chainG_bad {o : PinD} {rs : List RollD} {k : Nat} {t c : Int} (hk : k < rs.length) (h : chainG (prevP o rs k) (rs.drop k) t = c) (h0 : checkF (prevP o rs k) (rs[k]?.getD roll0) t ≠ 0) : checkF (prevP o rs k) (rs[k]?.getD roll0) t = c := by rw [chainG_step hk, if_neg h0] at h; exact h
theorem chainG_next {o : PinD} {rs : List RollD} {k : Nat} {t c : Int} (hk : k < rs.length) (h : chainG (prevP o rs k) (rs.drop k) t = c) (h0 : checkF (prevP o rs k) (rs[k]?.getD roll0) t = 0) : chainG (prevP o rs (k + 1)) (rs.drop (k + 1)) t = c := by rw [chainG_step hk, if_pos h0] at h; exact h
theorem chainG_take : ∀ (rs : List RollD) (o : PinD) (t : Int) (i : Nat), chainG o rs t = 0 → chainG o (rs.take i) t = 0
  | [], o, t, i, h => by simp [chainG]
  | r :: rs, o, t, 0, h => by simp [chainG]
  | r :: rs, o, t, i + 1, h => by
    by_cases h0 : checkF o r t = 0
    · have h' : chainG r.p rs t = 0 := by unfold chainG at h; rw [if_pos h0] at h; exact h
      rw [List.take_succ_cons]
      unfold chainG
      rw [if_pos h0]
      exact chainG_take rs r.p t i h'
    · unfold chainG at h; rw [if_neg h0] at h; exact absurd h h0
theorem chainF_take {o : PinD} {rs : List RollD} {t : Int} (h : chainF o rs t = 0) (i : Nat) : chainF o (rs.take i) t = 0 := by
  obtain ⟨h0, h1, h2⟩ := chainF_zero h
  rw [chainF_go h0 (by rw [List.length_take]; omega)]
  exact chainG_take rs o t i h2
theorem chainG_epoch : ∀ (rs : List RollD) (o : PinD) (t : Int), chainG o rs t = 0 → ∀ i, i < rs.length → (rs[i]?.getD roll0).p.e = o.e + i + 1
  | [], o, t, _, i, hi => by simp at hi
  | r :: rs, o, t, h, i, hi => by
    by_cases h0 : checkF o r t = 0
    · have h' : chainG r.p rs t = 0 := by unfold chainG at h; rw [if_pos h0] at h; exact h
      have he := (chk_zero (checkF_zero h0).2.2.2).2.1
      cases i with
      | zero => simp; omega
      | succ i =>
        have := chainG_epoch rs r.p t h' i (by simpa using hi)
        simp only [List.getElem?_cons_succ]
        rw [this, he]
        push_cast
        omega
    · unfold chainG at h; rw [if_neg h0] at h; exact absurd h h0
/-- A rollover among pins. -/
def applyC (ps : List PinD) (r : RollD) (t : Int) : Int :=
  if pinsF ps = 0 then (if r.f = 0 then (match findP ps r.p.nm with
    | none => 4
    | some q => if checkF q r t = 0 then putC ps r.p else checkF q r t) else r.f) else pinsF ps
def applyL (ps : List PinD) (r : RollD) (t : Int) : List PinD := if applyC ps r t = 0 then putR ps r.p else []
theorem applyC_list {ps : List PinD} {r : RollD} {t : Int} (h : pinsF ps ≠ 0) : applyC ps r t = pinsF ps ∧ applyL ps r t = [] := by
  have e : applyC ps r t = pinsF ps := by unfold applyC; rw [if_neg h]
  exact ⟨e, by unfold applyL; rw [e, if_neg h]⟩
theorem applyC_roll {ps : List PinD} {r : RollD} {t : Int} (h : pinsF ps = 0) (h1 : r.f ≠ 0) : applyC ps r t = r.f ∧ applyL ps r t = [] := by
  have e : applyC ps r t = r.f := by unfold applyC; rw [if_pos h, if_neg h1]
  exact ⟨e, by unfold applyL; rw [e, if_neg h1]⟩
theorem applyC_none {ps : List PinD} {r : RollD} {t : Int} (h : pinsF ps = 0) (h1 : r.f = 0) (h2 : findP ps r.p.nm = none) : applyC ps r t = 4 ∧ applyL ps r t = [] := by
  have e : applyC ps r t = 4 := by unfold applyC; rw [if_pos h, if_pos h1, h2]
  exact ⟨e, by unfold applyL; rw [e]; rfl⟩
theorem applyC_check {ps : List PinD} {r : RollD} {t : Int} {q : PinD} (h : pinsF ps = 0) (h1 : r.f = 0) (h2 : findP ps r.p.nm = some q) (h3 : checkF q r t ≠ 0) : applyC ps r t = checkF q r t ∧ applyL ps r t = [] := by
  have e : applyC ps r t = checkF q r t := by
    unfold applyC; rw [if_pos h, if_pos h1, h2]
    simp only
    rw [if_neg h3]
  exact ⟨e, by unfold applyL; rw [e, if_neg h3]⟩
theorem applyC_put {ps : List PinD} {r : RollD} {t : Int} {q : PinD} (h : pinsF ps = 0) (h1 : r.f = 0) (h2 : findP ps r.p.nm = some q) (h3 : checkF q r t = 0) : applyC ps r t = putC ps r.p ∧ applyL ps r t = putR ps r.p := by
  have e : applyC ps r t = putC ps r.p := by
    unfold applyC; rw [if_pos h, if_pos h1, h2]
    simp only
    rw [if_pos h3]
  refine ⟨e, ?_⟩
  unfold applyL
  rw [e]
  by_cases h4 : putC ps r.p = 0
  · rw [if_pos h4]
  · rw [if_neg h4]; unfold putR; rw [if_neg h4]
theorem applyC_zero {ps : List PinD} {r : RollD} {t : Int} (h : applyC ps r t = 0) : pinsF ps = 0 ∧ r.f = 0 ∧ ∃ q, findP ps r.p.nm = some q ∧ checkF q r t = 0 ∧ putC ps r.p = 0 ∧ applyL ps r t = putR ps r.p := by
  by_cases h0 : pinsF ps = 0
  · by_cases h1 : r.f = 0
    · cases h2 : findP ps r.p.nm with
      | none => rw [(applyC_none h0 h1 h2).1] at h; omega
      | some q =>
        by_cases h3 : checkF q r t = 0
        · obtain ⟨e1, e2⟩ := applyC_put h0 h1 h2 h3
          exact ⟨h0, h1, q, rfl, h3, e1 ▸ h, e2⟩
        · rw [(applyC_check h0 h1 h2 h3).1] at h; exact absurd h h3
    · rw [(applyC_roll h0 h1).1] at h; exact absurd h h1
  · rw [(applyC_list h0).1] at h; exact absurd h h0
/-- A rollover that is signed. -/
def signD (s : Int) (p : PinD) : RollD := ⟨p, M.pubN s, M.sigPt s (rsum p), M.sigPr s (rsum p)⟩
def signC (s : Int) (p : PinD) : Int := if inB s 1 1438 then p.f else 3
def signL (s : Int) (p : PinD) : RollD := if signC s p = 0 then signD s p else roll0
theorem signC_no {s : Int} {p : PinD} (h : inB s 1 1438 = false) : signC s p = 3 ∧ signL s p = roll0 := by
  have e : signC s p = 3 := by unfold signC; rw [h]; rfl
  exact ⟨e, by unfold signL; rw [e]; rfl⟩
theorem signC_pin {s : Int} {p : PinD} (h : inB s 1 1438 = true) (h1 : p.f ≠ 0) : signC s p = p.f ∧ signL s p = roll0 := by
  have e : signC s p = p.f := by unfold signC; rw [if_pos h]
  exact ⟨e, by unfold signL; rw [e, if_neg h1]⟩
theorem signC_yes {s : Int} {p : PinD} (h : inB s 1 1438 = true) (h1 : p.f = 0) : signC s p = 0 ∧ signL s p = signD s p := by
  have e : signC s p = 0 := by unfold signC; rw [if_pos h, h1]
  exact ⟨e, by unfold signL; rw [e]; rfl⟩
theorem signC_zero {s : Int} {p : PinD} (h : signC s p = 0) : inB s 1 1438 = true ∧ p.f = 0 := by
  cases h0 : inB s 1 1438
  · rw [(signC_no h0).1] at h; omega
  · by_cases h1 : p.f = 0
    · exact ⟨rfl, h1⟩
    · rw [(signC_pin h0 h1).1] at h; exact absurd h h1
theorem sign_right {s : Int} {p : PinD} (h : signC s p = 0) : (signL s p).f = 0 := by
  obtain ⟨h0, h1⟩ := signC_zero h
  rw [(signC_yes h0 h1).2]
  simp only [inB, decide_eq_true_eq] at h0
  exact rollF_make h1 (M.pub_pow h0.1 h0.2) (M.sigB_signed _ _)
end Go.Proofs.YtmdknbgpddnplaaDoor
