/- Texts of this seat that several laws rest on, laid into one. Conditions: as each theorem states. -/
import Derived.Test.YtcolecidbalmhaaGreatDoorZ1
import Derived.Test.YtcolecidbalmhaaGreatDoorZ2
import Derived.Test.YtcolecidbalmhaaGreatDoorZ4
import Derived.Test.YtcolecidbalmhaaGreatDoorZ5
import Derived.Test.YtcolecidbalmhaaGreatDoorZ7
import Derived.LaidEql
import Derived.Stop.Asserts
import Derived.RowKitTokens
import Derived.Laws.IdiomCopy
namespace Go.Proofs.YtcolecidbalmhaaGreatDoor
open Go.RowKit Go.Extern.Stop Go.Stop Go.Extern

/-- The variable errors.errorType holds the handle of the type 'error'. -/
structure ErrT (w : World) : Prop where
  cell : w.cell? ⟨2, 0, none⟩ = some (.iface 320 (.agg #[.pointer (some ⟨7, 200, none⟩)]))
theorem ErrT.on {w w' : World} (h : ErrT w) (hb : Below w.heap.size w w') : ErrT w' := ⟨cell_keep hb h.cell⟩
theorem ErrT.grew {w w' : World} {row : Option Nat} (h : ErrT w) (hg : w.grownBy w' row) (hr : ∀ k, row = some k → 2 < k) : ErrT w' :=
  ⟨hg.cell h.cell (fun e => by have := hr _ e.symm; exact absurd this (Nat.lt_irrefl _))⟩
theorem ErrT.lt {w : World} (h : ErrT w) : 2 < w.heap.size := cell_lt h.cell

/-- An error of what does not fit. -/
abbrev misV (c : Int) (s : ByteArray) : Value := .iface 249 (.agg #[.int .i64 c, .string s])
abbrev hdl (t : Nat) : Value := .pointer (some ⟨7, t, none⟩)
abbrev rval (t : Nat) (a : Addr) (f : Int) : Value := .agg #[hdl t, .pointer (some a), .int .u64 f]

end Go.Proofs.YtcolecidbalmhaaGreatDoor
namespace Go.Proofs.YtcolecidbalmhaaGreatDoor
open Go.RowKit Go.Extern.Stop Go.Stop Go.Extern

end Go.Proofs.YtcolecidbalmhaaGreatDoor
namespace Go.Proofs.YtcolecidbalmhaaGreatDoor
open Go.RowKit Go.Extern.Stop Go.Stop Go.Extern
set_option linter.unusedVariables false
set_option maxRecDepth 100000

/-- An error that wraps another. -/
abbrev refV (s : ByteArray) (e : Value) : Value := .iface 247 (.agg #[.string s, e])
def AsHit (tb : Nat) (c : Int) (w : World) (ev : Ending) (w' : World) : Prop := ev = .returned (.bool true) ∧ w'.cell? ⟨tb, 0, none⟩ = some (.int .i64 c) ∧ Below tb w w'
/-- An error that has code c: what does not fit, wrapped twice at most. -/
def ErrC (c : Int) (e : Value) : Prop := (∃ s, e = misV c s) ∨ (∃ s1 s, e = refV s1 (misV c s)) ∨ ∃ s2 s1 s, e = refV s2 (refV s1 (misV c s))
/-- One that is wrapped once at most. -/
def ErrC1 (c : Int) (e : Value) : Prop := (∃ s, e = misV c s) ∨ ∃ s1 s, e = refV s1 (misV c s)
theorem ErrC1.all {c : Int} {e : Value} (h : ErrC1 c e) : ErrC c e := h.elim (fun h => .inl h) fun h => .inr (.inl h)
theorem ErrC1.wrap {c : Int} {e : Value} (h : ErrC1 c e) (s : ByteArray) : ErrC c (refV s e) := by
  rcases h with ⟨x, rfl⟩ | ⟨y, x, rfl⟩
  · exact .inr (.inl ⟨_, _, rfl⟩)
  · exact .inr (.inr ⟨_, _, _, rfl⟩)
theorem ErrC.neq {c : Int} {e : Value} (h : ErrC c e) (w : World) : (binOp .neq 200 e .nilIface).run Tryz.prog w = .ok (.bool true) w := by
  rcases h with ⟨x, rfl⟩ | ⟨y, x, rfl⟩ | ⟨z, y, x, rfl⟩ <;> kernel_rfl
end Go.Proofs.YtcolecidbalmhaaGreatDoor
namespace Go.Proofs.YtcolecidbalmhaaGreatDoor
set_option linter.unusedVariables false

/-- A rollover: a pin, who says it, a signature. -/
structure RollD where
  p : PinD
  b : Int
  x : Int
  y : Int
def roll0 : RollD := ⟨pin0, 0, 0, 0⟩
instance : Inhabited RollD := ⟨roll0⟩
abbrev R8 (r : RollD) : Value := .agg #[.string r.p.n, .int .i64 r.p.a, .int .i64 r.p.b, .int .i64 r.p.e, .int .i64 r.p.u, .int .i64 r.b, .int .i64 r.x, .int .i64 r.y]
def RollD.vals (r : RollD) : List Value := [.string r.p.n, .int .i64 r.p.a, .int .i64 r.p.b, .int .i64 r.p.e, .int .i64 r.p.u, .int .i64 r.b, .int .i64 r.x, .int .i64 r.y]
theorem RollD.vals_length (r : RollD) : r.vals.length = 8 := rfl
/-- A code and a rollover. -/
abbrev R9 (c : Int) (r : RollD) : Value := .agg #[.int .i64 c, .string r.p.n, .int .i64 r.p.a, .int .i64 r.p.b, .int .i64 r.p.e, .int .i64 r.p.u, .int .i64 r.b, .int .i64 r.x, .int .i64 r.y]
def RL9 (c : Int) (r : RollD) : List Value := [.int .i64 c, .string r.p.n, .int .i64 r.p.a, .int .i64 r.p.b, .int .i64 r.p.e, .int .i64 r.p.u, .int .i64 r.b, .int .i64 r.x, .int .i64 r.y]
/-- The cells of rollovers. -/
def flatR (rs : List RollD) : List Value := rs.flatMap RollD.vals
theorem flatR_cons (p : RollD) (ps : List RollD) : flatR (p :: ps) = p.vals ++ flatR ps := by simp [flatR]
theorem flatR_length : ∀ ps : List RollD, (flatR ps).length = ps.length * 8
  | [] => rfl
  | p :: r => by rw [flatR_cons, List.length_append, flatR_length r, RollD.vals_length, List.length_cons]; omega
theorem flatR_get : ∀ (ps : List RollD) (j i : Nat) (v : Value), j < ps.length → (ps[j]?.getD roll0).vals[i]? = some v → (flatR ps)[j * 8 + i]? = some v
  | [], j, i, v, hj, _ => by simp at hj
  | p :: r, 0, i, v, _, h => by
    have hi : i < 8 := by have := (List.getElem?_eq_some_iff.1 h).1; simpa [RollD.vals_length] using this
    rw [flatR_cons, Nat.zero_mul, Nat.zero_add, List.getElem?_append_left (by rw [RollD.vals_length]; exact hi)]
    simpa using h
  | p :: r, j + 1, i, v, hj, h => by
    have := flatR_get r j i v (by simpa using hj) (by simpa using h)
    rw [flatR_cons, List.getElem?_append_right (by rw [RollD.vals_length]; omega), RollD.vals_length, show (j + 1) * 8 + i - 8 = j * 8 + i by omega]
    exact this

/-- What is wrong with a rollover. -/
def RollD.f (r : RollD) : Int := if r.p.f = 0 then (if pubB r.b then M.sigF r.x r.y else 3) else r.p.f
theorem rollF_pin {r : RollD} (h : r.p.f ≠ 0) : r.f = r.p.f := by unfold RollD.f; rw [if_neg h]
theorem rollF_by {r : RollD} (h : r.p.f = 0) (h1 : pubB r.b = false) : r.f = 3 := by unfold RollD.f; rw [if_pos h, h1]; rfl
theorem rollF_sig {r : RollD} (h : r.p.f = 0) (h1 : pubB r.b = true) : r.f = M.sigF r.x r.y := by unfold RollD.f; rw [if_pos h, if_pos h1]
theorem sigF_no {x y : Int} (h : M.sigB x y = false) : M.sigF x y = 3 := by simp [M.sigF, h]
theorem rollF_zero {r : RollD} (h : r.f = 0) : r.p.f = 0 ∧ pubB r.b = true ∧ M.sigB r.x r.y = true := by
  by_cases h0 : r.p.f = 0
  · cases h1 : pubB r.b
    · rw [rollF_by h0 h1] at h; omega
    · rw [rollF_sig h0 h1] at h
      cases h2 : M.sigB r.x r.y
      · rw [sigF_no h2] at h; omega
      · exact ⟨h0, rfl, rfl⟩
  · rw [rollF_pin h0] at h; exact absurd h h0
/-- What who names a pin as the next one signs. -/
def rsum (p : PinD) : Int := M.tagL M.rollS [M.sumL (packP p)]
theorem rsum_bd (p : PinD) : 0 ≤ rsum p ∧ rsum p < 65521 := M.tagL_bd _ _
theorem rsum_sum (p : PinD) : M.sumB (rsum p) = true := by
  have := rsum_bd p
  simp only [M.sumB, decide_eq_true_eq]; omega
def rsumV (p : PinD) : Int := if p.f = 0 then rsum p else 0
/-- Why a rollover may not follow a pin. -/
def chk (o : PinD) (r : RollD) (t : Int) : Int :=
  if r.p.nm = o.nm then (if r.p.e = o.e + 1 then (if r.b = o.a ∨ r.b = o.b then (if t ≤ o.u then (if M.checkB r.b (rsum r.p) r.x r.y then 0 else 9) else 11) else 10) else 11) else 1
theorem chk_name {o : PinD} {r : RollD} {t : Int} (h : r.p.nm ≠ o.nm) : chk o r t = 1 := by unfold chk; rw [if_neg h]
theorem chk_ep {o : PinD} {r : RollD} {t : Int} (h : r.p.nm = o.nm) (h1 : r.p.e ≠ o.e + 1) : chk o r t = 11 := by unfold chk; rw [if_pos h, if_neg h1]
theorem chk_by {o : PinD} {r : RollD} {t : Int} (h : r.p.nm = o.nm) (h1 : r.p.e = o.e + 1) (h2 : r.b ≠ o.a) (h3 : r.b ≠ o.b) : chk o r t = 10 := by
  unfold chk; rw [if_pos h, if_pos h1, if_neg (by rintro (h | h); exact h2 h; exact h3 h)]
theorem chk_old {o : PinD} {r : RollD} {t : Int} (h : r.p.nm = o.nm) (h1 : r.p.e = o.e + 1) (h2 : r.b = o.a ∨ r.b = o.b) (h3 : ¬ t ≤ o.u) : chk o r t = 11 := by unfold chk; rw [if_pos h, if_pos h1, if_pos h2, if_neg h3]
theorem chk_sign {o : PinD} {r : RollD} {t : Int} (h : r.p.nm = o.nm) (h1 : r.p.e = o.e + 1) (h2 : r.b = o.a ∨ r.b = o.b) (h3 : t ≤ o.u) (h4 : M.checkB r.b (rsum r.p) r.x r.y = false) : chk o r t = 9 := by unfold chk; rw [if_pos h, if_pos h1, if_pos h2, if_pos h3, h4]; rfl
theorem chk_yes {o : PinD} {r : RollD} {t : Int} (h : r.p.nm = o.nm) (h1 : r.p.e = o.e + 1) (h2 : r.b = o.a ∨ r.b = o.b) (h3 : t ≤ o.u) (h4 : M.checkB r.b (rsum r.p) r.x r.y = true) : chk o r t = 0 := by unfold chk; rw [if_pos h, if_pos h1, if_pos h2, if_pos h3, if_pos h4]
def checkF (o : PinD) (r : RollD) (t : Int) : Int := if o.f = 0 then (if r.f = 0 then (if timB t then chk o r t else 3) else r.f) else o.f
theorem checkF_old {o : PinD} {r : RollD} {t : Int} (h : o.f ≠ 0) : checkF o r t = o.f := by unfold checkF; rw [if_neg h]
theorem checkF_roll {o : PinD} {r : RollD} {t : Int} (h : o.f = 0) (h1 : r.f ≠ 0) : checkF o r t = r.f := by unfold checkF; rw [if_pos h, if_neg h1]
theorem checkF_time {o : PinD} {r : RollD} {t : Int} (h : o.f = 0) (h1 : r.f = 0) (h2 : timB t = false) : checkF o r t = 3 := by unfold checkF; rw [if_pos h, if_pos h1, h2]; rfl
theorem checkF_chk {o : PinD} {r : RollD} {t : Int} (h : o.f = 0) (h1 : r.f = 0) (h2 : timB t = true) : checkF o r t = chk o r t := by unfold checkF; rw [if_pos h, if_pos h1, if_pos h2]
/-- Chains of rollovers. -/
def chainG : PinD → List RollD → Int → Int
  | _, [], _ => 0
  | o, r :: rs, t => if checkF o r t = 0 then chainG r.p rs t else checkF o r t
def chainF (o : PinD) (rs : List RollD) (t : Int) : Int := if o.f = 0 then (if 8 < rs.length then 2 else chainG o rs t) else o.f
/-- The pin ahead of rollover k. -/
def prevP (o : PinD) (rs : List RollD) : Nat → PinD
  | 0 => o
  | k + 1 => (rs[k]?.getD roll0).p
/-- A rollover among pins. -/
def applyC (ps : List PinD) (r : RollD) (t : Int) : Int :=
  if pinsF ps = 0 then (if r.f = 0 then (match findP ps r.p.nm with
    | none => 4
    | some q => if checkF q r t = 0 then putC ps r.p else checkF q r t) else r.f) else pinsF ps
def applyL (ps : List PinD) (r : RollD) (t : Int) : List PinD := if applyC ps r t = 0 then putR ps r.p else []
theorem applyC_list {ps : List PinD} {r : RollD} {t : Int} (h : pinsF ps ≠ 0) : applyC ps r t = pinsF ps ∧ applyL ps r t = [] := by
  have e : applyC ps r t = pinsF ps := by unfold applyC; rw [if_neg h]
  exact ⟨e, by unfold applyL; rw [e, if_neg h]⟩
theorem applyC_roll {ps : List PinD} {r : RollD} {t : Int} (h : pinsF ps = 0) (h1 : r.f ≠ 0) : applyC ps r t = r.f ∧ applyL ps r t = [] := by
  have e : applyC ps r t = r.f := by unfold applyC; rw [if_pos h, if_neg h1]
  exact ⟨e, by unfold applyL; rw [e, if_neg h1]⟩
theorem applyC_none {ps : List PinD} {r : RollD} {t : Int} (h : pinsF ps = 0) (h1 : r.f = 0) (h2 : findP ps r.p.nm = none) : applyC ps r t = 4 ∧ applyL ps r t = [] := by
  have e : applyC ps r t = 4 := by unfold applyC; rw [if_pos h, if_pos h1, h2]
  exact ⟨e, by unfold applyL; rw [e]; rfl⟩
theorem applyC_check {ps : List PinD} {r : RollD} {t : Int} {q : PinD} (h : pinsF ps = 0) (h1 : r.f = 0) (h2 : findP ps r.p.nm = some q) (h3 : checkF q r t ≠ 0) : applyC ps r t = checkF q r t ∧ applyL ps r t = [] := by
  have e : applyC ps r t = checkF q r t := by
    unfold applyC; rw [if_pos h, if_pos h1, h2]
    simp only
    rw [if_neg h3]
  exact ⟨e, by unfold applyL; rw [e, if_neg h3]⟩
theorem applyC_put {ps : List PinD} {r : RollD} {t : Int} {q : PinD} (h : pinsF ps = 0) (h1 : r.f = 0) (h2 : findP ps r.p.nm = some q) (h3 : checkF q r t = 0) : applyC ps r t = putC ps r.p ∧ applyL ps r t = putR ps r.p := by
  have e : applyC ps r t = putC ps r.p := by
    unfold applyC; rw [if_pos h, if_pos h1, h2]
    simp only
    rw [if_pos h3]
  refine ⟨e, ?_⟩
  unfold applyL
  rw [e]
  by_cases h4 : putC ps r.p = 0
  · rw [if_pos h4]
  · rw [if_neg h4]; unfold putR; rw [if_neg h4]
theorem applyC_zero {ps : List PinD} {r : RollD} {t : Int} (h : applyC ps r t = 0) : pinsF ps = 0 ∧ r.f = 0 ∧ ∃ q, findP ps r.p.nm = some q ∧ checkF q r t = 0 ∧ putC ps r.p = 0 ∧ applyL ps r t = putR ps r.p := by
  by_cases h0 : pinsF ps = 0
  · by_cases h1 : r.f = 0
    · cases h2 : findP ps r.p.nm with
      | none => rw [(applyC_none h0 h1 h2).1] at h; omega
      | some q =>
        by_cases h3 : checkF q r t = 0
        · obtain ⟨e1, e2⟩ := applyC_put h0 h1 h2 h3
          exact ⟨h0, h1, q, rfl, h3, e1 ▸ h, e2⟩
        · rw [(applyC_check h0 h1 h2 h3).1] at h; exact absurd h h3
    · rw [(applyC_roll h0 h1).1] at h; exact absurd h h1
  · rw [(applyC_list h0).1] at h; exact absurd h h0
/-- A rollover that is signed. -/
def signD (s : Int) (p : PinD) : RollD := ⟨p, M.pubN s, M.sigPt s (rsum p), M.sigPr s (rsum p)⟩
def signC (s : Int) (p : PinD) : Int := if inB s 1 1438 then p.f else 3
def signL (s : Int) (p : PinD) : RollD := if signC s p = 0 then signD s p else roll0
end Go.Proofs.YtcolecidbalmhaaGreatDoor
namespace Go.Proofs.YtcolecidbalmhaaGreatDoor
open Go.RowKit
set_option maxRecDepth 100000
set_option linter.unusedVariables false

theorem At.newN {w : World} (cs : List Value) (t : TypeId) {n : Nat} (h : w.heap.size = n) : At n cs (w.alloc (.cells cs.toArray t)) := h ▸ At.new w cs t
/-- A slice of rollovers that is read: 'ps' are its elements; it lies below block B. -/
structure RRow (w : World) (B : Nat) (a : Option Addr) (len cap : Nat) (ps : List RollD) : Prop where
  length : ps.length = len
  fits : len ≤ cap
  most : cap ≤ maxLen
  names : ∀ p ∈ ps, p.p.n.size ≤ maxLen
  cells : 0 < len → ∃ b off, a = some ⟨b, off, none⟩ ∧ b < B ∧ ∀ j, j < len → ∀ i v, (ps[j]?.getD roll0).vals[i]? = some v → w.cell? ⟨b, off + j * 8 + i, none⟩ = some v
section
variable {w w' : World} {B B' : Nat} {a : Option Addr} {len cap : Nat} {ps : List RollD}
theorem RRow.keep (h : RRow w B a len cap ps) (hk : ∀ i, i < B → w'.heap[i]? = w.heap[i]?) : RRow w' B a len cap ps :=
  ⟨h.length, h.fits, h.most, h.names, fun hp => by
    obtain ⟨b, off, e, hb, hc⟩ := h.cells hp
    exact ⟨b, off, e, hb, fun j hj i v hv => (World.cell?_of_block (w := w) (hk b hb)).trans (hc j hj i v hv)⟩⟩
theorem RRow.below (h : RRow w B a len cap ps) (hb : Below B w w') : RRow w' B a len cap ps := h.keep hb.block
theorem RRow.more (h : RRow w B a len cap ps) (hB : B ≤ B') : RRow w B' a len cap ps :=
  ⟨h.length, h.fits, h.most, h.names, fun hp => by
    obtain ⟨b, off, e, hb, hc⟩ := h.cells hp
    exact ⟨b, off, e, by omega, hc⟩⟩
theorem RRow.on (h : RRow w w.heap.size a len cap ps) (hb : Below w.heap.size w w') : RRow w' w'.heap.size a len cap ps := (h.below hb).more hb.size
theorem RRow.alloc (h : RRow w B a len cap ps) (hB : B ≤ w.heap.size) (o : Obj) : RRow (w.alloc o) B a len cap ps := h.below ((Below.refl B w).alloc hB o)
theorem RRow.nil (w : World) (B : Nat) : RRow w B none 0 0 [] := ⟨rfl, Nat.le_refl _, Nat.zero_le _, by simp, fun h => absurd h (by omega)⟩
/-- Element k's eight cells. -/
theorem RRow.at' (h : RRow w B a len cap ps) {k : Nat} (hk : k < len) : ∃ b off, a = some ⟨b, off, none⟩ ∧ b < B ∧
    w.cell? ⟨b, off + k * 8, none⟩ = some (.string (ps[k]?.getD roll0).p.n) ∧ w.cell? ⟨b, off + k * 8 + 1, none⟩ = some (.int .i64 (ps[k]?.getD roll0).p.a) ∧ w.cell? ⟨b, off + k * 8 + 2, none⟩ = some (.int .i64 (ps[k]?.getD roll0).p.b) ∧
    w.cell? ⟨b, off + k * 8 + 3, none⟩ = some (.int .i64 (ps[k]?.getD roll0).p.e) ∧ w.cell? ⟨b, off + k * 8 + 4, none⟩ = some (.int .i64 (ps[k]?.getD roll0).p.u) ∧
    w.cell? ⟨b, off + k * 8 + 5, none⟩ = some (.int .i64 (ps[k]?.getD roll0).b) ∧ w.cell? ⟨b, off + k * 8 + 6, none⟩ = some (.int .i64 (ps[k]?.getD roll0).x) ∧ w.cell? ⟨b, off + k * 8 + 7, none⟩ = some (.int .i64 (ps[k]?.getD roll0).y) := by
  obtain ⟨b, off, e, hb, hc⟩ := h.cells (by omega)
  exact ⟨b, off, e, hb, hc k hk 0 _ rfl, hc k hk 1 _ rfl, hc k hk 2 _ rfl, hc k hk 3 _ rfl, hc k hk 4 _ rfl, hc k hk 5 _ rfl, hc k hk 6 _ rfl, hc k hk 7 _ rfl⟩
theorem RRow.mem (h : RRow w B a len cap ps) {k : Nat} (hk : k < len) : (ps[k]?.getD roll0) ∈ ps := by
  have := h.length
  rw [List.getElem?_eq_getElem (by omega)]
  exact List.getElem_mem _
theorem RRow.name (h : RRow w B a len cap ps) {k : Nat} (hk : k < len) : (ps[k]?.getD roll0).p.n.size ≤ maxLen := h.names _ (h.mem hk)
/-- A beginning of it. -/
theorem RRow.take (h : RRow w B a len cap ps) {k : Nat} (hk : k ≤ len) : RRow w B a k cap (ps.take k) := by
  have hl := h.length
  refine ⟨by rw [List.length_take]; omega, Nat.le_trans hk h.fits, h.most, fun p hp => h.names p (List.mem_of_mem_take hp), fun hp => ?_⟩
  obtain ⟨b, off, e, hb, hc⟩ := h.cells (by omega)
  refine ⟨b, off, e, hb, fun j hj i v hv => hc j (by omega) i v ?_⟩
  rw [List.getElem?_take_of_lt hj] at hv
  exact hv
end

/-- A slice of rollovers of the call's own. -/
def OwnR (w : World) (B : Nat) (v : Value) (ps : List RollD) : Prop := Own w B 8 v ps.length (flatR ps)
section
variable {w w' : World} {B : Nat} {v : Value} {ps : List RollD}
theorem OwnR.row {a : Option Addr} {len cap : Nat} (h : OwnR w B (.slice a len cap) ps) (hs : ∀ p ∈ ps, p.p.n.size ≤ maxLen) : RRow w w.heap.size a len cap ps := by
  rcases h.2 with ⟨e, h0⟩ | ⟨g, c, e, hb, hg, h1, h2, hc, _⟩
  · injection e with e1 e2 e3
    subst e1; subst e2; subst e3
    obtain rfl : ps = [] := List.eq_nil_of_length_eq_zero h0
    exact RRow.nil _ _
  · injection e with e1 e2 e3
    subst e1; subst e2; subst e3
    exact ⟨rfl, h1, h2, hs, fun hp => ⟨g, 0, rfl, hg, fun j hj i v hv => by
      rw [Nat.zero_add]
      exact hc _ v (flatR_get ps j i v hj hv)⟩⟩
theorem OwnR.nil (w : World) (B : Nat) : OwnR w B (.slice none 0 0) [] := Own.nil w B 8
theorem OwnR.alloc (h : OwnR w B v ps) (o : Obj) : OwnR (w.alloc o) B v ps := Own.alloc h o
theorem OwnR.below (h : OwnR w B v ps) (hb : Below w.heap.size w w') : OwnR w' B v ps := Own.below h hb
theorem OwnR.form (h : OwnR w B v ps) : ∃ a cap, v = .slice a ps.length cap ∧ ps.length ≤ cap ∧ cap ≤ maxLen ∧ (a = none → ps.length = 0 ∧ cap = 0) := Own.form h
theorem OwnR.less {B' : Nat} (h : OwnR w B v ps) (hB : B' ≤ B) : OwnR w B' v ps := Own.less h hB
end
/-- Cells that have been laid so far into a new block, in their order. -/
structure FillC (w : World) (n : Nat) (cs : List Value) (m : Nat) (wr : World) : Prop where
  told : ∀ j, j < m → ∀ v, cs[j]? = some v → wr.cell? ⟨w.heap.size, j, none⟩ = some v
  room : ∀ j, j < n → (∃ u, wr.cell? ⟨w.heap.size, j, none⟩ = some u) ∧ wr.frozen? ⟨w.heap.size, j, none⟩ = false
  lt : w.heap.size < wr.heap.size
  bel : Below w.heap.size w wr
theorem FillC.new (w : World) (n : Nat) (ps : List Value) (cs : Array Value) (t : TypeId) (hs : cs.size = n) : FillC w n ps 0 (w.alloc (.cells cs t)) := by
  have e1 : (w.alloc (.cells cs t)).heap[w.heap.size]? = some (.cells cs t) := (MapKept.heap_alloc w _).1
  refine ⟨fun j hj => absurd hj (by omega), fun j hj => ?_, by simp, bal (Below.refl _ _) _⟩
  unfold World.cell? World.frozen?
  rw [e1]
  exact ⟨⟨cs[j], by simp [show j < cs.size by omega]⟩, by simp⟩
theorem FillC.on {w wr wr' : World} {n : Nat} {ps : List Value} {k : Nat} (h : FillC w n ps k wr) (hb : Below wr.heap.size wr wr') : FillC w n ps k wr' := by
  have e := hb.block w.heap.size h.lt
  refine ⟨fun j hj v hv => cell_keep hb (h.told j hj v hv), fun j hj => ?_, Nat.lt_of_lt_of_le h.lt hb.size, btr h.bel hb⟩
  rw [World.cell?_of_block (w := wr) (a := ⟨w.heap.size, j, none⟩) e, World.frozen?_of_block (w := wr) (a := ⟨w.heap.size, j, none⟩) e]
  exact h.room j hj
theorem FillC.one {w wr : World} {n : Nat} {cs : List Value} {m : Nat} {v : Value} (h : FillC w n cs m wr) (hm : m < n) (hv : cs[m]? = some v) : FillC w n cs (m + 1) (wr.setCell ⟨w.heap.size, m, none⟩ v) := by
  refine ⟨fun i hi u hu => ?_, fun i hi => ?_, by simpa [World.setCell] using h.lt, bset h.bel (Nat.le_refl _) v⟩
  · by_cases e : i = m
    · subst e
      rw [hv] at hu
      injection hu with hu
      subst hu
      obtain ⟨u0, hu0⟩ := (h.room i hm).1
      exact World.cell?_setCell_same _ _ _ (by rw [hu0])
    · rw [World.cell?_setCell_other _ _ _ _ (fun e => by injection e with _ e2; omega)]
      exact h.told i (by omega) u hu
  · obtain ⟨⟨u, hu⟩, hf⟩ := h.room i hi
    exact ⟨cell?_setCell_some (w := wr) (p := ⟨w.heap.size, m, none⟩) (x := v) (q := ⟨w.heap.size, i, none⟩) (v := u) hu, by rw [World.frozen?_setCell]; exact hf⟩
theorem FillC.own {w wr : World} {n : Nat} {ps : List RollD} (h : FillC w (n * 8) (flatR ps) (n * 8) wr) (hl : ps.length = n) (hm : n ≤ maxLen) : OwnR wr w.heap.size (.slice (some ⟨w.heap.size, 0, none⟩) n n) ps := by
  subst hl
  refine ⟨flatR_length ps, .inr ⟨w.heap.size, _, rfl, Nat.le_refl _, h.lt, Nat.le_refl _, hm, fun j u hu => ?_, fun j hj => ?_⟩⟩
  · have hj := (List.getElem?_eq_some_iff.1 hu).1
    rw [flatR_length] at hj
    exact h.told j hj u hu
  · obtain ⟨⟨u, hu⟩, hf⟩ := h.room j hj
    exact ⟨by rw [hu]; rfl, hf⟩
end Go.Proofs.YtcolecidbalmhaaGreatDoor
namespace Go.Proofs.YtcolecidbalmhaaGreatDoor
open Go.RowKit
set_option maxRecDepth 100000

/-! Whole numbers below 2879 as floats, and back. -/
def floatBackB (n : Nat) : Bool := floatToIntVal .f64 (floatOfInt .f64 (n : Int)) .i64 == some (n : Int)
/-- The two numbers as one complex one. -/
def pairV (p q : Int) : Value := .complex .f64 (floatOfInt .f64 p) (floatOfInt .f64 q)

/-- An error of what does not fit was answered. -/
def Misfit (w : World) (r : Ending) (w' : World) : Prop := ∃ s, r = .returned (misV 3 s) ∧ Below w.heap.size w w'
def PairNo (w : World) (r : Ending) (w' : World) : Prop := ∃ s v, r = .returned (.tuple #[v, misV 3 s]) ∧ Below w.heap.size w w'
theorem l3Nonce_any (s t : Int) (w : World) (hs : M.sumB s = true) (ht : M.sumB t = true) :
    Calls Tryz.prog 238 #[.int .i64 s, .int .i64 t] w fun r w' => r = .returned (.int .i64 (M.nonceN s t)) ∧ Below w.heap.size w w' := by
  have hR := row_two (w := w) s t 2 hs ht
  have HA := Lib.hid (show [s, t].all M.sumB = true by simp [hs, ht])
  obtain ⟨t0, t1⟩ := M.tagL_bd M.nonceS [s, t]
  unfold M.nonceN
  clear hs ht
  go_enter Tryz.func238, Tryz.ntmps238
  go_wp2_with fail
  refine (l2Tag_any M.nonceS _ _ _ _ _ _ (by decide) hR (by simp) HA.out (by omega)).mono ?_
  rintro r w2 ⟨rfl, hb2⟩
  have hb := btr (bal (Below.refl _ _) _) hb2
  clear hb2 hR HA
  go_wp2_with fail
  go_ret
  exact ⟨rfl, hb⟩
theorem l3Challenge_any (p q t : Int) (w : World) (hp : M.sumB p = true) (hq : M.sumB q = true) (ht : M.sumB t = true) :
    Calls Tryz.prog 239 #[.int .i64 p, .int .i64 q, .int .i64 t] w fun r w' => r = .returned (.int .i64 (M.chalN p q t)) ∧ Below w.heap.size w w' := by
  have hR := row_three (w := w) p q t 2 hp hq ht
  have HA := Lib.hid (show [p, q, t].all M.sumB = true by simp [hp, hq, ht])
  obtain ⟨t0, t1⟩ := M.tagL_bd M.signS [p, q, t]
  unfold M.chalN
  clear hp hq ht
  go_enter Tryz.func239, Tryz.ntmps239
  go_wp2_with fail
  refine (l2Tag_any M.signS _ _ _ _ _ _ (by decide) hR (by simp) HA.out (by omega)).mono ?_
  rintro r w2 ⟨rfl, hb2⟩
  have hb := btr (bal (Below.refl _ _) _) hb2
  clear hb2 hR HA
  go_wp2_with fail
  go_ret
  exact ⟨rfl, hb⟩

theorem l3Fault_at (g o : Nat) (p q : Int) (w : World) (c0 : w.cell? ⟨g, o, none⟩ = some (.int .i64 p)) (c1 : w.cell? ⟨g, o + 1, none⟩ = some (.int .i64 q)) :
    Calls Tryz.prog 206 #[.pointer (some ⟨g, o, none⟩)] w fun r w' => r = .returned (.int .i64 (M.sigF p q)) ∧ w = w' := by
  cases hp : pubB p
  · have E : M.sigF p q = 3 := by simp [M.sigF, M.sigB, hp]
    rw [E]; clear E
    go_enter Tryz.func206, Tryz.ntmps206
    go_wp2_with fail
    refine (l1Public_any _ _).mono ?_
    rintro r w' ⟨rfl, rfl⟩
    go_wp2_with fail
    go_ret
    simp
  cases hq : inB q 0 1438
  · have E : M.sigF p q = 3 := by simp [M.sigF, M.sigB, hq]
    rw [E]; clear E
    go_enter Tryz.func206, Tryz.ntmps206
    go_wp2_with fail
    refine (l1Public_any _ _).mono ?_
    rintro r w' ⟨rfl, rfl⟩
    go_wp2_with fail
    refine (l1In_any _ _ _ _).mono ?_
    rintro r w' ⟨rfl, rfl⟩
    go_wp2_with fail
    go_ret
    simp
  · have E : M.sigF p q = 0 := by simp [M.sigF, M.sigB, hp, hq]
    rw [E]; clear E
    go_enter Tryz.func206, Tryz.ntmps206
    go_wp2_with fail
    refine (l1Public_any _ _).mono ?_
    rintro r w' ⟨rfl, rfl⟩
    go_wp2_with fail
    refine (l1In_any _ _ _ _).mono ?_
    rintro r w' ⟨rfl, rfl⟩
    go_wp2_with fail
    go_ret
    simp
end Go.Proofs.YtcolecidbalmhaaGreatDoor
namespace Go.Proofs.YtcolecidbalmhaaGreatDoor
open Go.RowKit
set_option maxRecDepth 100000

end Go.Proofs.YtcolecidbalmhaaGreatDoor
namespace Go.Proofs.YtcolecidbalmhaaGreatDoor
open Go.RowKit
set_option maxRecDepth 100000

theorem kf0 (a b : Int) (w : World) : Sem.run Tryz.prog (Instr.field 242 (.agg #[.int .i64 a, .int .i64 b]) 0) w = .ok (.int .i64 a) w := by kernel_rfl
theorem kf1 (a b : Int) (w : World) : Sem.run Tryz.prog (Instr.field 242 (.agg #[.int .i64 a, .int .i64 b]) 1) w = .ok (.int .i64 b) w := by kernel_rfl

theorem l3Sign_any (s t : Int) (w : World) (hs : inB s 1 1438 = true) (ht : M.sumB t = true) :
    Calls Tryz.prog 199 #[.int .i64 s, .int .i64 t] w fun r w' => r = .returned (I2 (M.sigPt s t) (M.sigPr s t)) ∧ Below w.heap.size w w' := by
  have hs' := hs
  simp only [inB, decide_eq_true_eq] at hs'
  obtain ⟨s0, s1⟩ := hs'
  have hS := M.sum_of_sec hs
  have e1 : M.sigPt s t = M.pw 4 (M.nonceN s t).toNat 2879 := rfl
  have e2 : M.sigPr s t = (M.nonceN s t + M.chalN (M.pw 4 s.toNat 2879) (M.pw 4 (M.nonceN s t).toNat 2879) t * s) % 1439 := rfl
  rw [e1, e2]
  clear e1 e2
  obtain ⟨n0, n1⟩ := M.nonceN_bd s t
  obtain ⟨c0, c1⟩ := M.chalN_bd (M.pw 4 s.toNat 2879) (M.pw 4 (M.nonceN s t).toNat 2879) t
  obtain ⟨m0, m1⟩ := M.mul_bd (M := 1439) c0 (by omega) (show 0 ≤ s by omega) (by omega) (by omega)
  have hp1 := M.pow_sum (a := 4) s.toNat
  have hp2 := M.pow_sum (a := 4) (M.nonceN s t).toNat
  have K1 := fun w => l1Key_any s w (by omega) (by omega)
  have K2 := fun w => l1Key_any (M.nonceN s t) w (by omega) (by omega)
  generalize M.pw 4 s.toNat 2879 = U at *
  generalize M.pw 4 (M.nonceN s t).toNat 2879 = P at *
  have g0 := kf0
  have g1 := kf1
  have N1 := fun w => l3Nonce_any s t w hS ht
  generalize M.nonceN s t = n at *
  go_enter Tryz.func199, Tryz.ntmps199
  go_wp2_with fail
  refine (N1 _).mono ?_
  rintro r w1 ⟨rfl, h1⟩
  go_wp2_with fail
  refine (K2 _).mono ?_
  rintro r w2 ⟨rfl, h2⟩
  have k0 : (w2.alloc (.cells #[.int .i64 n, .int .i64 P] 242)).drew.cell? ⟨w2.heap.size, 0, none⟩ = some (.int .i64 n) := by go_simp
  have k1 : (w2.alloc (.cells #[.int .i64 n, .int .i64 P] 242)).drew.cell? ⟨w2.heap.size, 1, none⟩ = some (.int .i64 P) := by go_simp
  have hbel := (bal (btr h1 h2) (.cells #[.int .i64 n, .int .i64 P] 242)).drew
  have hR0 := Res2.new w 38
  have hb0 := bal (Below.refl _ w) (.cells #[.int .i64 0, .int .i64 0] 38)
  clear h1 h2
  go_wp2_with fail
  generalize w2.alloc (.cells #[.int .i64 n, .int .i64 P] 242) = v2 at *
  generalize w.alloc (.cells #[.int .i64 0, .int .i64 0] 38) = W0 at *
  go_region_held3 (fun w' => w'.cell? ⟨w2.heap.size, 1, none⟩ = some (.int .i64 P)) (first | exact k1) (first | (go_at_call 198; refine (K1 _).mono ?_; rintro r wn ⟨rfl, hbn⟩; have pk := cell_keep hbn k0; clear k0; have k0 := pk; clear pk; have pk := cell_keep hbn k1; clear k1; have k1 := pk; clear pk; have bk := btr hbel hbn; clear hbel; have hbel := bk; clear bk hbn) | (go_at_call 239; refine (l3Challenge_any _ _ _ _ hp1 hp2 ht).mono ?_; rintro r wn ⟨rfl, hbn⟩; have pk := cell_keep hbn k0; clear k0; have k0 := pk; clear pk; have pk := cell_keep hbn k1; clear k1; have k1 := pk; clear pk; have bk := btr hbel hbn; clear hbel; have hbel := bk; clear bk hbn))
  all_goals
    obtain ⟨q0, q1, z0, z1⟩ := hR0.on hbel
    go_wp2_with fail
    exact bodyPost_ret (v := I2 P ((n + M.chalN U P t * s) % 1439)) (by simp [results, Tryz.results199, go_sem, q0, q1]) rfl ⟨rfl, bset (bset (btr hb0 hbel) (Nat.le_refl _) _) (Nat.le_refl _) _⟩

theorem checkB_yes {u t p q : Int} (hu : pubB u = true) (ht : M.sumB t = true) (hg : M.sigB p q = true) : M.checkB u t p q = (M.pw 4 q.toNat 2879 == p * M.pw u (M.chalN u p t).toNat 2879 % 2879) := by
  simp only [M.checkB, hu, ht, hg, Bool.and_self, Bool.true_and]

theorem l3Check_at (u t : Int) (g o : Nat) (p q : Int) (w : World) (d0 : w.cell? ⟨g, o, none⟩ = some (.int .i64 p)) (d1 : w.cell? ⟨g, o + 1, none⟩ = some (.int .i64 q)) :
    Calls Tryz.prog 247 #[.int .i64 u, .int .i64 t, .pointer (some ⟨g, o, none⟩)] w fun r w' => r = .returned (.bool (M.checkB u t p q)) ∧ Below w.heap.size w w' := by
  cases hu : pubB u
  · have E : M.checkB u t p q = false := by simp [M.checkB, hu]
    rw [E]; clear E
    go_enter Tryz.func247, Tryz.ntmps247
    go_wp2_with fail
    refine (l1Public_any _ _).mono ?_
    rintro r w' ⟨rfl, rfl⟩
    go_wp2_with fail
    go_ret
    exact ⟨rfl, Below.refl _ _⟩
  cases ht : M.sumB t
  · have E : M.checkB u t p q = false := by simp [M.checkB, ht]
    rw [E]; clear E
    go_enter Tryz.func247, Tryz.ntmps247
    go_wp2_with fail
    refine (l1Public_any _ _).mono ?_
    rintro r w' ⟨rfl, rfl⟩
    go_wp2_with fail
    refine (l2Is_any _ _).mono ?_
    rintro r w' ⟨rfl, rfl⟩
    go_wp2_with fail
    go_ret
    exact ⟨rfl, Below.refl _ _⟩
  cases hg : M.sigB p q
  · have E : M.checkB u t p q = false := by simp [M.checkB, hg]
    have F : M.sigF p q = 3 := by simp [M.sigF, hg]
    rw [E]; clear E
    have F1 := l3Fault_at g o p q w d0 d1
    rw [F] at F1
    go_enter Tryz.func247, Tryz.ntmps247
    go_wp2_with fail
    refine (l1Public_any _ _).mono ?_
    rintro r w' ⟨rfl, rfl⟩
    go_wp2_with fail
    refine (l2Is_any _ _).mono ?_
    rintro r w' ⟨rfl, rfl⟩
    go_wp2_with fail
    refine (F1).mono ?_
    rintro r w' ⟨rfl, rfl⟩
    go_wp2_with fail
    go_ret
    exact ⟨rfl, Below.refl _ _⟩
  rw [checkB_yes hu ht hg]
  have F : M.sigF p q = 0 := by simp [M.sigF, hg]
  have F1 := l3Fault_at g o p q w d0 d1
  rw [F] at F1
  clear F
  obtain ⟨p0, p1, q0, q1⟩ := M.sigB_bd hg
  obtain ⟨u0, u1⟩ := pubB_bd hu
  have hp : pubB p = true := by simp only [M.sigB, Bool.and_eq_true] at hg; exact hg.1
  have C1 := fun w => l3Challenge_any u p t w (M.sum_of_pub hu) (M.sum_of_pub hp) ht
  obtain ⟨c0, c1⟩ := M.chalN_bd u p t
  generalize M.chalN u p t = e at *
  have A1 := fun w => l1Raise_int 4 q w (by omega) (by omega) (by omega) (by omega)
  have A2 := fun w => l1Raise_int u e w (by omega) (by omega) (by omega) (by omega)
  obtain ⟨x0, x1⟩ := M.pw_bd u e.toNat (m := 2879) (by omega)
  obtain ⟨m0, m1⟩ := M.mul_bd (M := 2879) (show 0 ≤ p by omega) (by omega) x0 x1 (by omega)
  generalize M.pw 4 q.toNat 2879 = X at *
  generalize M.pw u e.toNat 2879 = Y at *
  have EW := Lib.hid (show IntKind.i64.wrap (p * Y) = p * Y ∧ (p * Y).tmod 2879 = p * Y % 2879 from ⟨by rw [IntKind.wrap_i64]; omega, Int.tmod_eq_emod_of_nonneg m0⟩)
  go_enter Tryz.func247, Tryz.ntmps247
  go_wp2_with fail
  refine (l1Public_any _ _).mono ?_
  rintro r w' ⟨rfl, rfl⟩
  go_wp2_with fail
  refine (l2Is_any _ _).mono ?_
  rintro r w' ⟨rfl, rfl⟩
  go_wp2_with fail
  refine (F1).mono ?_
  rintro r w' ⟨rfl, rfl⟩
  go_wp2_with fail
  refine (C1 _).mono ?_
  rintro r w1 ⟨rfl, h1⟩
  have k0 : w1.drew.cell? ⟨g, o, none⟩ = some (.int .i64 p) := cell_keep h1 d0
  have k1 : w1.drew.cell? ⟨g, o + 1, none⟩ = some (.int .i64 q) := cell_keep h1 d1
  have hbel : Below w.heap.size w w1.drew := h1.drew
  clear h1 d0 d1 F1
  go_wp2_with fail
  go_region_held3 (fun w' => w'.cell? ⟨g, o, none⟩ = some (.int .i64 p) ∧ w'.cell? ⟨g, o + 1, none⟩ = some (.int .i64 q)) (first | exact ⟨k0, k1⟩) (first | (go_at_call 216; refine (A1 _).mono ?_; rintro r wn ⟨rfl, rfl⟩) | (go_at_call 216; refine (A2 _).mono ?_; rintro r wn ⟨rfl, rfl⟩))
  all_goals
    go_wp2_with fail
    go_ret
    exact ⟨by show Ending.returned (Value.bool (X == (IntKind.i64.wrap (p * Y)).tmod 2879)) = _; rw [EW.out.1, EW.out.2], hbel⟩
end Go.Proofs.YtcolecidbalmhaaGreatDoor
