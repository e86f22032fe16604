/- Plain facts on supplied keys in lists, on whom to believe. No condition. -/
import Derived.Test.YtcolecidbalmhaaDoorMath5c
import Derived.Test.YtcolecidbalmhaaDoorMath7
namespace Go.Proofs.YtcolecidbalmhaaDoor
open Go.RowKit
set_option linter.unusedVariables false

/-- A supplied key. -/
structure TlsaD where
  n : ByteArray
  u : Int
  m : Int
  v : Int
def TlsaD.nm (p : TlsaD) : List UInt8 := p.n.data.toList
def TlsaD.f (p : TlsaD) : Int := M.tlsaF p.nm p.u p.m p.v
def tls0 : TlsaD := ⟨{ data := #[] }, 0, 0, 0⟩
instance : Inhabited TlsaD := ⟨tls0⟩
abbrev TV (p : TlsaD) : Value := .agg #[.string p.n, .int .i64 p.u, .int .i64 p.m, .int .i64 p.v]
def TlsaD.vals (p : TlsaD) : List Value := [.string p.n, .int .i64 p.u, .int .i64 p.m, .int .i64 p.v]
theorem TlsaD.vals_length (p : TlsaD) : p.vals.length = 4 := rfl
def flatT (ps : List TlsaD) : List Value := ps.flatMap TlsaD.vals
theorem flatT_nil : flatT [] = [] := rfl
theorem flatT_cons (p : TlsaD) (ps : List TlsaD) : flatT (p :: ps) = p.vals ++ flatT ps := by simp [flatT]
theorem flatT_append (ps qs : List TlsaD) : flatT (ps ++ qs) = flatT ps ++ flatT qs := by simp [flatT]
theorem flatT_length : ∀ ps : List TlsaD, (flatT ps).length = ps.length * 4
  | [] => rfl
  | p :: r => by rw [flatT_cons, List.length_append, flatT_length r, TlsaD.vals_length, List.length_cons]; omega
theorem flatT_get : ∀ (ps : List TlsaD) (j i : Nat) (v : Value), j < ps.length → (ps[j]?.getD tls0).vals[i]? = some v → (flatT ps)[j * 4 + i]? = some v
  | [], j, i, v, hj, _ => by simp at hj
  | p :: r, 0, i, v, _, h => by
    have hi : i < 4 := by have := (List.getElem?_eq_some_iff.1 h).1; simpa [TlsaD.vals_length] using this
    rw [flatT_cons, Nat.zero_mul, Nat.zero_add, List.getElem?_append_left (by rw [TlsaD.vals_length]; exact hi)]
    simpa using h
  | p :: r, j + 1, i, v, hj, h => by
    have := flatT_get r j i v (by simpa using hj) (by simpa using h)
    rw [flatT_cons, List.getElem?_append_right (by rw [TlsaD.vals_length]; omega), TlsaD.vals_length, show (j + 1) * 4 + i - 4 = j * 4 + i by omega]
    exact this
theorem flatT_set : ∀ (ps : List TlsaD) (j : Nat) (p : TlsaD), j < ps.length → flatT (ps.set j p) = (((((flatT ps).set (j * 4) (.string p.n)).set (j * 4 + 1) (.int .i64 p.u)).set (j * 4 + 2) (.int .i64 p.m)).set (j * 4 + 3) (.int .i64 p.v))
  | [], j, p, hj => by simp at hj
  | q :: r, 0, p, _ => by simp [flatT_cons, TlsaD.vals]
  | q :: r, j + 1, p, hj => by
    rw [List.set_cons_succ, flatT_cons, flatT_set r j p (by simpa using hj), flatT_cons]
    simp only [TlsaD.vals, List.cons_append, List.nil_append, show (j + 1) * 4 = j * 4 + 1 + 1 + 1 + 1 by omega, show j * 4 + 1 + 1 + 1 + 1 + 1 = (j * 4 + 1) + 1 + 1 + 1 + 1 by omega, show j * 4 + 1 + 1 + 1 + 1 + 2 = (j * 4 + 2) + 1 + 1 + 1 + 1 by omega, show j * 4 + 1 + 1 + 1 + 1 + 3 = (j * 4 + 3) + 1 + 1 + 1 + 1 by omega, List.set_cons_succ]

/-- Whether a supplied key says something of a name. -/
def useT (l : List UInt8) (t : TlsaD) : Bool := decide (t.f = 0) && (decide (t.u = 3) && decide (t.nm = l))
def usable (l : List UInt8) (ts : List TlsaD) : List TlsaD := ts.filter (useT l)
theorem usable_mem {l : List UInt8} {ts : List TlsaD} {t : TlsaD} (h : t ∈ usable l ts) : t ∈ ts ∧ t.f = 0 ∧ t.u = 3 ∧ t.nm = l := by
  obtain ⟨h1, h2⟩ := List.mem_filter.1 h
  simp only [useT, Bool.and_eq_true, decide_eq_true_eq] at h2
  exact ⟨h1, h2.1, h2.2.1, h2.2.2⟩
theorem usable_le (l : List UInt8) (ts : List TlsaD) : (usable l ts).length ≤ ts.length := List.length_filter_le _ _
/-- What has been taken of the first k. -/
theorem usable_next {l : List UInt8} {ts : List TlsaD} {k : Nat} (hk : k < ts.length) : usable l (ts.take (k + 1)) = usable l (ts.take k) ++ (if useT l (ts[k]?.getD tls0) then [ts[k]?.getD tls0] else []) := by
  unfold usable
  rw [List.take_succ_eq_append_getElem hk, List.filter_append, List.getElem?_eq_getElem hk]
  congr 1
  cases h : useT l ts[k] <;> simp [h]
def usableC (ts : List TlsaD) (l : List UInt8) : Int := if 8 < ts.length then 2 else M.nameF l
def usableR (ts : List TlsaD) (l : List UInt8) : List TlsaD := if usableC ts l = 0 then usable (M.nrm l) ts else []
theorem usableC_many {ts : List TlsaD} {l : List UInt8} (h : 8 < ts.length) : usableC ts l = 2 := by unfold usableC; rw [if_pos h]
theorem usableC_name {ts : List TlsaD} {l : List UInt8} (h : ¬ 8 < ts.length) : usableC ts l = M.nameF l := by unfold usableC; rw [if_neg h]
theorem usableR_no {ts : List TlsaD} {l : List UInt8} (h : usableC ts l ≠ 0) : usableR ts l = [] := by unfold usableR; rw [if_neg h]
theorem usableR_yes {ts : List TlsaD} {l : List UInt8} (h : usableC ts l = 0) : usableR ts l = usable (M.nrm l) ts := by unfold usableR; rw [if_pos h]
theorem usableC_zero {ts : List TlsaD} {l : List UInt8} (h : usableC ts l = 0) : ts.length ≤ 8 ∧ M.nameF l = 0 := by
  by_cases h1 : 8 < ts.length
  · rw [usableC_many h1] at h; cases h
  · rw [usableC_name h1] at h; exact ⟨by omega, h⟩
theorem usableR_mem {ts : List TlsaD} {l : List UInt8} {t : TlsaD} (h : t ∈ usableR ts l) : t ∈ ts := by
  unfold usableR at h
  split at h
  · exact (usable_mem h).1
  · cases h
theorem usableR_len {ts : List TlsaD} {l : List UInt8} : (usableR ts l).length ≤ 8 := by
  unfold usableR
  split
  · rename_i h
    have := (usableC_zero h).1
    have := usable_le (M.nrm l) ts
    omega
  · simp
/-- An asking. -/
structure AskD where
  first : Bool
  ps : List PinD
  ts : List TlsaD
  n : ByteArray
  p : Int
  t : Int
def AskD.nm (a : AskD) : List UInt8 := a.n.data.toList
def askF (a : AskD) : Int := if pinsF a.ps = 0 then (if 8 < a.ts.length then 2 else if M.nameF a.nm = 0 then (if pubB a.p && timB a.t then 0 else 3) else M.nameF a.nm) else pinsF a.ps
theorem askF_pins {a : AskD} (h : pinsF a.ps ≠ 0) : askF a = pinsF a.ps := by unfold askF; rw [if_neg h]
theorem askF_many {a : AskD} (h : pinsF a.ps = 0) (h1 : 8 < a.ts.length) : askF a = 2 := by unfold askF; rw [if_pos h, if_pos h1]
theorem askF_name {a : AskD} (h : pinsF a.ps = 0) (h1 : ¬ 8 < a.ts.length) (h2 : M.nameF a.nm ≠ 0) : askF a = M.nameF a.nm := by unfold askF; rw [if_pos h, if_neg h1, if_neg h2]
theorem askF_range {a : AskD} (h : pinsF a.ps = 0) (h1 : ¬ 8 < a.ts.length) (h2 : M.nameF a.nm = 0) (h3 : (pubB a.p && timB a.t) = false) : askF a = 3 := by unfold askF; rw [if_pos h, if_neg h1, if_pos h2, h3]; rfl
theorem askF_yes {a : AskD} (h : pinsF a.ps = 0) (h1 : ¬ 8 < a.ts.length) (h2 : M.nameF a.nm = 0) (h3 : (pubB a.p && timB a.t) = true) : askF a = 0 := by unfold askF; rw [if_pos h, if_neg h1, if_pos h2, h3]; rfl
theorem askF_zero {a : AskD} (h : askF a = 0) : pinsF a.ps = 0 ∧ a.ts.length ≤ 8 ∧ M.nameF a.nm = 0 ∧ pubB a.p = true ∧ timB a.t = true := by
  by_cases h0 : pinsF a.ps = 0
  · by_cases h1 : 8 < a.ts.length
    · rw [askF_many h0 h1] at h; cases h
    · by_cases h2 : M.nameF a.nm = 0
      · cases h3 : (pubB a.p && timB a.t)
        · rw [askF_range h0 h1 h2 h3] at h; cases h
        · simp only [Bool.and_eq_true] at h3
          exact ⟨h0, by omega, h2, h3.1, h3.2⟩
      · rw [askF_name h0 h1 h2] at h; exact absurd h h2
  · rw [askF_pins h0] at h; exact absurd h h0
/-- Whether one of the supplied keys is of that number. -/
def daneB (ts : List TlsaD) (p : Int) : Bool := ts.any fun t => decide (t.v = M.valM p t.m)
theorem dane_match {l : List UInt8} {ts : List TlsaD} {p : Int} (hn : M.nameF l = 0) : ∀ t ∈ usable (M.nrm l) ts, M.matchB t.nm t.u t.m t.v l true p = decide (t.v = M.valM p t.m) := by
  intro t ht
  obtain ⟨_, h1, h2, h3⟩ := usable_mem ht
  unfold TlsaD.f at h1
  unfold M.matchB
  rw [decide_eq_true h1, decide_eq_true hn, decide_eq_true h2, decide_eq_true h3]
  simp
def pinReason (q : PinD) (p t : Int) : Int := if t ≤ q.u then (if q.a = p then 3 else if q.b = p then 4 else 5) else 6
/-- Why who shows the key is believed, or not. -/
def reason (a : AskD) : Int :=
  if (usable (M.nrm a.nm) a.ts).length = 0 then
    match findP a.ps (M.nrm a.nm) with
    | some q => pinReason q a.p a.t
    | none => if a.first then 7 else 8
  else if daneB (usable (M.nrm a.nm) a.ts) a.p then 1 else 2
def acceptB (r : Int) : Bool := decide (r = 1) || (decide (r = 3) || (decide (r = 4) || decide (r = 7)))
theorem reason_dane {a : AskD} (h : (usable (M.nrm a.nm) a.ts).length ≠ 0) : reason a = if daneB (usable (M.nrm a.nm) a.ts) a.p then 1 else 2 := by unfold reason; rw [if_neg h]
theorem reason_pin {a : AskD} {q : PinD} (h : (usable (M.nrm a.nm) a.ts).length = 0) (h1 : findP a.ps (M.nrm a.nm) = some q) : reason a = pinReason q a.p a.t := by unfold reason; rw [if_pos h, h1]
theorem reason_none {a : AskD} (h : (usable (M.nrm a.nm) a.ts).length = 0) (h1 : findP a.ps (M.nrm a.nm) = none) : reason a = if a.first then 7 else 8 := by unfold reason; rw [if_pos h, h1]
theorem pinReason_bd (q : PinD) (p t : Int) : 3 ≤ pinReason q p t ∧ pinReason q p t ≤ 6 := by
  unfold pinReason
  repeat' split
  all_goals omega
theorem reason_bd (a : AskD) : 1 ≤ reason a ∧ reason a ≤ 8 := by
  unfold reason
  split
  · cases findP a.ps (M.nrm a.nm) with
    | none => dsimp only; split <;> omega
    | some q => have := pinReason_bd q a.p a.t; dsimp only; omega
  · split <;> omega
def decA (a : AskD) : Bool := if askF a = 0 then acceptB (reason a) else false
def decR (a : AskD) : Int := if askF a = 0 then reason a else 0
theorem decA_no {a : AskD} (h : askF a ≠ 0) : decA a = false := by unfold decA; rw [if_neg h]
theorem decR_no {a : AskD} (h : askF a ≠ 0) : decR a = 0 := by unfold decR; rw [if_neg h]
theorem decA_yes {a : AskD} (h : askF a = 0) : decA a = acceptB (reason a) := by unfold decA; rw [if_pos h]
theorem decR_yes {a : AskD} (h : askF a = 0) : decR a = reason a := by unfold decR; rw [if_pos h]
/-- What the program lays into its map: names and keys, and the reason to believe each. -/
def claimsL (ps : List PinD) : List ((ByteArray × Int) × Int) := ps.flatMap fun p => [((p.n, p.a), 3), ((p.n, p.b), 4)]
theorem claimsL_nil : claimsL [] = [] := rfl
theorem claimsL_cons (p : PinD) (ps : List PinD) : claimsL (p :: ps) = ((p.n, p.a), 3) :: ((p.n, p.b), 4) :: claimsL ps := rfl
theorem claimsL_append (ps qs : List PinD) : claimsL (ps ++ qs) = claimsL ps ++ claimsL qs := by simp [claimsL]
theorem claimsL_length : ∀ ps : List PinD, (claimsL ps).length = 2 * ps.length
  | [] => rfl
  | p :: r => by rw [claimsL_cons, List.length_cons, List.length_cons, claimsL_length r, List.length_cons]; omega
theorem claimsL_name {ps : List PinD} {e : (ByteArray × Int) × Int} (h : e ∈ claimsL ps) : ∃ p ∈ ps, e.1.1 = p.n := by
  obtain ⟨p, hp, he⟩ := List.mem_flatMap.1 h
  simp at he
  rcases he with rfl | rfl <;> exact ⟨p, hp, rfl⟩
def lookL (es : List ((ByteArray × Int) × Int)) (n : ByteArray) (x : Int) : Option Int := (es.find? fun e => decide (e.1 = (n, x))).map (·.2)
theorem lookL_none {ps : List PinD} {n : ByteArray} {x : Int} (h : ∀ p ∈ ps, p.n ≠ n) : lookL (claimsL ps) n x = none := by
  unfold lookL
  rw [Option.map_eq_none_iff, List.find?_eq_none]
  intro e he
  obtain ⟨p, hp, h1⟩ := claimsL_name he
  have := h p hp
  simp only [decide_eq_true_eq]
  intro h2
  rw [h2] at h1
  exact this h1.symm
theorem lookL_claims : ∀ {ps : List PinD}, Rise ps → ∀ {q : PinD} (x : Int), q ∈ ps → lookL (claimsL ps) q.n x = if q.a = x then some 3 else if q.b = x then some 4 else none
  | [], _, q, x, h => by cases h
  | p :: r, hr, q, x, h => by
    obtain ⟨h1, h2⟩ := List.pairwise_cons.1 hr
    have key : ∀ (e : (ByteArray × Int) × Int) (es : List ((ByteArray × Int) × Int)) (n : ByteArray), lookL (e :: es) n x = if e.1 = (n, x) then some e.2 else lookL es n x := fun e es n => by
      unfold lookL
      rw [List.find?_cons]
      by_cases he : e.1 = (n, x) <;> simp [he]
    rw [claimsL_cons, key, key]
    rcases List.mem_cons.1 h with rfl | hq
    · have hn : lookL (claimsL r) q.n x = none := lookL_none fun p hp e => nlt_ne (h1 p hp) (by unfold PinD.nm; rw [e])
      rw [hn]
      simp
    · have hne : p.n ≠ q.n := fun e => nlt_ne (h1 q hq) (by unfold PinD.nm; rw [e])
      rw [if_neg (by simp [hne]), if_neg (by simp [hne])]
      exact lookL_claims h2 x hq
theorem find_pin {ps : List PinD} {l : List UInt8} {q : PinD} (h : pinsF ps = 0) (h1 : findP ps l = some q) : q ∈ ps ∧ q.nm = l ∧ q.f = 0 := by
  obtain ⟨a, b⟩ := findP_mem h1
  exact ⟨a, b, (pinsF_zero h).2.1 q a⟩
end Go.Proofs.YtcolecidbalmhaaDoor
