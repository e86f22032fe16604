/- Plain facts on names: the machine that reads a name, its parts, its normal form; on supplied keys. No condition. -/
import Derived.Test.YtlodhleihnlchaaDoorMath2
import Derived.Lib.Case
import Derived.Lib.Strings
namespace Go.Proofs.YtlodhleihnlchaaDoor.M

/-- A letter of either size, or a digit. -/
def plainB (b : UInt8) : Bool := decide (97 ≤ (b.toNat : Int) ∧ (b.toNat : Int) ≤ 122) || decide (65 ≤ (b.toNat : Int) ∧ (b.toNat : Int) ≤ 90) || decide (48 ≤ (b.toNat : Int) ∧ (b.toNat : Int) ≤ 57)
def dashB (b : UInt8) : Bool := decide ((b.toNat : Int) = 45)
def dotB (b : UInt8) : Bool := decide ((b.toNat : Int) = 46)
/-- What stands at a place: 1 a letter or a digit, 2 a dash, 3 a dot, 0 another byte. -/
def cls (b : UInt8) : Int := if plainB b then 1 else if dashB b then 2 else if dotB b then 3 else 0
/-- .., 4 the end. -/
def chr (l : List UInt8) (k : Nat) : Int := match l[k]? with
  | none => 4
  | some b => cls b
theorem plain_dash {b : UInt8} (h : plainB b = true) : dashB b = false := by
  simp only [plainB, dashB, Bool.or_eq_true, decide_eq_true_eq, decide_eq_false_iff_not] at *
  omega
theorem plain_dot {b : UInt8} (h : plainB b = true) : dotB b = false := by
  simp only [plainB, dotB, Bool.or_eq_true, decide_eq_true_eq, decide_eq_false_iff_not] at *
  omega
theorem dash_dot {b : UInt8} (h : dashB b = true) : dotB b = false := by
  simp only [dashB, dotB, decide_eq_true_eq, decide_eq_false_iff_not] at *
  omega

mutual
/-- The machine: at the beginning of a part. -/
def mDot : List UInt8 → Bool
  | [] => false
  | b :: r => if plainB b then mPlain r else false
/-- Behind a letter or a digit. -/
def mPlain : List UInt8 → Bool
  | [] => true
  | b :: r => if plainB b then mPlain r else if dashB b then mDash r else if dotB b then (if r = [] then true else mDot r) else false
/-- Behind a dash. -/
def mDash : List UInt8 → Bool
  | [] => false
  | b :: r => if plainB b then mPlain r else if dashB b then mDash r else false
end

/-- What the model asks of a byte of a part. -/
def signB (b : UInt8) : Bool := plainB b || dashB b
def partB (w : List UInt8) : Bool := w.all signB && decide (1 ≤ w.length) && !(w.head?.any dashB) && !(w.getLast?.any dashB)
/-- Cut at each dot; 'cur' is what stands ahead. -/
def cutL (cur : List UInt8) : List UInt8 → List (List UInt8)
  | [] => [cur]
  | b :: r => if dotB b then cur :: cutL [] r else cutL (cur ++ [b]) r
/-- Without a dot behind it all. -/
def strip : List UInt8 → List UInt8
  | [] => []
  | b :: r => if dotB b = true ∧ r = [] then [] else b :: strip r
def bare : List UInt8 → List UInt8
  | [] => []
  | b :: r => b :: strip r
/-- What is not a part's beginning, whatever comes. -/
def badB (w : List UInt8) : Bool := w.head?.any dashB || !(w.all signB)
theorem badB_part {w : List UInt8} (h : badB w = true) : partB w = false := by
  unfold badB at h
  unfold partB
  simp only [Bool.or_eq_true, Bool.not_eq_true'] at h
  rcases h with h | h <;> simp [h]
theorem badB_more {w : List UInt8} (h : badB w = true) (b : UInt8) : badB (w ++ [b]) = true := by
  unfold badB at *
  cases w with
  | nil => simp at h
  | cons x r =>
    simp only [List.cons_append, List.head?_cons, Option.any_some, Bool.or_eq_true, Bool.not_eq_true'] at *
    rcases h with h | h
    · exact .inl h
    · right
      rw [← List.cons_append, List.all_append, h]
      rfl
theorem cut_bad : ∀ (r cur : List UInt8), badB cur = true → (cutL cur r).all partB = false
  | [], cur, h => by simp [cutL, badB_part h]
  | b :: r, cur, h => by
    unfold cutL
    split
    · simp [badB_part h]
    · exact cut_bad r _ (badB_more h b)
/-- A part so far: it begins with no dash. 'd': it ends with one. -/
def soFar (w : List UInt8) (d : Bool) : Prop := w ≠ [] ∧ w.all signB = true ∧ w.head?.any dashB = false ∧ w.getLast?.any dashB = d
theorem soFar.part {w : List UInt8} {d : Bool} (h : soFar w d) : partB w = !d := by
  obtain ⟨h1, h2, h3, h4⟩ := h
  unfold partB
  rw [h2, h3, h4]
  have : 1 ≤ w.length := by cases w with
    | nil => exact absurd rfl h1
    | cons => simp
  simp [this]
theorem soFar.more {w : List UInt8} {d : Bool} (h : soFar w d) {b : UInt8} (hb : signB b = true) : soFar (w ++ [b]) (dashB b) := by
  obtain ⟨h1, h2, h3, h4⟩ := h
  refine ⟨by simp, by simp only [List.all_append, h2, List.all_cons, hb, List.all_nil]; rfl, ?_, by simp⟩
  cases w with
  | nil => exact absurd rfl h1
  | cons x r => simpa using h3
theorem soFar.first {b : UInt8} (h : plainB b = true) : soFar [b] false := ⟨by simp, by simp [signB, h], by simp [plain_dash h], by simp [plain_dash h]⟩
theorem strip_cons {b : UInt8} {r : List UInt8} (h : dotB b = false ∨ r ≠ []) : strip (b :: r) = b :: strip r := by
  rw [strip, if_neg]
  rintro ⟨h1, h2⟩
  rcases h with h | h
  · rw [h] at h1; cases h1
  · exact h h2
/-- The machine reads what the model cuts. -/
theorem machine : ∀ (n : Nat) (r : List UInt8), r.length ≤ n →
    (∀ cur, soFar cur false → mPlain r = (cutL cur (strip r)).all partB) ∧ (∀ cur, soFar cur true → mDash r = (cutL cur (strip r)).all partB) ∧ (mDot r = (cutL [] (bare r)).all partB) ∧ (r ≠ [] → mDot r = (cutL [] (strip r)).all partB)
  | n, [], _ => by
    refine ⟨fun cur h => ?_, fun cur h => ?_, ?_, fun h => absurd rfl h⟩
    · simp [mPlain, strip, cutL, h.part]
    · simp [mDash, strip, cutL, h.part]
    · simp [mDot, bare, cutL, partB]
  | 0, b :: r, h => by simp at h
  | n + 1, b :: r, hl => by
    have hr : r.length ≤ n := by simpa using hl
    obtain ⟨hP, hD, hB, hS⟩ := machine n r hr
    have start : mDot (b :: r) = (cutL [] (b :: strip r)).all partB := by
      rw [mDot, cutL]
      split
      · rename_i hb
        rw [plain_dot hb]
        simpa using hP [b] (soFar.first hb)
      · rename_i hb
        split
        · simp [partB]
        · rename_i hd
          have : badB [b] = true := by
            unfold badB signB
            cases h2 : dashB b <;> simp [hb, h2]
          exact (cut_bad _ _ this).symm
    refine ⟨fun cur h => ?_, fun cur h => ?_, start, fun _ => ?_⟩
    · rw [mPlain]
      split
      · rename_i hb
        rw [strip_cons (.inl (plain_dot hb)), cutL, plain_dot hb]
        have := h.more (b := b) (by simp [signB, hb])
        rw [plain_dash hb] at this
        simpa using hP _ this
      split
      · rename_i hb
        rw [strip_cons (.inl (dash_dot hb)), cutL, dash_dot hb]
        have := h.more (b := b) (by simp [signB, hb])
        rw [hb] at this
        simpa using hD _ this
      split
      · rename_i hb
        split
        · rename_i hn
          rw [strip, if_pos ⟨hb, hn⟩]
          simp [cutL, h.part]
        · rename_i hn
          rw [strip_cons (.inr hn), cutL, hb]
          simp [h.part, hS hn]
      · rename_i h1 h2 h3
        simp only [Bool.not_eq_true] at h1 h2 h3
        rw [strip_cons (.inl h3), cutL, h3]
        have : badB (cur ++ [b]) = true := by
          unfold badB
          simp [signB, h1, h2]
        simpa using (cut_bad _ _ this).symm
    · rw [mDash]
      split
      · rename_i hb
        rw [strip_cons (.inl (plain_dot hb)), cutL, plain_dot hb]
        have := h.more (b := b) (by simp [signB, hb])
        rw [plain_dash hb] at this
        simpa using hP _ this
      split
      · rename_i hb
        rw [strip_cons (.inl (dash_dot hb)), cutL, dash_dot hb]
        have := h.more (b := b) (by simp [signB, hb])
        rw [hb] at this
        simpa using hD _ this
      · rename_i h1 h2
        simp only [Bool.not_eq_true] at h1 h2
        cases h3 : dotB b
        · rw [strip_cons (.inl h3), cutL, h3]
          have : badB (cur ++ [b]) = true := by
            unfold badB
            simp [signB, h1, h2]
          simpa using (cut_bad _ _ this).symm
        · by_cases hn : r = []
          · rw [strip, if_pos ⟨h3, hn⟩]
            simp [cutL, h.part]
          · rw [strip_cons (.inr hn), cutL, h3]
            simp [h.part]
    · cases h3 : dotB b
      · rw [strip_cons (.inl h3), start]
      · by_cases hn : r = []
        · subst hn
          rw [strip, if_pos ⟨h3, rfl⟩, start]
          simp [strip, cutL, h3, partB]
        · rw [strip_cons (.inr hn), start]
theorem hasP_eq (l : List UInt8) : mDot l = (cutL [] (bare l)).all partB := (machine _ l (Nat.le_refl _)).2.2.1

theorem cls_eq (b : UInt8) : cls b = if (97 ≤ (b.toNat : Int) ∧ (b.toNat : Int) ≤ 122) ∨ (65 ≤ (b.toNat : Int) ∧ (b.toNat : Int) ≤ 90) ∨ (48 ≤ (b.toNat : Int) ∧ (b.toNat : Int) ≤ 57) then 1 else if (b.toNat : Int) = 45 then 2 else if (b.toNat : Int) = 46 then 3 else 0 := by
  unfold cls plainB dashB dotB
  simp only [Bool.or_eq_true, decide_eq_true_eq, or_assoc]
theorem chr_at (s : ByteArray) (k : Nat) (h : k < s.size) : chr s.data.toList k = cls s[k] := by
  have e : s.data.toList[k]? = some s[k] := by
    rw [Array.getElem?_toList]
    exact Array.getElem?_eq_getElem h
  unfold chr
  rw [e]
theorem chr_end (s : ByteArray) (k : Nat) (h : s.size ≤ k) : chr s.data.toList k = 4 := by
  have e : s.data.toList[k]? = none := by
    rw [Array.getElem?_toList]
    exact Array.getElem?_eq_none h
  unfold chr
  rw [e]
theorem cls_plain {b : UInt8} (h : plainB b = true) : cls b = 1 := by simp [cls, h]
theorem cls_dash {b : UInt8} (h : dashB b = true) : cls b = 2 := by
  have : plainB b = false := by
    cases h2 : plainB b
    · rfl
    · rw [plain_dash h2] at h; cases h
  simp [cls, h, this]
theorem cls_dot {b : UInt8} (h : dotB b = true) : cls b = 3 := by
  have h1 : plainB b = false := by
    cases h2 : plainB b
    · rfl
    · rw [plain_dot h2] at h; cases h
  have h2 : dashB b = false := by
    cases h2 : dashB b
    · rfl
    · rw [dash_dot h2] at h; cases h
  simp [cls, h, h1, h2]
theorem cls_other {b : UInt8} (h1 : plainB b = false) (h2 : dashB b = false) (h3 : dotB b = false) : cls b = 0 := by simp [cls, h1, h2, h3]
/-- The machine's three states, at a place: what 'chr' tells and what is left. -/
inductive Step (l : List UInt8) (k : Nat) : Prop
  | plain : chr l k = 1 → k < l.length → mDot (l.drop k) = mPlain (l.drop (k + 1)) → mPlain (l.drop k) = mPlain (l.drop (k + 1)) → mDash (l.drop k) = mPlain (l.drop (k + 1)) → Step l k
  | dash : chr l k = 2 → k < l.length → mDot (l.drop k) = false → mPlain (l.drop k) = mDash (l.drop (k + 1)) → mDash (l.drop k) = mDash (l.drop (k + 1)) → Step l k
  | dotMore : chr l k = 3 → k + 1 < l.length → mDot (l.drop k) = false → mPlain (l.drop k) = mDot (l.drop (k + 1)) → mDash (l.drop k) = false → Step l k
  | dotLast : chr l k = 3 → k + 1 = l.length → mDot (l.drop k) = false → mPlain (l.drop k) = true → mDash (l.drop k) = false → Step l k
  | other : chr l k = 0 → k < l.length → mDot (l.drop k) = false → mPlain (l.drop k) = false → mDash (l.drop k) = false → Step l k
  | ends : chr l k = 4 → l.length ≤ k → mDot (l.drop k) = false → mPlain (l.drop k) = true → mDash (l.drop k) = false → Step l k
theorem step (l : List UInt8) (k : Nat) : Step l k := by
  rcases Nat.lt_or_ge k l.length with h | h
  · have e : l.drop k = l[k] :: l.drop (k + 1) := List.drop_eq_getElem_cons h
    have ec : chr l k = cls l[k] := by simp [chr, h]
    generalize l[k] = b at e ec
    cases h1 : plainB b
    · cases h2 : dashB b
      · cases h3 : dotB b
        · exact .other (ec.trans (cls_other h1 h2 h3)) h (by rw [e]; simp [mDot, h1]) (by rw [e]; simp [mPlain, h1, h2, h3]) (by rw [e]; simp [mDash, h1, h2])
        · rcases Nat.lt_or_ge (k + 1) l.length with hk | hk
          · refine .dotMore (ec.trans (cls_dot h3)) hk (by rw [e]; simp [mDot, h1]) ?_ (by rw [e]; simp [mDash, h1, h2])
            rw [e, mPlain, if_neg (by simp [h1]), if_neg (by simp [h2]), if_pos h3, if_neg]
            intro hn
            have := congrArg List.length hn
            simp at this
            omega
          · refine .dotLast (ec.trans (cls_dot h3)) (by omega) (by rw [e]; simp [mDot, h1]) ?_ (by rw [e]; simp [mDash, h1, h2])
            rw [e, mPlain, if_neg (by simp [h1]), if_neg (by simp [h2]), if_pos h3, if_pos (List.drop_eq_nil_iff.2 hk)]
      · exact .dash (ec.trans (cls_dash h2)) h (by rw [e]; simp [mDot, h1]) (by rw [e]; simp [mPlain, h1, h2]) (by rw [e]; simp [mDash, h1, h2])
    · exact .plain (ec.trans (cls_plain h1)) h (by rw [e]; simp [mDot, h1]) (by rw [e]; simp [mPlain, h1]) (by rw [e]; simp [mDash, h1])
  · have e : l.drop k = [] := List.drop_eq_nil_iff.2 h
    exact .ends (by simp [chr, h]) h (by rw [e]; simp [mDot]) (by rw [e]; simp [mPlain]) (by rw [e]; simp [mDash])

theorem signB_eq (b : UInt8) : signB b = decide ((97 ≤ (b.toNat : Int) ∧ (b.toNat : Int) ≤ 122) ∨ (65 ≤ (b.toNat : Int) ∧ (b.toNat : Int) ≤ 90) ∨ (48 ≤ (b.toNat : Int) ∧ (b.toNat : Int) ≤ 57) ∨ (b.toNat : Int) = 45) := by
  unfold signB plainB dashB
  simp only [Bool.decide_or, Bool.or_assoc]
def signTo (s : ByteArray) (k : Nat) : Bool := (s.data.toList.take k).all signB
theorem signTo_zero (s : ByteArray) : signTo s 0 = true := by simp [signTo]
theorem signTo_next (s : ByteArray) (k : Nat) (h : k < s.size) (hl : signTo s k = true) (hb : signB s[k] = true) : signTo s (k + 1) = true := by
  unfold signTo at *
  rw [data_take s k h, List.all_append, hl]
  simp [hb]
theorem signTo_all (s : ByteArray) (h : signTo s s.size = true) : s.data.toList.all signB = true := by
  unfold signTo at h
  rwa [List.take_of_length_le (by simp)] at h
theorem partB_stop (s : ByteArray) (k : Nat) (h : k < s.size) (hb : signB s[k] = false) : partB s.data.toList = false := by
  have : s.data.toList.all signB = false := by
    rw [List.all_eq_false]
    exact ⟨s[k], by rw [Array.mem_toList_iff]; exact Array.getElem_mem h, by simp [hb]⟩
  simp [partB, this]
theorem partB_short (s : ByteArray) (h : s.size < 1) : partB s.data.toList = false := by
  have e : s.data.toList = [] := List.eq_nil_of_length_eq_zero (by rw [Array.length_toList]; show s.size = 0; omega)
  rw [e]; rfl
theorem head_at (s : ByteArray) (h : 0 < s.size) : s.data.toList.head? = some s[0] := by
  rw [List.head?_eq_getElem?, Array.getElem?_toList]
  exact Array.getElem?_eq_getElem h
theorem last_at (s : ByteArray) (n : Nat) (h : s.size = n + 1) : s.data.toList.getLast? = some (s[n]'(by omega)) := by
  have hl : s.data.toList.length = n + 1 := by simpa using h
  rw [List.getLast?_eq_getElem?, hl, Array.getElem?_toList]
  exact Array.getElem?_eq_getElem (show n < s.data.size from by have : s.data.size = s.size := rfl; omega)
theorem partB_ends (s : ByteArray) (n : Nat) (h : s.size = n + 1) (ha : signTo s s.size = true) : partB s.data.toList = (!(dashB (s[0]'(by omega))) && !(dashB (s[n]'(by omega)))) := by
  unfold partB
  rw [signTo_all s ha, head_at s (by omega), last_at s n h, decide_eq_true (show 1 ≤ s.data.toList.length by rw [Array.length_toList]; show 1 ≤ s.size; omega)]
  simp
/-- A text of these bytes. -/
def bs (l : List UInt8) : ByteArray := ⟨l.toArray⟩
theorem bs_list (l : List UInt8) : (bs l).data.toList = l := by simp [bs]
theorem bs_size (l : List UInt8) : (bs l).size = l.length := by simp [bs, ByteArray.size]
theorem bs_data (s : ByteArray) : bs s.data.toList = s := by simp [bs]
theorem bs_extract (s : ByteArray) (a b : Nat) : s.extract a b = bs ((s.data.toList.drop a).take (b - a)) := Lib.extract_eq s a b
theorem strip_last : ∀ (r : List UInt8), strip r = if r.getLast?.any dotB then r.take (r.length - 1) else r
  | [] => by simp [strip]
  | [b] => by
    rw [strip]
    by_cases h : dotB b = true <;> simp [h, strip]
  | b :: c :: r => by
    rw [strip_cons (.inr (by simp)), strip_last (c :: r)]
    simp only [List.getLast?_cons_cons]
    split
    · simp
    · rfl
theorem bare_last (l : List UInt8) : bare l = if 1 < l.length ∧ l.getLast?.any dotB = true then l.take (l.length - 1) else l := by
  cases l with
  | nil => simp [bare]
  | cons b r =>
    cases r with
    | nil => simp [bare, strip]
    | cons c r =>
      rw [bare, strip_last]
      simp only [List.getLast?_cons_cons]
      by_cases h : (c :: r).getLast?.any dotB = true
      · rw [if_pos h, if_pos ⟨by simp, h⟩]
        simp
      · rw [if_neg h, if_neg (fun e => h e.2)]
theorem bare_one (s : ByteArray) (h : s.size ≤ 1) : bs (bare s.data.toList) = s := by
  have : s.data.toList.length = s.size := by simp
  rw [bare_last, if_neg (by omega), bs_data]
theorem bare_dot (s : ByteArray) (n : Nat) (h : s.size = n + 2) (hd : dotB (s[n + 1]'(by omega)) = true) : bs (bare s.data.toList) = s.extract 0 (n + 1) := by
  have hl : s.data.toList.length = s.size := by simp
  rw [bare_last, if_pos ⟨by omega, by rw [last_at s (n + 1) h]; simpa using hd⟩, bs_extract]
  simp [h]
theorem bare_not (s : ByteArray) (n : Nat) (h : s.size = n + 2) (hd : dotB (s[n + 1]'(by omega)) = false) : bs (bare s.data.toList) = s := by
  rw [bare_last, if_neg (by rw [last_at s (n + 1) h]; simp [hd]), bs_data]
/-- While it is cut: 'done' are the parts that stand already, the next one begins at f. -/
def CutAt (l : List UInt8) (done : List (List UInt8)) (f k : Nat) : Prop := f ≤ k ∧ k ≤ l.length ∧ cutL [] l = done ++ cutL ((l.drop f).take (k - f)) (l.drop k)
theorem CutAt.zero (l : List UInt8) : CutAt l [] 0 0 := ⟨by omega, by omega, by simp⟩
theorem CutAt.next {l : List UInt8} {done : List (List UInt8)} {f k : Nat} {b : UInt8} (h : CutAt l done f k) (hb : l[k]? = some b) (hd : dotB b = false) : CutAt l done f (k + 1) := by
  obtain ⟨h1, h2, h3⟩ := h
  have hk : k < l.length := (List.getElem?_eq_some_iff.1 hb).1
  have e : l.drop k = b :: l.drop (k + 1) := by rw [List.drop_eq_getElem_cons hk]; congr 1; rw [List.getElem?_eq_getElem hk] at hb; exact Option.some.inj hb
  refine ⟨by omega, by omega, ?_⟩
  rw [h3, e, cutL, if_neg (by simp [hd])]
  congr 2
  rw [show k + 1 - f = (k - f) + 1 by omega, List.take_add_one, List.getElem?_drop, show f + (k - f) = k by omega, hb]
  rfl
theorem CutAt.cut {l : List UInt8} {done : List (List UInt8)} {f k : Nat} {b : UInt8} (h : CutAt l done f k) (hb : l[k]? = some b) (hd : dotB b = true) : CutAt l (done ++ [(l.drop f).take (k - f)]) (k + 1) (k + 1) := by
  obtain ⟨h1, h2, h3⟩ := h
  have hk : k < l.length := (List.getElem?_eq_some_iff.1 hb).1
  have e : l.drop k = b :: l.drop (k + 1) := by rw [List.drop_eq_getElem_cons hk]; congr 1; rw [List.getElem?_eq_getElem hk] at hb; exact Option.some.inj hb
  refine ⟨by omega, by omega, ?_⟩
  rw [h3, e, cutL, if_pos hd]
  simp
theorem CutAt.last {l : List UInt8} {done : List (List UInt8)} {f : Nat} (h : CutAt l done f l.length) : cutL [] l = done ++ [(l.drop f).take (l.length - f)] := by
  obtain ⟨h1, h2, h3⟩ := h
  rw [h3]
  simp [cutL]
theorem cutL_length : ∀ (r cur : List UInt8), (cutL cur r).length ≤ r.length + 1
  | [], cur => by simp [cutL]
  | b :: r, cur => by
    rw [cutL]
    split
    · have := cutL_length r []; simp; omega
    · have := cutL_length r (cur ++ [b]); simp; omega
theorem cutL_part : ∀ (r cur : List UInt8), ∀ p ∈ cutL cur r, p.length ≤ cur.length + r.length
  | [], cur, p, h => by simp [cutL] at h; simp [h]
  | b :: r, cur, p, h => by
    rw [cutL] at h
    split at h
    · rcases List.mem_cons.1 h with rfl | h
      · omega
      · have := cutL_part r [] p h; simp at this ⊢; omega
    · have := cutL_part r (cur ++ [b]) p h; simp at this ⊢; omega
theorem CutAt.done_le {l : List UInt8} {done : List (List UInt8)} {f k : Nat} (h : CutAt l done f k) : done.length ≤ l.length + 1 := by
  have := cutL_length l []
  rw [h.2.2] at this
  simp at this
  omega

/-- What is wrong with a name. -/
def nameF (l : List UInt8) : Int := if 20 < l.length then 2 else if mDot l then 0 else 5
theorem nameF_long {l : List UInt8} (h : 20 < l.length) : nameF l = 2 := by simp [nameF, h]
theorem nameF_no {l : List UInt8} (h : ¬ 20 < l.length) (hm : mDot l = false) : nameF l = 5 := by simp [nameF, h, hm]
theorem nameF_yes {l : List UInt8} (h : ¬ 20 < l.length) (hm : mDot l = true) : nameF l = 0 := by simp [nameF, h, hm]
theorem nameF_zero {l : List UInt8} (h : nameF l = 0) : l.length ≤ 20 ∧ mDot l = true := by
  unfold nameF at h
  split at h
  · omega
  split at h
  · rename_i h2; exact ⟨by omega, h2⟩
  · omega
theorem nameF_cases (l : List UInt8) : nameF l = 2 ∨ nameF l = 5 ∨ nameF l = 0 := by
  unfold nameF
  split
  · exact .inl rfl
  split
  · exact .inr (.inr rfl)
  · exact .inr (.inl rfl)

/-- All the bytes of a name are below 128, and the dot behind it all is gone. -/
theorem ascii : ∀ (n : Nat) (r : List UInt8), r.length ≤ n → (mPlain r = true ∨ mDash r = true ∨ mDot r = true) → ∀ b ∈ r, b.toNat < 128
  | _, [], _, _ => by simp
  | 0, _ :: _, h, _ => by simp at h
  | n + 1, b :: r, hl, h => by
    have hr : r.length ≤ n := by simpa using hl
    have hp : ∀ {b : UInt8}, plainB b = true → b.toNat < 128 := by
      intro b hb
      simp only [plainB, Bool.or_eq_true, decide_eq_true_eq] at hb
      omega
    have hd : ∀ {b : UInt8}, dashB b = true → b.toNat < 128 := by
      intro b hb
      simp only [dashB, decide_eq_true_eq] at hb
      omega
    have ht : ∀ {b : UInt8}, dotB b = true → b.toNat < 128 := by
      intro b hb
      simp only [dotB, decide_eq_true_eq] at hb
      omega
    have key : b.toNat < 128 ∧ (r = [] ∨ mPlain r = true ∨ mDash r = true ∨ mDot r = true) := by
      rcases h with h | h | h
      · rw [mPlain] at h
        split at h
        · rename_i hb; exact ⟨hp hb, .inr (.inl h)⟩
        split at h
        · rename_i hb; exact ⟨hd hb, .inr (.inr (.inl h))⟩
        split at h
        · rename_i hb
          split at h
          · rename_i hn; exact ⟨ht hb, .inl hn⟩
          · exact ⟨ht hb, .inr (.inr (.inr h))⟩
        · cases h
      · rw [mDash] at h
        split at h
        · rename_i hb; exact ⟨hp hb, .inr (.inl h)⟩
        split at h
        · rename_i hb; exact ⟨hd hb, .inr (.inr (.inl h))⟩
        · cases h
      · rw [mDot] at h
        split at h
        · rename_i hb; exact ⟨hp hb, .inr (.inl h)⟩
        · cases h
    intro c hc
    rcases List.mem_cons.1 hc with rfl | hc
    · exact key.1
    · rcases key.2 with rfl | h2
      · simp at hc
      · exact ascii n r hr h2 c hc
theorem name_ascii {l : List UInt8} (h : mDot l = true) : ∀ (j : Nat) (b : UInt8), l[j]? = some b → b.toNat < 128 := fun _ b hb => ascii _ l (Nat.le_refl _) (.inr (.inr h)) b (List.mem_of_getElem? hb)
theorem strip_trim : ∀ (r : List UInt8), r ≠ [] → Lib.trimSuffix r [46] = strip r
  | [], h => absurd rfl h
  | b :: r, _ => by
    by_cases hn : r = []
    · subst hn
      have e : dotB b = (b == 46) := by
        by_cases hb : b = 46
        · subst hb; decide
        · have : ¬ (b.toNat : Int) = 46 := fun h => hb (UInt8.toNat_inj.1 (by simpa using (show b.toNat = 46 by omega)))
          simp [dotB, this, hb]
      by_cases hb : b = 46
      · subst hb; decide
      · have h1 : dotB b = false := by rw [e]; simpa using hb
        simp [strip, h1, Lib.trimSuffix, Lib.hasSuffix, List.isSuffixOf]
        intro h; exact absurd h.symm hb
    · rw [strip_cons (.inr hn), ← strip_trim r hn]
      unfold Lib.trimSuffix Lib.hasSuffix
      have hl : 1 ≤ r.length := by cases r with
        | nil => exact absurd rfl hn
        | cons => simp
      have e : ([46] : List UInt8).isSuffixOf (b :: r) = ([46] : List UInt8).isSuffixOf r := by
        rw [Bool.eq_iff_iff, List.isSuffixOf_iff_suffix, List.isSuffixOf_iff_suffix]
        constructor
        · rintro ⟨t, ht⟩
          cases t with
          | nil => simp at ht; exact absurd ht.2.symm (by simpa using hn)
          | cons x t => simp at ht; exact ⟨t, ht.2⟩
        · rintro ⟨t, ht⟩
          exact ⟨b :: t, by simp [ht]⟩
      rw [e]
      split
      · simp only [List.length_cons, List.length_nil]
        rw [show r.length + 1 - (0 + 1) = (r.length - (0 + 1)) + 1 by omega, List.take_succ_cons]
      · rfl
theorem bare_trim {l : List UInt8} (h : mDot l = true) : Lib.trimSuffix l [46] = bare l := by
  cases l with
  | nil => simp [mDot] at h
  | cons b r =>
    have hb : plainB b = true := by
      rw [mDot] at h
      split at h
      · assumption
      · cases h
    rw [strip_trim _ (by simp), strip_cons (.inl (plain_dot hb))]
    rfl
theorem strip_mem : ∀ (r : List UInt8), ∀ b ∈ strip r, b ∈ r
  | [], b, h => by simp [strip] at h
  | c :: r, b, h => by
    rw [strip] at h
    split at h
    · simp at h
    · rcases List.mem_cons.1 h with rfl | h
      · simp
      · exact List.mem_cons_of_mem _ (strip_mem r b h)
theorem bare_mem (l : List UInt8) : ∀ b ∈ bare l, b ∈ l := by
  cases l with
  | nil => simp [bare]
  | cons c r =>
    intro b h
    rcases List.mem_cons.1 h with rfl | h
    · simp
    · exact List.mem_cons_of_mem _ (strip_mem r b h)
theorem bare_ascii {l : List UInt8} (h : mDot l = true) : ∀ (j : Nat) (b : UInt8), (bare l)[j]? = some b → b.toNat < 128 := fun _ b hb => ascii _ l (Nat.le_refl _) (.inr (.inr h)) b (bare_mem l b (List.mem_of_getElem? hb))
/-- The normal form. -/
def nrm (l : List UInt8) : List UInt8 := Lib.toLowerA (bare l)
theorem strip_length : ∀ r : List UInt8, (strip r).length ≤ r.length
  | [] => by simp [strip]
  | b :: r => by
    rw [strip]
    split
    · simp
    · have := strip_length r; simpa using this
theorem bare_length (l : List UInt8) : (bare l).length ≤ l.length := by
  cases l with
  | nil => simp [bare]
  | cons b r => have := strip_length r; simpa [bare] using this
theorem nrm_length (l : List UInt8) : (nrm l).length ≤ l.length := by
  unfold nrm Lib.toLowerA
  rw [List.length_map]
  exact bare_length l
/-- What is wrong with a name that has to be a normal one. -/
def normF (l : List UInt8) : Int := if nameF l = 0 then (if nrm l = l then 0 else 1) else nameF l
/-- What is wrong with a supplied key. -/
def tlsaB (u m v : Int) : Bool := decide (0 ≤ u ∧ u ≤ 3) && decide (0 ≤ m ∧ m ≤ 1) && sumB v
def tlsaF (l : List UInt8) (u m v : Int) : Int := if normF l = 0 then (if tlsaB u m v then 0 else 3) else normF l
theorem normF_zero {l : List UInt8} (h : normF l = 0) : nameF l = 0 ∧ nrm l = l := by
  unfold normF at h
  split at h
  · rename_i h0
    split at h
    · rename_i h1; exact ⟨h0, h1⟩
    · omega
  · exact absurd h (by assumption)
theorem tlsaF_zero {l : List UInt8} {u m v : Int} (h : tlsaF l u m v = 0) : normF l = 0 ∧ tlsaB u m v = true := by
  unfold tlsaF at h
  split at h
  · rename_i h0
    split at h
    · rename_i h1; exact ⟨h0, h1⟩
    · omega
  · exact absurd h (by assumption)
end Go.Proofs.YtlodhleihnlchaaDoor.M
