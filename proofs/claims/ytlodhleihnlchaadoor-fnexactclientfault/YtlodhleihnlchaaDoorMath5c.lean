/- Plain facts: a normal name is a name, and its own normal form; what a supplied key matches. No condition. -/
import Derived.Test.YtlodhleihnlchaaDoorMath5b
namespace Go.Proofs.YtlodhleihnlchaaDoor.M

theorem strip_again : ∀ (n : Nat) (r : List UInt8), r.length ≤ n →
    (mPlain r = true → strip (strip r) = strip r ∧ mPlain (strip r) = true) ∧ (mDash r = true → strip (strip r) = strip r ∧ mDash (strip r) = true) ∧ (mDot r = true → strip (strip r) = strip r ∧ mDot (strip r) = true)
  | n, [], _ => by simp [strip, mPlain, mDash, mDot]
  | 0, b :: r, h => by simp at h
  | n + 1, b :: r, hl => by
    obtain ⟨hP, hD, hS⟩ := strip_again n r (by simpa using hl)
    have plain : plainB b = true → mPlain r = true → strip (strip (b :: r)) = strip (b :: r) ∧ strip (b :: r) = b :: strip r ∧ mPlain (strip r) = true := fun hb h => by
      have e := strip_cons (r := r) (.inl (plain_dot hb))
      refine ⟨?_, e, (hP h).2⟩
      rw [e, strip_cons (.inl (plain_dot hb)), (hP h).1]
    have dash : dashB b = true → mDash r = true → strip (strip (b :: r)) = strip (b :: r) ∧ strip (b :: r) = b :: strip r ∧ mDash (strip r) = true := fun hb h => by
      have e := strip_cons (r := r) (.inl (dash_dot hb))
      refine ⟨?_, e, (hD h).2⟩
      rw [e, strip_cons (.inl (dash_dot hb)), (hD h).1]
    refine ⟨fun h => ?_, fun h => ?_, fun h => ?_⟩
    · rw [mPlain] at h
      split at h
      · rename_i hb
        obtain ⟨h1, h2, h3⟩ := plain hb h
        exact ⟨h1, by rw [h2, mPlain, if_pos hb]; exact h3⟩
      split at h
      · rename_i hb0 hb
        obtain ⟨h1, h2, h3⟩ := dash hb h
        exact ⟨h1, by rw [h2, mPlain, if_neg hb0, if_pos hb]; exact h3⟩
      split at h
      · rename_i hb0 hb1 hb
        split at h
        · rename_i hn
          rw [strip, if_pos ⟨hb, hn⟩]
          simp [strip, mPlain]
        · rename_i hn
          obtain ⟨h1, h2⟩ := hS h
          have hne : strip r ≠ [] := fun e => by rw [e, mDot] at h2; cases h2
          rw [strip_cons (.inr hn)]
          refine ⟨by rw [strip_cons (.inr hne), h1], ?_⟩
          rw [mPlain, if_neg hb0, if_neg hb1, if_pos hb, if_neg hne]
          exact h2
      · cases h
    · rw [mDash] at h
      split at h
      · rename_i hb
        obtain ⟨h1, h2, h3⟩ := plain hb h
        exact ⟨h1, by rw [h2, mDash, if_pos hb]; exact h3⟩
      split at h
      · rename_i hb0 hb
        obtain ⟨h1, h2, h3⟩ := dash hb h
        exact ⟨h1, by rw [h2, mDash, if_neg hb0, if_pos hb]; exact h3⟩
      · cases h
    · rw [mDot] at h
      split at h
      · rename_i hb
        obtain ⟨h1, h2, h3⟩ := plain hb h
        exact ⟨h1, by rw [h2, mDot, if_pos hb]; exact h3⟩
      · cases h
theorem bare_strip {l : List UInt8} (h : mDot l = true) : bare l = strip l := by
  cases l with
  | nil => simp [mDot] at h
  | cons b r =>
    rw [mDot] at h
    split at h
    · rename_i hb
      rw [strip_cons (.inl (plain_dot hb))]
      rfl
    · cases h
theorem bare_again {l : List UInt8} (h : mDot l = true) : bare (bare l) = bare l ∧ mDot (bare l) = true := by
  obtain ⟨h1, h2⟩ := (strip_again _ l (Nat.le_refl _)).2.2 h
  rw [bare_strip h]
  exact ⟨by rw [bare_strip h2, h1], h2⟩
theorem low_byte (b : UInt8) : plainB (Lib.lowerB b) = plainB b ∧ dashB (Lib.lowerB b) = dashB b ∧ dotB (Lib.lowerB b) = dotB b ∧ Lib.lowerB (Lib.lowerB b) = Lib.lowerB b := by
  have h : ∀ n : Fin 256, plainB (Lib.lowerB (UInt8.ofNat n)) = plainB (UInt8.ofNat n) ∧ dashB (Lib.lowerB (UInt8.ofNat n)) = dashB (UInt8.ofNat n) ∧ dotB (Lib.lowerB (UInt8.ofNat n)) = dotB (UInt8.ofNat n) ∧ Lib.lowerB (Lib.lowerB (UInt8.ofNat n)) = Lib.lowerB (UInt8.ofNat n) := by decide +kernel
  have := h ⟨b.toNat, b.toNat_lt⟩
  simpa using this
theorem low_strip : ∀ r : List UInt8, strip (r.map Lib.lowerB) = (strip r).map Lib.lowerB
  | [] => rfl
  | b :: r => by
    rw [List.map_cons, strip, strip, (low_byte b).2.2.1]
    by_cases h : dotB b = true ∧ r = []
    · rw [if_pos h, if_pos ⟨h.1, by rw [h.2]; rfl⟩]; rfl
    · rw [if_neg h, if_neg (fun e => h ⟨e.1, by simpa using e.2⟩), low_strip r]; rfl
theorem low_bare (l : List UInt8) : bare (l.map Lib.lowerB) = (bare l).map Lib.lowerB := by
  cases l with
  | nil => rfl
  | cons b r => rw [List.map_cons, bare, low_strip]; rfl
theorem low_machine : ∀ (n : Nat) (r : List UInt8), r.length ≤ n → mPlain (r.map Lib.lowerB) = mPlain r ∧ mDash (r.map Lib.lowerB) = mDash r ∧ mDot (r.map Lib.lowerB) = mDot r
  | n, [], _ => ⟨rfl, rfl, rfl⟩
  | 0, b :: r, h => by simp at h
  | n + 1, b :: r, hl => by
    obtain ⟨hP, hD, hS⟩ := low_machine n r (by simpa using hl)
    obtain ⟨q1, q2, q3, _⟩ := low_byte b
    refine ⟨?_, ?_, ?_⟩
    · rw [List.map_cons, mPlain, mPlain, q1, q2, q3, hP, hD, hS]
      simp
    · rw [List.map_cons, mDash, mDash, q1, q2, hP, hD]
    · rw [List.map_cons, mDot, mDot, q1, hP]
/-- A normal name is a name, and its own normal form. -/
theorem normF_nrm {l : List UInt8} (h : nameF l = 0) : normF (nrm l) = 0 := by
  obtain ⟨h20, hm⟩ := nameF_zero h
  obtain ⟨h1, h2⟩ := bare_again hm
  have hl := nrm_length l
  have e1 : mDot (nrm l) = true := by
    unfold nrm Lib.toLowerA
    rw [(low_machine _ _ (Nat.le_refl _)).2.2, h2]
  refine normF_yes (nameF_yes (by omega) e1) ?_
  show ((bare ((bare l).map Lib.lowerB)).map Lib.lowerB) = (bare l).map Lib.lowerB
  rw [low_bare, h1, List.map_map]
  exact List.map_congr_left fun b _ => (low_byte b).2.2.2
theorem valM_sum {p m : Int} (hp : sumB p = true) : sumB (valM p m) = true := by
  unfold valM
  split
  · obtain ⟨h0, h1⟩ := tagL_bd spkiS [p]
    simp only [sumB, decide_eq_true_eq]
    omega
  · exact hp
/-- What a supplied key (n, u, m, v) says of a name and a number. -/
def matchB (n : List UInt8) (u m v : Int) (l : List UInt8) (pb : Bool) (p : Int) : Bool :=
  decide (tlsaF n u m v = 0) && decide (nameF l = 0) && pb && decide (u = 3) && decide (n = nrm l) && decide (v = valM p m)
theorem matchB_for {n : List UInt8} {u m v : Int} {l : List UInt8} {pb : Bool} {p : Int} (hs : pb = true → sumB p = true) :
    matchB n u m v l pb p = (decide (forC l pb m = 0) && (decide (nrm l = n) && decide (3 = u) && decide (valM p m = v))) := by
  rw [Bool.eq_iff_iff]
  simp only [matchB, Bool.and_eq_true, decide_eq_true_eq]
  constructor
  · rintro ⟨⟨⟨⟨⟨h1, h2⟩, h3⟩, h4⟩, h5⟩, h6⟩
    obtain ⟨_, hb⟩ := tlsaF_zero h1
    rw [tlsaB_eq] at hb
    simp only [Bool.and_eq_true] at hb
    exact ⟨forC_yes h2 (by rw [h3, hb.1.2]; rfl), ⟨h5.symm, h4.symm⟩, h6.symm⟩
  · rintro ⟨h1, ⟨h2, h3⟩, h4⟩
    obtain ⟨k1, k2, k3⟩ := forC_zero h1
    subst h2
    subst h3
    subst h4
    refine ⟨⟨⟨⟨⟨tlsaF_yes (normF_nrm k1) ?_, k1⟩, k2⟩, rfl⟩, rfl⟩, rfl⟩
    rw [tlsaB_eq, k3, valM_sum (hs k2)]
    rfl
theorem normF_cases (l : List UInt8) : normF l = 0 ∨ normF l = 1 ∨ normF l = 2 ∨ normF l = 5 := by
  rcases nameF_cases l with h | h | h
  · exact .inr (.inr (.inl (by rw [normF_no (by rw [h]; omega), h])))
  · exact .inr (.inr (.inr (by rw [normF_no (by rw [h]; omega), h])))
  · by_cases hn : nrm l = l
    · exact .inl (normF_yes h hn)
    · exact .inr (.inl (normF_form h hn))
theorem tlsaF_cases (l : List UInt8) (u m v : Int) : tlsaF l u m v = 0 ∨ tlsaF l u m v = 1 ∨ tlsaF l u m v = 2 ∨ tlsaF l u m v = 3 ∨ tlsaF l u m v = 5 := by
  rcases normF_cases l with h | h | h | h
  · cases hb : tlsaB u m v
    · exact .inr (.inr (.inr (.inl (tlsaF_no h hb))))
    · exact .inl (tlsaF_yes h hb)
  · exact .inr (.inl (by rw [tlsaF_norm (by rw [h]; omega), h]))
  · exact .inr (.inr (.inl (by rw [tlsaF_norm (by rw [h]; omega), h])))
  · exact .inr (.inr (.inr (.inr (by rw [tlsaF_norm (by rw [h]; omega), h]))))
theorem tlsaF_parts {l : List UInt8} {u m v : Int} (h : tlsaF l u m v = 0) : useB u = true ∧ matB m = true ∧ sumB v = true := by
  obtain ⟨_, hb⟩ := tlsaF_zero h
  rw [tlsaB_eq] at hb
  simp only [Bool.and_eq_true] at hb
  exact ⟨hb.1.1, hb.1.2, hb.2⟩
theorem tlsaF_use {l : List UInt8} {u m v : Int} (h : tlsaF l u m v = 0) : u = 0 ∨ u = 1 ∨ u = 2 ∨ u = 3 := by
  have := (tlsaF_parts h).1
  simp only [useB, decide_eq_true_eq] at this
  omega
theorem tlsaF_sum {l : List UInt8} {u m v : Int} (h : tlsaF l u m v = 0) : sumB v = true := (tlsaF_parts h).2.2
end Go.Proofs.YtlodhleihnlchaaDoor.M
