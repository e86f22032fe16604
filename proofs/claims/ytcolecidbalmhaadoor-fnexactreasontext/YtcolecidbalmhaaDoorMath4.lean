/- Plain facts on records: what is wrong with one, its bytes, and how data is turned. No condition. -/
import Derived.Test.YtcolecidbalmhaaDoorMath2
namespace Go.Proofs.YtcolecidbalmhaaDoor.M

def kindB (v : Int) : Bool := decide (1 ≤ v ∧ v ≤ 9)
def recB (s k t : Int) : Bool := sumB s && kindB k && sumB t
/-- What is wrong with a record whose data has n bytes. -/
def recF (s k t : Int) (n : Nat) : Int := if recB s k t then (if 60 < n then 2 else 0) else 3
theorem recF_no {s k t : Int} {n : Nat} (h : recB s k t = false) : recF s k t n = 3 := by simp [recF, h]
theorem recF_long {s k t : Int} {n : Nat} (h : recB s k t = true) (hn : 60 < n) : recF s k t n = 2 := by simp [recF, h, hn]
theorem recF_yes {s k t : Int} {n : Nat} (h : recB s k t = true) (hn : ¬ 60 < n) : recF s k t n = 0 := by simp [recF, h, hn]
theorem recF_zero {s k t : Int} {n : Nat} (h : recF s k t n = 0) : sumB s = true ∧ kindB k = true ∧ sumB t = true ∧ n ≤ 60 := by
  unfold recF at h
  split at h
  · rename_i hb
    simp only [recB, Bool.and_eq_true] at hb
    split at h
    · omega
    · exact ⟨hb.1.1, hb.1.2, hb.2, by omega⟩
  · omega
theorem recF_ok {s k t : Int} {n : Nat} (hs : sumB s = true) (hk : kindB k = true) (ht : sumB t = true) (hn : n ≤ 60) : recF s k t n = 0 := recF_yes (by simp [recB, hs, hk, ht]) (by omega)
theorem recF_cases (s k t : Int) (n : Nat) : recF s k t n = 3 ∨ recF s k t n = 2 ∨ recF s k t n = 0 := by
  unfold recF
  split
  · split
    · exact .inr (.inl rfl)
    · exact .inr (.inr rfl)
  · exact .inl rfl
theorem kindB_bd {k : Int} (h : kindB k = true) : 1 ≤ k ∧ k ≤ 9 := by simpa [kindB] using h
theorem sumB_bd {k : Int} (h : sumB k = true) : 0 ≤ k ∧ k ≤ 65520 := by simpa [sumB] using h

/-- A record's bytes. -/
def packR (s k : Int) (zs : List Int) (t : Int) : List Int := two s ++ [k, (zs.length : Int)] ++ zs ++ two t
def packRL (s k : Int) (zs : List Int) (t : Int) : List Int := if recF s k t zs.length = 0 then packR s k zs t else []
theorem packR_length (s k : Int) (zs : List Int) (t : Int) : (packR s k zs t).length = zs.length + 6 := by simp [packR, two]
theorem packRL_length (s k : Int) (zs : List Int) (t : Int) : (packRL s k zs t).length ≤ 66 := by
  unfold packRL
  split
  · rename_i h
    have := (recF_zero h).2.2.2
    rw [packR_length]; omega
  · simp
theorem packR_byte {s k : Int} {zs : List Int} {t : Int} (hb : ∀ z ∈ zs, byteB z) (h : recF s k t zs.length = 0) : ∀ z ∈ packR s k zs t, byteB z := by
  obtain ⟨hs, hk, ht, hn⟩ := recF_zero h
  have hk' := kindB_bd hk
  intro z hz
  simp only [packR, List.mem_append, List.mem_cons, List.not_mem_nil, or_false] at hz
  rcases hz with ((hz | rfl | rfl) | hz) | hz
  · exact two_byte hs z hz
  · unfold byteB; omega
  · unfold byteB; omega
  · exact hb z hz
  · exact two_byte ht z hz
theorem packRL_byte {s k : Int} {zs : List Int} {t : Int} (hb : ∀ z ∈ zs, byteB z) : ∀ z ∈ packRL s k zs t, byteB z := by
  unfold packRL
  split
  · rename_i h; exact packR_byte hb h
  · intro z hz; cases hz

/-- The number at place i. -/
def at2 (zs : List Int) (i : Nat) : Int := 256 * zs.getD i 0 + zs.getD (i + 1) 0
def rdD (zs : List Int) : List Int := (zs.drop 4).take (zs.length - 6)
def rdL (zs : List Int) : Bool := decide (6 ≤ zs.length) && decide ((zs.length : Int) = 6 + zs.getD 3 0)
/-- These are the bytes of a record. -/
def rdB (zs : List Int) : Bool := rdL zs && decide (recF (at2 zs 0) (zs.getD 2 0) (at2 zs (zs.length - 2)) (zs.length - 6) = 0)
theorem rdD_length {zs : List Int} (h : 6 ≤ zs.length) : (rdD zs).length = zs.length - 6 := by simp [rdD]; omega
theorem rdD_mem {zs : List Int} : ∀ z ∈ rdD zs, z ∈ zs := fun _ hz => List.mem_of_mem_drop (List.mem_of_mem_take hz)
theorem rdB_len {zs : List Int} (h : rdB zs = true) : 6 ≤ zs.length ∧ (zs.length : Int) = 6 + zs.getD 3 0 ∧ recF (at2 zs 0) (zs.getD 2 0) (at2 zs (zs.length - 2)) (zs.length - 6) = 0 := by
  simp only [rdB, rdL, Bool.and_eq_true, decide_eq_true_eq] at h
  exact ⟨h.1.1, h.1.2, h.2⟩

theorem at2_two (n : Int) (xs ys : List Int) (h : sumB n = true) : at2 (xs ++ two n ++ ys) xs.length = n := by
  have hn := sumB_bd h
  have e1 : (xs ++ two n ++ ys).getD xs.length 0 = n / 256 := by simp [two, List.getD]
  have e2 : (xs ++ two n ++ ys).getD (xs.length + 1) 0 = n % 256 := by simp [two, List.getD]
  unfold at2
  rw [e1, e2]
  omega
theorem rdB_pack {s k : Int} {zs : List Int} {t : Int} (h : recF s k t zs.length = 0) : rdB (packR s k zs t) = true ∧ at2 (packR s k zs t) 0 = s ∧ (packR s k zs t).getD 2 0 = k ∧ rdD (packR s k zs t) = zs ∧ at2 (packR s k zs t) ((packR s k zs t).length - 2) = t := by
  obtain ⟨hs, hk, ht, hn⟩ := recF_zero h
  have e0 : at2 (packR s k zs t) 0 = s := by
    have := at2_two s [] ([k, (zs.length : Int)] ++ zs ++ two t) hs
    simpa [packR, List.append_assoc] using this
  have e2 : (packR s k zs t).getD 2 0 = k := by simp [packR, two, List.getD]
  have e3 : (packR s k zs t).getD 3 0 = zs.length := by simp [packR, two, List.getD]
  have hl := packR_length s k zs t
  have e4 : rdD (packR s k zs t) = zs := by
    unfold rdD
    rw [hl]
    simp [packR, two]
  have e5 : at2 (packR s k zs t) ((packR s k zs t).length - 2) = t := by
    have := at2_two t (two s ++ [k, (zs.length : Int)] ++ zs) [] ht
    rw [hl]
    simp only [List.append_nil] at this
    have e : (two s ++ [k, (zs.length : Int)] ++ zs).length = zs.length + 6 - 2 := by simp [two]
    rw [e] at this
    exact this
  refine ⟨?_, e0, e2, e4, e5⟩
  simp only [rdB, rdL, Bool.and_eq_true, decide_eq_true_eq]
  rw [e0, e2, e5, e3, hl]
  refine ⟨⟨by omega, by omega⟩, ?_⟩
  rw [show zs.length + 6 - 6 = zs.length by omega]
  exact h
theorem getD_nat {zs : List Int} {i : Nat} (hi : i < zs.length) : zs[i]? = some (zs.getD i 0) := by simp [List.getD, hi]
theorem two_at {x y : Int} (hy : byteB y) : two (256 * x + y) = [x, y] := by
  unfold byteB at hy
  simp only [two]
  congr 1
  · omega
  · congr 1
    omega
/-- What is read is written back. -/
theorem pack_rd {zs : List Int} (hb : ∀ z ∈ zs, byteB z) (h : rdB zs = true) : packR (at2 zs 0) (zs.getD 2 0) (rdD zs) (at2 zs (zs.length - 2)) = zs := by
  obtain ⟨h6, h3, -⟩ := rdB_len h
  have hbb : ∀ i, i < zs.length → byteB (zs.getD i 0) := fun i hi => hb _ (by simp [List.getD, hi])
  have hl := rdD_length h6
  unfold packR at2
  rw [two_at (hbb (0 + 1) (by omega)), two_at (hbb (zs.length - 2 + 1) (by omega)), hl]
  have hn : ((zs.length - 6 : Nat) : Int) = zs.getD 3 0 := by omega
  rw [hn]
  refine List.ext_getElem? fun i => ?_
  rcases Nat.lt_or_ge i 4 with h4 | h4
  · rw [List.append_assoc, List.append_assoc]
    match i, h4 with
    | 0, _ => simpa using (getD_nat (zs := zs) (i := 0) (by omega)).symm
    | 1, _ => simpa using (getD_nat (zs := zs) (i := 1) (by omega)).symm
    | 2, _ => simpa using (getD_nat (zs := zs) (i := 2) (by omega)).symm
    | 3, _ => simpa using (getD_nat (zs := zs) (i := 3) (by omega)).symm
  · rcases Nat.lt_or_ge i (zs.length - 2) with h5 | h5
    · rw [List.getElem?_append_left (by simp [hl]; omega), List.getElem?_append_right (by simp; omega)]
      simp only [List.length_append, List.length_cons, List.length_nil, rdD]
      rw [List.getElem?_take_of_lt (by omega), List.getElem?_drop]
      congr 1
      omega
    · rw [List.getElem?_append_right (by simp [hl]; omega)]
      simp only [List.length_append, List.length_cons, List.length_nil, hl]
      rcases Nat.lt_or_ge i zs.length with h7 | h7
      · have : i = zs.length - 2 ∨ i = zs.length - 2 + 1 := by omega
        rcases this with rfl | rfl
        · rw [show zs.length - 2 - (0 + 1 + 1 + (0 + 1 + 1) + (zs.length - 6)) = 0 by omega]
          simpa using (getD_nat (zs := zs) (i := zs.length - 2) (by omega)).symm
        · rw [show zs.length - 2 + 1 - (0 + 1 + 1 + (0 + 1 + 1) + (zs.length - 6)) = 1 by omega]
          simpa using (getD_nat (zs := zs) (i := zs.length - 2 + 1) (by omega)).symm
      · rw [List.getElem?_eq_none (by simp; omega), List.getElem?_eq_none (by omega)]

/-- Two records are one. -/
def sameR (s k : Int) (zs : List Int) (t : Int) (s' k' : Int) (zs' : List Int) (t' : Int) : Bool := (s == s') && (k == k') && (t == t') && decide (zs = zs')
end Go.Proofs.YtcolecidbalmhaaDoor.M
