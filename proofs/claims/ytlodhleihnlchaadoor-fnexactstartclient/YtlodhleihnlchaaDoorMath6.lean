/- Plain facts on words of a greeting: what is wrong with them, and the bytes that they are laid into. No condition beside what each theorem states. -/
import Derived.Test.YtlodhleihnlchaaDoorMath5c
import Derived.Test.YtlodhleihnlchaaDoorMath3
namespace Go.Proofs.YtlodhleihnlchaaDoor
set_option linter.unusedVariables false

/-- What is wrong with a hello; with a reply. -/
def helF (l : List UInt8) (r s : Int) : Int := if M.sumB r && pubB s then M.normF l else 3
def repF (r s p x y f : Int) : Int := if M.sumB r && pubB s && pubB p && M.sumB f then M.sigF x y else 3
theorem helF_no {l : List UInt8} {r s : Int} (h : (M.sumB r && pubB s) = false) : helF l r s = 3 := by simp [helF, h]
theorem helF_yes {l : List UInt8} {r s : Int} (h : (M.sumB r && pubB s) = true) : helF l r s = M.normF l := by simp [helF, h]
theorem helF_zero {l : List UInt8} {r s : Int} (h : helF l r s = 0) : M.sumB r = true ∧ pubB s = true ∧ M.normF l = 0 := by
  cases hc : (M.sumB r && pubB s)
  · rw [helF_no hc] at h
    omega
  · rw [helF_yes hc] at h
    simp only [Bool.and_eq_true] at hc
    exact ⟨hc.1, hc.2, h⟩
theorem repF_no {r s p x y f : Int} (h : (M.sumB r && pubB s && pubB p && M.sumB f) = false) : repF r s p x y f = 3 := by simp [repF, h]
theorem repF_yes {r s p x y f : Int} (h : (M.sumB r && pubB s && pubB p && M.sumB f) = true) : repF r s p x y f = M.sigF x y := by simp [repF, h]
theorem repF_zero {r s p x y f : Int} (h : repF r s p x y f = 0) : M.sumB r = true ∧ pubB s = true ∧ pubB p = true ∧ M.sumB f = true ∧ M.sigB x y = true := by
  cases hc : (M.sumB r && pubB s && pubB p && M.sumB f)
  · rw [repF_no hc] at h
    omega
  · rw [repF_yes hc] at h
    simp only [Bool.and_eq_true] at hc
    refine ⟨hc.1.1.1, hc.1.1.2, hc.1.2, hc.2, ?_⟩
    unfold M.sigF at h
    split at h
    · assumption
    · omega
theorem pub_bd {p : Int} (h : pubB p = true) : 0 ≤ p ∧ p ≤ 2878 := by
  simp only [pubB, inB, Bool.and_eq_true, decide_eq_true_eq] at h
  omega
theorem pub_sum6 {p : Int} (h : pubB p = true) : M.sumB p = true := by
  have := pub_bd h
  simp only [M.sumB, decide_eq_true_eq]
  omega
theorem hel_size {n : ByteArray} {r s : Int} (h : helF n.data.toList r s = 0) : n.size ≤ 20 := by
  have h4 := (M.nameF_zero (M.normF_zero (helF_zero h).2.2).1).1
  have hL : n.data.toList.length = n.size := by simp
  omega
/-- The bytes ahead of a hello's name; the bytes of a hello. -/
def helHead (r s : Int) : List Int := [1] ++ M.two r ++ M.two s
def packH (n : ByteArray) (r s : Int) : List Int := helHead r s ++ M.textL n
def packHL (n : ByteArray) (r s : Int) : List Int := if helF n.data.toList r s = 0 then packH n r s else []
/-- The bytes ahead of a reply's signature; the bytes of a reply. -/
def frontR (r s p : Int) : List Int := [2] ++ M.two r ++ M.two s ++ M.two p
def packR (r s p x y f : Int) : List Int := frontR r s p ++ (M.two x ++ M.two y) ++ M.two f
def packRL (r s p x y f : Int) : List Int := if repF r s p x y f = 0 then packR r s p x y f else []
theorem helHead_length (r s : Int) : (helHead r s).length = 5 := rfl
theorem frontR_length (r s p : Int) : (frontR r s p).length = 7 := rfl
theorem packR_length (r s p x y f : Int) : (packR r s p x y f).length = 13 := rfl
theorem packH_length (n : ByteArray) (r s : Int) : (packH n r s).length = 5 + n.size := by
  unfold packH
  rw [List.length_append, helHead_length, M.textL_length]
theorem two_byte {v : Int} (h : M.sumB v = true) : ∀ z ∈ M.two v, M.byteB z := by
  intro z hz
  simp only [M.sumB, decide_eq_true_eq] at h
  simp only [M.two, List.mem_cons, List.not_mem_nil, or_false] at hz
  unfold M.byteB
  omega
theorem packH_byte {n : ByteArray} {r s : Int} (h : helF n.data.toList r s = 0) : ∀ z ∈ packH n r s, M.byteB z := by
  intro z hz
  obtain ⟨h1, h2, -⟩ := helF_zero h
  simp only [packH, helHead, List.mem_append] at hz
  rcases hz with ((hz | hz) | hz) | hz
  · simp only [List.mem_cons, List.not_mem_nil, or_false] at hz
    unfold M.byteB
    omega
  · exact two_byte h1 z hz
  · exact two_byte (pub_sum6 h2) z hz
  · exact M.textL_byte n z hz
theorem sig_sums {x y : Int} (h : M.sigB x y = true) : M.sumB x = true ∧ M.sumB y = true := by
  have := M.sigB_bd h
  simp only [M.sumB, decide_eq_true_eq]
  omega
theorem packR_byte {r s p x y f : Int} (h : repF r s p x y f = 0) : ∀ z ∈ packR r s p x y f, M.byteB z := by
  intro z hz
  obtain ⟨h1, h2, h3, h4, h5⟩ := repF_zero h
  obtain ⟨h6, h7⟩ := sig_sums h5
  simp only [packR, frontR, List.mem_append] at hz
  rcases hz with ((((hz | hz) | hz) | hz) | (hz | hz)) | hz
  · simp only [List.mem_cons, List.not_mem_nil, or_false] at hz
    unfold M.byteB
    omega
  · exact two_byte h1 z hz
  · exact two_byte (pub_sum6 h2) z hz
  · exact two_byte (pub_sum6 h3) z hz
  · exact two_byte h6 z hz
  · exact two_byte h7 z hz
  · exact two_byte h4 z hz
theorem packHL_len (n : ByteArray) (r s : Int) : (packHL n r s).length ≤ 25 := by
  unfold packHL
  split
  · rename_i h
    have hb := hel_size h
    rw [packH_length]
    omega
  · simp
theorem packHL_byte (n : ByteArray) (r s : Int) : ∀ z ∈ packHL n r s, M.byteB z := by
  intro z hz
  unfold packHL at hz
  split at hz
  · rename_i h
    exact packH_byte h z hz
  · cases hz
theorem packRL_len (r s p x y f : Int) : (packRL r s p x y f).length ≤ 13 := by
  unfold packRL
  split
  · rw [packR_length]
    omega
  · simp
theorem packRL_byte (r s p x y f : Int) : ∀ z ∈ packRL r s p x y f, M.byteB z := by
  intro z hz
  unfold packRL at hz
  split at hz
  · rename_i h
    exact packR_byte h z hz
  · cases hz

/-- What bytes say, read as a hello; as a reply. -/
def helNm (zs : List Int) : List UInt8 := (zs.drop 5).map fun z => UInt8.ofNat z.toNat
def tw (zs : List Int) (i : Nat) : Int := 256 * zs.getD i 0 + zs.getD (i + 1) 0
def helB (zs : List Int) : Bool := decide (helF (helNm zs) (tw zs 1) (tw zs 3) = 0)
def helOk (zs : List Int) : Bool := decide (5 ≤ zs.length) && decide (zs.getD 0 0 = 1) && helB zs
def repB (zs : List Int) : Bool := decide (repF (tw zs 1) (tw zs 3) (tw zs 5) (tw zs 7) (tw zs 9) (tw zs 11) = 0)
def repOk (zs : List Int) : Bool := decide (zs.length = 13) && decide (zs.getD 0 0 = 2) && repB zs
theorem not_both {zs : List Int} (h : helOk zs = true) : repOk zs = false := by
  simp only [helOk, Bool.and_eq_true, decide_eq_true_eq] at h
  unfold repOk
  rw [h.1.2]
  simp
theorem helOk_short {zs : List Int} (h : zs.length < 6) : helOk zs = false := by
  unfold helOk
  by_cases h5 : 5 ≤ zs.length
  · have e : helNm zs = [] := by
      unfold helNm
      rw [List.drop_of_length_le (by omega)]
      rfl
    have : helB zs = false := by
      unfold helB
      rw [e, decide_eq_false_iff_not]
      intro h0
      have h5 : M.nameF [] = 5 := by decide
      have h6 : M.normF [] = 5 := by rw [M.normF_no (by rw [h5]; omega), h5]
      have := (helF_zero h0).2.2
      omega
    rw [this]
    simp
  · simp [h5]
end Go.Proofs.YtlodhleihnlchaaDoor
