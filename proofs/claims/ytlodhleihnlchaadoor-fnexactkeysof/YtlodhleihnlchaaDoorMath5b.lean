/- Plain facts on normal names that are made byte by byte, and on supplied keys. No condition. -/
import Derived.Test.YtlodhleihnlchaaDoorMath5
namespace Go.Proofs.YtlodhleihnlchaaDoor.M

def lowI (z : Int) : Int := if 65 ≤ z ∧ z ≤ 90 then z + 32 else z
def lowK (zs : List Int) (k : Nat) : List Int := (zs.take k).map lowI ++ zs.drop k
theorem lowK_zero (zs : List Int) : lowK zs 0 = zs := by simp [lowK]
theorem lowK_length (zs : List Int) (k : Nat) : (lowK zs k).length = zs.length := by
  simp [lowK]; omega
theorem lowK_at (zs : List Int) (k : Nat) (z : Int) (h : zs[k]? = some z) : (lowK zs k)[k]? = some z := by
  have hk := (List.getElem?_eq_some_iff.1 h).1
  unfold lowK
  rw [List.getElem?_append_right (by simp; omega), List.length_map, List.length_take, Nat.min_eq_left (by omega), Nat.sub_self, List.getElem?_drop]
  simpa using h
theorem lowK_next (zs : List Int) (k : Nat) (z : Int) (h : zs[k]? = some z) : lowK zs (k + 1) = (lowK zs k).set k (lowI z) := by
  have hk := (List.getElem?_eq_some_iff.1 h).1
  unfold lowK
  rw [List.set_append_right _ _ (by simp; omega), List.length_map, List.length_take, Nat.min_eq_left (by omega), Nat.sub_self, List.take_add_one, h]
  have e : zs.drop k = z :: zs.drop (k + 1) := by rw [List.drop_eq_getElem_cons hk]; congr 1; rw [List.getElem?_eq_getElem hk] at h; exact Option.some.inj h
  rw [e]
  simp
theorem set_same {l : List Int} {k : Nat} {z : Int} (h : l[k]? = some z) : l.set k z = l := by
  obtain ⟨hk, e⟩ := List.getElem?_eq_some_iff.1 h
  rw [← e]
  exact List.set_getElem_self hk
theorem lowK_all (zs : List Int) : lowK zs zs.length = zs.map lowI := by simp [lowK]
theorem lowI_byte (b : UInt8) : lowI (b.toNat : Int) = ((Lib.lowerB b).toNat : Int) := by
  unfold lowI
  by_cases h : Lib.isUpperB b = true
  · rw [Lib.lowerB_int b h, if_pos]
    rw [Lib.isUpperB_int] at h
    simpa using h
  · have h' : Lib.isUpperB b = false := by simpa using h
    rw [Lib.lowerB_of_not b h', if_neg]
    rw [Lib.isUpperB_int] at h
    simpa using h
theorem low_text (l : List UInt8) : (textL (bs l)).map lowI = (Lib.toLowerA l).map fun b => (b.toNat : Int) := by
  unfold textL Lib.toLowerA
  rw [bs_list, List.map_map, List.map_map]
  exact List.map_congr_left fun b _ => lowI_byte b
/-- The text that is answered beside a code. -/
def nrmT (l : List UInt8) : List UInt8 := if nameF l = 0 then nrm l else []
theorem nrmT_yes {l : List UInt8} (h : nameF l = 0) : nrmT l = nrm l := by simp [nrmT, h]
theorem nrmT_no {l : List UInt8} (h : ¬ nameF l = 0) : nrmT l = [] := by simp [nrmT, h]
theorem normF_no {l : List UInt8} (h : ¬ nameF l = 0) : normF l = nameF l := by simp [normF, h]
theorem normF_form {l : List UInt8} (h : nameF l = 0) (hn : ¬ nrm l = l) : normF l = 1 := by simp [normF, h, hn]
theorem normF_yes {l : List UInt8} (h : nameF l = 0) (hn : nrm l = l) : normF l = 0 := by simp [normF, h, hn]
theorem tlsaF_norm {l : List UInt8} {u m v : Int} (h : ¬ normF l = 0) : tlsaF l u m v = normF l := by simp [tlsaF, h]
theorem tlsaF_no {l : List UInt8} {u m v : Int} (h : normF l = 0) (hb : tlsaB u m v = false) : tlsaF l u m v = 3 := by simp [tlsaF, h, hb]
theorem tlsaF_yes {l : List UInt8} {u m v : Int} (h : normF l = 0) (hb : tlsaB u m v = true) : tlsaF l u m v = 0 := by simp [tlsaF, h, hb]
def useB (u : Int) : Bool := decide (0 ≤ u ∧ u ≤ 3)
def matB (m : Int) : Bool := decide (0 ≤ m ∧ m ≤ 1)
theorem tlsaB_eq (u m v : Int) : tlsaB u m v = (useB u && matB m && sumB v) := rfl
/-- The number that a supplied key has for a public number. -/
def valM (p m : Int) : Int := if m = 1 then tagL spkiS [p] else p
/-- What TlsaFor answers; 'pb' tells whether the number is a public one. -/
def forC (l : List UInt8) (pb : Bool) (m : Int) : Int := if nameF l = 0 then (if pb && matB m then 0 else 3) else nameF l
def forN (l : List UInt8) (pb : Bool) (m : Int) : List UInt8 := if forC l pb m = 0 then nrm l else []
def forU (l : List UInt8) (pb : Bool) (m : Int) : Int := if forC l pb m = 0 then 3 else 0
def forM (l : List UInt8) (pb : Bool) (m : Int) : Int := if forC l pb m = 0 then m else 0
def forV (l : List UInt8) (pb : Bool) (p m : Int) : Int := if forC l pb m = 0 then valM p m else 0
theorem forC_name {l : List UInt8} {pb : Bool} {m : Int} (h : ¬ nameF l = 0) : forC l pb m = nameF l := by simp [forC, h]
theorem forC_no {l : List UInt8} {pb : Bool} {m : Int} (h : nameF l = 0) (hb : (pb && matB m) = false) : forC l pb m = 3 := by simp [forC, h, hb]
theorem forC_yes {l : List UInt8} {pb : Bool} {m : Int} (h : nameF l = 0) (hb : (pb && matB m) = true) : forC l pb m = 0 := by simp [forC, h, hb]
theorem forC_zero {l : List UInt8} {pb : Bool} {m : Int} (h : forC l pb m = 0) : nameF l = 0 ∧ pb = true ∧ matB m = true := by
  unfold forC at h
  split at h
  · rename_i h0
    split at h
    · rename_i h1
      simp only [Bool.and_eq_true] at h1
      exact ⟨h0, h1.1, h1.2⟩
    · omega
  · exact absurd h (by assumption)
theorem matB_cases {m : Int} (h : matB m = true) : m = 0 ∨ m = 1 := by
  simp only [matB, decide_eq_true_eq] at h
  omega
end Go.Proofs.YtlodhleihnlchaaDoor.M
