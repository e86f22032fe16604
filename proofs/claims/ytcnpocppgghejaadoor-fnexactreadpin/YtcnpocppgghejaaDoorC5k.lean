/- Contracts of how supplied keys are read out of bytes, by the program and by its model. Conditions: as each theorem states. -/
import Derived.Test.YtcnpocppgghejaaDoorC5j
namespace Go.Proofs.YtcnpocppgghejaaDoor
open Go.RowKit
set_option maxRecDepth 100000
set_option linter.unusedVariables false

/-- The name that stands in bytes. -/
def keyNm (zs : List Int) : List UInt8 := (zs.drop 4).map fun z => UInt8.ofNat z.toNat
theorem keyNm_str (zs : List Int) : strOf (zs.drop 4) = M.bs (keyNm zs) := by
  rw [← M.bs_data (strOf _), strOf, strOf_data]
  simp [keyNm]
def keyF (zs : List Int) : Int := M.tlsaF (keyNm zs) (zs.getD 0 0) (zs.getD 1 0) (256 * zs.getD 2 0 + zs.getD 3 0)
def keyOk (zs : List Int) : Bool := decide (4 ≤ zs.length) && decide (keyF zs = 0)
abbrev keyT (zs : List Int) : Value := T5 (if keyOk zs then 0 else 5) (M.bs (if keyOk zs then keyNm zs else [])) (if keyOk zs then zs.getD 0 0 else 0) (if keyOk zs then zs.getD 1 0 else 0) (if keyOk zs then 256 * zs.getD 2 0 + zs.getD 3 0 else 0)
theorem keyT_no {zs : List Int} (h : keyOk zs = false) : keyT zs = T5 5 { data := #[] } 0 0 0 := by simp [keyT, h, M.bs]
theorem keyT_yes {zs : List Int} (h : keyOk zs = true) : keyT zs = T5 0 (M.bs (keyNm zs)) (zs.getD 0 0) (zs.getD 1 0) (256 * zs.getD 2 0 + zs.getD 3 0) := by simp [keyT, h]
theorem keyOk_short {zs : List Int} (h : zs.length < 5) : keyOk zs = false := by
  unfold keyOk
  by_cases h4 : 4 ≤ zs.length
  · have e : keyNm zs = [] := by
      unfold keyNm
      rw [List.drop_of_length_le (by omega)]
      rfl
    have : keyF zs = 5 := by
      unfold keyF
      rw [e]
      have h5 : M.nameF [] = 5 := by decide
      have h6 : M.normF [] = 5 := by rw [M.normF_no (by rw [h5]; omega), h5]
      rw [M.tlsaF_norm (by rw [h6]; omega), h6]
    rw [this]
    simp
  · simp [h4]
/-- A supplied key lies in a block of its own. -/
def KeyAt (V : World) (n : ByteArray) (u m x : Int) (v : Value) (wx : World) : Prop := ∃ g, v = .pointer (some ⟨g, 0, none⟩) ∧ At g (TL4 n u m x) wx ∧ Below V.heap.size V wx ∧ V.heap.size ≤ g

/-- No byte makes no text, wherever it is taken from. -/
theorem conv_none (a a' : Option Addr) (c c' : Nat) (w : World) (hc : c ≤ maxLen) (hc' : c' ≤ maxLen) : (convert 50 9 (.slice a 0 c)).run Tryd.prog w = (convert 50 9 (.slice a' 0 c')).run Tryd.prog w := by
  have hR : ∀ (a : Option Addr) (c : Nat), c ≤ maxLen → Row .u8 w 0 a 0 c [] := fun a c hc => ⟨rfl, (fun _ h => by cases h), Nat.zero_le _, hc, fun h => absurd h (by omega)⟩
  rw [conv_row (hR a c hc), conv_row (hR a' c' hc')]

end Go.Proofs.YtcnpocppgghejaaDoor
