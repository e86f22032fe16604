/- Contracts of normal names, by the program and by its model. Conditions: as each theorem states. -/
import Derived.Test.YtlodhleihnlchaaDoorC5c
import Derived.Test.YtlodhleihnlchaaDoorShelf
import Derived.Test.YtlodhleihnlchaaDoorG2
namespace Go.Proofs.YtlodhleihnlchaaDoor
open Go.RowKit Go.Shelf
set_option maxRecDepth 100000
set_option linter.unusedVariables false

theorem lower_extra : Builder.Extra Tryd.prog lays159_ren :=
  { sizeBuilder := by kernel_rfl, liesBuilder := by kernel_rfl, t5 := lays159.t5, a5 := lays159.a5, z5 := lays159.z5, v5 := lays159.v5, infoByte := by kernel_rfl, cellsByte := by kernel_rfl, sizeByte := by kernel_rfl, neB5 := by decide }
theorem toLower_any (s : ByteArray) (w : World) (hs : s.size ≤ 140737488355328) (ha : ∀ (j : Nat) (b : UInt8), s.data.toList[j]? = some b → b.toNat < 128) :
    Calls Tryd.prog 63 #[.string s] w fun e w' => e = .returned (.string ⟨(Lib.toLowerA s.data.toList).toArray⟩) ∧ Below w.heap.size w w' :=
  Any.strings_ToLower_ascii lays159 lower_extra s w hs ha
theorem trimSuffix_any (s p : ByteArray) (w : World) (hs : s.size ≤ 9223372036854775807) :
    Calls Tryd.prog 64 #[.string s, .string p] w fun e w' => e = .returned (.string ⟨(Lib.trimSuffix s.data.toList p.data.toList).toArray⟩) ∧ w' = w :=
  Any.strings_TrimSuffix lays102 s p w hs

theorem normalText_any (s : ByteArray) (w : World) (hs : s.size ≤ 20) (hm : M.mDot s.data.toList = true) :
    Calls Tryd.prog 51 #[.string s] w fun e w' => e = .returned (.string (M.bs (M.nrm s.data.toList))) ∧ Below w.heap.size w w' := by
  have hL : s.data.toList.length = s.size := by simp
  have T1 : ∀ w, Calls Tryd.prog 64 #[.string s, .string { data := #[46] }] w fun e w' => e = .returned (.string (M.bs (M.bare s.data.toList))) ∧ w = w' := fun w =>
    (trimSuffix_any s { data := #[46] } w (by omega)).mono fun e w' h => by
      obtain ⟨rfl, rfl⟩ := h
      refine ⟨?_, rfl⟩
      rw [← M.bare_trim hm]
      rfl
  have hbl := M.bare_length s.data.toList
  have T2 : ∀ w, Calls Tryd.prog 63 #[.string (M.bs (M.bare s.data.toList))] w fun e w' => e = .returned (.string (M.bs (M.nrm s.data.toList))) ∧ Below w.heap.size w w' := fun w =>
    (toLower_any (M.bs (M.bare s.data.toList)) w (by rw [M.bs_size]; omega) (by rw [M.bs_list]; exact M.bare_ascii hm)).mono fun e w' h => by
      obtain ⟨rfl, hb⟩ := h
      refine ⟨?_, hb⟩
      rw [M.bs_list]
      rfl
  generalize M.bs (M.nrm s.data.toList) = R at *
  generalize M.bs (M.bare s.data.toList) = B at *
  clear hm hbl hL
  go_enter Tryd.func51, Tryd.ntmps51
  go_wp2_with fail
  refine (T1 _).mono ?_
  rintro r w' ⟨rfl, rfl⟩
  go_wp2_with fail
  refine (T2 _).mono ?_
  rintro r w1 ⟨rfl, hb⟩
  go_wp2_with fail
  go_ret
  exact ⟨rfl, hb⟩
end Go.Proofs.YtlodhleihnlchaaDoor
