/- Contracts of how supplied keys are laid into bytes, by the program and by its model. Conditions: as each theorem states. -/
import Derived.Test.YtmdknbgpddnplaaDoorC5g
import Derived.Test.YtmdknbgpddnplaaDoorMath5c
import Derived.Deep.CutRange
namespace Go.Proofs.YtmdknbgpddnplaaDoor
open Go.RowKit
set_option maxRecDepth 100000
set_option linter.unusedVariables false

/-- The bytes ahead of a supplied key's name. -/
def headT (u m v : Int) : List Int := [u, m] ++ M.two v
theorem headT_length (u m v : Int) : (headT u m v).length = 4 := rfl
def HeadT (V : World) (zs : List Int) (v : Value) (wx : World) : Prop := OwnK .u8 wx V.heap.size v zs ∧ Below V.heap.size V wx
/-- The bytes of a supplied key. -/
def packT (n : ByteArray) (u m v : Int) : List Int := headT u m v ++ M.textL n
def packTL (n : ByteArray) (u m v : Int) : List Int := if M.tlsaF n.data.toList u m v = 0 then packT n u m v else []
theorem tlsa_bounds {n : ByteArray} {u m v : Int} (h : M.tlsaF n.data.toList u m v = 0) : n.size ≤ 20 ∧ 0 ≤ u ∧ u ≤ 3 ∧ 0 ≤ m ∧ m ≤ 1 ∧ M.sumB v = true := by
  obtain ⟨h1, h2, h3⟩ := M.tlsaF_parts h
  have h4 := (M.nameF_zero (M.normF_zero (M.tlsaF_zero h).1).1).1
  have hL : n.data.toList.length = n.size := by simp
  simp only [M.useB, M.matB, decide_eq_true_eq] at h1 h2
  exact ⟨by omega, h1.1, h1.2, h2.1, h2.2, h3⟩
theorem text_src (w : World) (s : ByteArray) (hs : s.size ≤ maxLen) :
    Src Tryd.prog 1 75 (.slice (some ⟨w.heap.size, 0, none⟩) s.size (grownCap w s.size 0 5)) s.size ((M.textL s).map (Value.int .u8)) (w.alloc (textObj w s 5)).drew := by
  have R := Own.row (own_text w s 5 hs) (fun z hz => byte_wf (M.textL_byte s z hz))
  have R2 : Row .u8 (w.alloc (textObj w s 5)).drew (w.alloc (textObj w s 5)).heap.size (some ⟨w.heap.size, 0, none⟩) s.size (grownCap w s.size 0 5) (M.textL s) := R.keep (fun _ _ => rfl)
  exact R2.src Tryd.underlying75

end Go.Proofs.YtmdknbgpddnplaaDoor
