/- Contracts of the draws of public numbers, keys and inverses. Conditions: as each theorem states. -/
import Derived.Test.YtjlhldndomaknaaDoorD1
import Derived.Test.YtjlhldndomaknaaDoorC1c
import Derived.Test.YtjlhldndomaknaaDoorMathG
namespace Go.Proofs.YtjlhldndomaknaaDoor
open Go.RowKit

def DSecret (w0 : World) (a : Option Addr) (len cap : Nat) (zs : List Int) (p : Nat) (r : Ending) (w' : World) : Prop :=
  ∃ v : Int, 1 ≤ v ∧ v ≤ 1438 ∧ r = .returned (.int .i64 v) ∧ Draw w0 a len cap zs (p + 1) w'
theorem dsecret {w0 : World} {a : Option Addr} {len cap : Nat} {zs : List Int} {p : Nat} {w : World} (D : Draw w0 a len cap zs p w) (hp : p ≤ 1000000) :
    Calls Tryd.prog 103 #[.pointer (some ⟨w0.heap.size, 0, none⟩)] w (DSecret w0 a len cap zs p) := by
  go_enter Tryd.func103, Tryd.ntmps103
  go_wp2_with fail
  refine (dnext _ D hp).mono ?_
  rintro r w2 ⟨x, x0, x1, rfl, D2, O2⟩
  have x2 : x < 1438 := by omega
  clear O2 x1 D
  go_wp2_with fail
  go_ret
  exact ⟨1 + x, by omega, by omega, rfl, D2⟩

theorem kfld0 (a b : Int) (w : World) : Sem.run Tryd.prog (Instr.field 59 (.agg #[.int .i64 a, .int .i64 b]) 0) w = .ok (.int .i64 a) w := by kernel_rfl
theorem kfld1 (a b : Int) (w : World) : Sem.run Tryd.prog (Instr.field 59 (.agg #[.int .i64 a, .int .i64 b]) 1) w = .ok (.int .i64 b) w := by kernel_rfl

def Secreted (w : World) (r : Ending) (w' : World) : Prop := ∃ v : Int, 1 ≤ v ∧ v ≤ 1438 ∧ r = .returned (.int .i64 v) ∧ Below w.heap.size w w'
theorem invR_form (v : Int) : invR v = (3, 0) ∨ (1 ≤ v ∧ v ≤ 2878 ∧ ∃ V, invR v = (0, V) ∧ 1 ≤ V ∧ V ≤ 2878 ∧ mulR v V 2879 = (0, 1) ∧ invR V = (0, v)) := by
  cases h : inB v 1 2878
  · exact .inl (by simp [invR, h])
  · have h' := h
    simp only [inB, decide_eq_true_eq] at h'
    refine .inr ⟨h'.1, h'.2, M.pw v 2877 2879, by simp [invR, h], ?_⟩
    have b := M.inv_pos h'.1 h'.2
    refine ⟨b.1, b.2, ?_, ?_⟩
    · have : restB v 2879 = true ∧ restB (M.pw v 2877 2879) 2879 = true := by simp only [restB, decide_eq_true_eq]; omega
      simp only [mulR, this.1, this.2, Bool.and_self, if_true, M.inv_mul h'.1 h'.2]
    · have : inB (M.pw v 2877 2879) 1 2878 = true := by simp only [inB, decide_eq_true_eq]; omega
      simp only [invR, this, if_true, M.inv_inv h'.1 h'.2]

theorem pub_base {a : Int} (a0 : 1 ≤ a) (a1 : a ≤ 1438) : pubB (M.pw 4 a.toNat 2879) = true := by
  have h := M.base_pub a.toNat (by omega) (by omega)
  simp only [pubB, inB, Bool.and_eq_true, decide_eq_true_eq, beq_iff_eq]
  exact ⟨h, M.base_raised _⟩
theorem pub_shared {a b : Int} (a0 : 1 ≤ a) (a1 : a ≤ 1438) (b0 : 1 ≤ b) (b1 : b ≤ 1438) : pubB (M.pw (M.pw 4 b.toNat 2879) a.toNat 2879) = true := by
  have h := M.shared_bd (a := a.toNat) (b := b.toNat) (by omega) (by omega) (by omega) (by omega)
  simp only [pubB, inB, Bool.and_eq_true, decide_eq_true_eq, beq_iff_eq]
  exact ⟨h, M.shared_raised _ _⟩

end Go.Proofs.YtjlhldndomaknaaDoor
