/- Contracts of the draws of public numbers, keys and inverses. Conditions: as each theorem states. -/
import Derived.Test.YtbjenjmnjlhoeaaD1
import Derived.Test.YtbjenjmnjlhoeaaC1c
import Derived.Test.YtbjenjmnjlhoeaaMathG
namespace Go.Proofs.Ytbjenjmnjlhoeaa
open Go.RowKit

theorem DrawInverseOf_any {a : Option Addr} {len cap : Nat} {zs : List Int} {w : World} (hR : Row .u8 w w.heap.size a len cap zs) :
    Calls Try.prog 21 #[.slice a len cap] w (Drawn1 w) := by
  go_enter Try.func21, Try.ntmps21
  go_wp2_with fail
  refine (dsource hR).mono ?_
  rintro r w1 ⟨rfl, D⟩
  go_wp2_with fail
  refine (dnext _ D (by omega)).mono ?_
  rintro r w2 ⟨x, x0, x1, rfl, D2, O2⟩
  go_wp2_with fail
  refine (dpick [x - 1, 0, 2878, 2879] 4 D2 (by omega) (by omega) (by omega) rfl 2).mono ?_
  rintro r w3 ⟨m, hm, rfl, D3, O3⟩
  have HD := Lib.hid D3.bel
  clear hm D D2 D3 O2 O3 x0 x1
  go_wp2_with fail
  go_ret
  exact ⟨_, rfl, HD.out⟩

theorem DrawIsPublic_any {a : Option Addr} {len cap : Nat} {zs : List Int} {w : World} (hR : Row .u8 w w.heap.size a len cap zs) :
    Calls Try.prog 23 #[.slice a len cap] w (Drawn1 w) := by
  go_enter Try.func23, Try.ntmps23
  go_wp2_with fail
  refine (dsource hR).mono ?_
  rintro r w1 ⟨rfl, D⟩
  go_wp2_with fail
  refine (dnext _ D (by omega)).mono ?_
  rintro r w2 ⟨x, x0, x1, rfl, D2, O2⟩
  go_wp2_with fail
  refine (dpick [x - 1, 1, 4, 2878, 16] 5 D2 (by omega) (by omega) (by omega) rfl 2).mono ?_
  rintro r w3 ⟨m, hm, rfl, D3, O3⟩
  have HD := Lib.hid D3.bel
  clear hm D D2 D3 O2 O3 x0 x1
  go_wp2_with fail
  go_ret
  exact ⟨_, rfl, HD.out⟩

def DSecret (w0 : World) (a : Option Addr) (len cap : Nat) (zs : List Int) (p : Nat) (r : Ending) (w' : World) : Prop :=
  ∃ v : Int, 1 ≤ v ∧ v ≤ 1438 ∧ r = .returned (.int .i64 v) ∧ Draw w0 a len cap zs (p + 1) w'
theorem dsecret {w0 : World} {a : Option Addr} {len cap : Nat} {zs : List Int} {p : Nat} {w : World} (D : Draw w0 a len cap zs p w) (hp : p ≤ 1000000) :
    Calls Try.prog 49 #[.pointer (some ⟨w0.heap.size, 0, none⟩)] w (DSecret w0 a len cap zs p) := by
  go_enter Try.func49, Try.ntmps49
  go_wp2_with fail
  refine (dnext _ D hp).mono ?_
  rintro r w2 ⟨x, x0, x1, rfl, D2, O2⟩
  have x2 : x < 1438 := by omega
  clear O2 x1 D
  go_wp2_with fail
  go_ret
  exact ⟨1 + x, by omega, by omega, rfl, D2⟩

theorem DrawKeyOf_any {a : Option Addr} {len cap : Nat} {zs : List Int} {w : World} (hR : Row .u8 w w.heap.size a len cap zs) :
    Calls Try.prog 29 #[.slice a len cap] w (Drawn1 w) := by
  go_enter Try.func29, Try.ntmps29
  go_wp2_with fail
  refine (dsource hR).mono ?_
  rintro r w1 ⟨rfl, D⟩
  go_wp2_with fail
  refine (dsecret D (by omega)).mono ?_
  rintro r w2 ⟨x, x0, x1, rfl, D2⟩
  go_wp2_with fail
  refine (dpick [x, 0, 1438, 1439, -1] 5 D2 (by omega) (by omega) (by omega) rfl 2).mono ?_
  rintro r w3 ⟨m, hm, rfl, D3, O3⟩
  have HD := Lib.hid D3.bel
  clear hm D D2 D3 O3 x0 x1
  go_wp2_with fail
  go_ret
  exact ⟨_, rfl, HD.out⟩

theorem kfld0 (a b : Int) (w : World) : Sem.run Try.prog (Instr.field 35 (.agg #[.int .i64 a, .int .i64 b]) 0) w = .ok (.int .i64 a) w := by kernel_rfl
theorem kfld1 (a b : Int) (w : World) : Sem.run Try.prog (Instr.field 35 (.agg #[.int .i64 a, .int .i64 b]) 1) w = .ok (.int .i64 b) w := by kernel_rfl

theorem DrawSharedOf_any {a : Option Addr} {len cap : Nat} {zs : List Int} {w : World} (hR : Row .u8 w w.heap.size a len cap zs) :
    Calls Try.prog 30 #[.slice a len cap] w (Drawn2 w) := by
  have g1 := kfld1
  go_enter Try.func30, Try.ntmps30
  go_wp2_with fail
  refine (dsource hR).mono ?_
  rintro r w1 ⟨rfl, D⟩
  go_wp2_with fail
  refine (dsecret D (by omega)).mono ?_
  rintro r w2 ⟨x, x0, x1, rfl, D2⟩
  go_wp2_with fail
  refine (dpick [x, 0, 1439] 3 D2 (by omega) (by omega) (by omega) rfl 2).mono ?_
  rintro r w3 ⟨m, hm, rfl, D3, O3⟩
  have HM := Lib.hid hm
  clear hm O3
  go_wp2_with fail
  refine (dsecret D3 (by omega)).mono ?_
  rintro r w4 ⟨y, y0, y1, rfl, D4⟩
  go_wp2_with fail
  refine (l1Key_any _ _ (by omega) (by omega)).mono ?_
  rintro r w5 ⟨rfl, hb5⟩
  have D5 := D4.below hb5
  go_wp2_with fail
  refine (dpick [M.pw 4 y.toNat 2879, 1, 2878, 5] 4 D5 (by omega) (by omega) (by omega) rfl 2).mono ?_
  rintro r w6 ⟨k, hk, rfl, D6, O6⟩
  have HD := Lib.hid D6.bel
  clear hk D D2 D3 D4 D5 D6 O6 x0 x1 y0 y1 hb5
  go_wp2_with fail
  go_ret2
  exact ⟨_, _, rfl, HD.out⟩

def Secreted (w : World) (r : Ending) (w' : World) : Prop := ∃ v : Int, 1 ≤ v ∧ v ≤ 1438 ∧ r = .returned (.int .i64 v) ∧ Below w.heap.size w w'
theorem lwSecret_any (p : Nat) {a : Option Addr} {len cap B : Nat} {zs : List Int} {w : World} (hR : Row .u8 w B a len cap zs) (hp : p ≤ 1000) :
    Calls Try.prog 27 #[.slice a len cap, .int .i64 p] w (Secreted w) := by
  go_enter Try.func27, Try.ntmps27
  go_wp2_with fail
  refine (lwAt_any p 1438 _ _ _ _ _ _ hR hp).mono ?_
  rintro r w1 ⟨x, x0, x1, rfl, hb⟩
  have x2 : x < 1438 := by omega
  clear x1
  go_wp2_with fail
  go_ret
  exact ⟨1 + x, by omega, by omega, rfl, hb⟩

theorem invR_form (v : Int) : invR v = (3, 0) ∨ (1 ≤ v ∧ v ≤ 2878 ∧ ∃ V, invR v = (0, V) ∧ 1 ≤ V ∧ V ≤ 2878 ∧ mulR v V 2879 = (0, 1) ∧ invR V = (0, v)) := by
  cases h : inB v 1 2878
  · exact .inl (by simp [invR, h])
  · have h' := h
    simp only [inB, decide_eq_true_eq] at h'
    refine .inr ⟨h'.1, h'.2, M.pw v 2877 2879, by simp [invR, h], ?_⟩
    have b := M.inv_pos h'.1 h'.2
    refine ⟨b.1, b.2, ?_, ?_⟩
    · have : restB v 2879 = true ∧ restB (M.pw v 2877 2879) 2879 = true := by simp only [restB, decide_eq_true_eq]; omega
      simp only [mulR, this.1, this.2, Bool.and_self, if_true, M.inv_mul h'.1 h'.2]
    · have : inB (M.pw v 2877 2879) 1 2878 = true := by simp only [inB, decide_eq_true_eq]; omega
      simp only [invR, this, if_true, M.inv_inv h'.1 h'.2]

theorem pub_base {a : Int} (a0 : 1 ≤ a) (a1 : a ≤ 1438) : pubB (M.pw 4 a.toNat 2879) = true := by
  have h := M.base_pub a.toNat (by omega) (by omega)
  simp only [pubB, inB, Bool.and_eq_true, decide_eq_true_eq, beq_iff_eq]
  exact ⟨h, M.base_raised _⟩
theorem pub_shared {a b : Int} (a0 : 1 ≤ a) (a1 : a ≤ 1438) (b0 : 1 ≤ b) (b1 : b ≤ 1438) : pubB (M.pw (M.pw 4 b.toNat 2879) a.toNat 2879) = true := by
  have h := M.shared_bd (a := a.toNat) (b := b.toNat) (by omega) (by omega) (by omega) (by omega)
  simp only [pubB, inB, Bool.and_eq_true, decide_eq_true_eq, beq_iff_eq]
  exact ⟨h, M.shared_raised _ _⟩

end Go.Proofs.Ytbjenjmnjlhoeaa
