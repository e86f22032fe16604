/- Contracts of normal names and of what is wrong with a supplied key, by the program and by its model. Conditions: as each theorem states. -/
import Derived.Test.YtlodhleihnlchaaDoorC5e
namespace Go.Proofs.YtlodhleihnlchaaDoor
open Go.RowKit
set_option maxRecDepth 100000
set_option linter.unusedVariables false

theorem text_beq (x y : ByteArray) : (x.toList == y.toList) = decide (x.data.toList = y.data.toList) := by
  rw [ByteArray.toList_eq, ByteArray.toList_eq, Bool.eq_iff_iff]
  simp
theorem size_max {s : ByteArray} (h : s.size ≤ 20) : s.size ≤ maxLen := by simp only [maxLen]; omega
abbrev X2 (c : Int) (t : ByteArray) : Value := .agg #[.int .i64 c, .string t]

theorem implNormalName_any (s : ByteArray) (w : World) (hs : s.size ≤ maxLen) :
    Calls Tryd.prog 30 #[.string s] w fun e w' => e = .returned (X2 (M.nameF s.data.toList) (M.bs (M.nrmT s.data.toList))) ∧ Below w.heap.size w w' := by
  have hL : s.data.toList.length = s.size := by simp
  have b0 := bal (Below.refl _ w) (.cells #[.int .i64 0, .string { data := #[] }] 68)
  have A0 := At.new w [.int .i64 0, .string { data := #[] }] 68
  have F := fun w => implNameFault_any s w hs
  by_cases h0 : M.nameF s.data.toList = 0
  · obtain ⟨h20, hm⟩ := M.nameF_zero h0
    rw [hL] at h20
    have N := fun w : World => normalText_any s w h20 hm
    rw [M.nrmT_yes h0]
    simp only [h0] at F ⊢
    generalize M.bs (M.nrm s.data.toList) = R at *
    clear h0 hm
    go_enter Tryd.func30, Tryd.ntmps30
    go_wp2_with fail
    generalize w.alloc (.cells #[.int .i64 0, .string { data := #[] }] 68) = W0 at *
    refine (F _).mono ?_
    rintro r u1 ⟨rfl, rfl⟩
    go_wp2_with fail
    refine (N _).mono ?_
    rintro r u2 ⟨rfl, b2⟩
    have A2 := (A0).on b2
    have b3 := btr (b0) b2
    have p0 := A2.cell 0 _ rfl
    have p1 := A2.cell 1 _ rfl
    have z0 := A2.free 0 _ rfl
    have z1 := A2.free 1 _ rfl
    clear A2 A0 b2 F N
    go_wp2_with fail
    refine bodyPost_ret (v := X2 0 R) (by simp [results, Tryd.results30, go_sem, p0, p1]) rfl ⟨rfl, ?_⟩
    exact (by (iterate 2 (refine bset ?_ (by dsimp only; omega) _)); exact b3)
  · rw [M.nrmT_no h0]
    generalize M.nameF s.data.toList = c at *
    go_enter Tryd.func30, Tryd.ntmps30
    go_wp2_with fail
    generalize w.alloc (.cells #[.int .i64 0, .string { data := #[] }] 68) = W0 at *
    refine (F _).mono ?_
    rintro r u1 ⟨rfl, rfl⟩
    have A2 := A0
    have b3 := b0
    have p0 := A2.cell 0 _ rfl
    have p1 := A2.cell 1 _ rfl
    have z0 := A2.free 0 _ rfl
    have z1 := A2.free 1 _ rfl
    clear A2 A0 F
    go_wp2_with fail
    refine bodyPost_ret (v := X2 c { data := #[] }) (by simp [results, Tryd.results30, go_sem, p0, p1]) rfl ⟨rfl, ?_⟩
    exact (by (iterate 2 (refine bset ?_ (by dsimp only; omega) _)); exact b3)

end Go.Proofs.YtlodhleihnlchaaDoor
