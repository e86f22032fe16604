/- Contracts of supplied keys that are made for a name, by the program and by its model. Conditions: as each theorem states. -/
import Derived.Test.YtdkgiiikcapjcaaDoorC5g
import Derived.Test.YtdkgiiikcapjcaaDoorC2e
import Derived.Test.YtdkgiiikcapjcaaDoorC1c
namespace Go.Proofs.YtdkgiiikcapjcaaDoor
open Go.RowKit
set_option maxRecDepth 100000
set_option linter.unusedVariables false

theorem pub_sum {p : Int} (h : pubB p = true) : M.sumB p = true := by
  simp only [pubB, inB, Bool.and_eq_true, decide_eq_true_eq] at h
  simp only [M.sumB, decide_eq_true_eq]
  omega
theorem publicSum_any (p : Int) (w : World) (lab : Labels w) (hp : M.sumB p = true) :
    Calls Tryd.prog 63 #[.int .i64 p] w fun r w' => r = .returned (.int .i64 (M.tagL M.spkiS [p])) ∧ Below w.heap.size w w' := by
  have hlab := lab.spkiW
  have hlt := lab.lt
  have hR := row_one0 (w := w) p 2 hp
  have HA := Lib.hid (show [p].all M.sumB = true by simp [hp])
  obtain ⟨t0, t1⟩ := M.tagL_bd M.spkiS [p]
  clear lab hp
  go_enter Tryd.func63, Tryd.ntmps63
  go_wp2_with fail
  refine (sumTagged_any _ _ _ _ _ _ _ (by decide) hR (by simp) HA.out (by omega)).mono ?_
  rintro r w2 ⟨rfl, hb2⟩
  have hb := btr (bal (Below.refl _ _) _) hb2
  clear hb2 hR hlab HA
  go_wp2_with fail
  go_ret
  exact ⟨rfl, hb⟩
theorem l5Value_any (p m : Int) (w : World) (hp : M.sumB p = true) :
    Calls Tryd.prog 61 #[.int .i64 p, .int .i64 m] w fun r w' => r = .returned (.int .i64 (M.valM p m)) ∧ Below w.heap.size w w' := by
  by_cases hm : m = 1
  · subst hm
    have e : M.valM p 1 = M.tagL M.spkiS [p] := rfl
    rw [e]
    have hR := row_one0 (w := w) p 2 hp
    have HA := Lib.hid (show [p].all M.sumB = true by simp [hp])
    go_enter Tryd.func61, Tryd.ntmps61
    go_wp2_with fail
    refine (l2Tag_any M.spkiS _ _ _ _ _ _ (by decide) hR (by simp) HA.out (by omega)).mono ?_
    rintro r w2 ⟨rfl, hb2⟩
    have hb := btr (bal (Below.refl _ _) _) hb2
    clear hb2 hR HA
    go_wp2_with fail
    go_ret
    exact ⟨rfl, hb⟩
  · have e : M.valM p m = p := by simp [M.valM, hm]
    rw [e]
    have q : (m == 1) = false := by simpa using hm
    go_enter Tryd.func61, Tryd.ntmps61
    go_wp2_with fail
    go_ret
    exact ⟨rfl, Below.refl _ _⟩

abbrev forT (l : List UInt8) (p m : Int) : Value := T5 (M.forC l (pubB p) m) (M.bs (M.forN l (pubB p) m)) (M.forU l (pubB p) m) (M.forM l (pubB p) m) (M.forV l (pubB p) p m)
theorem forT_no {l : List UInt8} {p m : Int} (h : ¬ M.forC l (pubB p) m = 0) : forT l p m = T5 (M.forC l (pubB p) m) { data := #[] } 0 0 0 := by
  simp [forT, M.forN, M.forU, M.forM, M.forV, h, M.bs]
theorem forT_yes {l : List UInt8} {p m : Int} (h : M.forC l (pubB p) m = 0) : forT l p m = T5 0 (M.bs (M.nrm l)) 3 m (M.valM p m) := by
  simp [forT, M.forN, M.forU, M.forM, M.forV, h]

theorem specTlsaFor_any (s : ByteArray) (p m : Int) (w : World) (hs : s.size ≤ maxLen) :
    Calls Tryd.prog 29 #[.string s, .int .i64 p, .int .i64 m] w fun e w' => e = .returned (forT s.data.toList p m) ∧ Below w.heap.size w w' := by
  have hL : s.data.toList.length = s.size := by simp
  have b0 := bal (Below.refl _ w) (.cells #[.int .i64 0, .string { data := #[] }, .int .i64 0, .int .i64 0, .int .i64 0] 32)
  have A0 := At.new w (TL5 0 { data := #[] } 0 0 0) 32
  have F := fun w => l5Fault_any s w hs
  by_cases h0 : M.nameF s.data.toList = 0
  · obtain ⟨h20, hm⟩ := M.nameF_zero h0
    rw [hL] at h20
    simp only [h0] at F
    cases hp : pubB p
    · have e := M.forC_no (m := m) (pb := pubB p) h0 (by rw [hp]; rfl)
      rw [forT_no (by rw [e]; omega), e]
      clear h0 hm e hL
      go_enter Tryd.func29, Tryd.ntmps29
      go_wp2_with fail
      generalize w.alloc (.cells #[.int .i64 0, .string { data := #[] }, .int .i64 0, .int .i64 0, .int .i64 0] 32) = W0 at *
      refine (F _).mono ?_
      rintro r u1 ⟨rfl, b1⟩
      go_wp2_with fail
      refine (l1Public_any _ _).mono ?_
      rintro r w' ⟨rfl, rfl⟩
      have p0 := (A0.on b1).cell 0 _ rfl
      have p1 := (A0.on b1).cell 1 _ rfl
      have p2 := (A0.on b1).cell 2 _ rfl
      have p3 := (A0.on b1).cell 3 _ rfl
      have p4 := (A0.on b1).cell 4 _ rfl
      have z0 := (A0.on b1).free 0 _ rfl
      have z1 := (A0.on b1).free 1 _ rfl
      have z2 := (A0.on b1).free 2 _ rfl
      have z3 := (A0.on b1).free 3 _ rfl
      have z4 := (A0.on b1).free 4 _ rfl
      have B3 := btr b0 (b1)
      clear A0 F
      go_wp2_with fail
      refine bodyPost_ret (v := T5 3 { data := #[] } 0 0 0) (by simp [results, Tryd.results29, go_sem, p0, p1, p2, p3, p4]) rfl ⟨rfl, ?_⟩
      exact (by (iterate 5 (refine bset ?_ (by dsimp only; omega) _)); exact B3)
    cases hq : M.matB m
    · have e := M.forC_no (m := m) (pb := pubB p) h0 (by rw [hq, Bool.and_false])
      rw [forT_no (by rw [e]; omega), e]
      clear h0 hm e hL
      go_enter Tryd.func29, Tryd.ntmps29
      go_wp2_with fail
      generalize w.alloc (.cells #[.int .i64 0, .string { data := #[] }, .int .i64 0, .int .i64 0, .int .i64 0] 32) = W0 at *
      refine (F _).mono ?_
      rintro r u1 ⟨rfl, b1⟩
      go_wp2_with fail
      refine (l1Public_any _ _).mono ?_
      rintro r w' ⟨rfl, rfl⟩
      go_wp2_with fail
      refine (l1In_mat _ _).mono ?_
      rintro r w' ⟨rfl, rfl⟩
      have p0 := (A0.on b1).cell 0 _ rfl
      have p1 := (A0.on b1).cell 1 _ rfl
      have p2 := (A0.on b1).cell 2 _ rfl
      have p3 := (A0.on b1).cell 3 _ rfl
      have p4 := (A0.on b1).cell 4 _ rfl
      have z0 := (A0.on b1).free 0 _ rfl
      have z1 := (A0.on b1).free 1 _ rfl
      have z2 := (A0.on b1).free 2 _ rfl
      have z3 := (A0.on b1).free 3 _ rfl
      have z4 := (A0.on b1).free 4 _ rfl
      have B3 := btr b0 (b1)
      clear A0 F
      go_wp2_with fail
      refine bodyPost_ret (v := T5 3 { data := #[] } 0 0 0) (by simp [results, Tryd.results29, go_sem, p0, p1, p2, p3, p4]) rfl ⟨rfl, ?_⟩
      exact (by (iterate 5 (refine bset ?_ (by dsimp only; omega) _)); exact B3)
    have e := M.forC_yes (m := m) (pb := pubB p) h0 (by rw [hp, hq]; rfl)
    rw [forT_yes e]
    have N := fun w : World => l5Normal_any s w h20
    have V := fun w : World => l5Value_any p m w (pub_sum hp)
    generalize M.bs (M.nrm s.data.toList) = R at *
    generalize M.valM p m = x at *
    clear h0 hm e hL
    go_enter Tryd.func29, Tryd.ntmps29
    go_wp2_with fail
    generalize w.alloc (.cells #[.int .i64 0, .string { data := #[] }, .int .i64 0, .int .i64 0, .int .i64 0] 32) = W0 at *
    refine (F _).mono ?_
    rintro r u1 ⟨rfl, b1⟩
    go_wp2_with fail
    refine (l1Public_any _ _).mono ?_
    rintro r w' ⟨rfl, rfl⟩
    go_wp2_with fail
    refine (l1In_mat _ _).mono ?_
    rintro r w' ⟨rfl, rfl⟩
    go_wp2_with fail
    refine (N _).mono ?_
    rintro r u2 ⟨rfl, b2⟩
    go_wp2_with fail
    refine (V _).mono ?_
    rintro r u3 ⟨rfl, b3⟩
    have b4 := btr b1 (btr b2 b3)
    have p0 := (A0.on b4).cell 0 _ rfl
    have p1 := (A0.on b4).cell 1 _ rfl
    have p2 := (A0.on b4).cell 2 _ rfl
    have p3 := (A0.on b4).cell 3 _ rfl
    have p4 := (A0.on b4).cell 4 _ rfl
    have z0 := (A0.on b4).free 0 _ rfl
    have z1 := (A0.on b4).free 1 _ rfl
    have z2 := (A0.on b4).free 2 _ rfl
    have z3 := (A0.on b4).free 3 _ rfl
    have z4 := (A0.on b4).free 4 _ rfl
    have B3 := btr b0 b4
    clear A0 F N V b1 b2 b3 b4
    go_wp2_with fail
    refine bodyPost_ret (v := T5 0 R 3 m x) (by simp [results, Tryd.results29, go_sem, p0, p1, p2, p3, p4]) rfl ⟨rfl, ?_⟩
    exact (by (iterate 5 (refine bset ?_ (by dsimp only; omega) _)); exact B3)
  · have e := M.forC_name (m := m) (pb := pubB p) h0
    rw [forT_no (by rw [e]; exact h0), e]
    generalize M.nameF s.data.toList = c at *
    clear e
    go_enter Tryd.func29, Tryd.ntmps29
    go_wp2_with fail
    generalize w.alloc (.cells #[.int .i64 0, .string { data := #[] }, .int .i64 0, .int .i64 0, .int .i64 0] 32) = W0 at *
    refine (F _).mono ?_
    rintro r u1 ⟨rfl, b1⟩
    have p0 := (A0.on b1).cell 0 _ rfl
    have p1 := (A0.on b1).cell 1 _ rfl
    have p2 := (A0.on b1).cell 2 _ rfl
    have p3 := (A0.on b1).cell 3 _ rfl
    have p4 := (A0.on b1).cell 4 _ rfl
    have z0 := (A0.on b1).free 0 _ rfl
    have z1 := (A0.on b1).free 1 _ rfl
    have z2 := (A0.on b1).free 2 _ rfl
    have z3 := (A0.on b1).free 3 _ rfl
    have z4 := (A0.on b1).free 4 _ rfl
    have B3 := btr b0 (b1)
    clear A0 F
    go_wp2_with fail
    refine bodyPost_ret (v := T5 c { data := #[] } 0 0 0) (by simp [results, Tryd.results29, go_sem, p0, p1, p2, p3, p4]) rfl ⟨rfl, ?_⟩
    exact (by (iterate 5 (refine bset ?_ (by dsimp only; omega) _)); exact B3)

theorem implTlsaFor_any (s : ByteArray) (p m : Int) (w : World) (lab : Labels w) (hs : s.size ≤ maxLen) :
    Calls Tryd.prog 28 #[.string s, .int .i64 p, .int .i64 m] w fun e w' => e = .returned (forT s.data.toList p m) ∧ Below w.heap.size w w' := by
  have hL : s.data.toList.length = s.size := by simp
  have b0 := bal (Below.refl _ w) (.cells #[.int .i64 0, .string { data := #[] }, .int .i64 0, .int .i64 0, .int .i64 0] 32)
  have A0 := At.new w (TL5 0 { data := #[] } 0 0 0) 32
  have L0 := lab.on b0
  have F := fun w => implNameFault_any s w hs
  by_cases h0 : M.nameF s.data.toList = 0
  · obtain ⟨h20, hm⟩ := M.nameF_zero h0
    rw [hL] at h20
    simp only [h0] at F
    have P1 := fun w => implIsPublic_any p w
    cases hp : pubB p
    · have e := M.forC_no (m := m) (pb := pubB p) h0 (by rw [hp]; rfl)
      rw [forT_no (by rw [e]; omega), e]
      rw [hp] at P1
      clear h0 hm e hL
      go_enter Tryd.func28, Tryd.ntmps28
      go_wp2_with fail
      generalize w.alloc (.cells #[.int .i64 0, .string { data := #[] }, .int .i64 0, .int .i64 0, .int .i64 0] 32) = W0 at *
      refine (F _).mono ?_
      rintro r u1 ⟨rfl, rfl⟩
      go_wp2_with fail
      refine (P1 _).mono ?_
      rintro r u2 ⟨rfl, b2⟩
      have p0 := (A0.on b2).cell 0 _ rfl
      have p1 := (A0.on b2).cell 1 _ rfl
      have p2 := (A0.on b2).cell 2 _ rfl
      have p3 := (A0.on b2).cell 3 _ rfl
      have p4 := (A0.on b2).cell 4 _ rfl
      have z0 := (A0.on b2).free 0 _ rfl
      have z1 := (A0.on b2).free 1 _ rfl
      have z2 := (A0.on b2).free 2 _ rfl
      have z3 := (A0.on b2).free 3 _ rfl
      have z4 := (A0.on b2).free 4 _ rfl
      have B3 := btr b0 b2
      clear A0 F
      go_wp2_with fail
      refine bodyPost_ret (v := T5 3 { data := #[] } 0 0 0) (by simp [results, Tryd.results28, go_sem, p0, p1, p2, p3, p4]) rfl ⟨rfl, ?_⟩
      exact (by (iterate 5 (refine bset ?_ (by dsimp only; omega) _)); exact B3)
    rw [hp] at P1
    cases hq : M.matB m
    · have e := M.forC_no (m := m) (pb := pubB p) h0 (by rw [hq, Bool.and_false])
      rw [forT_no (by rw [e]; omega), e]
      clear h0 hm e hL
      go_enter Tryd.func28, Tryd.ntmps28
      go_wp2_with fail
      generalize w.alloc (.cells #[.int .i64 0, .string { data := #[] }, .int .i64 0, .int .i64 0, .int .i64 0] 32) = W0 at *
      refine (F _).mono ?_
      rintro r u1 ⟨rfl, rfl⟩
      go_wp2_with fail
      refine (P1 _).mono ?_
      rintro r u2 ⟨rfl, b2⟩
      go_wp2_with fail
      refine (isMatch_any _ _).mono ?_
      rintro r w' ⟨rfl, rfl⟩
      have p0 := (A0.on b2).cell 0 _ rfl
      have p1 := (A0.on b2).cell 1 _ rfl
      have p2 := (A0.on b2).cell 2 _ rfl
      have p3 := (A0.on b2).cell 3 _ rfl
      have p4 := (A0.on b2).cell 4 _ rfl
      have z0 := (A0.on b2).free 0 _ rfl
      have z1 := (A0.on b2).free 1 _ rfl
      have z2 := (A0.on b2).free 2 _ rfl
      have z3 := (A0.on b2).free 3 _ rfl
      have z4 := (A0.on b2).free 4 _ rfl
      have B3 := btr b0 b2
      clear A0 F
      go_wp2_with fail
      refine bodyPost_ret (v := T5 3 { data := #[] } 0 0 0) (by simp [results, Tryd.results28, go_sem, p0, p1, p2, p3, p4]) rfl ⟨rfl, ?_⟩
      exact (by (iterate 5 (refine bset ?_ (by dsimp only; omega) _)); exact B3)
    have e := M.forC_yes (m := m) (pb := pubB p) h0 (by rw [hp, hq]; rfl)
    rw [forT_yes e]
    have N := fun w : World => normalText_any s w h20 hm
    have S1 := pub_sum hp
    generalize M.bs (M.nrm s.data.toList) = R at *
    rcases M.matB_cases hq with rfl | rfl
    · rw [show M.valM p 0 = p from rfl]
      clear h0 hm e hL
      go_enter Tryd.func28, Tryd.ntmps28
      go_wp2_with fail
      generalize w.alloc (.cells #[.int .i64 0, .string { data := #[] }, .int .i64 0, .int .i64 0, .int .i64 0] 32) = W0 at *
      refine (F _).mono ?_
      rintro r u1 ⟨rfl, rfl⟩
      go_wp2_with fail
      refine (P1 _).mono ?_
      rintro r u2 ⟨rfl, b2⟩
      go_wp2_with fail
      refine (isMatch_any _ _).mono ?_
      rintro r w' ⟨rfl, rfl⟩
      go_wp2_with fail
      refine (N _).mono ?_
      rintro r u3 ⟨rfl, b3⟩
      have b4 := btr b2 b3
      have p0 := (A0.on b4).cell 0 _ rfl
      have p1 := (A0.on b4).cell 1 _ rfl
      have p2 := (A0.on b4).cell 2 _ rfl
      have p3 := (A0.on b4).cell 3 _ rfl
      have p4 := (A0.on b4).cell 4 _ rfl
      have z0 := (A0.on b4).free 0 _ rfl
      have z1 := (A0.on b4).free 1 _ rfl
      have z2 := (A0.on b4).free 2 _ rfl
      have z3 := (A0.on b4).free 3 _ rfl
      have z4 := (A0.on b4).free 4 _ rfl
      have B3 := btr b0 b4
      clear A0 F N b3 b4
      go_wp2_with fail
      refine bodyPost_ret (v := T5 0 R 3 0 p) (by simp [results, Tryd.results28, go_sem, p0, p1, p2, p3, p4]) rfl ⟨rfl, ?_⟩
      exact (by (iterate 5 (refine bset ?_ (by dsimp only; omega) _)); exact B3)
    · rw [show M.valM p 1 = M.tagL M.spkiS [p] from rfl]
      have V := fun w lab => publicSum_any p w lab S1
      generalize M.tagL M.spkiS [p] = x at *
      clear h0 hm e hL
      go_enter Tryd.func28, Tryd.ntmps28
      go_wp2_with fail
      generalize w.alloc (.cells #[.int .i64 0, .string { data := #[] }, .int .i64 0, .int .i64 0, .int .i64 0] 32) = W0 at *
      refine (F _).mono ?_
      rintro r u1 ⟨rfl, rfl⟩
      go_wp2_with fail
      refine (P1 _).mono ?_
      rintro r u2 ⟨rfl, b2⟩
      go_wp2_with fail
      refine (isMatch_any _ _).mono ?_
      rintro r w' ⟨rfl, rfl⟩
      go_wp2_with fail
      refine (V _ (L0.on b2)).mono ?_
      rintro r u4 ⟨rfl, b5⟩
      have b6 := btr b2 b5
      go_wp2_with fail
      refine (N _).mono ?_
      rintro r u3 ⟨rfl, b3⟩
      have b4 := btr b6 b3
      have p0 := (A0.on b4).cell 0 _ rfl
      have p1 := (A0.on b4).cell 1 _ rfl
      have p2 := (A0.on b4).cell 2 _ rfl
      have p3 := (A0.on b4).cell 3 _ rfl
      have p4 := (A0.on b4).cell 4 _ rfl
      have z0 := (A0.on b4).free 0 _ rfl
      have z1 := (A0.on b4).free 1 _ rfl
      have z2 := (A0.on b4).free 2 _ rfl
      have z3 := (A0.on b4).free 3 _ rfl
      have z4 := (A0.on b4).free 4 _ rfl
      have B3 := btr b0 b4
      clear A0 F N b3 b4
      go_wp2_with fail
      refine bodyPost_ret (v := T5 0 R 3 1 x) (by simp [results, Tryd.results28, go_sem, p0, p1, p2, p3, p4]) rfl ⟨rfl, ?_⟩
      exact (by (iterate 5 (refine bset ?_ (by dsimp only; omega) _)); exact B3)
  · have e := M.forC_name (m := m) (pb := pubB p) h0
    rw [forT_no (by rw [e]; exact h0), e]
    generalize M.nameF s.data.toList = c at *
    clear e
    go_enter Tryd.func28, Tryd.ntmps28
    go_wp2_with fail
    generalize w.alloc (.cells #[.int .i64 0, .string { data := #[] }, .int .i64 0, .int .i64 0, .int .i64 0] 32) = W0 at *
    refine (F _).mono ?_
    rintro r u1 ⟨rfl, rfl⟩
    have p0 := A0.cell 0 _ rfl
    have p1 := A0.cell 1 _ rfl
    have p2 := A0.cell 2 _ rfl
    have p3 := A0.cell 3 _ rfl
    have p4 := A0.cell 4 _ rfl
    have z0 := A0.free 0 _ rfl
    have z1 := A0.free 1 _ rfl
    have z2 := A0.free 2 _ rfl
    have z3 := A0.free 3 _ rfl
    have z4 := A0.free 4 _ rfl
    have B3 := b0
    clear A0 F
    go_wp2_with fail
    refine bodyPost_ret (v := T5 c { data := #[] } 0 0 0) (by simp [results, Tryd.results28, go_sem, p0, p1, p2, p3, p4]) rfl ⟨rfl, ?_⟩
    exact (by (iterate 5 (refine bset ?_ (by dsimp only; omega) _)); exact B3)
end Go.Proofs.YtdkgiiikcapjcaaDoor
