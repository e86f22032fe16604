/- Texts of this seat that several laws rest on, laid into one. Conditions: as each theorem states. -/
import Derived.Test.YtlodhleihnlchaaGreatDoorQ1
import Derived.Test.YtlodhleihnlchaaGreatDoorQ2
import Derived.Deep.CutRange
namespace Go.Proofs.YtlodhleihnlchaaGreatDoor
open Go.RowKit
set_option maxRecDepth 100000
set_option linter.unusedVariables false

theorem implNormalFault_any (s : ByteArray) (w : World) (hs : s.size ≤ maxLen) :
    Calls Tryz.prog 106 #[.string s] w fun e w' => e = .returned (.int .i64 (M.normF s.data.toList)) ∧ Below w.heap.size w w' := by
  have hL : s.data.toList.length = s.size := by simp
  have F := fun w => implNameFault_any s w hs
  by_cases h0 : M.nameF s.data.toList = 0
  · obtain ⟨h20, hm⟩ := M.nameF_zero h0
    rw [hL] at h20
    have N := fun w : World => normalText_any s w h20 hm
    have Q := text_beq (M.bs (M.nrm s.data.toList)) s
    rw [M.bs_list] at Q
    by_cases hn : M.nrm s.data.toList = s.data.toList
    · rw [M.normF_yes h0 hn]
      rw [decide_eq_true hn] at Q
      simp only [h0] at F
      generalize M.bs (M.nrm s.data.toList) = R at *
      clear h0 hm hn hL
      go_enter Tryz.func106, Tryz.ntmps106
      go_wp2_with fail
      refine (F _).mono ?_
      rintro r w' ⟨rfl, rfl⟩
      go_wp2_with fail
      refine (N _).mono ?_
      rintro r u1 ⟨rfl, b1⟩
      go_wp2_with fail
      go_ret
      exact ⟨rfl, b1⟩
    · rw [M.normF_form h0 hn]
      rw [decide_eq_false hn] at Q
      simp only [h0] at F
      generalize M.bs (M.nrm s.data.toList) = R at *
      clear h0 hm hn hL
      go_enter Tryz.func106, Tryz.ntmps106
      go_wp2_with fail
      refine (F _).mono ?_
      rintro r w' ⟨rfl, rfl⟩
      go_wp2_with fail
      refine (N _).mono ?_
      rintro r u1 ⟨rfl, b1⟩
      go_wp2_with fail
      go_ret
      exact ⟨rfl, b1⟩
  · rw [M.normF_no h0]
    generalize M.nameF s.data.toList = c at *
    go_enter Tryz.func106, Tryz.ntmps106
    go_wp2_with fail
    refine (F _).mono ?_
    rintro r w' ⟨rfl, rfl⟩
    go_wp2_with fail
    go_ret
    exact ⟨rfl, Below.refl _ _⟩
theorem isMatch_any (v : Int) (w : World) :
    Calls Tryz.prog 238 #[.int .i64 v] w fun e w' => e = .returned (.bool (M.matB v)) ∧ w = w' := by
  by_cases h0 : v = 0
  · have e : M.matB v = true := by simp [M.matB, h0]
    subst h0
    rw [e]
    go_enter Tryz.func238, Tryz.ntmps238
    go_wp2_with fail
    go_ret
    simp
  by_cases h1 : v = 1
  · have e : M.matB v = true := by simp [M.matB, h1]
    subst h1
    rw [e]
    go_enter Tryz.func238, Tryz.ntmps238
    go_wp2_with fail
    go_ret
    simp
  · have e : M.matB v = false := by simp [M.matB]; omega
    rw [e]
    have q0 : (v == 0) = false := by simpa using h0
    have q1 : (v == 1) = false := by simpa using h1
    go_enter Tryz.func238, Tryz.ntmps238
    go_wp2_with fail
    go_ret
    simp
theorem l1In_use (v : Int) (w : World) : Calls Tryz.prog 151 #[.int .i64 v, .int .i64 0, .int .i64 3] w fun e w' => e = .returned (.bool (M.useB v)) ∧ w = w' := l1In_any v 0 3 w
theorem l1In_mat (v : Int) (w : World) : Calls Tryz.prog 151 #[.int .i64 v, .int .i64 0, .int .i64 1] w fun e w' => e = .returned (.bool (M.matB v)) ∧ w = w' := l1In_any v 0 1 w

abbrev T4 (n : ByteArray) (u m v : Int) : Value := .agg #[.string n, .int .i64 u, .int .i64 m, .int .i64 v]
abbrev T5 (c : Int) (n : ByteArray) (u m v : Int) : Value := .agg #[.int .i64 c, .string n, .int .i64 u, .int .i64 m, .int .i64 v]
abbrev TL4 (n : ByteArray) (u m v : Int) : List Value := [.string n, .int .i64 u, .int .i64 m, .int .i64 v]
abbrev TL5 (c : Int) (n : ByteArray) (u m v : Int) : List Value := [.int .i64 c, .string n, .int .i64 u, .int .i64 m, .int .i64 v]

theorem implTlsaFault_any (n : ByteArray) (u m v : Int) (w : World) (hn : n.size ≤ maxLen) :
    Calls Tryz.prog 147 #[T4 n u m v] w fun e w' => e = .returned (.int .i64 (M.tlsaF n.data.toList u m v)) ∧ Below w.heap.size w w' := by
  have b0 := bal (Below.refl _ w) (.cells #[.string n, .int .i64 u, .int .i64 m, .int .i64 v] 98)
  have A0 := At.new w (TL4 n u m v) 98
  have F := fun w => implNormalFault_any n w hn
  by_cases h0 : M.normF n.data.toList = 0
  · rw [h0] at F
    by_cases hu0 : u < 0
    · rw [M.tlsaF_no h0 (by rw [M.tlsaB_eq, show M.useB u = false by simp [M.useB]; omega]; rfl)]
      go_enter Tryz.func147, Tryz.ntmps147
      go_wp2_with fail
      generalize w.alloc (.cells #[.string n, .int .i64 u, .int .i64 m, .int .i64 v] 98) = W0 at *
      refine (F _).mono ?_
      rintro r u1 ⟨rfl, b1⟩
      have p0 := (A0.on b1).cell 0 _ rfl
      have p1 := (A0.on b1).cell 1 _ rfl
      have p2 := (A0.on b1).cell 2 _ rfl
      have p3 := (A0.on b1).cell 3 _ rfl
      have B1 := btr b0 b1
      clear A0 b0 b1 F
      go_wp2_with fail
      go_ret
      exact ⟨rfl, B1⟩
    by_cases hu3 : 3 < u
    · rw [M.tlsaF_no h0 (by rw [M.tlsaB_eq, show M.useB u = false by simp [M.useB]; omega]; rfl)]
      go_enter Tryz.func147, Tryz.ntmps147
      go_wp2_with fail
      generalize w.alloc (.cells #[.string n, .int .i64 u, .int .i64 m, .int .i64 v] 98) = W0 at *
      refine (F _).mono ?_
      rintro r u1 ⟨rfl, b1⟩
      have p0 := (A0.on b1).cell 0 _ rfl
      have p1 := (A0.on b1).cell 1 _ rfl
      have p2 := (A0.on b1).cell 2 _ rfl
      have p3 := (A0.on b1).cell 3 _ rfl
      have B1 := btr b0 b1
      clear A0 b0 b1 F
      go_wp2_with fail
      go_ret
      exact ⟨rfl, B1⟩
    have eU : M.useB u = true := by simp [M.useB]; omega
    cases hm : M.matB m
    · rw [M.tlsaF_no h0 (by rw [M.tlsaB_eq, hm]; simp)]
      go_enter Tryz.func147, Tryz.ntmps147
      go_wp2_with fail
      generalize w.alloc (.cells #[.string n, .int .i64 u, .int .i64 m, .int .i64 v] 98) = W0 at *
      refine (F _).mono ?_
      rintro r u1 ⟨rfl, b1⟩
      have p0 := (A0.on b1).cell 0 _ rfl
      have p1 := (A0.on b1).cell 1 _ rfl
      have p2 := (A0.on b1).cell 2 _ rfl
      have p3 := (A0.on b1).cell 3 _ rfl
      have B1 := btr b0 b1
      clear A0 b0 b1 F
      go_wp2_with fail
      refine (isMatch_any _ _).mono ?_
      rintro r w' ⟨rfl, rfl⟩
      go_wp2_with fail
      go_ret
      exact ⟨rfl, B1⟩
    cases hv : M.sumB v
    · rw [M.tlsaF_no h0 (by rw [M.tlsaB_eq, hv]; simp)]
      go_enter Tryz.func147, Tryz.ntmps147
      go_wp2_with fail
      generalize w.alloc (.cells #[.string n, .int .i64 u, .int .i64 m, .int .i64 v] 98) = W0 at *
      refine (F _).mono ?_
      rintro r u1 ⟨rfl, b1⟩
      have p0 := (A0.on b1).cell 0 _ rfl
      have p1 := (A0.on b1).cell 1 _ rfl
      have p2 := (A0.on b1).cell 2 _ rfl
      have p3 := (A0.on b1).cell 3 _ rfl
      have B1 := btr b0 b1
      clear A0 b0 b1 F
      go_wp2_with fail
      refine (isMatch_any _ _).mono ?_
      rintro r w' ⟨rfl, rfl⟩
      go_wp2_with fail
      refine (isSum_any _ _).mono ?_
      rintro r w' ⟨rfl, rfl⟩
      go_wp2_with fail
      go_ret
      exact ⟨rfl, B1⟩
    · rw [M.tlsaF_yes h0 (by rw [M.tlsaB_eq, eU, hm, hv]; rfl)]
      go_enter Tryz.func147, Tryz.ntmps147
      go_wp2_with fail
      generalize w.alloc (.cells #[.string n, .int .i64 u, .int .i64 m, .int .i64 v] 98) = W0 at *
      refine (F _).mono ?_
      rintro r u1 ⟨rfl, b1⟩
      have p0 := (A0.on b1).cell 0 _ rfl
      have p1 := (A0.on b1).cell 1 _ rfl
      have p2 := (A0.on b1).cell 2 _ rfl
      have p3 := (A0.on b1).cell 3 _ rfl
      have B1 := btr b0 b1
      clear A0 b0 b1 F
      go_wp2_with fail
      refine (isMatch_any _ _).mono ?_
      rintro r w' ⟨rfl, rfl⟩
      go_wp2_with fail
      refine (isSum_any _ _).mono ?_
      rintro r w' ⟨rfl, rfl⟩
      go_wp2_with fail
      go_ret
      exact ⟨rfl, B1⟩
  · rw [M.tlsaF_norm h0]
    generalize M.normF n.data.toList = c at *
    go_enter Tryz.func147, Tryz.ntmps147
    go_wp2_with fail
    generalize w.alloc (.cells #[.string n, .int .i64 u, .int .i64 m, .int .i64 v] 98) = W0 at *
    refine (F _).mono ?_
    rintro r u1 ⟨rfl, b1⟩
    have p0 := (A0.on b1).cell 0 _ rfl
    have p1 := (A0.on b1).cell 1 _ rfl
    have p2 := (A0.on b1).cell 2 _ rfl
    have p3 := (A0.on b1).cell 3 _ rfl
    have B1 := btr b0 b1
    clear A0 b0 b1 F
    go_wp2_with fail
    go_ret
    exact ⟨rfl, B1⟩

end Go.Proofs.YtlodhleihnlchaaGreatDoor
namespace Go.Proofs.YtlodhleihnlchaaGreatDoor
open Go.RowKit

def pubB (v : Int) : Bool := inB v 2 2878 && (M.pw v 1439 2879 == 1)
theorem l1Public_any (v : Int) (w : World) :
    Calls Tryz.prog 174 #[.int .i64 v] w fun r w' => r = .returned (.bool (pubB v)) ∧ w = w' := by
  cases hV : inB v 2 2878
  · have E : pubB v = false := by simp [pubB, hV]
    rw [E]; clear E
    go_enter Tryz.func174, Tryz.ntmps174
    go_wp2_with fail
    refine (l1In_any _ _ _ _).mono ?_
    rintro r w' ⟨rfl, rfl⟩
    go_wp2_with fail
    go_ret
    simp
  have hV' := hV
  simp only [inB, decide_eq_true_eq] at hV'
  obtain ⟨v0, v1⟩ := hV'
  cases hP : (M.pw v 1439 2879 == 1)
  · have E : pubB v = false := by simp only [pubB, hP, Bool.and_false]
    rw [E]; clear E
    go_enter Tryz.func174, Tryz.ntmps174
    go_wp2_with fail
    refine (l1In_any _ _ _ _).mono ?_
    rintro r w' ⟨rfl, rfl⟩
    go_wp2_with fail
    refine (l1Raise_int _ _ _ (by omega) (by omega) (by omega) (by omega)).mono ?_
    rintro r w' ⟨rfl, rfl⟩
    go_wp2_with fail
    go_ret
    simp
  have E : pubB v = true := by simp only [pubB, hV, hP, Bool.and_true]
  rw [E]; clear E
  go_enter Tryz.func174, Tryz.ntmps174
  go_wp2_with fail
  refine (l1In_any _ _ _ _).mono ?_
  rintro r w' ⟨rfl, rfl⟩
  go_wp2_with fail
  refine (l1Raise_int _ _ _ (by omega) (by omega) (by omega) (by omega)).mono ?_
  rintro r w' ⟨rfl, rfl⟩
  go_wp2_with fail
  go_ret
  simp

theorem implIsPublic_any (v : Int) (w : World) :
    Calls Tryz.prog 105 #[.int .i64 v] w fun r w' => r = .returned (.bool (pubB v)) ∧ Below w.heap.size w w' := by
  by_cases h0 : 2 ≤ v
  · by_cases h1 : v ≤ 2878
    · cases hP : (M.pw v 1439 2879 == 1)
      · have E : pubB v = false := by simp only [pubB, hP, Bool.and_false]
        rw [E]; clear E
        go_enter Tryz.func105, Tryz.ntmps105
        go_wp2_with fail
        refine (power_int _ _ _ _ (by omega) (by omega) (by omega) (by omega) (by omega) (by omega)).mono ?_
        rintro r w1 ⟨rfl, hb_w1⟩
        obtain ⟨hc_w1, hf_w1⟩ := bcell hb_w1
        have hz_w1 := hb_w1.size
        (try simp at hz_w1)
        go_wp2_with fail
        go_ret
        exact ⟨rfl, hb_w1⟩
      · have E : pubB v = true := by simp only [pubB, inB, h0, h1, hP, Bool.and_true, and_self, decide_true]
        rw [E]; clear E
        go_enter Tryz.func105, Tryz.ntmps105
        go_wp2_with fail
        refine (power_int _ _ _ _ (by omega) (by omega) (by omega) (by omega) (by omega) (by omega)).mono ?_
        rintro r w1 ⟨rfl, hb_w1⟩
        obtain ⟨hc_w1, hf_w1⟩ := bcell hb_w1
        have hz_w1 := hb_w1.size
        (try simp at hz_w1)
        go_wp2_with fail
        go_ret
        exact ⟨rfl, hb_w1⟩
    · have E : pubB v = false := by simp [pubB, inB, h1]
      rw [E]; clear E
      go_enter Tryz.func105, Tryz.ntmps105
      go_wp2_with fail
      go_ret
      exact ⟨rfl, Below.refl _ _⟩
  · have E : pubB v = false := by simp [pubB, inB, h0]
    rw [E]; clear E
    go_enter Tryz.func105, Tryz.ntmps105
    go_wp2_with fail
    go_ret
    exact ⟨rfl, Below.refl _ _⟩

theorem l1Key_any (s : Int) (w : World) (s0 : 0 ≤ s) (s1 : s ≤ 1000000000) :
    Calls Tryz.prog 187 #[.int .i64 s] w fun r w' => r = .returned (I2 s (M.pw 4 s.toNat 2879)) ∧ Below w.heap.size w w' := by
  go_enter Tryz.func187, Tryz.ntmps187
  go_wp2_with fail
  refine (l1Raise_int _ _ _ (by omega) (by omega) (by omega) (by omega)).mono ?_
  rintro r w' ⟨rfl, rfl⟩
  go_wp2_with fail
  exact bodyPost_ret (v := I2 s (M.pw 4 s.toNat 2879)) (by simp [results, Tryz.results187, go_sem]) rfl ⟨rfl, bal (Below.refl _ _) _⟩

end Go.Proofs.YtlodhleihnlchaaGreatDoor
namespace Go.Proofs.YtlodhleihnlchaaGreatDoor
open Go.RowKit
set_option maxRecDepth 100000
set_option linter.unusedVariables false

theorem pub_sum {p : Int} (h : pubB p = true) : M.sumB p = true := by
  simp only [pubB, inB, Bool.and_eq_true, decide_eq_true_eq] at h
  simp only [M.sumB, decide_eq_true_eq]
  omega
theorem publicSum_any (p : Int) (w : World) (lab : Labels w) (hp : M.sumB p = true) :
    Calls Tryz.prog 245 #[.int .i64 p] w fun r w' => r = .returned (.int .i64 (M.tagL M.spkiS [p])) ∧ Below w.heap.size w w' := by
  have hlab := lab.spkiW
  have hlt := lab.lt
  have hR := row_one0 (w := w) p 2 hp
  have HA := Lib.hid (show [p].all M.sumB = true by simp [hp])
  obtain ⟨t0, t1⟩ := M.tagL_bd M.spkiS [p]
  clear lab hp
  go_enter Tryz.func245, Tryz.ntmps245
  go_wp2_with fail
  refine (sumTagged_any _ _ _ _ _ _ _ (by decide) hR (by simp) HA.out (by omega)).mono ?_
  rintro r w2 ⟨rfl, hb2⟩
  have hb := btr (bal (Below.refl _ _) _) hb2
  clear hb2 hR hlab HA
  go_wp2_with fail
  go_ret
  exact ⟨rfl, hb⟩
theorem l5Value_any (p m : Int) (w : World) (hp : M.sumB p = true) :
    Calls Tryz.prog 291 #[.int .i64 p, .int .i64 m] w fun r w' => r = .returned (.int .i64 (M.valM p m)) ∧ Below w.heap.size w w' := by
  by_cases hm : m = 1
  · subst hm
    have e : M.valM p 1 = M.tagL M.spkiS [p] := rfl
    rw [e]
    have hR := row_one0 (w := w) p 2 hp
    have HA := Lib.hid (show [p].all M.sumB = true by simp [hp])
    go_enter Tryz.func291, Tryz.ntmps291
    go_wp2_with fail
    refine (l2Tag_any M.spkiS _ _ _ _ _ _ (by decide) hR (by simp) HA.out (by omega)).mono ?_
    rintro r w2 ⟨rfl, hb2⟩
    have hb := btr (bal (Below.refl _ _) _) hb2
    clear hb2 hR HA
    go_wp2_with fail
    go_ret
    exact ⟨rfl, hb⟩
  · have e : M.valM p m = p := by simp [M.valM, hm]
    rw [e]
    have q : (m == 1) = false := by simpa using hm
    go_enter Tryz.func291, Tryz.ntmps291
    go_wp2_with fail
    go_ret
    exact ⟨rfl, Below.refl _ _⟩

abbrev forT (l : List UInt8) (p m : Int) : Value := T5 (M.forC l (pubB p) m) (M.bs (M.forN l (pubB p) m)) (M.forU l (pubB p) m) (M.forM l (pubB p) m) (M.forV l (pubB p) p m)
theorem forT_no {l : List UInt8} {p m : Int} (h : ¬ M.forC l (pubB p) m = 0) : forT l p m = T5 (M.forC l (pubB p) m) { data := #[] } 0 0 0 := by
  simp [forT, M.forN, M.forU, M.forM, M.forV, h, M.bs]
theorem forT_yes {l : List UInt8} {p m : Int} (h : M.forC l (pubB p) m = 0) : forT l p m = T5 0 (M.bs (M.nrm l)) 3 m (M.valM p m) := by
  simp [forT, M.forN, M.forU, M.forM, M.forV, h]

theorem implTlsaFor_any (s : ByteArray) (p m : Int) (w : World) (lab : Labels w) (hs : s.size ≤ maxLen) :
    Calls Tryz.prog 157 #[.string s, .int .i64 p, .int .i64 m] w fun e w' => e = .returned (forT s.data.toList p m) ∧ Below w.heap.size w w' := by
  have hL : s.data.toList.length = s.size := by simp
  have b0 := bal (Below.refl _ w) (.cells #[.int .i64 0, .string { data := #[] }, .int .i64 0, .int .i64 0, .int .i64 0] 225)
  have A0 := At.new w (TL5 0 { data := #[] } 0 0 0) 225
  have L0 := lab.on b0
  have F := fun w => implNameFault_any s w hs
  by_cases h0 : M.nameF s.data.toList = 0
  · obtain ⟨h20, hm⟩ := M.nameF_zero h0
    rw [hL] at h20
    simp only [h0] at F
    have P1 := fun w => implIsPublic_any p w
    cases hp : pubB p
    · have e := M.forC_no (m := m) (pb := pubB p) h0 (by rw [hp]; rfl)
      rw [forT_no (by rw [e]; omega), e]
      rw [hp] at P1
      clear h0 hm e hL
      go_enter Tryz.func157, Tryz.ntmps157
      go_wp2_with fail
      generalize w.alloc (.cells #[.int .i64 0, .string { data := #[] }, .int .i64 0, .int .i64 0, .int .i64 0] 225) = W0 at *
      refine (F _).mono ?_
      rintro r u1 ⟨rfl, rfl⟩
      go_wp2_with fail
      refine (P1 _).mono ?_
      rintro r u2 ⟨rfl, b2⟩
      have p0 := (A0.on b2).cell 0 _ rfl
      have p1 := (A0.on b2).cell 1 _ rfl
      have p2 := (A0.on b2).cell 2 _ rfl
      have p3 := (A0.on b2).cell 3 _ rfl
      have p4 := (A0.on b2).cell 4 _ rfl
      have z0 := (A0.on b2).free 0 _ rfl
      have z1 := (A0.on b2).free 1 _ rfl
      have z2 := (A0.on b2).free 2 _ rfl
      have z3 := (A0.on b2).free 3 _ rfl
      have z4 := (A0.on b2).free 4 _ rfl
      have B3 := btr b0 b2
      clear A0 F
      go_wp2_with fail
      refine bodyPost_ret (v := T5 3 { data := #[] } 0 0 0) (by simp [results, Tryz.results157, go_sem, p0, p1, p2, p3, p4]) rfl ⟨rfl, ?_⟩
      exact (by (iterate 5 (refine bset ?_ (by dsimp only; omega) _)); exact B3)
    rw [hp] at P1
    cases hq : M.matB m
    · have e := M.forC_no (m := m) (pb := pubB p) h0 (by rw [hq, Bool.and_false])
      rw [forT_no (by rw [e]; omega), e]
      clear h0 hm e hL
      go_enter Tryz.func157, Tryz.ntmps157
      go_wp2_with fail
      generalize w.alloc (.cells #[.int .i64 0, .string { data := #[] }, .int .i64 0, .int .i64 0, .int .i64 0] 225) = W0 at *
      refine (F _).mono ?_
      rintro r u1 ⟨rfl, rfl⟩
      go_wp2_with fail
      refine (P1 _).mono ?_
      rintro r u2 ⟨rfl, b2⟩
      go_wp2_with fail
      refine (isMatch_any _ _).mono ?_
      rintro r w' ⟨rfl, rfl⟩
      have p0 := (A0.on b2).cell 0 _ rfl
      have p1 := (A0.on b2).cell 1 _ rfl
      have p2 := (A0.on b2).cell 2 _ rfl
      have p3 := (A0.on b2).cell 3 _ rfl
      have p4 := (A0.on b2).cell 4 _ rfl
      have z0 := (A0.on b2).free 0 _ rfl
      have z1 := (A0.on b2).free 1 _ rfl
      have z2 := (A0.on b2).free 2 _ rfl
      have z3 := (A0.on b2).free 3 _ rfl
      have z4 := (A0.on b2).free 4 _ rfl
      have B3 := btr b0 b2
      clear A0 F
      go_wp2_with fail
      refine bodyPost_ret (v := T5 3 { data := #[] } 0 0 0) (by simp [results, Tryz.results157, go_sem, p0, p1, p2, p3, p4]) rfl ⟨rfl, ?_⟩
      exact (by (iterate 5 (refine bset ?_ (by dsimp only; omega) _)); exact B3)
    have e := M.forC_yes (m := m) (pb := pubB p) h0 (by rw [hp, hq]; rfl)
    rw [forT_yes e]
    have N := fun w : World => normalText_any s w h20 hm
    have S1 := pub_sum hp
    generalize M.bs (M.nrm s.data.toList) = R at *
    rcases M.matB_cases hq with rfl | rfl
    · rw [show M.valM p 0 = p from rfl]
      clear h0 hm e hL
      go_enter Tryz.func157, Tryz.ntmps157
      go_wp2_with fail
      generalize w.alloc (.cells #[.int .i64 0, .string { data := #[] }, .int .i64 0, .int .i64 0, .int .i64 0] 225) = W0 at *
      refine (F _).mono ?_
      rintro r u1 ⟨rfl, rfl⟩
      go_wp2_with fail
      refine (P1 _).mono ?_
      rintro r u2 ⟨rfl, b2⟩
      go_wp2_with fail
      refine (isMatch_any _ _).mono ?_
      rintro r w' ⟨rfl, rfl⟩
      go_wp2_with fail
      refine (N _).mono ?_
      rintro r u3 ⟨rfl, b3⟩
      have b4 := btr b2 b3
      have p0 := (A0.on b4).cell 0 _ rfl
      have p1 := (A0.on b4).cell 1 _ rfl
      have p2 := (A0.on b4).cell 2 _ rfl
      have p3 := (A0.on b4).cell 3 _ rfl
      have p4 := (A0.on b4).cell 4 _ rfl
      have z0 := (A0.on b4).free 0 _ rfl
      have z1 := (A0.on b4).free 1 _ rfl
      have z2 := (A0.on b4).free 2 _ rfl
      have z3 := (A0.on b4).free 3 _ rfl
      have z4 := (A0.on b4).free 4 _ rfl
      have B3 := btr b0 b4
      clear A0 F N b3 b4
      go_wp2_with fail
      refine bodyPost_ret (v := T5 0 R 3 0 p) (by simp [results, Tryz.results157, go_sem, p0, p1, p2, p3, p4]) rfl ⟨rfl, ?_⟩
      exact (by (iterate 5 (refine bset ?_ (by dsimp only; omega) _)); exact B3)
    · rw [show M.valM p 1 = M.tagL M.spkiS [p] from rfl]
      have V := fun w lab => publicSum_any p w lab S1
      generalize M.tagL M.spkiS [p] = x at *
      clear h0 hm e hL
      go_enter Tryz.func157, Tryz.ntmps157
      go_wp2_with fail
      generalize w.alloc (.cells #[.int .i64 0, .string { data := #[] }, .int .i64 0, .int .i64 0, .int .i64 0] 225) = W0 at *
      refine (F _).mono ?_
      rintro r u1 ⟨rfl, rfl⟩
      go_wp2_with fail
      refine (P1 _).mono ?_
      rintro r u2 ⟨rfl, b2⟩
      go_wp2_with fail
      refine (isMatch_any _ _).mono ?_
      rintro r w' ⟨rfl, rfl⟩
      go_wp2_with fail
      refine (V _ (L0.on b2)).mono ?_
      rintro r u4 ⟨rfl, b5⟩
      have b6 := btr b2 b5
      go_wp2_with fail
      refine (N _).mono ?_
      rintro r u3 ⟨rfl, b3⟩
      have b4 := btr b6 b3
      have p0 := (A0.on b4).cell 0 _ rfl
      have p1 := (A0.on b4).cell 1 _ rfl
      have p2 := (A0.on b4).cell 2 _ rfl
      have p3 := (A0.on b4).cell 3 _ rfl
      have p4 := (A0.on b4).cell 4 _ rfl
      have z0 := (A0.on b4).free 0 _ rfl
      have z1 := (A0.on b4).free 1 _ rfl
      have z2 := (A0.on b4).free 2 _ rfl
      have z3 := (A0.on b4).free 3 _ rfl
      have z4 := (A0.on b4).free 4 _ rfl
      have B3 := btr b0 b4
      clear A0 F N b3 b4
      go_wp2_with fail
      refine bodyPost_ret (v := T5 0 R 3 1 x) (by simp [results, Tryz.results157, go_sem, p0, p1, p2, p3, p4]) rfl ⟨rfl, ?_⟩
      exact (by (iterate 5 (refine bset ?_ (by dsimp only; omega) _)); exact B3)
  · have e := M.forC_name (m := m) (pb := pubB p) h0
    rw [forT_no (by rw [e]; exact h0), e]
    generalize M.nameF s.data.toList = c at *
    clear e
    go_enter Tryz.func157, Tryz.ntmps157
    go_wp2_with fail
    generalize w.alloc (.cells #[.int .i64 0, .string { data := #[] }, .int .i64 0, .int .i64 0, .int .i64 0] 225) = W0 at *
    refine (F _).mono ?_
    rintro r u1 ⟨rfl, rfl⟩
    have p0 := A0.cell 0 _ rfl
    have p1 := A0.cell 1 _ rfl
    have p2 := A0.cell 2 _ rfl
    have p3 := A0.cell 3 _ rfl
    have p4 := A0.cell 4 _ rfl
    have z0 := A0.free 0 _ rfl
    have z1 := A0.free 1 _ rfl
    have z2 := A0.free 2 _ rfl
    have z3 := A0.free 3 _ rfl
    have z4 := A0.free 4 _ rfl
    have B3 := b0
    clear A0 F
    go_wp2_with fail
    refine bodyPost_ret (v := T5 c { data := #[] } 0 0 0) (by simp [results, Tryz.results157, go_sem, p0, p1, p2, p3, p4]) rfl ⟨rfl, ?_⟩
    exact (by (iterate 5 (refine bset ?_ (by dsimp only; omega) _)); exact B3)
end Go.Proofs.YtlodhleihnlchaaGreatDoor
namespace Go.Proofs.YtlodhleihnlchaaGreatDoor.M

theorem strip_again : ∀ (n : Nat) (r : List UInt8), r.length ≤ n →
    (mPlain r = true → strip (strip r) = strip r ∧ mPlain (strip r) = true) ∧ (mDash r = true → strip (strip r) = strip r ∧ mDash (strip r) = true) ∧ (mDot r = true → strip (strip r) = strip r ∧ mDot (strip r) = true)
  | n, [], _ => by simp [strip, mPlain, mDash, mDot]
  | 0, b :: r, h => by simp at h
  | n + 1, b :: r, hl => by
    obtain ⟨hP, hD, hS⟩ := strip_again n r (by simpa using hl)
    have plain : plainB b = true → mPlain r = true → strip (strip (b :: r)) = strip (b :: r) ∧ strip (b :: r) = b :: strip r ∧ mPlain (strip r) = true := fun hb h => by
      have e := strip_cons (r := r) (.inl (plain_dot hb))
      refine ⟨?_, e, (hP h).2⟩
      rw [e, strip_cons (.inl (plain_dot hb)), (hP h).1]
    have dash : dashB b = true → mDash r = true → strip (strip (b :: r)) = strip (b :: r) ∧ strip (b :: r) = b :: strip r ∧ mDash (strip r) = true := fun hb h => by
      have e := strip_cons (r := r) (.inl (dash_dot hb))
      refine ⟨?_, e, (hD h).2⟩
      rw [e, strip_cons (.inl (dash_dot hb)), (hD h).1]
    refine ⟨fun h => ?_, fun h => ?_, fun h => ?_⟩
    · rw [mPlain] at h
      split at h
      · rename_i hb
        obtain ⟨h1, h2, h3⟩ := plain hb h
        exact ⟨h1, by rw [h2, mPlain, if_pos hb]; exact h3⟩
      split at h
      · rename_i hb0 hb
        obtain ⟨h1, h2, h3⟩ := dash hb h
        exact ⟨h1, by rw [h2, mPlain, if_neg hb0, if_pos hb]; exact h3⟩
      split at h
      · rename_i hb0 hb1 hb
        split at h
        · rename_i hn
          rw [strip, if_pos ⟨hb, hn⟩]
          simp [strip, mPlain]
        · rename_i hn
          obtain ⟨h1, h2⟩ := hS h
          have hne : strip r ≠ [] := fun e => by rw [e, mDot] at h2; cases h2
          rw [strip_cons (.inr hn)]
          refine ⟨by rw [strip_cons (.inr hne), h1], ?_⟩
          rw [mPlain, if_neg hb0, if_neg hb1, if_pos hb, if_neg hne]
          exact h2
      · cases h
    · rw [mDash] at h
      split at h
      · rename_i hb
        obtain ⟨h1, h2, h3⟩ := plain hb h
        exact ⟨h1, by rw [h2, mDash, if_pos hb]; exact h3⟩
      split at h
      · rename_i hb0 hb
        obtain ⟨h1, h2, h3⟩ := dash hb h
        exact ⟨h1, by rw [h2, mDash, if_neg hb0, if_pos hb]; exact h3⟩
      · cases h
    · rw [mDot] at h
      split at h
      · rename_i hb
        obtain ⟨h1, h2, h3⟩ := plain hb h
        exact ⟨h1, by rw [h2, mDot, if_pos hb]; exact h3⟩
      · cases h
theorem bare_strip {l : List UInt8} (h : mDot l = true) : bare l = strip l := by
  cases l with
  | nil => simp [mDot] at h
  | cons b r =>
    rw [mDot] at h
    split at h
    · rename_i hb
      rw [strip_cons (.inl (plain_dot hb))]
      rfl
    · cases h
theorem bare_again {l : List UInt8} (h : mDot l = true) : bare (bare l) = bare l ∧ mDot (bare l) = true := by
  obtain ⟨h1, h2⟩ := (strip_again _ l (Nat.le_refl _)).2.2 h
  rw [bare_strip h]
  exact ⟨by rw [bare_strip h2, h1], h2⟩
theorem low_byte (b : UInt8) : plainB (Lib.lowerB b) = plainB b ∧ dashB (Lib.lowerB b) = dashB b ∧ dotB (Lib.lowerB b) = dotB b ∧ Lib.lowerB (Lib.lowerB b) = Lib.lowerB b := by
  have h : ∀ n : Fin 256, plainB (Lib.lowerB (UInt8.ofNat n)) = plainB (UInt8.ofNat n) ∧ dashB (Lib.lowerB (UInt8.ofNat n)) = dashB (UInt8.ofNat n) ∧ dotB (Lib.lowerB (UInt8.ofNat n)) = dotB (UInt8.ofNat n) ∧ Lib.lowerB (Lib.lowerB (UInt8.ofNat n)) = Lib.lowerB (UInt8.ofNat n) := by decide +kernel
  have := h ⟨b.toNat, b.toNat_lt⟩
  simpa using this
theorem low_strip : ∀ r : List UInt8, strip (r.map Lib.lowerB) = (strip r).map Lib.lowerB
  | [] => rfl
  | b :: r => by
    rw [List.map_cons, strip, strip, (low_byte b).2.2.1]
    by_cases h : dotB b = true ∧ r = []
    · rw [if_pos h, if_pos ⟨h.1, by rw [h.2]; rfl⟩]; rfl
    · rw [if_neg h, if_neg (fun e => h ⟨e.1, by simpa using e.2⟩), low_strip r]; rfl
theorem low_bare (l : List UInt8) : bare (l.map Lib.lowerB) = (bare l).map Lib.lowerB := by
  cases l with
  | nil => rfl
  | cons b r => rw [List.map_cons, bare, low_strip]; rfl
theorem low_machine : ∀ (n : Nat) (r : List UInt8), r.length ≤ n → mPlain (r.map Lib.lowerB) = mPlain r ∧ mDash (r.map Lib.lowerB) = mDash r ∧ mDot (r.map Lib.lowerB) = mDot r
  | n, [], _ => ⟨rfl, rfl, rfl⟩
  | 0, b :: r, h => by simp at h
  | n + 1, b :: r, hl => by
    obtain ⟨hP, hD, hS⟩ := low_machine n r (by simpa using hl)
    obtain ⟨q1, q2, q3, _⟩ := low_byte b
    refine ⟨?_, ?_, ?_⟩
    · rw [List.map_cons, mPlain, mPlain, q1, q2, q3, hP, hD, hS]
      simp
    · rw [List.map_cons, mDash, mDash, q1, q2, hP, hD]
    · rw [List.map_cons, mDot, mDot, q1, hP]
theorem normF_nrm {l : List UInt8} (h : nameF l = 0) : normF (nrm l) = 0 := by
  obtain ⟨h20, hm⟩ := nameF_zero h
  obtain ⟨h1, h2⟩ := bare_again hm
  have hl := nrm_length l
  have e1 : mDot (nrm l) = true := by
    unfold nrm Lib.toLowerA
    rw [(low_machine _ _ (Nat.le_refl _)).2.2, h2]
  refine normF_yes (nameF_yes (by omega) e1) ?_
  show ((bare ((bare l).map Lib.lowerB)).map Lib.lowerB) = (bare l).map Lib.lowerB
  rw [low_bare, h1, List.map_map]
  exact List.map_congr_left fun b _ => (low_byte b).2.2.2
theorem valM_sum {p m : Int} (hp : sumB p = true) : sumB (valM p m) = true := by
  unfold valM
  split
  · obtain ⟨h0, h1⟩ := tagL_bd spkiS [p]
    simp only [sumB, decide_eq_true_eq]
    omega
  · exact hp
def matchB (n : List UInt8) (u m v : Int) (l : List UInt8) (pb : Bool) (p : Int) : Bool :=
  decide (tlsaF n u m v = 0) && decide (nameF l = 0) && pb && decide (u = 3) && decide (n = nrm l) && decide (v = valM p m)
theorem matchB_for {n : List UInt8} {u m v : Int} {l : List UInt8} {pb : Bool} {p : Int} (hs : pb = true → sumB p = true) :
    matchB n u m v l pb p = (decide (forC l pb m = 0) && (decide (nrm l = n) && decide (3 = u) && decide (valM p m = v))) := by
  rw [Bool.eq_iff_iff]
  simp only [matchB, Bool.and_eq_true, decide_eq_true_eq]
  constructor
  · rintro ⟨⟨⟨⟨⟨h1, h2⟩, h3⟩, h4⟩, h5⟩, h6⟩
    obtain ⟨_, hb⟩ := tlsaF_zero h1
    rw [tlsaB_eq] at hb
    simp only [Bool.and_eq_true] at hb
    exact ⟨forC_yes h2 (by rw [h3, hb.1.2]; rfl), ⟨h5.symm, h4.symm⟩, h6.symm⟩
  · rintro ⟨h1, ⟨h2, h3⟩, h4⟩
    obtain ⟨k1, k2, k3⟩ := forC_zero h1
    subst h2
    subst h3
    subst h4
    refine ⟨⟨⟨⟨⟨tlsaF_yes (normF_nrm k1) ?_, k1⟩, k2⟩, rfl⟩, rfl⟩, rfl⟩
    rw [tlsaB_eq, k3, valM_sum (hs k2)]
    rfl
theorem tlsaF_parts {l : List UInt8} {u m v : Int} (h : tlsaF l u m v = 0) : useB u = true ∧ matB m = true ∧ sumB v = true := by
  obtain ⟨_, hb⟩ := tlsaF_zero h
  rw [tlsaB_eq] at hb
  simp only [Bool.and_eq_true] at hb
  exact ⟨hb.1.1, hb.1.2, hb.2⟩
end Go.Proofs.YtlodhleihnlchaaGreatDoor.M
namespace Go.Proofs.YtlodhleihnlchaaGreatDoor
open Go.RowKit
set_option maxRecDepth 100000
set_option linter.unusedVariables false

theorem tlsa_bounds {n : ByteArray} {u m v : Int} (h : M.tlsaF n.data.toList u m v = 0) : n.size ≤ 20 ∧ 0 ≤ u ∧ u ≤ 3 ∧ 0 ≤ m ∧ m ≤ 1 ∧ M.sumB v = true := by
  obtain ⟨h1, h2, h3⟩ := M.tlsaF_parts h
  have h4 := (M.nameF_zero (M.normF_zero (M.tlsaF_zero h).1).1).1
  have hL : n.data.toList.length = n.size := by simp
  simp only [M.useB, M.matB, decide_eq_true_eq] at h1 h2
  exact ⟨by omega, h1.1, h1.2, h2.1, h2.2, h3⟩
end Go.Proofs.YtlodhleihnlchaaGreatDoor
namespace Go.Proofs.YtlodhleihnlchaaGreatDoor
open Go.RowKit

def Src (w : World) (g : Nat) (a : Option Addr) (len cap : Nat) (p : Nat) : Prop := w.heap[g]? = some (.cells #[.slice a len cap, .int .i64 p] 256 (0, 0))
theorem Src.lt {w : World} {g : Nat} {a : Option Addr} {len cap p : Nat} (h : Src w g a len cap p) : g < w.heap.size := by
  rcases Nat.lt_or_ge g w.heap.size with h1 | h1
  · exact h1
  · unfold Src at h; rw [Array.getElem?_eq_none h1] at h; cases h
theorem Src.cell0 {w : World} {g : Nat} {a : Option Addr} {len cap p : Nat} (h : Src w g a len cap p) : w.cell? ⟨g, 0, none⟩ = some (.slice a len cap) := by unfold Src at h; simp [World.cell?, h]
theorem Src.cell1 {w : World} {g : Nat} {a : Option Addr} {len cap p : Nat} (h : Src w g a len cap p) : w.cell? ⟨g, 1, none⟩ = some (.int .i64 p) := by unfold Src at h; simp [World.cell?, h]
theorem Src.free {w : World} {g : Nat} {a : Option Addr} {len cap p : Nat} (h : Src w g a len cap p) (i : Nat) : w.frozen? ⟨g, i, none⟩ = false := by unfold Src at h; simp [World.frozen?, h]
theorem Src.keep {w w' : World} {g : Nat} {a : Option Addr} {len cap p : Nat} (h : Src w g a len cap p) (hk : w'.heap[g]? = w.heap[g]?) : Src w' g a len cap p := hk.trans h
theorem Src.step {w : World} {g : Nat} {a : Option Addr} {len cap p : Nat} (h : Src w g a len cap p) : Src (w.setCell ⟨g, 1, none⟩ (.int .i64 (p + 1))) g a len cap (p + 1) := by
  unfold Src at *; simp [World.setCell, Array.getElem?_modify, h]

theorem Src.drewN {w : World} {g : Nat} {a : Option Addr} {len cap p : Nat} (h : Src w g a len cap p) (n : Nat) : Src (w.drewN n) g a len cap p := h

def Nexted (g : Nat) (n : Int) (a : Option Addr) (len cap p : Nat) (w : World) (r : Ending) (w' : World) : Prop :=
  ∃ v : Int, 0 ≤ v ∧ (v < n ∨ n < 1 ∧ v = 0) ∧ r = .returned (.int .i64 v) ∧ Src w' g a len cap (p + 1) ∧ Only g w w'

theorem l1Next_pos (g : Nat) (n : Int) (a : Option Addr) (len cap p B : Nat) (zs : List Int) (w : World) (hS : Src w g a len cap p) (hR : Row .u8 w B a len cap zs) (hB : B ≤ g) (hp : p ≤ 1000000) (hn : 1 ≤ n) (hl : 0 < len) :
    Calls Tryz.prog 92 #[.pointer (some ⟨g, 0, none⟩), .int .i64 n] w (Nexted g n a len cap p w) := by
  have c0 := hS.cell0
  have c1 := hS.cell1
  have f1 := hS.free 1
  have hlen := hR.fits
  have hmost := hR.most
  unfold maxLen at hmost
  obtain ⟨b, off, rfl, hb, hc⟩ := hR.cells hl
  have hbg : b ≠ g := by omega
  have r1 : p % len < len := Nat.mod_lt _ hl
  have r2 : (p + 1) % len < len := Nat.mod_lt _ hl
  have d1 := hc _ r1
  have d2 := hc _ r2
  obtain ⟨z0, z1⟩ := hR.byte (p % len)
  obtain ⟨y0, y1⟩ := hR.byte ((p + 1) % len)
  clear hc
  have q0 : 0 ≤ (p : Int) / len ∧ (p : Int) / len ≤ 1000000 := ⟨Int.ediv_nonneg (by omega) (by omega), by
    have : (p : Int) / len ≤ p := Int.ediv_le_self _ (by omega)
    omega⟩
  obtain ⟨q1, q2⟩ := q0
  have e0 : ((len : Int) == 0) = false := by rw [beq_eq_false_iff_ne]; omega
  simp only [List.getD_eq_getElem?_getD] at z0 z1 y0 y1 d1 d2
  have m1 : 0 ≤ ((p : Int) + 1) % len := Int.emod_nonneg _ (by omega)
  have m2 : ((p : Int) + 1) % len < len := Int.emod_lt_of_pos _ (by omega)
  have m3 : (((p : Int) + 1) % len).toNat = (p + 1) % len := by
    have : ((p : Int) + 1) % len = ((p + 1) % len : Nat) := by simp
    rw [this]; rfl
  have HS := Lib.hid (And.intro hS.step ((Only.refl g w).setCell 1 (.int .i64 (p + 1))))
  by_cases h2 : 200 < n
  · go_enter Tryz.func92, Tryz.ntmps92
    go_wp2_with fail
    go_quiet (fail)
    go_wp2_with fail
    go_quiet (fail)
    go_wp2_with fail
    go_ret
    exact ⟨_, Int.emod_nonneg _ (by omega), .inl (Int.emod_lt_of_pos _ (by omega)), rfl, HS.out.1.drewN _, HS.out.2.drewN _⟩
  · go_enter Tryz.func92, Tryz.ntmps92
    go_wp2_with fail
    go_quiet (fail)
    go_wp2_with fail
    go_ret
    exact ⟨_, Int.emod_nonneg _ (by omega), .inl (Int.emod_lt_of_pos _ (by omega)), rfl, HS.out.1.drewN _, HS.out.2.drewN _⟩

theorem l1Next_any (g : Nat) (n : Int) (a : Option Addr) (len cap p B : Nat) (zs : List Int) (w : World) (hS : Src w g a len cap p) (hR : Row .u8 w B a len cap zs) (hB : B ≤ g) (hp : p ≤ 1000000) :
    Calls Tryz.prog 92 #[.pointer (some ⟨g, 0, none⟩), .int .i64 n] w (Nexted g n a len cap p w) := by
  have c0 := hS.cell0
  have c1 := hS.cell1
  have f1 := hS.free 1
  have HS := Lib.hid (And.intro hS.step ((Only.refl g w).setCell 1 (.int .i64 (p + 1))))
  by_cases hn : n < 1
  · go_enter Tryz.func92, Tryz.ntmps92
    go_wp2_with fail
    go_ret
    exact ⟨0, by omega, .inr ⟨hn, rfl⟩, rfl, HS.out.1, HS.out.2⟩
  · rcases Nat.eq_zero_or_pos len with h0 | h0
    · have e0 : ((len : Int) == 0) = true := by rw [beq_iff_eq]; omega
      clear h0
      go_enter Tryz.func92, Tryz.ntmps92
      go_wp2_with fail
      go_ret
      exact ⟨_, Int.emod_nonneg _ (by omega), .inl (Int.emod_lt_of_pos _ (by omega)), rfl, HS.out.1, HS.out.2⟩
    · exact l1Next_pos g n a len cap p B zs w hS hR hB hp (by omega) h0

theorem l1Source_any (a : Option Addr) (len cap : Nat) (w : World) :
    Calls Tryz.prog 89 #[.slice a len cap] w fun r w' => r = .returned (.pointer (some ⟨w.heap.size, 0, none⟩)) ∧ w' = w.alloc (.cells #[.slice a len cap, .int .i64 0] 256) := by
  go_enter Tryz.func89, Tryz.ntmps89
  go_wp2_with fail
  go_ret
  simp

def Picked (g : Nat) (vs : List Int) (a : Option Addr) (len cap p : Nat) (w : World) (r : Ending) (w' : World) : Prop :=
  ∃ v : Int, v ∈ vs ∧ r = .returned (.int .i64 v) ∧ Src w' g a len cap (p + 1) ∧ Only g w w'

theorem l1Pick_any (g q n : Nat) (vs : List Int) (a : Option Addr) (len cap p B : Nat) (zs : List Int) (w : World) (hS : Src w g a len cap p) (hR : Row .u8 w B a len cap zs) (hB : B ≤ g) (hp : p ≤ 1000000)
    (hq : q ≠ g) (hv : vs.length = n) (hn : 1 ≤ n) (hm : n ≤ 100) (hc : ∀ j, j < n → w.cell? ⟨q, j, none⟩ = some (.int .i64 (vs.getD j 0))) :
    Calls Tryz.prog 93 #[.pointer (some ⟨g, 0, none⟩), .slice (some ⟨q, 0, none⟩) n n] w (Picked g vs a len cap p w) := by
  have Hc := Lib.hid hc
  clear hc
  go_enter Tryz.func93, Tryz.ntmps93
  go_wp2_with fail
  refine (l1Next_any g _ a len cap p B zs _ hS hR hB hp).mono ?_
  rintro r w' ⟨v, v0, v1, rfl, hS', hO⟩
  obtain ⟨k, rfl⟩ := Int.eq_ofNat_of_zero_le v0
  have hk : k < n := by omega
  have hcell : w'.cell? ⟨q, k, none⟩ = some (.int .i64 (vs.getD k 0)) := (World.cell?_of_block (w := w) (hO.block q hq)).trans (Hc.out k hk)
  have hmem : vs.getD k 0 ∈ vs := by
    have : k < vs.length := by omega
    simp [List.getD, this]
  have HE := Lib.hid (And.intro hmem (And.intro hS' hO))
  clear v0 v1 hmem hS' hO
  go_wp2_with fail
  go_ret
  exact ⟨vs.getD k 0, HE.out.1, by simp [List.getD]; rw [List.getElem?_eq_getElem (by omega)]; rfl, HE.out.2.1, HE.out.2.2⟩

theorem Src.new (w : World) (a : Option Addr) (len cap p : Nat) : Src (w.alloc (.cells #[.slice a len cap, .int .i64 p] 256)) w.heap.size a len cap p := by
  unfold Src; exact (MapKept.heap_alloc w _).1
theorem Src.alloc {w : World} {g : Nat} {a : Option Addr} {len cap p : Nat} (h : Src w g a len cap p) (o : Obj) : Src (w.alloc o) g a len cap p := h.keep (Below.heap_alloc w o g h.lt)

structure Draw (w0 : World) (a : Option Addr) (len cap : Nat) (zs : List Int) (p : Nat) (w : World) : Prop where
  src : Src w w0.heap.size a len cap p
  row : Row .u8 w w0.heap.size a len cap zs
  bel : Below w0.heap.size w0 w
theorem Draw.alloc {w0 : World} {a : Option Addr} {len cap : Nat} {zs : List Int} {p : Nat} {w : World} (h : Draw w0 a len cap zs p w) (o : Obj) : Draw w0 a len cap zs p (w.alloc o) :=
  ⟨h.src.alloc o, h.row.below ((Below.refl _ w).alloc h.bel.size o), h.bel.alloc h.bel.size o⟩
theorem Draw.only {w0 : World} {a : Option Addr} {len cap : Nat} {zs : List Int} {p p' : Nat} {w w' : World} (h : Draw w0 a len cap zs p w) (hS : Src w' w0.heap.size a len cap p') (hO : Only w0.heap.size w w') : Draw w0 a len cap zs p' w' :=
  ⟨hS, h.row.below (hO.below (Nat.le_refl _)), h.bel.trans (hO.below (Nat.le_refl _))⟩
theorem Draw.new {w0 : World} {a : Option Addr} {len cap : Nat} {zs : List Int} (p : Nat) (hR : Row .u8 w0 w0.heap.size a len cap zs) : Draw w0 a len cap zs p (w0.alloc (.cells #[.slice a len cap, .int .i64 p] 256)) :=
  ⟨Src.new w0 a len cap p, hR.below (bal (Below.refl _ _) _), bal (Below.refl _ _) _⟩
theorem Draw.below {w0 : World} {a : Option Addr} {len cap : Nat} {zs : List Int} {p : Nat} {w w' : World} (h : Draw w0 a len cap zs p w) (hb : Below w.heap.size w w') : Draw w0 a len cap zs p w' :=
  ⟨h.src.keep (hb.block _ h.src.lt), h.row.below (hb.mono h.bel.size), h.bel.trans (hb.mono h.bel.size)⟩

def DNext (w0 : World) (a : Option Addr) (len cap : Nat) (zs : List Int) (p : Nat) (n : Int) (w : World) (r : Ending) (w' : World) : Prop :=
  ∃ v : Int, 0 ≤ v ∧ (v < n ∨ n < 1 ∧ v = 0) ∧ r = .returned (.int .i64 v) ∧ Draw w0 a len cap zs (p + 1) w' ∧ Only w0.heap.size w w'
def DPick (w0 : World) (a : Option Addr) (len cap : Nat) (zs : List Int) (p : Nat) (vs : List Int) (w : World) (r : Ending) (w' : World) : Prop :=
  ∃ v : Int, v ∈ vs ∧ r = .returned (.int .i64 v) ∧ Draw w0 a len cap zs (p + 1) w' ∧ Only w0.heap.size w w'

theorem dnext {w0 : World} {a : Option Addr} {len cap : Nat} {zs : List Int} {p : Nat} (n : Int) {w : World} (D : Draw w0 a len cap zs p w) (hp : p ≤ 1000000) :
    Calls Tryz.prog 92 #[.pointer (some ⟨w0.heap.size, 0, none⟩), .int .i64 n] w (DNext w0 a len cap zs p n w) :=
  (l1Next_any w0.heap.size n a len cap p w0.heap.size zs w D.src D.row (Nat.le_refl _) hp).mono fun _ _ ⟨v, h0, h1, hr, hS, hO⟩ => ⟨v, h0, h1, hr, D.only hS hO, hO⟩

theorem cells_new (w : World) (vs : List Int) (t : TypeId) (j : Nat) (hj : j < vs.length) : (w.alloc (.cells (vs.map (Value.int .i64)).toArray t)).cell? ⟨w.heap.size, j, none⟩ = some (.int .i64 (vs.getD j 0)) := by
  have e : (w.alloc (.cells (vs.map (Value.int .i64)).toArray t)).heap[w.heap.size]? = some (.cells (vs.map (Value.int .i64)).toArray t) := (MapKept.heap_alloc w _).1
  unfold World.cell?
  rw [e]
  simp [hj]

theorem dpick {w0 : World} {a : Option Addr} {len cap : Nat} {zs : List Int} {p : Nat} (vs : List Int) (n : Nat) {w : World} (D : Draw w0 a len cap zs p w) (hp : p ≤ 1000000) (hn : 1 ≤ n) (hm : n ≤ 100) (hv : vs.length = n) (t : TypeId) :
    Calls Tryz.prog 93 #[.pointer (some ⟨w0.heap.size, 0, none⟩), .slice (some ⟨w.heap.size, 0, none⟩) n n] (w.alloc (.cells (vs.map (Value.int .i64)).toArray t)) (DPick w0 a len cap zs p vs (w.alloc (.cells (vs.map (Value.int .i64)).toArray t))) :=
  (l1Pick_any w0.heap.size w.heap.size n vs a len cap p w0.heap.size zs _ (D.alloc _).src (D.alloc _).row (Nat.le_refl _) hp (by have := D.src.lt; omega) hv hn hm (fun j hj => cells_new w vs t j (by omega))).mono fun _ _ ⟨v, h0, hr, hS, hO⟩ => ⟨v, h0, hr, (D.alloc _).only hS hO, hO⟩

theorem dsource {a : Option Addr} {len cap : Nat} {zs : List Int} {w : World} (hR : Row .u8 w w.heap.size a len cap zs) :
    Calls Tryz.prog 89 #[.slice a len cap] w fun r w' => r = .returned (.pointer (some ⟨w.heap.size, 0, none⟩)) ∧ Draw w a len cap zs 0 w' :=
  (l1Source_any a len cap w).mono fun _ _ ⟨hr, hw⟩ => ⟨hr, by rw [hw]; exact Draw.new 0 hR⟩
theorem lwBig_any (a : Option Addr) (len cap : Nat) (w : World) (h : len ≤ 9223372036854775807) :
    Calls Tryz.prog 11 #[.slice a len cap] w fun r w' => r = .returned (.bool (decide (1048576 < len))) ∧ w = w' := by
  by_cases hl : 1048576 < len
  · have e : decide (1048576 < len) = true := by simp [hl]
    rw [e]; clear e
    go_enter Tryz.func11, Tryz.ntmps11
    go_wp2_with fail
    go_ret
    simp; omega
  · have e : decide (1048576 < len) = false := by simp [hl]
    rw [e]; clear e
    go_enter Tryz.func11, Tryz.ntmps11
    go_wp2_with fail
    go_ret
    simp; omega

end Go.Proofs.YtlodhleihnlchaaGreatDoor
namespace Go.Proofs.YtlodhleihnlchaaGreatDoor
open Go.RowKit
set_option maxRecDepth 100000

structure Grid (w : World) (B : Nat) (a : Option Addr) (len cap : Nat) (zss : List (List Int)) : Prop where
  length : zss.length = len
  fits : len ≤ cap
  most : cap ≤ maxLen
  cells : 0 < len → ∃ b off, a = some ⟨b, off, none⟩ ∧ b < B ∧ ∀ j, j < len → ∃ a' n' c', w.cell? ⟨b, off + j, none⟩ = some (.slice a' n' c') ∧ Row .u8 w B a' n' c' (zss[j]?.getD [])
section
variable {w w' : World} {B B' : Nat} {a : Option Addr} {len cap : Nat} {zss : List (List Int)}
theorem Grid.keep (h : Grid w B a len cap zss) (hk : ∀ i, i < B → w'.heap[i]? = w.heap[i]?) : Grid w' B a len cap zss :=
  ⟨h.length, h.fits, h.most, fun hp => by
    obtain ⟨b, off, e, hb, hc⟩ := h.cells hp
    refine ⟨b, off, e, hb, fun j hj => ?_⟩
    obtain ⟨a', n', c', h1, h2⟩ := hc j hj
    exact ⟨a', n', c', (World.cell?_of_block (w := w) (hk b hb)).trans h1, h2.keep hk⟩⟩
theorem Grid.below (h : Grid w B a len cap zss) (hb : Below B w w') : Grid w' B a len cap zss := h.keep hb.block
theorem Grid.more (h : Grid w B a len cap zss) (hB : B ≤ B') : Grid w B' a len cap zss :=
  ⟨h.length, h.fits, h.most, fun hp => by
    obtain ⟨b, off, e, hb, hc⟩ := h.cells hp
    refine ⟨b, off, e, by omega, fun j hj => ?_⟩
    obtain ⟨a', n', c', h1, h2⟩ := hc j hj
    exact ⟨a', n', c', h1, h2.more hB⟩⟩
theorem Grid.on (h : Grid w w.heap.size a len cap zss) (hb : Below w.heap.size w w') : Grid w' w'.heap.size a len cap zss := (h.below hb).more hb.size
theorem Grid.alloc (h : Grid w B a len cap zss) (hB : B ≤ w.heap.size) (o : Obj) : Grid (w.alloc o) B a len cap zss := h.below ((Below.refl B w).alloc hB o)
theorem Grid.nil (w : World) (B : Nat) : Grid w B none 0 0 [] := ⟨rfl, Nat.le_refl _, Nat.zero_le _, fun h => absurd h (by omega)⟩
end

def HeardRel (W : World) (zss : List (List Int)) (k : Nat) (v : Value) (wr : World) : Prop := OwnK .i64 wr W.heap.size v ((zss.take k).map M.sumL) ∧ Below W.heap.size W wr
theorem HeardRel.row {W wr : World} {zss : List (List Int)} {v : Value} (h : HeardRel W zss zss.length v wr) : ∃ a n c, v = .slice a n c ∧ n = zss.length ∧ Row .i64 wr wr.heap.size a n c (zss.map M.sumL) := by
  obtain ⟨ho, _⟩ := h
  rw [List.take_length] at ho
  obtain ⟨a, c, rfl, _⟩ := ho.form
  exact ⟨a, _, c, rfl, by simp, Own.row ho fun b hb => by
    obtain ⟨zs, _, rfl⟩ := List.mem_map.1 hb
    have := M.sumL_bd zs
    exact sum_wf (by simp [M.sumB]; omega)⟩

end Go.Proofs.YtlodhleihnlchaaGreatDoor
namespace Go.Proofs.YtlodhleihnlchaaGreatDoor
open Go.RowKit
set_option maxRecDepth 100000

structure Own2 (w : World) (B : Nat) (v : Value) (rows : List (Value × List Int)) : Prop where
  own : Own w B 1 v rows.length (rows.map (·.1))
  each : ∀ x ∈ rows, ∃ a n c, x.1 = .slice a n c ∧ OwnK .u8 w B (.slice a n c) x.2 ∧ ∀ z ∈ x.2, (Lit.int .u8 z).wf = true
  apart : ∀ x ∈ rows, ∀ k, x.1.ownBlock = some k → v.ownBlock ≠ some k
section
variable {w w' : World} {B : Nat} {v : Value} {rows : List (Value × List Int)}
theorem Own2.keep (h : Own2 w B v rows) (hs : w.heap.size ≤ w'.heap.size) (hk : ∀ k, B ≤ k → k < w.heap.size → w'.heap[k]? = w.heap[k]?) : Own2 w' B v rows :=
  ⟨h.own.keep hs fun k e => hk k (h.own.lt k e).1 (h.own.lt k e).2, fun x hx => by
    obtain ⟨a, n, c, e, o, z⟩ := h.each x hx
    exact ⟨a, n, c, e, o.keep hs fun k e => hk k (o.lt k e).1 (o.lt k e).2, z⟩, h.apart⟩
theorem Own2.below (h : Own2 w B v rows) (hb : Below w.heap.size w w') : Own2 w' B v rows := h.keep hb.size fun k _ hk => hb.block k hk
theorem Own2.alloc (h : Own2 w B v rows) (o : Obj) : Own2 (w.alloc o) B v rows := h.below (bal (Below.refl _ _) o)
theorem Own2.kept {g : Nat} (h : Own2 w B v rows) (hg : w.grownBy w' (some g)) (hne : g < B) : Own2 w' B v rows :=
  h.keep hg.size fun k hB hk => hg.block k hk (fun e => by injection e with e; omega)
theorem Own2.only {g : Nat} (h : Own2 w B v rows) (hg : Only g w w') (hne : g < B) : Own2 w' B v rows :=
  h.keep (by rw [hg.size]; exact Nat.le_refl _) fun k hB _ => hg.block k (by omega)
theorem Own2.nil (w : World) (B : Nat) : Own2 w B (.slice none 0 0) [] := ⟨Own.nil _ _ _, (fun _ h => by cases h), (fun _ h => by cases h)⟩
theorem Own2.empty (h : Own w B 1 v 0 []) : Own2 w B v [] := ⟨h, (fun _ h => by cases h), (fun _ h => by cases h)⟩
theorem Own2.more {w1 w2 : World} {v' : Value} {a : Option Addr} {n c : Nat} {zs : List Int} (h : Own2 w1 B v rows) (ho : OwnK .u8 w1 B (.slice a n c) zs) (hz : ∀ z ∈ zs, (Lit.int .u8 z).wf = true)
    (hne : ∀ k, Value.ownBlock (.slice a n c) = some k → v.ownBlock ≠ some k)
    (hn : Own w2 B 1 v' (rows.length + 1) (rows.map (·.1) ++ [.slice a n c])) (hg : w1.grownBy w2 v.ownBlock) (hat : v'.ownBlock = v.ownBlock ∨ v'.ownBlock = some w1.heap.size) : Own2 w2 B v' (rows ++ [(.slice a n c, zs)]) := by
  have keepRow : ∀ {u : Value} {m : Nat} {xs : List Value}, Own w1 B 1 u m xs → (∀ k, u.ownBlock = some k → v.ownBlock ≠ some k) → Own w2 B 1 u m xs := fun {u m xs} o hne => by
    refine o.keep hg.size fun k hk => hg.block k (o.lt k hk).2 (fun e => hne k hk e.symm)
  have newApart : ∀ {u : Value} {m : Nat} {xs : List Value}, Own w1 B 1 u m xs → (∀ k, u.ownBlock = some k → v.ownBlock ≠ some k) → ∀ k, u.ownBlock = some k → v'.ownBlock ≠ some k := fun {u m xs} o hne k hk => by
    rcases hat with e | e
    · rw [e]; exact hne k hk
    · rw [e]
      intro e2
      injection e2 with e2
      have := (o.lt k hk).2
      omega
  refine ⟨by simpa using hn, fun x hx => ?_, fun x hx k hk => ?_⟩
  · rcases List.mem_append.1 hx with hx | hx
    · obtain ⟨a1, n1, c1, e1, o1, z1⟩ := h.each x hx
      exact ⟨a1, n1, c1, e1, keepRow o1 (by rw [← e1]; exact h.apart x hx), z1⟩
    · simp at hx
      subst hx
      exact ⟨a, n, c, rfl, keepRow ho hne, hz⟩
  · rcases List.mem_append.1 hx with hx | hx
    · obtain ⟨a1, n1, c1, e1, o1, z1⟩ := h.each x hx
      exact newApart o1 (by rw [← e1]; exact h.apart x hx) k (by rw [← e1]; exact hk)
    · simp at hx
      subst hx
      exact newApart ho hne k hk
theorem Own2.made (w : World) (n : Nat) (e : TypeId) (hB : B ≤ w.heap.size) (hm : n ≤ maxLen) : Own2 (w.alloc (.cells (madeCells #[.slice none 0 0] n) e)) B (.slice (some ⟨w.heap.size, 0, none⟩) n n) (List.replicate n (.slice none 0 0, [])) := by
  have e1 : (w.alloc (.cells (madeCells #[.slice none 0 0] n) e)).heap[w.heap.size]? = some (.cells (madeCells #[.slice none 0 0] n) e) := (MapKept.heap_alloc w _).1
  have hs : (madeCells #[Value.slice none 0 0] n).size = n := size_madeCells _ _
  refine ⟨⟨by simp, .inr ⟨w.heap.size, n, by simp, hB, by simp, by simp, hm, fun j u hu => ?_, fun j hj => ?_⟩⟩, fun x hx => ?_, fun x hx k hk => ?_⟩
  · unfold World.cell?
    rw [e1]
    have ht := toList_madeCells_one (.slice none 0 0) n
    simp only [Option.isSome_none, Bool.false_eq_true, if_false]
    rw [← Array.getElem?_toList, ht]
    simpa using hu
  · unfold World.cell? World.frozen?
    rw [e1]
    simp [show j < (madeCells #[Value.slice none 0 0] n).size by rw [hs]; omega]
  · obtain ⟨_, rfl⟩ := List.mem_replicate.1 hx
    exact ⟨none, 0, 0, rfl, Own.nil _ _ _, fun _ h => by cases h⟩
  · obtain ⟨_, rfl⟩ := List.mem_replicate.1 hx
    simp [Value.ownBlock] at hk
end
theorem OwnK.made (k : IntKind) {B : Nat} (w : World) (n : Nat) (e : TypeId) (hB : B ≤ w.heap.size) (hm : n ≤ maxLen) : OwnK k (w.alloc (.cells (madeCells #[.int k 0] n) e)) B (.slice (some ⟨w.heap.size, 0, none⟩) n n) (List.replicate n 0) := by
  have e1 : (w.alloc (.cells (madeCells #[.int k 0] n) e)).heap[w.heap.size]? = some (.cells (madeCells #[.int k 0] n) e) := (MapKept.heap_alloc w _).1
  have hs : (madeCells #[Value.int k 0] n).size = n := size_madeCells _ _
  refine ⟨by simp, .inr ⟨w.heap.size, n, by simp, hB, by simp, by simp, hm, fun j u hu => ?_, fun j hj => ?_⟩⟩
  · unfold World.cell?
    rw [e1]
    have ht := toList_madeCells_one (.int k 0) n
    simp only [Option.isSome_none, Bool.false_eq_true, if_false]
    rw [← Array.getElem?_toList, ht]
    simpa using hu
  · unfold World.cell? World.frozen?
    rw [e1]
    simp [show j < (madeCells #[Value.int k 0] n).size by rw [hs]; omega]
end Go.Proofs.YtlodhleihnlchaaGreatDoor
