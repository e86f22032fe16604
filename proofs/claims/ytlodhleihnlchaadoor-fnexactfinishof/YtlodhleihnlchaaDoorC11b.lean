/- Contracts of the model's clients, and of its keys and finishes. Conditions: as each theorem states. -/
import Derived.Test.YtlodhleihnlchaaDoorC11a
import Derived.Test.YtlodhleihnlchaaDoorC11h
import Derived.Test.YtlodhleihnlchaaDoorC5f
import Derived.Test.YtlodhleihnlchaaDoorL11
namespace Go.Proofs.YtlodhleihnlchaaDoor
open Go.RowKit
set_option maxRecDepth 100000
set_option linter.unusedVariables false

theorem kf11 (a b : Int) (w : World) : Sem.run Tryd.prog (Instr.field 59 (.agg #[.int .i64 a, .int .i64 b]) 1) w = .ok (.int .i64 b) w := by kernel_rfl
theorem l11Start_any (k rd : Int) (n : ByteArray) (w : World) (hk : inB k 1 1438 = true) (hn : n.size ≤ 20) (hf : M.nameF n.data.toList = 0) :
    Calls Tryd.prog 28 #[.int .i64 k, .int .i64 rd, .string n] w fun e w' => e = .returned (H4 k rd (M.pubN k) (M.bs (M.nrm n.data.toList))) ∧ Below w.heap.size w w' := by
  have g1 := kf11
  have b0 := bal (Below.refl _ w) (.cells #[.int .i64 0, .int .i64 0, .int .i64 0, .string { data := #[] }] 30)
  have A0 := At.new w (HL4 0 0 0 { data := #[] }) 30
  have hk' := hk
  simp only [inB, decide_eq_true_eq] at hk'
  have K1 : ∀ w, Calls Tryd.prog 41 #[.int .i64 k] w fun r w' => r = .returned (I2 k (M.pubN k)) ∧ Below w.heap.size w w' := fun w => l1Key_any k w (by omega) (by omega)
  have N := fun w : World => l5Normal_any n w hn
  generalize M.pubN k = u at *
  generalize M.bs (M.nrm n.data.toList) = m at *
  clear hk' hk hf
  go_enter Tryd.func28, Tryd.ntmps28
  go_wp2_with fail
  generalize w.alloc (.cells #[.int .i64 0, .int .i64 0, .int .i64 0, .string { data := #[] }] 30) = W0 at *
  refine (K1 _).mono ?_
  rintro e u1 ⟨rfl, b1⟩
  go_wp2_with fail
  refine (N _).mono ?_
  rintro e u2 ⟨rfl, b2⟩
  have b12 := btr b1 b2
  have q0 := (A0.on b12).cell 0 _ rfl
  have q1 := (A0.on b12).cell 1 _ rfl
  have q2 := (A0.on b12).cell 2 _ rfl
  have q3 := (A0.on b12).cell 3 _ rfl
  have z0 := (A0.on b12).free 0 _ rfl
  have z1 := (A0.on b12).free 1 _ rfl
  have z2 := (A0.on b12).free 2 _ rfl
  have z3 := (A0.on b12).free 3 _ rfl
  have HB := Lib.hid (btr b0 b12)
  clear A0 b0 b1 b2 b12 K1 N
  go_wp2_with fail
  refine bodyPost_ret (v := H4 k rd u m) (by simp [results, Tryd.results28, go_sem, q0, q1, q2, q3]) rfl ⟨rfl, ?_⟩
  exact (by (iterate 4 (refine bset ?_ (by dsimp only; omega) _)); exact HB.out)
theorem l11Fault_any (g : Nat) (k r s : Int) (n : ByteArray) (w : World) (A0 : At g (HL4 k r s n) w) (hn : n.size ≤ maxLen) :
    Calls Tryd.prog 21 #[.pointer (some ⟨g, 0, none⟩)] w fun e w' => e = .returned (.int .i64 (cliF k r s n)) ∧ Below w.heap.size w w' := by
  have g1 := kf11
  have F := fun w A => l6Hello1_any g k r s n w A hn
  have d0 := A0.cell 0 _ rfl
  have d1 := A0.cell 1 _ rfl
  have d2 := A0.cell 2 _ rfl
  have d3 := A0.cell 3 _ rfl
  cases hk : inB k 1 1438
  · rw [cliF_sec hk]
    go_enter Tryd.func21, Tryd.ntmps21
    go_wp2_with fail
    refine (l1Secret_any _ _).mono ?_
    rintro r w' ⟨rfl, rfl⟩
    go_wp2_with fail
    go_ret
    exact ⟨rfl, Below.refl _ _⟩
  have hk' := hk
  simp only [inB, decide_eq_true_eq] at hk'
  by_cases h2 : helF n.data.toList r s = 0
  · rw [h2] at F
    have K1 : ∀ w, Calls Tryd.prog 41 #[.int .i64 k] w fun r w' => r = .returned (I2 k (M.pubN k)) ∧ Below w.heap.size w w' := fun w => l1Key_any k w (by omega) (by omega)
    by_cases h3 : M.pubN k = s
    · rw [cliF_yes hk h2 h3]
      have e3 : (M.pubN k != s) = false := by simpa using h3
      have e4 : (M.pubN k == s) = true := by simpa using h3
      generalize M.pubN k = u at *
      clear h3 h2 hk'
      go_enter Tryd.func21, Tryd.ntmps21
      go_wp2_with fail
      refine (l1Secret_any _ _).mono ?_
      rintro r w' ⟨rfl, rfl⟩
      go_wp2_with fail
      refine (F _ A0).mono ?_
      rintro e u1 ⟨rfl, b1⟩
      have p0 := (A0.on b1).cell 0 _ rfl
      have p1 := (A0.on b1).cell 1 _ rfl
      have p2 := (A0.on b1).cell 2 _ rfl
      have p3 := (A0.on b1).cell 3 _ rfl
      go_wp2_with fail
      refine wp_region_line (Bel u1) [(0, true), (1, true), (2, true), (3, true), (6, true), (7, true), (8, true), (9, true), (10, true), (4, false), (5, true), (11, true)] (by kernel_rfl) (by kernel_rfl) (fun _ _ d _ _ h => by cases d <;> exact h) (Bel.drew u1) ?_
      have hst := Bel.drew u1
      have inst : Nonempty (Of (Bel u1)) := ⟨⟨_, hst⟩⟩
      have q0 := bel_cell p0
      have q2 := bel_cell p2
      iterate 9 (refine line_read rfl (by kernel_rfl) (fun K hK => ?_); go_big_quiet_op; refine hK _ ?_; clear hK K)
      refine line_alone rfl (by kernel_rfl) (fun K hK => ?_)
      refine call_wp (args := #[.int .i64 k]) rfl (by kernel_rfl) (by kernel_rfl) (K1 _) (fun wn hbn => ?_)
      have hst2 := hst.on hbn
      refine hK _ _ hst2 ?_
      clear hK K hst hbn
      have hst := hst2
      clear hst2
      simp only [Act.put, List.setIfInBounds_toArray, List.set_cons_zero, List.set_cons_succ]
      iterate 2 (refine line_read rfl (by kernel_rfl) (fun K hK => ?_); go_big_quiet_op; refine hK _ ?_; clear hK K)
      refine line_nil ?_
      have bb := btr b1 hst.out
      clear hst
      go_wp2_with fail
      go_ret
      exact ⟨rfl, bb⟩
    · rw [cliF_form hk h2 h3]
      have e3 : (M.pubN k != s) = true := by simpa using h3
      have e4 : (M.pubN k == s) = false := by simpa using h3
      generalize M.pubN k = u at *
      clear h3 h2 hk'
      go_enter Tryd.func21, Tryd.ntmps21
      go_wp2_with fail
      refine (l1Secret_any _ _).mono ?_
      rintro r w' ⟨rfl, rfl⟩
      go_wp2_with fail
      refine (F _ A0).mono ?_
      rintro e u1 ⟨rfl, b1⟩
      have p0 := (A0.on b1).cell 0 _ rfl
      have p1 := (A0.on b1).cell 1 _ rfl
      have p2 := (A0.on b1).cell 2 _ rfl
      have p3 := (A0.on b1).cell 3 _ rfl
      go_wp2_with fail
      refine wp_region_line (Bel u1) [(0, true), (1, true), (2, true), (3, true), (6, true), (7, true), (8, true), (9, true), (10, true), (4, false), (5, true), (11, true)] (by kernel_rfl) (by kernel_rfl) (fun _ _ d _ _ h => by cases d <;> exact h) (Bel.drew u1) ?_
      have hst := Bel.drew u1
      have inst : Nonempty (Of (Bel u1)) := ⟨⟨_, hst⟩⟩
      have q0 := bel_cell p0
      have q2 := bel_cell p2
      iterate 9 (refine line_read rfl (by kernel_rfl) (fun K hK => ?_); go_big_quiet_op; refine hK _ ?_; clear hK K)
      refine line_alone rfl (by kernel_rfl) (fun K hK => ?_)
      refine call_wp (args := #[.int .i64 k]) rfl (by kernel_rfl) (by kernel_rfl) (K1 _) (fun wn hbn => ?_)
      have hst2 := hst.on hbn
      refine hK _ _ hst2 ?_
      clear hK K hst hbn
      have hst := hst2
      clear hst2
      simp only [Act.put, List.setIfInBounds_toArray, List.set_cons_zero, List.set_cons_succ]
      iterate 2 (refine line_read rfl (by kernel_rfl) (fun K hK => ?_); go_big_quiet_op; refine hK _ ?_; clear hK K)
      refine line_nil ?_
      have bb := btr b1 hst.out
      clear hst
      go_wp2_with fail
      go_ret
      exact ⟨rfl, bb⟩
  · rw [cliF_hel hk h2]
    generalize helF n.data.toList r s = c at *
    have e3 : (c != 0) = true := by simpa using h2
    go_enter Tryd.func21, Tryd.ntmps21
    go_wp2_with fail
    refine (l1Secret_any _ _).mono ?_
    rintro r w' ⟨rfl, rfl⟩
    go_wp2_with fail
    refine (F _ A0).mono ?_
    rintro e u1 ⟨rfl, b1⟩
    go_wp2_with fail
    go_ret
    exact ⟨rfl, b1⟩
theorem specClientFault_any (k r s : Int) (n : ByteArray) (w : World) (hn : n.size ≤ maxLen) :
    Calls Tryd.prog 8 #[H4 k r s n] w fun e w' => e = .returned (.int .i64 (cliF k r s n)) ∧ Below w.heap.size w w' := by
  have b0 := bal (Below.refl _ w) (.cells #[.int .i64 k, .int .i64 r, .int .i64 s, .string n] 30)
  have A0 := At.new w (HL4 k r s n) 30
  go_enter Tryd.func8, Tryd.ntmps8
  go_wp2_with fail
  refine (l11Fault_any _ k r s n _ A0 hn).mono ?_
  rintro e u1 ⟨rfl, b1⟩
  have hb := btr b0 b1
  go_wp2_with fail
  go_ret
  exact ⟨rfl, hb⟩
theorem sta_vals {k rd : Int} {n : ByteArray} (h : ¬ staC k rd n = 0) (v : Int) : staI k rd n v = 0 ∧ staN k rd n = { data := #[] } := by simp [staI, staN, h]
theorem specStartClient_any (k rd : Int) (n : ByteArray) (w : World) (hn : n.size ≤ maxLen) :
    Calls Tryd.prog 11 #[.int .i64 k, .int .i64 rd, .string n] w fun e w' => e = .returned (C5 (staC k rd n) (staI k rd n k) (staI k rd n rd) (staI k rd n (M.pubN k)) (staN k rd n)) ∧ Below w.heap.size w w' := by
  have b0 := bal (Below.refl _ w) (.cells #[.int .i64 0, .int .i64 0, .int .i64 0, .int .i64 0, .string { data := #[] }] 34)
  have A0 := At.new w (CL5 0 0 0 0 { data := #[] }) 34
  have F := fun w => l5Fault_any n w hn
  cases hk : inB k 1 1438
  · have h := staC_no (n := n) (show (inB k 1 1438 && M.sumB rd) = false by rw [hk]; rfl)
    have hc : ¬ staC k rd n = 0 := by rw [h]; omega
    rw [(sta_vals hc k).1, (sta_vals hc rd).1, (sta_vals hc (M.pubN k)).1, (sta_vals hc k).2, h]
    clear h hc
    go_enter Tryd.func11, Tryd.ntmps11
    go_wp2_with fail
    refine (l1Secret_any _ _).mono ?_
    rintro r w' ⟨rfl, rfl⟩
    go_wp2_with fail
    exact bodyPost_ret (v := C5 3 0 0 0 { data := #[] }) (by simp [results, Tryd.results11, go_sem]) rfl ⟨rfl, bal (Below.refl _ _) _⟩
  cases hr : M.sumB rd
  · have h := staC_no (n := n) (show (inB k 1 1438 && M.sumB rd) = false by rw [hk, hr]; rfl)
    have hc : ¬ staC k rd n = 0 := by rw [h]; omega
    rw [(sta_vals hc k).1, (sta_vals hc rd).1, (sta_vals hc (M.pubN k)).1, (sta_vals hc k).2, h]
    clear h hc
    go_enter Tryd.func11, Tryd.ntmps11
    go_wp2_with fail
    refine (l1Secret_any _ _).mono ?_
    rintro r w' ⟨rfl, rfl⟩
    go_wp2_with fail
    refine (l2Is_any _ _).mono ?_
    rintro r w' ⟨rfl, rfl⟩
    go_wp2_with fail
    exact bodyPost_ret (v := C5 3 0 0 0 { data := #[] }) (by simp [results, Tryd.results11, go_sem]) rfl ⟨rfl, bal (Below.refl _ _) _⟩
  have h := staC_yes (n := n) (show (inB k 1 1438 && M.sumB rd) = true by rw [hk, hr]; rfl)
  by_cases h0 : M.nameF n.data.toList = 0
  · have hc : staC k rd n = 0 := by rw [h]; exact h0
    obtain ⟨h20, -⟩ := M.nameF_zero h0
    have hL : n.data.toList.length = n.size := by simp
    rw [hL] at h20
    have S := fun w => l11Start_any k rd n w hk h20 h0
    have e1 : ∀ v, staI k rd n v = v := fun v => by simp [staI, hc]
    have e2 : staN k rd n = M.bs (M.nrm n.data.toList) := by simp [staN, hc]
    rw [e1, e1, e1, e2, hc]
    rw [h0] at F
    generalize M.bs (M.nrm n.data.toList) = m at *
    generalize M.pubN k = u at *
    clear e1 e2 h hc h20 h0 hL
    go_enter Tryd.func11, Tryd.ntmps11
    go_wp2_with fail
    generalize w.alloc (.cells #[.int .i64 0, .int .i64 0, .int .i64 0, .int .i64 0, .string { data := #[] }] 34) = W0 at *
    refine (l1Secret_any _ _).mono ?_
    rintro r w' ⟨rfl, rfl⟩
    go_wp2_with fail
    refine (l2Is_any _ _).mono ?_
    rintro r w' ⟨rfl, rfl⟩
    go_wp2_with fail
    refine (F _).mono ?_
    rintro e u1 ⟨rfl, b1⟩
    go_wp2_with fail
    refine (S _).mono ?_
    rintro e u2 ⟨rfl, b2⟩
    have b12 := btr b1 b2
    have q0 := (A0.on b12).cell 0 _ rfl
    have q1 := (A0.on b12).cell 1 _ rfl
    have q2 := (A0.on b12).cell 2 _ rfl
    have q3 := (A0.on b12).cell 3 _ rfl
    have q4 := (A0.on b12).cell 4 _ rfl
    have z0 := (A0.on b12).free 0 _ rfl
    have z1 := (A0.on b12).free 1 _ rfl
    have z2 := (A0.on b12).free 2 _ rfl
    have z3 := (A0.on b12).free 3 _ rfl
    have z4 := (A0.on b12).free 4 _ rfl
    have HB := Lib.hid (btr b0 b12)
    clear A0 b0 b1 b2 b12 S F
    go_wp2_with fail
    refine bodyPost_ret (v := C5 0 k rd u m) (by simp [results, Tryd.results11, go_sem, q0, q1, q2, q3, q4]) rfl ⟨rfl, ?_⟩
    exact (by (iterate 5 (refine bset ?_ (by dsimp only; omega) _)); exact HB.out)
  · have hc : ¬ staC k rd n = 0 := by rw [h]; exact h0
    rw [(sta_vals hc k).1, (sta_vals hc rd).1, (sta_vals hc (M.pubN k)).1, (sta_vals hc k).2, h]
    generalize M.nameF n.data.toList = c at *
    have e3 : (c != 0) = true := by simpa using h0
    clear h hc
    go_enter Tryd.func11, Tryd.ntmps11
    go_wp2_with fail
    generalize w.alloc (.cells #[.int .i64 0, .int .i64 0, .int .i64 0, .int .i64 0, .string { data := #[] }] 34) = W0 at *
    refine (l1Secret_any _ _).mono ?_
    rintro r w' ⟨rfl, rfl⟩
    go_wp2_with fail
    refine (l2Is_any _ _).mono ?_
    rintro r w' ⟨rfl, rfl⟩
    go_wp2_with fail
    refine (F _).mono ?_
    rintro e u1 ⟨rfl, b1⟩
    have q0 := (A0.on b1).cell 0 _ rfl
    have q1 := (A0.on b1).cell 1 _ rfl
    have q2 := (A0.on b1).cell 2 _ rfl
    have q3 := (A0.on b1).cell 3 _ rfl
    have q4 := (A0.on b1).cell 4 _ rfl
    have z0 := (A0.on b1).free 0 _ rfl
    have z1 := (A0.on b1).free 1 _ rfl
    have z2 := (A0.on b1).free 2 _ rfl
    have z3 := (A0.on b1).free 3 _ rfl
    have z4 := (A0.on b1).free 4 _ rfl
    have HB := Lib.hid (btr b0 b1)
    clear A0 b0 b1 F
    go_wp2_with fail
    refine bodyPost_ret (v := C5 c 0 0 0 { data := #[] }) (by simp [results, Tryd.results11, go_sem, q0, q1, q2, q3, q4]) rfl ⟨rfl, ?_⟩
    exact (by (iterate 5 (refine bset ?_ (by dsimp only; omega) _)); exact HB.out)

theorem l11Keys_any (sh he pb : Int) (w : World) (hs : M.sumB sh = true) (hh : M.sumB he = true) :
    Calls Tryd.prog 33 #[.int .i64 sh, .int .i64 he, .int .i64 pb] w fun e w' => e = .returned (K4 (upN sh he) (downN sh he) he pb) ∧ Below w.heap.size w w' := by
  have b0 := bal (Below.refl _ w) (.cells #[.int .i64 0, .int .i64 0, .int .i64 0, .int .i64 0] 43)
  have A0 := At.new w (KL4 0 0 0 0) 43
  have M1 := fun w => l11Master_any sh he w hs hh
  have hm := masterN_sum sh he
  unfold upN downN
  generalize masterN sh he = m at *
  have R := fun w : World => row_one0 (w := w) m 2 hm
  have HA := Lib.hid (show [m].all M.sumB = true by simp [hm])
  clear hs hh hm
  go_enter Tryd.func33, Tryd.ntmps33
  go_wp2_with fail
  generalize w.alloc (.cells #[.int .i64 0, .int .i64 0, .int .i64 0, .int .i64 0] 43) = W0 at *
  refine (M1 _).mono ?_
  rintro e u1 ⟨rfl, b1⟩
  go_wp2_with fail
  refine (l2Tag_any M.upS _ _ _ _ _ _ (by decide) (R u1) (by simp) HA.out (by omega)).mono ?_
  rintro e u2 ⟨rfl, b2⟩
  go_wp2_with fail
  refine (l2Tag_any M.downS _ _ _ _ _ _ (by decide) (R u2) (by simp) HA.out (by omega)).mono ?_
  rintro e u3 ⟨rfl, b3⟩
  have b13 := btr (bal (btr (bal b1 _) b2) _) b3
  have q0 := (A0.on b13).cell 0 _ rfl
  have q1 := (A0.on b13).cell 1 _ rfl
  have q2 := (A0.on b13).cell 2 _ rfl
  have q3 := (A0.on b13).cell 3 _ rfl
  have z0 := (A0.on b13).free 0 _ rfl
  have z1 := (A0.on b13).free 1 _ rfl
  have z2 := (A0.on b13).free 2 _ rfl
  have z3 := (A0.on b13).free 3 _ rfl
  have HB := Lib.hid (btr b0 b13)
  clear A0 b0 b1 b2 b3 b13 M1 R HA
  go_wp2_with fail
  refine bodyPost_ret (v := K4 (M.tagL M.upS [m]) (M.tagL M.downS [m]) he pb) (by simp [results, Tryd.results33, go_sem, q0, q1, q2, q3]) rfl ⟨rfl, ?_⟩
  exact (by (iterate 4 (refine bset ?_ (by dsimp only; omega) _)); exact HB.out)
theorem specFinishOf_any (sh he : Int) (w : World) :
    Calls Tryd.prog 17 #[.int .i64 sh, .int .i64 he] w fun e w' => e = .returned (I2 (finR sh he).1 (finR sh he).2) ∧ Below w.heap.size w w' := by
  cases hs : pubB sh
  · rw [show finR sh he = (3, 0) by simp [finR, hs]]
    go_enter Tryd.func17, Tryd.ntmps17
    go_wp2_with fail
    refine (l1Public_any _ _).mono ?_
    rintro r w' ⟨rfl, rfl⟩
    go_wp2_with fail
    exact bodyPost_ret (v := I2 3 0) (by simp [results, Tryd.results17, go_sem]) rfl ⟨rfl, bal (Below.refl _ _) _⟩
  cases hh : M.sumB he
  · rw [show finR sh he = (3, 0) by simp [finR, hh]]
    go_enter Tryd.func17, Tryd.ntmps17
    go_wp2_with fail
    refine (l1Public_any _ _).mono ?_
    rintro r w' ⟨rfl, rfl⟩
    go_wp2_with fail
    refine (l2Is_any _ _).mono ?_
    rintro r w' ⟨rfl, rfl⟩
    go_wp2_with fail
    exact bodyPost_ret (v := I2 3 0) (by simp [results, Tryd.results17, go_sem]) rfl ⟨rfl, bal (Below.refl _ _) _⟩
  rw [show finR sh he = (0, finN sh he) by simp [finR, hs, hh]]
  have b0 := bal (Below.refl _ w) (.cells #[.int .i64 0, .int .i64 0] 50)
  have A0 := At.new w [.int .i64 0, .int .i64 0] 50
  have S := fun w => l11Finish_any sh he w (pub_sum6 hs) hh
  generalize finN sh he = f at *
  go_enter Tryd.func17, Tryd.ntmps17
  go_wp2_with fail
  generalize w.alloc (.cells #[.int .i64 0, .int .i64 0] 50) = W0 at *
  refine (l1Public_any _ _).mono ?_
  rintro r w' ⟨rfl, rfl⟩
  go_wp2_with fail
  refine (l2Is_any _ _).mono ?_
  rintro r w' ⟨rfl, rfl⟩
  go_wp2_with fail
  refine (S _).mono ?_
  rintro e u1 ⟨rfl, b1⟩
  have q0 := (A0.on b1).cell 0 _ rfl
  have q1 := (A0.on b1).cell 1 _ rfl
  have z0 := (A0.on b1).free 0 _ rfl
  have z1 := (A0.on b1).free 1 _ rfl
  have HB := Lib.hid (btr b0 b1)
  clear A0 b0 b1 S
  go_wp2_with fail
  refine bodyPost_ret (v := I2 0 f) (by simp [results, Tryd.results17, go_sem, q0, q1]) rfl ⟨rfl, ?_⟩
  exact (by (iterate 2 (refine bset ?_ (by dsimp only; omega) _)); exact HB.out)
theorem specKeysOf_any (sh he pb : Int) (w : World) :
    Calls Tryd.prog 14 #[.int .i64 sh, .int .i64 he, .int .i64 pb] w fun e w' => e = .returned (T11 (keysT sh he pb)) ∧ Below w.heap.size w w' := by
  cases hs : pubB sh
  · rw [keysT_no (show keysB sh he pb = false by simp [keysB, hs])]
    go_enter Tryd.func14, Tryd.ntmps14
    go_wp2_with fail
    refine (l1Public_any _ _).mono ?_
    rintro r w' ⟨rfl, rfl⟩
    go_wp2_with fail
    exact bodyPost_ret (v := T11 (tak0 3)) (by simp [results, Tryd.results14, go_sem, tak0]) rfl ⟨rfl, bal (Below.refl _ _) _⟩
  cases hh : M.sumB he
  · rw [keysT_no (show keysB sh he pb = false by simp [keysB, hh])]
    go_enter Tryd.func14, Tryd.ntmps14
    go_wp2_with fail
    refine (l1Public_any _ _).mono ?_
    rintro r w' ⟨rfl, rfl⟩
    go_wp2_with fail
    refine (l2Is_any _ _).mono ?_
    rintro r w' ⟨rfl, rfl⟩
    go_wp2_with fail
    exact bodyPost_ret (v := T11 (tak0 3)) (by simp [results, Tryd.results14, go_sem, tak0]) rfl ⟨rfl, bal (Below.refl _ _) _⟩
  cases hp : pubB pb
  · rw [keysT_no (show keysB sh he pb = false by simp [keysB, hp])]
    go_enter Tryd.func14, Tryd.ntmps14
    go_wp2_with fail
    refine (l1Public_any _ _).mono ?_
    rintro r w' ⟨rfl, rfl⟩
    go_wp2_with fail
    refine (l2Is_any _ _).mono ?_
    rintro r w' ⟨rfl, rfl⟩
    go_wp2_with fail
    refine (l1Public_any _ _).mono ?_
    rintro r w' ⟨rfl, rfl⟩
    go_wp2_with fail
    exact bodyPost_ret (v := T11 (tak0 3)) (by simp [results, Tryd.results14, go_sem, tak0]) rfl ⟨rfl, bal (Below.refl _ _) _⟩
  rw [keysT_yes (show keysB sh he pb = true by simp [keysB, hs, hh, hp])]
  have b0 := bal (Below.refl _ w) (.cells #[.int .i64 0, .int .i64 0, .int .i64 0, .int .i64 0, .int .i64 0, .int .i64 0, .int .i64 0, .int .i64 0, .int .i64 0, .int .i64 0, .int .i64 0] 45)
  have A0 := At.new w [.int .i64 0, .int .i64 0, .int .i64 0, .int .i64 0, .int .i64 0, .int .i64 0, .int .i64 0, .int .i64 0, .int .i64 0, .int .i64 0, .int .i64 0] 45
  have S := fun w => l11Keys_any sh he pb w (pub_sum6 hs) hh
  unfold keysK
  generalize upN sh he = u at *
  generalize downN sh he = d at *
  go_enter Tryd.func14, Tryd.ntmps14
  go_wp2_with fail
  generalize w.alloc (.cells #[.int .i64 0, .int .i64 0, .int .i64 0, .int .i64 0, .int .i64 0, .int .i64 0, .int .i64 0, .int .i64 0, .int .i64 0, .int .i64 0, .int .i64 0] 45) = W0 at *
  refine (l1Public_any _ _).mono ?_
  rintro r w' ⟨rfl, rfl⟩
  go_wp2_with fail
  refine (l2Is_any _ _).mono ?_
  rintro r w' ⟨rfl, rfl⟩
  go_wp2_with fail
  refine (l1Public_any _ _).mono ?_
  rintro r w' ⟨rfl, rfl⟩
  go_wp2_with fail
  refine (S _).mono ?_
  rintro e u1 ⟨rfl, b1⟩
  have q0 := (A0.on b1).cell 0 _ rfl
  have q1 := (A0.on b1).cell 1 _ rfl
  have q2 := (A0.on b1).cell 2 _ rfl
  have q3 := (A0.on b1).cell 3 _ rfl
  have q4 := (A0.on b1).cell 4 _ rfl
  have q5 := (A0.on b1).cell 5 _ rfl
  have q6 := (A0.on b1).cell 6 _ rfl
  have q7 := (A0.on b1).cell 7 _ rfl
  have q8 := (A0.on b1).cell 8 _ rfl
  have q9 := (A0.on b1).cell 9 _ rfl
  have q10 := (A0.on b1).cell 10 _ rfl
  have z0 := (A0.on b1).free 0 _ rfl
  have z1 := (A0.on b1).free 1 _ rfl
  have z2 := (A0.on b1).free 2 _ rfl
  have z3 := (A0.on b1).free 3 _ rfl
  have z4 := (A0.on b1).free 4 _ rfl
  have z5 := (A0.on b1).free 5 _ rfl
  have z6 := (A0.on b1).free 6 _ rfl
  have z7 := (A0.on b1).free 7 _ rfl
  have z8 := (A0.on b1).free 8 _ rfl
  have z9 := (A0.on b1).free 9 _ rfl
  have z10 := (A0.on b1).free 10 _ rfl
  have HB := Lib.hid (btr b0 b1)
  clear A0 b0 b1 S
  go_wp2_with fail
  refine bodyPost_ret (v := T11 ⟨0, 0, 0, 0, 0, 0, 0, u, d, he, pb⟩) (by simp [results, Tryd.results14, go_sem, q0, q1, q2, q3, q4, q5, q6, q7, q8, q9, q10]) rfl ⟨rfl, ?_⟩
  exact (by (iterate 11 (refine bset ?_ (by dsimp only; omega) _)); exact HB.out)
end Go.Proofs.YtlodhleihnlchaaDoor
