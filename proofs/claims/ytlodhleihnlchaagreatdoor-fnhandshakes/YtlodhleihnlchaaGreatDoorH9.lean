/- Texts of this seat that several laws rest on, laid into one. Conditions: as each theorem states. -/
import Derived.Test.YtlodhleihnlchaaGreatDoorH3
import Derived.Test.YtlodhleihnlchaaGreatDoorH4
import Derived.Test.YtlodhleihnlchaaGreatDoorH5
import Derived.Test.YtlodhleihnlchaaGreatDoorH6
import Derived.Test.YtlodhleihnlchaaGreatDoorH8
namespace Go.Proofs.YtlodhleihnlchaaGreatDoor
open Go.RowKit
set_option maxRecDepth 100000
set_option linter.unusedVariables false

theorem kf11 (a b : Int) (w : World) : Sem.run Tryz.prog (Instr.field 119 (.agg #[.int .i64 a, .int .i64 b]) 1) w = .ok (.int .i64 b) w := by kernel_rfl
theorem l11Start_any (k rd : Int) (n : ByteArray) (w : World) (hk : inB k 1 1438 = true) (hn : n.size ≤ 20) (hf : M.nameF n.data.toList = 0) :
    Calls Tryz.prog 168 #[.int .i64 k, .int .i64 rd, .string n] w fun e w' => e = .returned (H4 k rd (M.pubN k) (M.bs (M.nrm n.data.toList))) ∧ Below w.heap.size w w' := by
  have g1 := kf11
  have b0 := bal (Below.refl _ w) (.cells #[.int .i64 0, .int .i64 0, .int .i64 0, .string { data := #[] }] 103)
  have A0 := At.new w (HL4 0 0 0 { data := #[] }) 103
  have hk' := hk
  simp only [inB, decide_eq_true_eq] at hk'
  have K1 : ∀ w, Calls Tryz.prog 187 #[.int .i64 k] w fun r w' => r = .returned (I2 k (M.pubN k)) ∧ Below w.heap.size w w' := fun w => l1Key_any k w (by omega) (by omega)
  have N := fun w : World => l5Normal_any n w hn
  generalize M.pubN k = u at *
  generalize M.bs (M.nrm n.data.toList) = m at *
  clear hk' hk hf
  go_enter Tryz.func168, Tryz.ntmps168
  go_wp2_with fail
  generalize w.alloc (.cells #[.int .i64 0, .int .i64 0, .int .i64 0, .string { data := #[] }] 103) = W0 at *
  refine (K1 _).mono ?_
  rintro e u1 ⟨rfl, b1⟩
  go_wp2_with fail
  refine (N _).mono ?_
  rintro e u2 ⟨rfl, b2⟩
  have b12 := btr b1 b2
  have q0 := (A0.on b12).cell 0 _ rfl
  have q1 := (A0.on b12).cell 1 _ rfl
  have q2 := (A0.on b12).cell 2 _ rfl
  have q3 := (A0.on b12).cell 3 _ rfl
  have z0 := (A0.on b12).free 0 _ rfl
  have z1 := (A0.on b12).free 1 _ rfl
  have z2 := (A0.on b12).free 2 _ rfl
  have z3 := (A0.on b12).free 3 _ rfl
  have HB := Lib.hid (btr b0 b12)
  clear A0 b0 b1 b2 b12 K1 N
  go_wp2_with fail
  refine bodyPost_ret (v := H4 k rd u m) (by simp [results, Tryz.results168, go_sem, q0, q1, q2, q3]) rfl ⟨rfl, ?_⟩
  exact (by (iterate 4 (refine bset ?_ (by dsimp only; omega) _)); exact HB.out)
theorem l11Fault_any (g : Nat) (k r s : Int) (n : ByteArray) (w : World) (A0 : At g (HL4 k r s n) w) (hn : n.size ≤ maxLen) :
    Calls Tryz.prog 177 #[.pointer (some ⟨g, 0, none⟩)] w fun e w' => e = .returned (.int .i64 (cliF k r s n)) ∧ Below w.heap.size w w' := by
  have g1 := kf11
  have F := fun w A => l6Hello1_any g k r s n w A hn
  have d0 := A0.cell 0 _ rfl
  have d1 := A0.cell 1 _ rfl
  have d2 := A0.cell 2 _ rfl
  have d3 := A0.cell 3 _ rfl
  cases hk : inB k 1 1438
  · rw [cliF_sec hk]
    go_enter Tryz.func177, Tryz.ntmps177
    go_wp2_with fail
    refine (l1Secret_any _ _).mono ?_
    rintro r w' ⟨rfl, rfl⟩
    go_wp2_with fail
    go_ret
    exact ⟨rfl, Below.refl _ _⟩
  have hk' := hk
  simp only [inB, decide_eq_true_eq] at hk'
  by_cases h2 : helF n.data.toList r s = 0
  · rw [h2] at F
    have K1 : ∀ w, Calls Tryz.prog 187 #[.int .i64 k] w fun r w' => r = .returned (I2 k (M.pubN k)) ∧ Below w.heap.size w w' := fun w => l1Key_any k w (by omega) (by omega)
    by_cases h3 : M.pubN k = s
    · rw [cliF_yes hk h2 h3]
      have e3 : (M.pubN k != s) = false := by simpa using h3
      have e4 : (M.pubN k == s) = true := by simpa using h3
      generalize M.pubN k = u at *
      clear h3 h2 hk'
      go_enter Tryz.func177, Tryz.ntmps177
      go_wp2_with fail
      refine (l1Secret_any _ _).mono ?_
      rintro r w' ⟨rfl, rfl⟩
      go_wp2_with fail
      refine (F _ A0).mono ?_
      rintro e u1 ⟨rfl, b1⟩
      have p0 := (A0.on b1).cell 0 _ rfl
      have p1 := (A0.on b1).cell 1 _ rfl
      have p2 := (A0.on b1).cell 2 _ rfl
      have p3 := (A0.on b1).cell 3 _ rfl
      go_wp2_with fail
      refine wp_region_line (Bel u1) [(0, true), (1, true), (2, true), (3, true), (6, true), (7, true), (8, true), (9, true), (10, true), (4, false), (5, true), (11, true)] (by kernel_rfl) (by kernel_rfl) (fun _ _ d _ _ h => by cases d <;> exact h) (Bel.drew u1) ?_
      have hst := Bel.drew u1
      have inst : Nonempty (Of (Bel u1)) := ⟨⟨_, hst⟩⟩
      have q0 := bel_cell p0
      have q2 := bel_cell p2
      iterate 9 (refine line_read rfl (by kernel_rfl) (fun K hK => ?_); go_big_quiet_op; refine hK _ ?_; clear hK K)
      refine line_alone rfl (by kernel_rfl) (fun K hK => ?_)
      refine call_wp (args := #[.int .i64 k]) rfl (by kernel_rfl) (by kernel_rfl) (K1 _) (fun wn hbn => ?_)
      have hst2 := hst.on hbn
      refine hK _ _ hst2 ?_
      clear hK K hst hbn
      have hst := hst2
      clear hst2
      simp only [Act.put, List.setIfInBounds_toArray, List.set_cons_zero, List.set_cons_succ]
      iterate 2 (refine line_read rfl (by kernel_rfl) (fun K hK => ?_); go_big_quiet_op; refine hK _ ?_; clear hK K)
      refine line_nil ?_
      have bb := btr b1 hst.out
      clear hst
      go_wp2_with fail
      go_ret
      exact ⟨rfl, bb⟩
    · rw [cliF_form hk h2 h3]
      have e3 : (M.pubN k != s) = true := by simpa using h3
      have e4 : (M.pubN k == s) = false := by simpa using h3
      generalize M.pubN k = u at *
      clear h3 h2 hk'
      go_enter Tryz.func177, Tryz.ntmps177
      go_wp2_with fail
      refine (l1Secret_any _ _).mono ?_
      rintro r w' ⟨rfl, rfl⟩
      go_wp2_with fail
      refine (F _ A0).mono ?_
      rintro e u1 ⟨rfl, b1⟩
      have p0 := (A0.on b1).cell 0 _ rfl
      have p1 := (A0.on b1).cell 1 _ rfl
      have p2 := (A0.on b1).cell 2 _ rfl
      have p3 := (A0.on b1).cell 3 _ rfl
      go_wp2_with fail
      refine wp_region_line (Bel u1) [(0, true), (1, true), (2, true), (3, true), (6, true), (7, true), (8, true), (9, true), (10, true), (4, false), (5, true), (11, true)] (by kernel_rfl) (by kernel_rfl) (fun _ _ d _ _ h => by cases d <;> exact h) (Bel.drew u1) ?_
      have hst := Bel.drew u1
      have inst : Nonempty (Of (Bel u1)) := ⟨⟨_, hst⟩⟩
      have q0 := bel_cell p0
      have q2 := bel_cell p2
      iterate 9 (refine line_read rfl (by kernel_rfl) (fun K hK => ?_); go_big_quiet_op; refine hK _ ?_; clear hK K)
      refine line_alone rfl (by kernel_rfl) (fun K hK => ?_)
      refine call_wp (args := #[.int .i64 k]) rfl (by kernel_rfl) (by kernel_rfl) (K1 _) (fun wn hbn => ?_)
      have hst2 := hst.on hbn
      refine hK _ _ hst2 ?_
      clear hK K hst hbn
      have hst := hst2
      clear hst2
      simp only [Act.put, List.setIfInBounds_toArray, List.set_cons_zero, List.set_cons_succ]
      iterate 2 (refine line_read rfl (by kernel_rfl) (fun K hK => ?_); go_big_quiet_op; refine hK _ ?_; clear hK K)
      refine line_nil ?_
      have bb := btr b1 hst.out
      clear hst
      go_wp2_with fail
      go_ret
      exact ⟨rfl, bb⟩
  · rw [cliF_hel hk h2]
    generalize helF n.data.toList r s = c at *
    have e3 : (c != 0) = true := by simpa using h2
    go_enter Tryz.func177, Tryz.ntmps177
    go_wp2_with fail
    refine (l1Secret_any _ _).mono ?_
    rintro r w' ⟨rfl, rfl⟩
    go_wp2_with fail
    refine (F _ A0).mono ?_
    rintro e u1 ⟨rfl, b1⟩
    go_wp2_with fail
    go_ret
    exact ⟨rfl, b1⟩
theorem specClientFault_any (k r s : Int) (n : ByteArray) (w : World) (hn : n.size ≤ maxLen) :
    Calls Tryz.prog 78 #[H4 k r s n] w fun e w' => e = .returned (.int .i64 (cliF k r s n)) ∧ Below w.heap.size w w' := by
  have b0 := bal (Below.refl _ w) (.cells #[.int .i64 k, .int .i64 r, .int .i64 s, .string n] 103)
  have A0 := At.new w (HL4 k r s n) 103
  go_enter Tryz.func78, Tryz.ntmps78
  go_wp2_with fail
  refine (l11Fault_any _ k r s n _ A0 hn).mono ?_
  rintro e u1 ⟨rfl, b1⟩
  have hb := btr b0 b1
  go_wp2_with fail
  go_ret
  exact ⟨rfl, hb⟩
theorem sta_vals {k rd : Int} {n : ByteArray} (h : ¬ staC k rd n = 0) (v : Int) : staI k rd n v = 0 ∧ staN k rd n = { data := #[] } := by simp [staI, staN, h]
theorem specStartClient_any (k rd : Int) (n : ByteArray) (w : World) (hn : n.size ≤ maxLen) :
    Calls Tryz.prog 64 #[.int .i64 k, .int .i64 rd, .string n] w fun e w' => e = .returned (C5 (staC k rd n) (staI k rd n k) (staI k rd n rd) (staI k rd n (M.pubN k)) (staN k rd n)) ∧ Below w.heap.size w w' := by
  have b0 := bal (Below.refl _ w) (.cells #[.int .i64 0, .int .i64 0, .int .i64 0, .int .i64 0, .string { data := #[] }] 105)
  have A0 := At.new w (CL5 0 0 0 0 { data := #[] }) 105
  have F := fun w => l5Fault_any n w hn
  cases hk : inB k 1 1438
  · have h := staC_no (n := n) (show (inB k 1 1438 && M.sumB rd) = false by rw [hk]; rfl)
    have hc : ¬ staC k rd n = 0 := by rw [h]; omega
    rw [(sta_vals hc k).1, (sta_vals hc rd).1, (sta_vals hc (M.pubN k)).1, (sta_vals hc k).2, h]
    clear h hc
    go_enter Tryz.func64, Tryz.ntmps64
    go_wp2_with fail
    refine (l1Secret_any _ _).mono ?_
    rintro r w' ⟨rfl, rfl⟩
    go_wp2_with fail
    exact bodyPost_ret (v := C5 3 0 0 0 { data := #[] }) (by simp [results, Tryz.results64, go_sem]) rfl ⟨rfl, bal (Below.refl _ _) _⟩
  cases hr : M.sumB rd
  · have h := staC_no (n := n) (show (inB k 1 1438 && M.sumB rd) = false by rw [hk, hr]; rfl)
    have hc : ¬ staC k rd n = 0 := by rw [h]; omega
    rw [(sta_vals hc k).1, (sta_vals hc rd).1, (sta_vals hc (M.pubN k)).1, (sta_vals hc k).2, h]
    clear h hc
    go_enter Tryz.func64, Tryz.ntmps64
    go_wp2_with fail
    refine (l1Secret_any _ _).mono ?_
    rintro r w' ⟨rfl, rfl⟩
    go_wp2_with fail
    refine (l2Is_any _ _).mono ?_
    rintro r w' ⟨rfl, rfl⟩
    go_wp2_with fail
    exact bodyPost_ret (v := C5 3 0 0 0 { data := #[] }) (by simp [results, Tryz.results64, go_sem]) rfl ⟨rfl, bal (Below.refl _ _) _⟩
  have h := staC_yes (n := n) (show (inB k 1 1438 && M.sumB rd) = true by rw [hk, hr]; rfl)
  by_cases h0 : M.nameF n.data.toList = 0
  · have hc : staC k rd n = 0 := by rw [h]; exact h0
    obtain ⟨h20, -⟩ := M.nameF_zero h0
    have hL : n.data.toList.length = n.size := by simp
    rw [hL] at h20
    have S := fun w => l11Start_any k rd n w hk h20 h0
    have e1 : ∀ v, staI k rd n v = v := fun v => by simp [staI, hc]
    have e2 : staN k rd n = M.bs (M.nrm n.data.toList) := by simp [staN, hc]
    rw [e1, e1, e1, e2, hc]
    rw [h0] at F
    generalize M.bs (M.nrm n.data.toList) = m at *
    generalize M.pubN k = u at *
    clear e1 e2 h hc h20 h0 hL
    go_enter Tryz.func64, Tryz.ntmps64
    go_wp2_with fail
    generalize w.alloc (.cells #[.int .i64 0, .int .i64 0, .int .i64 0, .int .i64 0, .string { data := #[] }] 105) = W0 at *
    refine (l1Secret_any _ _).mono ?_
    rintro r w' ⟨rfl, rfl⟩
    go_wp2_with fail
    refine (l2Is_any _ _).mono ?_
    rintro r w' ⟨rfl, rfl⟩
    go_wp2_with fail
    refine (F _).mono ?_
    rintro e u1 ⟨rfl, b1⟩
    go_wp2_with fail
    refine (S _).mono ?_
    rintro e u2 ⟨rfl, b2⟩
    have b12 := btr b1 b2
    have q0 := (A0.on b12).cell 0 _ rfl
    have q1 := (A0.on b12).cell 1 _ rfl
    have q2 := (A0.on b12).cell 2 _ rfl
    have q3 := (A0.on b12).cell 3 _ rfl
    have q4 := (A0.on b12).cell 4 _ rfl
    have z0 := (A0.on b12).free 0 _ rfl
    have z1 := (A0.on b12).free 1 _ rfl
    have z2 := (A0.on b12).free 2 _ rfl
    have z3 := (A0.on b12).free 3 _ rfl
    have z4 := (A0.on b12).free 4 _ rfl
    have HB := Lib.hid (btr b0 b12)
    clear A0 b0 b1 b2 b12 S F
    go_wp2_with fail
    refine bodyPost_ret (v := C5 0 k rd u m) (by simp [results, Tryz.results64, go_sem, q0, q1, q2, q3, q4]) rfl ⟨rfl, ?_⟩
    exact (by (iterate 5 (refine bset ?_ (by dsimp only; omega) _)); exact HB.out)
  · have hc : ¬ staC k rd n = 0 := by rw [h]; exact h0
    rw [(sta_vals hc k).1, (sta_vals hc rd).1, (sta_vals hc (M.pubN k)).1, (sta_vals hc k).2, h]
    generalize M.nameF n.data.toList = c at *
    have e3 : (c != 0) = true := by simpa using h0
    clear h hc
    go_enter Tryz.func64, Tryz.ntmps64
    go_wp2_with fail
    generalize w.alloc (.cells #[.int .i64 0, .int .i64 0, .int .i64 0, .int .i64 0, .string { data := #[] }] 105) = W0 at *
    refine (l1Secret_any _ _).mono ?_
    rintro r w' ⟨rfl, rfl⟩
    go_wp2_with fail
    refine (l2Is_any _ _).mono ?_
    rintro r w' ⟨rfl, rfl⟩
    go_wp2_with fail
    refine (F _).mono ?_
    rintro e u1 ⟨rfl, b1⟩
    have q0 := (A0.on b1).cell 0 _ rfl
    have q1 := (A0.on b1).cell 1 _ rfl
    have q2 := (A0.on b1).cell 2 _ rfl
    have q3 := (A0.on b1).cell 3 _ rfl
    have q4 := (A0.on b1).cell 4 _ rfl
    have z0 := (A0.on b1).free 0 _ rfl
    have z1 := (A0.on b1).free 1 _ rfl
    have z2 := (A0.on b1).free 2 _ rfl
    have z3 := (A0.on b1).free 3 _ rfl
    have z4 := (A0.on b1).free 4 _ rfl
    have HB := Lib.hid (btr b0 b1)
    clear A0 b0 b1 F
    go_wp2_with fail
    refine bodyPost_ret (v := C5 c 0 0 0 { data := #[] }) (by simp [results, Tryz.results64, go_sem, q0, q1, q2, q3, q4]) rfl ⟨rfl, ?_⟩
    exact (by (iterate 5 (refine bset ?_ (by dsimp only; omega) _)); exact HB.out)

theorem l11Keys_any (sh he pb : Int) (w : World) (hs : M.sumB sh = true) (hh : M.sumB he = true) :
    Calls Tryz.prog 175 #[.int .i64 sh, .int .i64 he, .int .i64 pb] w fun e w' => e = .returned (K4 (upN sh he) (downN sh he) he pb) ∧ Below w.heap.size w w' := by
  have b0 := bal (Below.refl _ w) (.cells #[.int .i64 0, .int .i64 0, .int .i64 0, .int .i64 0] 110)
  have A0 := At.new w (KL4 0 0 0 0) 110
  have M1 := fun w => l11Master_any sh he w hs hh
  have hm := masterN_sum sh he
  unfold upN downN
  generalize masterN sh he = m at *
  have R := fun w : World => row_one0 (w := w) m 2 hm
  have HA := Lib.hid (show [m].all M.sumB = true by simp [hm])
  clear hs hh hm
  go_enter Tryz.func175, Tryz.ntmps175
  go_wp2_with fail
  generalize w.alloc (.cells #[.int .i64 0, .int .i64 0, .int .i64 0, .int .i64 0] 110) = W0 at *
  refine (M1 _).mono ?_
  rintro e u1 ⟨rfl, b1⟩
  go_wp2_with fail
  refine (l2Tag_any M.upS _ _ _ _ _ _ (by decide) (R u1) (by simp) HA.out (by omega)).mono ?_
  rintro e u2 ⟨rfl, b2⟩
  go_wp2_with fail
  refine (l2Tag_any M.downS _ _ _ _ _ _ (by decide) (R u2) (by simp) HA.out (by omega)).mono ?_
  rintro e u3 ⟨rfl, b3⟩
  have b13 := btr (bal (btr (bal b1 _) b2) _) b3
  have q0 := (A0.on b13).cell 0 _ rfl
  have q1 := (A0.on b13).cell 1 _ rfl
  have q2 := (A0.on b13).cell 2 _ rfl
  have q3 := (A0.on b13).cell 3 _ rfl
  have z0 := (A0.on b13).free 0 _ rfl
  have z1 := (A0.on b13).free 1 _ rfl
  have z2 := (A0.on b13).free 2 _ rfl
  have z3 := (A0.on b13).free 3 _ rfl
  have HB := Lib.hid (btr b0 b13)
  clear A0 b0 b1 b2 b3 b13 M1 R HA
  go_wp2_with fail
  refine bodyPost_ret (v := K4 (M.tagL M.upS [m]) (M.tagL M.downS [m]) he pb) (by simp [results, Tryz.results175, go_sem, q0, q1, q2, q3]) rfl ⟨rfl, ?_⟩
  exact (by (iterate 4 (refine bset ?_ (by dsimp only; omega) _)); exact HB.out)
theorem specFinishOf_any (sh he : Int) (w : World) :
    Calls Tryz.prog 76 #[.int .i64 sh, .int .i64 he] w fun e w' => e = .returned (I2 (finR sh he).1 (finR sh he).2) ∧ Below w.heap.size w w' := by
  cases hs : pubB sh
  · rw [show finR sh he = (3, 0) by simp [finR, hs]]
    go_enter Tryz.func76, Tryz.ntmps76
    go_wp2_with fail
    refine (l1Public_any _ _).mono ?_
    rintro r w' ⟨rfl, rfl⟩
    go_wp2_with fail
    exact bodyPost_ret (v := I2 3 0) (by simp [results, Tryz.results76, go_sem]) rfl ⟨rfl, bal (Below.refl _ _) _⟩
  cases hh : M.sumB he
  · rw [show finR sh he = (3, 0) by simp [finR, hh]]
    go_enter Tryz.func76, Tryz.ntmps76
    go_wp2_with fail
    refine (l1Public_any _ _).mono ?_
    rintro r w' ⟨rfl, rfl⟩
    go_wp2_with fail
    refine (l2Is_any _ _).mono ?_
    rintro r w' ⟨rfl, rfl⟩
    go_wp2_with fail
    exact bodyPost_ret (v := I2 3 0) (by simp [results, Tryz.results76, go_sem]) rfl ⟨rfl, bal (Below.refl _ _) _⟩
  rw [show finR sh he = (0, finN sh he) by simp [finR, hs, hh]]
  have b0 := bal (Below.refl _ w) (.cells #[.int .i64 0, .int .i64 0] 49)
  have A0 := At.new w [.int .i64 0, .int .i64 0] 49
  have S := fun w => l11Finish_any sh he w (pub_sum6 hs) hh
  generalize finN sh he = f at *
  go_enter Tryz.func76, Tryz.ntmps76
  go_wp2_with fail
  generalize w.alloc (.cells #[.int .i64 0, .int .i64 0] 49) = W0 at *
  refine (l1Public_any _ _).mono ?_
  rintro r w' ⟨rfl, rfl⟩
  go_wp2_with fail
  refine (l2Is_any _ _).mono ?_
  rintro r w' ⟨rfl, rfl⟩
  go_wp2_with fail
  refine (S _).mono ?_
  rintro e u1 ⟨rfl, b1⟩
  have q0 := (A0.on b1).cell 0 _ rfl
  have q1 := (A0.on b1).cell 1 _ rfl
  have z0 := (A0.on b1).free 0 _ rfl
  have z1 := (A0.on b1).free 1 _ rfl
  have HB := Lib.hid (btr b0 b1)
  clear A0 b0 b1 S
  go_wp2_with fail
  refine bodyPost_ret (v := I2 0 f) (by simp [results, Tryz.results76, go_sem, q0, q1]) rfl ⟨rfl, ?_⟩
  exact (by (iterate 2 (refine bset ?_ (by dsimp only; omega) _)); exact HB.out)
theorem specKeysOf_any (sh he pb : Int) (w : World) :
    Calls Tryz.prog 74 #[.int .i64 sh, .int .i64 he, .int .i64 pb] w fun e w' => e = .returned (T11 (keysT sh he pb)) ∧ Below w.heap.size w w' := by
  cases hs : pubB sh
  · rw [keysT_no (show keysB sh he pb = false by simp [keysB, hs])]
    go_enter Tryz.func74, Tryz.ntmps74
    go_wp2_with fail
    refine (l1Public_any _ _).mono ?_
    rintro r w' ⟨rfl, rfl⟩
    go_wp2_with fail
    exact bodyPost_ret (v := T11 (tak0 3)) (by simp [results, Tryz.results74, go_sem, tak0]) rfl ⟨rfl, bal (Below.refl _ _) _⟩
  cases hh : M.sumB he
  · rw [keysT_no (show keysB sh he pb = false by simp [keysB, hh])]
    go_enter Tryz.func74, Tryz.ntmps74
    go_wp2_with fail
    refine (l1Public_any _ _).mono ?_
    rintro r w' ⟨rfl, rfl⟩
    go_wp2_with fail
    refine (l2Is_any _ _).mono ?_
    rintro r w' ⟨rfl, rfl⟩
    go_wp2_with fail
    exact bodyPost_ret (v := T11 (tak0 3)) (by simp [results, Tryz.results74, go_sem, tak0]) rfl ⟨rfl, bal (Below.refl _ _) _⟩
  cases hp : pubB pb
  · rw [keysT_no (show keysB sh he pb = false by simp [keysB, hp])]
    go_enter Tryz.func74, Tryz.ntmps74
    go_wp2_with fail
    refine (l1Public_any _ _).mono ?_
    rintro r w' ⟨rfl, rfl⟩
    go_wp2_with fail
    refine (l2Is_any _ _).mono ?_
    rintro r w' ⟨rfl, rfl⟩
    go_wp2_with fail
    refine (l1Public_any _ _).mono ?_
    rintro r w' ⟨rfl, rfl⟩
    go_wp2_with fail
    exact bodyPost_ret (v := T11 (tak0 3)) (by simp [results, Tryz.results74, go_sem, tak0]) rfl ⟨rfl, bal (Below.refl _ _) _⟩
  rw [keysT_yes (show keysB sh he pb = true by simp [keysB, hs, hh, hp])]
  have b0 := bal (Below.refl _ w) (.cells #[.int .i64 0, .int .i64 0, .int .i64 0, .int .i64 0, .int .i64 0, .int .i64 0, .int .i64 0, .int .i64 0, .int .i64 0, .int .i64 0, .int .i64 0] 112)
  have A0 := At.new w [.int .i64 0, .int .i64 0, .int .i64 0, .int .i64 0, .int .i64 0, .int .i64 0, .int .i64 0, .int .i64 0, .int .i64 0, .int .i64 0, .int .i64 0] 112
  have S := fun w => l11Keys_any sh he pb w (pub_sum6 hs) hh
  unfold keysK
  generalize upN sh he = u at *
  generalize downN sh he = d at *
  go_enter Tryz.func74, Tryz.ntmps74
  go_wp2_with fail
  generalize w.alloc (.cells #[.int .i64 0, .int .i64 0, .int .i64 0, .int .i64 0, .int .i64 0, .int .i64 0, .int .i64 0, .int .i64 0, .int .i64 0, .int .i64 0, .int .i64 0] 112) = W0 at *
  refine (l1Public_any _ _).mono ?_
  rintro r w' ⟨rfl, rfl⟩
  go_wp2_with fail
  refine (l2Is_any _ _).mono ?_
  rintro r w' ⟨rfl, rfl⟩
  go_wp2_with fail
  refine (l1Public_any _ _).mono ?_
  rintro r w' ⟨rfl, rfl⟩
  go_wp2_with fail
  refine (S _).mono ?_
  rintro e u1 ⟨rfl, b1⟩
  have q0 := (A0.on b1).cell 0 _ rfl
  have q1 := (A0.on b1).cell 1 _ rfl
  have q2 := (A0.on b1).cell 2 _ rfl
  have q3 := (A0.on b1).cell 3 _ rfl
  have q4 := (A0.on b1).cell 4 _ rfl
  have q5 := (A0.on b1).cell 5 _ rfl
  have q6 := (A0.on b1).cell 6 _ rfl
  have q7 := (A0.on b1).cell 7 _ rfl
  have q8 := (A0.on b1).cell 8 _ rfl
  have q9 := (A0.on b1).cell 9 _ rfl
  have q10 := (A0.on b1).cell 10 _ rfl
  have z0 := (A0.on b1).free 0 _ rfl
  have z1 := (A0.on b1).free 1 _ rfl
  have z2 := (A0.on b1).free 2 _ rfl
  have z3 := (A0.on b1).free 3 _ rfl
  have z4 := (A0.on b1).free 4 _ rfl
  have z5 := (A0.on b1).free 5 _ rfl
  have z6 := (A0.on b1).free 6 _ rfl
  have z7 := (A0.on b1).free 7 _ rfl
  have z8 := (A0.on b1).free 8 _ rfl
  have z9 := (A0.on b1).free 9 _ rfl
  have z10 := (A0.on b1).free 10 _ rfl
  have HB := Lib.hid (btr b0 b1)
  clear A0 b0 b1 S
  go_wp2_with fail
  refine bodyPost_ret (v := T11 ⟨0, 0, 0, 0, 0, 0, 0, u, d, he, pb⟩) (by simp [results, Tryz.results74, go_sem, q0, q1, q2, q3, q4, q5, q6, q7, q8, q9, q10]) rfl ⟨rfl, ?_⟩
  exact (by (iterate 11 (refine bset ?_ (by dsimp only; omega) _)); exact HB.out)
end Go.Proofs.YtlodhleihnlchaaGreatDoor
namespace Go.Proofs.YtlodhleihnlchaaGreatDoor
open Go.RowKit
set_option maxRecDepth 100000
set_option linter.unusedVariables false

theorem dl6DrawHelloP {w0 : World} {a : Option Addr} {len cap : Nat} {zs : List Int} {p0 : Nat} {w : World} (D : Draw w0 a len cap zs p0 w) (hp0 : p0 ≤ 100) :
    Calls Tryz.prog 90 #[.pointer (some ⟨w0.heap.size, 0, none⟩)] w (DHello (p0 + 3) (fun n r s => helF n.data.toList r s = 0) w0 a len cap zs w) := by
  have g1 := key1
  have hlt := D.lt
  have B0 : Drw w0 a len cap zs p0 w w.heap.size (HL3 0 0 { data := #[] }) (w.alloc (.cells #[.int .i64 0, .int .i64 0, .string { data := #[] }] 26)) :=
    ⟨D.alloc _, gal (World.grownBy.refl w (some w0.heap.size)) _, At.new w (HL3 0 0 { data := #[] }) 26⟩
  clear D
  go_enter Tryz.func90, Tryz.ntmps90
  go_wp2_with fail
  generalize w.alloc (.cells #[.int .i64 0, .int .i64 0, .string { data := #[] }] 26) = W0 at *
  refine (dnext 65521 B0.draw (by omega)).mono ?_
  rintro e w1 ⟨x, x0, x1, rfl, D1, O1⟩
  have hx : M.sumB x = true := by simp only [M.sumB, decide_eq_true_eq]; omega
  have B1 := B0.only O1 D1 (by omega)
  clear B0 D1 O1 x0 x1
  go_wp2_with fail
  refine (dsecret6 B1.draw (by omega)).mono ?_
  rintro e w2 ⟨k, k0, k1, rfl, D2, O2⟩
  have B2 := B1.only O2 D2 (by omega)
  clear B1 D2 O2
  go_wp2_with fail
  refine (l1Key_any _ _ (by omega) (by omega)).mono ?_
  rintro e w3 ⟨rfl, b3⟩
  have B3 := B2.on b3
  have hs := pub_base k0 k1
  generalize M.pw 4 k.toNat 2879 = s at *
  clear B2 b3
  go_wp2_with fail
  refine (dl5DrawName B3.draw (by omega)).mono ?_
  rintro e w4 ⟨n, hn, rfl, D4, g4⟩
  have B4 := B3.kept g4 D4 (by omega)
  have hF : helF n.data.toList x s = 0 := by rw [helF_yes (by rw [hx, hs]; rfl)]; exact hn.2
  have q0 := B4.res.cell 0 _ rfl
  have q1 := B4.res.cell 1 _ rfl
  have q2 := B4.res.cell 2 _ rfl
  have z0 := B4.res.free 0 _ rfl
  have z1 := B4.res.free 1 _ rfl
  have z2 := B4.res.free 2 _ rfl
  have HD := Lib.hid (And.intro hF B4)
  clear B3 B4 D4 g4 hn hF hx hs k0 k1
  go_wp2_with fail
  refine bodyPost_ret (v := H3 x s n) (by simp [results, Tryz.results90, go_sem, q0, q1, q2]) rfl ?_
  refine ⟨x, s, n, p0 + 1 + 1 + 1, HD.out.1, by omega, rfl, ?_, ?_⟩
  · iterate 3 (refine Draw.put ?_ (by dsimp only; omega) _)
    exact HD.out.2.draw
  · iterate 3 (refine gset ?_ (Nat.le_refl _) _)
    exact HD.out.2.grew
theorem dl6BentHelloP {w0 : World} {a : Option Addr} {len cap : Nat} {zs : List Int} {p0 : Nat} {w : World} (D : Draw w0 a len cap zs p0 w) (hp0 : p0 ≤ 90) :
    Calls Tryz.prog 99 #[.pointer (some ⟨w0.heap.size, 0, none⟩)] w (DHello (p0 + 10) (fun n r s => n.size ≤ 21) w0 a len cap zs w) := by
  have hlt := D.lt
  have D0 := D.alloc (.cells #[.int .i64 0, .int .i64 0, .string { data := #[] }] 26)
  have A0 := At.new w (HL3 0 0 { data := #[] }) 26
  have G0 := gal (World.grownBy.refl w (some w0.heap.size)) (.cells #[.int .i64 0, .int .i64 0, .string { data := #[] }] 26)
  have lt0 : w.heap.size < (w.alloc (.cells #[.int .i64 0, .int .i64 0, .string { data := #[] }] 26)).heap.size := by simp
  go_enter Tryz.func99, Tryz.ntmps99
  go_wp2_with fail
  generalize w.alloc (.cells #[.int .i64 0, .int .i64 0, .string { data := #[] }] 26) = W0 at *
  refine (dl6DrawHelloP D0 (by omega)).mono ?_
  rintro e w1 ⟨r, s, n, p, hf, hp, rfl, D1, g1⟩
  have hn := hel_size hf
  have lt1 : W0.heap.size ≤ w1.heap.size := g1.size
  have B1 : BentX w0 a len cap zs p w w.heap.size (HL3 0 0 { data := #[] }) w1.heap.size (HL3 r s n) (w1.alloc (.cells #[.int .i64 r, .int .i64 s, .string n] 26)) :=
    ⟨⟨D1.alloc _, gal (gtr G0 g1) _, (A0.kept g1 (fun e => by injection e with e; omega)).alloc _⟩, At.new w1 (HL3 r s n) 26⟩
  have hn' : n.size ≤ 21 := by omega
  clear D D0 A0 G0 D1 g1 hf hn
  go_wp2_with fail
  generalize w1.alloc (.cells #[.int .i64 r, .int .i64 s, .string n] 26) = v1 at *
  refine (dnext 8 B1.drw.draw (by omega)).mono ?_
  rintro e w2 ⟨sw, t0, t1, rfl, D2, O2⟩
  have B2 := B1.only O2 D2 (by omega) (by omega)
  clear B1 D2 O2 t1
  by_cases e0 : sw = 0
  · subst e0
    go_wp2_with fail
    refine (dl5Bent B2.drw.draw (by omega)).mono ?_
    rintro e w3 ⟨m, hs, rfl, D3, g3⟩
    have B3 := B2.kept g3 D3 (by omega) (by omega)
    have B4 := B3.put 2 (.string m) (by omega) (by omega) (by omega)
    clear B2 D3 g3
    have q0 := B3.drw.res.cell 0 _ rfl
    have q1 := B3.drw.res.cell 1 _ rfl
    have q2 := B3.drw.res.cell 2 _ rfl
    have z0 := B3.drw.res.free 0 _ rfl
    have z1 := B3.drw.res.free 1 _ rfl
    have z2 := B3.drw.res.free 2 _ rfl
    have x0 := B3.one.cell 0 _ rfl
    have x1 := B3.one.cell 1 _ rfl
    have x2 := B3.one.cell 2 _ rfl
    have f0 := B3.one.free 0 _ rfl
    have f1 := B3.one.free 1 _ rfl
    have f2 := B3.one.free 2 _ rfl
    have hrb : w.heap.size ≠ w1.heap.size := by omega
    have HB := Lib.hid B4
    clear B3 B4
    go_wp2_with fail
    refine bodyPost_ret (v := H3 r s m) (by simp [results, Tryz.results99, go_sem, q0, q1, q2]) rfl ?_
    refine ⟨_, _, _, p + 1 + 1, hs, ?hp, rfl, ?hd, ?hg⟩
    case hd =>
      iterate 3 (refine Draw.put ?_ (by dsimp only; omega) _)
      exact HB.out.drw.draw
    case hg =>
      iterate 3 (refine gset ?_ (Nat.le_refl _) _)
      exact HB.out.drw.grew
    case hp => omega
  by_cases e1 : sw = 1
  · subst e1
    go_wp2_with fail
    refine (dpick [1, 5, 2879] 3 B2.drw.draw (by omega) (by omega) (by omega) rfl 2).mono ?_
    rintro e w3 ⟨y, hy, rfl, D3, O3⟩
    have B3 := (B2.alloc (.cells #[.int .i64 1, .int .i64 5, .int .i64 2879] 2)).only O3 D3 (by omega) (by omega)
    have B4 := B3.put 1 (.int .i64 y) (by omega) (by omega) (by omega)
    clear B2 D3 O3 hy
    have q0 := B3.drw.res.cell 0 _ rfl
    have q1 := B3.drw.res.cell 1 _ rfl
    have q2 := B3.drw.res.cell 2 _ rfl
    have z0 := B3.drw.res.free 0 _ rfl
    have z1 := B3.drw.res.free 1 _ rfl
    have z2 := B3.drw.res.free 2 _ rfl
    have x0 := B3.one.cell 0 _ rfl
    have x1 := B3.one.cell 1 _ rfl
    have x2 := B3.one.cell 2 _ rfl
    have f0 := B3.one.free 0 _ rfl
    have f1 := B3.one.free 1 _ rfl
    have f2 := B3.one.free 2 _ rfl
    have hrb : w.heap.size ≠ w1.heap.size := by omega
    have HB := Lib.hid B4
    clear B3 B4
    go_wp2_with fail
    refine bodyPost_ret (v := H3 r y n) (by simp [results, Tryz.results99, go_sem, q0, q1, q2]) rfl ?_
    refine ⟨_, _, _, p + 1 + 1, hn', ?hp, rfl, ?hd, ?hg⟩
    case hd =>
      iterate 3 (refine Draw.put ?_ (by dsimp only; omega) _)
      exact HB.out.drw.draw
    case hg =>
      iterate 3 (refine gset ?_ (Nat.le_refl _) _)
      exact HB.out.drw.grew
    case hp => omega
  by_cases e2 : sw = 2
  · subst e2
    go_wp2_with fail
    refine (dpick [65521, -1] 2 B2.drw.draw (by omega) (by omega) (by omega) rfl 2).mono ?_
    rintro e w3 ⟨y, hy, rfl, D3, O3⟩
    have B3 := (B2.alloc (.cells #[.int .i64 65521, .int .i64 (-1)] 2)).only O3 D3 (by omega) (by omega)
    have B4 := B3.put 0 (.int .i64 y) (by omega) (by omega) (by omega)
    clear B2 D3 O3 hy
    have q0 := B3.drw.res.cell 0 _ rfl
    have q1 := B3.drw.res.cell 1 _ rfl
    have q2 := B3.drw.res.cell 2 _ rfl
    have z0 := B3.drw.res.free 0 _ rfl
    have z1 := B3.drw.res.free 1 _ rfl
    have z2 := B3.drw.res.free 2 _ rfl
    have x0 := B3.one.cell 0 _ rfl
    have x1 := B3.one.cell 1 _ rfl
    have x2 := B3.one.cell 2 _ rfl
    have f0 := B3.one.free 0 _ rfl
    have f1 := B3.one.free 1 _ rfl
    have f2 := B3.one.free 2 _ rfl
    have hrb : w.heap.size ≠ w1.heap.size := by omega
    have HB := Lib.hid B4
    clear B3 B4
    go_wp2_with fail
    refine bodyPost_ret (v := H3 y s n) (by simp [results, Tryz.results99, go_sem, q0, q1, q2]) rfl ?_
    refine ⟨_, _, _, p + 1 + 1, hn', ?hp, rfl, ?hd, ?hg⟩
    case hd =>
      iterate 3 (refine Draw.put ?_ (by dsimp only; omega) _)
      exact HB.out.drw.draw
    case hg =>
      iterate 3 (refine gset ?_ (Nat.le_refl _) _)
      exact HB.out.drw.grew
    case hp => omega
  · have n0 : (sw == 0) = false := by rw [beq_eq_false_iff_ne]; exact e0
    have n1 : (sw == 1) = false := by rw [beq_eq_false_iff_ne]; exact e1
    have n2 : (sw == 2) = false := by rw [beq_eq_false_iff_ne]; exact e2
    have B4 := B2
    have q0 := B2.drw.res.cell 0 _ rfl
    have q1 := B2.drw.res.cell 1 _ rfl
    have q2 := B2.drw.res.cell 2 _ rfl
    have z0 := B2.drw.res.free 0 _ rfl
    have z1 := B2.drw.res.free 1 _ rfl
    have z2 := B2.drw.res.free 2 _ rfl
    have x0 := B2.one.cell 0 _ rfl
    have x1 := B2.one.cell 1 _ rfl
    have x2 := B2.one.cell 2 _ rfl
    have f0 := B2.one.free 0 _ rfl
    have f1 := B2.one.free 1 _ rfl
    have f2 := B2.one.free 2 _ rfl
    have hrb : w.heap.size ≠ w1.heap.size := by omega
    have HB := Lib.hid B4
    clear B2 B4
    go_wp2_with fail
    refine bodyPost_ret (v := H3 r s n) (by simp [results, Tryz.results99, go_sem, q0, q1, q2]) rfl ?_
    refine ⟨_, _, _, p + 1, hn', ?hp, rfl, ?hd, ?hg⟩
    case hd =>
      iterate 3 (refine Draw.put ?_ (by dsimp only; omega) _)
      exact HB.out.drw.draw
    case hg =>
      iterate 3 (refine gset ?_ (Nat.le_refl _) _)
      exact HB.out.drw.grew
    case hp => omega

def DClient (K : Nat) (Q : Int → Int → Int → ByteArray → Prop) (w0 : World) (a : Option Addr) (len cap : Nat) (zs : List Int) (w : World) (e : Ending) (w' : World) : Prop :=
  ∃ (k r s : Int) (n : ByteArray) (p : Nat), Q k r s n ∧ p ≤ K ∧ e = .returned (H4 k r s n) ∧ Draw w0 a len cap zs p w' ∧ w.grownBy w' (some w0.heap.size)
theorem dl11Draw {w0 : World} {a : Option Addr} {len cap : Nat} {zs : List Int} {p0 : Nat} {w : World} (D : Draw w0 a len cap zs p0 w) (hp0 : p0 ≤ 100) :
    Calls Tryz.prog 171 #[.pointer (some ⟨w0.heap.size, 0, none⟩)] w (DClient (p0 + 3) (fun k r s n => cliF k r s n = 0) w0 a len cap zs w) := by
  have hlt := D.lt
  have B0 : Drw w0 a len cap zs p0 w w.heap.size (HL4 0 0 0 { data := #[] }) (w.alloc (.cells #[.int .i64 0, .int .i64 0, .int .i64 0, .string { data := #[] }] 103)) :=
    ⟨D.alloc _, gal (World.grownBy.refl w (some w0.heap.size)) _, At.new w (HL4 0 0 0 { data := #[] }) 103⟩
  clear D
  go_enter Tryz.func171, Tryz.ntmps171
  go_wp2_with fail
  generalize w.alloc (.cells #[.int .i64 0, .int .i64 0, .int .i64 0, .string { data := #[] }] 103) = W0 at *
  refine (dsecret6 B0.draw (by omega)).mono ?_
  rintro e w1 ⟨k, k0, k1, rfl, D1, O1⟩
  have B1 := B0.only O1 D1 (by omega)
  clear B0 D1 O1
  go_wp2_with fail
  refine (dnext 65521 B1.draw (by omega)).mono ?_
  rintro e w2 ⟨x, x0, x1, rfl, D2, O2⟩
  have hx : M.sumB x = true := by simp only [M.sumB, decide_eq_true_eq]; omega
  have B2 := B1.only O2 D2 (by omega)
  clear B1 D2 O2 x0 x1
  go_wp2_with fail
  refine (dl5DrawName B2.draw (by omega)).mono ?_
  rintro e w3 ⟨n, hn, rfl, D3, g3⟩
  have B3 := B2.kept g3 D3 (by omega)
  have hk : inB k 1 1438 = true := by simp only [inB, decide_eq_true_eq]; omega
  have S := fun w => l11Start_any k x n w hk hn.1 (M.normF_zero hn.2).1
  have hC : staC k x n = 0 := by rw [staC_yes (by rw [hk, hx]; rfl)]; exact (M.normF_zero hn.2).1
  have hF := sta_cli hC
  generalize M.bs (M.nrm n.data.toList) = m at *
  generalize M.pubN k = s at *
  clear B2 D3 g3 hn hk hx hC k0 k1
  go_wp2_with fail
  refine (S _).mono ?_
  rintro e w4 ⟨rfl, b4⟩
  have B4 := B3.on b4
  have q0 := B4.res.cell 0 _ rfl
  have q1 := B4.res.cell 1 _ rfl
  have q2 := B4.res.cell 2 _ rfl
  have q3 := B4.res.cell 3 _ rfl
  have z0 := B4.res.free 0 _ rfl
  have z1 := B4.res.free 1 _ rfl
  have z2 := B4.res.free 2 _ rfl
  have z3 := B4.res.free 3 _ rfl
  have HD := Lib.hid (And.intro hF B4)
  clear B3 B4 b4 hF S
  go_wp2_with fail
  refine bodyPost_ret (v := H4 k x s m) (by simp [results, Tryz.results171, go_sem, q0, q1, q2, q3]) rfl ?_
  refine ⟨k, x, s, m, p0 + 1 + 1 + 1, HD.out.1, by omega, rfl, ?_, ?_⟩
  · iterate 4 (refine Draw.put ?_ (by dsimp only; omega) _)
    exact HD.out.2.draw
  · iterate 4 (refine gset ?_ (Nat.le_refl _) _)
    exact HD.out.2.grew
theorem cli_size {k r s : Int} {n : ByteArray} (h : cliF k r s n = 0) : n.size ≤ 20 := hel_size (cliF_zero h).2.1
theorem dl11Bent {w0 : World} {a : Option Addr} {len cap : Nat} {zs : List Int} {p0 : Nat} {w : World} (D : Draw w0 a len cap zs p0 w) (hp0 : p0 ≤ 60) :
    Calls Tryz.prog 173 #[.pointer (some ⟨w0.heap.size, 0, none⟩)] w (DClient (p0 + 20) (fun k r s n => n.size ≤ 21) w0 a len cap zs w) := by
  have hlt := D.lt
  have D0 := D.alloc (.cells #[.int .i64 0, .int .i64 0, .int .i64 0, .string { data := #[] }] 103)
  have A0 := At.new w (HL4 0 0 0 { data := #[] }) 103
  have G0 := gal (World.grownBy.refl w (some w0.heap.size)) (.cells #[.int .i64 0, .int .i64 0, .int .i64 0, .string { data := #[] }] 103)
  have lt0 : w.heap.size < (w.alloc (.cells #[.int .i64 0, .int .i64 0, .int .i64 0, .string { data := #[] }] 103)).heap.size := by simp
  go_enter Tryz.func173, Tryz.ntmps173
  go_wp2_with fail
  generalize w.alloc (.cells #[.int .i64 0, .int .i64 0, .int .i64 0, .string { data := #[] }] 103) = W0 at *
  refine (dl11Draw D0 (by omega)).mono ?_
  rintro e w1 ⟨k, r, s, n, p, hf, hp, rfl, D1, g1⟩
  have hn := cli_size hf
  have lt1 : W0.heap.size ≤ w1.heap.size := g1.size
  have B1 : BentX w0 a len cap zs p w w.heap.size (HL4 0 0 0 { data := #[] }) w1.heap.size (HL4 k r s n) (w1.alloc (.cells #[.int .i64 k, .int .i64 r, .int .i64 s, .string n] 103)) :=
    ⟨⟨D1.alloc _, gal (gtr G0 g1) _, (A0.kept g1 (fun e => by injection e with e; omega)).alloc _⟩, At.new w1 (HL4 k r s n) 103⟩
  have hn' : n.size ≤ 21 := by omega
  clear D D0 A0 G0 D1 g1 hf hn
  go_wp2_with fail
  generalize w1.alloc (.cells #[.int .i64 k, .int .i64 r, .int .i64 s, .string n] 103) = v1 at *
  refine (dnext 10 B1.drw.draw (by omega)).mono ?_
  rintro e w2 ⟨sw, t0, t1, rfl, D2, O2⟩
  have B2 := B1.only O2 D2 (by omega) (by omega)
  clear B1 D2 O2 t1
  by_cases e0 : sw = 0
  · subst e0
    go_wp2_with fail
    refine (dpick [0, 5, 1439] 3 B2.drw.draw (by omega) (by omega) (by omega) rfl 2).mono ?_
    rintro e w3 ⟨y, hy, rfl, D3, O3⟩
    have B3 := (B2.alloc (.cells #[.int .i64 0, .int .i64 5, .int .i64 1439] 2)).only O3 D3 (by omega) (by omega)
    have B4 := B3.put 0 (.int .i64 y) (by omega) (by omega) (by omega)
    clear B2 D3 O3 hy
    have q0 := B3.drw.res.cell 0 _ rfl
    have q1 := B3.drw.res.cell 1 _ rfl
    have q2 := B3.drw.res.cell 2 _ rfl
    have q3 := B3.drw.res.cell 3 _ rfl
    have z0 := B3.drw.res.free 0 _ rfl
    have z1 := B3.drw.res.free 1 _ rfl
    have z2 := B3.drw.res.free 2 _ rfl
    have z3 := B3.drw.res.free 3 _ rfl
    have x0 := B3.one.cell 0 _ rfl
    have x1 := B3.one.cell 1 _ rfl
    have x2 := B3.one.cell 2 _ rfl
    have x3 := B3.one.cell 3 _ rfl
    have f0 := B3.one.free 0 _ rfl
    have f1 := B3.one.free 1 _ rfl
    have f2 := B3.one.free 2 _ rfl
    have f3 := B3.one.free 3 _ rfl
    have hrb : w.heap.size ≠ w1.heap.size := by omega
    have HB := Lib.hid B4
    clear B3 B4
    go_wp2_with fail
    refine bodyPost_ret (v := H4 y r s n) (by simp [results, Tryz.results173, go_sem, q0, q1, q2, q3]) rfl ?_
    refine ⟨_, _, _, _, p + 1 + 1, hn', ?hp, rfl, ?hd, ?hg⟩
    case hd =>
      iterate 4 (refine Draw.put ?_ (by dsimp only; omega) _)
      exact HB.out.drw.draw
    case hg =>
      iterate 4 (refine gset ?_ (Nat.le_refl _) _)
      exact HB.out.drw.grew
    case hp => omega
  by_cases e1 : sw = 1
  · subst e1
    go_wp2_with fail
    refine (dl6BentHelloP B2.drw.draw (by omega)).mono ?_
    rintro e w3 ⟨r2, s2, m, p2, hm, hp2, rfl, D3, g3⟩
    have B3 := B2.kept g3 D3 (by omega) (by omega)
    have B4 := ((B3.put 1 (.int .i64 r2) (by omega) (by omega) (by omega)).put 2 (.int .i64 s2) (by omega) (by omega) (by omega)).put 3 (.string m) (by omega) (by omega) (by omega)
    clear B2 D3 g3
    have q0 := B3.drw.res.cell 0 _ rfl
    have q1 := B3.drw.res.cell 1 _ rfl
    have q2 := B3.drw.res.cell 2 _ rfl
    have q3 := B3.drw.res.cell 3 _ rfl
    have z0 := B3.drw.res.free 0 _ rfl
    have z1 := B3.drw.res.free 1 _ rfl
    have z2 := B3.drw.res.free 2 _ rfl
    have z3 := B3.drw.res.free 3 _ rfl
    have x0 := B3.one.cell 0 _ rfl
    have x1 := B3.one.cell 1 _ rfl
    have x2 := B3.one.cell 2 _ rfl
    have x3 := B3.one.cell 3 _ rfl
    have f0 := B3.one.free 0 _ rfl
    have f1 := B3.one.free 1 _ rfl
    have f2 := B3.one.free 2 _ rfl
    have f3 := B3.one.free 3 _ rfl
    have hrb : w.heap.size ≠ w1.heap.size := by omega
    have HB := Lib.hid B4
    clear B3 B4
    go_wp2_with fail
    refine bodyPost_ret (v := H4 k r2 s2 m) (by simp [results, Tryz.results173, go_sem, q0, q1, q2, q3]) rfl ?_
    refine ⟨_, _, _, _, p2, hm, ?hp, rfl, ?hd, ?hg⟩
    case hd =>
      iterate 4 (refine Draw.put ?_ (by dsimp only; omega) _)
      exact HB.out.drw.draw
    case hg =>
      iterate 4 (refine gset ?_ (Nat.le_refl _) _)
      exact HB.out.drw.grew
    case hp => omega
  · have n0 : (sw == 0) = false := by rw [beq_eq_false_iff_ne]; exact e0
    have n1 : (sw == 1) = false := by rw [beq_eq_false_iff_ne]; exact e1
    have B4 := B2
    have q0 := B2.drw.res.cell 0 _ rfl
    have q1 := B2.drw.res.cell 1 _ rfl
    have q2 := B2.drw.res.cell 2 _ rfl
    have q3 := B2.drw.res.cell 3 _ rfl
    have z0 := B2.drw.res.free 0 _ rfl
    have z1 := B2.drw.res.free 1 _ rfl
    have z2 := B2.drw.res.free 2 _ rfl
    have z3 := B2.drw.res.free 3 _ rfl
    have x0 := B2.one.cell 0 _ rfl
    have x1 := B2.one.cell 1 _ rfl
    have x2 := B2.one.cell 2 _ rfl
    have x3 := B2.one.cell 3 _ rfl
    have f0 := B2.one.free 0 _ rfl
    have f1 := B2.one.free 1 _ rfl
    have f2 := B2.one.free 2 _ rfl
    have f3 := B2.one.free 3 _ rfl
    have hrb : w.heap.size ≠ w1.heap.size := by omega
    have HB := Lib.hid B4
    clear B2 B4
    go_wp2_with fail
    refine bodyPost_ret (v := H4 k r s n) (by simp [results, Tryz.results173, go_sem, q0, q1, q2, q3]) rfl ?_
    refine ⟨_, _, _, _, p + 1, hn', ?hp, rfl, ?hd, ?hg⟩
    case hd =>
      iterate 4 (refine Draw.put ?_ (by dsimp only; omega) _)
      exact HB.out.drw.draw
    case hg =>
      iterate 4 (refine gset ?_ (Nat.le_refl _) _)
      exact HB.out.drw.grew
    case hp => omega

def DrawnSta (w : World) (e : Ending) (w' : World) : Prop := ∃ (k r : Int) (n : ByteArray), e = .returned (.tuple #[.int .i64 k, .int .i64 r, .string n]) ∧ n.size ≤ 21 ∧ Below w.heap.size w w'
theorem DrawStartClient_any {a : Option Addr} {len cap : Nat} {zs : List Int} {w : World} (hR : Row .u8 w w.heap.size a len cap zs) :
    Calls Tryz.prog 59 #[.slice a len cap] w (DrawnSta w) := by
  go_enter Tryz.func59, Tryz.ntmps59
  go_wp2_with fail
  refine (dsource hR).mono ?_
  rintro e w1 ⟨rfl, D⟩
  go_wp2_with fail
  refine (dsecret6 D (by omega)).mono ?_
  rintro e w2 ⟨x, x0, x1, rfl, D2, O2⟩
  clear D O2 x0 x1
  go_wp2_with fail
  refine (dpick [x, 0, 1439] 3 D2 (by omega) (by omega) (by omega) rfl 2).mono ?_
  rintro e w3 ⟨k, hk, rfl, D3, O3⟩
  clear D2 O3 hk
  go_wp2_with fail
  refine (dnext 65521 D3 (by omega)).mono ?_
  rintro e w4 ⟨y, y0, y1, rfl, D4, O4⟩
  clear D3 O4 y0 y1
  go_wp2_with fail
  refine (dpick [y, 65521] 2 D4 (by omega) (by omega) (by omega) rfl 2).mono ?_
  rintro e w5 ⟨r, hr, rfl, D5, O5⟩
  clear D4 O5 hr
  go_wp2_with fail
  refine (dl5Bent D5 (by omega)).mono ?_
  rintro e w6 ⟨n, hn, rfl, D6, g6⟩
  have HD := Lib.hid D6.bel
  clear D5 D6 g6
  go_wp2_with fail
  go_ret3
  exact ⟨_, _, n, rfl, hn, HD.out⟩
def DrawnAns (w : World) (e : Ending) (w' : World) : Prop := ∃ (i k d r s : Int) (n : ByteArray), e = .returned (.tuple #[.int .i64 i, .int .i64 k, .int .i64 d, H3 r s n]) ∧ n.size ≤ 21 ∧ Below w.heap.size w w'
theorem DrawAnswerHello_any {a : Option Addr} {len cap : Nat} {zs : List Int} {w : World} (hR : Row .u8 w w.heap.size a len cap zs) :
    Calls Tryz.prog 61 #[.slice a len cap] w (DrawnAns w) := by
  have A0 := At.new w (HL3 0 0 { data := #[] }) 26
  have b0 := bal (Below.refl _ w) (.cells #[.int .i64 0, .int .i64 0, .string { data := #[] }] 26)
  have R0 := hR.on b0
  clear hR
  go_enter Tryz.func61, Tryz.ntmps61
  go_wp2_with fail
  generalize w.alloc (.cells #[.int .i64 0, .int .i64 0, .string { data := #[] }] 26) = W0 at *
  refine (dsource R0).mono ?_
  rintro e w1 ⟨rfl, D⟩
  go_wp2_with fail
  refine (dnext 4 D (by omega)).mono ?_
  rintro e w2 ⟨x, x0, x1, rfl, D2, O2⟩
  have hx : x < 4 := by omega
  clear D O2 x1
  go_wp2_with fail
  refine (dpick [1 + x, 0] 2 D2 (by omega) (by omega) (by omega) rfl 2).mono ?_
  rintro e w3 ⟨i, hi, rfl, D3, O3⟩
  clear D2 O3 hi x0 hx
  go_wp2_with fail
  refine (dsecret6 D3 (by omega)).mono ?_
  rintro e w4 ⟨y, y0, y1, rfl, D4, O4⟩
  clear D3 O4 y0 y1
  go_wp2_with fail
  refine (dpick [y, 1439] 2 D4 (by omega) (by omega) (by omega) rfl 2).mono ?_
  rintro e w5 ⟨k, hk, rfl, D5, O5⟩
  clear D4 O5 hk
  go_wp2_with fail
  refine (dnext 65521 D5 (by omega)).mono ?_
  rintro e w6 ⟨z, z0, z1, rfl, D6, O6⟩
  clear D5 O6 z0 z1
  go_wp2_with fail
  refine (dpick [z, 65521] 2 D6 (by omega) (by omega) (by omega) rfl 2).mono ?_
  rintro e w7 ⟨d, hd, rfl, D7, O7⟩
  clear D6 O7 hd
  go_wp2_with fail
  refine (dl6BentHelloP D7 (by omega)).mono ?_
  rintro e w8 ⟨r, s, n, p, hn, hp, rfl, D8, g8⟩
  have q0 := (A0.on D8.bel).cell 0 _ rfl
  have q1 := (A0.on D8.bel).cell 1 _ rfl
  have q2 := (A0.on D8.bel).cell 2 _ rfl
  have v0 := (A0.on D8.bel).free 0 _ rfl
  have v1 := (A0.on D8.bel).free 1 _ rfl
  have v2 := (A0.on D8.bel).free 2 _ rfl
  have HB := Lib.hid (btr b0 D8.bel)
  clear D7 D8 g8 A0 R0 b0
  go_wp2_with fail
  refine bodyPost_ret (v := .tuple #[.int .i64 i, .int .i64 k, .int .i64 d, H3 r s n]) (by simp [results, Tryz.results61, go_sem, q0, q1, q2]) rfl ?_
  exact ⟨i, k, d, r, s, n, rfl, hn, (by (iterate 3 (refine bset ?_ (by dsimp only; omega) _)); exact HB.out)⟩
def DrawnThree (w : World) (e : Ending) (w' : World) : Prop := ∃ (x y z : Int), e = .returned (.tuple #[.int .i64 x, .int .i64 y, .int .i64 z]) ∧ Below w.heap.size w w'
theorem DrawKeysOf_any {a : Option Addr} {len cap : Nat} {zs : List Int} {w : World} (hR : Row .u8 w w.heap.size a len cap zs) :
    Calls Tryz.prog 71 #[.slice a len cap] w (DrawnThree w) := by
  go_enter Tryz.func71, Tryz.ntmps71
  go_wp2_with fail
  refine (dsource hR).mono ?_
  rintro e w1 ⟨rfl, D⟩
  go_wp2_with fail
  refine (dl7Public D (by omega)).mono ?_
  rintro e w2 ⟨x, hx, rfl, D2, O2⟩
  clear D O2 hx
  go_wp2_with fail
  refine (dpick [x, 1, 5] 3 D2 (by omega) (by omega) (by omega) rfl 2).mono ?_
  rintro e w3 ⟨i, hi, rfl, D3, O3⟩
  clear D2 O3 hi
  go_wp2_with fail
  refine (dnext 65521 D3 (by omega)).mono ?_
  rintro e w4 ⟨y, y0, y1, rfl, D4, O4⟩
  clear D3 O4 y0 y1
  go_wp2_with fail
  refine (dpick [y, 65521] 2 D4 (by omega) (by omega) (by omega) rfl 2).mono ?_
  rintro e w5 ⟨k, hk, rfl, D5, O5⟩
  clear D4 O5 hk
  go_wp2_with fail
  refine (dl7Public D5 (by omega)).mono ?_
  rintro e w6 ⟨z, hz, rfl, D6, O6⟩
  clear D5 O6 hz
  go_wp2_with fail
  refine (dpick [z, 2878] 2 D6 (by omega) (by omega) (by omega) rfl 2).mono ?_
  rintro e w7 ⟨d, hd, rfl, D7, O7⟩
  have HD := Lib.hid D7.bel
  clear D6 D7 O7 hd
  go_wp2_with fail
  go_ret3
  exact ⟨_, _, _, rfl, HD.out⟩
theorem DrawFinishOf_any {a : Option Addr} {len cap : Nat} {zs : List Int} {w : World} (hR : Row .u8 w w.heap.size a len cap zs) :
    Calls Tryz.prog 73 #[.slice a len cap] w fun e w' => ∃ x y : Int, e = .returned (.tuple #[.int .i64 x, .int .i64 y]) ∧ Below w.heap.size w w' := by
  go_enter Tryz.func73, Tryz.ntmps73
  go_wp2_with fail
  refine (DrawKeysOf_any hR).mono ?_
  rintro e w1 ⟨x, y, z, rfl, b1⟩
  go_wp2_with fail
  go_ret2
  exact ⟨x, y, rfl, b1⟩
end Go.Proofs.YtlodhleihnlchaaGreatDoor
namespace Go.Proofs.YtlodhleihnlchaaGreatDoor
open Go.RowKit
set_option maxRecDepth 100000
set_option linter.unusedVariables false

def headW6 (m : Int) (zs : List Int) : List Int := m :: zs.flatMap M.two
def Head6Rel (w : World) (m : Int) (zs : List Int) (k : Nat) (v : Value) (wr : World) : Prop := OwnK .u8 wr w.heap.size v (headW6 m (zs.take k)) ∧ Below w.heap.size w wr
theorem headL_take (m : Int) (zs : List Int) (k : Nat) (hk : k < zs.length) : headW6 m (zs.take k) ++ M.two (zs[k]?.getD 0) = headW6 m (zs.take (k + 1)) := by
  have e : zs.take (k + 1) = zs.take k ++ [zs[k]] := List.take_succ_eq_append_getElem hk
  rw [e, List.getElem?_eq_getElem hk]
  simp only [headW6, List.flatMap_append, List.flatMap_cons, List.flatMap_nil, List.append_nil, List.cons_append, Option.getD_some]
theorem headL_length (m : Int) : ∀ zs : List Int, (headW6 m zs).length = 1 + 2 * zs.length
  | [] => rfl
  | z :: r => by
    have := headL_length m r
    simp only [headW6, List.length_cons, List.flatMap_cons, List.length_append, M.two, List.length_nil] at *
    omega
theorem Head6Rel.step {w w1 w2 : World} {m : Int} {zs : List Int} {k : Nat} {v v' : Value} (h : Head6Rel w m zs k v w1) (hk : k < zs.length) (ho : OwnK .u8 w2 w.heap.size v' (headW6 m (zs.take k) ++ M.two (zs[k]?.getD 0))) (hg : w1.grownBy w2 v.ownBlock) : Head6Rel w m zs (k + 1) v' w2 :=
  ⟨by rw [← headL_take m zs k hk]; exact ho, h.1.grown h.2 h.2.size hg⟩
theorem wordHead_any (m : Int) (a : Option Addr) (len cap B : Nat) (zs : List Int) (w : World) (hR : Row .i64 w B a len cap zs) (hB : B ≤ w.heap.size) (hz : zs.all M.sumB = true) (hl : len ≤ 10) :
    Calls Tryz.prog 260 #[.int .u8 m, .slice a len cap] w (Made (headW6 m zs) w) := by
  have hL := Lib.hid hR.length
  have HZ := Lib.hid hz
  have O0 : OwnK .u8 (w.alloc (.cells #[.int .u8 m] 5)) w.heap.size (.slice (some ⟨w.heap.size, 0, none⟩) 1 1) [m] := own_lit (k := .u8) w [m] 1 5 (Nat.le_refl _) rfl (by simp only [maxLen]; omega)
  have T1 : Head6Rel w m zs 0 (.slice (some ⟨w.heap.size, 0, none⟩) 1 1) (w.alloc (.cells #[.int .u8 m] 5)) := ⟨by simpa [headW6] using O0, bal (Below.refl _ _) _⟩
  clear hz O0
  go_enter Tryz.func260, Tryz.ntmps260
  go_wp2_with fail
  generalize w.alloc (.cells #[.int .u8 m] 5) = W0 at *
  go_loopw [5, 12] (fun v i wr => ∃ k : Nat, k ≤ len ∧ i = .int .i64 k ∧ Head6Rel w m zs k v wr) (fun _ i _ => len - (intOf i).toNat)
  case atStart => exact ⟨0, Nat.zero_le _, rfl, T1⟩
  case round =>
    obtain ⟨k, hk, rfl, hT⟩ := hrel
    by_cases hlt : k < len
    · obtain ⟨b, off, ha, hb, hc⟩ := hR.cells (by omega)
      have hcell := (hT.2.cell (p := ⟨b, off + k, none⟩) (by show b < _; omega)).trans (hc k hlt)
      simp only [List.getD_eq_getElem?_getD] at hcell
      clear hc
      have hzk : M.sumB (zs[k]?.getD 0) = true := List.all_eq_true.1 HZ.out _ (by simp [show k < zs.length by rw [hL.out]; exact hlt])
      have HK := Lib.hid hzk
      have hlen : (headW6 m (zs.take k)).length ≤ 1000000 := by rw [headL_length]; simp; omega
      subst ha
      clear hzk
      go_wp2_with fail
      refine (appendTwo_any _ _ _ _ _ hT.1 hT.2.size HK.out hlen).mono ?_
      rintro r w2 ⟨v2, rfl, ho2, hg2⟩
      have T2 := hT.step (by rw [hL.out]; exact hlt) ho2 hg2
      clear ho2 hg2 hT hcell HK hlen
      go_wp2_with fail
      go_roundw
      case rel => exact ⟨k + 1, by omega, by go_num, T2⟩
      case measure => simp [intOf]; omega
    · obtain rfl : k = len := by omega
      have hT' := hT
      rw [← hL.out] at hT'
      obtain ⟨ho, hb⟩ := hT'
      rw [List.take_length] at ho
      obtain ⟨a', c', hv, -⟩ := ho.form
      have HB := Lib.hid (And.intro ho hb)
      clear hT ho hb
      subst hv
      go_wp2_with fail
      go_ret
      exact ⟨_, _, _, rfl, HB.out.1, HB.out.2⟩

theorem bytes_cells (n : ByteArray) : (M.textL n).map (Value.int .u8) = byteCells n := by simp [M.textL, byteCells, List.map_map, Function.comp_def]
theorem wordBytes_hello (r s : Int) (n : ByteArray) (w : World) (h : helF n.data.toList r s = 0) :
    Calls Tryz.prog 195 #[.iface 26 (H3 r s n)] w (Made (packH n r s) w) := by
  obtain ⟨hr, hs, -⟩ := helF_zero h
  have hn := hel_size h
  have hss := pub_sum6 hs
  obtain ⟨i0, hi0, hz0, hz1, hz2⟩ := info_parts u8_info
  have ta : ∀ W : World, (Instr.typeAssert (.iface 26 (H3 r s n)) 157 26 true).run Tryz.prog W = .ok (.tuple #[H3 r s n, .bool true]) W := fun _ => by kernel_rfl
  have A0 := At.new w (HL3 r s n) 26
  have b0 := bal (Below.refl _ w) (.cells #[.int .i64 r, .int .i64 s, .string n] 26)
  have hall : [r, s].all M.sumB = true := by simp [hr, hss]
  clear h
  go_enter Tryz.func195, Tryz.ntmps195
  go_wp2_with fail
  generalize w.alloc (.cells #[.int .i64 r, .int .i64 s, .string n] 26) = W0 at *
  have d0 := A0.cell 0 _ rfl
  have d1 := A0.cell 1 _ rfl
  have d2 := A0.cell 2 _ rfl
  refine wp_region_line (Bel W0) [(0, true), (1, true), (2, true), (3, true), (6, true), (7, true), (4, false), (5, false), (8, false), (9, true)] (by kernel_rfl) (by kernel_rfl) (fun _ _ d _ _ h => by cases d <;> exact h) (Bel.drew W0) ?_
  have hst := Bel.drew W0
  have inst : Nonempty (Of (Bel W0)) := ⟨⟨_, hst⟩⟩
  have u0 := bel_cell d0
  have u1 := bel_cell d1
  have u2 := bel_cell d2
  generalize W0.drew = V1 at *
  iterate 6 (refine line_read rfl (by kernel_rfl) (fun K hK => ?_); go_big_quiet_op; refine hK _ ?_; clear hK K)
  refine line_alone rfl (by kernel_rfl) (fun K hK => ?_)
  go_big_op
  refine hK _ _ (hst.on (bal (Below.refl _ V1) _)) ?_
  clear hK K
  have st2 := hst.on (bal (Below.refl _ V1) (.cells #[.int .i64 r, .int .i64 s] 2))
  have R2 := row_two (w := V1) r s 2 hr hss
  have lt2 : V1.heap.size + 1 ≤ (V1.alloc (.cells #[.int .i64 r, .int .i64 s] 2)).heap.size := by simp
  generalize V1.alloc (.cells #[.int .i64 r, .int .i64 s] 2) = V2 at *
  refine line_alone rfl (by kernel_rfl) (fun K hK => ?_)
  refine call_any (args := #[.int .u8 1, .slice (some ⟨V1.heap.size, 0, none⟩) 2 2]) rfl (by kernel_rfl) (by kernel_rfl) (wordHead_any 1 _ 2 2 _ [r, s] V2 R2 lt2 hall (by omega)) ?_
  rintro e V3 ⟨a3, n3, c3, rfl, O3, b3⟩
  have l3 : n3 = 5 := O3.len
  subst l3
  have st3 := st2.on b3
  refine ⟨_, rfl, hK _ _ st3 ?_⟩
  clear hK K
  simp only [Act.put, List.setIfInBounds_toArray, List.set_cons_zero, List.set_cons_succ]
  have hz3 := b3.size
  refine line_alone rfl (by kernel_rfl) (fun K hK => ?_)
  refine wp_append_src _ (.tmp 15) (.tmp 17) 22 9 rfl V2.heap.size 5 i0 (.int .u8 0) 1 1 Tryz.underlying22 hi0 hz0 hz1 hz2 rfl _ _ _ rfl O3 _ n.size _ rfl (Src.ofString (P := Tryz.prog) V3 (tx := 9) Tryz.underlying9 n) (by rw [headL_length]; simp only [maxLen, List.length_cons, List.length_nil]; omega) (by rw [headL_length]; simp only [List.length_cons, List.length_nil]; omega) hz3 (fun v4 w4 hown hgrow hat => ?_)
  have b4 : Below V2.heap.size V2 w4 := Own.grown O3 b3 hz3 hgrow
  have O4 : OwnK .u8 w4 V2.heap.size v4 (packH n r s) := by
    have e : packH n r s = headW6 1 [r, s] ++ M.textL n := by simp [packH, helHead, headW6]
    unfold OwnK
    rw [e, List.length_append, M.textL_length, List.map_append, bytes_cells]
    exact hown
  have st4 := st2.on b4
  refine hK _ _ st4 ?_
  have B4 := btr b0 st4.out
  obtain ⟨a4, c4, hv4, -⟩ := O4.form
  have hle : w.heap.size ≤ V2.heap.size := (btr b0 st2.out).size
  have HT := Lib.hid (And.intro (O4.less hle) B4)
  clear hK K hown hgrow hat O3 O4 b3 b4 B4 st3 st4 st2
  subst hv4
  simp only [Act.put, List.setIfInBounds_toArray, List.set_cons_zero, List.set_cons_succ]
  iterate 1 (refine line_read rfl (by kernel_rfl) (fun K hK => ?_); go_big_quiet_op; refine hK _ ?_; clear hK K)
  refine line_nil ?_
  go_wp2_with fail
  go_ret
  exact ⟨_, _, _, rfl, HT.out.1, HT.out.2⟩
end Go.Proofs.YtlodhleihnlchaaGreatDoor
namespace Go.Proofs.YtlodhleihnlchaaGreatDoor
open Go.RowKit
set_option maxRecDepth 100000
set_option linter.unusedVariables false

theorem OwnK.src6 {w : World} {B : Nat} {a : Option Addr} {len cap : Nat} {zs : List Int} (h : OwnK .u8 w B (.slice a len cap) zs) (hz : ∀ z ∈ zs, M.byteB z) : Go.Src Tryz.prog 1 22 (.slice a len cap) len (zs.map (Value.int .u8)) w :=
  (Own.row h (fun z hm => byte_wf (hz z hm))).src Tryz.underlying22
theorem OwnK.kept6 {w w' : World} {B : Nat} {v : Value} {zs : List Int} {row : Option Nat} (h : OwnK .u8 w B v zs) (hg : w.grownBy w' row) (hne : ∀ k, row = some k → k < B) : OwnK .u8 w' B v zs :=
  Own.kept h hg (by
    cases hv : v.ownBlock with
    | none => exact .inl rfl
    | some k =>
      refine .inr fun e => ?_
      have h1 := (Own.lt h k hv).1
      have h2 := hne k e.symm
      omega)
theorem two_own (w : World) (s : Int) : OwnK .u8 (w.alloc (.cells #[.int .u8 (s / 256), .int .u8 (s % 256)] 5)) w.heap.size (.slice (some ⟨w.heap.size, 0, none⟩) 2 2) (M.two s) := own_lit (k := .u8) w (M.two s) 2 5 (Nat.le_refl _) rfl (by simp only [maxLen]; omega)
theorem text_own (w : World) (n : ByteArray) (hn : n.size ≤ maxLen) : OwnK .u8 (w.alloc (textObj w n 5)).drew w.heap.size (.slice (some ⟨w.heap.size, 0, none⟩) n.size (grownCap w n.size 0 5)) (M.textL n) := by
  have := (own_text w n 5 hn).drew
  unfold OwnK
  rw [M.textL_length]
  exact this

set_option maxHeartbeats 1000000 in
theorem l6PackHello_any (g : Nat) (r s : Int) (n : ByteArray) (w : World) (hA : At g (HL3 r s n) w) (h : helF n.data.toList r s = 0) :
    Calls Tryz.prog 91 #[.pointer (some ⟨g, 0, none⟩)] w (Made (packH n r s) w) := by
  obtain ⟨hr, hs, -⟩ := helF_zero h
  have hn := hel_size h
  have hnm : n.size ≤ maxLen := size_max hn
  have hss := pub_sum6 hs
  obtain ⟨i0, hi0, hz0, hz1, hz2⟩ := info_parts u8_info
  have hcv := fun (W : World) => run_bytes_of_string (P := Tryz.prog) W 9 22 5 n Tryz.underlying9 Tryz.underlying22 Tryz.underlying5
  have ltg := hA.lt (by simp)
  have d0 := hA.cell 0 _ rfl
  have d1 := hA.cell 1 _ rfl
  have d2 := hA.cell 2 _ rfl
  have b1 := bal (Below.refl _ w) (.cells #[.int .u8 1] 5)
  have O1 : OwnK .u8 (w.alloc (.cells #[.int .u8 1] 5)) w.heap.size (.slice (some ⟨w.heap.size, 0, none⟩) 1 1) [1] := own_lit (k := .u8) w [1] 1 5 (Nat.le_refl _) rfl (by simp only [maxLen]; omega)
  clear h
  go_enter Tryz.func91, Tryz.ntmps91
  go_wp2_with fail
  generalize w.alloc (.cells #[.int .u8 1] 5) = W1 at *
  refine (l1Two_any r _ hr).mono ?_
  rintro e w2 ⟨rfl, rfl⟩
  have O2 := Own.alloc O1 (.cells #[.int .u8 (r / 256), .int .u8 (r % 256)] 5)
  have b2 := bal b1 (.cells #[.int .u8 (r / 256), .int .u8 (r % 256)] 5)
  have hle := b2.size
  have hsrc := src_new (P := Tryz.prog) W1 [.int .u8 (r / 256), .int .u8 (r % 256)] 2 2 5 22 5 Tryz.underlying22 rfl (ints_oneCell .u8 [r / 256, r % 256])
  go_wp2_with (at_builtin; refine wpList_append_src _ rfl (.tmp 4) (.tmp 9) 22 22 rfl w.heap.size 5 i0 (.int .u8 0) 1 1 Tryz.underlying22 hi0 hz0 hz1 hz2 rfl _ 1 [.int .u8 1] rfl O2 _ 2 _ rfl hsrc (by simp only [maxLen]; omega) (by omega) hle ?_; intro v3 w3 hown hgrow hat)
  have b3 : Below w.heap.size w w3 := Own.grown O2 b2 hle hgrow
  have O3 : OwnK .u8 w3.drew w.heap.size v3 ([1] ++ M.two r) := by unfold OwnK; simpa [M.two] using hown.drew
  clear O1 O2 b1 b2 hle hsrc hown hgrow hat
  refine wp_region_fork (Bel w) (by kernel_rfl) (Bel.mk b3.drew) ?_
  have hst : (Bel w) _ := (Bel.mk b3.drew)
  have inst : Nonempty (Of (Bel w)) := ⟨⟨_, hst⟩⟩
  have u1 := bel_cell d1
  have u2 := bel_cell d2
  clear b3 d0 d1 d2
  generalize w3.drew = V1 at *
  refine any_seg 5 [(0, true), (1, true), (2, true), (3, true), (4, true), (7, true), (8, true), (9, true), (10, true)] (by kernel_rfl) (fun _ _ d _ _ h => by cases d <;> exact h) ?_
  iterate 9 (refine line_read rfl (by kernel_rfl) (fun K hK => ?_); go_big_quiet_op; refine hK _ ?_; clear hK K)
  refine line_nil ?_
  clear u1 u2
  refine any_fork 5 11 (by kernel_rfl) rfl rfl (by kernel_rfl) (by kernel_rfl) (fun K hK => ?_) (fun K hK => ?_)
  · refine call_any (args := #[.int .i64 s]) rfl (by kernel_rfl) (by kernel_rfl) (l1Two_any s _ hss) ?_
    rintro e w4 ⟨rfl, rfl⟩
    have st4 := hst.on (bal (Below.refl _ V1) (.cells #[.int .u8 (s / 256), .int .u8 (s % 256)] 5))
    have O4 : OwnK .u8 _ w.heap.size v3 ([1] ++ M.two r) := Own.alloc O3 (.cells #[.int .u8 (s / 256), .int .u8 (s % 256)] 5)
    have T4 := two_own V1 s
    refine ⟨_, rfl, hK _ _ st4 ?_⟩
    clear hK K
    simp only [Act.put, List.setIfInBounds_toArray, List.set_cons_zero, List.set_cons_succ]
    generalize V1.alloc (.cells #[.int .u8 (s / 256), .int .u8 (s % 256)] 5) = V4 at *
    refine any_fork 6 11 (by kernel_rfl) rfl rfl (by kernel_rfl) (by kernel_rfl) (fun K hK => ?_) (fun K hK => ?_)
    · refine wp_append_src _ (.tmp 11) (.tmp 16) 22 22 rfl w.heap.size 5 i0 (.int .u8 0) 1 1 Tryz.underlying22 hi0 hz0 hz1 hz2 rfl _ _ _ rfl O4 _ 2 _ rfl (T4.src6 (two_byte hss)) (by simp only [maxLen, M.two, List.length_append, List.length_cons, List.length_nil]; omega) (by simp only [M.two, List.length_append, List.length_cons, List.length_nil]; omega) st4.out.size (fun v5 w5 hown hgrow hat => ?_)
      have b5 : Below w.heap.size w w5 := Own.grown O4 st4.out st4.out.size hgrow
      have O5 : OwnK .u8 w5 w.heap.size v5 (helHead r s) := by unfold OwnK helHead; simpa [M.two] using hown
      refine hK _ _ ⟨b5⟩ ?_
      clear hK K hown hgrow hat O3 O4 T4 st4 hst
      simp only [Act.put, List.setIfInBounds_toArray, List.set_cons_zero, List.set_cons_succ]
      refine any_rest [(11, false), (12, false), (13, true)] (by kernel_rfl) (fun _ _ d _ _ h => by cases d <;> exact h) ?_
      refine line_alone rfl (by kernel_rfl) (fun K hK => ?_)
      have st5 : Bel w w5 := ⟨b5⟩
      go_big_op
      have st6 := st5.on (bal (Below.refl _ w5) (textObj w5 n 5)).drew
      have X6 := text_own w5 n hnm
      refine hK _ _ st6 ?_
      clear hK K
      have O6 : OwnK .u8 (w5.alloc (textObj w5 n 5)).drew w.heap.size v5 (helHead r s) := (Own.alloc O5 _).drew
      have hsrc := X6.src6 (M.textL_byte n)
      clear b5 O5 X6 st5
      refine line_alone rfl (by kernel_rfl) (fun K hK => ?_)
      refine wp_append_src _ (.tmp 17) (.tmp 22) 22 22 rfl w.heap.size 5 i0 (.int .u8 0) 1 1 Tryz.underlying22 hi0 hz0 hz1 hz2 rfl _ _ _ rfl O6 _ n.size _ rfl hsrc (by rw [helHead_length]; simp only [maxLen]; omega) (by rw [helHead_length]; omega) st6.out.size (fun v7 w7 hown hgrow hat => ?_)
      have b7 : Below w.heap.size w w7 := Own.grown O6 st6.out st6.out.size hgrow
      have O7 : OwnK .u8 w7 w.heap.size v7 (packH n r s) := by
        unfold OwnK packH
        rw [List.length_append, M.textL_length, List.map_append]
        exact hown
      refine hK _ _ ⟨b7⟩ ?_
      obtain ⟨a7, c7, hv7, -⟩ := O7.form
      have HT := Lib.hid (And.intro O7 b7)
      clear hK K hown hgrow hat O7 b7 O6 st6 hsrc
      subst hv7
      simp only [Act.put, List.setIfInBounds_toArray, List.set_cons_zero, List.set_cons_succ]
      iterate 1 (refine line_read rfl (by kernel_rfl) (fun K hK => ?_); go_big_quiet_op; refine hK _ ?_; clear hK K)
      refine line_nil ?_
      go_wp2_with fail
      go_ret
      exact ⟨_, _, _, rfl, HT.out.1, HT.out.2⟩
    · go_big_op
      have st5 := st4.on (bal (Below.refl _ V4) (textObj V4 n 5)).drew
      have X5 := text_own V4 n hnm
      refine hK _ _ st5 ?_
      clear hK K
      have O5' : OwnK .u8 (V4.alloc (textObj V4 n 5)).drew w.heap.size v3 ([1] ++ M.two r) := (Own.alloc O4 _).drew
      have T5 : OwnK .u8 (V4.alloc (textObj V4 n 5)).drew V1.heap.size (.slice (some ⟨V1.heap.size, 0, none⟩) 2 2) (M.two s) := (Own.alloc T4 _).drew
      have hk3 : ∀ k, v3.ownBlock = some k → k < V4.heap.size := fun k hk => (Own.lt O4 k hk).2
      refine any_rest [(6, false), (12, false), (13, true)] (by kernel_rfl) (fun _ _ d _ _ h => by cases d <;> exact h) ?_
      refine line_alone rfl (by kernel_rfl) (fun K hK => ?_)
      refine wp_append_src _ (.tmp 11) (.tmp 16) 22 22 rfl w.heap.size 5 i0 (.int .u8 0) 1 1 Tryz.underlying22 hi0 hz0 hz1 hz2 rfl _ _ _ rfl O5' _ 2 _ rfl (T5.src6 (two_byte hss)) (by simp only [maxLen, M.two, List.length_append, List.length_cons, List.length_nil]; omega) (by simp only [M.two, List.length_append, List.length_cons, List.length_nil]; omega) st5.out.size (fun v5 w5 hown hgrow hat => ?_)
      have b5 : Below w.heap.size w w5 := Own.grown O5' st5.out st5.out.size hgrow
      have O5 : OwnK .u8 w5 w.heap.size v5 (helHead r s) := by unfold OwnK helHead; simpa [M.two] using hown
      have X6 := X5.kept6 hgrow hk3
      refine hK _ _ ⟨b5⟩ ?_
      clear hK K hown hgrow hat O3 O4 T4 st4 hst O5' T5 st5 X5
      simp only [Act.put, List.setIfInBounds_toArray, List.set_cons_zero, List.set_cons_succ]
      have st6 : Bel w w5 := ⟨b5⟩
      have O6 := O5
      have hsrc := X6.src6 (M.textL_byte n)
      clear b5 O5 X6
      refine line_alone rfl (by kernel_rfl) (fun K hK => ?_)
      refine wp_append_src _ (.tmp 17) (.tmp 22) 22 22 rfl w.heap.size 5 i0 (.int .u8 0) 1 1 Tryz.underlying22 hi0 hz0 hz1 hz2 rfl _ _ _ rfl O6 _ n.size _ rfl hsrc (by rw [helHead_length]; simp only [maxLen]; omega) (by rw [helHead_length]; omega) st6.out.size (fun v7 w7 hown hgrow hat => ?_)
      have b7 : Below w.heap.size w w7 := Own.grown O6 st6.out st6.out.size hgrow
      have O7 : OwnK .u8 w7 w.heap.size v7 (packH n r s) := by
        unfold OwnK packH
        rw [List.length_append, M.textL_length, List.map_append]
        exact hown
      refine hK _ _ ⟨b7⟩ ?_
      obtain ⟨a7, c7, hv7, -⟩ := O7.form
      have HT := Lib.hid (And.intro O7 b7)
      clear hK K hown hgrow hat O7 b7 O6 st6 hsrc
      subst hv7
      simp only [Act.put, List.setIfInBounds_toArray, List.set_cons_zero, List.set_cons_succ]
      iterate 1 (refine line_read rfl (by kernel_rfl) (fun K hK => ?_); go_big_quiet_op; refine hK _ ?_; clear hK K)
      refine line_nil ?_
      go_wp2_with fail
      go_ret
      exact ⟨_, _, _, rfl, HT.out.1, HT.out.2⟩
  · go_big_op
    have st4 := hst.on (bal (Below.refl _ V1) (textObj V1 n 5)).drew
    have X4 := text_own V1 n hnm
    refine hK _ _ st4 ?_
    clear hK K
    have O4' : OwnK .u8 (V1.alloc (textObj V1 n 5)).drew w.heap.size v3 ([1] ++ M.two r) := (Own.alloc O3 _).drew
    have hk3 : ∀ k, v3.ownBlock = some k → k < V1.heap.size := fun k hk => (Own.lt O3 k hk).2
    have lt4 : V1.heap.size < (V1.alloc (textObj V1 n 5)).drew.heap.size := by simp
    generalize (V1.alloc (textObj V1 n 5)).drew = V4 at *
    refine any_rest [(5, false), (6, false), (12, false), (13, true)] (by kernel_rfl) (fun _ _ d _ _ h => by cases d <;> exact h) ?_
    refine line_alone rfl (by kernel_rfl) (fun K hK => ?_)
    have st4' := st4
    clear st4
    refine call_any (args := #[.int .i64 s]) rfl (by kernel_rfl) (by kernel_rfl) (l1Two_any s _ hss) ?_
    rintro e w4 ⟨rfl, rfl⟩
    have st4 := st4'.on (bal (Below.refl _ V4) (.cells #[.int .u8 (s / 256), .int .u8 (s % 256)] 5))
    have O4 : OwnK .u8 _ w.heap.size v3 ([1] ++ M.two r) := Own.alloc O4' (.cells #[.int .u8 (s / 256), .int .u8 (s % 256)] 5)
    have T4 := two_own V4 s
    refine ⟨_, rfl, hK _ _ st4 ?_⟩
    clear hK K
    simp only [Act.put, List.setIfInBounds_toArray, List.set_cons_zero, List.set_cons_succ]
    have X5 : OwnK .u8 (V4.alloc (.cells #[.int .u8 (s / 256), .int .u8 (s % 256)] 5)) V1.heap.size (.slice (some ⟨V1.heap.size, 0, none⟩) n.size (grownCap V1 n.size 0 5)) (M.textL n) := Own.alloc X4 _
    refine line_alone rfl (by kernel_rfl) (fun K hK => ?_)
    refine wp_append_src _ (.tmp 11) (.tmp 16) 22 22 rfl w.heap.size 5 i0 (.int .u8 0) 1 1 Tryz.underlying22 hi0 hz0 hz1 hz2 rfl _ _ _ rfl O4 _ 2 _ rfl (T4.src6 (two_byte hss)) (by simp only [maxLen, M.two, List.length_append, List.length_cons, List.length_nil]; omega) (by simp only [M.two, List.length_append, List.length_cons, List.length_nil]; omega) st4.out.size (fun v5 w5 hown hgrow hat => ?_)
    have b5 : Below w.heap.size w w5 := Own.grown O4 st4.out st4.out.size hgrow
    have O5 : OwnK .u8 w5 w.heap.size v5 (helHead r s) := by unfold OwnK helHead; simpa [M.two] using hown
    have X6 := X5.kept6 hgrow hk3
    refine hK _ _ ⟨b5⟩ ?_
    clear hK K hown hgrow hat O3 O4 T4 st4 hst O4' st4' X4 X5
    simp only [Act.put, List.setIfInBounds_toArray, List.set_cons_zero, List.set_cons_succ]
    have st6 : Bel w w5 := ⟨b5⟩
    have O6 := O5
    have hsrc := X6.src6 (M.textL_byte n)
    clear b5 O5 X6
    refine line_alone rfl (by kernel_rfl) (fun K hK => ?_)
    refine wp_append_src _ (.tmp 17) (.tmp 22) 22 22 rfl w.heap.size 5 i0 (.int .u8 0) 1 1 Tryz.underlying22 hi0 hz0 hz1 hz2 rfl _ _ _ rfl O6 _ n.size _ rfl hsrc (by rw [helHead_length]; simp only [maxLen]; omega) (by rw [helHead_length]; omega) st6.out.size (fun v7 w7 hown hgrow hat => ?_)
    have b7 : Below w.heap.size w w7 := Own.grown O6 st6.out st6.out.size hgrow
    have O7 : OwnK .u8 w7 w.heap.size v7 (packH n r s) := by
      unfold OwnK packH
      rw [List.length_append, M.textL_length, List.map_append]
      exact hown
    refine hK _ _ ⟨b7⟩ ?_
    obtain ⟨a7, c7, hv7, -⟩ := O7.form
    have HT := Lib.hid (And.intro O7 b7)
    clear hK K hown hgrow hat O7 b7 O6 st6 hsrc
    subst hv7
    simp only [Act.put, List.setIfInBounds_toArray, List.set_cons_zero, List.set_cons_succ]
    iterate 1 (refine line_read rfl (by kernel_rfl) (fun K hK => ?_); go_big_quiet_op; refine hK _ ?_; clear hK K)
    refine line_nil ?_
    go_wp2_with fail
    go_ret
    exact ⟨_, _, _, rfl, HT.out.1, HT.out.2⟩

end Go.Proofs.YtlodhleihnlchaaGreatDoor
namespace Go.Proofs.YtlodhleihnlchaaGreatDoor
open Go.RowKit
set_option maxRecDepth 100000
set_option linter.unusedVariables false

end Go.Proofs.YtlodhleihnlchaaGreatDoor
namespace Go.Proofs.YtlodhleihnlchaaGreatDoor
open Go.RowKit
set_option maxRecDepth 100000
set_option linter.unusedVariables false

theorem replyHeadOf_any (r s p x y f : Int) (w : World) (hr : M.sumB r = true) (hs : M.sumB s = true) (hp : M.sumB p = true) :
    Calls Tryz.prog 200 #[R6 r s p x y f] w (Made (frontR r s p) w) := by
  have b0 := bal (bal (Below.refl _ w) (.cells #[.int .i64 r, .int .i64 s, .int .i64 p, .int .i64 x, .int .i64 y, .int .i64 f] 33)) (.cells #[.int .i64 r, .int .i64 s, .int .i64 p] 2)
  have R2 := row_three (w := w.alloc (.cells #[.int .i64 r, .int .i64 s, .int .i64 p, .int .i64 x, .int .i64 y, .int .i64 f] 33)) r s p 2 hr hs hp
  simp only [World.size_alloc] at R2
  have lt2 : w.heap.size + 1 + 1 ≤ ((w.alloc (.cells #[.int .i64 r, .int .i64 s, .int .i64 p, .int .i64 x, .int .i64 y, .int .i64 f] 33)).alloc (.cells #[.int .i64 r, .int .i64 s, .int .i64 p] 2)).heap.size := by simp
  have hall : [r, s, p].all M.sumB = true := by simp [hr, hs, hp]
  clear hr hs hp
  go_enter Tryz.func200, Tryz.ntmps200
  go_wp2_with fail
  generalize (w.alloc (.cells #[.int .i64 r, .int .i64 s, .int .i64 p, .int .i64 x, .int .i64 y, .int .i64 f] 33)).alloc (.cells #[.int .i64 r, .int .i64 s, .int .i64 p] 2) = W0 at *
  refine (wordHead_any 2 _ 3 3 _ [r, s, p] _ R2 lt2 hall (by omega)).mono ?_
  rintro e u1 ⟨a, n, c, rfl, O', b1⟩
  have O : OwnK .u8 u1 W0.heap.size (.slice a n c) (frontR r s p) := O'
  have HT := Lib.hid (And.intro (O.less b0.size) (btr b0 b1))
  clear O O' b1 b0 R2 lt2 hall
  go_wp2_with fail
  go_ret
  exact ⟨_, _, _, rfl, HT.out.1, HT.out.2⟩
end Go.Proofs.YtlodhleihnlchaaGreatDoor
namespace Go.Proofs.YtlodhleihnlchaaGreatDoor
open Go.RowKit
set_option maxRecDepth 100000
set_option linter.unusedVariables false

theorem l6Front_any (g : Nat) (r s p x y f : Int) (w : World) (hA : At g (RL6 r s p x y f) w) (hr : M.sumB r = true) (hs : M.sumB s = true) (hp : M.sumB p = true) :
    Calls Tryz.prog 193 #[.pointer (some ⟨g, 0, none⟩)] w (Made (frontR r s p) w) := by
  obtain ⟨i0, hi0, hz0, hz1, hz2⟩ := info_parts u8_info
  have d0 := hA.cell 0 _ rfl
  have d1 := hA.cell 1 _ rfl
  have d2 := hA.cell 2 _ rfl
  have d3 := hA.cell 3 _ rfl
  have d4 := hA.cell 4 _ rfl
  have d5 := hA.cell 5 _ rfl
  have b1 := bal (Below.refl _ w) (.cells #[.int .u8 2] 5)
  have ltg := hA.lt (by simp)
  have O1 : OwnK .u8 (w.alloc (.cells #[.int .u8 2] 5)) w.heap.size (.slice (some ⟨w.heap.size, 0, none⟩) 1 1) [2] := own_lit (k := .u8) w [2] 1 5 (Nat.le_refl _) rfl (by simp only [maxLen]; omega)
  go_enter Tryz.func193, Tryz.ntmps193
  go_wp2_with fail
  generalize w.alloc (.cells #[.int .u8 2] 5) = W1 at *
  refine (l1Two_any r _ hr).mono ?_
  rintro e w2 ⟨rfl, rfl⟩
  have O2 := Own.alloc O1 (.cells #[.int .u8 (r / 256), .int .u8 (r % 256)] 5)
  have b2 := bal b1 (.cells #[.int .u8 (r / 256), .int .u8 (r % 256)] 5)
  have hle := b2.size
  have hsrc := src_new (P := Tryz.prog) W1 [.int .u8 (r / 256), .int .u8 (r % 256)] 2 2 5 22 5 Tryz.underlying22 rfl (ints_oneCell .u8 [r / 256, r % 256])
  go_wp2_with (at_builtin; refine wpList_append_src _ rfl (.tmp 4) (.tmp 9) 22 22 rfl w.heap.size 5 i0 (.int .u8 0) 1 1 Tryz.underlying22 hi0 hz0 hz1 hz2 rfl _ 1 [.int .u8 2] rfl O2 _ 2 _ rfl hsrc (by simp only [maxLen]; omega) (by omega) hle ?_; intro v3 w3 hown hgrow hat)
  have b3 : Below w.heap.size w w3 := Own.grown O2 b2 hle hgrow
  have O3 : OwnK .u8 w3.drew w.heap.size v3 ([2] ++ M.two r) := by unfold OwnK; simpa [M.two] using hown.drew
  clear O1 O2 b1 b2 hle hsrc hown hgrow hat
  have S0 : Bel w w3.drew := ⟨b3.drew⟩
  refine wp_region_line (Bel w) [(0, true), (1, true), (2, true), (3, true), (4, true), (7, true), (8, true), (9, true), (10, true), (5, false), (6, false), (11, false), (12, false), (13, true)] (by kernel_rfl) (by kernel_rfl) (fun _ _ d _ _ h => by cases d <;> exact h) S0 ?_
  have inst : Nonempty (Of (Bel w)) := ⟨⟨_, S0⟩⟩
  have u1 := bel_cell d1
  have u2 := bel_cell d2
  clear b3 d0 d1 d2 d3 d4 d5
  generalize w3.drew = V1 at *
  iterate 9 (refine line_read rfl (by kernel_rfl) (fun K hK => ?_); go_big_quiet_op; refine hK _ ?_; clear hK K)
  clear u1 u2
  refine line_alone rfl (by kernel_rfl) (fun K hK => ?_)
  refine call_any (args := #[.int .i64 s]) rfl (by kernel_rfl) (by kernel_rfl) (l1Two_any s _ hs) ?_
  rintro e _ ⟨rfl, rfl⟩
  have st5 := S0.on (bal (Below.refl _ V1) (.cells #[.int .u8 (s / 256), .int .u8 (s % 256)] 5))
  have O5 : OwnK .u8 (V1.alloc (.cells #[.int .u8 (s / 256), .int .u8 (s % 256)] 5)) w.heap.size v3 ([2] ++ M.two r) := Own.alloc O3 _
  have T5 := two_own V1 s
  refine ⟨_, rfl, hK _ _ st5 ?_⟩
  clear hK K
  simp only [Act.put, List.setIfInBounds_toArray, List.set_cons_zero, List.set_cons_succ]
  refine line_alone rfl (by kernel_rfl) (fun K hK => ?_)
  refine wp_append_src _ (.tmp 11) (.tmp 16) 22 22 rfl w.heap.size 5 i0 (.int .u8 0) 1 1 Tryz.underlying22 hi0 hz0 hz1 hz2 rfl _ _ _ rfl O5 _ 2 _ rfl (T5.src6 (two_byte hs)) (by simp only [maxLen, M.two, List.length_append, List.length_cons, List.length_nil]; omega) (by simp only [M.two, List.length_append, List.length_cons, List.length_nil]; omega) st5.out.size (fun v5 w5 hown hgrow hat => ?_)
  have b5 : Below w.heap.size w w5 := Own.grown O5 st5.out st5.out.size hgrow
  have P5 : OwnK .u8 w5 w.heap.size v5 ([2] ++ M.two r ++ M.two s) := by
    unfold OwnK
    rw [List.length_append, List.map_append]
    exact hown
  have S5 : Bel w w5 := ⟨b5⟩
  refine hK _ _ S5 ?_
  clear hK K hown hgrow hat O5 T5 st5 O3 S0 b5
  simp only [Act.put, List.setIfInBounds_toArray, List.set_cons_zero, List.set_cons_succ]
  refine line_alone rfl (by kernel_rfl) (fun K hK => ?_)
  refine call_any (args := #[.int .i64 p]) rfl (by kernel_rfl) (by kernel_rfl) (l1Two_any p _ hp) ?_
  rintro e _ ⟨rfl, rfl⟩
  have st6 := S5.on (bal (Below.refl _ w5) (.cells #[.int .u8 (p / 256), .int .u8 (p % 256)] 5))
  have O6 : OwnK .u8 (w5.alloc (.cells #[.int .u8 (p / 256), .int .u8 (p % 256)] 5)) w.heap.size v5 ([2] ++ M.two r ++ M.two s) := Own.alloc P5 _
  have T6 := two_own w5 p
  refine ⟨_, rfl, hK _ _ st6 ?_⟩
  clear hK K
  simp only [Act.put, List.setIfInBounds_toArray, List.set_cons_zero, List.set_cons_succ]
  refine line_alone rfl (by kernel_rfl) (fun K hK => ?_)
  refine wp_append_src _ (.tmp 17) (.tmp 22) 22 22 rfl w.heap.size 5 i0 (.int .u8 0) 1 1 Tryz.underlying22 hi0 hz0 hz1 hz2 rfl _ _ _ rfl O6 _ 2 _ rfl (T6.src6 (two_byte hp)) (by simp only [maxLen, M.two, List.length_append, List.length_cons, List.length_nil]; omega) (by simp only [M.two, List.length_append, List.length_cons, List.length_nil]; omega) st6.out.size (fun v6 w6 hown hgrow hat => ?_)
  have b6 : Below w.heap.size w w6 := Own.grown O6 st6.out st6.out.size hgrow
  have P6 : OwnK .u8 w6 w.heap.size v6 ([2] ++ M.two r ++ M.two s ++ M.two p) := by
    unfold OwnK
    rw [List.length_append, List.map_append]
    exact hown
  have S6 : Bel w w6 := ⟨b6⟩
  refine hK _ _ S6 ?_
  clear hK K hown hgrow hat O6 T6 st6 P5 S5 b6
  simp only [Act.put, List.setIfInBounds_toArray, List.set_cons_zero, List.set_cons_succ]
  obtain ⟨a7, c7, hv7, -⟩ := P6.form
  have HT := Lib.hid (And.intro (show OwnK .u8 w6 w.heap.size v6 (frontR r s p) from P6) S6.out)
  clear P6 S6
  subst hv7
  iterate 1 (refine line_read rfl (by kernel_rfl) (fun K hK => ?_); go_big_quiet_op; refine hK _ ?_; clear hK K)
  refine line_nil ?_
  go_wp2_with fail
  go_ret
  exact ⟨_, _, _, rfl, HT.out.1, HT.out.2⟩

end Go.Proofs.YtlodhleihnlchaaGreatDoor
namespace Go.Proofs.YtlodhleihnlchaaGreatDoor
open Go.RowKit
set_option maxRecDepth 100000
set_option linter.unusedVariables false

theorem grid_two {w : World} {a1 a2 : Option Addr} {n1 n2 c1 c2 : Nat} {z1 z2 : List Int} (t : TypeId) (R1 : Row .u8 w w.heap.size a1 n1 c1 z1) (R2 : Row .u8 w w.heap.size a2 n2 c2 z2) :
    Grid (w.alloc (.cells #[.slice a1 n1 c1, .slice a2 n2 c2] t)) (w.heap.size + 1) (some ⟨w.heap.size, 0, none⟩) 2 2 [z1, z2] :=
  ⟨rfl, Nat.le_refl _, by simp only [maxLen]; omega, fun _ => ⟨w.heap.size, 0, rfl, by omega, fun j hj => by
    have e1 : (w.alloc (.cells #[.slice a1 n1 c1, .slice a2 n2 c2] t)).heap[w.heap.size]? = some (.cells #[.slice a1 n1 c1, .slice a2 n2 c2] t) := (MapKept.heap_alloc w _).1
    match j, hj with
    | 0, _ => exact ⟨a1, n1, c1, by unfold World.cell?; show (match (w.alloc (.cells #[.slice a1 n1 c1, .slice a2 n2 c2] t)).heap[w.heap.size]? with | some (Obj.cells c elem frozen) => c[0]? | x => none) = _; rw [e1]; rfl, (R1.alloc (Nat.le_refl _) _).more (by omega)⟩
    | 1, _ => exact ⟨a2, n2, c2, by unfold World.cell?; show (match (w.alloc (.cells #[.slice a1 n1 c1, .slice a2 n2 c2] t)).heap[w.heap.size]? with | some (Obj.cells c elem frozen) => c[1]? | x => none) = _; rw [e1]; rfl, (R2.alloc (Nat.le_refl _) _).more (by omega)⟩⟩⟩
structure Hold2 (W : World) (g : Nat) (cs : List Value) (h : Nat) (ds : List Value) (cur : World) : Prop where
  bel : Below W.heap.size W cur
  one : At g cs cur
  two : At h ds cur
theorem Hold2.on {W : World} {g h : Nat} {cs ds : List Value} {cur cur' : World} (x : Hold2 W g cs h ds cur) (hb : Below cur.heap.size cur cur') : Hold2 W g cs h ds cur' := ⟨btr x.bel hb, x.one.on hb, x.two.on hb⟩
theorem Hold2.setB {W : World} {g h : Nat} {cs ds : List Value} {cur : World} (x : Hold2 W g cs h ds cur) {p : Addr} (hW : W.heap.size ≤ p.block) (hg : g ≠ p.block) (hh : h ≠ p.block) (u : Value) : Hold2 W g cs h ds (cur.setCell p u) := ⟨bset x.bel hW u, x.one.setB hg u, x.two.setB hh u⟩
theorem hold2_one {W : World} {g h : Nat} {cs ds : List Value} (i : Nat) (v : Value) (e : cs[i]? = some v) : ∀ z : Of (Hold2 W g cs h ds), z.val.cell? ⟨g, i, none⟩ = some v := fun z => z.prop.one.cell i v e
theorem hold2_two {W : World} {g h : Nat} {cs ds : List Value} (i : Nat) (v : Value) (e : ds[i]? = some v) : ∀ z : Of (Hold2 W g cs h ds), z.val.cell? ⟨h, i, none⟩ = some v := fun z => z.prop.two.cell i v e

def heaC (n : ByteArray) (r s : Int) (r2 s2 p x y f : Int) : Int := if helF n.data.toList r s = 0 then repF r2 s2 p x y f else helF n.data.toList r s
def heaV (n : ByteArray) (r s : Int) (r2 s2 p x y f : Int) : Int := if heaC n r s r2 s2 p x y f = 0 then M.heardL [packH n r s, frontR r2 s2 p] else 0
theorem hea_hel {n : ByteArray} {r s r2 s2 p x y f : Int} (h : ¬ helF n.data.toList r s = 0) : heaC n r s r2 s2 p x y f = helF n.data.toList r s ∧ heaV n r s r2 s2 p x y f = 0 := by
  have e : heaC n r s r2 s2 p x y f = helF n.data.toList r s := by simp [heaC, h]
  exact ⟨e, by unfold heaV; rw [e, if_neg h]⟩
theorem hea_rep {n : ByteArray} {r s r2 s2 p x y f : Int} (h : helF n.data.toList r s = 0) (h2 : ¬ repF r2 s2 p x y f = 0) : heaC n r s r2 s2 p x y f = repF r2 s2 p x y f ∧ heaV n r s r2 s2 p x y f = 0 := by
  have e : heaC n r s r2 s2 p x y f = repF r2 s2 p x y f := by simp [heaC, h]
  exact ⟨e, by unfold heaV; rw [e, if_neg h2]⟩
theorem hea_yes {n : ByteArray} {r s r2 s2 p x y f : Int} (h : helF n.data.toList r s = 0) (h2 : repF r2 s2 p x y f = 0) : heaC n r s r2 s2 p x y f = 0 ∧ heaV n r s r2 s2 p x y f = M.heardL [packH n r s, frontR r2 s2 p] := by
  have e : heaC n r s r2 s2 p x y f = 0 := by simp [heaC, h, h2]
  exact ⟨e, by unfold heaV; rw [if_pos e]⟩
theorem hea_R {n : ByteArray} {r s r2 s2 p : Int} (hn : n.size ≤ 20) : M.heardR [packH n r s, frontR r2 s2 p] = (0, M.heardL [packH n r s, frontR r2 s2 p]) := by
  unfold M.heardR
  have l1 := packH_length n r s
  have l2 := frontR_length r2 s2 p
  simp [M.longB, l1, l2]
  omega

theorem frontR_byte {r s p : Int} (h1 : M.sumB r = true) (h2 : pubB s = true) (h3 : pubB p = true) : ∀ z ∈ frontR r s p, M.byteB z := by
  intro z hz
  simp only [frontR, List.mem_append] at hz
  rcases hz with ((hz | hz) | hz) | hz
  · simp only [List.mem_cons, List.not_mem_nil, or_false] at hz
    unfold M.byteB
    omega
  · exact two_byte h1 z hz
  · exact two_byte (pub_sum6 h2) z hz
  · exact two_byte (pub_sum6 h3) z hz
theorem heardSum_any (n : ByteArray) (r s r2 s2 p x y f : Int) (w : World) (lab : Labels w) (hh : helF n.data.toList r s = 0) (h1 : M.sumB r2 = true) (h2 : pubB s2 = true) (h3 : pubB p = true) :
    Calls Tryz.prog 110 #[H3 r s n, R6 r2 s2 p x y f] w fun e w' => e = .returned (.int .i64 (M.heardL [packH n r s, frontR r2 s2 p])) ∧ Below w.heap.size w w' := by
  have b0 := bal (bal (Below.refl _ w) (.cells #[.int .i64 r, .int .i64 s, .string n] 26)) (.cells #[.int .i64 r2, .int .i64 s2, .int .i64 p, .int .i64 x, .int .i64 y, .int .i64 f] 33)
  have A1 := (At.new w (HL3 r s n) 26).alloc (.cells #[.int .i64 r2, .int .i64 s2, .int .i64 p, .int .i64 x, .int .i64 y, .int .i64 f] 33)
  have A2 := At.new (w.alloc (.cells #[.int .i64 r, .int .i64 s, .string n] 26)) (RL6 r2 s2 p x y f) 33
  simp only [World.size_alloc] at A1 A2
  have f1 := fld1
  have P1 := fun w => wordBytes_hello r s n w hh
  have P2 := fun w => replyHeadOf_any r2 s2 p x y f w h1 (pub_sum6 h2) (pub_sum6 h3)
  have hR := hea_R (r := r) (s := s) (r2 := r2) (s2 := s2) (p := p) (hel_size hh)
  have HW := Lib.hid (And.intro (fun z hz => byte_wf (packH_byte hh z hz)) (fun z hz => byte_wf (frontR_byte h1 h2 h3 z hz)))
  have L0 := lab.on b0
  generalize M.heardL [packH n r s, frontR r2 s2 p] = hv at *
  generalize packH n r s = z1 at *
  generalize frontR r2 s2 p = z2 at *
  have F3 := fun a len cap B w L G hB => implTranscript_any a len cap B [z1, z2] w L G hB
  rw [hR] at F3
  clear lab hh h1 h2 h3 hR
  go_enter Tryz.func110, Tryz.ntmps110
  go_wp2_with fail
  generalize (w.alloc (.cells #[.int .i64 r, .int .i64 s, .string n] 26)).alloc (.cells #[.int .i64 r2, .int .i64 s2, .int .i64 p, .int .i64 x, .int .i64 y, .int .i64 f] 33) = W0 at *
  have d0 := A1.cell 0 _ rfl
  have d1 := A1.cell 1 _ rfl
  have d2 := A1.cell 2 _ rfl
  have k0 := A2.cell 0 _ rfl
  have k1 := A2.cell 1 _ rfl
  have k2 := A2.cell 2 _ rfl
  have k3 := A2.cell 3 _ rfl
  have k4 := A2.cell 4 _ rfl
  have k5 := A2.cell 5 _ rfl
  refine wp_region_line (Bel W0) [(0, true), (3, true), (1, false), (2, false), (4, false), (5, false), (6, false), (7, true), (8, true)] (by kernel_rfl) (by kernel_rfl) (fun _ _ d _ _ h => by cases d <;> exact h) (Bel.drew W0) ?_
  have hst := Bel.drew W0
  have inst : Nonempty (Of (Bel W0)) := ⟨⟨_, hst⟩⟩
  have u0 := bel_cell d0
  have u1 := bel_cell d1
  have u2 := bel_cell d2
  have v0 := bel_cell k0
  have v1 := bel_cell k1
  have v2 := bel_cell k2
  have v3 := bel_cell k3
  have v4 := bel_cell k4
  have v5 := bel_cell k5
  iterate 2 (refine line_read rfl (by kernel_rfl) (fun K hK => ?_); go_big_quiet_op; refine hK _ ?_; clear hK K)
  clear u0 u1 u2 v0 v1 v2 v3 v4 v5 d0 d1 d2 k0 k1 k2 k3 k4 k5
  refine line_value (v := .iface 26 (H3 r s n)) rfl (by kernel_rfl) (by kernel_rfl) hst ?_
  simp only [Act.put, List.setIfInBounds_toArray, List.set_cons_zero, List.set_cons_succ]
  refine line_alone rfl (by kernel_rfl) (fun K hK => ?_)
  refine call_any (args := #[.iface 26 (H3 r s n)]) rfl (by kernel_rfl) (by kernel_rfl) (P1 _) ?_
  rintro e V3 ⟨a1, n1, c1, rfl, O1, b3⟩
  have st3 := hst.on b3
  refine ⟨_, rfl, hK _ _ st3 ?_⟩
  clear hK K
  simp only [Act.put, List.setIfInBounds_toArray, List.set_cons_zero, List.set_cons_succ]
  refine line_alone rfl (by kernel_rfl) (fun K hK => ?_)
  refine call_any (args := #[R6 r2 s2 p x y f]) rfl (by kernel_rfl) (by kernel_rfl) (P2 _) ?_
  rintro e V4 ⟨a2, n2, c2, rfl, O2, b4⟩
  have st4 := st3.on b4
  refine ⟨_, rfl, hK _ _ st4 ?_⟩
  clear hK K
  simp only [Act.put, List.setIfInBounds_toArray, List.set_cons_zero, List.set_cons_succ]
  have G := grid_two 22 ((Own.row O1 HW.out.1).on b4) (Own.row O2 HW.out.2)
  have L4 := L0.on st4.out
  have st5 := st4.on (bal (Below.refl _ V4) (.cells #[.slice a1 n1 c1, .slice a2 n2 c2] 22))
  have L5 := L4.on (bal (Below.refl _ V4) (.cells #[.slice a1 n1 c1, .slice a2 n2 c2] 22))
  refine line_alone rfl (by kernel_rfl) (fun K hK => ?_)
  go_big_op
  refine hK _ _ (st5) ?_
  clear hK K
  have hle : V4.heap.size + 1 ≤ (V4.alloc (.cells #[.slice a1 n1 c1, .slice a2 n2 c2] 22)).heap.size := by simp
  generalize V4.alloc (.cells #[.slice a1 n1 c1, .slice a2 n2 c2] 22) = V5 at *
  refine line_alone rfl (by kernel_rfl) (fun K hK => ?_)
  refine call_any (args := #[.slice (some ⟨V4.heap.size, 0, none⟩) 2 2]) rfl (by kernel_rfl) (by kernel_rfl) (F3 _ _ _ _ _ L5 G hle) ?_
  rintro e V6 ⟨rfl, b6⟩
  have st6 := st5.on b6
  refine ⟨_, rfl, hK _ _ st6 ?_⟩
  clear hK K
  simp only [Act.put, List.setIfInBounds_toArray, List.set_cons_zero, List.set_cons_succ]
  iterate 2 (refine line_read rfl (by kernel_rfl) (fun K hK => ?_); go_big_quiet_op; refine hK _ ?_; clear hK K)
  refine line_nil ?_
  have hb := btr b0 st6.out
  clear hst st3 st4 st5 st6 G O1 O2 b3 b4 b6 L4 L5 L0 A1 A2 b0
  go_wp2_with fail
  go_ret
  exact ⟨rfl, hb⟩
theorem implHeardOf_any (n : ByteArray) (r s r2 s2 p x y f : Int) (w : World) (lab : Labels w) (ert : ErrT w) (hn : n.size ≤ maxLen) :
    Calls Tryz.prog 28 #[H3 r s n, R6 r2 s2 p x y f] w fun e w' => e = .returned (I2 (heaC n r s r2 s2 p x y f) (heaV n r s r2 s2 p x y f)) ∧ Below w.heap.size w w' := by
  have b0 := bal (bal (bal (Below.refl _ w) (.cells #[.int .i64 r, .int .i64 s, .string n] 26)) (.cells #[.int .i64 r2, .int .i64 s2, .int .i64 p, .int .i64 x, .int .i64 y, .int .i64 f] 33)) (.cells #[.int .i64 0, .int .i64 0] 49)
  have A1 := ((At.new w (HL3 r s n) 26).alloc (.cells #[.int .i64 r2, .int .i64 s2, .int .i64 p, .int .i64 x, .int .i64 y, .int .i64 f] 33)).alloc (.cells #[.int .i64 0, .int .i64 0] 49)
  have A2 := (At.new (w.alloc (.cells #[.int .i64 r, .int .i64 s, .string n] 26)) (RL6 r2 s2 p x y f) 33).alloc (.cells #[.int .i64 0, .int .i64 0] 49)
  have A3 := At.new ((w.alloc (.cells #[.int .i64 r, .int .i64 s, .string n] 26)).alloc (.cells #[.int .i64 r2, .int .i64 s2, .int .i64 p, .int .i64 x, .int .i64 y, .int .i64 f] 33)) [.int .i64 0, .int .i64 0] 49
  simp only [World.size_alloc] at A1 A2 A3
  have F1 := fun w => implHelloFault_any r s n w hn
  have F2 := fun w E => implReplyFault_any r2 s2 p x y f w E
  have L0 := lab.on b0
  have E0 := ert.on b0
  clear lab ert
  by_cases h1 : helF n.data.toList r s = 0
  · rw [h1] at F1
    by_cases h2 : repF r2 s2 p x y f = 0
    · obtain ⟨e1, e2⟩ := hea_yes (x := x) (y := y) (f := f) h1 h2
      rw [e1, e2]
      rw [h2] at F2
      obtain ⟨q1, q2, q3, -, -⟩ := repF_zero h2
      have F3 := fun w L => heardSum_any n r s r2 s2 p x y f w L h1 q1 q2 q3
      generalize M.heardL [packH n r s, frontR r2 s2 p] = hv at *
      clear e1 e2 h1 h2 q1 q2 q3
      go_enter Tryz.func28, Tryz.ntmps28
      go_wp2_with fail
      generalize ((w.alloc (.cells #[.int .i64 r, .int .i64 s, .string n] 26)).alloc (.cells #[.int .i64 r2, .int .i64 s2, .int .i64 p, .int .i64 x, .int .i64 y, .int .i64 f] 33)).alloc (.cells #[.int .i64 0, .int .i64 0] 49) = W0 at *
      refine (F1 _).mono ?_
      rintro e u1 ⟨rfl, b1⟩
      have d0 := (A1.on b1).cell 0 _ rfl
      have d1 := (A1.on b1).cell 1 _ rfl
      have d2 := (A1.on b1).cell 2 _ rfl
      have k0 := (A2.on b1).cell 0 _ rfl
      have k1 := (A2.on b1).cell 1 _ rfl
      have k2 := (A2.on b1).cell 2 _ rfl
      have k3 := (A2.on b1).cell 3 _ rfl
      have k4 := (A2.on b1).cell 4 _ rfl
      have k5 := (A2.on b1).cell 5 _ rfl
      go_wp2_with fail
      refine (F2 _ (E0.on b1)).mono ?_
      rintro e u2 ⟨rfl, b2⟩
      have b12 := btr b1 b2
      clear d0 d1 d2 k0 k1 k2 k3 k4 k5
      have d0 := (A1.on b12).cell 0 _ rfl
      have d1 := (A1.on b12).cell 1 _ rfl
      have d2 := (A1.on b12).cell 2 _ rfl
      have k0 := (A2.on b12).cell 0 _ rfl
      have k1 := (A2.on b12).cell 1 _ rfl
      have k2 := (A2.on b12).cell 2 _ rfl
      have k3 := (A2.on b12).cell 3 _ rfl
      have k4 := (A2.on b12).cell 4 _ rfl
      have k5 := (A2.on b12).cell 5 _ rfl
      go_wp2_with fail
      refine (F3 _ (L0.on b12)).mono ?_
      rintro e u3 ⟨rfl, b3⟩
      have b13 := btr b12 b3
      have B3 := btr b0 b13
      clear b1 b2 b3 b12 F1 F2 F3 L0 E0 d0 d1 d2 k0 k1 k2 k3 k4 k5
      have q0 := (A3.on b13).cell 0 _ rfl
      have q1 := (A3.on b13).cell 1 _ rfl
      have z0 := (A3.on b13).free 0 _ rfl
      have z1 := (A3.on b13).free 1 _ rfl
      clear A1 A2 A3
      go_wp2_with fail
      refine bodyPost_ret (v := I2 0 hv) (by simp [results, Tryz.results28, go_sem, q0, q1]) rfl ⟨rfl, ?_⟩
      exact (by (iterate 2 (refine bset ?_ (by dsimp only; omega) _)); exact B3)
    · obtain ⟨e1, e2⟩ := hea_rep (x := x) (y := y) (f := f) h1 h2
      rw [e1, e2]
      generalize repF r2 s2 p x y f = cd at *
      clear e1 e2 h1
      go_enter Tryz.func28, Tryz.ntmps28
      go_wp2_with fail
      generalize ((w.alloc (.cells #[.int .i64 r, .int .i64 s, .string n] 26)).alloc (.cells #[.int .i64 r2, .int .i64 s2, .int .i64 p, .int .i64 x, .int .i64 y, .int .i64 f] 33)).alloc (.cells #[.int .i64 0, .int .i64 0] 49) = W0 at *
      refine (F1 _).mono ?_
      rintro e u1 ⟨rfl, b1⟩
      have d0 := (A1.on b1).cell 0 _ rfl
      have d1 := (A1.on b1).cell 1 _ rfl
      have d2 := (A1.on b1).cell 2 _ rfl
      have k0 := (A2.on b1).cell 0 _ rfl
      have k1 := (A2.on b1).cell 1 _ rfl
      have k2 := (A2.on b1).cell 2 _ rfl
      have k3 := (A2.on b1).cell 3 _ rfl
      have k4 := (A2.on b1).cell 4 _ rfl
      have k5 := (A2.on b1).cell 5 _ rfl
      go_wp2_with fail
      refine (F2 _ (E0.on b1)).mono ?_
      rintro e u2 ⟨rfl, b2⟩
      have b12 := btr b1 b2
      have B3 := btr b0 b12
      clear d0 d1 d2 k0 k1 k2 k3 k4 k5 b1 b2 F1 F2 L0 E0
      have q0 := (A3.on b12).cell 0 _ rfl
      have q1 := (A3.on b12).cell 1 _ rfl
      have z0 := (A3.on b12).free 0 _ rfl
      have z1 := (A3.on b12).free 1 _ rfl
      clear A1 A2 A3
      go_wp2_with fail
      refine bodyPost_ret (v := I2 cd 0) (by simp [results, Tryz.results28, go_sem, q0, q1]) rfl ⟨rfl, ?_⟩
      exact (by (iterate 2 (refine bset ?_ (by dsimp only; omega) _)); exact B3)
  · obtain ⟨e1, e2⟩ := hea_hel (r2 := r2) (s2 := s2) (p := p) (x := x) (y := y) (f := f) h1
    rw [e1, e2]
    generalize helF n.data.toList r s = cd at *
    clear e1 e2
    go_enter Tryz.func28, Tryz.ntmps28
    go_wp2_with fail
    generalize ((w.alloc (.cells #[.int .i64 r, .int .i64 s, .string n] 26)).alloc (.cells #[.int .i64 r2, .int .i64 s2, .int .i64 p, .int .i64 x, .int .i64 y, .int .i64 f] 33)).alloc (.cells #[.int .i64 0, .int .i64 0] 49) = W0 at *
    refine (F1 _).mono ?_
    rintro e u1 ⟨rfl, b1⟩
    have d0 := (A1.on b1).cell 0 _ rfl
    have d1 := (A1.on b1).cell 1 _ rfl
    have d2 := (A1.on b1).cell 2 _ rfl
    have k0 := (A2.on b1).cell 0 _ rfl
    have k1 := (A2.on b1).cell 1 _ rfl
    have k2 := (A2.on b1).cell 2 _ rfl
    have k3 := (A2.on b1).cell 3 _ rfl
    have k4 := (A2.on b1).cell 4 _ rfl
    have k5 := (A2.on b1).cell 5 _ rfl
    have B3 := btr b0 b1
    clear d0 d1 d2 k0 k1 k2 k3 k4 k5 F1 F2 L0 E0
    have q0 := (A3.on b1).cell 0 _ rfl
    have q1 := (A3.on b1).cell 1 _ rfl
    have z0 := (A3.on b1).free 0 _ rfl
    have z1 := (A3.on b1).free 1 _ rfl
    clear A1 A2 A3
    go_wp2_with fail
    refine bodyPost_ret (v := I2 cd 0) (by simp [results, Tryz.results28, go_sem, q0, q1]) rfl ⟨rfl, ?_⟩
    exact (by (iterate 2 (refine bset ?_ (by dsimp only; omega) _)); exact B3)
end Go.Proofs.YtlodhleihnlchaaGreatDoor
