/- Contracts of signatures and of how they are checked, by the program and by its model. Conditions: as each theorem states. -/
import Derived.Test.YtjlhldndomaknaaDoorC3d
namespace Go.Proofs.YtjlhldndomaknaaDoor
open Go.RowKit
set_option maxRecDepth 100000

theorem kf0 (a b : Int) (w : World) : Sem.run Tryd.prog (Instr.field 59 (.agg #[.int .i64 a, .int .i64 b]) 0) w = .ok (.int .i64 a) w := by kernel_rfl
theorem kf1 (a b : Int) (w : World) : Sem.run Tryd.prog (Instr.field 59 (.agg #[.int .i64 a, .int .i64 b]) 1) w = .ok (.int .i64 b) w := by kernel_rfl

theorem l3Sign_any (s t : Int) (w : World) (hs : inB s 1 1438 = true) (ht : M.sumB t = true) :
    Calls Tryd.prog 111 #[.int .i64 s, .int .i64 t] w fun r w' => r = .returned (I2 (M.sigPt s t) (M.sigPr s t)) ∧ Below w.heap.size w w' := by
  have hs' := hs
  simp only [inB, decide_eq_true_eq] at hs'
  obtain ⟨s0, s1⟩ := hs'
  have hS := M.sum_of_sec hs
  have e1 : M.sigPt s t = M.pw 4 (M.nonceN s t).toNat 2879 := rfl
  have e2 : M.sigPr s t = (M.nonceN s t + M.chalN (M.pw 4 s.toNat 2879) (M.pw 4 (M.nonceN s t).toNat 2879) t * s) % 1439 := rfl
  rw [e1, e2]
  clear e1 e2
  obtain ⟨n0, n1⟩ := M.nonceN_bd s t
  obtain ⟨c0, c1⟩ := M.chalN_bd (M.pw 4 s.toNat 2879) (M.pw 4 (M.nonceN s t).toNat 2879) t
  obtain ⟨m0, m1⟩ := M.mul_bd (M := 1439) c0 (by omega) (show 0 ≤ s by omega) (by omega) (by omega)
  have hp1 := M.pow_sum (a := 4) s.toNat
  have hp2 := M.pow_sum (a := 4) (M.nonceN s t).toNat
  have K1 := fun w => l1Key_any s w (by omega) (by omega)
  have K2 := fun w => l1Key_any (M.nonceN s t) w (by omega) (by omega)
  generalize M.pw 4 s.toNat 2879 = U at *
  generalize M.pw 4 (M.nonceN s t).toNat 2879 = P at *
  have g0 := kf0
  have g1 := kf1
  have N1 := fun w => l3Nonce_any s t w hS ht
  generalize M.nonceN s t = n at *
  go_enter Tryd.func111, Tryd.ntmps111
  go_wp2_with fail
  refine (N1 _).mono ?_
  rintro r w1 ⟨rfl, h1⟩
  go_wp2_with fail
  refine (K2 _).mono ?_
  rintro r w2 ⟨rfl, h2⟩
  have k0 : (w2.alloc (.cells #[.int .i64 n, .int .i64 P] 59)).drew.cell? ⟨w2.heap.size, 0, none⟩ = some (.int .i64 n) := by go_simp
  have k1 : (w2.alloc (.cells #[.int .i64 n, .int .i64 P] 59)).drew.cell? ⟨w2.heap.size, 1, none⟩ = some (.int .i64 P) := by go_simp
  have hbel := (bal (btr h1 h2) (.cells #[.int .i64 n, .int .i64 P] 59)).drew
  have hR0 := Res2.new w 49
  have hb0 := bal (Below.refl _ w) (.cells #[.int .i64 0, .int .i64 0] 49)
  clear h1 h2
  go_wp2_with fail
  generalize w2.alloc (.cells #[.int .i64 n, .int .i64 P] 59) = v2 at *
  generalize w.alloc (.cells #[.int .i64 0, .int .i64 0] 49) = W0 at *
  go_region_held3 (fun w' => w'.cell? ⟨w2.heap.size, 1, none⟩ = some (.int .i64 P)) (first | exact k1) (first | (go_at_call 134; refine (K1 _).mono ?_; rintro r wn ⟨rfl, hbn⟩; have pk := cell_keep hbn k0; clear k0; have k0 := pk; clear pk; have pk := cell_keep hbn k1; clear k1; have k1 := pk; clear pk; have bk := btr hbel hbn; clear hbel; have hbel := bk; clear bk hbn) | (go_at_call 137; refine (l3Challenge_any _ _ _ _ hp1 hp2 ht).mono ?_; rintro r wn ⟨rfl, hbn⟩; have pk := cell_keep hbn k0; clear k0; have k0 := pk; clear pk; have pk := cell_keep hbn k1; clear k1; have k1 := pk; clear pk; have bk := btr hbel hbn; clear hbel; have hbel := bk; clear bk hbn))
  all_goals
    obtain ⟨q0, q1, z0, z1⟩ := hR0.on hbel
    go_wp2_with fail
    exact bodyPost_ret (v := I2 P ((n + M.chalN U P t * s) % 1439)) (by simp [results, Tryd.results111, go_sem, q0, q1]) rfl ⟨rfl, bset (bset (btr hb0 hbel) (Nat.le_refl _) _) (Nat.le_refl _) _⟩

theorem specSignSum_any (s t : Int) (w : World) :
    Calls Tryd.prog 43 #[.int .i64 s, .int .i64 t] w fun r w' => r = .returned (I3 (M.signR s t).1 (M.signR s t).2.1 (M.signR s t).2.2) ∧ Below w.heap.size w w' := by
  cases hs : inB s 1 1438
  · have E : M.signR s t = (3, 0, 0) := by simp [M.signR, hs]
    rw [E]; clear E
    go_enter Tryd.func43, Tryd.ntmps43
    go_wp2_with fail
    refine (l1Secret_any _ _).mono ?_
    rintro r w' ⟨rfl, rfl⟩
    go_wp2_with fail
    exact bodyPost_ret (v := I3 3 0 0) (by simp [results, Tryd.results43, go_sem]) rfl ⟨rfl, bal (Below.refl _ _) _⟩
  cases ht : M.sumB t
  · have E : M.signR s t = (3, 0, 0) := by simp [M.signR, ht]
    rw [E]; clear E
    go_enter Tryd.func43, Tryd.ntmps43
    go_wp2_with fail
    refine (l1Secret_any _ _).mono ?_
    rintro r w' ⟨rfl, rfl⟩
    go_wp2_with fail
    refine (l2Is_any _ _).mono ?_
    rintro r w' ⟨rfl, rfl⟩
    go_wp2_with fail
    exact bodyPost_ret (v := I3 3 0 0) (by simp [results, Tryd.results43, go_sem]) rfl ⟨rfl, bal (Below.refl _ _) _⟩
  · have E : M.signR s t = (0, M.sigPt s t, M.sigPr s t) := by simp [M.signR, hs, ht]
    rw [E]; clear E
    have S1 := fun w => l3Sign_any s t w hs ht
    generalize M.sigPt s t = P at *
    generalize M.sigPr s t = R at *
    go_enter Tryd.func43, Tryd.ntmps43
    go_wp2_with fail
    refine (l1Secret_any _ _).mono ?_
    rintro r w' ⟨rfl, rfl⟩
    go_wp2_with fail
    refine (l2Is_any _ _).mono ?_
    rintro r w' ⟨rfl, rfl⟩
    go_wp2_with fail
    refine (S1 _).mono ?_
    rintro r w1 ⟨rfl, h1⟩
    obtain ⟨q0, q1, q2, z0, z1, z2⟩ := (Res3.new w _).on h1
    have b1 := btr (bal (Below.refl _ w) _) h1
    clear h1
    go_wp2_with fail
    exact bodyPost_ret (v := I3 0 P R) (by simp [results, Tryd.results43, go_sem, q0, q1, q2]) rfl ⟨rfl, bset (bset (bset b1 (Nat.le_refl _) _) (Nat.le_refl _) _) (Nat.le_refl _) _⟩

theorem checkB_yes {u t p q : Int} (hu : pubB u = true) (ht : M.sumB t = true) (hg : M.sigB p q = true) : M.checkB u t p q = (M.pw 4 q.toNat 2879 == p * M.pw u (M.chalN u p t).toNat 2879 % 2879) := by
  simp only [M.checkB, hu, ht, hg, Bool.and_self, Bool.true_and]

theorem l3Check_any (u t : Int) (g : Nat) (p q : Int) (w : World) (d0 : w.cell? ⟨g, 0, none⟩ = some (.int .i64 p)) (d1 : w.cell? ⟨g, 1, none⟩ = some (.int .i64 q)) :
    Calls Tryd.prog 108 #[.int .i64 u, .int .i64 t, .pointer (some ⟨g, 0, none⟩)] w fun r w' => r = .returned (.bool (M.checkB u t p q)) ∧ Below w.heap.size w w' := by
  cases hu : pubB u
  · have E : M.checkB u t p q = false := by simp [M.checkB, hu]
    rw [E]; clear E
    go_enter Tryd.func108, Tryd.ntmps108
    go_wp2_with fail
    refine (l1Public_any _ _).mono ?_
    rintro r w' ⟨rfl, rfl⟩
    go_wp2_with fail
    go_ret
    exact ⟨rfl, Below.refl _ _⟩
  cases ht : M.sumB t
  · have E : M.checkB u t p q = false := by simp [M.checkB, ht]
    rw [E]; clear E
    go_enter Tryd.func108, Tryd.ntmps108
    go_wp2_with fail
    refine (l1Public_any _ _).mono ?_
    rintro r w' ⟨rfl, rfl⟩
    go_wp2_with fail
    refine (l2Is_any _ _).mono ?_
    rintro r w' ⟨rfl, rfl⟩
    go_wp2_with fail
    go_ret
    exact ⟨rfl, Below.refl _ _⟩
  cases hg : M.sigB p q
  · have E : M.checkB u t p q = false := by simp [M.checkB, hg]
    have F : M.sigF p q = 3 := by simp [M.sigF, hg]
    rw [E]; clear E
    have F1 := l3Fault_any g p q w d0 d1
    rw [F] at F1
    go_enter Tryd.func108, Tryd.ntmps108
    go_wp2_with fail
    refine (l1Public_any _ _).mono ?_
    rintro r w' ⟨rfl, rfl⟩
    go_wp2_with fail
    refine (l2Is_any _ _).mono ?_
    rintro r w' ⟨rfl, rfl⟩
    go_wp2_with fail
    refine (F1).mono ?_
    rintro r w' ⟨rfl, rfl⟩
    go_wp2_with fail
    go_ret
    exact ⟨rfl, Below.refl _ _⟩
  rw [checkB_yes hu ht hg]
  have F : M.sigF p q = 0 := by simp [M.sigF, hg]
  have F1 := l3Fault_any g p q w d0 d1
  rw [F] at F1
  clear F
  obtain ⟨p0, p1, q0, q1⟩ := M.sigB_bd hg
  obtain ⟨u0, u1⟩ := pubB_bd hu
  have hp : pubB p = true := by simp only [M.sigB, Bool.and_eq_true] at hg; exact hg.1
  have C1 := fun w => l3Challenge_any u p t w (M.sum_of_pub hu) (M.sum_of_pub hp) ht
  obtain ⟨c0, c1⟩ := M.chalN_bd u p t
  generalize M.chalN u p t = e at *
  have A1 := fun w => l1Raise_int 4 q w (by omega) (by omega) (by omega) (by omega)
  have A2 := fun w => l1Raise_int u e w (by omega) (by omega) (by omega) (by omega)
  obtain ⟨x0, x1⟩ := M.pw_bd u e.toNat (m := 2879) (by omega)
  obtain ⟨m0, m1⟩ := M.mul_bd (M := 2879) (show 0 ≤ p by omega) (by omega) x0 x1 (by omega)
  generalize M.pw 4 q.toNat 2879 = X at *
  generalize M.pw u e.toNat 2879 = Y at *
  have EW := Lib.hid (show IntKind.i64.wrap (p * Y) = p * Y ∧ (p * Y).tmod 2879 = p * Y % 2879 from ⟨by rw [IntKind.wrap_i64]; omega, Int.tmod_eq_emod_of_nonneg m0⟩)
  go_enter Tryd.func108, Tryd.ntmps108
  go_wp2_with fail
  refine (l1Public_any _ _).mono ?_
  rintro r w' ⟨rfl, rfl⟩
  go_wp2_with fail
  refine (l2Is_any _ _).mono ?_
  rintro r w' ⟨rfl, rfl⟩
  go_wp2_with fail
  refine (F1).mono ?_
  rintro r w' ⟨rfl, rfl⟩
  go_wp2_with fail
  refine (C1 _).mono ?_
  rintro r w1 ⟨rfl, h1⟩
  have k0 : w1.drew.cell? ⟨g, 0, none⟩ = some (.int .i64 p) := cell_keep h1 d0
  have k1 : w1.drew.cell? ⟨g, 1, none⟩ = some (.int .i64 q) := cell_keep h1 d1
  have hbel : Below w.heap.size w w1.drew := h1.drew
  clear h1 d0 d1 F1
  go_wp2_with fail
  go_region_held3 (fun w' => w'.cell? ⟨g, 0, none⟩ = some (.int .i64 p) ∧ w'.cell? ⟨g, 1, none⟩ = some (.int .i64 q)) (first | exact ⟨k0, k1⟩) (first | (go_at_call 138; refine (A1 _).mono ?_; rintro r wn ⟨rfl, rfl⟩) | (go_at_call 138; refine (A2 _).mono ?_; rintro r wn ⟨rfl, rfl⟩))
  all_goals
    go_wp2_with fail
    go_ret
    exact ⟨by show Ending.returned (Value.bool (X == (IntKind.i64.wrap (p * Y)).tmod 2879)) = _; rw [EW.out.1, EW.out.2], hbel⟩
theorem specCheckSign_any (u t p q : Int) (w : World) :
    Calls Tryd.prog 40 #[.int .i64 u, .int .i64 t, I2 p q] w fun r w' => r = .returned (.bool (M.checkB u t p q)) ∧ Below w.heap.size w w' := by
  go_enter Tryd.func40, Tryd.ntmps40
  go_wp2_with fail
  refine (l3Check_any u t _ p q _ (by go_simp) (by go_simp)).mono ?_
  rintro r w1 ⟨rfl, h1⟩
  have b1 := btr (bal (Below.refl _ w) _) h1
  clear h1
  go_wp2_with fail
  go_ret
  exact ⟨rfl, b1⟩

theorem implCheckSign_any (u t p q : Int) (w : World) (hL : Labels w) :
    Calls Tryd.prog 39 #[.int .i64 u, .int .i64 t, I2 p q] w fun r w' => r = .returned (.bool (M.checkB u t p q)) ∧ Below w.heap.size w w' := by
  cases hg : M.sigB p q
  · have E : M.checkB u t p q = false := by simp [M.checkB, hg]
    rw [E]; clear E
    go_enter Tryd.func39, Tryd.ntmps39
    go_wp2_with fail
    refine (pairOf_no p q _ hg).mono ?_
    rintro r w1 ⟨s, v, rfl, h1⟩
    go_wp2_with fail
    go_ret
    exact ⟨rfl, btr (bal (Below.refl _ w) _) h1⟩
  cases hu : pubB u
  · have E : M.checkB u t p q = false := by simp [M.checkB, hu]
    rw [E]; clear E
    go_enter Tryd.func39, Tryd.ntmps39
    go_wp2_with fail
    refine (pairOf_yes p q _ hg).mono ?_
    rintro r w1 ⟨rfl, h1⟩
    go_wp2_with fail
    refine (implIsPublic_any _ _).mono ?_
    rintro r w2 ⟨rfl, hb_w2⟩
    obtain ⟨hc_w2, hf_w2⟩ := bcell hb_w2
    have hz_w2 := hb_w2.size
    (try simp at hz_w2)
    go_wp2_with fail
    go_ret
    exact ⟨rfl, btr (btr (bal (Below.refl _ w) _) h1) hb_w2⟩
  cases ht : M.sumB t
  · have E : M.checkB u t p q = false := by simp [M.checkB, ht]
    rw [E]; clear E
    go_enter Tryd.func39, Tryd.ntmps39
    go_wp2_with fail
    refine (pairOf_yes p q _ hg).mono ?_
    rintro r w1 ⟨rfl, h1⟩
    go_wp2_with fail
    refine (implIsPublic_any _ _).mono ?_
    rintro r w2 ⟨rfl, hb_w2⟩
    obtain ⟨hc_w2, hf_w2⟩ := bcell hb_w2
    have hz_w2 := hb_w2.size
    (try simp at hz_w2)
    go_wp2_with fail
    refine (isSum_any _ _).mono ?_
    rintro r w' ⟨rfl, rfl⟩
    go_wp2_with fail
    go_ret
    exact ⟨rfl, btr (btr (bal (Below.refl _ w) _) h1) hb_w2⟩
  rw [checkB_yes hu ht hg]
  obtain ⟨p0, p1, q0, q1⟩ := M.sigB_bd hg
  obtain ⟨u0, u1⟩ := pubB_bd hu
  have hp : pubB p = true := by simp only [M.sigB, Bool.and_eq_true] at hg; exact hg.1
  have C1 := fun w hL => challenge_any u p t w hL (M.sum_of_pub hu) (M.sum_of_pub hp) ht
  have P1 := fun w => point_any p q w (by omega) (by omega)
  have P2 := fun w => proof_any p q w (by omega) (by omega)
  have Y1 := fun w => pairOf_yes p q w hg
  obtain ⟨c0, c1⟩ := M.chalN_bd u p t
  generalize M.chalN u p t = e at *
  have A1 := fun w => power_int 2879 4 q w (by omega) (by omega) (by omega) (by omega) (by omega) (by omega)
  have A2 := fun w => power_int 2879 u e w (by omega) (by omega) (by omega) (by omega) (by omega) (by omega)
  obtain ⟨x0, x1⟩ := M.pw_bd u e.toNat (m := 2879) (by omega)
  generalize M.pw 4 q.toNat 2879 = X at *
  generalize M.pw u e.toNat 2879 = Y at *
  generalize pairV p q = V at *
  go_enter Tryd.func39, Tryd.ntmps39
  go_wp2_with fail
  refine (Y1 _).mono ?_
  rintro r w1 ⟨rfl, h1⟩
  go_wp2_with fail
  refine (implIsPublic_any _ _).mono ?_
  rintro r w2 ⟨rfl, h2⟩
  have b2 := btr (btr (bal (Below.refl _ w) _) h1) h2
  clear h1 h2
  go_wp2_with fail
  refine (isSum_any _ _).mono ?_
  rintro r w' ⟨rfl, rfl⟩
  go_wp2_with fail
  refine (P1 _).mono ?_
  rintro r w' ⟨rfl, rfl⟩
  go_wp2_with fail
  refine (C1 _ (hL.on b2)).mono ?_
  rintro r w3 ⟨rfl, h3⟩
  have b3 := btr b2 h3
  clear b2 h3
  go_wp2_with fail
  refine (A2 _).mono ?_
  rintro r w4 ⟨rfl, h4⟩
  have b4 := btr b3 h4
  clear b3 h4
  go_wp2_with fail
  refine (P2 _).mono ?_
  rintro r w' ⟨rfl, rfl⟩
  go_wp2_with fail
  refine (A1 _).mono ?_
  rintro r w5 ⟨rfl, h5⟩
  have b5 := btr b4 h5
  clear b4 h5
  go_wp2_with fail
  refine (P1 _).mono ?_
  rintro r w' ⟨rfl, rfl⟩
  go_wp2_with fail
  refine (product_two 2879 p Y _ _ (by omega) (by omega) (by omega) (by omega) x0 x1 (by go_simp) (by go_simp)).mono ?_
  rintro r w6 ⟨rfl, rfl⟩
  go_wp2_with fail
  go_ret
  exact ⟨rfl, bal b5 _⟩

theorem eqSigned_any (a b : Int) (w : World) :
    Calls Tryd.prog 130 #[I2 a b, I2 a b] w fun r w' => r = .returned (.bool true) ∧ Below w.heap.size w w' := by
  go_enter Tryd.func130, Tryd.ntmps130
  go_wp2_with fail
  go_ret
  exact ⟨rfl, bal (bal (Below.refl _ _) _) _⟩
theorem eqSignR_any (a b c : Int) (w : World) :
    Calls Tryd.prog 67 #[I3 a b c, I3 a b c] w fun r w' => r = .returned (.bool true) ∧ Below w.heap.size w w' := by
  go_enter Tryd.func67, Tryd.ntmps67
  go_wp2_with fail
  refine (eqSigned_any _ _ _).mono ?_
  rintro r u1 ⟨rfl, hb_u1⟩
  obtain ⟨hc_u1, hf_u1⟩ := bcell hb_u1
  have hz_u1 := hb_u1.size
  (try simp at hz_u1)
  go_wp2_with fail
  go_ret
  exact ⟨rfl, btr (bal (bal (Below.refl _ _) _) _) hb_u1⟩
end Go.Proofs.YtjlhldndomaknaaDoor
