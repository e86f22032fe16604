/- Texts of this seat that several laws rest on, laid into one. Conditions: as each theorem states. -/
import Derived.Test.YtlodhleihnlchaaGreatDoorE2
import Derived.Test.YtlodhleihnlchaaGreatDoorE4
import Derived.Test.YtlodhleihnlchaaGreatDoorE5
namespace Go.Proofs.YtlodhleihnlchaaGreatDoor
open Go.RowKit
set_option maxRecDepth 100000

theorem kf0 (a b : Int) (w : World) : Sem.run Tryz.prog (Instr.field 119 (.agg #[.int .i64 a, .int .i64 b]) 0) w = .ok (.int .i64 a) w := by kernel_rfl
theorem kf1 (a b : Int) (w : World) : Sem.run Tryz.prog (Instr.field 119 (.agg #[.int .i64 a, .int .i64 b]) 1) w = .ok (.int .i64 b) w := by kernel_rfl

theorem l3Sign_any (s t : Int) (w : World) (hs : inB s 1 1438 = true) (ht : M.sumB t = true) :
    Calls Tryz.prog 192 #[.int .i64 s, .int .i64 t] w fun r w' => r = .returned (I2 (M.sigPt s t) (M.sigPr s t)) ∧ Below w.heap.size w w' := by
  have hs' := hs
  simp only [inB, decide_eq_true_eq] at hs'
  obtain ⟨s0, s1⟩ := hs'
  have hS := M.sum_of_sec hs
  have e1 : M.sigPt s t = M.pw 4 (M.nonceN s t).toNat 2879 := rfl
  have e2 : M.sigPr s t = (M.nonceN s t + M.chalN (M.pw 4 s.toNat 2879) (M.pw 4 (M.nonceN s t).toNat 2879) t * s) % 1439 := rfl
  rw [e1, e2]
  clear e1 e2
  obtain ⟨n0, n1⟩ := M.nonceN_bd s t
  obtain ⟨c0, c1⟩ := M.chalN_bd (M.pw 4 s.toNat 2879) (M.pw 4 (M.nonceN s t).toNat 2879) t
  obtain ⟨m0, m1⟩ := M.mul_bd (M := 1439) c0 (by omega) (show 0 ≤ s by omega) (by omega) (by omega)
  have hp1 := M.pow_sum (a := 4) s.toNat
  have hp2 := M.pow_sum (a := 4) (M.nonceN s t).toNat
  have K1 := fun w => l1Key_any s w (by omega) (by omega)
  have K2 := fun w => l1Key_any (M.nonceN s t) w (by omega) (by omega)
  generalize M.pw 4 s.toNat 2879 = U at *
  generalize M.pw 4 (M.nonceN s t).toNat 2879 = P at *
  have g0 := kf0
  have g1 := kf1
  have N1 := fun w => l3Nonce_any s t w hS ht
  generalize M.nonceN s t = n at *
  go_enter Tryz.func192, Tryz.ntmps192
  go_wp2_with fail
  refine (N1 _).mono ?_
  rintro r w1 ⟨rfl, h1⟩
  go_wp2_with fail
  refine (K2 _).mono ?_
  rintro r w2 ⟨rfl, h2⟩
  have k0 : (w2.alloc (.cells #[.int .i64 n, .int .i64 P] 119)).drew.cell? ⟨w2.heap.size, 0, none⟩ = some (.int .i64 n) := by go_simp
  have k1 : (w2.alloc (.cells #[.int .i64 n, .int .i64 P] 119)).drew.cell? ⟨w2.heap.size, 1, none⟩ = some (.int .i64 P) := by go_simp
  have hbel := (bal (btr h1 h2) (.cells #[.int .i64 n, .int .i64 P] 119)).drew
  have hR0 := Res2.new w 31
  have hb0 := bal (Below.refl _ w) (.cells #[.int .i64 0, .int .i64 0] 31)
  clear h1 h2
  go_wp2_with fail
  generalize w2.alloc (.cells #[.int .i64 n, .int .i64 P] 119) = v2 at *
  generalize w.alloc (.cells #[.int .i64 0, .int .i64 0] 31) = W0 at *
  go_region_held3 (fun w' => w'.cell? ⟨w2.heap.size, 1, none⟩ = some (.int .i64 P)) (first | exact k1) (first | (go_at_call 187; refine (K1 _).mono ?_; rintro r wn ⟨rfl, hbn⟩; have pk := cell_keep hbn k0; clear k0; have k0 := pk; clear pk; have pk := cell_keep hbn k1; clear k1; have k1 := pk; clear pk; have bk := btr hbel hbn; clear hbel; have hbel := bk; clear bk hbn) | (go_at_call 259; refine (l3Challenge_any _ _ _ _ hp1 hp2 ht).mono ?_; rintro r wn ⟨rfl, hbn⟩; have pk := cell_keep hbn k0; clear k0; have k0 := pk; clear pk; have pk := cell_keep hbn k1; clear k1; have k1 := pk; clear pk; have bk := btr hbel hbn; clear hbel; have hbel := bk; clear bk hbn))
  all_goals
    obtain ⟨q0, q1, z0, z1⟩ := hR0.on hbel
    go_wp2_with fail
    exact bodyPost_ret (v := I2 P ((n + M.chalN U P t * s) % 1439)) (by simp [results, Tryz.results192, go_sem, q0, q1]) rfl ⟨rfl, bset (bset (btr hb0 hbel) (Nat.le_refl _) _) (Nat.le_refl _) _⟩

theorem checkB_yes {u t p q : Int} (hu : pubB u = true) (ht : M.sumB t = true) (hg : M.sigB p q = true) : M.checkB u t p q = (M.pw 4 q.toNat 2879 == p * M.pw u (M.chalN u p t).toNat 2879 % 2879) := by
  simp only [M.checkB, hu, ht, hg, Bool.and_self, Bool.true_and]

theorem l3Check_at (u t : Int) (g o : Nat) (p q : Int) (w : World) (d0 : w.cell? ⟨g, o, none⟩ = some (.int .i64 p)) (d1 : w.cell? ⟨g, o + 1, none⟩ = some (.int .i64 q)) :
    Calls Tryz.prog 255 #[.int .i64 u, .int .i64 t, .pointer (some ⟨g, o, none⟩)] w fun r w' => r = .returned (.bool (M.checkB u t p q)) ∧ Below w.heap.size w w' := by
  cases hu : pubB u
  · have E : M.checkB u t p q = false := by simp [M.checkB, hu]
    rw [E]; clear E
    go_enter Tryz.func255, Tryz.ntmps255
    go_wp2_with fail
    refine (l1Public_any _ _).mono ?_
    rintro r w' ⟨rfl, rfl⟩
    go_wp2_with fail
    go_ret
    exact ⟨rfl, Below.refl _ _⟩
  cases ht : M.sumB t
  · have E : M.checkB u t p q = false := by simp [M.checkB, ht]
    rw [E]; clear E
    go_enter Tryz.func255, Tryz.ntmps255
    go_wp2_with fail
    refine (l1Public_any _ _).mono ?_
    rintro r w' ⟨rfl, rfl⟩
    go_wp2_with fail
    refine (l2Is_any _ _).mono ?_
    rintro r w' ⟨rfl, rfl⟩
    go_wp2_with fail
    go_ret
    exact ⟨rfl, Below.refl _ _⟩
  cases hg : M.sigB p q
  · have E : M.checkB u t p q = false := by simp [M.checkB, hg]
    have F : M.sigF p q = 3 := by simp [M.sigF, hg]
    rw [E]; clear E
    have F1 := l3Fault_at g o p q w d0 d1
    rw [F] at F1
    go_enter Tryz.func255, Tryz.ntmps255
    go_wp2_with fail
    refine (l1Public_any _ _).mono ?_
    rintro r w' ⟨rfl, rfl⟩
    go_wp2_with fail
    refine (l2Is_any _ _).mono ?_
    rintro r w' ⟨rfl, rfl⟩
    go_wp2_with fail
    refine (F1).mono ?_
    rintro r w' ⟨rfl, rfl⟩
    go_wp2_with fail
    go_ret
    exact ⟨rfl, Below.refl _ _⟩
  rw [checkB_yes hu ht hg]
  have F : M.sigF p q = 0 := by simp [M.sigF, hg]
  have F1 := l3Fault_at g o p q w d0 d1
  rw [F] at F1
  clear F
  obtain ⟨p0, p1, q0, q1⟩ := M.sigB_bd hg
  obtain ⟨u0, u1⟩ := pubB_bd hu
  have hp : pubB p = true := by simp only [M.sigB, Bool.and_eq_true] at hg; exact hg.1
  have C1 := fun w => l3Challenge_any u p t w (M.sum_of_pub hu) (M.sum_of_pub hp) ht
  obtain ⟨c0, c1⟩ := M.chalN_bd u p t
  generalize M.chalN u p t = e at *
  have A1 := fun w => l1Raise_int 4 q w (by omega) (by omega) (by omega) (by omega)
  have A2 := fun w => l1Raise_int u e w (by omega) (by omega) (by omega) (by omega)
  obtain ⟨x0, x1⟩ := M.pw_bd u e.toNat (m := 2879) (by omega)
  obtain ⟨m0, m1⟩ := M.mul_bd (M := 2879) (show 0 ≤ p by omega) (by omega) x0 x1 (by omega)
  generalize M.pw 4 q.toNat 2879 = X at *
  generalize M.pw u e.toNat 2879 = Y at *
  have EW := Lib.hid (show IntKind.i64.wrap (p * Y) = p * Y ∧ (p * Y).tmod 2879 = p * Y % 2879 from ⟨by rw [IntKind.wrap_i64]; omega, Int.tmod_eq_emod_of_nonneg m0⟩)
  go_enter Tryz.func255, Tryz.ntmps255
  go_wp2_with fail
  refine (l1Public_any _ _).mono ?_
  rintro r w' ⟨rfl, rfl⟩
  go_wp2_with fail
  refine (l2Is_any _ _).mono ?_
  rintro r w' ⟨rfl, rfl⟩
  go_wp2_with fail
  refine (F1).mono ?_
  rintro r w' ⟨rfl, rfl⟩
  go_wp2_with fail
  refine (C1 _).mono ?_
  rintro r w1 ⟨rfl, h1⟩
  have k0 : w1.drew.cell? ⟨g, o, none⟩ = some (.int .i64 p) := cell_keep h1 d0
  have k1 : w1.drew.cell? ⟨g, o + 1, none⟩ = some (.int .i64 q) := cell_keep h1 d1
  have hbel : Below w.heap.size w w1.drew := h1.drew
  clear h1 d0 d1 F1
  go_wp2_with fail
  go_region_held3 (fun w' => w'.cell? ⟨g, o, none⟩ = some (.int .i64 p) ∧ w'.cell? ⟨g, o + 1, none⟩ = some (.int .i64 q)) (first | exact ⟨k0, k1⟩) (first | (go_at_call 251; refine (A1 _).mono ?_; rintro r wn ⟨rfl, rfl⟩) | (go_at_call 251; refine (A2 _).mono ?_; rintro r wn ⟨rfl, rfl⟩))
  all_goals
    go_wp2_with fail
    go_ret
    exact ⟨by show Ending.returned (Value.bool (X == (IntKind.i64.wrap (p * Y)).tmod 2879)) = _; rw [EW.out.1, EW.out.2], hbel⟩
theorem implCheckSign_any (u t p q : Int) (w : World) (hL : Labels w) :
    Calls Tryz.prog 80 #[.int .i64 u, .int .i64 t, I2 p q] w fun r w' => r = .returned (.bool (M.checkB u t p q)) ∧ Below w.heap.size w w' := by
  cases hg : M.sigB p q
  · have E : M.checkB u t p q = false := by simp [M.checkB, hg]
    rw [E]; clear E
    go_enter Tryz.func80, Tryz.ntmps80
    go_wp2_with fail
    refine (pairOf_no p q _ hg).mono ?_
    rintro r w1 ⟨s, v, rfl, h1⟩
    go_wp2_with fail
    go_ret
    exact ⟨rfl, btr (bal (Below.refl _ w) _) h1⟩
  cases hu : pubB u
  · have E : M.checkB u t p q = false := by simp [M.checkB, hu]
    rw [E]; clear E
    go_enter Tryz.func80, Tryz.ntmps80
    go_wp2_with fail
    refine (pairOf_yes p q _ hg).mono ?_
    rintro r w1 ⟨rfl, h1⟩
    go_wp2_with fail
    refine (implIsPublic_any _ _).mono ?_
    rintro r w2 ⟨rfl, hb_w2⟩
    obtain ⟨hc_w2, hf_w2⟩ := bcell hb_w2
    have hz_w2 := hb_w2.size
    (try simp at hz_w2)
    go_wp2_with fail
    go_ret
    exact ⟨rfl, btr (btr (bal (Below.refl _ w) _) h1) hb_w2⟩
  cases ht : M.sumB t
  · have E : M.checkB u t p q = false := by simp [M.checkB, ht]
    rw [E]; clear E
    go_enter Tryz.func80, Tryz.ntmps80
    go_wp2_with fail
    refine (pairOf_yes p q _ hg).mono ?_
    rintro r w1 ⟨rfl, h1⟩
    go_wp2_with fail
    refine (implIsPublic_any _ _).mono ?_
    rintro r w2 ⟨rfl, hb_w2⟩
    obtain ⟨hc_w2, hf_w2⟩ := bcell hb_w2
    have hz_w2 := hb_w2.size
    (try simp at hz_w2)
    go_wp2_with fail
    refine (isSum_any _ _).mono ?_
    rintro r w' ⟨rfl, rfl⟩
    go_wp2_with fail
    go_ret
    exact ⟨rfl, btr (btr (bal (Below.refl _ w) _) h1) hb_w2⟩
  rw [checkB_yes hu ht hg]
  obtain ⟨p0, p1, q0, q1⟩ := M.sigB_bd hg
  obtain ⟨u0, u1⟩ := pubB_bd hu
  have hp : pubB p = true := by simp only [M.sigB, Bool.and_eq_true] at hg; exact hg.1
  have C1 := fun w hL => challenge_any u p t w hL (M.sum_of_pub hu) (M.sum_of_pub hp) ht
  have P1 := fun w => point_any p q w (by omega) (by omega)
  have P2 := fun w => proof_any p q w (by omega) (by omega)
  have Y1 := fun w => pairOf_yes p q w hg
  obtain ⟨c0, c1⟩ := M.chalN_bd u p t
  generalize M.chalN u p t = e at *
  have A1 := fun w => power_int 2879 4 q w (by omega) (by omega) (by omega) (by omega) (by omega) (by omega)
  have A2 := fun w => power_int 2879 u e w (by omega) (by omega) (by omega) (by omega) (by omega) (by omega)
  obtain ⟨x0, x1⟩ := M.pw_bd u e.toNat (m := 2879) (by omega)
  generalize M.pw 4 q.toNat 2879 = X at *
  generalize M.pw u e.toNat 2879 = Y at *
  generalize pairV p q = V at *
  go_enter Tryz.func80, Tryz.ntmps80
  go_wp2_with fail
  refine (Y1 _).mono ?_
  rintro r w1 ⟨rfl, h1⟩
  go_wp2_with fail
  refine (implIsPublic_any _ _).mono ?_
  rintro r w2 ⟨rfl, h2⟩
  have b2 := btr (btr (bal (Below.refl _ w) _) h1) h2
  clear h1 h2
  go_wp2_with fail
  refine (isSum_any _ _).mono ?_
  rintro r w' ⟨rfl, rfl⟩
  go_wp2_with fail
  refine (P1 _).mono ?_
  rintro r w' ⟨rfl, rfl⟩
  go_wp2_with fail
  refine (C1 _ (hL.on b2)).mono ?_
  rintro r w3 ⟨rfl, h3⟩
  have b3 := btr b2 h3
  clear b2 h3
  go_wp2_with fail
  refine (A2 _).mono ?_
  rintro r w4 ⟨rfl, h4⟩
  have b4 := btr b3 h4
  clear b3 h4
  go_wp2_with fail
  refine (P2 _).mono ?_
  rintro r w' ⟨rfl, rfl⟩
  go_wp2_with fail
  refine (A1 _).mono ?_
  rintro r w5 ⟨rfl, h5⟩
  have b5 := btr b4 h5
  clear b4 h5
  go_wp2_with fail
  refine (P1 _).mono ?_
  rintro r w' ⟨rfl, rfl⟩
  go_wp2_with fail
  refine (product_two 2879 p Y _ _ (by omega) (by omega) (by omega) (by omega) x0 x1 (by go_simp) (by go_simp)).mono ?_
  rintro r w6 ⟨rfl, rfl⟩
  go_wp2_with fail
  go_ret
  exact ⟨rfl, bal b5 _⟩

end Go.Proofs.YtlodhleihnlchaaGreatDoor
namespace Go.Proofs.YtlodhleihnlchaaGreatDoor
open Go.RowKit
set_option maxRecDepth 100000
set_option linter.unusedVariables false

end Go.Proofs.YtlodhleihnlchaaGreatDoor
namespace Go.Proofs.YtlodhleihnlchaaGreatDoor
open Go.RowKit
set_option maxRecDepth 100000
set_option linter.unusedVariables false

theorem replyHeadOf_any (r s p x y f : Int) (w : World) (hr : M.sumB r = true) (hs : M.sumB s = true) (hp : M.sumB p = true) :
    Calls Tryz.prog 200 #[R6 r s p x y f] w (Made (frontR r s p) w) := by
  have b0 := bal (bal (Below.refl _ w) (.cells #[.int .i64 r, .int .i64 s, .int .i64 p, .int .i64 x, .int .i64 y, .int .i64 f] 33)) (.cells #[.int .i64 r, .int .i64 s, .int .i64 p] 2)
  have R2 := row_three (w := w.alloc (.cells #[.int .i64 r, .int .i64 s, .int .i64 p, .int .i64 x, .int .i64 y, .int .i64 f] 33)) r s p 2 hr hs hp
  simp only [World.size_alloc] at R2
  have lt2 : w.heap.size + 1 + 1 ≤ ((w.alloc (.cells #[.int .i64 r, .int .i64 s, .int .i64 p, .int .i64 x, .int .i64 y, .int .i64 f] 33)).alloc (.cells #[.int .i64 r, .int .i64 s, .int .i64 p] 2)).heap.size := by simp
  have hall : [r, s, p].all M.sumB = true := by simp [hr, hs, hp]
  clear hr hs hp
  go_enter Tryz.func200, Tryz.ntmps200
  go_wp2_with fail
  generalize (w.alloc (.cells #[.int .i64 r, .int .i64 s, .int .i64 p, .int .i64 x, .int .i64 y, .int .i64 f] 33)).alloc (.cells #[.int .i64 r, .int .i64 s, .int .i64 p] 2) = W0 at *
  refine (wordHead_any 2 _ 3 3 _ [r, s, p] _ R2 lt2 hall (by omega)).mono ?_
  rintro e u1 ⟨a, n, c, rfl, O', b1⟩
  have O : OwnK .u8 u1 W0.heap.size (.slice a n c) (frontR r s p) := O'
  have HT := Lib.hid (And.intro (O.less b0.size) (btr b0 b1))
  clear O O' b1 b0 R2 lt2 hall
  go_wp2_with fail
  go_ret
  exact ⟨_, _, _, rfl, HT.out.1, HT.out.2⟩
end Go.Proofs.YtlodhleihnlchaaGreatDoor
namespace Go.Proofs.YtlodhleihnlchaaGreatDoor
open Go.RowKit
set_option maxRecDepth 100000
set_option linter.unusedVariables false

theorem l6Front_any (g : Nat) (r s p x y f : Int) (w : World) (hA : At g (RL6 r s p x y f) w) (hr : M.sumB r = true) (hs : M.sumB s = true) (hp : M.sumB p = true) :
    Calls Tryz.prog 193 #[.pointer (some ⟨g, 0, none⟩)] w (Made (frontR r s p) w) := by
  obtain ⟨i0, hi0, hz0, hz1, hz2⟩ := info_parts u8_info
  have d0 := hA.cell 0 _ rfl
  have d1 := hA.cell 1 _ rfl
  have d2 := hA.cell 2 _ rfl
  have d3 := hA.cell 3 _ rfl
  have d4 := hA.cell 4 _ rfl
  have d5 := hA.cell 5 _ rfl
  have b1 := bal (Below.refl _ w) (.cells #[.int .u8 2] 5)
  have ltg := hA.lt (by simp)
  have O1 : OwnK .u8 (w.alloc (.cells #[.int .u8 2] 5)) w.heap.size (.slice (some ⟨w.heap.size, 0, none⟩) 1 1) [2] := own_lit (k := .u8) w [2] 1 5 (Nat.le_refl _) rfl (by simp only [maxLen]; omega)
  go_enter Tryz.func193, Tryz.ntmps193
  go_wp2_with fail
  generalize w.alloc (.cells #[.int .u8 2] 5) = W1 at *
  refine (l1Two_any r _ hr).mono ?_
  rintro e w2 ⟨rfl, rfl⟩
  have O2 := Own.alloc O1 (.cells #[.int .u8 (r / 256), .int .u8 (r % 256)] 5)
  have b2 := bal b1 (.cells #[.int .u8 (r / 256), .int .u8 (r % 256)] 5)
  have hle := b2.size
  have hsrc := src_new (P := Tryz.prog) W1 [.int .u8 (r / 256), .int .u8 (r % 256)] 2 2 5 22 5 Tryz.underlying22 rfl (ints_oneCell .u8 [r / 256, r % 256])
  go_wp2_with (at_builtin; refine wpList_append_src _ rfl (.tmp 4) (.tmp 9) 22 22 rfl w.heap.size 5 i0 (.int .u8 0) 1 1 Tryz.underlying22 hi0 hz0 hz1 hz2 rfl _ 1 [.int .u8 2] rfl O2 _ 2 _ rfl hsrc (by simp only [maxLen]; omega) (by omega) hle ?_; intro v3 w3 hown hgrow hat)
  have b3 : Below w.heap.size w w3 := Own.grown O2 b2 hle hgrow
  have O3 : OwnK .u8 w3.drew w.heap.size v3 ([2] ++ M.two r) := by unfold OwnK; simpa [M.two] using hown.drew
  clear O1 O2 b1 b2 hle hsrc hown hgrow hat
  have S0 : Bel w w3.drew := ⟨b3.drew⟩
  refine wp_region_line (Bel w) [(0, true), (1, true), (2, true), (3, true), (4, true), (7, true), (8, true), (9, true), (10, true), (5, false), (6, false), (11, false), (12, false), (13, true)] (by kernel_rfl) (by kernel_rfl) (fun _ _ d _ _ h => by cases d <;> exact h) S0 ?_
  have inst : Nonempty (Of (Bel w)) := ⟨⟨_, S0⟩⟩
  have u1 := bel_cell d1
  have u2 := bel_cell d2
  clear b3 d0 d1 d2 d3 d4 d5
  generalize w3.drew = V1 at *
  iterate 9 (refine line_read rfl (by kernel_rfl) (fun K hK => ?_); go_big_quiet_op; refine hK _ ?_; clear hK K)
  clear u1 u2
  refine line_alone rfl (by kernel_rfl) (fun K hK => ?_)
  refine call_any (args := #[.int .i64 s]) rfl (by kernel_rfl) (by kernel_rfl) (l1Two_any s _ hs) ?_
  rintro e _ ⟨rfl, rfl⟩
  have st5 := S0.on (bal (Below.refl _ V1) (.cells #[.int .u8 (s / 256), .int .u8 (s % 256)] 5))
  have O5 : OwnK .u8 (V1.alloc (.cells #[.int .u8 (s / 256), .int .u8 (s % 256)] 5)) w.heap.size v3 ([2] ++ M.two r) := Own.alloc O3 _
  have T5 := two_own V1 s
  refine ⟨_, rfl, hK _ _ st5 ?_⟩
  clear hK K
  simp only [Act.put, List.setIfInBounds_toArray, List.set_cons_zero, List.set_cons_succ]
  refine line_alone rfl (by kernel_rfl) (fun K hK => ?_)
  refine wp_append_src _ (.tmp 11) (.tmp 16) 22 22 rfl w.heap.size 5 i0 (.int .u8 0) 1 1 Tryz.underlying22 hi0 hz0 hz1 hz2 rfl _ _ _ rfl O5 _ 2 _ rfl (T5.src6 (two_byte hs)) (by simp only [maxLen, M.two, List.length_append, List.length_cons, List.length_nil]; omega) (by simp only [M.two, List.length_append, List.length_cons, List.length_nil]; omega) st5.out.size (fun v5 w5 hown hgrow hat => ?_)
  have b5 : Below w.heap.size w w5 := Own.grown O5 st5.out st5.out.size hgrow
  have P5 : OwnK .u8 w5 w.heap.size v5 ([2] ++ M.two r ++ M.two s) := by
    unfold OwnK
    rw [List.length_append, List.map_append]
    exact hown
  have S5 : Bel w w5 := ⟨b5⟩
  refine hK _ _ S5 ?_
  clear hK K hown hgrow hat O5 T5 st5 O3 S0 b5
  simp only [Act.put, List.setIfInBounds_toArray, List.set_cons_zero, List.set_cons_succ]
  refine line_alone rfl (by kernel_rfl) (fun K hK => ?_)
  refine call_any (args := #[.int .i64 p]) rfl (by kernel_rfl) (by kernel_rfl) (l1Two_any p _ hp) ?_
  rintro e _ ⟨rfl, rfl⟩
  have st6 := S5.on (bal (Below.refl _ w5) (.cells #[.int .u8 (p / 256), .int .u8 (p % 256)] 5))
  have O6 : OwnK .u8 (w5.alloc (.cells #[.int .u8 (p / 256), .int .u8 (p % 256)] 5)) w.heap.size v5 ([2] ++ M.two r ++ M.two s) := Own.alloc P5 _
  have T6 := two_own w5 p
  refine ⟨_, rfl, hK _ _ st6 ?_⟩
  clear hK K
  simp only [Act.put, List.setIfInBounds_toArray, List.set_cons_zero, List.set_cons_succ]
  refine line_alone rfl (by kernel_rfl) (fun K hK => ?_)
  refine wp_append_src _ (.tmp 17) (.tmp 22) 22 22 rfl w.heap.size 5 i0 (.int .u8 0) 1 1 Tryz.underlying22 hi0 hz0 hz1 hz2 rfl _ _ _ rfl O6 _ 2 _ rfl (T6.src6 (two_byte hp)) (by simp only [maxLen, M.two, List.length_append, List.length_cons, List.length_nil]; omega) (by simp only [M.two, List.length_append, List.length_cons, List.length_nil]; omega) st6.out.size (fun v6 w6 hown hgrow hat => ?_)
  have b6 : Below w.heap.size w w6 := Own.grown O6 st6.out st6.out.size hgrow
  have P6 : OwnK .u8 w6 w.heap.size v6 ([2] ++ M.two r ++ M.two s ++ M.two p) := by
    unfold OwnK
    rw [List.length_append, List.map_append]
    exact hown
  have S6 : Bel w w6 := ⟨b6⟩
  refine hK _ _ S6 ?_
  clear hK K hown hgrow hat O6 T6 st6 P5 S5 b6
  simp only [Act.put, List.setIfInBounds_toArray, List.set_cons_zero, List.set_cons_succ]
  obtain ⟨a7, c7, hv7, -⟩ := P6.form
  have HT := Lib.hid (And.intro (show OwnK .u8 w6 w.heap.size v6 (frontR r s p) from P6) S6.out)
  clear P6 S6
  subst hv7
  iterate 1 (refine line_read rfl (by kernel_rfl) (fun K hK => ?_); go_big_quiet_op; refine hK _ ?_; clear hK K)
  refine line_nil ?_
  go_wp2_with fail
  go_ret
  exact ⟨_, _, _, rfl, HT.out.1, HT.out.2⟩

end Go.Proofs.YtlodhleihnlchaaGreatDoor
namespace Go.Proofs.YtlodhleihnlchaaGreatDoor
open Go.RowKit
set_option maxRecDepth 100000

structure Grid (w : World) (B : Nat) (a : Option Addr) (len cap : Nat) (zss : List (List Int)) : Prop where
  length : zss.length = len
  fits : len ≤ cap
  most : cap ≤ maxLen
  cells : 0 < len → ∃ b off, a = some ⟨b, off, none⟩ ∧ b < B ∧ ∀ j, j < len → ∃ a' n' c', w.cell? ⟨b, off + j, none⟩ = some (.slice a' n' c') ∧ Row .u8 w B a' n' c' (zss[j]?.getD [])
section
variable {w w' : World} {B B' : Nat} {a : Option Addr} {len cap : Nat} {zss : List (List Int)}
theorem Grid.keep (h : Grid w B a len cap zss) (hk : ∀ i, i < B → w'.heap[i]? = w.heap[i]?) : Grid w' B a len cap zss :=
  ⟨h.length, h.fits, h.most, fun hp => by
    obtain ⟨b, off, e, hb, hc⟩ := h.cells hp
    refine ⟨b, off, e, hb, fun j hj => ?_⟩
    obtain ⟨a', n', c', h1, h2⟩ := hc j hj
    exact ⟨a', n', c', (World.cell?_of_block (w := w) (hk b hb)).trans h1, h2.keep hk⟩⟩
theorem Grid.below (h : Grid w B a len cap zss) (hb : Below B w w') : Grid w' B a len cap zss := h.keep hb.block
theorem Grid.more (h : Grid w B a len cap zss) (hB : B ≤ B') : Grid w B' a len cap zss :=
  ⟨h.length, h.fits, h.most, fun hp => by
    obtain ⟨b, off, e, hb, hc⟩ := h.cells hp
    refine ⟨b, off, e, by omega, fun j hj => ?_⟩
    obtain ⟨a', n', c', h1, h2⟩ := hc j hj
    exact ⟨a', n', c', h1, h2.more hB⟩⟩
theorem Grid.on (h : Grid w w.heap.size a len cap zss) (hb : Below w.heap.size w w') : Grid w' w'.heap.size a len cap zss := (h.below hb).more hb.size
theorem Grid.alloc (h : Grid w B a len cap zss) (hB : B ≤ w.heap.size) (o : Obj) : Grid (w.alloc o) B a len cap zss := h.below ((Below.refl B w).alloc hB o)
end

def HeardRel (W : World) (zss : List (List Int)) (k : Nat) (v : Value) (wr : World) : Prop := OwnK .i64 wr W.heap.size v ((zss.take k).map M.sumL) ∧ Below W.heap.size W wr
theorem HeardRel.step {W wr w1 w2 : World} {zss : List (List Int)} {k : Nat} {v v' : Value} {o : Obj} (h : HeardRel W zss k v wr) (hk : k < zss.length) (hb : Below wr.heap.size wr w1)
    (ho : Own w2 W.heap.size 1 v' (((zss.take k).map M.sumL).length + 1) (((zss.take k).map M.sumL).map (Value.int .i64) ++ [.int .i64 (M.sumL (zss[k]?.getD []))])) (hg : (w1.alloc o).grownBy w2 v.ownBlock) : HeardRel W zss (k + 1) v' w2 := by
  refine ⟨?_, ?_⟩
  · unfold OwnK
    rw [← M.map_take_snoc M.sumL zss [] k hk]
    simpa using ho
  · have h1 : Below W.heap.size W (w1.alloc o) := bal (btr h.2 hb) o
    have h2 : Own (w1.alloc o) W.heap.size 1 v _ _ := (h.1.below hb).alloc o
    exact h2.grown h1 h1.size hg
theorem HeardRel.row {W wr : World} {zss : List (List Int)} {v : Value} (h : HeardRel W zss zss.length v wr) : ∃ a n c, v = .slice a n c ∧ n = zss.length ∧ Row .i64 wr wr.heap.size a n c (zss.map M.sumL) := by
  obtain ⟨ho, _⟩ := h
  rw [List.take_length] at ho
  obtain ⟨a, c, rfl, _⟩ := ho.form
  exact ⟨a, _, c, rfl, by simp, Own.row ho fun b hb => by
    obtain ⟨zs, _, rfl⟩ := List.mem_map.1 hb
    have := M.sumL_bd zs
    exact sum_wf (by simp [M.sumB]; omega)⟩

theorem l2Heard_any (a : Option Addr) (len cap B : Nat) (zss : List (List Int)) (w : World) (hG : Grid w B a len cap zss) (hB : B ≤ w.heap.size) (hl : len ≤ 10) :
    Calls Tryz.prog 201 #[.slice a len cap] w fun r w' => r = .returned (.int .i64 (M.heardL zss)) ∧ Below w.heap.size w w' := by
  obtain ⟨i0, hi0, hz0, hz1, hz2⟩ := info_parts i64_info
  have T0 : HeardRel w zss 0 (.slice (some ⟨w.heap.size, 0, none⟩) 0 0) (w.alloc (.cells #[] 2)) := ⟨own_empty w 2, bal (Below.refl _ _) _⟩
  have hL := Lib.hid hG.length
  go_enter Tryz.func201, Tryz.ntmps201
  go_wp2_with fail
  generalize w.alloc (.cells #[] 2) = W1 at *
  go_loopw [3, 4] (fun v i wr => ∃ k : Nat, k ≤ len ∧ i = .int .i64 k ∧ HeardRel w zss k v wr) (fun _ i _ => len - (intOf i).toNat)
  case atStart => exact ⟨0, Nat.zero_le _, rfl, T0⟩
  case round =>
    obtain ⟨k, hk, rfl, hT⟩ := hrel
    by_cases hlt : k < len
    · obtain ⟨b, off, ha, hb, hc⟩ := (hG.below (hT.2.mono hB)).cells (by omega)
      obtain ⟨a', n', c', hcell, hrow⟩ := hc k hlt
      clear hc
      subst ha
      have hlen : ((zss.take k).map M.sumL).length ≤ 10 := by simp; omega
      have hsz := hT.2.size
      go_wp2_with fail
      refine (l2Sum_any _ _ _ _ _ _ hrow).mono ?_
      rintro r w2 ⟨rfl, rfl⟩
      go_wp2_with (at_builtin; refine wpList_append_src _ rfl (.tmp 12) (.tmp 18) 175 175 rfl w.heap.size 2 i0 (.int .i64 0) 1 8 Tryz.underlying175 hi0 hz0 hz1 hz2 rfl _ _ _ rfl (hT.1.alloc _) _ 1 [.int .i64 (M.sumL (zss[k]?.getD []))] rfl (src_new wr _ 1 1 _ _ _ Tryz.underlying175 rfl (ints_oneCell .i64 [M.sumL (zss[k]?.getD [])])) (by simp only [maxLen]; omega) (by omega) (by simp; omega) ?_; intro v3 w3 hown hgrow hat)
      have T2 := hT.step (by rw [hL.out]; exact hlt) (Below.refl _ _) hown hgrow
      clear hown hgrow hat hT hcell hrow hlen
      go_wp2_with fail
      go_roundw
      case rel => exact ⟨k + 1, by omega, by go_num, T2⟩
      case measure => simp [intOf]; omega
    · obtain rfl : k = len := by omega
      have hT' := hT
      rw [← hL.out] at hT'
      obtain ⟨a', n', c', hv, hn, hrow⟩ := hT'.row
      have hb := Lib.hid hT.2
      have HN := Lib.hid hn
      clear hT hT' hn
      subst hv
      go_wp2_with fail
      refine (l2Tag_any M.heardS _ _ _ _ _ _ (by decide) hrow (Nat.le_refl _) (M.sums_ok _) (by rw [HN.out, hL.out]; omega)).mono ?_
      rintro r w' ⟨rfl, hb2⟩
      have hbb := btr hb.out hb2
      clear hrow hb2
      go_wp2_with fail
      go_ret
      exact ⟨rfl, hbb⟩

theorem src_new2 {P : Program} (w : World) (o : Obj) (vs : List Value) (m c : Nat) (t tx e' : TypeId) (hk : P.underlying tx = some (.slice e')) (hm : vs.length = m) (h1 : ∀ u ∈ vs, u.oneCell' = true) :
    Go.Src P 1 tx (.slice (some ⟨w.heap.size + 1, 0, none⟩) m c) m vs ((w.alloc o).alloc (.cells vs.toArray t)) := by
  have := src_new (P := P) (w.alloc o) vs m c t tx e' hk hm h1
  rwa [show (w.alloc o).heap.size = w.heap.size + 1 by simp] at this

theorem implTranscript_any (a : Option Addr) (len cap B : Nat) (zss : List (List Int)) (w : World) (lab : Labels w) (hG : Grid w B a len cap zss) (hB : B ≤ w.heap.size) :
    Calls Tryz.prog 30 #[.slice a len cap] w fun r w' => r = .returned (I2 (M.heardR zss).1 (M.heardR zss).2) ∧ Below w.heap.size w w' := by
  have hlen := hG.fits
  have hmost := hG.most
  unfold maxLen at hmost
  have hL := Lib.hid hG.length
  by_cases h : 10 < len
  · have E : M.heardR zss = (2, 0) := by simp [M.heardR, hL.out, h]
    rw [E]; clear E
    go_enter Tryz.func30, Tryz.ntmps30
    go_wp2_with fail
    exact bodyPost_ret (v := I2 2 0) (by simp [results, Tryz.results30, go_sem]) rfl ⟨rfl, bal (Below.refl _ _) _⟩
  obtain ⟨i0, hi0, hz0, hz1, hz2⟩ := info_parts i64_info
  have hmk : ∀ W : World, (Instr.makeSlice 175 (.int .i64 0) (.int .i64 (len : Int))).run Tryz.prog W = .ok (.slice (some ⟨W.heap.size, 0, none⟩) 0 len) (W.alloc (.cells (madeCells #[.int .i64 0] len) 2)) := by
    intro W
    have := run_make (P := Tryz.prog) W 175 2 i0 (.int .i64 0) Tryz.underlying175 hi0 hz0 .i64 .i64 0 len (by omega) (by omega) (by rw [hz2]; omega) (by omega)
    simpa [hz1, Value.cells] using this
  have T0 : HeardRel (w.alloc (.cells #[.int .i64 0, .int .i64 0] 49)) zss 0 (.slice (some ⟨w.heap.size + 1, 0, none⟩) 0 len) ((w.alloc (.cells #[.int .i64 0, .int .i64 0] 49)).alloc (.cells (madeCells #[.int .i64 0] len) 2)) := by
    refine ⟨?_, bal (Below.refl _ _) _⟩
    have := Own.made (size := 1) (B := w.heap.size + 1) (w.alloc (.cells #[.int .i64 0, .int .i64 0] 49)) (madeCells #[.int .i64 0] len) 2 len (by simp) (by simp only [maxLen]; omega) (by rw [size_madeCells]; omega)
    simpa [OwnK] using this
  have hG1 := (hG.alloc hB (.cells #[.int .i64 0, .int .i64 0] 49))
  have hL1 := lab.on (bal (Below.refl _ _) (.cells #[.int .i64 0, .int .i64 0] 49))
  have r0 : (w.alloc (.cells #[.int .i64 0, .int .i64 0] 49)).cell? ⟨w.heap.size, 0, none⟩ = some (.int .i64 0) := by go_simp
  have r1 : (w.alloc (.cells #[.int .i64 0, .int .i64 0] 49)).cell? ⟨w.heap.size, 1, none⟩ = some (.int .i64 0) := by go_simp
  have f0 : (w.alloc (.cells #[.int .i64 0, .int .i64 0] 49)).frozen? ⟨w.heap.size, 0, none⟩ = false := by go_simp
  have f1 : (w.alloc (.cells #[.int .i64 0, .int .i64 0] 49)).frozen? ⟨w.heap.size, 1, none⟩ = false := by go_simp
  have hb0 := bal (Below.refl _ w) (.cells #[.int .i64 0, .int .i64 0] 49)
  have hltW : w.heap.size < (w.alloc (.cells #[.int .i64 0, .int .i64 0] 49)).heap.size := by simp
  cases hA : zss.any M.longB
  · have E := M.heardR_tag zss (by rw [hL.out]; omega) hA
    have HE := Lib.hid E
    have HA := Lib.hid hA
    clear hA E hG lab
    go_enter Tryz.func30, Tryz.ntmps30
    go_wp2_with fail
    generalize w.alloc (.cells #[.int .i64 0, .int .i64 0] 49) = W at *
    generalize W.alloc (.cells (madeCells #[.int .i64 0] len) 2) = W1 at *
    go_loopw [3, 16] (fun v i wr => ∃ k : Nat, k ≤ len ∧ i = .int .i64 k ∧ HeardRel W zss k v wr) (fun _ i _ => len - (intOf i).toNat)
    case atStart => exact ⟨0, Nat.zero_le _, rfl, T0⟩
    case round =>
      obtain ⟨k, hk, rfl, hT⟩ := hrel
      by_cases hlt : k < len
      · obtain ⟨b, off, ha, hb, hc⟩ := (hG1.below (hT.2.mono (by omega))).cells (by omega)
        obtain ⟨a', n', c', hcell, hrow⟩ := hc k hlt
        have hl2 : k < zss.length := by rw [hL.out]; exact hlt
        have hsum : M.sumR (zss[k]?.getD []) = (0, M.sumL (zss[k]?.getD [])) := by
          have := List.any_eq_false.1 HA.out (zss[k]?.getD []) (by simp [hl2])
          simp only [M.longB, decide_eq_true_eq] at this
          simp only [M.sumR, this, if_false]
        have HL2 := Lib.hid hl2
        clear hc hl2
        subst ha
        have hlen : ((zss.take k).map M.sumL).length ≤ 10 := by simp; omega
        have hsz := hT.2.size
        go_wp2_with fail
        refine (implSumOf_any _ _ _ _ _ _ hrow (by omega)).mono ?_
        rintro r w2 ⟨rfl, hb2⟩
        have hsz2 := hb2.size
        have hO2 := (hT.1.below hb2).alloc (.cells #[.int .i64 0, .int .i64 (M.sumL (zss[k]?.getD []))] 49)
        have HB2 := Lib.hid (bal hb2 (.cells #[.int .i64 0, .int .i64 (M.sumL (zss[k]?.getD []))] 49))
        clear hb2 hrow hcell
        go_wp2_with (at_builtin; refine wpList_append_src _ rfl (.tmp 26) (.tmp 29) 175 175 rfl W.heap.size 2 i0 (.int .i64 0) 1 8 Tryz.underlying175 hi0 hz0 hz1 hz2 rfl _ _ _ rfl (hO2.alloc _) _ 1 [.int .i64 (M.sumL (zss[k]?.getD []))] rfl (src_new2 w2 _ _ 1 1 _ _ _ Tryz.underlying175 rfl (ints_oneCell .i64 [M.sumL (zss[k]?.getD [])])) (by simp only [maxLen]; omega) (by omega) (by simp; omega) ?_; intro v3 w3 hown hgrow hat)
        have T2 := hT.step HL2.out HB2.out hown hgrow
        clear hown hgrow hat hT hlen hO2 HB2 HL2 hsum
        go_wp2_with fail
        go_roundw
        case rel => exact ⟨k + 1, by omega, by go_num, T2⟩
        case measure => simp [intOf]; omega
      · obtain rfl : k = len := by omega
        have hT' := hT
        rw [← hL.out] at hT'
        obtain ⟨a', n', c', hv, hn, hrow⟩ := hT'.row
        have hlab := (hL1.on hT.2).heardW
        have hb := Lib.hid hT.2
        clear hT hT' hn
        subst hv
        go_wp2_with fail
        refine (implTagSum_any M.heardS _ _ _ _ _ _ (by decide) hrow (Nat.le_refl _)).mono ?_
        rintro r w1 ⟨rfl, hb2⟩
        have hbb := btr hb.out hb2
        have q0 := hbb.cell (p := ⟨w.heap.size, 0, none⟩) hltW |>.trans r0
        have q1 := hbb.cell (p := ⟨w.heap.size, 1, none⟩) hltW |>.trans r1
        have p0 := hbb.frozen (p := ⟨w.heap.size, 0, none⟩) hltW |>.trans f0
        have p1 := hbb.frozen (p := ⟨w.heap.size, 1, none⟩) hltW |>.trans f1
        have HBB := Lib.hid (hb0.trans (hbb.mono (by omega)))
        clear hrow hb2 hbb hlab
        go_wp2_with fail
        refine bodyPost_ret (v := I2 (M.tagR M.heardS (zss.map M.sumL)).1 (M.tagR M.heardS (zss.map M.sumL)).2) (by simp [results, Tryz.results30, go_sem, q0, q1]) rfl ?_
        rw [HE.out]
        exact ⟨rfl, bset (bset HBB.out (Nat.le_refl _) _) (Nat.le_refl _) _⟩
  · have E : M.heardR zss = (2, 0) := by simp only [M.heardR, hA, if_true]; split <;> rfl
    rw [E]; clear E
    have HA := Lib.hid hA
    clear hA hG lab
    go_enter Tryz.func30, Tryz.ntmps30
    go_wp2_with fail
    generalize w.alloc (.cells #[.int .i64 0, .int .i64 0] 49) = W at *
    generalize W.alloc (.cells (madeCells #[.int .i64 0] len) 2) = W1 at *
    go_loopw [3, 16] (fun v i wr => ∃ k : Nat, k ≤ len ∧ i = .int .i64 k ∧ HeardRel W zss k v wr ∧ Hid ((zss.take k).any M.longB = false)) (fun _ i _ => len - (intOf i).toNat)
    case atStart => exact ⟨0, Nat.zero_le _, rfl, T0, Lib.hid (by simp)⟩
    case round =>
      obtain ⟨k, hk, rfl, hT, hN⟩ := hrel
      by_cases hlt : k < len
      · obtain ⟨b, off, ha, hb, hc⟩ := (hG1.below (hT.2.mono (by omega))).cells (by omega)
        obtain ⟨a', n', c', hcell, hrow⟩ := hc k hlt
        have hl2 : k < zss.length := by rw [hL.out]; exact hlt
        have HL2 := Lib.hid hl2
        clear hc hl2
        subst ha
        have hlen : ((zss.take k).map M.sumL).length ≤ 10 := by simp; omega
        have hsz := hT.2.size
        cases hlong : M.longB (zss[k]?.getD [])
        · have hsum : M.sumR (zss[k]?.getD []) = (0, M.sumL (zss[k]?.getD [])) := by
            simp only [M.longB, decide_eq_false_iff_not] at hlong
            simp only [M.sumR, hlong, if_false]
          have N2 := Lib.hid (M.any_take M.longB zss [] k HL2.out hN.out hlong)
          clear hlong
          go_wp2_with fail
          refine (implSumOf_any _ _ _ _ _ _ hrow (by omega)).mono ?_
          rintro r w2 ⟨rfl, hb2⟩
          have hsz2 := hb2.size
          have hO2 := (hT.1.below hb2).alloc (.cells #[.int .i64 0, .int .i64 (M.sumL (zss[k]?.getD []))] 49)
          have HB2 := Lib.hid (bal hb2 (.cells #[.int .i64 0, .int .i64 (M.sumL (zss[k]?.getD []))] 49))
          clear hb2 hrow hcell
          go_wp2_with (at_builtin; refine wpList_append_src _ rfl (.tmp 26) (.tmp 29) 175 175 rfl W.heap.size 2 i0 (.int .i64 0) 1 8 Tryz.underlying175 hi0 hz0 hz1 hz2 rfl _ _ _ rfl (hO2.alloc _) _ 1 [.int .i64 (M.sumL (zss[k]?.getD []))] rfl (src_new2 w2 _ _ 1 1 _ _ _ Tryz.underlying175 rfl (ints_oneCell .i64 [M.sumL (zss[k]?.getD [])])) (by simp only [maxLen]; omega) (by omega) (by simp; omega) ?_; intro v3 w3 hown hgrow hat)
          have T2 := hT.step HL2.out HB2.out hown hgrow
          clear hown hgrow hat hT hlen hO2 HB2 HL2 hsum
          go_wp2_with fail
          go_roundw
          case rel => exact ⟨k + 1, by omega, by go_num, T2, N2⟩
          case measure => simp [intOf]; omega
        · have hsum : M.sumR (zss[k]?.getD []) = (2, 0) := by
            simp only [M.longB, decide_eq_true_eq] at hlong
            simp only [M.sumR, hlong, if_true]
          clear hlong
          go_wp2_with fail
          refine (implSumOf_any _ _ _ _ _ _ hrow (by omega)).mono ?_
          rintro r w2 ⟨rfl, hb2⟩
          have hbb := btr hT.2 hb2
          have hlt2 : w.heap.size < w2.heap.size := by have := hbb.size; omega
          have q0 := hbb.cell (p := ⟨w.heap.size, 0, none⟩) hltW |>.trans r0
          have q1 := hbb.cell (p := ⟨w.heap.size, 1, none⟩) hltW |>.trans r1
          have p0 := hbb.frozen (p := ⟨w.heap.size, 0, none⟩) hltW |>.trans f0
          have p1 := hbb.frozen (p := ⟨w.heap.size, 1, none⟩) hltW |>.trans f1
          have HBB := Lib.hid (hb0.trans (hbb.mono (by omega)))
          clear hb2 hrow hcell hbb hT
          go_wp2_with fail
          exact bodyPost_ret (v := I2 2 0) (by simp [results, Tryz.results30, go_sem, q0, q1, hlt2]) rfl ⟨rfl, bal (bset (bset HBB.out (Nat.le_refl _) _) (Nat.le_refl _) _) _⟩
      · have e := hN.out
        rw [List.take_of_length_le (by rw [hL.out]; omega), HA.out] at e
        cases e

end Go.Proofs.YtlodhleihnlchaaGreatDoor
namespace Go.Proofs.YtlodhleihnlchaaGreatDoor
open Go.RowKit
set_option maxRecDepth 100000
set_option linter.unusedVariables false

theorem grid_two {w : World} {a1 a2 : Option Addr} {n1 n2 c1 c2 : Nat} {z1 z2 : List Int} (t : TypeId) (R1 : Row .u8 w w.heap.size a1 n1 c1 z1) (R2 : Row .u8 w w.heap.size a2 n2 c2 z2) :
    Grid (w.alloc (.cells #[.slice a1 n1 c1, .slice a2 n2 c2] t)) (w.heap.size + 1) (some ⟨w.heap.size, 0, none⟩) 2 2 [z1, z2] :=
  ⟨rfl, Nat.le_refl _, by simp only [maxLen]; omega, fun _ => ⟨w.heap.size, 0, rfl, by omega, fun j hj => by
    have e1 : (w.alloc (.cells #[.slice a1 n1 c1, .slice a2 n2 c2] t)).heap[w.heap.size]? = some (.cells #[.slice a1 n1 c1, .slice a2 n2 c2] t) := (MapKept.heap_alloc w _).1
    match j, hj with
    | 0, _ => exact ⟨a1, n1, c1, by unfold World.cell?; show (match (w.alloc (.cells #[.slice a1 n1 c1, .slice a2 n2 c2] t)).heap[w.heap.size]? with | some (Obj.cells c elem frozen) => c[0]? | x => none) = _; rw [e1]; rfl, (R1.alloc (Nat.le_refl _) _).more (by omega)⟩
    | 1, _ => exact ⟨a2, n2, c2, by unfold World.cell?; show (match (w.alloc (.cells #[.slice a1 n1 c1, .slice a2 n2 c2] t)).heap[w.heap.size]? with | some (Obj.cells c elem frozen) => c[1]? | x => none) = _; rw [e1]; rfl, (R2.alloc (Nat.le_refl _) _).more (by omega)⟩⟩⟩
structure Hold2 (W : World) (g : Nat) (cs : List Value) (h : Nat) (ds : List Value) (cur : World) : Prop where
  bel : Below W.heap.size W cur
  one : At g cs cur
  two : At h ds cur
theorem Hold2.on {W : World} {g h : Nat} {cs ds : List Value} {cur cur' : World} (x : Hold2 W g cs h ds cur) (hb : Below cur.heap.size cur cur') : Hold2 W g cs h ds cur' := ⟨btr x.bel hb, x.one.on hb, x.two.on hb⟩
theorem Hold2.setB {W : World} {g h : Nat} {cs ds : List Value} {cur : World} (x : Hold2 W g cs h ds cur) {p : Addr} (hW : W.heap.size ≤ p.block) (hg : g ≠ p.block) (hh : h ≠ p.block) (u : Value) : Hold2 W g cs h ds (cur.setCell p u) := ⟨bset x.bel hW u, x.one.setB hg u, x.two.setB hh u⟩
def heaC (n : ByteArray) (r s : Int) (r2 s2 p x y f : Int) : Int := if helF n.data.toList r s = 0 then repF r2 s2 p x y f else helF n.data.toList r s
def heaV (n : ByteArray) (r s : Int) (r2 s2 p x y f : Int) : Int := if heaC n r s r2 s2 p x y f = 0 then M.heardL [packH n r s, frontR r2 s2 p] else 0
theorem hea_hel {n : ByteArray} {r s r2 s2 p x y f : Int} (h : ¬ helF n.data.toList r s = 0) : heaC n r s r2 s2 p x y f = helF n.data.toList r s ∧ heaV n r s r2 s2 p x y f = 0 := by
  have e : heaC n r s r2 s2 p x y f = helF n.data.toList r s := by simp [heaC, h]
  exact ⟨e, by unfold heaV; rw [e, if_neg h]⟩
theorem hea_rep {n : ByteArray} {r s r2 s2 p x y f : Int} (h : helF n.data.toList r s = 0) (h2 : ¬ repF r2 s2 p x y f = 0) : heaC n r s r2 s2 p x y f = repF r2 s2 p x y f ∧ heaV n r s r2 s2 p x y f = 0 := by
  have e : heaC n r s r2 s2 p x y f = repF r2 s2 p x y f := by simp [heaC, h]
  exact ⟨e, by unfold heaV; rw [e, if_neg h2]⟩
theorem hea_yes {n : ByteArray} {r s r2 s2 p x y f : Int} (h : helF n.data.toList r s = 0) (h2 : repF r2 s2 p x y f = 0) : heaC n r s r2 s2 p x y f = 0 ∧ heaV n r s r2 s2 p x y f = M.heardL [packH n r s, frontR r2 s2 p] := by
  have e : heaC n r s r2 s2 p x y f = 0 := by simp [heaC, h, h2]
  exact ⟨e, by unfold heaV; rw [if_pos e]⟩
theorem hea_R {n : ByteArray} {r s r2 s2 p : Int} (hn : n.size ≤ 20) : M.heardR [packH n r s, frontR r2 s2 p] = (0, M.heardL [packH n r s, frontR r2 s2 p]) := by
  unfold M.heardR
  have l1 := packH_length n r s
  have l2 := frontR_length r2 s2 p
  simp [M.longB, l1, l2]
  omega

theorem frontR_byte {r s p : Int} (h1 : M.sumB r = true) (h2 : pubB s = true) (h3 : pubB p = true) : ∀ z ∈ frontR r s p, M.byteB z := by
  intro z hz
  simp only [frontR, List.mem_append] at hz
  rcases hz with ((hz | hz) | hz) | hz
  · simp only [List.mem_cons, List.not_mem_nil, or_false] at hz
    unfold M.byteB
    omega
  · exact two_byte h1 z hz
  · exact two_byte (pub_sum6 h2) z hz
  · exact two_byte (pub_sum6 h3) z hz
theorem l6Heard_any (g h : Nat) (n : ByteArray) (r s r2 s2 p x y f : Int) (w : World) (A1 : At g (HL3 r s n) w) (A2 : At h (RL6 r2 s2 p x y f) w) (hh : helF n.data.toList r s = 0) (hr : repF r2 s2 p x y f = 0) :
    Calls Tryz.prog 111 #[.pointer (some ⟨g, 0, none⟩), .pointer (some ⟨h, 0, none⟩)] w fun e w' => e = .returned (.int .i64 (M.heardL [packH n r s, frontR r2 s2 p])) ∧ Below w.heap.size w w' := by
  obtain ⟨h1, h2, h3, h4, h5⟩ := repF_zero hr
  have P1 := fun w A => l6PackHello_any g r s n w A hh
  have P2 := fun w A => l6Front_any h r2 s2 p x y f w A h1 (pub_sum6 h2) (pub_sum6 h3)
  have HW := Lib.hid (And.intro (fun z hz => byte_wf (packH_byte hh z hz)) (fun z hz => byte_wf (packR_byte hr z (List.mem_append_left _ (List.mem_append_left _ hz)))))
  generalize packH n r s = z1 at *
  generalize frontR r2 s2 p = z2 at *
  have F3 := fun a len cap B w G hB hl => l2Heard_any a len cap B [z1, z2] w G hB hl
  generalize M.heardL [z1, z2] = hv at *
  go_enter Tryz.func111, Tryz.ntmps111
  go_wp2_with fail
  refine (P1 _ A1).mono ?_
  rintro e u1 ⟨a1, n1, c1, rfl, O1, b1⟩
  go_wp2_with fail
  refine (P2 _ (A2.on b1)).mono ?_
  rintro e u2 ⟨a2, n2, c2, rfl, O2, b2⟩
  have G := grid_two 22 ((Own.row O1 HW.out.1).on b2) (Own.row O2 HW.out.2)
  have B3 := bal (btr b1 b2) (.cells #[.slice a1 n1 c1, .slice a2 n2 c2] 22)
  have hle : u2.heap.size + 1 ≤ (u2.alloc (.cells #[.slice a1 n1 c1, .slice a2 n2 c2] 22)).heap.size := by simp
  clear O1 O2 b1 b2 P1 P2
  go_wp2_with fail
  generalize u2.alloc (.cells #[.slice a1 n1 c1, .slice a2 n2 c2] 22) = v2 at *
  refine (F3 _ _ _ _ _ G hle (by omega)).mono ?_
  rintro e u3 ⟨rfl, b3⟩
  have hb := btr B3 b3
  clear G
  go_wp2_with fail
  go_ret
  exact ⟨rfl, hb⟩
theorem specHeardOf_any (n : ByteArray) (r s r2 s2 p x y f : Int) (w : World) (hn : n.size ≤ maxLen) :
    Calls Tryz.prog 29 #[H3 r s n, R6 r2 s2 p x y f] w fun e w' => e = .returned (I2 (heaC n r s r2 s2 p x y f) (heaV n r s r2 s2 p x y f)) ∧ Below w.heap.size w w' := by
  have b0 := bal (bal (bal (Below.refl _ w) (.cells #[.int .i64 r, .int .i64 s, .string n] 26)) (.cells #[.int .i64 r2, .int .i64 s2, .int .i64 p, .int .i64 x, .int .i64 y, .int .i64 f] 33)) (.cells #[.int .i64 0, .int .i64 0] 49)
  have A1 := ((At.new w (HL3 r s n) 26).alloc (.cells #[.int .i64 r2, .int .i64 s2, .int .i64 p, .int .i64 x, .int .i64 y, .int .i64 f] 33)).alloc (.cells #[.int .i64 0, .int .i64 0] 49)
  have A2 := (At.new (w.alloc (.cells #[.int .i64 r, .int .i64 s, .string n] 26)) (RL6 r2 s2 p x y f) 33).alloc (.cells #[.int .i64 0, .int .i64 0] 49)
  have A3 := At.new ((w.alloc (.cells #[.int .i64 r, .int .i64 s, .string n] 26)).alloc (.cells #[.int .i64 r2, .int .i64 s2, .int .i64 p, .int .i64 x, .int .i64 y, .int .i64 f] 33)) [.int .i64 0, .int .i64 0] 49
  simp only [World.size_alloc] at A1 A2 A3
  have F1 := fun g w A => l6Hello_any g r s n w A hn
  have F2 := fun g w A => l6Reply_any g r2 s2 p x y f w A
  by_cases h1 : helF n.data.toList r s = 0
  · by_cases h2 : repF r2 s2 p x y f = 0
    · obtain ⟨e1, e2⟩ := hea_yes (x := x) (y := y) (f := f) h1 h2
      rw [e1, e2]
      have F3 := fun g h w A1 A2 => l6Heard_any g h n r s r2 s2 p x y f w A1 A2 h1 h2
      rw [h1] at F1
      rw [h2] at F2
      generalize M.heardL [packH n r s, frontR r2 s2 p] = hv at *
      clear e1 e2 h1 h2
      go_enter Tryz.func29, Tryz.ntmps29
      go_wp2_with fail
      generalize ((w.alloc (.cells #[.int .i64 r, .int .i64 s, .string n] 26)).alloc (.cells #[.int .i64 r2, .int .i64 s2, .int .i64 p, .int .i64 x, .int .i64 y, .int .i64 f] 33)).alloc (.cells #[.int .i64 0, .int .i64 0] 49) = W0 at *
      refine (F1 _ _ A1).mono ?_
      rintro e u1 ⟨rfl, b1⟩
      go_wp2_with fail
      refine (F2 _ _ (A2.on b1)).mono ?_
      rintro e u2 ⟨rfl, rfl⟩
      go_wp2_with fail
      refine (F3 _ _ _ (A1.on b1) (A2.on b1)).mono ?_
      rintro e u3 ⟨rfl, b3⟩
      have b13 := btr b1 b3
      have B3 := btr b0 b13
      clear b1 b3 F1 F2 F3
      have q0 := (A3.on b13).cell 0 _ rfl
      have q1 := (A3.on b13).cell 1 _ rfl
      have z0 := (A3.on b13).free 0 _ rfl
      have z1 := (A3.on b13).free 1 _ rfl
      clear A1 A2 A3
      go_wp2_with fail
      refine bodyPost_ret (v := I2 0 hv) (by simp [results, Tryz.results29, go_sem, q0, q1]) rfl ⟨rfl, ?_⟩
      exact (by (iterate 2 (refine bset ?_ (by dsimp only; omega) _)); exact B3)
    · obtain ⟨e1, e2⟩ := hea_rep (x := x) (y := y) (f := f) h1 h2
      rw [e1, e2]
      rw [h1] at F1
      generalize repF r2 s2 p x y f = cd at *
      clear e1 e2 h1
      go_enter Tryz.func29, Tryz.ntmps29
      go_wp2_with fail
      generalize ((w.alloc (.cells #[.int .i64 r, .int .i64 s, .string n] 26)).alloc (.cells #[.int .i64 r2, .int .i64 s2, .int .i64 p, .int .i64 x, .int .i64 y, .int .i64 f] 33)).alloc (.cells #[.int .i64 0, .int .i64 0] 49) = W0 at *
      refine (F1 _ _ A1).mono ?_
      rintro e u1 ⟨rfl, b1⟩
      go_wp2_with fail
      refine (F2 _ _ (A2.on b1)).mono ?_
      rintro e u2 ⟨rfl, rfl⟩
      have B3 := btr b0 b1
      clear F1 F2
      have q0 := (A3.on b1).cell 0 _ rfl
      have q1 := (A3.on b1).cell 1 _ rfl
      have z0 := (A3.on b1).free 0 _ rfl
      have z1 := (A3.on b1).free 1 _ rfl
      clear A1 A2 A3
      go_wp2_with fail
      refine bodyPost_ret (v := I2 cd 0) (by simp [results, Tryz.results29, go_sem, q0, q1]) rfl ⟨rfl, ?_⟩
      exact (by (iterate 2 (refine bset ?_ (by dsimp only; omega) _)); exact B3)
  · obtain ⟨e1, e2⟩ := hea_hel (r2 := r2) (s2 := s2) (p := p) (x := x) (y := y) (f := f) h1
    rw [e1, e2]
    generalize helF n.data.toList r s = cd at *
    clear e1 e2
    go_enter Tryz.func29, Tryz.ntmps29
    go_wp2_with fail
    generalize ((w.alloc (.cells #[.int .i64 r, .int .i64 s, .string n] 26)).alloc (.cells #[.int .i64 r2, .int .i64 s2, .int .i64 p, .int .i64 x, .int .i64 y, .int .i64 f] 33)).alloc (.cells #[.int .i64 0, .int .i64 0] 49) = W0 at *
    refine (F1 _ _ A1).mono ?_
    rintro e u1 ⟨rfl, b1⟩
    have B3 := btr b0 b1
    clear F1 F2
    have q0 := (A3.on b1).cell 0 _ rfl
    have q1 := (A3.on b1).cell 1 _ rfl
    have z0 := (A3.on b1).free 0 _ rfl
    have z1 := (A3.on b1).free 1 _ rfl
    clear A1 A2 A3
    go_wp2_with fail
    refine bodyPost_ret (v := I2 cd 0) (by simp [results, Tryz.results29, go_sem, q0, q1]) rfl ⟨rfl, ?_⟩
    exact (by (iterate 2 (refine bset ?_ (by dsimp only; omega) _)); exact B3)

theorem heardSum_any (n : ByteArray) (r s r2 s2 p x y f : Int) (w : World) (lab : Labels w) (hh : helF n.data.toList r s = 0) (h1 : M.sumB r2 = true) (h2 : pubB s2 = true) (h3 : pubB p = true) :
    Calls Tryz.prog 110 #[H3 r s n, R6 r2 s2 p x y f] w fun e w' => e = .returned (.int .i64 (M.heardL [packH n r s, frontR r2 s2 p])) ∧ Below w.heap.size w w' := by
  have b0 := bal (bal (Below.refl _ w) (.cells #[.int .i64 r, .int .i64 s, .string n] 26)) (.cells #[.int .i64 r2, .int .i64 s2, .int .i64 p, .int .i64 x, .int .i64 y, .int .i64 f] 33)
  have A1 := (At.new w (HL3 r s n) 26).alloc (.cells #[.int .i64 r2, .int .i64 s2, .int .i64 p, .int .i64 x, .int .i64 y, .int .i64 f] 33)
  have A2 := At.new (w.alloc (.cells #[.int .i64 r, .int .i64 s, .string n] 26)) (RL6 r2 s2 p x y f) 33
  simp only [World.size_alloc] at A1 A2
  have f1 := fld1
  have P1 := fun w => wordBytes_hello r s n w hh
  have P2 := fun w => replyHeadOf_any r2 s2 p x y f w h1 (pub_sum6 h2) (pub_sum6 h3)
  have hR := hea_R (r := r) (s := s) (r2 := r2) (s2 := s2) (p := p) (hel_size hh)
  have HW := Lib.hid (And.intro (fun z hz => byte_wf (packH_byte hh z hz)) (fun z hz => byte_wf (frontR_byte h1 h2 h3 z hz)))
  have L0 := lab.on b0
  generalize M.heardL [packH n r s, frontR r2 s2 p] = hv at *
  generalize packH n r s = z1 at *
  generalize frontR r2 s2 p = z2 at *
  have F3 := fun a len cap B w L G hB => implTranscript_any a len cap B [z1, z2] w L G hB
  rw [hR] at F3
  clear lab hh h1 h2 h3 hR
  go_enter Tryz.func110, Tryz.ntmps110
  go_wp2_with fail
  generalize (w.alloc (.cells #[.int .i64 r, .int .i64 s, .string n] 26)).alloc (.cells #[.int .i64 r2, .int .i64 s2, .int .i64 p, .int .i64 x, .int .i64 y, .int .i64 f] 33) = W0 at *
  have d0 := A1.cell 0 _ rfl
  have d1 := A1.cell 1 _ rfl
  have d2 := A1.cell 2 _ rfl
  have k0 := A2.cell 0 _ rfl
  have k1 := A2.cell 1 _ rfl
  have k2 := A2.cell 2 _ rfl
  have k3 := A2.cell 3 _ rfl
  have k4 := A2.cell 4 _ rfl
  have k5 := A2.cell 5 _ rfl
  refine wp_region_line (Bel W0) [(0, true), (3, true), (1, false), (2, false), (4, false), (5, false), (6, false), (7, true), (8, true)] (by kernel_rfl) (by kernel_rfl) (fun _ _ d _ _ h => by cases d <;> exact h) (Bel.drew W0) ?_
  have hst := Bel.drew W0
  have inst : Nonempty (Of (Bel W0)) := ⟨⟨_, hst⟩⟩
  have u0 := bel_cell d0
  have u1 := bel_cell d1
  have u2 := bel_cell d2
  have v0 := bel_cell k0
  have v1 := bel_cell k1
  have v2 := bel_cell k2
  have v3 := bel_cell k3
  have v4 := bel_cell k4
  have v5 := bel_cell k5
  iterate 2 (refine line_read rfl (by kernel_rfl) (fun K hK => ?_); go_big_quiet_op; refine hK _ ?_; clear hK K)
  clear u0 u1 u2 v0 v1 v2 v3 v4 v5 d0 d1 d2 k0 k1 k2 k3 k4 k5
  refine line_value (v := .iface 26 (H3 r s n)) rfl (by kernel_rfl) (by kernel_rfl) hst ?_
  simp only [Act.put, List.setIfInBounds_toArray, List.set_cons_zero, List.set_cons_succ]
  refine line_alone rfl (by kernel_rfl) (fun K hK => ?_)
  refine call_any (args := #[.iface 26 (H3 r s n)]) rfl (by kernel_rfl) (by kernel_rfl) (P1 _) ?_
  rintro e V3 ⟨a1, n1, c1, rfl, O1, b3⟩
  have st3 := hst.on b3
  refine ⟨_, rfl, hK _ _ st3 ?_⟩
  clear hK K
  simp only [Act.put, List.setIfInBounds_toArray, List.set_cons_zero, List.set_cons_succ]
  refine line_alone rfl (by kernel_rfl) (fun K hK => ?_)
  refine call_any (args := #[R6 r2 s2 p x y f]) rfl (by kernel_rfl) (by kernel_rfl) (P2 _) ?_
  rintro e V4 ⟨a2, n2, c2, rfl, O2, b4⟩
  have st4 := st3.on b4
  refine ⟨_, rfl, hK _ _ st4 ?_⟩
  clear hK K
  simp only [Act.put, List.setIfInBounds_toArray, List.set_cons_zero, List.set_cons_succ]
  have G := grid_two 22 ((Own.row O1 HW.out.1).on b4) (Own.row O2 HW.out.2)
  have L4 := L0.on st4.out
  have st5 := st4.on (bal (Below.refl _ V4) (.cells #[.slice a1 n1 c1, .slice a2 n2 c2] 22))
  have L5 := L4.on (bal (Below.refl _ V4) (.cells #[.slice a1 n1 c1, .slice a2 n2 c2] 22))
  refine line_alone rfl (by kernel_rfl) (fun K hK => ?_)
  go_big_op
  refine hK _ _ (st5) ?_
  clear hK K
  have hle : V4.heap.size + 1 ≤ (V4.alloc (.cells #[.slice a1 n1 c1, .slice a2 n2 c2] 22)).heap.size := by simp
  generalize V4.alloc (.cells #[.slice a1 n1 c1, .slice a2 n2 c2] 22) = V5 at *
  refine line_alone rfl (by kernel_rfl) (fun K hK => ?_)
  refine call_any (args := #[.slice (some ⟨V4.heap.size, 0, none⟩) 2 2]) rfl (by kernel_rfl) (by kernel_rfl) (F3 _ _ _ _ _ L5 G hle) ?_
  rintro e V6 ⟨rfl, b6⟩
  have st6 := st5.on b6
  refine ⟨_, rfl, hK _ _ st6 ?_⟩
  clear hK K
  simp only [Act.put, List.setIfInBounds_toArray, List.set_cons_zero, List.set_cons_succ]
  iterate 2 (refine line_read rfl (by kernel_rfl) (fun K hK => ?_); go_big_quiet_op; refine hK _ ?_; clear hK K)
  refine line_nil ?_
  have hb := btr b0 st6.out
  clear hst st3 st4 st5 st6 G O1 O2 b3 b4 b6 L4 L5 L0 A1 A2 b0
  go_wp2_with fail
  go_ret
  exact ⟨rfl, hb⟩
theorem implHeardOf_any (n : ByteArray) (r s r2 s2 p x y f : Int) (w : World) (lab : Labels w) (ert : ErrT w) (hn : n.size ≤ maxLen) :
    Calls Tryz.prog 28 #[H3 r s n, R6 r2 s2 p x y f] w fun e w' => e = .returned (I2 (heaC n r s r2 s2 p x y f) (heaV n r s r2 s2 p x y f)) ∧ Below w.heap.size w w' := by
  have b0 := bal (bal (bal (Below.refl _ w) (.cells #[.int .i64 r, .int .i64 s, .string n] 26)) (.cells #[.int .i64 r2, .int .i64 s2, .int .i64 p, .int .i64 x, .int .i64 y, .int .i64 f] 33)) (.cells #[.int .i64 0, .int .i64 0] 49)
  have A1 := ((At.new w (HL3 r s n) 26).alloc (.cells #[.int .i64 r2, .int .i64 s2, .int .i64 p, .int .i64 x, .int .i64 y, .int .i64 f] 33)).alloc (.cells #[.int .i64 0, .int .i64 0] 49)
  have A2 := (At.new (w.alloc (.cells #[.int .i64 r, .int .i64 s, .string n] 26)) (RL6 r2 s2 p x y f) 33).alloc (.cells #[.int .i64 0, .int .i64 0] 49)
  have A3 := At.new ((w.alloc (.cells #[.int .i64 r, .int .i64 s, .string n] 26)).alloc (.cells #[.int .i64 r2, .int .i64 s2, .int .i64 p, .int .i64 x, .int .i64 y, .int .i64 f] 33)) [.int .i64 0, .int .i64 0] 49
  simp only [World.size_alloc] at A1 A2 A3
  have F1 := fun w => implHelloFault_any r s n w hn
  have F2 := fun w E => implReplyFault_any r2 s2 p x y f w E
  have L0 := lab.on b0
  have E0 := ert.on b0
  clear lab ert
  by_cases h1 : helF n.data.toList r s = 0
  · rw [h1] at F1
    by_cases h2 : repF r2 s2 p x y f = 0
    · obtain ⟨e1, e2⟩ := hea_yes (x := x) (y := y) (f := f) h1 h2
      rw [e1, e2]
      rw [h2] at F2
      obtain ⟨q1, q2, q3, -, -⟩ := repF_zero h2
      have F3 := fun w L => heardSum_any n r s r2 s2 p x y f w L h1 q1 q2 q3
      generalize M.heardL [packH n r s, frontR r2 s2 p] = hv at *
      clear e1 e2 h1 h2 q1 q2 q3
      go_enter Tryz.func28, Tryz.ntmps28
      go_wp2_with fail
      generalize ((w.alloc (.cells #[.int .i64 r, .int .i64 s, .string n] 26)).alloc (.cells #[.int .i64 r2, .int .i64 s2, .int .i64 p, .int .i64 x, .int .i64 y, .int .i64 f] 33)).alloc (.cells #[.int .i64 0, .int .i64 0] 49) = W0 at *
      refine (F1 _).mono ?_
      rintro e u1 ⟨rfl, b1⟩
      have d0 := (A1.on b1).cell 0 _ rfl
      have d1 := (A1.on b1).cell 1 _ rfl
      have d2 := (A1.on b1).cell 2 _ rfl
      have k0 := (A2.on b1).cell 0 _ rfl
      have k1 := (A2.on b1).cell 1 _ rfl
      have k2 := (A2.on b1).cell 2 _ rfl
      have k3 := (A2.on b1).cell 3 _ rfl
      have k4 := (A2.on b1).cell 4 _ rfl
      have k5 := (A2.on b1).cell 5 _ rfl
      go_wp2_with fail
      refine (F2 _ (E0.on b1)).mono ?_
      rintro e u2 ⟨rfl, b2⟩
      have b12 := btr b1 b2
      clear d0 d1 d2 k0 k1 k2 k3 k4 k5
      have d0 := (A1.on b12).cell 0 _ rfl
      have d1 := (A1.on b12).cell 1 _ rfl
      have d2 := (A1.on b12).cell 2 _ rfl
      have k0 := (A2.on b12).cell 0 _ rfl
      have k1 := (A2.on b12).cell 1 _ rfl
      have k2 := (A2.on b12).cell 2 _ rfl
      have k3 := (A2.on b12).cell 3 _ rfl
      have k4 := (A2.on b12).cell 4 _ rfl
      have k5 := (A2.on b12).cell 5 _ rfl
      go_wp2_with fail
      refine (F3 _ (L0.on b12)).mono ?_
      rintro e u3 ⟨rfl, b3⟩
      have b13 := btr b12 b3
      have B3 := btr b0 b13
      clear b1 b2 b3 b12 F1 F2 F3 L0 E0 d0 d1 d2 k0 k1 k2 k3 k4 k5
      have q0 := (A3.on b13).cell 0 _ rfl
      have q1 := (A3.on b13).cell 1 _ rfl
      have z0 := (A3.on b13).free 0 _ rfl
      have z1 := (A3.on b13).free 1 _ rfl
      clear A1 A2 A3
      go_wp2_with fail
      refine bodyPost_ret (v := I2 0 hv) (by simp [results, Tryz.results28, go_sem, q0, q1]) rfl ⟨rfl, ?_⟩
      exact (by (iterate 2 (refine bset ?_ (by dsimp only; omega) _)); exact B3)
    · obtain ⟨e1, e2⟩ := hea_rep (x := x) (y := y) (f := f) h1 h2
      rw [e1, e2]
      generalize repF r2 s2 p x y f = cd at *
      clear e1 e2 h1
      go_enter Tryz.func28, Tryz.ntmps28
      go_wp2_with fail
      generalize ((w.alloc (.cells #[.int .i64 r, .int .i64 s, .string n] 26)).alloc (.cells #[.int .i64 r2, .int .i64 s2, .int .i64 p, .int .i64 x, .int .i64 y, .int .i64 f] 33)).alloc (.cells #[.int .i64 0, .int .i64 0] 49) = W0 at *
      refine (F1 _).mono ?_
      rintro e u1 ⟨rfl, b1⟩
      have d0 := (A1.on b1).cell 0 _ rfl
      have d1 := (A1.on b1).cell 1 _ rfl
      have d2 := (A1.on b1).cell 2 _ rfl
      have k0 := (A2.on b1).cell 0 _ rfl
      have k1 := (A2.on b1).cell 1 _ rfl
      have k2 := (A2.on b1).cell 2 _ rfl
      have k3 := (A2.on b1).cell 3 _ rfl
      have k4 := (A2.on b1).cell 4 _ rfl
      have k5 := (A2.on b1).cell 5 _ rfl
      go_wp2_with fail
      refine (F2 _ (E0.on b1)).mono ?_
      rintro e u2 ⟨rfl, b2⟩
      have b12 := btr b1 b2
      have B3 := btr b0 b12
      clear d0 d1 d2 k0 k1 k2 k3 k4 k5 b1 b2 F1 F2 L0 E0
      have q0 := (A3.on b12).cell 0 _ rfl
      have q1 := (A3.on b12).cell 1 _ rfl
      have z0 := (A3.on b12).free 0 _ rfl
      have z1 := (A3.on b12).free 1 _ rfl
      clear A1 A2 A3
      go_wp2_with fail
      refine bodyPost_ret (v := I2 cd 0) (by simp [results, Tryz.results28, go_sem, q0, q1]) rfl ⟨rfl, ?_⟩
      exact (by (iterate 2 (refine bset ?_ (by dsimp only; omega) _)); exact B3)
  · obtain ⟨e1, e2⟩ := hea_hel (r2 := r2) (s2 := s2) (p := p) (x := x) (y := y) (f := f) h1
    rw [e1, e2]
    generalize helF n.data.toList r s = cd at *
    clear e1 e2
    go_enter Tryz.func28, Tryz.ntmps28
    go_wp2_with fail
    generalize ((w.alloc (.cells #[.int .i64 r, .int .i64 s, .string n] 26)).alloc (.cells #[.int .i64 r2, .int .i64 s2, .int .i64 p, .int .i64 x, .int .i64 y, .int .i64 f] 33)).alloc (.cells #[.int .i64 0, .int .i64 0] 49) = W0 at *
    refine (F1 _).mono ?_
    rintro e u1 ⟨rfl, b1⟩
    have d0 := (A1.on b1).cell 0 _ rfl
    have d1 := (A1.on b1).cell 1 _ rfl
    have d2 := (A1.on b1).cell 2 _ rfl
    have k0 := (A2.on b1).cell 0 _ rfl
    have k1 := (A2.on b1).cell 1 _ rfl
    have k2 := (A2.on b1).cell 2 _ rfl
    have k3 := (A2.on b1).cell 3 _ rfl
    have k4 := (A2.on b1).cell 4 _ rfl
    have k5 := (A2.on b1).cell 5 _ rfl
    have B3 := btr b0 b1
    clear d0 d1 d2 k0 k1 k2 k3 k4 k5 F1 F2 L0 E0
    have q0 := (A3.on b1).cell 0 _ rfl
    have q1 := (A3.on b1).cell 1 _ rfl
    have z0 := (A3.on b1).free 0 _ rfl
    have z1 := (A3.on b1).free 1 _ rfl
    clear A1 A2 A3
    go_wp2_with fail
    refine bodyPost_ret (v := I2 cd 0) (by simp [results, Tryz.results28, go_sem, q0, q1]) rfl ⟨rfl, ?_⟩
    exact (by (iterate 2 (refine bset ?_ (by dsimp only; omega) _)); exact B3)
end Go.Proofs.YtlodhleihnlchaaGreatDoor
namespace Go.Proofs.YtlodhleihnlchaaGreatDoor
open Go.RowKit
set_option maxRecDepth 100000
set_option linter.unusedVariables false

set_option maxHeartbeats 1000000 in
theorem l6PackHello1_any (g : Nat) (q r s : Int) (n : ByteArray) (w : World) (hA : At g (HL4 q r s n) w) (h : helF n.data.toList r s = 0) :
    Calls Tryz.prog 91 #[.pointer (some ⟨g, 1, none⟩)] w (Made (packH n r s) w) := by
  obtain ⟨hr, hs, -⟩ := helF_zero h
  have hn := hel_size h
  have hnm : n.size ≤ maxLen := size_max hn
  have hss := pub_sum6 hs
  obtain ⟨i0, hi0, hz0, hz1, hz2⟩ := info_parts u8_info
  have hcv := fun (W : World) => run_bytes_of_string (P := Tryz.prog) W 9 22 5 n Tryz.underlying9 Tryz.underlying22 Tryz.underlying5
  have ltg := hA.lt (by simp)
  have d0 := hA.cell 0 _ rfl
  have d1 := hA.cell 1 _ rfl
  have d2 := hA.cell 2 _ rfl
  have d3 := hA.cell 3 _ rfl
  have b1 := bal (Below.refl _ w) (.cells #[.int .u8 1] 5)
  have O1 : OwnK .u8 (w.alloc (.cells #[.int .u8 1] 5)) w.heap.size (.slice (some ⟨w.heap.size, 0, none⟩) 1 1) [1] := own_lit (k := .u8) w [1] 1 5 (Nat.le_refl _) rfl (by simp only [maxLen]; omega)
  clear h
  go_enter Tryz.func91, Tryz.ntmps91
  go_wp2_with fail
  generalize w.alloc (.cells #[.int .u8 1] 5) = W1 at *
  refine (l1Two_any r _ hr).mono ?_
  rintro e w2 ⟨rfl, rfl⟩
  have O2 := Own.alloc O1 (.cells #[.int .u8 (r / 256), .int .u8 (r % 256)] 5)
  have b2 := bal b1 (.cells #[.int .u8 (r / 256), .int .u8 (r % 256)] 5)
  have hle := b2.size
  have hsrc := src_new (P := Tryz.prog) W1 [.int .u8 (r / 256), .int .u8 (r % 256)] 2 2 5 22 5 Tryz.underlying22 rfl (ints_oneCell .u8 [r / 256, r % 256])
  go_wp2_with (at_builtin; refine wpList_append_src _ rfl (.tmp 4) (.tmp 9) 22 22 rfl w.heap.size 5 i0 (.int .u8 0) 1 1 Tryz.underlying22 hi0 hz0 hz1 hz2 rfl _ 1 [.int .u8 1] rfl O2 _ 2 _ rfl hsrc (by simp only [maxLen]; omega) (by omega) hle ?_; intro v3 w3 hown hgrow hat)
  have b3 : Below w.heap.size w w3 := Own.grown O2 b2 hle hgrow
  have O3 : OwnK .u8 w3.drew w.heap.size v3 ([1] ++ M.two r) := by unfold OwnK; simpa [M.two] using hown.drew
  clear O1 O2 b1 b2 hle hsrc hown hgrow hat
  refine wp_region_fork (Bel w) (by kernel_rfl) (Bel.mk b3.drew) ?_
  have hst : (Bel w) _ := (Bel.mk b3.drew)
  have inst : Nonempty (Of (Bel w)) := ⟨⟨_, hst⟩⟩
  have u1 := bel_cell d2
  have u2 := bel_cell d3
  clear b3 d0 d1 d2 d3
  generalize w3.drew = V1 at *
  refine any_seg 5 [(0, true), (1, true), (2, true), (3, true), (4, true), (7, true), (8, true), (9, true), (10, true)] (by kernel_rfl) (fun _ _ d _ _ h => by cases d <;> exact h) ?_
  iterate 9 (refine line_read rfl (by kernel_rfl) (fun K hK => ?_); go_big_quiet_op; refine hK _ ?_; clear hK K)
  refine line_nil ?_
  clear u1 u2
  refine any_fork 5 11 (by kernel_rfl) rfl rfl (by kernel_rfl) (by kernel_rfl) (fun K hK => ?_) (fun K hK => ?_)
  · refine call_any (args := #[.int .i64 s]) rfl (by kernel_rfl) (by kernel_rfl) (l1Two_any s _ hss) ?_
    rintro e w4 ⟨rfl, rfl⟩
    have st4 := hst.on (bal (Below.refl _ V1) (.cells #[.int .u8 (s / 256), .int .u8 (s % 256)] 5))
    have O4 : OwnK .u8 _ w.heap.size v3 ([1] ++ M.two r) := Own.alloc O3 (.cells #[.int .u8 (s / 256), .int .u8 (s % 256)] 5)
    have T4 := two_own V1 s
    refine ⟨_, rfl, hK _ _ st4 ?_⟩
    clear hK K
    simp only [Act.put, List.setIfInBounds_toArray, List.set_cons_zero, List.set_cons_succ]
    generalize V1.alloc (.cells #[.int .u8 (s / 256), .int .u8 (s % 256)] 5) = V4 at *
    refine any_fork 6 11 (by kernel_rfl) rfl rfl (by kernel_rfl) (by kernel_rfl) (fun K hK => ?_) (fun K hK => ?_)
    · refine wp_append_src _ (.tmp 11) (.tmp 16) 22 22 rfl w.heap.size 5 i0 (.int .u8 0) 1 1 Tryz.underlying22 hi0 hz0 hz1 hz2 rfl _ _ _ rfl O4 _ 2 _ rfl (T4.src6 (two_byte hss)) (by simp only [maxLen, M.two, List.length_append, List.length_cons, List.length_nil]; omega) (by simp only [M.two, List.length_append, List.length_cons, List.length_nil]; omega) st4.out.size (fun v5 w5 hown hgrow hat => ?_)
      have b5 : Below w.heap.size w w5 := Own.grown O4 st4.out st4.out.size hgrow
      have O5 : OwnK .u8 w5 w.heap.size v5 (helHead r s) := by unfold OwnK helHead; simpa [M.two] using hown
      refine hK _ _ ⟨b5⟩ ?_
      clear hK K hown hgrow hat O3 O4 T4 st4 hst
      simp only [Act.put, List.setIfInBounds_toArray, List.set_cons_zero, List.set_cons_succ]
      refine any_rest [(11, false), (12, false), (13, true)] (by kernel_rfl) (fun _ _ d _ _ h => by cases d <;> exact h) ?_
      refine line_alone rfl (by kernel_rfl) (fun K hK => ?_)
      have st5 : Bel w w5 := ⟨b5⟩
      go_big_op
      have st6 := st5.on (bal (Below.refl _ w5) (textObj w5 n 5)).drew
      have X6 := text_own w5 n hnm
      refine hK _ _ st6 ?_
      clear hK K
      have O6 : OwnK .u8 (w5.alloc (textObj w5 n 5)).drew w.heap.size v5 (helHead r s) := (Own.alloc O5 _).drew
      have hsrc := X6.src6 (M.textL_byte n)
      clear b5 O5 X6 st5
      refine line_alone rfl (by kernel_rfl) (fun K hK => ?_)
      refine wp_append_src _ (.tmp 17) (.tmp 22) 22 22 rfl w.heap.size 5 i0 (.int .u8 0) 1 1 Tryz.underlying22 hi0 hz0 hz1 hz2 rfl _ _ _ rfl O6 _ n.size _ rfl hsrc (by rw [helHead_length]; simp only [maxLen]; omega) (by rw [helHead_length]; omega) st6.out.size (fun v7 w7 hown hgrow hat => ?_)
      have b7 : Below w.heap.size w w7 := Own.grown O6 st6.out st6.out.size hgrow
      have O7 : OwnK .u8 w7 w.heap.size v7 (packH n r s) := by
        unfold OwnK packH
        rw [List.length_append, M.textL_length, List.map_append]
        exact hown
      refine hK _ _ ⟨b7⟩ ?_
      obtain ⟨a7, c7, hv7, -⟩ := O7.form
      have HT := Lib.hid (And.intro O7 b7)
      clear hK K hown hgrow hat O7 b7 O6 st6 hsrc
      subst hv7
      simp only [Act.put, List.setIfInBounds_toArray, List.set_cons_zero, List.set_cons_succ]
      iterate 1 (refine line_read rfl (by kernel_rfl) (fun K hK => ?_); go_big_quiet_op; refine hK _ ?_; clear hK K)
      refine line_nil ?_
      go_wp2_with fail
      go_ret
      exact ⟨_, _, _, rfl, HT.out.1, HT.out.2⟩
    · go_big_op
      have st5 := st4.on (bal (Below.refl _ V4) (textObj V4 n 5)).drew
      have X5 := text_own V4 n hnm
      refine hK _ _ st5 ?_
      clear hK K
      have O5' : OwnK .u8 (V4.alloc (textObj V4 n 5)).drew w.heap.size v3 ([1] ++ M.two r) := (Own.alloc O4 _).drew
      have T5 : OwnK .u8 (V4.alloc (textObj V4 n 5)).drew V1.heap.size (.slice (some ⟨V1.heap.size, 0, none⟩) 2 2) (M.two s) := (Own.alloc T4 _).drew
      have hk3 : ∀ k, v3.ownBlock = some k → k < V4.heap.size := fun k hk => (Own.lt O4 k hk).2
      refine any_rest [(6, false), (12, false), (13, true)] (by kernel_rfl) (fun _ _ d _ _ h => by cases d <;> exact h) ?_
      refine line_alone rfl (by kernel_rfl) (fun K hK => ?_)
      refine wp_append_src _ (.tmp 11) (.tmp 16) 22 22 rfl w.heap.size 5 i0 (.int .u8 0) 1 1 Tryz.underlying22 hi0 hz0 hz1 hz2 rfl _ _ _ rfl O5' _ 2 _ rfl (T5.src6 (two_byte hss)) (by simp only [maxLen, M.two, List.length_append, List.length_cons, List.length_nil]; omega) (by simp only [M.two, List.length_append, List.length_cons, List.length_nil]; omega) st5.out.size (fun v5 w5 hown hgrow hat => ?_)
      have b5 : Below w.heap.size w w5 := Own.grown O5' st5.out st5.out.size hgrow
      have O5 : OwnK .u8 w5 w.heap.size v5 (helHead r s) := by unfold OwnK helHead; simpa [M.two] using hown
      have X6 := X5.kept6 hgrow hk3
      refine hK _ _ ⟨b5⟩ ?_
      clear hK K hown hgrow hat O3 O4 T4 st4 hst O5' T5 st5 X5
      simp only [Act.put, List.setIfInBounds_toArray, List.set_cons_zero, List.set_cons_succ]
      have st6 : Bel w w5 := ⟨b5⟩
      have O6 := O5
      have hsrc := X6.src6 (M.textL_byte n)
      clear b5 O5 X6
      refine line_alone rfl (by kernel_rfl) (fun K hK => ?_)
      refine wp_append_src _ (.tmp 17) (.tmp 22) 22 22 rfl w.heap.size 5 i0 (.int .u8 0) 1 1 Tryz.underlying22 hi0 hz0 hz1 hz2 rfl _ _ _ rfl O6 _ n.size _ rfl hsrc (by rw [helHead_length]; simp only [maxLen]; omega) (by rw [helHead_length]; omega) st6.out.size (fun v7 w7 hown hgrow hat => ?_)
      have b7 : Below w.heap.size w w7 := Own.grown O6 st6.out st6.out.size hgrow
      have O7 : OwnK .u8 w7 w.heap.size v7 (packH n r s) := by
        unfold OwnK packH
        rw [List.length_append, M.textL_length, List.map_append]
        exact hown
      refine hK _ _ ⟨b7⟩ ?_
      obtain ⟨a7, c7, hv7, -⟩ := O7.form
      have HT := Lib.hid (And.intro O7 b7)
      clear hK K hown hgrow hat O7 b7 O6 st6 hsrc
      subst hv7
      simp only [Act.put, List.setIfInBounds_toArray, List.set_cons_zero, List.set_cons_succ]
      iterate 1 (refine line_read rfl (by kernel_rfl) (fun K hK => ?_); go_big_quiet_op; refine hK _ ?_; clear hK K)
      refine line_nil ?_
      go_wp2_with fail
      go_ret
      exact ⟨_, _, _, rfl, HT.out.1, HT.out.2⟩
  · go_big_op
    have st4 := hst.on (bal (Below.refl _ V1) (textObj V1 n 5)).drew
    have X4 := text_own V1 n hnm
    refine hK _ _ st4 ?_
    clear hK K
    have O4' : OwnK .u8 (V1.alloc (textObj V1 n 5)).drew w.heap.size v3 ([1] ++ M.two r) := (Own.alloc O3 _).drew
    have hk3 : ∀ k, v3.ownBlock = some k → k < V1.heap.size := fun k hk => (Own.lt O3 k hk).2
    have lt4 : V1.heap.size < (V1.alloc (textObj V1 n 5)).drew.heap.size := by simp
    generalize (V1.alloc (textObj V1 n 5)).drew = V4 at *
    refine any_rest [(5, false), (6, false), (12, false), (13, true)] (by kernel_rfl) (fun _ _ d _ _ h => by cases d <;> exact h) ?_
    refine line_alone rfl (by kernel_rfl) (fun K hK => ?_)
    have st4' := st4
    clear st4
    refine call_any (args := #[.int .i64 s]) rfl (by kernel_rfl) (by kernel_rfl) (l1Two_any s _ hss) ?_
    rintro e w4 ⟨rfl, rfl⟩
    have st4 := st4'.on (bal (Below.refl _ V4) (.cells #[.int .u8 (s / 256), .int .u8 (s % 256)] 5))
    have O4 : OwnK .u8 _ w.heap.size v3 ([1] ++ M.two r) := Own.alloc O4' (.cells #[.int .u8 (s / 256), .int .u8 (s % 256)] 5)
    have T4 := two_own V4 s
    refine ⟨_, rfl, hK _ _ st4 ?_⟩
    clear hK K
    simp only [Act.put, List.setIfInBounds_toArray, List.set_cons_zero, List.set_cons_succ]
    have X5 : OwnK .u8 (V4.alloc (.cells #[.int .u8 (s / 256), .int .u8 (s % 256)] 5)) V1.heap.size (.slice (some ⟨V1.heap.size, 0, none⟩) n.size (grownCap V1 n.size 0 5)) (M.textL n) := Own.alloc X4 _
    refine line_alone rfl (by kernel_rfl) (fun K hK => ?_)
    refine wp_append_src _ (.tmp 11) (.tmp 16) 22 22 rfl w.heap.size 5 i0 (.int .u8 0) 1 1 Tryz.underlying22 hi0 hz0 hz1 hz2 rfl _ _ _ rfl O4 _ 2 _ rfl (T4.src6 (two_byte hss)) (by simp only [maxLen, M.two, List.length_append, List.length_cons, List.length_nil]; omega) (by simp only [M.two, List.length_append, List.length_cons, List.length_nil]; omega) st4.out.size (fun v5 w5 hown hgrow hat => ?_)
    have b5 : Below w.heap.size w w5 := Own.grown O4 st4.out st4.out.size hgrow
    have O5 : OwnK .u8 w5 w.heap.size v5 (helHead r s) := by unfold OwnK helHead; simpa [M.two] using hown
    have X6 := X5.kept6 hgrow hk3
    refine hK _ _ ⟨b5⟩ ?_
    clear hK K hown hgrow hat O3 O4 T4 st4 hst O4' st4' X4 X5
    simp only [Act.put, List.setIfInBounds_toArray, List.set_cons_zero, List.set_cons_succ]
    have st6 : Bel w w5 := ⟨b5⟩
    have O6 := O5
    have hsrc := X6.src6 (M.textL_byte n)
    clear b5 O5 X6
    refine line_alone rfl (by kernel_rfl) (fun K hK => ?_)
    refine wp_append_src _ (.tmp 17) (.tmp 22) 22 22 rfl w.heap.size 5 i0 (.int .u8 0) 1 1 Tryz.underlying22 hi0 hz0 hz1 hz2 rfl _ _ _ rfl O6 _ n.size _ rfl hsrc (by rw [helHead_length]; simp only [maxLen]; omega) (by rw [helHead_length]; omega) st6.out.size (fun v7 w7 hown hgrow hat => ?_)
    have b7 : Below w.heap.size w w7 := Own.grown O6 st6.out st6.out.size hgrow
    have O7 : OwnK .u8 w7 w.heap.size v7 (packH n r s) := by
      unfold OwnK packH
      rw [List.length_append, M.textL_length, List.map_append]
      exact hown
    refine hK _ _ ⟨b7⟩ ?_
    obtain ⟨a7, c7, hv7, -⟩ := O7.form
    have HT := Lib.hid (And.intro O7 b7)
    clear hK K hown hgrow hat O7 b7 O6 st6 hsrc
    subst hv7
    simp only [Act.put, List.setIfInBounds_toArray, List.set_cons_zero, List.set_cons_succ]
    iterate 1 (refine line_read rfl (by kernel_rfl) (fun K hK => ?_); go_big_quiet_op; refine hK _ ?_; clear hK K)
    refine line_nil ?_
    go_wp2_with fail
    go_ret
    exact ⟨_, _, _, rfl, HT.out.1, HT.out.2⟩
theorem l6HeardW_any (g h : Nat) (n : ByteArray) (r s r2 s2 p x y f : Int) (w : World) (A1 : At g (HL3 r s n) w) (A2 : At h (RL6 r2 s2 p x y f) w) (hh : helF n.data.toList r s = 0) (h1 : M.sumB r2 = true) (h2 : pubB s2 = true) (h3 : pubB p = true) :
    Calls Tryz.prog 111 #[.pointer (some ⟨g, 0, none⟩), .pointer (some ⟨h, 0, none⟩)] w fun e w' => e = .returned (.int .i64 (M.heardL [packH n r s, frontR r2 s2 p])) ∧ Below w.heap.size w w' := by
  have P1 := fun w A => l6PackHello_any g r s n w A hh
  have P2 := fun w A => l6Front_any h r2 s2 p x y f w A h1 (pub_sum6 h2) (pub_sum6 h3)
  have HW := Lib.hid (And.intro (fun z hz => byte_wf (packH_byte hh z hz)) (fun z hz => byte_wf (frontR_byte h1 h2 h3 z hz)))
  generalize packH n r s = z1 at *
  generalize frontR r2 s2 p = z2 at *
  have F3 := fun a len cap B w G hB hl => l2Heard_any a len cap B [z1, z2] w G hB hl
  generalize M.heardL [z1, z2] = hv at *
  go_enter Tryz.func111, Tryz.ntmps111
  go_wp2_with fail
  refine (P1 _ A1).mono ?_
  rintro e u1 ⟨a1, n1, c1, rfl, O1, b1⟩
  go_wp2_with fail
  refine (P2 _ (A2.on b1)).mono ?_
  rintro e u2 ⟨a2, n2, c2, rfl, O2, b2⟩
  have G := grid_two 22 ((Own.row O1 HW.out.1).on b2) (Own.row O2 HW.out.2)
  have B3 := bal (btr b1 b2) (.cells #[.slice a1 n1 c1, .slice a2 n2 c2] 22)
  have hle : u2.heap.size + 1 ≤ (u2.alloc (.cells #[.slice a1 n1 c1, .slice a2 n2 c2] 22)).heap.size := by simp
  clear O1 O2 b1 b2 P1 P2
  go_wp2_with fail
  generalize u2.alloc (.cells #[.slice a1 n1 c1, .slice a2 n2 c2] 22) = v2 at *
  refine (F3 _ _ _ _ _ G hle (by omega)).mono ?_
  rintro e u3 ⟨rfl, b3⟩
  have hb := btr B3 b3
  clear G
  go_wp2_with fail
  go_ret
  exact ⟨rfl, hb⟩
theorem l6Heard1_any (g h : Nat) (q : Int) (n : ByteArray) (r s r2 s2 p x y f : Int) (w : World) (A1 : At g (HL4 q r s n) w) (A2 : At h (RL6 r2 s2 p x y f) w) (hh : helF n.data.toList r s = 0) (h1 : M.sumB r2 = true) (h2 : pubB s2 = true) (h3 : pubB p = true) :
    Calls Tryz.prog 111 #[.pointer (some ⟨g, 1, none⟩), .pointer (some ⟨h, 0, none⟩)] w fun e w' => e = .returned (.int .i64 (M.heardL [packH n r s, frontR r2 s2 p])) ∧ Below w.heap.size w w' := by
  have P1 := fun w A => l6PackHello1_any g q r s n w A hh
  have P2 := fun w A => l6Front_any h r2 s2 p x y f w A h1 (pub_sum6 h2) (pub_sum6 h3)
  have HW := Lib.hid (And.intro (fun z hz => byte_wf (packH_byte hh z hz)) (fun z hz => byte_wf (frontR_byte h1 h2 h3 z hz)))
  generalize packH n r s = z1 at *
  generalize frontR r2 s2 p = z2 at *
  have F3 := fun a len cap B w G hB hl => l2Heard_any a len cap B [z1, z2] w G hB hl
  generalize M.heardL [z1, z2] = hv at *
  go_enter Tryz.func111, Tryz.ntmps111
  go_wp2_with fail
  refine (P1 _ A1).mono ?_
  rintro e u1 ⟨a1, n1, c1, rfl, O1, b1⟩
  go_wp2_with fail
  refine (P2 _ (A2.on b1)).mono ?_
  rintro e u2 ⟨a2, n2, c2, rfl, O2, b2⟩
  have G := grid_two 22 ((Own.row O1 HW.out.1).on b2) (Own.row O2 HW.out.2)
  have B3 := bal (btr b1 b2) (.cells #[.slice a1 n1 c1, .slice a2 n2 c2] 22)
  have hle : u2.heap.size + 1 ≤ (u2.alloc (.cells #[.slice a1 n1 c1, .slice a2 n2 c2] 22)).heap.size := by simp
  clear O1 O2 b1 b2 P1 P2
  go_wp2_with fail
  generalize u2.alloc (.cells #[.slice a1 n1 c1, .slice a2 n2 c2] 22) = v2 at *
  refine (F3 _ _ _ _ _ G hle (by omega)).mono ?_
  rintro e u3 ⟨rfl, b3⟩
  have hb := btr B3 b3
  clear G
  go_wp2_with fail
  go_ret
  exact ⟨rfl, hb⟩
end Go.Proofs.YtlodhleihnlchaaGreatDoor
