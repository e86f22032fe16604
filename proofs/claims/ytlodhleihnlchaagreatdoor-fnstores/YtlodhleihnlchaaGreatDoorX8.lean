/- Texts of this seat that several laws rest on, laid into one. Conditions: as each theorem states. -/
import Derived.Test.YtlodhleihnlchaaGreatDoorX2
import Derived.Test.YtlodhleihnlchaaGreatDoorX4
import Derived.Test.YtlodhleihnlchaaGreatDoorX5
import Derived.Test.YtlodhleihnlchaaGreatDoorX7
namespace Go.Proofs.YtlodhleihnlchaaGreatDoor
open Go.RowKit
set_option maxRecDepth 100000
set_option linter.unusedVariables false

theorem At.newN {w : World} (cs : List Value) (t : TypeId) {n : Nat} (h : w.heap.size = n) : At n cs (w.alloc (.cells cs.toArray t)) := h ▸ At.new w cs t
section
variable {w w' : World} {B B' : Nat} {a : Option Addr} {len cap : Nat} {ps : List RollD}
end

section
variable {w w' : World} {B : Nat} {v : Value} {ps : List RollD}
end
end Go.Proofs.YtlodhleihnlchaaGreatDoor
namespace Go.Proofs.YtlodhleihnlchaaGreatDoor
open Go.RowKit
set_option maxRecDepth 100000

/-! Whole numbers below 2879 as floats, and back. -/
def floatBackB (n : Nat) : Bool := floatToIntVal .f64 (floatOfInt .f64 (n : Int)) .i64 == some (n : Int)
theorem float_all : M.allB floatBackB 2879 = true := by decide +kernel
theorem float_back {n : Int} (h0 : 0 ≤ n) (h1 : n ≤ 2878) : floatToIntVal .f64 (floatOfInt .f64 n) .i64 = some n := by
  obtain ⟨n, rfl⟩ := Int.eq_ofNat_of_zero_le h0
  have h := M.allB_out float_all (k := n) (by omega)
  simp only [floatBackB, beq_iff_eq] at h
  exact h
def pairV (p q : Int) : Value := .complex .f64 (floatOfInt .f64 p) (floatOfInt .f64 q)

theorem point_any (p q : Int) (w : World) (h0 : 0 ≤ p) (h1 : p ≤ 2878) :
    Calls Tryz.prog 181 #[pairV p q] w fun r w' => r = .returned (.int .i64 p) ∧ w = w' := by
  have hf := float_back h0 h1
  have hc := fun (w : World) => run_convert_float_int (P := Tryz.prog) w 316 2 .f64 .i64 (floatOfInt .f64 p) p (by kernel_rfl) Tryz.underlying2 hf
  unfold pairV
  go_enter Tryz.func181, Tryz.ntmps181
  go_wp2_with fail
  go_ret
  simp
theorem proof_any (p q : Int) (w : World) (h0 : 0 ≤ q) (h1 : q ≤ 2878) :
    Calls Tryz.prog 182 #[pairV p q] w fun r w' => r = .returned (.int .i64 q) ∧ w = w' := by
  have hf := float_back h0 h1
  have hc := fun (w : World) => run_convert_float_int (P := Tryz.prog) w 316 2 .f64 .i64 (floatOfInt .f64 q) q (by kernel_rfl) Tryz.underlying2 hf
  unfold pairV
  go_enter Tryz.func182, Tryz.ntmps182
  go_wp2_with fail
  go_ret
  simp

theorem pairOf_yes (p q : Int) (w : World) (h : M.sigB p q = true) :
    Calls Tryz.prog 179 #[I2 p q] w fun r w' => r = .returned (.tuple #[pairV p q, .nilIface]) ∧ Below w.heap.size w w' := by
  obtain ⟨p0, p1, q0, q1⟩ := M.sigB_bd h
  have hp : pubB p = true := by simp only [M.sigB, Bool.and_eq_true] at h; exact h.1
  unfold pairV
  clear h
  go_enter Tryz.func179, Tryz.ntmps179
  go_wp2_with fail
  refine (implIsPublic_any _ _).mono ?_
  rintro r w1 ⟨rfl, hb_w1⟩
  obtain ⟨hc_w1, hf_w1⟩ := bcell hb_w1
  have hz_w1 := hb_w1.size
  (try simp at hz_w1)
  go_wp2_with fail
  go_ret2
  exact ⟨rfl, btr (bal (Below.refl _ _) _) hb_w1⟩
def PairNo (w : World) (r : Ending) (w' : World) : Prop := ∃ s v, r = .returned (.tuple #[v, misV 3 s]) ∧ Below w.heap.size w w'
theorem pairOf_no (p q : Int) (w : World) (h : M.sigB p q = false) :
    Calls Tryz.prog 179 #[I2 p q] w (PairNo w) := by
  cases hp : pubB p
  · clear h
    go_enter Tryz.func179, Tryz.ntmps179
    go_wp2_with fail
    refine (implIsPublic_any _ _).mono ?_
    rintro r w1 ⟨rfl, hb_w1⟩
    obtain ⟨hc_w1, hf_w1⟩ := bcell hb_w1
    have hz_w1 := hb_w1.size
    (try simp at hz_w1)
    go_wp2_with fail
    go_ret2
    exact ⟨_, _, rfl, btr (bal (Below.refl _ _) _) hb_w1⟩
  · have hq : ¬ (0 ≤ q ∧ q ≤ 1438) := by
      intro hq
      simp only [M.sigB, hp, inB, hq, and_self, decide_true, Bool.and_self] at h
      cases h
    clear h
    by_cases q0 : q < 0
    · go_enter Tryz.func179, Tryz.ntmps179
      go_wp2_with fail
      refine (implIsPublic_any _ _).mono ?_
      rintro r w1 ⟨rfl, hb_w1⟩
      obtain ⟨hc_w1, hf_w1⟩ := bcell hb_w1
      have hz_w1 := hb_w1.size
      (try simp at hz_w1)
      go_wp2_with fail
      go_ret2
      exact ⟨_, _, rfl, btr (bal (Below.refl _ _) _) hb_w1⟩
    · have q1 : 1438 < q := by omega
      clear hq
      go_enter Tryz.func179, Tryz.ntmps179
      go_wp2_with fail
      refine (implIsPublic_any _ _).mono ?_
      rintro r w1 ⟨rfl, hb_w1⟩
      obtain ⟨hc_w1, hf_w1⟩ := bcell hb_w1
      have hz_w1 := hb_w1.size
      (try simp at hz_w1)
      go_wp2_with fail
      go_ret2
      exact ⟨_, _, rfl, btr (bal (Below.refl _ _) _) hb_w1⟩

theorem challenge_any (p q t : Int) (w : World) (hL : Labels w) (hp : M.sumB p = true) (hq : M.sumB q = true) (ht : M.sumB t = true) :
    Calls Tryz.prog 180 #[.int .i64 p, .int .i64 q, .int .i64 t] w fun r w' => r = .returned (.int .i64 (M.chalN p q t)) ∧ Below w.heap.size w w' := by
  have hlab := hL.signW
  have hlt := hL.lt
  have hR := row_three (w := w) p q t 2 hp hq ht
  have HA := Lib.hid (show [p, q, t].all M.sumB = true by simp [hp, hq, ht])
  obtain ⟨t0, t1⟩ := M.tagL_bd M.signS [p, q, t]
  unfold M.chalN
  clear hL hp hq ht
  go_enter Tryz.func180, Tryz.ntmps180
  go_wp2_with fail
  refine (sumTagged_any _ _ _ _ _ _ _ (by decide) hR (by simp) HA.out (by omega)).mono ?_
  rintro r w2 ⟨rfl, hb2⟩
  have hb := btr (bal (Below.refl _ _) _) hb2
  clear hb2 hR hlab HA
  go_wp2_with fail
  go_ret
  exact ⟨rfl, hb⟩

theorem l3Nonce_any (s t : Int) (w : World) (hs : M.sumB s = true) (ht : M.sumB t = true) :
    Calls Tryz.prog 258 #[.int .i64 s, .int .i64 t] w fun r w' => r = .returned (.int .i64 (M.nonceN s t)) ∧ Below w.heap.size w w' := by
  have hR := row_two (w := w) s t 2 hs ht
  have HA := Lib.hid (show [s, t].all M.sumB = true by simp [hs, ht])
  obtain ⟨t0, t1⟩ := M.tagL_bd M.nonceS [s, t]
  unfold M.nonceN
  clear hs ht
  go_enter Tryz.func258, Tryz.ntmps258
  go_wp2_with fail
  refine (l2Tag_any M.nonceS _ _ _ _ _ _ (by decide) hR (by simp) HA.out (by omega)).mono ?_
  rintro r w2 ⟨rfl, hb2⟩
  have hb := btr (bal (Below.refl _ _) _) hb2
  clear hb2 hR HA
  go_wp2_with fail
  go_ret
  exact ⟨rfl, hb⟩
theorem l3Challenge_any (p q t : Int) (w : World) (hp : M.sumB p = true) (hq : M.sumB q = true) (ht : M.sumB t = true) :
    Calls Tryz.prog 259 #[.int .i64 p, .int .i64 q, .int .i64 t] w fun r w' => r = .returned (.int .i64 (M.chalN p q t)) ∧ Below w.heap.size w w' := by
  have hR := row_three (w := w) p q t 2 hp hq ht
  have HA := Lib.hid (show [p, q, t].all M.sumB = true by simp [hp, hq, ht])
  obtain ⟨t0, t1⟩ := M.tagL_bd M.signS [p, q, t]
  unfold M.chalN
  clear hp hq ht
  go_enter Tryz.func259, Tryz.ntmps259
  go_wp2_with fail
  refine (l2Tag_any M.signS _ _ _ _ _ _ (by decide) hR (by simp) HA.out (by omega)).mono ?_
  rintro r w2 ⟨rfl, hb2⟩
  have hb := btr (bal (Below.refl _ _) _) hb2
  clear hb2 hR HA
  go_wp2_with fail
  go_ret
  exact ⟨rfl, hb⟩

theorem l3Fault_at (g o : Nat) (p q : Int) (w : World) (c0 : w.cell? ⟨g, o, none⟩ = some (.int .i64 p)) (c1 : w.cell? ⟨g, o + 1, none⟩ = some (.int .i64 q)) :
    Calls Tryz.prog 199 #[.pointer (some ⟨g, o, none⟩)] w fun r w' => r = .returned (.int .i64 (M.sigF p q)) ∧ w = w' := by
  cases hp : pubB p
  · have E : M.sigF p q = 3 := by simp [M.sigF, M.sigB, hp]
    rw [E]; clear E
    go_enter Tryz.func199, Tryz.ntmps199
    go_wp2_with fail
    refine (l1Public_any _ _).mono ?_
    rintro r w' ⟨rfl, rfl⟩
    go_wp2_with fail
    go_ret
    simp
  cases hq : inB q 0 1438
  · have E : M.sigF p q = 3 := by simp [M.sigF, M.sigB, hq]
    rw [E]; clear E
    go_enter Tryz.func199, Tryz.ntmps199
    go_wp2_with fail
    refine (l1Public_any _ _).mono ?_
    rintro r w' ⟨rfl, rfl⟩
    go_wp2_with fail
    refine (l1In_any _ _ _ _).mono ?_
    rintro r w' ⟨rfl, rfl⟩
    go_wp2_with fail
    go_ret
    simp
  · have E : M.sigF p q = 0 := by simp [M.sigF, M.sigB, hp, hq]
    rw [E]; clear E
    go_enter Tryz.func199, Tryz.ntmps199
    go_wp2_with fail
    refine (l1Public_any _ _).mono ?_
    rintro r w' ⟨rfl, rfl⟩
    go_wp2_with fail
    refine (l1In_any _ _ _ _).mono ?_
    rintro r w' ⟨rfl, rfl⟩
    go_wp2_with fail
    go_ret
    simp
end Go.Proofs.YtlodhleihnlchaaGreatDoor
namespace Go.Proofs.YtlodhleihnlchaaGreatDoor
open Go.RowKit
set_option maxRecDepth 100000

end Go.Proofs.YtlodhleihnlchaaGreatDoor
namespace Go.Proofs.YtlodhleihnlchaaGreatDoor
open Go.RowKit
set_option maxRecDepth 100000

theorem kf0 (a b : Int) (w : World) : Sem.run Tryz.prog (Instr.field 119 (.agg #[.int .i64 a, .int .i64 b]) 0) w = .ok (.int .i64 a) w := by kernel_rfl
theorem kf1 (a b : Int) (w : World) : Sem.run Tryz.prog (Instr.field 119 (.agg #[.int .i64 a, .int .i64 b]) 1) w = .ok (.int .i64 b) w := by kernel_rfl

theorem l3Sign_any (s t : Int) (w : World) (hs : inB s 1 1438 = true) (ht : M.sumB t = true) :
    Calls Tryz.prog 192 #[.int .i64 s, .int .i64 t] w fun r w' => r = .returned (I2 (M.sigPt s t) (M.sigPr s t)) ∧ Below w.heap.size w w' := by
  have hs' := hs
  simp only [inB, decide_eq_true_eq] at hs'
  obtain ⟨s0, s1⟩ := hs'
  have hS := M.sum_of_sec hs
  have e1 : M.sigPt s t = M.pw 4 (M.nonceN s t).toNat 2879 := rfl
  have e2 : M.sigPr s t = (M.nonceN s t + M.chalN (M.pw 4 s.toNat 2879) (M.pw 4 (M.nonceN s t).toNat 2879) t * s) % 1439 := rfl
  rw [e1, e2]
  clear e1 e2
  obtain ⟨n0, n1⟩ := M.nonceN_bd s t
  obtain ⟨c0, c1⟩ := M.chalN_bd (M.pw 4 s.toNat 2879) (M.pw 4 (M.nonceN s t).toNat 2879) t
  obtain ⟨m0, m1⟩ := M.mul_bd (M := 1439) c0 (by omega) (show 0 ≤ s by omega) (by omega) (by omega)
  have hp1 := M.pow_sum (a := 4) s.toNat
  have hp2 := M.pow_sum (a := 4) (M.nonceN s t).toNat
  have K1 := fun w => l1Key_any s w (by omega) (by omega)
  have K2 := fun w => l1Key_any (M.nonceN s t) w (by omega) (by omega)
  generalize M.pw 4 s.toNat 2879 = U at *
  generalize M.pw 4 (M.nonceN s t).toNat 2879 = P at *
  have g0 := kf0
  have g1 := kf1
  have N1 := fun w => l3Nonce_any s t w hS ht
  generalize M.nonceN s t = n at *
  go_enter Tryz.func192, Tryz.ntmps192
  go_wp2_with fail
  refine (N1 _).mono ?_
  rintro r w1 ⟨rfl, h1⟩
  go_wp2_with fail
  refine (K2 _).mono ?_
  rintro r w2 ⟨rfl, h2⟩
  have k0 : (w2.alloc (.cells #[.int .i64 n, .int .i64 P] 119)).drew.cell? ⟨w2.heap.size, 0, none⟩ = some (.int .i64 n) := by go_simp
  have k1 : (w2.alloc (.cells #[.int .i64 n, .int .i64 P] 119)).drew.cell? ⟨w2.heap.size, 1, none⟩ = some (.int .i64 P) := by go_simp
  have hbel := (bal (btr h1 h2) (.cells #[.int .i64 n, .int .i64 P] 119)).drew
  have hR0 := Res2.new w 31
  have hb0 := bal (Below.refl _ w) (.cells #[.int .i64 0, .int .i64 0] 31)
  clear h1 h2
  go_wp2_with fail
  generalize w2.alloc (.cells #[.int .i64 n, .int .i64 P] 119) = v2 at *
  generalize w.alloc (.cells #[.int .i64 0, .int .i64 0] 31) = W0 at *
  go_region_held3 (fun w' => w'.cell? ⟨w2.heap.size, 1, none⟩ = some (.int .i64 P)) (first | exact k1) (first | (go_at_call 187; refine (K1 _).mono ?_; rintro r wn ⟨rfl, hbn⟩; have pk := cell_keep hbn k0; clear k0; have k0 := pk; clear pk; have pk := cell_keep hbn k1; clear k1; have k1 := pk; clear pk; have bk := btr hbel hbn; clear hbel; have hbel := bk; clear bk hbn) | (go_at_call 259; refine (l3Challenge_any _ _ _ _ hp1 hp2 ht).mono ?_; rintro r wn ⟨rfl, hbn⟩; have pk := cell_keep hbn k0; clear k0; have k0 := pk; clear pk; have pk := cell_keep hbn k1; clear k1; have k1 := pk; clear pk; have bk := btr hbel hbn; clear hbel; have hbel := bk; clear bk hbn))
  all_goals
    obtain ⟨q0, q1, z0, z1⟩ := hR0.on hbel
    go_wp2_with fail
    exact bodyPost_ret (v := I2 P ((n + M.chalN U P t * s) % 1439)) (by simp [results, Tryz.results192, go_sem, q0, q1]) rfl ⟨rfl, bset (bset (btr hb0 hbel) (Nat.le_refl _) _) (Nat.le_refl _) _⟩

theorem checkB_yes {u t p q : Int} (hu : pubB u = true) (ht : M.sumB t = true) (hg : M.sigB p q = true) : M.checkB u t p q = (M.pw 4 q.toNat 2879 == p * M.pw u (M.chalN u p t).toNat 2879 % 2879) := by
  simp only [M.checkB, hu, ht, hg, Bool.and_self, Bool.true_and]

theorem l3Check_at (u t : Int) (g o : Nat) (p q : Int) (w : World) (d0 : w.cell? ⟨g, o, none⟩ = some (.int .i64 p)) (d1 : w.cell? ⟨g, o + 1, none⟩ = some (.int .i64 q)) :
    Calls Tryz.prog 255 #[.int .i64 u, .int .i64 t, .pointer (some ⟨g, o, none⟩)] w fun r w' => r = .returned (.bool (M.checkB u t p q)) ∧ Below w.heap.size w w' := by
  cases hu : pubB u
  · have E : M.checkB u t p q = false := by simp [M.checkB, hu]
    rw [E]; clear E
    go_enter Tryz.func255, Tryz.ntmps255
    go_wp2_with fail
    refine (l1Public_any _ _).mono ?_
    rintro r w' ⟨rfl, rfl⟩
    go_wp2_with fail
    go_ret
    exact ⟨rfl, Below.refl _ _⟩
  cases ht : M.sumB t
  · have E : M.checkB u t p q = false := by simp [M.checkB, ht]
    rw [E]; clear E
    go_enter Tryz.func255, Tryz.ntmps255
    go_wp2_with fail
    refine (l1Public_any _ _).mono ?_
    rintro r w' ⟨rfl, rfl⟩
    go_wp2_with fail
    refine (l2Is_any _ _).mono ?_
    rintro r w' ⟨rfl, rfl⟩
    go_wp2_with fail
    go_ret
    exact ⟨rfl, Below.refl _ _⟩
  cases hg : M.sigB p q
  · have E : M.checkB u t p q = false := by simp [M.checkB, hg]
    have F : M.sigF p q = 3 := by simp [M.sigF, hg]
    rw [E]; clear E
    have F1 := l3Fault_at g o p q w d0 d1
    rw [F] at F1
    go_enter Tryz.func255, Tryz.ntmps255
    go_wp2_with fail
    refine (l1Public_any _ _).mono ?_
    rintro r w' ⟨rfl, rfl⟩
    go_wp2_with fail
    refine (l2Is_any _ _).mono ?_
    rintro r w' ⟨rfl, rfl⟩
    go_wp2_with fail
    refine (F1).mono ?_
    rintro r w' ⟨rfl, rfl⟩
    go_wp2_with fail
    go_ret
    exact ⟨rfl, Below.refl _ _⟩
  rw [checkB_yes hu ht hg]
  have F : M.sigF p q = 0 := by simp [M.sigF, hg]
  have F1 := l3Fault_at g o p q w d0 d1
  rw [F] at F1
  clear F
  obtain ⟨p0, p1, q0, q1⟩ := M.sigB_bd hg
  obtain ⟨u0, u1⟩ := pubB_bd hu
  have hp : pubB p = true := by simp only [M.sigB, Bool.and_eq_true] at hg; exact hg.1
  have C1 := fun w => l3Challenge_any u p t w (M.sum_of_pub hu) (M.sum_of_pub hp) ht
  obtain ⟨c0, c1⟩ := M.chalN_bd u p t
  generalize M.chalN u p t = e at *
  have A1 := fun w => l1Raise_int 4 q w (by omega) (by omega) (by omega) (by omega)
  have A2 := fun w => l1Raise_int u e w (by omega) (by omega) (by omega) (by omega)
  obtain ⟨x0, x1⟩ := M.pw_bd u e.toNat (m := 2879) (by omega)
  obtain ⟨m0, m1⟩ := M.mul_bd (M := 2879) (show 0 ≤ p by omega) (by omega) x0 x1 (by omega)
  generalize M.pw 4 q.toNat 2879 = X at *
  generalize M.pw u e.toNat 2879 = Y at *
  have EW := Lib.hid (show IntKind.i64.wrap (p * Y) = p * Y ∧ (p * Y).tmod 2879 = p * Y % 2879 from ⟨by rw [IntKind.wrap_i64]; omega, Int.tmod_eq_emod_of_nonneg m0⟩)
  go_enter Tryz.func255, Tryz.ntmps255
  go_wp2_with fail
  refine (l1Public_any _ _).mono ?_
  rintro r w' ⟨rfl, rfl⟩
  go_wp2_with fail
  refine (l2Is_any _ _).mono ?_
  rintro r w' ⟨rfl, rfl⟩
  go_wp2_with fail
  refine (F1).mono ?_
  rintro r w' ⟨rfl, rfl⟩
  go_wp2_with fail
  refine (C1 _).mono ?_
  rintro r w1 ⟨rfl, h1⟩
  have k0 : w1.drew.cell? ⟨g, o, none⟩ = some (.int .i64 p) := cell_keep h1 d0
  have k1 : w1.drew.cell? ⟨g, o + 1, none⟩ = some (.int .i64 q) := cell_keep h1 d1
  have hbel : Below w.heap.size w w1.drew := h1.drew
  clear h1 d0 d1 F1
  go_wp2_with fail
  go_region_held3 (fun w' => w'.cell? ⟨g, o, none⟩ = some (.int .i64 p) ∧ w'.cell? ⟨g, o + 1, none⟩ = some (.int .i64 q)) (first | exact ⟨k0, k1⟩) (first | (go_at_call 251; refine (A1 _).mono ?_; rintro r wn ⟨rfl, rfl⟩) | (go_at_call 251; refine (A2 _).mono ?_; rintro r wn ⟨rfl, rfl⟩))
  all_goals
    go_wp2_with fail
    go_ret
    exact ⟨by show Ending.returned (Value.bool (X == (IntKind.i64.wrap (p * Y)).tmod 2879)) = _; rw [EW.out.1, EW.out.2], hbel⟩
theorem implCheckSign_any (u t p q : Int) (w : World) (hL : Labels w) :
    Calls Tryz.prog 80 #[.int .i64 u, .int .i64 t, I2 p q] w fun r w' => r = .returned (.bool (M.checkB u t p q)) ∧ Below w.heap.size w w' := by
  cases hg : M.sigB p q
  · have E : M.checkB u t p q = false := by simp [M.checkB, hg]
    rw [E]; clear E
    go_enter Tryz.func80, Tryz.ntmps80
    go_wp2_with fail
    refine (pairOf_no p q _ hg).mono ?_
    rintro r w1 ⟨s, v, rfl, h1⟩
    go_wp2_with fail
    go_ret
    exact ⟨rfl, btr (bal (Below.refl _ w) _) h1⟩
  cases hu : pubB u
  · have E : M.checkB u t p q = false := by simp [M.checkB, hu]
    rw [E]; clear E
    go_enter Tryz.func80, Tryz.ntmps80
    go_wp2_with fail
    refine (pairOf_yes p q _ hg).mono ?_
    rintro r w1 ⟨rfl, h1⟩
    go_wp2_with fail
    refine (implIsPublic_any _ _).mono ?_
    rintro r w2 ⟨rfl, hb_w2⟩
    obtain ⟨hc_w2, hf_w2⟩ := bcell hb_w2
    have hz_w2 := hb_w2.size
    (try simp at hz_w2)
    go_wp2_with fail
    go_ret
    exact ⟨rfl, btr (btr (bal (Below.refl _ w) _) h1) hb_w2⟩
  cases ht : M.sumB t
  · have E : M.checkB u t p q = false := by simp [M.checkB, ht]
    rw [E]; clear E
    go_enter Tryz.func80, Tryz.ntmps80
    go_wp2_with fail
    refine (pairOf_yes p q _ hg).mono ?_
    rintro r w1 ⟨rfl, h1⟩
    go_wp2_with fail
    refine (implIsPublic_any _ _).mono ?_
    rintro r w2 ⟨rfl, hb_w2⟩
    obtain ⟨hc_w2, hf_w2⟩ := bcell hb_w2
    have hz_w2 := hb_w2.size
    (try simp at hz_w2)
    go_wp2_with fail
    refine (isSum_any _ _).mono ?_
    rintro r w' ⟨rfl, rfl⟩
    go_wp2_with fail
    go_ret
    exact ⟨rfl, btr (btr (bal (Below.refl _ w) _) h1) hb_w2⟩
  rw [checkB_yes hu ht hg]
  obtain ⟨p0, p1, q0, q1⟩ := M.sigB_bd hg
  obtain ⟨u0, u1⟩ := pubB_bd hu
  have hp : pubB p = true := by simp only [M.sigB, Bool.and_eq_true] at hg; exact hg.1
  have C1 := fun w hL => challenge_any u p t w hL (M.sum_of_pub hu) (M.sum_of_pub hp) ht
  have P1 := fun w => point_any p q w (by omega) (by omega)
  have P2 := fun w => proof_any p q w (by omega) (by omega)
  have Y1 := fun w => pairOf_yes p q w hg
  obtain ⟨c0, c1⟩ := M.chalN_bd u p t
  generalize M.chalN u p t = e at *
  have A1 := fun w => power_int 2879 4 q w (by omega) (by omega) (by omega) (by omega) (by omega) (by omega)
  have A2 := fun w => power_int 2879 u e w (by omega) (by omega) (by omega) (by omega) (by omega) (by omega)
  obtain ⟨x0, x1⟩ := M.pw_bd u e.toNat (m := 2879) (by omega)
  generalize M.pw 4 q.toNat 2879 = X at *
  generalize M.pw u e.toNat 2879 = Y at *
  generalize pairV p q = V at *
  go_enter Tryz.func80, Tryz.ntmps80
  go_wp2_with fail
  refine (Y1 _).mono ?_
  rintro r w1 ⟨rfl, h1⟩
  go_wp2_with fail
  refine (implIsPublic_any _ _).mono ?_
  rintro r w2 ⟨rfl, h2⟩
  have b2 := btr (btr (bal (Below.refl _ w) _) h1) h2
  clear h1 h2
  go_wp2_with fail
  refine (isSum_any _ _).mono ?_
  rintro r w' ⟨rfl, rfl⟩
  go_wp2_with fail
  refine (P1 _).mono ?_
  rintro r w' ⟨rfl, rfl⟩
  go_wp2_with fail
  refine (C1 _ (hL.on b2)).mono ?_
  rintro r w3 ⟨rfl, h3⟩
  have b3 := btr b2 h3
  clear b2 h3
  go_wp2_with fail
  refine (A2 _).mono ?_
  rintro r w4 ⟨rfl, h4⟩
  have b4 := btr b3 h4
  clear b3 h4
  go_wp2_with fail
  refine (P2 _).mono ?_
  rintro r w' ⟨rfl, rfl⟩
  go_wp2_with fail
  refine (A1 _).mono ?_
  rintro r w5 ⟨rfl, h5⟩
  have b5 := btr b4 h5
  clear b4 h5
  go_wp2_with fail
  refine (P1 _).mono ?_
  rintro r w' ⟨rfl, rfl⟩
  go_wp2_with fail
  refine (product_two 2879 p Y _ _ (by omega) (by omega) (by omega) (by omega) x0 x1 (by go_simp) (by go_simp)).mono ?_
  rintro r w6 ⟨rfl, rfl⟩
  go_wp2_with fail
  go_ret
  exact ⟨rfl, bal b5 _⟩

end Go.Proofs.YtlodhleihnlchaaGreatDoor
namespace Go.Proofs.YtlodhleihnlchaaGreatDoor
open Go.RowKit
set_option maxRecDepth 100000
set_option linter.unusedVariables false

def liveB (p : PinD) (t : Int) : Bool := decide (p.f = 0) && timB t && decide (t ≤ p.u)
theorem implIsLive_any (p : PinD) (t : Int) (w : World) (hn : p.n.size ≤ maxLen) :
    Calls Tryz.prog 58 #[P5 p, .int .i64 t] w fun e w' => e = .returned (.bool (liveB p t)) ∧ Below w.heap.size w w' := by
  have b0 := bal (Below.refl _ w) (.cells #[.string p.n, .int .i64 p.a, .int .i64 p.b, .int .i64 p.e, .int .i64 p.u] 59)
  have A0 : At w.heap.size p.vals (w.alloc (.cells #[.string p.n, .int .i64 p.a, .int .i64 p.b, .int .i64 p.e, .int .i64 p.u] 59)) := At.new w p.vals 59
  have F := fun w => implPinFault_any p w hn
  by_cases h0 : p.f = 0
  · rw [h0] at F
    cases ht : timB t
    · rw [show liveB p t = false by simp [liveB, ht]]
      go_enter Tryz.func58, Tryz.ntmps58
      go_wp2_with fail
      generalize w.alloc (.cells #[.string p.n, .int .i64 p.a, .int .i64 p.b, .int .i64 p.e, .int .i64 p.u] 59) = W0 at *
      refine (F _).mono ?_
      rintro r u1 ⟨rfl, b1⟩
      have c4 := (A0.on b1).cell 4 _ rfl
      have B1 := btr b0 b1
      clear A0 b0 b1 F
      go_wp2_with fail
      refine (isTime_any _ _).mono ?_
      rintro r w' ⟨rfl, rfl⟩
      go_wp2_with fail
      go_ret
      exact ⟨rfl, B1⟩
    by_cases hu : t ≤ p.u
    · rw [show liveB p t = true by simp [liveB, h0, ht, hu]]
      go_enter Tryz.func58, Tryz.ntmps58
      go_wp2_with fail
      generalize w.alloc (.cells #[.string p.n, .int .i64 p.a, .int .i64 p.b, .int .i64 p.e, .int .i64 p.u] 59) = W0 at *
      refine (F _).mono ?_
      rintro r u1 ⟨rfl, b1⟩
      have c4 := (A0.on b1).cell 4 _ rfl
      have B1 := btr b0 b1
      clear A0 b0 b1 F
      go_wp2_with fail
      refine (isTime_any _ _).mono ?_
      rintro r w' ⟨rfl, rfl⟩
      go_wp2_with fail
      go_ret
      exact ⟨rfl, B1⟩
    · rw [show liveB p t = false by simp [liveB, hu]]
      go_enter Tryz.func58, Tryz.ntmps58
      go_wp2_with fail
      generalize w.alloc (.cells #[.string p.n, .int .i64 p.a, .int .i64 p.b, .int .i64 p.e, .int .i64 p.u] 59) = W0 at *
      refine (F _).mono ?_
      rintro r u1 ⟨rfl, b1⟩
      have c4 := (A0.on b1).cell 4 _ rfl
      have B1 := btr b0 b1
      clear A0 b0 b1 F
      go_wp2_with fail
      refine (isTime_any _ _).mono ?_
      rintro r w' ⟨rfl, rfl⟩
      go_wp2_with fail
      go_ret
      exact ⟨by simpa using hu, B1⟩
  · rw [show liveB p t = false by simp [liveB, h0]]
    generalize p.f = c at *
    have q0 : (c == 0) = false := by simpa using h0
    go_enter Tryz.func58, Tryz.ntmps58
    go_wp2_with fail
    generalize w.alloc (.cells #[.string p.n, .int .i64 p.a, .int .i64 p.b, .int .i64 p.e, .int .i64 p.u] 59) = W0 at *
    refine (F _).mono ?_
    rintro r u1 ⟨rfl, b1⟩
    have c4 := (A0.on b1).cell 4 _ rfl
    have B1 := btr b0 b1
    clear A0 b0 b1 F
    go_wp2_with fail
    go_ret
    exact ⟨rfl, B1⟩
theorem l7Live_any (g : Nat) (p : PinD) (t : Int) (w : World) (A : At g p.vals w) : Calls Tryz.prog 292 #[.pointer (some ⟨g, 0, none⟩), .int .i64 t] w fun e w' => e = .returned (.bool (decide (t ≤ p.u))) ∧ Below w.heap.size w w' := by
  have c4 := A.cell 4 _ rfl
  go_enter Tryz.func292, Tryz.ntmps292
  go_wp2_with fail
  go_ret
  exact ⟨rfl, Below.refl _ _⟩
end Go.Proofs.YtlodhleihnlchaaGreatDoor
namespace Go.Proofs.YtlodhleihnlchaaGreatDoor
open Go.RowKit
set_option maxRecDepth 100000
set_option linter.unusedVariables false

theorem At.pin {g : Nat} {r : RollD} {w : World} (A : At g r.vals w) : At g r.p.vals w := by
  have e : r.vals = r.p.vals ++ [.int .i64 r.b, .int .i64 r.x, .int .i64 r.y] := rfl
  have k : ∀ i v, r.p.vals[i]? = some v → r.vals[i]? = some v := fun i v h => by
    rw [e, List.getElem?_append_left (List.getElem?_eq_some_iff.1 h).1]
    exact h
  exact ⟨fun i v h => A.cell i v (k i v h), fun i v h => A.free i v (k i v h)⟩
theorem l8Fault_any (g : Nat) (r : RollD) (w : World) (A : At g r.vals w) (hn : r.p.n.size ≤ maxLen) :
    Calls Tryz.prog 221 #[.pointer (some ⟨g, 0, none⟩)] w fun e w' => e = .returned (.int .i64 r.f) ∧ Below w.heap.size w w' := by
  have F := fun w (A : At g r.p.vals w) => l7Fault_any g r.p w A hn
  by_cases h0 : r.p.f = 0
  · rw [h0] at F
    cases h1 : pubB r.b
    · rw [rollF_by h0 h1]
      go_enter Tryz.func221, Tryz.ntmps221
      go_wp2_with fail
      refine (F _ A.pin).mono ?_
      rintro e u1 ⟨rfl, b1⟩
      have c5 := (A.on b1).cell 5 _ rfl
      have c6 := (A.on b1).cell 6 _ rfl
      have c7 := (A.on b1).cell 7 _ rfl
      clear F
      go_wp2_with fail
      refine (l1Public_any _ _).mono ?_
      rintro r w' ⟨rfl, rfl⟩
      go_wp2_with fail
      go_ret
      exact ⟨rfl, b1⟩
    · rw [rollF_sig h0 h1]
      have S := fun w c6 c7 => l3Fault_at g 6 r.x r.y w c6 c7
      generalize M.sigF r.x r.y = c at *
      go_enter Tryz.func221, Tryz.ntmps221
      go_wp2_with fail
      refine (F _ A.pin).mono ?_
      rintro e u1 ⟨rfl, b1⟩
      have c5 := (A.on b1).cell 5 _ rfl
      have c6 := (A.on b1).cell 6 _ rfl
      have c7 := (A.on b1).cell 7 _ rfl
      clear F
      go_wp2_with fail
      refine (l1Public_any _ _).mono ?_
      rintro r w' ⟨rfl, rfl⟩
      go_wp2_with fail
      refine (S _ c6 c7).mono ?_
      rintro r w' ⟨rfl, rfl⟩
      go_wp2_with fail
      go_ret
      exact ⟨rfl, b1⟩
  · rw [rollF_pin h0]
    generalize r.p.f = c at *
    have q0 : (c == 0) = false := by simpa using h0
    go_enter Tryz.func221, Tryz.ntmps221
    go_wp2_with fail
    refine (F _ A.pin).mono ?_
    rintro e u1 ⟨rfl, b1⟩
    have c5 := (A.on b1).cell 5 _ rfl
    have c6 := (A.on b1).cell 6 _ rfl
    have c7 := (A.on b1).cell 7 _ rfl
    clear F
    go_wp2_with fail
    go_ret
    exact ⟨rfl, b1⟩
theorem l8Sum_any (g : Nat) (p : PinD) (w : World) (A : At g p.vals w) (h : p.f = 0) :
    Calls Tryz.prog 270 #[.pointer (some ⟨g, 0, none⟩)] w fun e w' => e = .returned (.int .i64 (rsum p)) ∧ Below w.heap.size w w' := by
  have hw := fun z hz => byte_wf (packP_byte h z hz)
  have P := fun w A => l7Pack_any g p w A h
  unfold rsum
  have hs := M.sumL_bd (packP p)
  have hB : M.sumB (M.sumL (packP p)) = true := by simp only [M.sumB, decide_eq_true_eq]; omega
  clear h
  generalize packP p = zs at *
  have S := fun a n c B w R => l2Sum_any a n c B zs w R
  generalize M.sumL zs = x at *
  have R1 := fun w => row_one0 (w := w) x 2 hB
  have HA := Lib.hid (show [x].all M.sumB = true by simp [hB])
  have T := fun w => l2Tag_any M.rollS _ _ _ _ _ _ (by decide) (R1 w) (by simp) HA.out (by omega)
  clear hs hB R1
  generalize M.tagL M.rollS [x] = y at *
  go_enter Tryz.func270, Tryz.ntmps270
  go_wp2_with fail
  refine (P _ A).mono ?_
  rintro r u1 ⟨a, n, c, rfl, O1, b1⟩
  have R1 := Own.row O1 hw
  clear O1 P
  go_wp2_with fail
  refine (S _ _ _ _ _ R1).mono ?_
  rintro r u2 ⟨rfl, rfl⟩
  clear R1 S
  go_wp2_with fail
  refine (T _).mono ?_
  rintro r u2 ⟨rfl, b2⟩
  have hb := btr b1 (btr (bal (Below.refl _ _) _) b2)
  clear b1 b2 T
  go_wp2_with fail
  go_ret
  exact ⟨rfl, hb⟩
set_option maxHeartbeats 2000000 in
theorem l8Check_any (g k : Nat) (o : PinD) (r : RollD) (t : Int) (w : World) (A : At g o.vals w) (Q : At k r.vals w) (ho : o.f = 0) (hr : r.f = 0) :
    Calls Tryz.prog 275 #[.pointer (some ⟨g, 0, none⟩), .pointer (some ⟨k, 0, none⟩), .int .i64 t] w fun e w' => e = .returned (.int .i64 (chk o r t)) ∧ Below w.heap.size w w' := by
  obtain ⟨-, -, -, ⟨he0, he1⟩, -⟩ := pin_bounds ho
  have TQ : (r.p.n.toList == o.n.toList) = decide (r.p.nm = o.nm) := text_beq r.p.n o.n
  have a0 := A.cell 0 _ rfl
  have c0 := Q.cell 0 _ rfl
  obtain ⟨hp, -, -⟩ := rollF_zero hr
  have L := fun g w A => l7Live_any g o t w A
  have S := fun w (Q : At k r.vals w) => l8Sum_any k r.p w Q.pin hp
  have C := fun w (Q : At k r.vals w) => l3Check_at r.b (rsum r.p) k 6 r.x r.y w (Q.cell 6 _ rfl) (Q.cell 7 _ rfl)
  clear ho hr hp
  by_cases h1 : r.p.nm = o.nm
  · rw [decide_eq_true h1] at TQ
    by_cases h2 : r.p.e = o.e + 1
    · have E2 : (r.p.e == o.e + 1) = true := by simpa using h2
      have N2 : (r.p.e != o.e + 1) = false := by simp [h2]
      by_cases h3 : r.b = o.a
      · have E3 : (r.b == o.a) = true := by simpa using h3
        have N3 : (r.b != o.a) = false := by simp [h3]
        have D3 : decide (r.b = o.a) = true := by simp [h3]
        have W3 := Lib.hid h3
        clear h3
        by_cases hu : t ≤ o.u
        · cases hc : M.checkB r.b (rsum r.p) r.x r.y
          · rw [chk_sign h1 h2 (.inl W3.out) hu hc]
            rw [hc] at C
            rw [decide_eq_true hu] at L
            generalize rsum r.p = x at *
            clear h1 h2 hu hc
            go_enter Tryz.func275, Tryz.ntmps275
            go_wp2_with fail
            refine wp_region_line (Bel w) [(0, true), (1, true), (2, true), (3, true), (4, true), (5, true), (6, true), (7, true), (8, true), (9, true), (10, true)] (by kernel_rfl) (by kernel_rfl) (fun _ _ d _ _ h => by cases d <;> exact h) (Bel.drew w) ?_
            have hst := Bel.drew w
            have inst : Nonempty (Of (Bel w)) := ⟨⟨_, hst⟩⟩
            have q0 := bel_cell a0
            have y0 := bel_cell c0
            iterate 11 (refine line_read rfl (by kernel_rfl) (fun K hK => ?_); go_big_quiet_op; refine hK _ ?_; clear hK K)
            refine line_nil ?_
            have b1 := hst.out
            have A1 := A.on b1
            have Q1 := Q.on b1
            clear hst inst q0 y0 a0 c0 A Q
            generalize w.drew = V1 at *
            have a3 := A1.cell 3 _ rfl
            have c3 := Q1.cell 3 _ rfl
            go_wp2_with fail
            refine wp_region_line (Bel V1) [(0, true), (1, true), (2, true), (3, true), (4, true), (5, true), (6, true), (7, true), (8, true), (9, true), (10, true), (11, true)] (by kernel_rfl) (by kernel_rfl) (fun _ _ d _ _ h => by cases d <;> exact h) (Bel.drew V1) ?_
            have hst := Bel.drew V1
            have inst : Nonempty (Of (Bel V1)) := ⟨⟨_, hst⟩⟩
            have q3 := bel_cell a3
            have y3 := bel_cell c3
            iterate 12 (refine line_read rfl (by kernel_rfl) (fun K hK => ?_); go_big_quiet_op; refine hK _ ?_; clear hK K)
            refine line_nil ?_
            have b3 := btr b1 hst.out
            have A3 := A1.on hst.out
            have Q3 := Q1.on hst.out
            clear hst inst q3 y3 a3 c3 A1 Q1 b1
            generalize V1.drew = V3 at *
            have a1 := A3.cell 1 _ rfl
            have a2 := A3.cell 2 _ rfl
            have c5 := Q3.cell 5 _ rfl
            go_wp2_with fail
            refine wp_region_line (Bel V3) [(0, true), (1, true), (2, true), (3, true), (4, true), (5, true), (6, true), (7, true), (8, true), (9, true), (10, true), (11, true), (12, true), (13, true), (14, true), (15, true), (16, true), (17, true), (18, true), (19, true), (20, true)] (by kernel_rfl) (by kernel_rfl) (fun _ _ d _ _ h => by cases d <;> exact h) (Bel.drew V3) ?_
            have hst := Bel.drew V3
            have inst : Nonempty (Of (Bel V3)) := ⟨⟨_, hst⟩⟩
            have q1 := bel_cell a1
            have q2 := bel_cell a2
            have y5 := bel_cell c5
            iterate 10 (refine line_read rfl (by kernel_rfl) (fun K hK => ?_); go_big_quiet_op; refine hK _ ?_; clear hK K)
            iterate 9 (refine line_skip rfl (by kernel_rfl) ?_; simp only [Act.put, List.setIfInBounds_toArray, List.set_cons_zero, List.set_cons_succ])
            iterate 2 (refine line_read rfl (by kernel_rfl) (fun K hK => ?_); go_big_quiet_op; refine hK _ ?_; clear hK K)
            refine line_nil ?_
            have b5 := btr b3 hst.out
            have A5 := A3.on hst.out
            have Q5 := Q3.on hst.out
            clear hst inst q1 q2 y5 a1 a2 c5 A3 Q3 b3
            generalize V3.drew = V5 at *
            go_wp2_with fail
            refine (L _ _ A5).mono ?_
            rintro e V7 ⟨rfl, b7⟩
            have B7 := btr b5 b7
            have Q7 := Q5.on b7
            clear b5 b7 A5 Q5 L
            have c5 := Q7.cell 5 _ rfl
            go_wp2_with fail
            refine wp_region_line (Bel V7) [(0, true), (1, true), (2, true), (3, true), (4, true), (5, true), (6, true), (8, true), (9, true), (10, true), (7, false), (11, false), (12, true), (13, true)] (by kernel_rfl) (by kernel_rfl) (fun _ _ d _ _ h => by cases d <;> exact h) (Bel.drew V7) ?_
            have hst := Bel.drew V7
            have inst : Nonempty (Of (Bel V7)) := ⟨⟨_, hst⟩⟩
            have y5 := bel_cell c5
            have QP := Q7.on hst.out
            generalize V7.drew = X at *
            iterate 10 (refine line_read rfl (by kernel_rfl) (fun K hK => ?_); go_big_quiet_op; refine hK _ ?_; clear hK K)
            refine line_alone rfl (by kernel_rfl) (fun K hK => ?_)
            refine call_wp (args := #[.pointer (some ⟨k, 0, none⟩)]) rfl (by kernel_rfl) (by kernel_rfl) (S _ (Q7.on hst.out)) (fun wn hbn => ?_)
            have hst2 := hst.on hbn
            refine hK _ _ hst2 ?_
            clear hK K hst hbn
            have hst := hst2
            clear hst2
            simp only [Act.put, List.setIfInBounds_toArray, List.set_cons_zero, List.set_cons_succ]
            refine line_alone rfl (by kernel_rfl) (fun K hK => ?_)
            refine call_wp (args := #[.int .i64 r.b, .int .i64 x, .pointer (some ⟨k, 6, none⟩)]) rfl (by kernel_rfl) (by kernel_rfl) (C _ (Q7.on hst.out)) (fun wn hbn => ?_)
            have hst2 := hst.on hbn
            refine hK _ _ hst2 ?_
            clear hK K hst hbn
            have hst := hst2
            clear hst2
            simp only [Act.put, List.setIfInBounds_toArray, List.set_cons_zero, List.set_cons_succ]
            iterate 2 (refine line_read rfl (by kernel_rfl) (fun K hK => ?_); go_big_quiet_op; refine hK _ ?_; clear hK K)
            refine line_nil ?_
            have hb := btr B7 hst.out
            clear hst inst y5 c5 Q7 B7 S C QP
            go_wp2_with fail
            go_ret
            exact ⟨rfl, hb⟩
          · rw [chk_yes h1 h2 (.inl W3.out) hu hc]
            rw [hc] at C
            rw [decide_eq_true hu] at L
            generalize rsum r.p = x at *
            clear h1 h2 hu hc
            go_enter Tryz.func275, Tryz.ntmps275
            go_wp2_with fail
            refine wp_region_line (Bel w) [(0, true), (1, true), (2, true), (3, true), (4, true), (5, true), (6, true), (7, true), (8, true), (9, true), (10, true)] (by kernel_rfl) (by kernel_rfl) (fun _ _ d _ _ h => by cases d <;> exact h) (Bel.drew w) ?_
            have hst := Bel.drew w
            have inst : Nonempty (Of (Bel w)) := ⟨⟨_, hst⟩⟩
            have q0 := bel_cell a0
            have y0 := bel_cell c0
            iterate 11 (refine line_read rfl (by kernel_rfl) (fun K hK => ?_); go_big_quiet_op; refine hK _ ?_; clear hK K)
            refine line_nil ?_
            have b1 := hst.out
            have A1 := A.on b1
            have Q1 := Q.on b1
            clear hst inst q0 y0 a0 c0 A Q
            generalize w.drew = V1 at *
            have a3 := A1.cell 3 _ rfl
            have c3 := Q1.cell 3 _ rfl
            go_wp2_with fail
            refine wp_region_line (Bel V1) [(0, true), (1, true), (2, true), (3, true), (4, true), (5, true), (6, true), (7, true), (8, true), (9, true), (10, true), (11, true)] (by kernel_rfl) (by kernel_rfl) (fun _ _ d _ _ h => by cases d <;> exact h) (Bel.drew V1) ?_
            have hst := Bel.drew V1
            have inst : Nonempty (Of (Bel V1)) := ⟨⟨_, hst⟩⟩
            have q3 := bel_cell a3
            have y3 := bel_cell c3
            iterate 12 (refine line_read rfl (by kernel_rfl) (fun K hK => ?_); go_big_quiet_op; refine hK _ ?_; clear hK K)
            refine line_nil ?_
            have b3 := btr b1 hst.out
            have A3 := A1.on hst.out
            have Q3 := Q1.on hst.out
            clear hst inst q3 y3 a3 c3 A1 Q1 b1
            generalize V1.drew = V3 at *
            have a1 := A3.cell 1 _ rfl
            have a2 := A3.cell 2 _ rfl
            have c5 := Q3.cell 5 _ rfl
            go_wp2_with fail
            refine wp_region_line (Bel V3) [(0, true), (1, true), (2, true), (3, true), (4, true), (5, true), (6, true), (7, true), (8, true), (9, true), (10, true), (11, true), (12, true), (13, true), (14, true), (15, true), (16, true), (17, true), (18, true), (19, true), (20, true)] (by kernel_rfl) (by kernel_rfl) (fun _ _ d _ _ h => by cases d <;> exact h) (Bel.drew V3) ?_
            have hst := Bel.drew V3
            have inst : Nonempty (Of (Bel V3)) := ⟨⟨_, hst⟩⟩
            have q1 := bel_cell a1
            have q2 := bel_cell a2
            have y5 := bel_cell c5
            iterate 10 (refine line_read rfl (by kernel_rfl) (fun K hK => ?_); go_big_quiet_op; refine hK _ ?_; clear hK K)
            iterate 9 (refine line_skip rfl (by kernel_rfl) ?_; simp only [Act.put, List.setIfInBounds_toArray, List.set_cons_zero, List.set_cons_succ])
            iterate 2 (refine line_read rfl (by kernel_rfl) (fun K hK => ?_); go_big_quiet_op; refine hK _ ?_; clear hK K)
            refine line_nil ?_
            have b5 := btr b3 hst.out
            have A5 := A3.on hst.out
            have Q5 := Q3.on hst.out
            clear hst inst q1 q2 y5 a1 a2 c5 A3 Q3 b3
            generalize V3.drew = V5 at *
            go_wp2_with fail
            refine (L _ _ A5).mono ?_
            rintro e V7 ⟨rfl, b7⟩
            have B7 := btr b5 b7
            have Q7 := Q5.on b7
            clear b5 b7 A5 Q5 L
            have c5 := Q7.cell 5 _ rfl
            go_wp2_with fail
            refine wp_region_line (Bel V7) [(0, true), (1, true), (2, true), (3, true), (4, true), (5, true), (6, true), (8, true), (9, true), (10, true), (7, false), (11, false), (12, true), (13, true)] (by kernel_rfl) (by kernel_rfl) (fun _ _ d _ _ h => by cases d <;> exact h) (Bel.drew V7) ?_
            have hst := Bel.drew V7
            have inst : Nonempty (Of (Bel V7)) := ⟨⟨_, hst⟩⟩
            have y5 := bel_cell c5
            have QP := Q7.on hst.out
            generalize V7.drew = X at *
            iterate 10 (refine line_read rfl (by kernel_rfl) (fun K hK => ?_); go_big_quiet_op; refine hK _ ?_; clear hK K)
            refine line_alone rfl (by kernel_rfl) (fun K hK => ?_)
            refine call_wp (args := #[.pointer (some ⟨k, 0, none⟩)]) rfl (by kernel_rfl) (by kernel_rfl) (S _ (Q7.on hst.out)) (fun wn hbn => ?_)
            have hst2 := hst.on hbn
            refine hK _ _ hst2 ?_
            clear hK K hst hbn
            have hst := hst2
            clear hst2
            simp only [Act.put, List.setIfInBounds_toArray, List.set_cons_zero, List.set_cons_succ]
            refine line_alone rfl (by kernel_rfl) (fun K hK => ?_)
            refine call_wp (args := #[.int .i64 r.b, .int .i64 x, .pointer (some ⟨k, 6, none⟩)]) rfl (by kernel_rfl) (by kernel_rfl) (C _ (Q7.on hst.out)) (fun wn hbn => ?_)
            have hst2 := hst.on hbn
            refine hK _ _ hst2 ?_
            clear hK K hst hbn
            have hst := hst2
            clear hst2
            simp only [Act.put, List.setIfInBounds_toArray, List.set_cons_zero, List.set_cons_succ]
            iterate 2 (refine line_read rfl (by kernel_rfl) (fun K hK => ?_); go_big_quiet_op; refine hK _ ?_; clear hK K)
            refine line_nil ?_
            have hb := btr B7 hst.out
            clear hst inst y5 c5 Q7 B7 S C QP
            go_wp2_with fail
            go_ret
            exact ⟨rfl, hb⟩
        · rw [chk_old h1 h2 (.inl W3.out) hu]
          rw [decide_eq_false hu] at L
          clear h1 h2 hu
          go_enter Tryz.func275, Tryz.ntmps275
          go_wp2_with fail
          refine wp_region_line (Bel w) [(0, true), (1, true), (2, true), (3, true), (4, true), (5, true), (6, true), (7, true), (8, true), (9, true), (10, true)] (by kernel_rfl) (by kernel_rfl) (fun _ _ d _ _ h => by cases d <;> exact h) (Bel.drew w) ?_
          have hst := Bel.drew w
          have inst : Nonempty (Of (Bel w)) := ⟨⟨_, hst⟩⟩
          have q0 := bel_cell a0
          have y0 := bel_cell c0
          iterate 11 (refine line_read rfl (by kernel_rfl) (fun K hK => ?_); go_big_quiet_op; refine hK _ ?_; clear hK K)
          refine line_nil ?_
          have b1 := hst.out
          have A1 := A.on b1
          have Q1 := Q.on b1
          clear hst inst q0 y0 a0 c0 A Q
          generalize w.drew = V1 at *
          have a3 := A1.cell 3 _ rfl
          have c3 := Q1.cell 3 _ rfl
          go_wp2_with fail
          refine wp_region_line (Bel V1) [(0, true), (1, true), (2, true), (3, true), (4, true), (5, true), (6, true), (7, true), (8, true), (9, true), (10, true), (11, true)] (by kernel_rfl) (by kernel_rfl) (fun _ _ d _ _ h => by cases d <;> exact h) (Bel.drew V1) ?_
          have hst := Bel.drew V1
          have inst : Nonempty (Of (Bel V1)) := ⟨⟨_, hst⟩⟩
          have q3 := bel_cell a3
          have y3 := bel_cell c3
          iterate 12 (refine line_read rfl (by kernel_rfl) (fun K hK => ?_); go_big_quiet_op; refine hK _ ?_; clear hK K)
          refine line_nil ?_
          have b3 := btr b1 hst.out
          have A3 := A1.on hst.out
          have Q3 := Q1.on hst.out
          clear hst inst q3 y3 a3 c3 A1 Q1 b1
          generalize V1.drew = V3 at *
          have a1 := A3.cell 1 _ rfl
          have a2 := A3.cell 2 _ rfl
          have c5 := Q3.cell 5 _ rfl
          go_wp2_with fail
          refine wp_region_line (Bel V3) [(0, true), (1, true), (2, true), (3, true), (4, true), (5, true), (6, true), (7, true), (8, true), (9, true), (10, true), (11, true), (12, true), (13, true), (14, true), (15, true), (16, true), (17, true), (18, true), (19, true), (20, true)] (by kernel_rfl) (by kernel_rfl) (fun _ _ d _ _ h => by cases d <;> exact h) (Bel.drew V3) ?_
          have hst := Bel.drew V3
          have inst : Nonempty (Of (Bel V3)) := ⟨⟨_, hst⟩⟩
          have q1 := bel_cell a1
          have q2 := bel_cell a2
          have y5 := bel_cell c5
          iterate 10 (refine line_read rfl (by kernel_rfl) (fun K hK => ?_); go_big_quiet_op; refine hK _ ?_; clear hK K)
          iterate 9 (refine line_skip rfl (by kernel_rfl) ?_; simp only [Act.put, List.setIfInBounds_toArray, List.set_cons_zero, List.set_cons_succ])
          iterate 2 (refine line_read rfl (by kernel_rfl) (fun K hK => ?_); go_big_quiet_op; refine hK _ ?_; clear hK K)
          refine line_nil ?_
          have b5 := btr b3 hst.out
          have A5 := A3.on hst.out
          have Q5 := Q3.on hst.out
          clear hst inst q1 q2 y5 a1 a2 c5 A3 Q3 b3
          generalize V3.drew = V5 at *
          go_wp2_with fail
          refine (L _ _ A5).mono ?_
          rintro e V7 ⟨rfl, b7⟩
          have B7 := btr b5 b7
          have Q7 := Q5.on b7
          clear b5 b7 A5 Q5 L
          go_wp2_with fail
          go_ret
          exact ⟨rfl, B7⟩
      · have E3 : (r.b == o.a) = false := by simpa using h3
        have N3 : (r.b != o.a) = true := by simp [h3]
        have D3 : decide (r.b = o.a) = false := by simp [h3]
        by_cases h4 : r.b = o.b
        · have E4 : (r.b == o.b) = true := by simpa using h4
          have N4 : (r.b != o.b) = false := by simp [h4]
          have W4 := Lib.hid h4
          clear h3 h4
          by_cases hu : t ≤ o.u
          · cases hc : M.checkB r.b (rsum r.p) r.x r.y
            · rw [chk_sign h1 h2 (.inr W4.out) hu hc]
              rw [hc] at C
              rw [decide_eq_true hu] at L
              generalize rsum r.p = x at *
              clear h1 h2 hu hc
              go_enter Tryz.func275, Tryz.ntmps275
              go_wp2_with fail
              refine wp_region_line (Bel w) [(0, true), (1, true), (2, true), (3, true), (4, true), (5, true), (6, true), (7, true), (8, true), (9, true), (10, true)] (by kernel_rfl) (by kernel_rfl) (fun _ _ d _ _ h => by cases d <;> exact h) (Bel.drew w) ?_
              have hst := Bel.drew w
              have inst : Nonempty (Of (Bel w)) := ⟨⟨_, hst⟩⟩
              have q0 := bel_cell a0
              have y0 := bel_cell c0
              iterate 11 (refine line_read rfl (by kernel_rfl) (fun K hK => ?_); go_big_quiet_op; refine hK _ ?_; clear hK K)
              refine line_nil ?_
              have b1 := hst.out
              have A1 := A.on b1
              have Q1 := Q.on b1
              clear hst inst q0 y0 a0 c0 A Q
              generalize w.drew = V1 at *
              have a3 := A1.cell 3 _ rfl
              have c3 := Q1.cell 3 _ rfl
              go_wp2_with fail
              refine wp_region_line (Bel V1) [(0, true), (1, true), (2, true), (3, true), (4, true), (5, true), (6, true), (7, true), (8, true), (9, true), (10, true), (11, true)] (by kernel_rfl) (by kernel_rfl) (fun _ _ d _ _ h => by cases d <;> exact h) (Bel.drew V1) ?_
              have hst := Bel.drew V1
              have inst : Nonempty (Of (Bel V1)) := ⟨⟨_, hst⟩⟩
              have q3 := bel_cell a3
              have y3 := bel_cell c3
              iterate 12 (refine line_read rfl (by kernel_rfl) (fun K hK => ?_); go_big_quiet_op; refine hK _ ?_; clear hK K)
              refine line_nil ?_
              have b3 := btr b1 hst.out
              have A3 := A1.on hst.out
              have Q3 := Q1.on hst.out
              clear hst inst q3 y3 a3 c3 A1 Q1 b1
              generalize V1.drew = V3 at *
              have a1 := A3.cell 1 _ rfl
              have a2 := A3.cell 2 _ rfl
              have c5 := Q3.cell 5 _ rfl
              go_wp2_with fail
              refine wp_region_line (Bel V3) [(0, true), (1, true), (2, true), (3, true), (4, true), (5, true), (6, true), (7, true), (8, true), (9, true), (10, true), (11, true), (12, true), (13, true), (14, true), (15, true), (16, true), (17, true), (18, true), (19, true), (20, true)] (by kernel_rfl) (by kernel_rfl) (fun _ _ d _ _ h => by cases d <;> exact h) (Bel.drew V3) ?_
              have hst := Bel.drew V3
              have inst : Nonempty (Of (Bel V3)) := ⟨⟨_, hst⟩⟩
              have q1 := bel_cell a1
              have q2 := bel_cell a2
              have y5 := bel_cell c5
              iterate 10 (refine line_read rfl (by kernel_rfl) (fun K hK => ?_); go_big_quiet_op; refine hK _ ?_; clear hK K)
              iterate 9 (refine line_read rfl (by kernel_rfl) (fun K hK => ?_); go_big_quiet_op; refine hK _ ?_; clear hK K)
              iterate 2 (refine line_read rfl (by kernel_rfl) (fun K hK => ?_); go_big_quiet_op; refine hK _ ?_; clear hK K)
              refine line_nil ?_
              have b5 := btr b3 hst.out
              have A5 := A3.on hst.out
              have Q5 := Q3.on hst.out
              clear hst inst q1 q2 y5 a1 a2 c5 A3 Q3 b3
              generalize V3.drew = V5 at *
              go_wp2_with fail
              refine (L _ _ A5).mono ?_
              rintro e V7 ⟨rfl, b7⟩
              have B7 := btr b5 b7
              have Q7 := Q5.on b7
              clear b5 b7 A5 Q5 L
              have c5 := Q7.cell 5 _ rfl
              go_wp2_with fail
              refine wp_region_line (Bel V7) [(0, true), (1, true), (2, true), (3, true), (4, true), (5, true), (6, true), (8, true), (9, true), (10, true), (7, false), (11, false), (12, true), (13, true)] (by kernel_rfl) (by kernel_rfl) (fun _ _ d _ _ h => by cases d <;> exact h) (Bel.drew V7) ?_
              have hst := Bel.drew V7
              have inst : Nonempty (Of (Bel V7)) := ⟨⟨_, hst⟩⟩
              have y5 := bel_cell c5
              have QP := Q7.on hst.out
              generalize V7.drew = X at *
              iterate 10 (refine line_read rfl (by kernel_rfl) (fun K hK => ?_); go_big_quiet_op; refine hK _ ?_; clear hK K)
              refine line_alone rfl (by kernel_rfl) (fun K hK => ?_)
              refine call_wp (args := #[.pointer (some ⟨k, 0, none⟩)]) rfl (by kernel_rfl) (by kernel_rfl) (S _ (Q7.on hst.out)) (fun wn hbn => ?_)
              have hst2 := hst.on hbn
              refine hK _ _ hst2 ?_
              clear hK K hst hbn
              have hst := hst2
              clear hst2
              simp only [Act.put, List.setIfInBounds_toArray, List.set_cons_zero, List.set_cons_succ]
              refine line_alone rfl (by kernel_rfl) (fun K hK => ?_)
              refine call_wp (args := #[.int .i64 r.b, .int .i64 x, .pointer (some ⟨k, 6, none⟩)]) rfl (by kernel_rfl) (by kernel_rfl) (C _ (Q7.on hst.out)) (fun wn hbn => ?_)
              have hst2 := hst.on hbn
              refine hK _ _ hst2 ?_
              clear hK K hst hbn
              have hst := hst2
              clear hst2
              simp only [Act.put, List.setIfInBounds_toArray, List.set_cons_zero, List.set_cons_succ]
              iterate 2 (refine line_read rfl (by kernel_rfl) (fun K hK => ?_); go_big_quiet_op; refine hK _ ?_; clear hK K)
              refine line_nil ?_
              have hb := btr B7 hst.out
              clear hst inst y5 c5 Q7 B7 S C QP
              go_wp2_with fail
              go_ret
              exact ⟨rfl, hb⟩
            · rw [chk_yes h1 h2 (.inr W4.out) hu hc]
              rw [hc] at C
              rw [decide_eq_true hu] at L
              generalize rsum r.p = x at *
              clear h1 h2 hu hc
              go_enter Tryz.func275, Tryz.ntmps275
              go_wp2_with fail
              refine wp_region_line (Bel w) [(0, true), (1, true), (2, true), (3, true), (4, true), (5, true), (6, true), (7, true), (8, true), (9, true), (10, true)] (by kernel_rfl) (by kernel_rfl) (fun _ _ d _ _ h => by cases d <;> exact h) (Bel.drew w) ?_
              have hst := Bel.drew w
              have inst : Nonempty (Of (Bel w)) := ⟨⟨_, hst⟩⟩
              have q0 := bel_cell a0
              have y0 := bel_cell c0
              iterate 11 (refine line_read rfl (by kernel_rfl) (fun K hK => ?_); go_big_quiet_op; refine hK _ ?_; clear hK K)
              refine line_nil ?_
              have b1 := hst.out
              have A1 := A.on b1
              have Q1 := Q.on b1
              clear hst inst q0 y0 a0 c0 A Q
              generalize w.drew = V1 at *
              have a3 := A1.cell 3 _ rfl
              have c3 := Q1.cell 3 _ rfl
              go_wp2_with fail
              refine wp_region_line (Bel V1) [(0, true), (1, true), (2, true), (3, true), (4, true), (5, true), (6, true), (7, true), (8, true), (9, true), (10, true), (11, true)] (by kernel_rfl) (by kernel_rfl) (fun _ _ d _ _ h => by cases d <;> exact h) (Bel.drew V1) ?_
              have hst := Bel.drew V1
              have inst : Nonempty (Of (Bel V1)) := ⟨⟨_, hst⟩⟩
              have q3 := bel_cell a3
              have y3 := bel_cell c3
              iterate 12 (refine line_read rfl (by kernel_rfl) (fun K hK => ?_); go_big_quiet_op; refine hK _ ?_; clear hK K)
              refine line_nil ?_
              have b3 := btr b1 hst.out
              have A3 := A1.on hst.out
              have Q3 := Q1.on hst.out
              clear hst inst q3 y3 a3 c3 A1 Q1 b1
              generalize V1.drew = V3 at *
              have a1 := A3.cell 1 _ rfl
              have a2 := A3.cell 2 _ rfl
              have c5 := Q3.cell 5 _ rfl
              go_wp2_with fail
              refine wp_region_line (Bel V3) [(0, true), (1, true), (2, true), (3, true), (4, true), (5, true), (6, true), (7, true), (8, true), (9, true), (10, true), (11, true), (12, true), (13, true), (14, true), (15, true), (16, true), (17, true), (18, true), (19, true), (20, true)] (by kernel_rfl) (by kernel_rfl) (fun _ _ d _ _ h => by cases d <;> exact h) (Bel.drew V3) ?_
              have hst := Bel.drew V3
              have inst : Nonempty (Of (Bel V3)) := ⟨⟨_, hst⟩⟩
              have q1 := bel_cell a1
              have q2 := bel_cell a2
              have y5 := bel_cell c5
              iterate 10 (refine line_read rfl (by kernel_rfl) (fun K hK => ?_); go_big_quiet_op; refine hK _ ?_; clear hK K)
              iterate 9 (refine line_read rfl (by kernel_rfl) (fun K hK => ?_); go_big_quiet_op; refine hK _ ?_; clear hK K)
              iterate 2 (refine line_read rfl (by kernel_rfl) (fun K hK => ?_); go_big_quiet_op; refine hK _ ?_; clear hK K)
              refine line_nil ?_
              have b5 := btr b3 hst.out
              have A5 := A3.on hst.out
              have Q5 := Q3.on hst.out
              clear hst inst q1 q2 y5 a1 a2 c5 A3 Q3 b3
              generalize V3.drew = V5 at *
              go_wp2_with fail
              refine (L _ _ A5).mono ?_
              rintro e V7 ⟨rfl, b7⟩
              have B7 := btr b5 b7
              have Q7 := Q5.on b7
              clear b5 b7 A5 Q5 L
              have c5 := Q7.cell 5 _ rfl
              go_wp2_with fail
              refine wp_region_line (Bel V7) [(0, true), (1, true), (2, true), (3, true), (4, true), (5, true), (6, true), (8, true), (9, true), (10, true), (7, false), (11, false), (12, true), (13, true)] (by kernel_rfl) (by kernel_rfl) (fun _ _ d _ _ h => by cases d <;> exact h) (Bel.drew V7) ?_
              have hst := Bel.drew V7
              have inst : Nonempty (Of (Bel V7)) := ⟨⟨_, hst⟩⟩
              have y5 := bel_cell c5
              have QP := Q7.on hst.out
              generalize V7.drew = X at *
              iterate 10 (refine line_read rfl (by kernel_rfl) (fun K hK => ?_); go_big_quiet_op; refine hK _ ?_; clear hK K)
              refine line_alone rfl (by kernel_rfl) (fun K hK => ?_)
              refine call_wp (args := #[.pointer (some ⟨k, 0, none⟩)]) rfl (by kernel_rfl) (by kernel_rfl) (S _ (Q7.on hst.out)) (fun wn hbn => ?_)
              have hst2 := hst.on hbn
              refine hK _ _ hst2 ?_
              clear hK K hst hbn
              have hst := hst2
              clear hst2
              simp only [Act.put, List.setIfInBounds_toArray, List.set_cons_zero, List.set_cons_succ]
              refine line_alone rfl (by kernel_rfl) (fun K hK => ?_)
              refine call_wp (args := #[.int .i64 r.b, .int .i64 x, .pointer (some ⟨k, 6, none⟩)]) rfl (by kernel_rfl) (by kernel_rfl) (C _ (Q7.on hst.out)) (fun wn hbn => ?_)
              have hst2 := hst.on hbn
              refine hK _ _ hst2 ?_
              clear hK K hst hbn
              have hst := hst2
              clear hst2
              simp only [Act.put, List.setIfInBounds_toArray, List.set_cons_zero, List.set_cons_succ]
              iterate 2 (refine line_read rfl (by kernel_rfl) (fun K hK => ?_); go_big_quiet_op; refine hK _ ?_; clear hK K)
              refine line_nil ?_
              have hb := btr B7 hst.out
              clear hst inst y5 c5 Q7 B7 S C QP
              go_wp2_with fail
              go_ret
              exact ⟨rfl, hb⟩
          · rw [chk_old h1 h2 (.inr W4.out) hu]
            rw [decide_eq_false hu] at L
            clear h1 h2 hu
            go_enter Tryz.func275, Tryz.ntmps275
            go_wp2_with fail
            refine wp_region_line (Bel w) [(0, true), (1, true), (2, true), (3, true), (4, true), (5, true), (6, true), (7, true), (8, true), (9, true), (10, true)] (by kernel_rfl) (by kernel_rfl) (fun _ _ d _ _ h => by cases d <;> exact h) (Bel.drew w) ?_
            have hst := Bel.drew w
            have inst : Nonempty (Of (Bel w)) := ⟨⟨_, hst⟩⟩
            have q0 := bel_cell a0
            have y0 := bel_cell c0
            iterate 11 (refine line_read rfl (by kernel_rfl) (fun K hK => ?_); go_big_quiet_op; refine hK _ ?_; clear hK K)
            refine line_nil ?_
            have b1 := hst.out
            have A1 := A.on b1
            have Q1 := Q.on b1
            clear hst inst q0 y0 a0 c0 A Q
            generalize w.drew = V1 at *
            have a3 := A1.cell 3 _ rfl
            have c3 := Q1.cell 3 _ rfl
            go_wp2_with fail
            refine wp_region_line (Bel V1) [(0, true), (1, true), (2, true), (3, true), (4, true), (5, true), (6, true), (7, true), (8, true), (9, true), (10, true), (11, true)] (by kernel_rfl) (by kernel_rfl) (fun _ _ d _ _ h => by cases d <;> exact h) (Bel.drew V1) ?_
            have hst := Bel.drew V1
            have inst : Nonempty (Of (Bel V1)) := ⟨⟨_, hst⟩⟩
            have q3 := bel_cell a3
            have y3 := bel_cell c3
            iterate 12 (refine line_read rfl (by kernel_rfl) (fun K hK => ?_); go_big_quiet_op; refine hK _ ?_; clear hK K)
            refine line_nil ?_
            have b3 := btr b1 hst.out
            have A3 := A1.on hst.out
            have Q3 := Q1.on hst.out
            clear hst inst q3 y3 a3 c3 A1 Q1 b1
            generalize V1.drew = V3 at *
            have a1 := A3.cell 1 _ rfl
            have a2 := A3.cell 2 _ rfl
            have c5 := Q3.cell 5 _ rfl
            go_wp2_with fail
            refine wp_region_line (Bel V3) [(0, true), (1, true), (2, true), (3, true), (4, true), (5, true), (6, true), (7, true), (8, true), (9, true), (10, true), (11, true), (12, true), (13, true), (14, true), (15, true), (16, true), (17, true), (18, true), (19, true), (20, true)] (by kernel_rfl) (by kernel_rfl) (fun _ _ d _ _ h => by cases d <;> exact h) (Bel.drew V3) ?_
            have hst := Bel.drew V3
            have inst : Nonempty (Of (Bel V3)) := ⟨⟨_, hst⟩⟩
            have q1 := bel_cell a1
            have q2 := bel_cell a2
            have y5 := bel_cell c5
            iterate 10 (refine line_read rfl (by kernel_rfl) (fun K hK => ?_); go_big_quiet_op; refine hK _ ?_; clear hK K)
            iterate 9 (refine line_read rfl (by kernel_rfl) (fun K hK => ?_); go_big_quiet_op; refine hK _ ?_; clear hK K)
            iterate 2 (refine line_read rfl (by kernel_rfl) (fun K hK => ?_); go_big_quiet_op; refine hK _ ?_; clear hK K)
            refine line_nil ?_
            have b5 := btr b3 hst.out
            have A5 := A3.on hst.out
            have Q5 := Q3.on hst.out
            clear hst inst q1 q2 y5 a1 a2 c5 A3 Q3 b3
            generalize V3.drew = V5 at *
            go_wp2_with fail
            refine (L _ _ A5).mono ?_
            rintro e V7 ⟨rfl, b7⟩
            have B7 := btr b5 b7
            have Q7 := Q5.on b7
            clear b5 b7 A5 Q5 L
            go_wp2_with fail
            go_ret
            exact ⟨rfl, B7⟩
        · have E4 : (r.b == o.b) = false := by simpa using h4
          have N4 : (r.b != o.b) = true := by simp [h4]
          rw [chk_by h1 h2 h3 h4]
          clear h1 h2 h3 h4 L S C
          go_enter Tryz.func275, Tryz.ntmps275
          go_wp2_with fail
          refine wp_region_line (Bel w) [(0, true), (1, true), (2, true), (3, true), (4, true), (5, true), (6, true), (7, true), (8, true), (9, true), (10, true)] (by kernel_rfl) (by kernel_rfl) (fun _ _ d _ _ h => by cases d <;> exact h) (Bel.drew w) ?_
          have hst := Bel.drew w
          have inst : Nonempty (Of (Bel w)) := ⟨⟨_, hst⟩⟩
          have q0 := bel_cell a0
          have y0 := bel_cell c0
          iterate 11 (refine line_read rfl (by kernel_rfl) (fun K hK => ?_); go_big_quiet_op; refine hK _ ?_; clear hK K)
          refine line_nil ?_
          have b1 := hst.out
          have A1 := A.on b1
          have Q1 := Q.on b1
          clear hst inst q0 y0 a0 c0 A Q
          generalize w.drew = V1 at *
          have a3 := A1.cell 3 _ rfl
          have c3 := Q1.cell 3 _ rfl
          go_wp2_with fail
          refine wp_region_line (Bel V1) [(0, true), (1, true), (2, true), (3, true), (4, true), (5, true), (6, true), (7, true), (8, true), (9, true), (10, true), (11, true)] (by kernel_rfl) (by kernel_rfl) (fun _ _ d _ _ h => by cases d <;> exact h) (Bel.drew V1) ?_
          have hst := Bel.drew V1
          have inst : Nonempty (Of (Bel V1)) := ⟨⟨_, hst⟩⟩
          have q3 := bel_cell a3
          have y3 := bel_cell c3
          iterate 12 (refine line_read rfl (by kernel_rfl) (fun K hK => ?_); go_big_quiet_op; refine hK _ ?_; clear hK K)
          refine line_nil ?_
          have b3 := btr b1 hst.out
          have A3 := A1.on hst.out
          have Q3 := Q1.on hst.out
          clear hst inst q3 y3 a3 c3 A1 Q1 b1
          generalize V1.drew = V3 at *
          have a1 := A3.cell 1 _ rfl
          have a2 := A3.cell 2 _ rfl
          have c5 := Q3.cell 5 _ rfl
          go_wp2_with fail
          refine wp_region_line (Bel V3) [(0, true), (1, true), (2, true), (3, true), (4, true), (5, true), (6, true), (7, true), (8, true), (9, true), (10, true), (11, true), (12, true), (13, true), (14, true), (15, true), (16, true), (17, true), (18, true), (19, true), (20, true)] (by kernel_rfl) (by kernel_rfl) (fun _ _ d _ _ h => by cases d <;> exact h) (Bel.drew V3) ?_
          have hst := Bel.drew V3
          have inst : Nonempty (Of (Bel V3)) := ⟨⟨_, hst⟩⟩
          have q1 := bel_cell a1
          have q2 := bel_cell a2
          have y5 := bel_cell c5
          iterate 10 (refine line_read rfl (by kernel_rfl) (fun K hK => ?_); go_big_quiet_op; refine hK _ ?_; clear hK K)
          iterate 9 (refine line_read rfl (by kernel_rfl) (fun K hK => ?_); go_big_quiet_op; refine hK _ ?_; clear hK K)
          iterate 2 (refine line_read rfl (by kernel_rfl) (fun K hK => ?_); go_big_quiet_op; refine hK _ ?_; clear hK K)
          refine line_nil ?_
          have b5 := btr b3 hst.out
          have A5 := A3.on hst.out
          have Q5 := Q3.on hst.out
          clear hst inst q1 q2 y5 a1 a2 c5 A3 Q3 b3
          generalize V3.drew = V5 at *
          go_wp2_with fail
          go_ret
          exact ⟨rfl, b5⟩
    · have E2 : (r.p.e == o.e + 1) = false := by simpa using h2
      have N2 : (r.p.e != o.e + 1) = true := by simp [h2]
      rw [chk_ep h1 h2]
      clear h1 h2 L S C
      go_enter Tryz.func275, Tryz.ntmps275
      go_wp2_with fail
      refine wp_region_line (Bel w) [(0, true), (1, true), (2, true), (3, true), (4, true), (5, true), (6, true), (7, true), (8, true), (9, true), (10, true)] (by kernel_rfl) (by kernel_rfl) (fun _ _ d _ _ h => by cases d <;> exact h) (Bel.drew w) ?_
      have hst := Bel.drew w
      have inst : Nonempty (Of (Bel w)) := ⟨⟨_, hst⟩⟩
      have q0 := bel_cell a0
      have y0 := bel_cell c0
      iterate 11 (refine line_read rfl (by kernel_rfl) (fun K hK => ?_); go_big_quiet_op; refine hK _ ?_; clear hK K)
      refine line_nil ?_
      have b1 := hst.out
      have A1 := A.on b1
      have Q1 := Q.on b1
      clear hst inst q0 y0 a0 c0 A Q
      generalize w.drew = V1 at *
      have a3 := A1.cell 3 _ rfl
      have c3 := Q1.cell 3 _ rfl
      go_wp2_with fail
      refine wp_region_line (Bel V1) [(0, true), (1, true), (2, true), (3, true), (4, true), (5, true), (6, true), (7, true), (8, true), (9, true), (10, true), (11, true)] (by kernel_rfl) (by kernel_rfl) (fun _ _ d _ _ h => by cases d <;> exact h) (Bel.drew V1) ?_
      have hst := Bel.drew V1
      have inst : Nonempty (Of (Bel V1)) := ⟨⟨_, hst⟩⟩
      have q3 := bel_cell a3
      have y3 := bel_cell c3
      iterate 12 (refine line_read rfl (by kernel_rfl) (fun K hK => ?_); go_big_quiet_op; refine hK _ ?_; clear hK K)
      refine line_nil ?_
      have b3 := btr b1 hst.out
      have A3 := A1.on hst.out
      have Q3 := Q1.on hst.out
      clear hst inst q3 y3 a3 c3 A1 Q1 b1
      generalize V1.drew = V3 at *
      go_wp2_with fail
      go_ret
      exact ⟨rfl, b3⟩
  · rw [decide_eq_false h1] at TQ
    rw [chk_name h1]
    clear h1 L S C
    go_enter Tryz.func275, Tryz.ntmps275
    go_wp2_with fail
    refine wp_region_line (Bel w) [(0, true), (1, true), (2, true), (3, true), (4, true), (5, true), (6, true), (7, true), (8, true), (9, true), (10, true)] (by kernel_rfl) (by kernel_rfl) (fun _ _ d _ _ h => by cases d <;> exact h) (Bel.drew w) ?_
    have hst := Bel.drew w
    have inst : Nonempty (Of (Bel w)) := ⟨⟨_, hst⟩⟩
    have q0 := bel_cell a0
    have y0 := bel_cell c0
    iterate 11 (refine line_read rfl (by kernel_rfl) (fun K hK => ?_); go_big_quiet_op; refine hK _ ?_; clear hK K)
    refine line_nil ?_
    have b1 := hst.out
    have A1 := A.on b1
    have Q1 := Q.on b1
    clear hst inst q0 y0 a0 c0 A Q
    generalize w.drew = V1 at *
    go_wp2_with fail
    go_ret
    exact ⟨rfl, b1⟩
theorem specCheckRoll_any (o : PinD) (r : RollD) (t : Int) (w : World) (hn : o.n.size ≤ maxLen) (hm : r.p.n.size ≤ maxLen) :
    Calls Tryz.prog 223 #[P5 o, R8 r, .int .i64 t] w fun e w' => e = .returned (.int .i64 (checkF o r t)) ∧ Below w.heap.size w w' := by
  have b0 := bal (bal (Below.refl _ w) (.cells #[.string o.n, .int .i64 o.a, .int .i64 o.b, .int .i64 o.e, .int .i64 o.u] 59)) (.cells #[.string r.p.n, .int .i64 r.p.a, .int .i64 r.p.b, .int .i64 r.p.e, .int .i64 r.p.u, .int .i64 r.b, .int .i64 r.x, .int .i64 r.y] 66)
  have A0 : At w.heap.size o.vals ((w.alloc (.cells #[.string o.n, .int .i64 o.a, .int .i64 o.b, .int .i64 o.e, .int .i64 o.u] 59)).alloc (.cells #[.string r.p.n, .int .i64 r.p.a, .int .i64 r.p.b, .int .i64 r.p.e, .int .i64 r.p.u, .int .i64 r.b, .int .i64 r.x, .int .i64 r.y] 66)) := (At.new w o.vals 59).alloc _
  have Q0 : At (w.heap.size + 1) r.vals ((w.alloc (.cells #[.string o.n, .int .i64 o.a, .int .i64 o.b, .int .i64 o.e, .int .i64 o.u] 59)).alloc (.cells #[.string r.p.n, .int .i64 r.p.a, .int .i64 r.p.b, .int .i64 r.p.e, .int .i64 r.p.u, .int .i64 r.b, .int .i64 r.x, .int .i64 r.y] 66)) := At.newN (w := (w.alloc (.cells #[.string o.n, .int .i64 o.a, .int .i64 o.b, .int .i64 o.e, .int .i64 o.u] 59))) r.vals 66 (by simp)
  have F := fun g w A => l7Fault_any g o w A hn
  have G := fun g w A => l8Fault_any g r w A hm
  by_cases h0 : o.f = 0
  · by_cases h1 : r.f = 0
    · cases ht : timB t
      · rw [checkF_time h0 h1 ht]
        rw [h0] at F
        rw [h1] at G
        go_enter Tryz.func223, Tryz.ntmps223
        go_wp2_with fail
        generalize (w.alloc (.cells #[.string o.n, .int .i64 o.a, .int .i64 o.b, .int .i64 o.e, .int .i64 o.u] 59)).alloc (.cells #[.string r.p.n, .int .i64 r.p.a, .int .i64 r.p.b, .int .i64 r.p.e, .int .i64 r.p.u, .int .i64 r.b, .int .i64 r.x, .int .i64 r.y] 66) = W0 at *
        refine (F _ _ A0).mono ?_
        rintro e u1 ⟨rfl, b1⟩
        have A1 := A0.on b1
        have Q1 := Q0.on b1
        have B1 := btr b0 b1
        clear A0 Q0 b0 b1 F
        go_wp2_with fail
        refine (G _ _ Q1).mono ?_
        rintro e u2 ⟨rfl, b2⟩
        have A2 := A1.on b2
        have Q2 := Q1.on b2
        have B2 := btr B1 b2
        clear A1 Q1 B1 b2 G
        go_wp2_with fail
        refine (l7Time_any _ _).mono ?_
        rintro r w' ⟨rfl, rfl⟩
        go_wp2_with fail
        go_ret
        exact ⟨rfl, B2⟩
      · rw [checkF_chk h0 h1 ht]
        have K := fun g k w A Q => l8Check_any g k o r t w A Q h0 h1
        rw [h0] at F
        rw [h1] at G
        generalize chk o r t = c at *
        go_enter Tryz.func223, Tryz.ntmps223
        go_wp2_with fail
        generalize (w.alloc (.cells #[.string o.n, .int .i64 o.a, .int .i64 o.b, .int .i64 o.e, .int .i64 o.u] 59)).alloc (.cells #[.string r.p.n, .int .i64 r.p.a, .int .i64 r.p.b, .int .i64 r.p.e, .int .i64 r.p.u, .int .i64 r.b, .int .i64 r.x, .int .i64 r.y] 66) = W0 at *
        refine (F _ _ A0).mono ?_
        rintro e u1 ⟨rfl, b1⟩
        have A1 := A0.on b1
        have Q1 := Q0.on b1
        have B1 := btr b0 b1
        clear A0 Q0 b0 b1 F
        go_wp2_with fail
        refine (G _ _ Q1).mono ?_
        rintro e u2 ⟨rfl, b2⟩
        have A2 := A1.on b2
        have Q2 := Q1.on b2
        have B2 := btr B1 b2
        clear A1 Q1 B1 b2 G
        go_wp2_with fail
        refine (l7Time_any _ _).mono ?_
        rintro r w' ⟨rfl, rfl⟩
        go_wp2_with fail
        refine (K _ _ _ A2 Q2).mono ?_
        rintro e u3 ⟨rfl, b3⟩
        have hb := btr B2 b3
        go_wp2_with fail
        go_ret
        exact ⟨rfl, hb⟩
    · rw [checkF_roll h0 h1]
      rw [h0] at F
      generalize r.f = c at *
      have q0 : (c == 0) = false := by simpa using h1
      go_enter Tryz.func223, Tryz.ntmps223
      go_wp2_with fail
      generalize (w.alloc (.cells #[.string o.n, .int .i64 o.a, .int .i64 o.b, .int .i64 o.e, .int .i64 o.u] 59)).alloc (.cells #[.string r.p.n, .int .i64 r.p.a, .int .i64 r.p.b, .int .i64 r.p.e, .int .i64 r.p.u, .int .i64 r.b, .int .i64 r.x, .int .i64 r.y] 66) = W0 at *
      refine (F _ _ A0).mono ?_
      rintro e u1 ⟨rfl, b1⟩
      have A1 := A0.on b1
      have Q1 := Q0.on b1
      have B1 := btr b0 b1
      clear A0 Q0 b0 b1 F
      go_wp2_with fail
      refine (G _ _ Q1).mono ?_
      rintro e u2 ⟨rfl, b2⟩
      have A2 := A1.on b2
      have Q2 := Q1.on b2
      have B2 := btr B1 b2
      clear A1 Q1 B1 b2 G
      go_wp2_with fail
      go_ret
      exact ⟨rfl, B2⟩
  · rw [checkF_old h0]
    generalize o.f = c at *
    have q0 : (c == 0) = false := by simpa using h0
    go_enter Tryz.func223, Tryz.ntmps223
    go_wp2_with fail
    generalize (w.alloc (.cells #[.string o.n, .int .i64 o.a, .int .i64 o.b, .int .i64 o.e, .int .i64 o.u] 59)).alloc (.cells #[.string r.p.n, .int .i64 r.p.a, .int .i64 r.p.b, .int .i64 r.p.e, .int .i64 r.p.u, .int .i64 r.b, .int .i64 r.x, .int .i64 r.y] 66) = W0 at *
    refine (F _ _ A0).mono ?_
    rintro e u1 ⟨rfl, b1⟩
    have A1 := A0.on b1
    have Q1 := Q0.on b1
    have B1 := btr b0 b1
    clear A0 Q0 b0 b1 F
    go_wp2_with fail
    go_ret
    exact ⟨rfl, B1⟩
end Go.Proofs.YtlodhleihnlchaaGreatDoor
namespace Go.Proofs.YtlodhleihnlchaaGreatDoor
open Go.RowKit
set_option maxRecDepth 100000
set_option linter.unusedVariables false

theorem two_else {w : World} {B : Nat} {v : Value} {a : Int} {x : Value} {t : TypeId} {g k : Nat} (h : OwnK .u8 w B v ([] ++ M.two a)) (he : w.heap[g]? = some (.cells #[x] t)) (hk : v.ownBlock = some k) (ek : k = g) : False := by
  subst ek
  rcases h.2 with ⟨rfl, h0⟩ | ⟨g', c, rfl, _, _, _, _, hcell, _⟩
  · simp [Value.ownBlock] at hk
  · simp [Value.ownBlock] at hk
    subst hk
    have := hcell 1 (.int .u8 (a % 256)) (by simp [M.two])
    unfold World.cell? at this
    rw [he] at this
    simp at this
theorem implPackPin_any (p : PinD) (w : World) (hn : p.n.size ≤ maxLen) :
    Calls Tryz.prog 208 #[P5 p] w (BytesRes p.f (packPL p) w) := by
  have b0 := bal (bal (Below.refl _ w) (.cells #[.string p.n, .int .i64 p.a, .int .i64 p.b, .int .i64 p.e, .int .i64 p.u] 59)) (.cells #[.int .i64 0, .slice none 0 0] 39)
  have A1 : At w.heap.size p.vals ((w.alloc (.cells #[.string p.n, .int .i64 p.a, .int .i64 p.b, .int .i64 p.e, .int .i64 p.u] 59)).alloc (.cells #[.int .i64 0, .slice none 0 0] 39)) := (At.new w p.vals 59).alloc _
  have A2 := At.new (w.alloc (.cells #[.string p.n, .int .i64 p.a, .int .i64 p.b, .int .i64 p.e, .int .i64 p.u] 59)) [.int .i64 0, .slice none 0 0] 39
  simp only [World.size_alloc] at A2
  have F := fun w => implPinFault_any p w hn
  by_cases h : p.f = 0
  · have e : packPL p = packP p := by simp [packPL, h]
    rw [e]
    obtain ⟨hn20, ha, hb, ⟨he0, he1⟩, hu⟩ := pin_bounds h
    have he2 : 0 ≤ p.e := by omega
    obtain ⟨i0, hi0, hz0, hz1, hz2⟩ := info_parts u8_info
    have hmk : ∀ W : World, (Instr.makeSlice 22 (.int .i64 0) (.int .i64 (7 + (p.n.size : Int)))).run Tryz.prog W = .ok (.slice (some ⟨W.heap.size, 0, none⟩) 0 (7 + p.n.size)) (W.alloc (.cells (madeCells #[.int .u8 0] (7 + p.n.size)) 5)) := by
      intro W
      have := run_make (P := Tryz.prog) W 22 5 i0 (.int .u8 0) Tryz.underlying22 hi0 hz0 .i64 .i64 0 (7 + p.n.size) (by omega) (by omega) (by rw [hz2]; omega) (by omega)
      simpa [hz1, Value.cells, show (7 + (p.n.size : Int)).toNat = 7 + p.n.size by omega] using this
    simp only [h] at F ⊢
    clear e h
    go_enter Tryz.func208, Tryz.ntmps208
    go_wp2_with fail
    generalize (w.alloc (.cells #[.string p.n, .int .i64 p.a, .int .i64 p.b, .int .i64 p.e, .int .i64 p.u] 59)).alloc (.cells #[.int .i64 0, .slice none 0 0] 39) = W0 at *
    refine (F _).mono ?_
    rintro r V ⟨rfl, h1⟩
    have bV := btr b0 h1
    have AV := A1.on h1
    have AR := A2.on h1
    have ltV := AR.lt (by simp)
    have d0 := AV.cell 0 _ rfl
    have d1 := AV.cell 1 _ rfl
    have d2 := AV.cell 2 _ rfl
    have d3 := AV.cell 3 _ rfl
    have d4 := AV.cell 4 _ rfl
    clear b0 h1 A1 A2 F
    have O1 : OwnK .u8 (V.alloc (.cells (madeCells #[.int .u8 0] (7 + p.n.size)) 5)).drew V.heap.size (.slice (some ⟨V.heap.size, 0, none⟩) 0 (7 + p.n.size)) [] := by
      have := Own.made (size := 1) (B := V.heap.size) V (madeCells #[.int .u8 0] (7 + p.n.size)) 5 (7 + p.n.size) (Nat.le_refl _) (by simp only [maxLen]; omega) (by rw [size_madeCells]; omega)
      simpa [OwnK] using this.drew
    have S0 : Bel V (V.alloc (.cells (madeCells #[.int .u8 0] (7 + p.n.size)) 5)).drew := ⟨(bal (Below.refl _ V) _).drew⟩
    go_wp2_with fail
    refine wp_region_fork (Bel V) (by kernel_rfl) (S0) ?_
    have hst : (Bel V) _ := (S0)
    have inst : Nonempty (Of (Bel V)) := ⟨⟨_, hst⟩⟩
    have u1 := bel_cell d1
    have u2 := bel_cell d2
    have u3 := bel_cell d3
    generalize (V.alloc (.cells (madeCells #[.int .u8 0] (7 + p.n.size)) 5)).drew = V1 at *
    clear S0
    refine any_seg 5 [(0, true), (1, true), (2, true), (4, true), (5, true), (7, true), (8, true), (9, true)] (by kernel_rfl) (fun _ _ d _ _ h => by cases d <;> exact h) ?_
    iterate 8 (refine line_read rfl (by kernel_rfl) (fun K hK => ?_); go_big_quiet_op; refine hK _ ?_; clear hK K)
    refine line_nil ?_
    clear u1 u2 u3 inst
    have hzV1 := hst.out.size
    refine any_fork 3 10 (by kernel_rfl) rfl rfl (by kernel_rfl) (by kernel_rfl) (fun K hK => ?_) (fun K hK => ?_)
    · refine call_any (args := #[.slice (some ⟨V.heap.size, 0, none⟩) 0 (7 + p.n.size), .int .i64 p.a]) rfl (by kernel_rfl) (by kernel_rfl) (appendTwo_any _ p.a V.heap.size [] _ O1 hzV1 ha (by simp)) ?_
      rintro e w3 ⟨v3, rfl, O3, g3⟩
      have b3 : Below V.heap.size V w3 := Own.grown O1 hst.out hzV1 g3
      refine ⟨_, rfl, hK _ _ ⟨b3⟩ ?_⟩
      clear hK K
      simp only [Act.put, List.setIfInBounds_toArray, List.set_cons_zero, List.set_cons_succ]
      have hz3 := b3.size
      clear O1 hst g3 hzV1
      refine any_fork 6 10 (by kernel_rfl) rfl rfl (by kernel_rfl) (by kernel_rfl) (fun K hK => ?_) (fun K hK => ?_)
      · refine call_any (args := #[v3, .int .i64 p.b]) rfl (by kernel_rfl) (by kernel_rfl) (appendTwo_any _ p.b V.heap.size ([] ++ M.two p.a) _ O3 hz3 hb (by simp [M.two])) ?_
        rintro e w6 ⟨v6, rfl, O6, g6⟩
        have b6 : Below V.heap.size V w6 := Own.grown O3 b3 hz3 g6
        refine ⟨_, rfl, hK _ _ ⟨b6⟩ ?_⟩
        clear hK K
        simp only [Act.put, List.setIfInBounds_toArray, List.set_cons_zero, List.set_cons_succ]
        have hz6 := b6.size
        clear O3 b3 hz3 g6
        refine any_rest [(10, false), (11, false), (12, true)] (by kernel_rfl) (fun _ _ d _ _ h => by cases d <;> exact h) ?_
        refine line_alone rfl (by kernel_rfl) (fun K hK => ?_)
        go_big_op
        refine hK _ _ (⟨bal b6 _⟩) ?_
        clear hK K
        have O10 : OwnK .u8 (w6.alloc (.cells #[.int .u8 p.e] 5)) V.heap.size v6 (M.two p.a ++ M.two p.b) := Own.alloc O6 _
        have b10 := bal b6 (.cells #[.int .u8 p.e] 5)
        have hz10 := b10.size
        have hsr := src_new (P := Tryz.prog) w6 [.int .u8 p.e] 1 1 5 22 5 Tryz.underlying22 rfl (ints_oneCell .u8 [p.e])
        refine line_alone rfl (by kernel_rfl) (fun K hK => ?_)
        refine wp_append_src _ (.tmp 22) (.tmp 26) 22 22 rfl V.heap.size 5 i0 (.int .u8 0) 1 1 Tryz.underlying22 hi0 hz0 hz1 hz2 rfl _ 4 ((M.two p.a ++ M.two p.b).map (Value.int .u8)) rfl O10 _ 1 [.int .u8 p.e] rfl hsr (by simp only [maxLen]; omega) (by omega) hz10 (fun v11 w11 hown hgrow hat => ?_)
        have b11 : Below V.heap.size V w11 := Own.grown O10 b10 hz10 hgrow
        have O11 : OwnK .u8 w11 V.heap.size v11 (M.two p.a ++ M.two p.b ++ [p.e]) := by unfold OwnK; simpa [M.two] using hown
        refine hK _ _ ⟨b11⟩ ?_
        clear hK K hown hgrow hat
        simp only [Act.put, List.setIfInBounds_toArray, List.set_cons_zero, List.set_cons_succ]
        clear O10 b10 hz10 hsr O6 b6 hz6
        have inst : Nonempty (Of (Bel V)) := ⟨⟨_, ⟨b11⟩⟩⟩
        iterate 1 (refine line_read rfl (by kernel_rfl) (fun K hK => ?_); go_big_quiet_op; refine hK _ ?_; clear hK K)
        refine line_nil ?_
        have S6 : Hold w w.heap.size p.vals w11.drew := ⟨(btr bV b11).drew, (AV.on b11).on (bdrew _)⟩
        have b11d : Below V.heap.size V w11.drew := b11.drew
        have O11d : OwnK .u8 w11.drew V.heap.size v11 (M.two p.a ++ M.two p.b ++ [p.e]) := O11
        have hz11 : V.heap.size ≤ w11.drew.heap.size := b11.size
        clear inst b11 O11
        go_wp2_with fail
        refine wp_region_line (Hold w w.heap.size p.vals) [(0, true), (1, true), (2, true), (4, true), (5, true), (3, false), (6, false), (7, true), (8, false)] (by kernel_rfl) (by kernel_rfl) (fun _ _ d _ _ h => by cases d <;> exact h) S6 ?_
        have hst := S6
        have inst : Nonempty (Of (Hold w w.heap.size p.vals)) := ⟨⟨_, hst⟩⟩
        have k0 := hold_cell (W := w) (g := w.heap.size) (cs := p.vals) 0 _ rfl
        have k4 := hold_cell (W := w) (g := w.heap.size) (cs := p.vals) 4 _ rfl
        generalize w11.drew = V6 at *
        iterate 5 (refine line_read rfl (by kernel_rfl) (fun K hK => ?_); go_big_quiet_op; refine hK _ ?_; clear hK K)
        clear k0 k4 S6 hst
        refine line_alone rfl (by kernel_rfl) (fun K hK => ?_)
        refine call_any (args := #[v11, .int .i64 p.u]) rfl (by kernel_rfl) (by kernel_rfl) (appendTwo_any _ p.u V.heap.size _ V6 O11d hz11 hu (by simp [M.two])) ?_
        rintro e w12 ⟨v12, rfl, O12, g12⟩
        have b12 : Below V.heap.size V w12 := Own.grown O11d b11d hz11 g12
        refine ⟨_, rfl, hK _ _ ⟨btr bV b12, AV.on b12⟩ ?_⟩
        clear hK K O11d g12 b11d hz11
        simp only [Act.put, List.setIfInBounds_toArray, List.set_cons_zero, List.set_cons_succ]
        have hz12 := b12.size
        have O12' : OwnK .u8 w12 V.heap.size v12 (headP p.a p.b p.e p.u) := O12
        have hsrc := Src.ofString (P := Tryz.prog) w12 (tx := 9) Tryz.underlying9 p.n
        refine line_alone rfl (by kernel_rfl) (fun K hK => ?_)
        refine wp_append_src _ (.tmp 31) (.tmp 33) 22 9 rfl V.heap.size 5 i0 (.int .u8 0) 1 1 Tryz.underlying22 hi0 hz0 hz1 hz2 rfl _ _ _ rfl O12' _ p.n.size _ rfl hsrc (by rw [headP_length]; simp only [maxLen]; omega) (by rw [headP_length]; omega) hz12 (fun v13 w13 hown hgrow hat => ?_)
        have b13 : Below V.heap.size V w13 := O12'.grown b12 hz12 hgrow
        obtain ⟨a13, c13, hv13, -⟩ := Own.form hown
        have O13 : OwnK .u8 w13 V.heap.size v13 (packP p) := by
          unfold OwnK packP
          rw [List.length_append, M.textL_length, List.map_append]
          have e : (M.textL p.n).map (Value.int .u8) = byteCells p.n := by simp [M.textL, byteCells, List.map_map, Function.comp_def]
          rw [e]
          exact hown
        subst hv13
        refine hK _ _ ⟨btr bV b13, AV.on b13⟩ ?_
        clear hK K hown hgrow hat O12 O12' hsrc
        simp only [Act.put, List.setIfInBounds_toArray, List.set_cons_zero, List.set_cons_succ]
        refine line_readv (v := .agg #[.int .i64 0, .slice a13 ((headP p.a p.b p.e p.u).length + p.n.size) c13]) rfl (by kernel_rfl) (fun _ => by kernel_rfl) ?_
        simp only [Act.put, List.setIfInBounds_toArray, List.set_cons_zero, List.set_cons_succ]
        have AR13 := AR.on b13
        have q0 := AR13.cell 0 _ rfl
        have q1 := AR13.cell 1 _ rfl
        have z0 := AR13.free 0 _ rfl
        have z1 := AR13.free 1 _ rfl
        refine line_alone rfl (by kernel_rfl) (fun K hK => ?_)
        go_big_op
        refine hK _ _ ((by (iterate 2 (refine Hold.setB ?_ (by dsimp only; omega) (by dsimp only; omega) _)); exact ⟨btr bV b13, AV.on b13⟩)) ?_
        clear hK K
        refine line_nil ?_
        have HT := Lib.hid (And.intro O13 (btr bV b13))
        clear O13 b13 AR13 inst AV AR
        go_wp2_with fail
        refine bodyPost_ret (v := .agg #[.int .i64 0, .slice a13 ((headP p.a p.b p.e p.u).length + p.n.size) c13]) (by simp [results, Tryz.results208, go_sem, q0, q1]) rfl ?_
        exact ⟨_, _, _, rfl, (by (iterate 2 (refine Own.setCell ?_ (fun g hg => by have := (HT.out.1.lt g hg).1; dsimp only; omega) _)); exact HT.out.1.less (by omega)), (by (iterate 2 (refine bset ?_ (by dsimp only; omega) _)); exact HT.out.2)⟩
      · go_big_op
        have bX := bal b3 (.cells #[.int .u8 p.e] 5)
        have O3X : OwnK .u8 (w3.alloc (.cells #[.int .u8 p.e] 5)) V.heap.size v3 ([] ++ M.two p.a) := Own.alloc O3 _
        have eX : (w3.alloc (.cells #[.int .u8 p.e] 5)).heap[w3.heap.size]? = some (.cells #[.int .u8 p.e] 5) := (MapKept.heap_alloc w3 _).1
        have hlX : w3.heap.size < (w3.alloc (.cells #[.int .u8 p.e] 5)).heap.size := by simp
        have hnX : ∀ k, v3.ownBlock = some k → k ≠ w3.heap.size := fun k hk => by have := (Own.lt O3 k hk).2; omega
        refine hK _ _ ⟨bX⟩ ?_
        clear hK K O3 b3
        generalize w3.alloc (.cells #[.int .u8 p.e] 5) = X at *
        refine any_rest [(6, false), (11, false), (12, true)] (by kernel_rfl) (fun _ _ d _ _ h => by cases d <;> exact h) ?_
        have hzX := bX.size
        refine line_alone rfl (by kernel_rfl) (fun K hK => ?_)
        refine call_any (args := #[v3, .int .i64 p.b]) rfl (by kernel_rfl) (by kernel_rfl) (appendTwo_any _ p.b V.heap.size ([] ++ M.two p.a) _ O3X hzX hb (by simp [M.two])) ?_
        rintro e w6 ⟨v6, rfl, O6, g6⟩
        have b6 : Below V.heap.size V w6 := Own.grown O3X bX hzX g6
        refine ⟨_, rfl, hK _ _ ⟨b6⟩ ?_⟩
        clear hK K
        simp only [Act.put, List.setIfInBounds_toArray, List.set_cons_zero, List.set_cons_succ]
        have e6 := (g6.block w3.heap.size hlX (fun e => hnX _ e.symm rfl)).trans eX
        have hz6 := b6.size
        have O10 : OwnK .u8 w6 V.heap.size v6 (M.two p.a ++ M.two p.b) := O6
        have hsr := src_at (P := Tryz.prog) w3.heap.size [.int .u8 p.e] 1 1 5 22 5 Tryz.underlying22 rfl (ints_oneCell .u8 [p.e]) e6
        clear O3X bX eX hlX hnX hzX g6 e6
        refine line_alone rfl (by kernel_rfl) (fun K hK => ?_)
        refine wp_append_src _ (.tmp 22) (.tmp 26) 22 22 rfl V.heap.size 5 i0 (.int .u8 0) 1 1 Tryz.underlying22 hi0 hz0 hz1 hz2 rfl _ 4 ((M.two p.a ++ M.two p.b).map (Value.int .u8)) rfl O10 _ 1 [.int .u8 p.e] rfl hsr (by simp only [maxLen]; omega) (by omega) hz6 (fun v11 w11 hown hgrow hat => ?_)
        have b11 : Below V.heap.size V w11 := Own.grown O10 b6 hz6 hgrow
        have O11 : OwnK .u8 w11 V.heap.size v11 (M.two p.a ++ M.two p.b ++ [p.e]) := by unfold OwnK; simpa [M.two] using hown
        refine hK _ _ ⟨b11⟩ ?_
        clear hK K hown hgrow hat
        simp only [Act.put, List.setIfInBounds_toArray, List.set_cons_zero, List.set_cons_succ]
        clear O10 O6 b6 hz6 hsr
        have inst : Nonempty (Of (Bel V)) := ⟨⟨_, ⟨b11⟩⟩⟩
        iterate 1 (refine line_read rfl (by kernel_rfl) (fun K hK => ?_); go_big_quiet_op; refine hK _ ?_; clear hK K)
        refine line_nil ?_
        have S6 : Hold w w.heap.size p.vals w11.drew := ⟨(btr bV b11).drew, (AV.on b11).on (bdrew _)⟩
        have b11d : Below V.heap.size V w11.drew := b11.drew
        have O11d : OwnK .u8 w11.drew V.heap.size v11 (M.two p.a ++ M.two p.b ++ [p.e]) := O11
        have hz11 : V.heap.size ≤ w11.drew.heap.size := b11.size
        clear inst b11 O11
        go_wp2_with fail
        refine wp_region_line (Hold w w.heap.size p.vals) [(0, true), (1, true), (2, true), (4, true), (5, true), (3, false), (6, false), (7, true), (8, false)] (by kernel_rfl) (by kernel_rfl) (fun _ _ d _ _ h => by cases d <;> exact h) S6 ?_
        have hst := S6
        have inst : Nonempty (Of (Hold w w.heap.size p.vals)) := ⟨⟨_, hst⟩⟩
        have k0 := hold_cell (W := w) (g := w.heap.size) (cs := p.vals) 0 _ rfl
        have k4 := hold_cell (W := w) (g := w.heap.size) (cs := p.vals) 4 _ rfl
        generalize w11.drew = V6 at *
        iterate 5 (refine line_read rfl (by kernel_rfl) (fun K hK => ?_); go_big_quiet_op; refine hK _ ?_; clear hK K)
        clear k0 k4 S6 hst
        refine line_alone rfl (by kernel_rfl) (fun K hK => ?_)
        refine call_any (args := #[v11, .int .i64 p.u]) rfl (by kernel_rfl) (by kernel_rfl) (appendTwo_any _ p.u V.heap.size _ V6 O11d hz11 hu (by simp [M.two])) ?_
        rintro e w12 ⟨v12, rfl, O12, g12⟩
        have b12 : Below V.heap.size V w12 := Own.grown O11d b11d hz11 g12
        refine ⟨_, rfl, hK _ _ ⟨btr bV b12, AV.on b12⟩ ?_⟩
        clear hK K O11d g12 b11d hz11
        simp only [Act.put, List.setIfInBounds_toArray, List.set_cons_zero, List.set_cons_succ]
        have hz12 := b12.size
        have O12' : OwnK .u8 w12 V.heap.size v12 (headP p.a p.b p.e p.u) := O12
        have hsrc := Src.ofString (P := Tryz.prog) w12 (tx := 9) Tryz.underlying9 p.n
        refine line_alone rfl (by kernel_rfl) (fun K hK => ?_)
        refine wp_append_src _ (.tmp 31) (.tmp 33) 22 9 rfl V.heap.size 5 i0 (.int .u8 0) 1 1 Tryz.underlying22 hi0 hz0 hz1 hz2 rfl _ _ _ rfl O12' _ p.n.size _ rfl hsrc (by rw [headP_length]; simp only [maxLen]; omega) (by rw [headP_length]; omega) hz12 (fun v13 w13 hown hgrow hat => ?_)
        have b13 : Below V.heap.size V w13 := O12'.grown b12 hz12 hgrow
        obtain ⟨a13, c13, hv13, -⟩ := Own.form hown
        have O13 : OwnK .u8 w13 V.heap.size v13 (packP p) := by
          unfold OwnK packP
          rw [List.length_append, M.textL_length, List.map_append]
          have e : (M.textL p.n).map (Value.int .u8) = byteCells p.n := by simp [M.textL, byteCells, List.map_map, Function.comp_def]
          rw [e]
          exact hown
        subst hv13
        refine hK _ _ ⟨btr bV b13, AV.on b13⟩ ?_
        clear hK K hown hgrow hat O12 O12' hsrc
        simp only [Act.put, List.setIfInBounds_toArray, List.set_cons_zero, List.set_cons_succ]
        refine line_readv (v := .agg #[.int .i64 0, .slice a13 ((headP p.a p.b p.e p.u).length + p.n.size) c13]) rfl (by kernel_rfl) (fun _ => by kernel_rfl) ?_
        simp only [Act.put, List.setIfInBounds_toArray, List.set_cons_zero, List.set_cons_succ]
        have AR13 := AR.on b13
        have q0 := AR13.cell 0 _ rfl
        have q1 := AR13.cell 1 _ rfl
        have z0 := AR13.free 0 _ rfl
        have z1 := AR13.free 1 _ rfl
        refine line_alone rfl (by kernel_rfl) (fun K hK => ?_)
        go_big_op
        refine hK _ _ ((by (iterate 2 (refine Hold.setB ?_ (by dsimp only; omega) (by dsimp only; omega) _)); exact ⟨btr bV b13, AV.on b13⟩)) ?_
        clear hK K
        refine line_nil ?_
        have HT := Lib.hid (And.intro O13 (btr bV b13))
        clear O13 b13 AR13 inst AV AR
        go_wp2_with fail
        refine bodyPost_ret (v := .agg #[.int .i64 0, .slice a13 ((headP p.a p.b p.e p.u).length + p.n.size) c13]) (by simp [results, Tryz.results208, go_sem, q0, q1]) rfl ?_
        exact ⟨_, _, _, rfl, (by (iterate 2 (refine Own.setCell ?_ (fun g hg => by have := (HT.out.1.lt g hg).1; dsimp only; omega) _)); exact HT.out.1.less (by omega)), (by (iterate 2 (refine bset ?_ (by dsimp only; omega) _)); exact HT.out.2)⟩
    · go_big_op
      have bX := bal hst.out (.cells #[.int .u8 p.e] 5)
      have O1X : OwnK .u8 (V1.alloc (.cells #[.int .u8 p.e] 5)) V.heap.size (.slice (some ⟨V.heap.size, 0, none⟩) 0 (7 + p.n.size)) [] := Own.alloc O1 _
      have eX : (V1.alloc (.cells #[.int .u8 p.e] 5)).heap[V1.heap.size]? = some (.cells #[.int .u8 p.e] 5) := (MapKept.heap_alloc V1 _).1
      have hlX : V1.heap.size < (V1.alloc (.cells #[.int .u8 p.e] 5)).heap.size := by simp
      have hltV := (Own.lt O1 V.heap.size rfl).2
      refine hK _ _ ⟨bX⟩ ?_
      clear hK K O1 hst
      generalize V1.alloc (.cells #[.int .u8 p.e] 5) = X at *
      refine any_rest [(3, false), (6, false), (11, false), (12, true)] (by kernel_rfl) (fun _ _ d _ _ h => by cases d <;> exact h) ?_
      have hzX := bX.size
      refine line_alone rfl (by kernel_rfl) (fun K hK => ?_)
      refine call_any (args := #[.slice (some ⟨V.heap.size, 0, none⟩) 0 (7 + p.n.size), .int .i64 p.a]) rfl (by kernel_rfl) (by kernel_rfl) (appendTwo_any _ p.a V.heap.size [] _ O1X hzX ha (by simp)) ?_
      rintro e w3 ⟨v3, rfl, O3, g3⟩
      have b3 : Below V.heap.size V w3 := Own.grown O1X bX hzX g3
      refine ⟨_, rfl, hK _ _ ⟨b3⟩ ?_⟩
      clear hK K
      simp only [Act.put, List.setIfInBounds_toArray, List.set_cons_zero, List.set_cons_succ]
      have hz3 := b3.size
      have e3 := (g3.block V1.heap.size hlX (fun e => by simp [Value.ownBlock] at e; omega)).trans eX
      have hl3 : V1.heap.size < w3.heap.size := Nat.lt_of_lt_of_le hlX g3.size
      have hn3 : ∀ k, v3.ownBlock = some k → k ≠ V1.heap.size := fun k hk ek => two_else O3 e3 hk ek
      refine line_alone rfl (by kernel_rfl) (fun K hK => ?_)
      refine call_any (args := #[v3, .int .i64 p.b]) rfl (by kernel_rfl) (by kernel_rfl) (appendTwo_any _ p.b V.heap.size ([] ++ M.two p.a) _ O3 hz3 hb (by simp [M.two])) ?_
      rintro e w6 ⟨v6, rfl, O6, g6⟩
      have b6 : Below V.heap.size V w6 := Own.grown O3 b3 hz3 g6
      refine ⟨_, rfl, hK _ _ ⟨b6⟩ ?_⟩
      clear hK K
      simp only [Act.put, List.setIfInBounds_toArray, List.set_cons_zero, List.set_cons_succ]
      have e6 := (g6.block V1.heap.size hl3 (fun e => hn3 _ e.symm rfl)).trans e3
      have hz6 := b6.size
      have O10 : OwnK .u8 w6 V.heap.size v6 (M.two p.a ++ M.two p.b) := O6
      have hsr := src_at (P := Tryz.prog) V1.heap.size [.int .u8 p.e] 1 1 5 22 5 Tryz.underlying22 rfl (ints_oneCell .u8 [p.e]) e6
      clear O1X bX eX hlX hzX g3 g6 e3 e6 hl3 hn3 O3 b3 hz3
      refine line_alone rfl (by kernel_rfl) (fun K hK => ?_)
      refine wp_append_src _ (.tmp 22) (.tmp 26) 22 22 rfl V.heap.size 5 i0 (.int .u8 0) 1 1 Tryz.underlying22 hi0 hz0 hz1 hz2 rfl _ 4 ((M.two p.a ++ M.two p.b).map (Value.int .u8)) rfl O10 _ 1 [.int .u8 p.e] rfl hsr (by simp only [maxLen]; omega) (by omega) hz6 (fun v11 w11 hown hgrow hat => ?_)
      have b11 : Below V.heap.size V w11 := Own.grown O10 b6 hz6 hgrow
      have O11 : OwnK .u8 w11 V.heap.size v11 (M.two p.a ++ M.two p.b ++ [p.e]) := by unfold OwnK; simpa [M.two] using hown
      refine hK _ _ ⟨b11⟩ ?_
      clear hK K hown hgrow hat
      simp only [Act.put, List.setIfInBounds_toArray, List.set_cons_zero, List.set_cons_succ]
      clear O10 O6 b6 hz6 hsr
      have inst : Nonempty (Of (Bel V)) := ⟨⟨_, ⟨b11⟩⟩⟩
      iterate 1 (refine line_read rfl (by kernel_rfl) (fun K hK => ?_); go_big_quiet_op; refine hK _ ?_; clear hK K)
      refine line_nil ?_
      have S6 : Hold w w.heap.size p.vals w11.drew := ⟨(btr bV b11).drew, (AV.on b11).on (bdrew _)⟩
      have b11d : Below V.heap.size V w11.drew := b11.drew
      have O11d : OwnK .u8 w11.drew V.heap.size v11 (M.two p.a ++ M.two p.b ++ [p.e]) := O11
      have hz11 : V.heap.size ≤ w11.drew.heap.size := b11.size
      clear inst b11 O11
      go_wp2_with fail
      refine wp_region_line (Hold w w.heap.size p.vals) [(0, true), (1, true), (2, true), (4, true), (5, true), (3, false), (6, false), (7, true), (8, false)] (by kernel_rfl) (by kernel_rfl) (fun _ _ d _ _ h => by cases d <;> exact h) S6 ?_
      have hst := S6
      have inst : Nonempty (Of (Hold w w.heap.size p.vals)) := ⟨⟨_, hst⟩⟩
      have k0 := hold_cell (W := w) (g := w.heap.size) (cs := p.vals) 0 _ rfl
      have k4 := hold_cell (W := w) (g := w.heap.size) (cs := p.vals) 4 _ rfl
      generalize w11.drew = V6 at *
      iterate 5 (refine line_read rfl (by kernel_rfl) (fun K hK => ?_); go_big_quiet_op; refine hK _ ?_; clear hK K)
      clear k0 k4 S6 hst
      refine line_alone rfl (by kernel_rfl) (fun K hK => ?_)
      refine call_any (args := #[v11, .int .i64 p.u]) rfl (by kernel_rfl) (by kernel_rfl) (appendTwo_any _ p.u V.heap.size _ V6 O11d hz11 hu (by simp [M.two])) ?_
      rintro e w12 ⟨v12, rfl, O12, g12⟩
      have b12 : Below V.heap.size V w12 := Own.grown O11d b11d hz11 g12
      refine ⟨_, rfl, hK _ _ ⟨btr bV b12, AV.on b12⟩ ?_⟩
      clear hK K O11d g12 b11d hz11
      simp only [Act.put, List.setIfInBounds_toArray, List.set_cons_zero, List.set_cons_succ]
      have hz12 := b12.size
      have O12' : OwnK .u8 w12 V.heap.size v12 (headP p.a p.b p.e p.u) := O12
      have hsrc := Src.ofString (P := Tryz.prog) w12 (tx := 9) Tryz.underlying9 p.n
      refine line_alone rfl (by kernel_rfl) (fun K hK => ?_)
      refine wp_append_src _ (.tmp 31) (.tmp 33) 22 9 rfl V.heap.size 5 i0 (.int .u8 0) 1 1 Tryz.underlying22 hi0 hz0 hz1 hz2 rfl _ _ _ rfl O12' _ p.n.size _ rfl hsrc (by rw [headP_length]; simp only [maxLen]; omega) (by rw [headP_length]; omega) hz12 (fun v13 w13 hown hgrow hat => ?_)
      have b13 : Below V.heap.size V w13 := O12'.grown b12 hz12 hgrow
      obtain ⟨a13, c13, hv13, -⟩ := Own.form hown
      have O13 : OwnK .u8 w13 V.heap.size v13 (packP p) := by
        unfold OwnK packP
        rw [List.length_append, M.textL_length, List.map_append]
        have e : (M.textL p.n).map (Value.int .u8) = byteCells p.n := by simp [M.textL, byteCells, List.map_map, Function.comp_def]
        rw [e]
        exact hown
      subst hv13
      refine hK _ _ ⟨btr bV b13, AV.on b13⟩ ?_
      clear hK K hown hgrow hat O12 O12' hsrc
      simp only [Act.put, List.setIfInBounds_toArray, List.set_cons_zero, List.set_cons_succ]
      refine line_readv (v := .agg #[.int .i64 0, .slice a13 ((headP p.a p.b p.e p.u).length + p.n.size) c13]) rfl (by kernel_rfl) (fun _ => by kernel_rfl) ?_
      simp only [Act.put, List.setIfInBounds_toArray, List.set_cons_zero, List.set_cons_succ]
      have AR13 := AR.on b13
      have q0 := AR13.cell 0 _ rfl
      have q1 := AR13.cell 1 _ rfl
      have z0 := AR13.free 0 _ rfl
      have z1 := AR13.free 1 _ rfl
      refine line_alone rfl (by kernel_rfl) (fun K hK => ?_)
      go_big_op
      refine hK _ _ ((by (iterate 2 (refine Hold.setB ?_ (by dsimp only; omega) (by dsimp only; omega) _)); exact ⟨btr bV b13, AV.on b13⟩)) ?_
      clear hK K
      refine line_nil ?_
      have HT := Lib.hid (And.intro O13 (btr bV b13))
      clear O13 b13 AR13 inst AV AR
      go_wp2_with fail
      refine bodyPost_ret (v := .agg #[.int .i64 0, .slice a13 ((headP p.a p.b p.e p.u).length + p.n.size) c13]) (by simp [results, Tryz.results208, go_sem, q0, q1]) rfl ?_
      exact ⟨_, _, _, rfl, (by (iterate 2 (refine Own.setCell ?_ (fun g hg => by have := (HT.out.1.lt g hg).1; dsimp only; omega) _)); exact HT.out.1.less (by omega)), (by (iterate 2 (refine bset ?_ (by dsimp only; omega) _)); exact HT.out.2)⟩
  · have e : packPL p = [] := by simp [packPL, h]
    rw [e]
    generalize p.f = cd at *
    clear e
    go_enter Tryz.func208, Tryz.ntmps208
    go_wp2_with fail
    generalize (w.alloc (.cells #[.string p.n, .int .i64 p.a, .int .i64 p.b, .int .i64 p.e, .int .i64 p.u] 59)).alloc (.cells #[.int .i64 0, .slice none 0 0] 39) = W0 at *
    refine (F _).mono ?_
    rintro r w1 ⟨rfl, b1⟩
    have q0 := (A2.on b1).cell 0 _ rfl
    have q1 := (A2.on b1).cell 1 _ rfl
    have z0 := (A2.on b1).free 0 _ rfl
    have z1 := (A2.on b1).free 1 _ rfl
    have hb := btr b0 b1
    clear A1 A2 b0 b1 F
    go_wp2_with fail
    refine bodyPost_ret (v := .agg #[.int .i64 cd, .slice none 0 0]) (by simp [results, Tryz.results208, go_sem, q0, q1]) rfl ?_
    exact ⟨_, _, _, rfl, Own.nil _ _ _, (by (iterate 2 (refine bset ?_ (by dsimp only; omega) _)); exact hb)⟩
end Go.Proofs.YtlodhleihnlchaaGreatDoor
