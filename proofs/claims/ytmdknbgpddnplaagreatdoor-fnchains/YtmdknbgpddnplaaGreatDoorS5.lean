/- Texts of this seat that several laws rest on, laid into one. Conditions: as each theorem states. -/
import Derived.Test.YtmdknbgpddnplaaGreatDoorS1
import Derived.Test.YtmdknbgpddnplaaGreatDoorS2
import Derived.Test.YtmdknbgpddnplaaGreatDoorS4
namespace Go.Proofs.YtmdknbgpddnplaaGreatDoor
open Go.RowKit
set_option maxRecDepth 100000

/-! Whole numbers below 2879 as floats, and back. -/
def floatBackB (n : Nat) : Bool := floatToIntVal .f64 (floatOfInt .f64 (n : Int)) .i64 == some (n : Int)
theorem float_all : M.allB floatBackB 2879 = true := by decide +kernel
theorem float_back {n : Int} (h0 : 0 ≤ n) (h1 : n ≤ 2878) : floatToIntVal .f64 (floatOfInt .f64 n) .i64 = some n := by
  obtain ⟨n, rfl⟩ := Int.eq_ofNat_of_zero_le h0
  have h := M.allB_out float_all (k := n) (by omega)
  simp only [floatBackB, beq_iff_eq] at h
  exact h
/-- The two numbers as one complex one. -/
def pairV (p q : Int) : Value := .complex .f64 (floatOfInt .f64 p) (floatOfInt .f64 q)

theorem point_any (p q : Int) (w : World) (h0 : 0 ≤ p) (h1 : p ≤ 2878) :
    Calls Tryz.prog 72 #[pairV p q] w fun r w' => r = .returned (.int .i64 p) ∧ w = w' := by
  have hf := float_back h0 h1
  have hc := fun (w : World) => run_convert_float_int (P := Tryz.prog) w 160 2 .f64 .i64 (floatOfInt .f64 p) p (by kernel_rfl) Tryz.underlying2 hf
  unfold pairV
  go_enter Tryz.func72, Tryz.ntmps72
  go_wp2_with fail
  go_ret
  simp
theorem proof_any (p q : Int) (w : World) (h0 : 0 ≤ q) (h1 : q ≤ 2878) :
    Calls Tryz.prog 73 #[pairV p q] w fun r w' => r = .returned (.int .i64 q) ∧ w = w' := by
  have hf := float_back h0 h1
  have hc := fun (w : World) => run_convert_float_int (P := Tryz.prog) w 160 2 .f64 .i64 (floatOfInt .f64 q) q (by kernel_rfl) Tryz.underlying2 hf
  unfold pairV
  go_enter Tryz.func73, Tryz.ntmps73
  go_wp2_with fail
  go_ret
  simp

/-- An error of what does not fit was answered. -/
def Misfit (w : World) (r : Ending) (w' : World) : Prop := ∃ s, r = .returned (misV 3 s) ∧ Below w.heap.size w w'
theorem fitSigner_yes (s t : Int) (w : World) (hs : inB s 1 1438 = true) (ht : M.sumB t = true) :
    Calls Tryz.prog 105 #[.int .i64 s, .int .i64 t] w fun r w' => r = .returned .nilIface ∧ w = w' := by
  go_enter Tryz.func105, Tryz.ntmps105
  go_wp2_with fail
  refine (isSecret_any _ _).mono ?_
  rintro r w' ⟨rfl, rfl⟩
  go_wp2_with fail
  refine (isSum_any _ _).mono ?_
  rintro r w' ⟨rfl, rfl⟩
  go_wp2_with fail
  go_ret
  simp
theorem fitSigner_no (s t : Int) (w : World) (h : (inB s 1 1438 && M.sumB t) = false) :
    Calls Tryz.prog 105 #[.int .i64 s, .int .i64 t] w (Misfit w) := by
  cases hs : inB s 1 1438
  · clear h
    go_enter Tryz.func105, Tryz.ntmps105
    go_wp2_with fail
    refine (isSecret_any _ _).mono ?_
    rintro r w' ⟨rfl, rfl⟩
    go_wp2_with fail
    go_ret
    exact ⟨_, rfl, Below.refl _ _⟩
  · have ht : M.sumB t = false := by simpa [hs] using h
    clear h
    go_enter Tryz.func105, Tryz.ntmps105
    go_wp2_with fail
    refine (isSecret_any _ _).mono ?_
    rintro r w' ⟨rfl, rfl⟩
    go_wp2_with fail
    refine (isSum_any _ _).mono ?_
    rintro r w' ⟨rfl, rfl⟩
    go_wp2_with fail
    go_ret
    exact ⟨_, rfl, Below.refl _ _⟩

theorem pairOf_yes (p q : Int) (w : World) (h : M.sigB p q = true) :
    Calls Tryz.prog 67 #[I2 p q] w fun r w' => r = .returned (.tuple #[pairV p q, .nilIface]) ∧ Below w.heap.size w w' := by
  obtain ⟨p0, p1, q0, q1⟩ := M.sigB_bd h
  have hp : pubB p = true := by simp only [M.sigB, Bool.and_eq_true] at h; exact h.1
  unfold pairV
  clear h
  go_enter Tryz.func67, Tryz.ntmps67
  go_wp2_with fail
  refine (implIsPublic_any _ _).mono ?_
  rintro r w1 ⟨rfl, hb_w1⟩
  obtain ⟨hc_w1, hf_w1⟩ := bcell hb_w1
  have hz_w1 := hb_w1.size
  (try simp at hz_w1)
  go_wp2_with fail
  go_ret2
  exact ⟨rfl, btr (bal (Below.refl _ _) _) hb_w1⟩
def PairNo (w : World) (r : Ending) (w' : World) : Prop := ∃ s v, r = .returned (.tuple #[v, misV 3 s]) ∧ Below w.heap.size w w'
theorem pairOf_no (p q : Int) (w : World) (h : M.sigB p q = false) :
    Calls Tryz.prog 67 #[I2 p q] w (PairNo w) := by
  cases hp : pubB p
  · clear h
    go_enter Tryz.func67, Tryz.ntmps67
    go_wp2_with fail
    refine (implIsPublic_any _ _).mono ?_
    rintro r w1 ⟨rfl, hb_w1⟩
    obtain ⟨hc_w1, hf_w1⟩ := bcell hb_w1
    have hz_w1 := hb_w1.size
    (try simp at hz_w1)
    go_wp2_with fail
    go_ret2
    exact ⟨_, _, rfl, btr (bal (Below.refl _ _) _) hb_w1⟩
  · have hq : ¬ (0 ≤ q ∧ q ≤ 1438) := by
      intro hq
      simp only [M.sigB, hp, inB, hq, and_self, decide_true, Bool.and_self] at h
      cases h
    clear h
    by_cases q0 : q < 0
    · go_enter Tryz.func67, Tryz.ntmps67
      go_wp2_with fail
      refine (implIsPublic_any _ _).mono ?_
      rintro r w1 ⟨rfl, hb_w1⟩
      obtain ⟨hc_w1, hf_w1⟩ := bcell hb_w1
      have hz_w1 := hb_w1.size
      (try simp at hz_w1)
      go_wp2_with fail
      go_ret2
      exact ⟨_, _, rfl, btr (bal (Below.refl _ _) _) hb_w1⟩
    · have q1 : 1438 < q := by omega
      clear hq
      go_enter Tryz.func67, Tryz.ntmps67
      go_wp2_with fail
      refine (implIsPublic_any _ _).mono ?_
      rintro r w1 ⟨rfl, hb_w1⟩
      obtain ⟨hc_w1, hf_w1⟩ := bcell hb_w1
      have hz_w1 := hb_w1.size
      (try simp at hz_w1)
      go_wp2_with fail
      go_ret2
      exact ⟨_, _, rfl, btr (bal (Below.refl _ _) _) hb_w1⟩

theorem nonce_any (s t : Int) (w : World) (hL : Labels w) (hs : M.sumB s = true) (ht : M.sumB t = true) :
    Calls Tryz.prog 106 #[.int .i64 s, .int .i64 t] w fun r w' => r = .returned (.int .i64 (M.nonceN s t)) ∧ Below w.heap.size w w' := by
  have hlab := hL.nonceW
  have hlt := hL.lt
  have hR := row_two (w := w) s t 2 hs ht
  have HA := Lib.hid (show [s, t].all M.sumB = true by simp [hs, ht])
  obtain ⟨t0, t1⟩ := M.tagL_bd M.nonceS [s, t]
  unfold M.nonceN
  clear hL hs ht
  go_enter Tryz.func106, Tryz.ntmps106
  go_wp2_with fail
  refine (sumTagged_any _ _ _ _ _ _ _ (by decide) hR (by simp) HA.out (by omega)).mono ?_
  rintro r w2 ⟨rfl, hb2⟩
  have hb := btr (bal (Below.refl _ _) _) hb2
  clear hb2 hR hlab HA
  go_wp2_with fail
  go_ret
  exact ⟨rfl, hb⟩
theorem challenge_any (p q t : Int) (w : World) (hL : Labels w) (hp : M.sumB p = true) (hq : M.sumB q = true) (ht : M.sumB t = true) :
    Calls Tryz.prog 71 #[.int .i64 p, .int .i64 q, .int .i64 t] w fun r w' => r = .returned (.int .i64 (M.chalN p q t)) ∧ Below w.heap.size w w' := by
  have hlab := hL.signW
  have hlt := hL.lt
  have hR := row_three (w := w) p q t 2 hp hq ht
  have HA := Lib.hid (show [p, q, t].all M.sumB = true by simp [hp, hq, ht])
  obtain ⟨t0, t1⟩ := M.tagL_bd M.signS [p, q, t]
  unfold M.chalN
  clear hL hp hq ht
  go_enter Tryz.func71, Tryz.ntmps71
  go_wp2_with fail
  refine (sumTagged_any _ _ _ _ _ _ _ (by decide) hR (by simp) HA.out (by omega)).mono ?_
  rintro r w2 ⟨rfl, hb2⟩
  have hb := btr (bal (Below.refl _ _) _) hb2
  clear hb2 hR hlab HA
  go_wp2_with fail
  go_ret
  exact ⟨rfl, hb⟩

theorem l3Nonce_any (s t : Int) (w : World) (hs : M.sumB s = true) (ht : M.sumB t = true) :
    Calls Tryz.prog 144 #[.int .i64 s, .int .i64 t] w fun r w' => r = .returned (.int .i64 (M.nonceN s t)) ∧ Below w.heap.size w w' := by
  have hR := row_two (w := w) s t 2 hs ht
  have HA := Lib.hid (show [s, t].all M.sumB = true by simp [hs, ht])
  obtain ⟨t0, t1⟩ := M.tagL_bd M.nonceS [s, t]
  unfold M.nonceN
  clear hs ht
  go_enter Tryz.func144, Tryz.ntmps144
  go_wp2_with fail
  refine (l2Tag_any M.nonceS _ _ _ _ _ _ (by decide) hR (by simp) HA.out (by omega)).mono ?_
  rintro r w2 ⟨rfl, hb2⟩
  have hb := btr (bal (Below.refl _ _) _) hb2
  clear hb2 hR HA
  go_wp2_with fail
  go_ret
  exact ⟨rfl, hb⟩
theorem l3Challenge_any (p q t : Int) (w : World) (hp : M.sumB p = true) (hq : M.sumB q = true) (ht : M.sumB t = true) :
    Calls Tryz.prog 142 #[.int .i64 p, .int .i64 q, .int .i64 t] w fun r w' => r = .returned (.int .i64 (M.chalN p q t)) ∧ Below w.heap.size w w' := by
  have hR := row_three (w := w) p q t 2 hp hq ht
  have HA := Lib.hid (show [p, q, t].all M.sumB = true by simp [hp, hq, ht])
  obtain ⟨t0, t1⟩ := M.tagL_bd M.signS [p, q, t]
  unfold M.chalN
  clear hp hq ht
  go_enter Tryz.func142, Tryz.ntmps142
  go_wp2_with fail
  refine (l2Tag_any M.signS _ _ _ _ _ _ (by decide) hR (by simp) HA.out (by omega)).mono ?_
  rintro r w2 ⟨rfl, hb2⟩
  have hb := btr (bal (Below.refl _ _) _) hb2
  clear hb2 hR HA
  go_wp2_with fail
  go_ret
  exact ⟨rfl, hb⟩

theorem l3Fault_at (g o : Nat) (p q : Int) (w : World) (c0 : w.cell? ⟨g, o, none⟩ = some (.int .i64 p)) (c1 : w.cell? ⟨g, o + 1, none⟩ = some (.int .i64 q)) :
    Calls Tryz.prog 111 #[.pointer (some ⟨g, o, none⟩)] w fun r w' => r = .returned (.int .i64 (M.sigF p q)) ∧ w = w' := by
  cases hp : pubB p
  · have E : M.sigF p q = 3 := by simp [M.sigF, M.sigB, hp]
    rw [E]; clear E
    go_enter Tryz.func111, Tryz.ntmps111
    go_wp2_with fail
    refine (l1Public_any _ _).mono ?_
    rintro r w' ⟨rfl, rfl⟩
    go_wp2_with fail
    go_ret
    simp
  cases hq : inB q 0 1438
  · have E : M.sigF p q = 3 := by simp [M.sigF, M.sigB, hq]
    rw [E]; clear E
    go_enter Tryz.func111, Tryz.ntmps111
    go_wp2_with fail
    refine (l1Public_any _ _).mono ?_
    rintro r w' ⟨rfl, rfl⟩
    go_wp2_with fail
    refine (l1In_any _ _ _ _).mono ?_
    rintro r w' ⟨rfl, rfl⟩
    go_wp2_with fail
    go_ret
    simp
  · have E : M.sigF p q = 0 := by simp [M.sigF, M.sigB, hp, hq]
    rw [E]; clear E
    go_enter Tryz.func111, Tryz.ntmps111
    go_wp2_with fail
    refine (l1Public_any _ _).mono ?_
    rintro r w' ⟨rfl, rfl⟩
    go_wp2_with fail
    refine (l1In_any _ _ _ _).mono ?_
    rintro r w' ⟨rfl, rfl⟩
    go_wp2_with fail
    go_ret
    simp
theorem l3Fault_any (g : Nat) (p q : Int) (w : World) (c0 : w.cell? ⟨g, 0, none⟩ = some (.int .i64 p)) (c1 : w.cell? ⟨g, 1, none⟩ = some (.int .i64 q)) :
    Calls Tryz.prog 111 #[.pointer (some ⟨g, 0, none⟩)] w fun r w' => r = .returned (.int .i64 (M.sigF p q)) ∧ w = w' := l3Fault_at g 0 p q w c0 c1
theorem toSigned_any (p q : Int) (w : World) :
    Calls Tryz.prog 89 #[I2 p q] w fun r w' => r = .returned (I2 p q) ∧ Below w.heap.size w w' := by
  go_enter Tryz.func89, Tryz.ntmps89
  go_wp2_with fail
  exact bodyPost_ret (v := I2 p q) (by simp [results, Tryz.results89, go_sem]) rfl ⟨rfl, bal (bal (bal (Below.refl _ _) _) _) _⟩
end Go.Proofs.YtmdknbgpddnplaaGreatDoor
namespace Go.Proofs.YtmdknbgpddnplaaGreatDoor
open Go.RowKit
set_option maxRecDepth 100000

theorem signer_split {s t : Int} (h : (inB s 1 1438 && M.sumB t) = true) : inB s 1 1438 = true ∧ M.sumB t = true := by simpa using h

theorem implSignSum_any (s t : Int) (w : World) (hL : Labels w) (hg : ErrT w) :
    Calls Tryz.prog 60 #[.int .i64 s, .int .i64 t] w fun r w' => r = .returned (I3 (M.signR s t).1 (M.signR s t).2.1 (M.signR s t).2.2) ∧ Below w.heap.size w w' := by
  cases h : (inB s 1 1438 && M.sumB t)
  · have E : M.signR s t = (3, 0, 0) := by simp only [M.signR, h]; rfl
    rw [E]; clear E
    go_enter Tryz.func60, Tryz.ntmps60
    go_wp2_with fail
    refine (fitSigner_no s t _ h).mono ?_
    rintro r w1 ⟨m, rfl, hb1⟩
    have hR1 := (Res3.new w _).on hb1
    have hb1' := btr (bal (Below.refl _ w) _) hb1
    have hg1 := hg.on hb1'
    clear hg hL hb1
    go_wp2_with fail
    refine (codeOf_mis _ _ _ hg1).mono ?_
    rintro r w2 ⟨rfl, hb2⟩
    obtain ⟨q0, q1, q2, z0, z1, z2⟩ := hR1.on hb2
    have hb := btr hb1' hb2
    clear hR1 hg1 hb1' hb2
    go_wp2_with fail
    exact bodyPost_ret (v := I3 3 0 0) (by simp [results, Tryz.results60, go_sem, q0, q1, q2]) rfl ⟨rfl, bset (bset (bset hb (Nat.le_refl _) _) (Nat.le_refl _) _) (Nat.le_refl _) _⟩
  · obtain ⟨hs, ht⟩ := signer_split h
    have E : M.signR s t = (0, M.sigPt s t, M.sigPr s t) := by simp only [M.signR, h]; rfl
    rw [E]; clear E h
    have hs' := hs
    simp only [inB, decide_eq_true_eq] at hs'
    obtain ⟨s0, s1⟩ := hs'
    have hS := M.sum_of_sec hs
    obtain ⟨n0, n1⟩ := M.nonceN_bd s t
    obtain ⟨c0, c1⟩ := M.chalN_bd (M.pubN s) (M.sigPt s t) t
    have hp1 := M.pow_sum (a := 4) s.toNat
    have hp2 := M.pow_sum (a := 4) (M.nonceN s t).toNat
    have ep : M.pw 4 s.toNat 2879 = M.pubN s := rfl
    have eq : M.pw 4 (M.nonceN s t).toNat 2879 = M.sigPt s t := rfl
    rw [ep] at hp1
    rw [eq] at hp2
    have er : M.sigPr s t = (M.nonceN s t + M.chalN (M.pubN s) (M.sigPt s t) t * s % 1439) % 1439 := by unfold M.sigPr; omega
    obtain ⟨m0, m1⟩ := M.mod_bd (M.chalN (M.pubN s) (M.sigPt s t) t * s) (m := 1439) (by omega)
    rw [er]
    clear er hg
    generalize M.sigPt s t = P at *
    generalize M.pubN s = U at *
    go_enter Tryz.func60, Tryz.ntmps60
    go_wp2_with fail
    refine (fitSigner_yes s t _ hs ht).mono ?_
    rintro r w' ⟨rfl, rfl⟩
    go_wp2_with fail
    have hL0 := fun o => hL.on (bal (Below.refl _ w) o)
    refine (nonce_any s t _ (hL0 _) hS ht).mono ?_
    rintro r w1 ⟨rfl, hb0⟩
    have hR1 := (Res3.new w _).on hb0
    have hb1 := btr (bal (Below.refl _ w) _) hb0
    clear hL0 hb0
    go_wp2_with fail
    refine (power_int _ _ _ _ (by omega) (by omega) (by omega) (by omega) (by omega) (by omega)).mono ?_
    rintro r w2 ⟨rfl, hb2⟩
    rw [ep]
    go_wp2_with fail
    refine (power_int _ _ _ _ (by omega) (by omega) (by omega) (by omega) (by omega) (by omega)).mono ?_
    rintro r w3 ⟨rfl, hb3⟩
    rw [eq]
    have hb4 := btr (btr hb1 hb2) hb3
    have hR4 := (hR1.on hb2).on hb3
    have hL4 := hL.on hb4
    clear hL hR1 hb1 hb2 hb3 ep eq
    go_wp2_with fail
    refine (challenge_any _ _ _ _ hL4 hp1 hp2 ht).mono ?_
    rintro r w5 ⟨rfl, hb5⟩
    have hb6 := btr hb4 hb5
    have hR6 := (hR4.on hb5).on (bal (Below.refl _ _) (.cells #[.int .i64 (M.chalN U P t), .int .i64 s] 2))
    clear hL4 hR4 hb4 hb5
    go_wp2_with fail
    refine (product_two 1439 (M.chalN U P t) s _ _ (by omega) (by omega) (by omega) (by omega) (by omega) (by omega) (by go_simp) (by go_simp)).mono ?_
    rintro r w7 ⟨rfl, rfl⟩
    obtain ⟨q0, q1, q2, z0, z1, z2⟩ := hR6
    go_wp2_with fail
    exact bodyPost_ret (v := I3 0 P ((M.nonceN s t + M.chalN U P t * s % 1439) % 1439)) (by simp [results, Tryz.results60, go_sem, q0, q1, q2]) rfl ⟨rfl, bset (bset (bset (bal hb6 _) (Nat.le_refl _) _) (Nat.le_refl _) _) (Nat.le_refl _) _⟩
end Go.Proofs.YtmdknbgpddnplaaGreatDoor
namespace Go.Proofs.YtmdknbgpddnplaaGreatDoor
open Go.RowKit
set_option maxRecDepth 100000

theorem kf0 (a b : Int) (w : World) : Sem.run Tryz.prog (Instr.field 103 (.agg #[.int .i64 a, .int .i64 b]) 0) w = .ok (.int .i64 a) w := by kernel_rfl
theorem kf1 (a b : Int) (w : World) : Sem.run Tryz.prog (Instr.field 103 (.agg #[.int .i64 a, .int .i64 b]) 1) w = .ok (.int .i64 b) w := by kernel_rfl

theorem l3Sign_any (s t : Int) (w : World) (hs : inB s 1 1438 = true) (ht : M.sumB t = true) :
    Calls Tryz.prog 121 #[.int .i64 s, .int .i64 t] w fun r w' => r = .returned (I2 (M.sigPt s t) (M.sigPr s t)) ∧ Below w.heap.size w w' := by
  have hs' := hs
  simp only [inB, decide_eq_true_eq] at hs'
  obtain ⟨s0, s1⟩ := hs'
  have hS := M.sum_of_sec hs
  have e1 : M.sigPt s t = M.pw 4 (M.nonceN s t).toNat 2879 := rfl
  have e2 : M.sigPr s t = (M.nonceN s t + M.chalN (M.pw 4 s.toNat 2879) (M.pw 4 (M.nonceN s t).toNat 2879) t * s) % 1439 := rfl
  rw [e1, e2]
  clear e1 e2
  obtain ⟨n0, n1⟩ := M.nonceN_bd s t
  obtain ⟨c0, c1⟩ := M.chalN_bd (M.pw 4 s.toNat 2879) (M.pw 4 (M.nonceN s t).toNat 2879) t
  obtain ⟨m0, m1⟩ := M.mul_bd (M := 1439) c0 (by omega) (show 0 ≤ s by omega) (by omega) (by omega)
  have hp1 := M.pow_sum (a := 4) s.toNat
  have hp2 := M.pow_sum (a := 4) (M.nonceN s t).toNat
  have K1 := fun w => l1Key_any s w (by omega) (by omega)
  have K2 := fun w => l1Key_any (M.nonceN s t) w (by omega) (by omega)
  generalize M.pw 4 s.toNat 2879 = U at *
  generalize M.pw 4 (M.nonceN s t).toNat 2879 = P at *
  have g0 := kf0
  have g1 := kf1
  have N1 := fun w => l3Nonce_any s t w hS ht
  generalize M.nonceN s t = n at *
  go_enter Tryz.func121, Tryz.ntmps121
  go_wp2_with fail
  refine (N1 _).mono ?_
  rintro r w1 ⟨rfl, h1⟩
  go_wp2_with fail
  refine (K2 _).mono ?_
  rintro r w2 ⟨rfl, h2⟩
  have k0 : (w2.alloc (.cells #[.int .i64 n, .int .i64 P] 103)).drew.cell? ⟨w2.heap.size, 0, none⟩ = some (.int .i64 n) := by go_simp
  have k1 : (w2.alloc (.cells #[.int .i64 n, .int .i64 P] 103)).drew.cell? ⟨w2.heap.size, 1, none⟩ = some (.int .i64 P) := by go_simp
  have hbel := (bal (btr h1 h2) (.cells #[.int .i64 n, .int .i64 P] 103)).drew
  have hR0 := Res2.new w 27
  have hb0 := bal (Below.refl _ w) (.cells #[.int .i64 0, .int .i64 0] 27)
  clear h1 h2
  go_wp2_with fail
  generalize w2.alloc (.cells #[.int .i64 n, .int .i64 P] 103) = v2 at *
  generalize w.alloc (.cells #[.int .i64 0, .int .i64 0] 27) = W0 at *
  go_region_held3 (fun w' => w'.cell? ⟨w2.heap.size, 1, none⟩ = some (.int .i64 P)) (first | exact k1) (first | (go_at_call 120; refine (K1 _).mono ?_; rintro r wn ⟨rfl, hbn⟩; have pk := cell_keep hbn k0; clear k0; have k0 := pk; clear pk; have pk := cell_keep hbn k1; clear k1; have k1 := pk; clear pk; have bk := btr hbel hbn; clear hbel; have hbel := bk; clear bk hbn) | (go_at_call 142; refine (l3Challenge_any _ _ _ _ hp1 hp2 ht).mono ?_; rintro r wn ⟨rfl, hbn⟩; have pk := cell_keep hbn k0; clear k0; have k0 := pk; clear pk; have pk := cell_keep hbn k1; clear k1; have k1 := pk; clear pk; have bk := btr hbel hbn; clear hbel; have hbel := bk; clear bk hbn))
  all_goals
    obtain ⟨q0, q1, z0, z1⟩ := hR0.on hbel
    go_wp2_with fail
    exact bodyPost_ret (v := I2 P ((n + M.chalN U P t * s) % 1439)) (by simp [results, Tryz.results121, go_sem, q0, q1]) rfl ⟨rfl, bset (bset (btr hb0 hbel) (Nat.le_refl _) _) (Nat.le_refl _) _⟩

theorem checkB_yes {u t p q : Int} (hu : pubB u = true) (ht : M.sumB t = true) (hg : M.sigB p q = true) : M.checkB u t p q = (M.pw 4 q.toNat 2879 == p * M.pw u (M.chalN u p t).toNat 2879 % 2879) := by
  simp only [M.checkB, hu, ht, hg, Bool.and_self, Bool.true_and]

theorem l3Check_at (u t : Int) (g o : Nat) (p q : Int) (w : World) (d0 : w.cell? ⟨g, o, none⟩ = some (.int .i64 p)) (d1 : w.cell? ⟨g, o + 1, none⟩ = some (.int .i64 q)) :
    Calls Tryz.prog 113 #[.int .i64 u, .int .i64 t, .pointer (some ⟨g, o, none⟩)] w fun r w' => r = .returned (.bool (M.checkB u t p q)) ∧ Below w.heap.size w w' := by
  cases hu : pubB u
  · have E : M.checkB u t p q = false := by simp [M.checkB, hu]
    rw [E]; clear E
    go_enter Tryz.func113, Tryz.ntmps113
    go_wp2_with fail
    refine (l1Public_any _ _).mono ?_
    rintro r w' ⟨rfl, rfl⟩
    go_wp2_with fail
    go_ret
    exact ⟨rfl, Below.refl _ _⟩
  cases ht : M.sumB t
  · have E : M.checkB u t p q = false := by simp [M.checkB, ht]
    rw [E]; clear E
    go_enter Tryz.func113, Tryz.ntmps113
    go_wp2_with fail
    refine (l1Public_any _ _).mono ?_
    rintro r w' ⟨rfl, rfl⟩
    go_wp2_with fail
    refine (l2Is_any _ _).mono ?_
    rintro r w' ⟨rfl, rfl⟩
    go_wp2_with fail
    go_ret
    exact ⟨rfl, Below.refl _ _⟩
  cases hg : M.sigB p q
  · have E : M.checkB u t p q = false := by simp [M.checkB, hg]
    have F : M.sigF p q = 3 := by simp [M.sigF, hg]
    rw [E]; clear E
    have F1 := l3Fault_at g o p q w d0 d1
    rw [F] at F1
    go_enter Tryz.func113, Tryz.ntmps113
    go_wp2_with fail
    refine (l1Public_any _ _).mono ?_
    rintro r w' ⟨rfl, rfl⟩
    go_wp2_with fail
    refine (l2Is_any _ _).mono ?_
    rintro r w' ⟨rfl, rfl⟩
    go_wp2_with fail
    refine (F1).mono ?_
    rintro r w' ⟨rfl, rfl⟩
    go_wp2_with fail
    go_ret
    exact ⟨rfl, Below.refl _ _⟩
  rw [checkB_yes hu ht hg]
  have F : M.sigF p q = 0 := by simp [M.sigF, hg]
  have F1 := l3Fault_at g o p q w d0 d1
  rw [F] at F1
  clear F
  obtain ⟨p0, p1, q0, q1⟩ := M.sigB_bd hg
  obtain ⟨u0, u1⟩ := pubB_bd hu
  have hp : pubB p = true := by simp only [M.sigB, Bool.and_eq_true] at hg; exact hg.1
  have C1 := fun w => l3Challenge_any u p t w (M.sum_of_pub hu) (M.sum_of_pub hp) ht
  obtain ⟨c0, c1⟩ := M.chalN_bd u p t
  generalize M.chalN u p t = e at *
  have A1 := fun w => l1Raise_int 4 q w (by omega) (by omega) (by omega) (by omega)
  have A2 := fun w => l1Raise_int u e w (by omega) (by omega) (by omega) (by omega)
  obtain ⟨x0, x1⟩ := M.pw_bd u e.toNat (m := 2879) (by omega)
  obtain ⟨m0, m1⟩ := M.mul_bd (M := 2879) (show 0 ≤ p by omega) (by omega) x0 x1 (by omega)
  generalize M.pw 4 q.toNat 2879 = X at *
  generalize M.pw u e.toNat 2879 = Y at *
  have EW := Lib.hid (show IntKind.i64.wrap (p * Y) = p * Y ∧ (p * Y).tmod 2879 = p * Y % 2879 from ⟨by rw [IntKind.wrap_i64]; omega, Int.tmod_eq_emod_of_nonneg m0⟩)
  go_enter Tryz.func113, Tryz.ntmps113
  go_wp2_with fail
  refine (l1Public_any _ _).mono ?_
  rintro r w' ⟨rfl, rfl⟩
  go_wp2_with fail
  refine (l2Is_any _ _).mono ?_
  rintro r w' ⟨rfl, rfl⟩
  go_wp2_with fail
  refine (F1).mono ?_
  rintro r w' ⟨rfl, rfl⟩
  go_wp2_with fail
  refine (C1 _).mono ?_
  rintro r w1 ⟨rfl, h1⟩
  have k0 : w1.drew.cell? ⟨g, o, none⟩ = some (.int .i64 p) := cell_keep h1 d0
  have k1 : w1.drew.cell? ⟨g, o + 1, none⟩ = some (.int .i64 q) := cell_keep h1 d1
  have hbel : Below w.heap.size w w1.drew := h1.drew
  clear h1 d0 d1 F1
  go_wp2_with fail
  go_region_held3 (fun w' => w'.cell? ⟨g, o, none⟩ = some (.int .i64 p) ∧ w'.cell? ⟨g, o + 1, none⟩ = some (.int .i64 q)) (first | exact ⟨k0, k1⟩) (first | (go_at_call 140; refine (A1 _).mono ?_; rintro r wn ⟨rfl, rfl⟩) | (go_at_call 140; refine (A2 _).mono ?_; rintro r wn ⟨rfl, rfl⟩))
  all_goals
    go_wp2_with fail
    go_ret
    exact ⟨by show Ending.returned (Value.bool (X == (IntKind.i64.wrap (p * Y)).tmod 2879)) = _; rw [EW.out.1, EW.out.2], hbel⟩
theorem l3Check_any (u t : Int) (g : Nat) (p q : Int) (w : World) (d0 : w.cell? ⟨g, 0, none⟩ = some (.int .i64 p)) (d1 : w.cell? ⟨g, 1, none⟩ = some (.int .i64 q)) :
    Calls Tryz.prog 113 #[.int .i64 u, .int .i64 t, .pointer (some ⟨g, 0, none⟩)] w fun r w' => r = .returned (.bool (M.checkB u t p q)) ∧ Below w.heap.size w w' := l3Check_at u t g 0 p q w d0 d1
theorem implCheckSign_any (u t p q : Int) (w : World) (hL : Labels w) :
    Calls Tryz.prog 18 #[.int .i64 u, .int .i64 t, I2 p q] w fun r w' => r = .returned (.bool (M.checkB u t p q)) ∧ Below w.heap.size w w' := by
  cases hg : M.sigB p q
  · have E : M.checkB u t p q = false := by simp [M.checkB, hg]
    rw [E]; clear E
    go_enter Tryz.func18, Tryz.ntmps18
    go_wp2_with fail
    refine (pairOf_no p q _ hg).mono ?_
    rintro r w1 ⟨s, v, rfl, h1⟩
    go_wp2_with fail
    go_ret
    exact ⟨rfl, btr (bal (Below.refl _ w) _) h1⟩
  cases hu : pubB u
  · have E : M.checkB u t p q = false := by simp [M.checkB, hu]
    rw [E]; clear E
    go_enter Tryz.func18, Tryz.ntmps18
    go_wp2_with fail
    refine (pairOf_yes p q _ hg).mono ?_
    rintro r w1 ⟨rfl, h1⟩
    go_wp2_with fail
    refine (implIsPublic_any _ _).mono ?_
    rintro r w2 ⟨rfl, hb_w2⟩
    obtain ⟨hc_w2, hf_w2⟩ := bcell hb_w2
    have hz_w2 := hb_w2.size
    (try simp at hz_w2)
    go_wp2_with fail
    go_ret
    exact ⟨rfl, btr (btr (bal (Below.refl _ w) _) h1) hb_w2⟩
  cases ht : M.sumB t
  · have E : M.checkB u t p q = false := by simp [M.checkB, ht]
    rw [E]; clear E
    go_enter Tryz.func18, Tryz.ntmps18
    go_wp2_with fail
    refine (pairOf_yes p q _ hg).mono ?_
    rintro r w1 ⟨rfl, h1⟩
    go_wp2_with fail
    refine (implIsPublic_any _ _).mono ?_
    rintro r w2 ⟨rfl, hb_w2⟩
    obtain ⟨hc_w2, hf_w2⟩ := bcell hb_w2
    have hz_w2 := hb_w2.size
    (try simp at hz_w2)
    go_wp2_with fail
    refine (isSum_any _ _).mono ?_
    rintro r w' ⟨rfl, rfl⟩
    go_wp2_with fail
    go_ret
    exact ⟨rfl, btr (btr (bal (Below.refl _ w) _) h1) hb_w2⟩
  rw [checkB_yes hu ht hg]
  obtain ⟨p0, p1, q0, q1⟩ := M.sigB_bd hg
  obtain ⟨u0, u1⟩ := pubB_bd hu
  have hp : pubB p = true := by simp only [M.sigB, Bool.and_eq_true] at hg; exact hg.1
  have C1 := fun w hL => challenge_any u p t w hL (M.sum_of_pub hu) (M.sum_of_pub hp) ht
  have P1 := fun w => point_any p q w (by omega) (by omega)
  have P2 := fun w => proof_any p q w (by omega) (by omega)
  have Y1 := fun w => pairOf_yes p q w hg
  obtain ⟨c0, c1⟩ := M.chalN_bd u p t
  generalize M.chalN u p t = e at *
  have A1 := fun w => power_int 2879 4 q w (by omega) (by omega) (by omega) (by omega) (by omega) (by omega)
  have A2 := fun w => power_int 2879 u e w (by omega) (by omega) (by omega) (by omega) (by omega) (by omega)
  obtain ⟨x0, x1⟩ := M.pw_bd u e.toNat (m := 2879) (by omega)
  generalize M.pw 4 q.toNat 2879 = X at *
  generalize M.pw u e.toNat 2879 = Y at *
  generalize pairV p q = V at *
  go_enter Tryz.func18, Tryz.ntmps18
  go_wp2_with fail
  refine (Y1 _).mono ?_
  rintro r w1 ⟨rfl, h1⟩
  go_wp2_with fail
  refine (implIsPublic_any _ _).mono ?_
  rintro r w2 ⟨rfl, h2⟩
  have b2 := btr (btr (bal (Below.refl _ w) _) h1) h2
  clear h1 h2
  go_wp2_with fail
  refine (isSum_any _ _).mono ?_
  rintro r w' ⟨rfl, rfl⟩
  go_wp2_with fail
  refine (P1 _).mono ?_
  rintro r w' ⟨rfl, rfl⟩
  go_wp2_with fail
  refine (C1 _ (hL.on b2)).mono ?_
  rintro r w3 ⟨rfl, h3⟩
  have b3 := btr b2 h3
  clear b2 h3
  go_wp2_with fail
  refine (A2 _).mono ?_
  rintro r w4 ⟨rfl, h4⟩
  have b4 := btr b3 h4
  clear b3 h4
  go_wp2_with fail
  refine (P2 _).mono ?_
  rintro r w' ⟨rfl, rfl⟩
  go_wp2_with fail
  refine (A1 _).mono ?_
  rintro r w5 ⟨rfl, h5⟩
  have b5 := btr b4 h5
  clear b4 h5
  go_wp2_with fail
  refine (P1 _).mono ?_
  rintro r w' ⟨rfl, rfl⟩
  go_wp2_with fail
  refine (product_two 2879 p Y _ _ (by omega) (by omega) (by omega) (by omega) x0 x1 (by go_simp) (by go_simp)).mono ?_
  rintro r w6 ⟨rfl, rfl⟩
  go_wp2_with fail
  go_ret
  exact ⟨rfl, bal b5 _⟩

theorem eqSigned_any (a b : Int) (w : World) :
    Calls Tryz.prog 128 #[I2 a b, I2 a b] w fun r w' => r = .returned (.bool true) ∧ Below w.heap.size w w' := by
  go_enter Tryz.func128, Tryz.ntmps128
  go_wp2_with fail
  go_ret
  exact ⟨rfl, bal (bal (Below.refl _ _) _) _⟩
end Go.Proofs.YtmdknbgpddnplaaGreatDoor
namespace Go.Proofs.YtmdknbgpddnplaaGreatDoor
open Go.RowKit
set_option maxRecDepth 100000
set_option linter.unusedVariables false

def zeroR : List Value := [.string { data := #[] }, .int .i64 0, .int .i64 0, .int .i64 0, .int .i64 0, .int .i64 0, .int .i64 0, .int .i64 0]
theorem toRoll_any (r : RollD) (w : World) : Calls Tryz.prog 36 #[R8 r] w fun e w' => e = .returned (R8 r) ∧ Below w.heap.size w w' := by
  have b0 := bal (bal (bal (Below.refl _ w) (.cells #[.string r.p.n, .int .i64 r.p.a, .int .i64 r.p.b, .int .i64 r.p.e, .int .i64 r.p.u, .int .i64 r.b, .int .i64 r.x, .int .i64 r.y] 67)) (.cells #[.string { data := #[] }, .int .i64 0, .int .i64 0, .int .i64 0, .int .i64 0, .int .i64 0, .int .i64 0, .int .i64 0] 29)) (.cells #[.string { data := #[] }, .int .i64 0, .int .i64 0, .int .i64 0, .int .i64 0, .int .i64 0, .int .i64 0, .int .i64 0] 29)
  have A0 : At w.heap.size r.vals (((w.alloc (.cells #[.string r.p.n, .int .i64 r.p.a, .int .i64 r.p.b, .int .i64 r.p.e, .int .i64 r.p.u, .int .i64 r.b, .int .i64 r.x, .int .i64 r.y] 67)).alloc (.cells #[.string { data := #[] }, .int .i64 0, .int .i64 0, .int .i64 0, .int .i64 0, .int .i64 0, .int .i64 0, .int .i64 0] 29)).alloc (.cells #[.string { data := #[] }, .int .i64 0, .int .i64 0, .int .i64 0, .int .i64 0, .int .i64 0, .int .i64 0, .int .i64 0] 29)) := ((At.new w r.vals 67).alloc _).alloc _
  have Z0 : At (w.heap.size + 1) zeroR (((w.alloc (.cells #[.string r.p.n, .int .i64 r.p.a, .int .i64 r.p.b, .int .i64 r.p.e, .int .i64 r.p.u, .int .i64 r.b, .int .i64 r.x, .int .i64 r.y] 67)).alloc (.cells #[.string { data := #[] }, .int .i64 0, .int .i64 0, .int .i64 0, .int .i64 0, .int .i64 0, .int .i64 0, .int .i64 0] 29)).alloc (.cells #[.string { data := #[] }, .int .i64 0, .int .i64 0, .int .i64 0, .int .i64 0, .int .i64 0, .int .i64 0, .int .i64 0] 29)) := (At.newN (w := (w.alloc (.cells #[.string r.p.n, .int .i64 r.p.a, .int .i64 r.p.b, .int .i64 r.p.e, .int .i64 r.p.u, .int .i64 r.b, .int .i64 r.x, .int .i64 r.y] 67))) zeroR 29 (by simp)).alloc (.cells #[.string { data := #[] }, .int .i64 0, .int .i64 0, .int .i64 0, .int .i64 0, .int .i64 0, .int .i64 0, .int .i64 0] 29)
  have X0 : At (w.heap.size + 1 + 1) zeroR (((w.alloc (.cells #[.string r.p.n, .int .i64 r.p.a, .int .i64 r.p.b, .int .i64 r.p.e, .int .i64 r.p.u, .int .i64 r.b, .int .i64 r.x, .int .i64 r.y] 67)).alloc (.cells #[.string { data := #[] }, .int .i64 0, .int .i64 0, .int .i64 0, .int .i64 0, .int .i64 0, .int .i64 0, .int .i64 0] 29)).alloc (.cells #[.string { data := #[] }, .int .i64 0, .int .i64 0, .int .i64 0, .int .i64 0, .int .i64 0, .int .i64 0, .int .i64 0] 29)) := At.newN (w := ((w.alloc (.cells #[.string r.p.n, .int .i64 r.p.a, .int .i64 r.p.b, .int .i64 r.p.e, .int .i64 r.p.u, .int .i64 r.b, .int .i64 r.x, .int .i64 r.y] 67)).alloc (.cells #[.string { data := #[] }, .int .i64 0, .int .i64 0, .int .i64 0, .int .i64 0, .int .i64 0, .int .i64 0, .int .i64 0] 29))) zeroR 29 (by simp)
  have P := fun w => toPin_any r.p w
  have S := fun w => toSigned_any r.x r.y w
  go_enter Tryz.func36, Tryz.ntmps36
  go_wp2_with fail
  generalize ((w.alloc (.cells #[.string r.p.n, .int .i64 r.p.a, .int .i64 r.p.b, .int .i64 r.p.e, .int .i64 r.p.u, .int .i64 r.b, .int .i64 r.x, .int .i64 r.y] 67)).alloc (.cells #[.string { data := #[] }, .int .i64 0, .int .i64 0, .int .i64 0, .int .i64 0, .int .i64 0, .int .i64 0, .int .i64 0] 29)).alloc (.cells #[.string { data := #[] }, .int .i64 0, .int .i64 0, .int .i64 0, .int .i64 0, .int .i64 0, .int .i64 0, .int .i64 0] 29) = W0 at *
  refine (P _).mono ?_
  rintro e u1 ⟨rfl, b1⟩
  have A1 := A0.on b1
  have Z1 := Z0.on b1
  have X1 := X0.on b1
  have B1 := btr b0 b1
  clear A0 Z0 X0 b0 b1 P
  have p0 := A1.cell 0 _ rfl
  have p1 := A1.cell 1 _ rfl
  have p2 := A1.cell 2 _ rfl
  have p3 := A1.cell 3 _ rfl
  have p4 := A1.cell 4 _ rfl
  have p5 := A1.cell 5 _ rfl
  have p6 := A1.cell 6 _ rfl
  have p7 := A1.cell 7 _ rfl
  have x0 := X1.cell 0 _ rfl
  have x1 := X1.cell 1 _ rfl
  have x2 := X1.cell 2 _ rfl
  have x3 := X1.cell 3 _ rfl
  have x4 := X1.cell 4 _ rfl
  have x5 := X1.cell 5 _ rfl
  have x6 := X1.cell 6 _ rfl
  have x7 := X1.cell 7 _ rfl
  have f0 := X1.free 0 _ rfl
  have f1 := X1.free 1 _ rfl
  have f2 := X1.free 2 _ rfl
  have f3 := X1.free 3 _ rfl
  have f4 := X1.free 4 _ rfl
  have f5 := X1.free 5 _ rfl
  have f6 := X1.free 6 _ rfl
  have f7 := X1.free 7 _ rfl
  go_wp2_with fail
  have X2 := (((((X1.set 0 (.string r.p.n)).set 1 (.int .i64 r.p.a)).set 2 (.int .i64 r.p.b)).set 3 (.int .i64 r.p.e)).set 4 (.int .i64 r.p.u)).set 5 (.int .i64 r.b)
  have Z2 := (((((Z1.setB (p := ⟨w.heap.size + 1 + 1, 0, none⟩) (by simp) (.string r.p.n)).setB (p := ⟨w.heap.size + 1 + 1, 1, none⟩) (by simp) (.int .i64 r.p.a)).setB (p := ⟨w.heap.size + 1 + 1, 2, none⟩) (by simp) (.int .i64 r.p.b)).setB (p := ⟨w.heap.size + 1 + 1, 3, none⟩) (by simp) (.int .i64 r.p.e)).setB (p := ⟨w.heap.size + 1 + 1, 4, none⟩) (by simp) (.int .i64 r.p.u)).setB (p := ⟨w.heap.size + 1 + 1, 5, none⟩) (by simp) (.int .i64 r.b)
  have B2 := bset (bset (bset (bset (bset (bset B1 (p := ⟨w.heap.size + 1 + 1, 0, none⟩) (by dsimp only; omega) (.string r.p.n)) (p := ⟨w.heap.size + 1 + 1, 1, none⟩) (by dsimp only; omega) (.int .i64 r.p.a)) (p := ⟨w.heap.size + 1 + 1, 2, none⟩) (by dsimp only; omega) (.int .i64 r.p.b)) (p := ⟨w.heap.size + 1 + 1, 3, none⟩) (by dsimp only; omega) (.int .i64 r.p.e)) (p := ⟨w.heap.size + 1 + 1, 4, none⟩) (by dsimp only; omega) (.int .i64 r.p.u)) (p := ⟨w.heap.size + 1 + 1, 5, none⟩) (by dsimp only; omega) (.int .i64 r.b)
  generalize (((((u1.setCell ⟨w.heap.size + 1 + 1, 0, none⟩ (.string r.p.n)).setCell ⟨w.heap.size + 1 + 1, 1, none⟩ (.int .i64 r.p.a)).setCell ⟨w.heap.size + 1 + 1, 2, none⟩ (.int .i64 r.p.b)).setCell ⟨w.heap.size + 1 + 1, 3, none⟩ (.int .i64 r.p.e)).setCell ⟨w.heap.size + 1 + 1, 4, none⟩ (.int .i64 r.p.u)).setCell ⟨w.heap.size + 1 + 1, 5, none⟩ (.int .i64 r.b) = W2 at *
  clear A1 Z1 X1 B1 p0 p1 p2 p3 p4 p5 p6 p7 x0 x1 x2 x3 x4 x5 x6 x7 f0 f1 f2 f3 f4 f5 f6 f7
  refine (S _).mono ?_
  rintro e u2 ⟨rfl, b2⟩
  have X3 := X2.on b2
  have Z3 := Z2.on b2
  have B3 := btr B2 b2
  have x0 := X3.cell 0 _ rfl
  have x1 := X3.cell 1 _ rfl
  have x2 := X3.cell 2 _ rfl
  have x3 := X3.cell 3 _ rfl
  have x4 := X3.cell 4 _ rfl
  have x5 := X3.cell 5 _ rfl
  have x6 := X3.cell 6 _ rfl
  have x7 := X3.cell 7 _ rfl
  have f0 := X3.free 0 _ rfl
  have f1 := X3.free 1 _ rfl
  have f2 := X3.free 2 _ rfl
  have f3 := X3.free 3 _ rfl
  have f4 := X3.free 4 _ rfl
  have f5 := X3.free 5 _ rfl
  have f6 := X3.free 6 _ rfl
  have f7 := X3.free 7 _ rfl
  have z0 := Z3.cell 0 _ rfl
  have z1 := Z3.cell 1 _ rfl
  have z2 := Z3.cell 2 _ rfl
  have z3 := Z3.cell 3 _ rfl
  have z4 := Z3.cell 4 _ rfl
  have z5 := Z3.cell 5 _ rfl
  have z6 := Z3.cell 6 _ rfl
  have z7 := Z3.cell 7 _ rfl
  have h0 := Z3.free 0 _ rfl
  have h1 := Z3.free 1 _ rfl
  have h2 := Z3.free 2 _ rfl
  have h3 := Z3.free 3 _ rfl
  have h4 := Z3.free 4 _ rfl
  have h5 := Z3.free 5 _ rfl
  have h6 := Z3.free 6 _ rfl
  have h7 := Z3.free 7 _ rfl
  clear X2 Z2 B2 b2 S X3 Z3
  go_wp2_with fail
  exact bodyPost_ret (v := R8 r) (by simp [results, Tryz.results36, go_sem, z0, z1, z2, z3, z4, z5, z6, z7]) rfl ⟨rfl, (by (iterate 10 (refine bset ?_ (by dsimp only; omega) _)); exact B3)⟩
theorem szRoll_any (r : RollD) (l : Int) (w : World) (hn : r.p.n.size ≤ maxLen) (l0 : 0 ≤ l) (l1 : l ≤ 1048576) :
    Calls Tryz.prog 35 #[R8 r, .int .i64 l] w fun e w' => e = .returned (.int .i64 (if l < r.p.n.size then -1 else l - r.p.n.size)) ∧ Below w.heap.size w w' := by
  have hb := bal (Below.refl _ w) (.cells #[.string r.p.n, .int .i64 r.p.a, .int .i64 r.p.b, .int .i64 r.p.e, .int .i64 r.p.u, .int .i64 r.b, .int .i64 r.x, .int .i64 r.y] 67)
  have S := fun w => szPin_any r.p l w hn l0 l1
  by_cases h : l < r.p.n.size
  · rw [if_pos h] at S ⊢
    go_enter Tryz.func35, Tryz.ntmps35
    go_wp2_with fail
    refine (S _).mono ?_
    rintro r w1 ⟨rfl, b1⟩
    have bb := btr hb b1
    go_wp2_with fail
    go_ret
    exact ⟨rfl, bb⟩
  · have h' : ¬ l - r.p.n.size < 0 := by omega
    rw [if_neg h] at S ⊢
    go_enter Tryz.func35, Tryz.ntmps35
    go_wp2_with fail
    refine (S _).mono ?_
    rintro r w1 ⟨rfl, b1⟩
    have bb := btr hb b1
    go_wp2_with fail
    go_ret
    exact ⟨rfl, bb⟩
theorem eqRoll_any (r : RollD) (w : World) : Calls Tryz.prog 88 #[R8 r, R8 r] w fun e w' => e = .returned (.bool true) ∧ Below w.heap.size w w' := by
  have b0 := bal (bal (Below.refl _ w) (.cells #[.string r.p.n, .int .i64 r.p.a, .int .i64 r.p.b, .int .i64 r.p.e, .int .i64 r.p.u, .int .i64 r.b, .int .i64 r.x, .int .i64 r.y] 29)) (.cells #[.string r.p.n, .int .i64 r.p.a, .int .i64 r.p.b, .int .i64 r.p.e, .int .i64 r.p.u, .int .i64 r.b, .int .i64 r.x, .int .i64 r.y] 29)
  have A0 : At w.heap.size r.vals (w.alloc (.cells #[.string r.p.n, .int .i64 r.p.a, .int .i64 r.p.b, .int .i64 r.p.e, .int .i64 r.p.u, .int .i64 r.b, .int .i64 r.x, .int .i64 r.y] 29)) := At.new w r.vals 29
  have A1 := A0.alloc (.cells #[.string r.p.n, .int .i64 r.p.a, .int .i64 r.p.b, .int .i64 r.p.e, .int .i64 r.p.u, .int .i64 r.b, .int .i64 r.x, .int .i64 r.y] 29)
  have A2 : At (w.alloc (.cells #[.string r.p.n, .int .i64 r.p.a, .int .i64 r.p.b, .int .i64 r.p.e, .int .i64 r.p.u, .int .i64 r.b, .int .i64 r.x, .int .i64 r.y] 29)).heap.size r.vals ((w.alloc (.cells #[.string r.p.n, .int .i64 r.p.a, .int .i64 r.p.b, .int .i64 r.p.e, .int .i64 r.p.u, .int .i64 r.b, .int .i64 r.x, .int .i64 r.y] 29)).alloc (.cells #[.string r.p.n, .int .i64 r.p.a, .int .i64 r.p.b, .int .i64 r.p.e, .int .i64 r.p.u, .int .i64 r.b, .int .i64 r.x, .int .i64 r.y] 29)) := At.new _ r.vals 29
  go_enter Tryz.func88, Tryz.ntmps88
  go_wp2_with fail
  refine (eqPin_any r.p _).mono ?_
  rintro e u1 ⟨rfl, b1⟩
  have B1 := btr b0 b1
  have a5 := (A1.on b1).cell 5 _ rfl
  have a6 := (A1.on b1).cell 6 _ rfl
  have a7 := (A1.on b1).cell 7 _ rfl
  have d5 := (A2.on b1).cell 5 _ rfl
  have d6 := (A2.on b1).cell 6 _ rfl
  have d7 := (A2.on b1).cell 7 _ rfl
  simp at d5 d6 d7
  clear b0 b1 A0 A1 A2
  go_wp2_with fail
  refine (eqSigned_any r.x r.y _).mono ?_
  rintro e u2 ⟨rfl, b2⟩
  have B2 := btr B1 b2
  go_wp2_with fail
  go_ret
  exact ⟨rfl, B2⟩
theorem eqRollResult_any (c : Int) (r : RollD) (w : World) : Calls Tryz.prog 34 #[R9 c r, R9 c r] w fun e w' => e = .returned (.bool true) ∧ Below w.heap.size w w' := by
  have b0 := bal (bal (Below.refl _ w) (.cells #[.int .i64 c, .string r.p.n, .int .i64 r.p.a, .int .i64 r.p.b, .int .i64 r.p.e, .int .i64 r.p.u, .int .i64 r.b, .int .i64 r.x, .int .i64 r.y] 42)) (.cells #[.int .i64 c, .string r.p.n, .int .i64 r.p.a, .int .i64 r.p.b, .int .i64 r.p.e, .int .i64 r.p.u, .int .i64 r.b, .int .i64 r.x, .int .i64 r.y] 42)
  go_enter Tryz.func34, Tryz.ntmps34
  go_wp2_with fail
  refine (eqRoll_any r _).mono ?_
  rintro e u1 ⟨rfl, b1⟩
  have hb := btr b0 b1
  go_wp2_with fail
  go_ret
  exact ⟨rfl, hb⟩

/-- How much of a bound rollovers leave. -/
def szR (ps : List RollD) (l : Int) : Int := szP (ps.map RollD.p) l
theorem szR_ok {ps : List RollD} {l : Int} (h : 0 ≤ szR ps l) : (ps.length : Int) ≤ l ∧ szR ps l ≤ l := by
  obtain ⟨h1, _, h3⟩ := szP_ok h
  rw [List.length_map] at h1
  exact ⟨h1, h3⟩
theorem map_at (ps : List RollD) (k : Nat) : (ps.map RollD.p)[k]?.getD pin0 = (ps[k]?.getD roll0).p := by
  rw [List.getElem?_map]
  cases ps[k]? <;> rfl
theorem szRollS_any (a : Option Addr) (len cap B : Nat) (ps : List RollD) (l : Int) (w : World) (hR : RRow w B a len cap ps) (hB : B ≤ w.heap.size) (l0 : 0 ≤ l) (l1 : l ≤ 1048576) :
    Calls Tryz.prog 44 #[.slice a len cap, .int .i64 l] w fun e w' => e = .returned (.int .i64 (szR ps l)) ∧ Below w.heap.size w w' := by
  have hL0 : (ps.map RollD.p).length = len := by rw [List.length_map]; exact hR.length
  have hL := Lib.hid hL0
  clear hL0
  have hm := hR.most
  have hf := hR.fits
  unfold maxLen at hm
  by_cases h : l < len
  · have E : szR ps l = -1 := by unfold szR szP; rw [hL.out, if_pos h]
    rw [E]
    have h' : l - len < 0 := by omega
    go_enter Tryz.func44, Tryz.ntmps44
    go_wp2_with fail
    go_ret
    exact ⟨rfl, Below.refl _ _⟩
  have E : szR ps l = szL (ps.map RollD.p) (l - len) := by unfold szR szP; rw [hL.out, if_neg h]
  rw [E]
  have h' : ¬ l - len < 0 := by omega
  have T0 : SzRel w (ps.map RollD.p) (szL (ps.map RollD.p) (l - len)) 0 (l - len) w := ⟨by omega, by omega, rfl, Below.refl _ _⟩
  generalize szL (ps.map RollD.p) (l - len) = t at *
  clear E
  go_enter Tryz.func44, Tryz.ntmps44
  go_wp2_with fail
  go_loopw [1, 5] (fun x i wr => ∃ (k : Nat) (y : Int), k ≤ len ∧ i = .int .i64 k ∧ x = .int .i64 y ∧ SzRel w (ps.map RollD.p) t k y wr) (fun _ i _ => len - (intOf i).toNat)
  case atStart => exact ⟨0, _, Nat.zero_le _, rfl, rfl, T0⟩
  case round =>
    obtain ⟨k, y, hk, rfl, rfl, y0, y1, hy, hb⟩ := hrel
    clear T0
    by_cases hlt : k < len
    · obtain ⟨b, off, ha, hbB, c0, c1, c2, c3, c4, c5, c6, c7⟩ := (hR.below (hb.mono hB)).at' hlt
      have hst := szL_step (by rw [hL.out]; exact hlt) y
      rw [hy, map_at] at hst
      have S := szRoll_any (ps[k]?.getD roll0) y wr (hR.name hlt) y0 y1
      subst ha
      generalize ps[k]?.getD roll0 = p at *
      by_cases hs : y < p.p.n.size
      · rw [if_pos hs] at hst S
        clear hy
        subst hst
        go_wp2_with fail
        refine S.mono ?_
        rintro r w2 ⟨rfl, b2⟩
        have bb := btr hb b2
        go_wp2_with fail
        go_ret
        exact ⟨rfl, bb⟩
      · rw [if_neg hs] at hst S
        have hn : ¬ y - p.p.n.size < 0 := by omega
        have hy0 : 0 ≤ y - (p.p.n.size : Int) := by omega
        have HY := Lib.hid hst
        have hm2 : (p.p.n.size : Int) ≤ y := by omega
        clear hst
        go_wp2_with fail
        refine S.mono ?_
        rintro r w2 ⟨rfl, b2⟩
        have bb := btr hb b2
        clear b2 S c0 c1 c2 c3 c4 c5 c6 c7
        go_wp2_with fail
        go_roundw
        case rel => exact ⟨k + 1, _, by omega, by go_num, rfl, hy0, by omega, HY.out.symm, bb⟩
        case measure => simp [intOf]; omega
    · obtain rfl : k = len := by omega
      have e : (ps.map RollD.p).drop k = [] := List.drop_of_length_le (by rw [hL.out]; omega)
      rw [e] at hy
      have hy' : y = t := hy
      subst hy'
      go_wp2_with fail
      go_ret
      exact ⟨rfl, hb⟩

/-- A slice of rollovers was copied. -/
def CopiedR (n : Nat) (ps : List RollD) (w : World) (r : Ending) (w' : World) : Prop :=
  r = .returned (.slice (some ⟨w.heap.size, 0, none⟩) n n) ∧ OwnR w' w.heap.size (.slice (some ⟨w.heap.size, 0, none⟩) n n) ps ∧ Below w.heap.size w w'
theorem roll_info : (Tryz.prog.info? 29).map (fun i => (i.zero, i.size, i.bytes)) = some (some (R8 roll0), 8, 72) := by kernel_rfl
theorem toRollS_any (a : Option Addr) (len cap B : Nat) (ps : List RollD) (w : World) (hR : RRow w B a len cap ps) (hB : B ≤ w.heap.size) (hl : len ≤ 1048576) :
    Calls Tryz.prog 45 #[.slice a len cap] w (CopiedR len ps w) := by
  obtain ⟨i0, hi0, hz0, hz1, hz2⟩ := info_parts roll_info
  have hmk : ∀ W : World, (Instr.makeSlice 55 (.int .i64 (len : Int)) (.int .i64 (len : Int))).run Tryz.prog W = .ok (.slice (some ⟨W.heap.size, 0, none⟩) len len) (W.alloc (.cells (madeCells (R8 roll0).cells (len * 8)) 29)) := by
    intro W
    have := run_make (P := Tryz.prog) W 55 29 i0 (R8 roll0) Tryz.underlying55 hi0 hz0 .i64 .i64 len len (by omega) (by omega) (by rw [hz2]; omega) (by omega)
    simpa [hz1] using this
  have hL := Lib.hid hR.length
  clear hi0 hz0 hz1 hz2
  have T0 := FillC.new w (len * 8) (flatR ps) (madeCells (R8 roll0).cells (len * 8)) 29 (size_madeCells _ _)
  generalize madeCells (R8 roll0).cells (len * 8) = cs at *
  go_enter Tryz.func45, Tryz.ntmps45
  go_wp2_with fail
  generalize w.alloc (.cells cs 29) = w1 at *
  go_loopw [4] (fun i wr => ∃ k : Nat, k ≤ len ∧ i = .int .i64 k ∧ FillC w (len * 8) (flatR ps) (k * 8) wr) (fun i _ => len - (intOf i).toNat)
  case atStart => exact ⟨0, Nat.zero_le _, rfl, by simpa using T0⟩
  case round =>
    obtain ⟨k, hk, rfl, hT⟩ := hrel
    by_cases hlt : k < len
    · obtain ⟨b, off, ha, hbB, c0, c1, c2, c3, c4, c5, c6, c7⟩ := (hR.below (hT.bel.mono hB)).at' hlt
      generalize hp : ps[k]?.getD roll0 = p at *
      subst ha
      clear hR T0
      go_wp2_with fail
      refine (toRoll_any p _).mono ?_
      rintro r w2 ⟨rfl, b2⟩
      have hT2 := hT.on b2
      obtain ⟨⟨v0, r0⟩, f0⟩ := hT2.room (k * 8) (by omega)
      obtain ⟨⟨v1, r1⟩, f1⟩ := hT2.room (k * 8 + 1) (by omega)
      obtain ⟨⟨v2, r2⟩, f2⟩ := hT2.room (k * 8 + 2) (by omega)
      obtain ⟨⟨v3, r3⟩, f3⟩ := hT2.room (k * 8 + 3) (by omega)
      obtain ⟨⟨v4, r4⟩, f4⟩ := hT2.room (k * 8 + 4) (by omega)
      obtain ⟨⟨v5, r5⟩, f5⟩ := hT2.room (k * 8 + 5) (by omega)
      obtain ⟨⟨v6, r6⟩, f6⟩ := hT2.room (k * 8 + 6) (by omega)
      obtain ⟨⟨v7, r7⟩, f7⟩ := hT2.room (k * 8 + 7) (by omega)
      have T2 := Lib.hid (hT2.roll hlt hL.out hp)
      clear hT hT2 hp b2 c0 c1 c2 c3 c4 c5 c6 c7
      go_wp2_with fail
      go_roundw
      case rel => exact ⟨k + 1, by omega, by go_num, T2.out⟩
      case measure => simp [intOf]; omega
    · obtain rfl : k = len := by omega
      have T2 := hT.own hL.out (by simp only [maxLen]; omega)
      have hb := Lib.hid hT.bel
      clear hT
      go_wp2_with fail
      go_ret
      exact ⟨rfl, T2, hb.out⟩

theorem eqRollS_any (a b : Option Addr) (len c1 c2 B : Nat) (ps : List RollD) (w : World) (hR : RRow w B a len c1 ps) (hQ : RRow w B b len c2 ps) (hB : B ≤ w.heap.size) :
    Calls Tryz.prog 46 #[.slice a len c1, .slice b len c2] w fun e w' => e = .returned (.bool true) ∧ Below w.heap.size w w' := by
  have hlen := hR.fits
  have hmost := hR.most
  unfold maxLen at hmost
  go_enter Tryz.func46, Tryz.ntmps46
  go_wp2_with fail
  go_loopw [5] (fun i wr => ∃ k : Nat, k ≤ len ∧ i = .int .i64 k ∧ Below w.heap.size w wr) (fun i _ => len - (intOf i).toNat)
  case atStart => exact ⟨0, Nat.zero_le _, rfl, Below.refl _ _⟩
  case round =>
    obtain ⟨k, hk, rfl, hb⟩ := hrel
    by_cases hlt : k < len
    · obtain ⟨b1, o1, ha1, hb1, c0, c1, c2, c3, c4, c5, c6, c7⟩ := (hR.below (hb.mono hB)).at' hlt
      obtain ⟨b2, o2, ha2, hb2, d0, d1, d2, d3, d4, d5, d6, d7⟩ := (hQ.below (hb.mono hB)).at' hlt
      have HB := Lib.hid hb
      clear hb hR hQ
      subst ha1
      subst ha2
      generalize ps[k]?.getD roll0 = p at *
      go_wp2_with fail
      refine wp_region_line (Bel wr) [(0, true), (1, true), (2, true), (3, true), (4, true), (5, true), (6, true), (7, true), (8, false), (9, true)] (by kernel_rfl) (by kernel_rfl) (fun _ _ d _ _ h => by cases d <;> exact h) (Bel.drew wr) ?_
      have hst := Bel.drew wr
      have inst : Nonempty (Of (Bel wr)) := ⟨⟨_, hst⟩⟩
      have q0 := bel_cell c0
      have q1 := bel_cell c1
      have q2 := bel_cell c2
      have q3 := bel_cell c3
      have q4 := bel_cell c4
      have q5 := bel_cell c5
      have q6 := bel_cell c6
      have q7 := bel_cell c7
      have y0 := bel_cell d0
      have y1 := bel_cell d1
      have y2 := bel_cell d2
      have y3 := bel_cell d3
      have y4 := bel_cell d4
      have y5 := bel_cell d5
      have y6 := bel_cell d6
      have y7 := bel_cell d7
      iterate 8 (refine line_read rfl (by kernel_rfl) (fun K hK => ?_); go_big_quiet_op; refine hK _ ?_; clear hK K)
      refine line_alone rfl (by kernel_rfl) (fun K hK => ?_)
      refine call_wp (args := #[R8 p, R8 p]) rfl (by kernel_rfl) (by kernel_rfl) (eqRoll_any p _) (fun wn hbn => ?_)
      have hst2 := hst.on hbn
      refine hK _ _ hst2 ?_
      clear hK K hst hbn
      have hst := hst2
      clear hst2
      simp only [Act.put, List.setIfInBounds_toArray, List.set_cons_zero, List.set_cons_succ]
      iterate 1 (refine line_read rfl (by kernel_rfl) (fun K hK => ?_); go_big_quiet_op; refine hK _ ?_; clear hK K)
      refine line_nil ?_
      have bb := btr HB.out hst.out
      clear hst inst q0 q1 q2 q3 q4 q5 q6 q7 y0 y1 y2 y3 y4 y5 y6 y7 c0 c1 c2 c3 c4 c5 c6 c7 d0 d1 d2 d3 d4 d5 d6 d7 HB
      go_wp2_with fail
      go_roundw
      case rel => exact ⟨k + 1, by omega, by go_num, bb⟩
      case measure => simp [intOf]; omega
    · go_wp2_with fail
      go_ret
      exact ⟨rfl, hb⟩
end Go.Proofs.YtmdknbgpddnplaaGreatDoor
namespace Go.Proofs.YtmdknbgpddnplaaGreatDoor
open Go.RowKit Go.Extern.Stop Go.Stop Go.Extern
set_option linter.unusedVariables false
set_option maxRecDepth 100000

/-- An error that wraps another. -/
abbrev refV (s : ByteArray) (e : Value) : Value := .iface 148 (.agg #[.string s, e])
theorem rl_typeOfR (v : Value) (w : World) : (ReflectliteType.typeOf #[.iface 148 v]).run Tryz.prog w = .ok (.iface 211 (.agg #[hdl 148])) w := by kernel_rfl
theorem rl_asgnR (w : World) : (ReflectliteType.relation "AssignableTo" ReflectliteType.assignableTo #[.agg #[hdl 148], .iface 211 (.agg #[hdl 144])]).run Tryz.prog w = .ok (.bool false) w := by kernel_rfl
theorem rl_noAs (s : ByteArray) (e : Value) (w : World) : (Instr.typeAssert (refV s e) 90 216 true).run Tryz.prog w = .ok (.tuple #[.nilIface, .bool false]) w := run_typeAssert_lacksB Tryz.underlying216 (by kernel_rfl) (by kernel_rfl) _ _ w
theorem rl_unwraps (s : ByteArray) (e : Value) (w : World) : (Instr.typeAssert (refV s e) 90 219 true).run Tryz.prog w = .ok (.tuple #[refV s e, .bool true]) w := run_typeAssert_hasB Tryz.underlying219 (by kernel_rfl) _ _ w
theorem rl_mUnwrap (s : ByteArray) (e : Value) (w : World) : (Go.method 402 148 (.agg #[.string s, e]) "Unwrap").run Tryz.prog w = .ok (218, .agg #[.string s, e]) w := by kernel_rfl
theorem unwrap_any (s : ByteArray) (e : Value) (w : World) :
    Calls Tryz.prog 218 #[.agg #[.string s, e]] w fun r w' => r = .returned e ∧ Below w.heap.size w w' := by
  have b0 := bal (Below.refl _ w) (.cells #[.string s, e] 148)
  go_enter Tryz.func218, Tryz.ntmps218
  go_wp2_with fail
  go_ret
  exact ⟨rfl, b0⟩
def AsHit (tb : Nat) (c : Int) (w : World) (ev : Ending) (w' : World) : Prop := ev = .returned (.bool true) ∧ w'.cell? ⟨tb, 0, none⟩ = some (.int .i64 c) ∧ Below tb w w'
set_option maxHeartbeats 4000000 in
theorem as_0 (c : Int) (s : ByteArray) (tb vb : Nat) (o0 o1 T : Value) (w : World) (cv : w.cell? ⟨vb, 0, none⟩ = some (.pointer (some ⟨tb, 0, none⟩))) (t0 : w.cell? ⟨tb, 0, none⟩ = some o0) (t1 : w.cell? ⟨tb, 1, none⟩ = some o1) (f0 : w.frozen? ⟨tb, 0, none⟩ = false) (f1 : w.frozen? ⟨tb, 1, none⟩ = false) :
    Calls Tryz.prog 132 #[misV c s, T, rval 146 ⟨vb, 0, none⟩ 150, .iface 211 (.agg #[hdl 144])] w (AsHit tb c w) := by
  have hV := @run_callFunc_extern Tryz.prog 129 _ (fun args => ReflectliteValue.unpack (args.getD 0 (.tuple #[]))) Tryz.func129 (by kernel_rfl) (by kernel_rfl) (by kernel_rfl) (by kernel_rfl)
  have hO := @run_callFunc_extern Tryz.prog 154 _ ReflectliteType.typeOf Tryz.func154 (by kernel_rfl) (by kernel_rfl) (by kernel_rfl) (by kernel_rfl)
  have hA := @run_callFunc_extern Tryz.prog 224 _ (ReflectliteType.relation "AssignableTo" ReflectliteType.assignableTo) Tryz.func224 (by kernel_rfl) (by kernel_rfl) (by kernel_rfl) (by kernel_rfl)
  have hL := @run_callFunc_extern Tryz.prog 155 _ (ReflectliteValue.method (ReflectliteValue.valueError "reflectlite.Value.Elem" 0) ReflectliteValue.elem) Tryz.func155 (by kernel_rfl) (by kernel_rfl) (by kernel_rfl) (by kernel_rfl)
  have hS := @run_callFunc_extern Tryz.prog 156 _ ReflectliteValue.set Tryz.func156 (by kernel_rfl) (by kernel_rfl) (by kernel_rfl) (by kernel_rfl)
  have tO := rl_typeOfM
  have tR := rl_typeOfR
  have mA := rl_mAsgn
  have a1 := rl_asgnM
  have a2 := rl_asgnR
  have v1 := rl_valueOfM
  have htl0 : tb < w.heap.size := cell_lt t0
  have hb := bal (Below.refl _ w) (.cells #[hdl 146, .pointer (some ⟨vb, 0, none⟩), .int .u64 150] 180)
  have HB := Lib.hid (hb.mono (Nat.le_of_lt htl0))
  have z := cell_keep hb cv; clear cv; have cv := z; clear z
  have z := cell_keep hb t0; clear t0; have t0 := z; clear z
  have z := cell_keep hb t1; clear t1; have t1 := z; clear z
  have z := (hb.frozen (p := ⟨tb, 0, none⟩) htl0).trans f0; clear f0; have f0 := z; clear z
  have z := (hb.frozen (p := ⟨tb, 1, none⟩) htl0).trans f1; clear f1; have f1 := z; clear z
  have AV : At w.heap.size [hdl 146, .pointer (some ⟨vb, 0, none⟩), .int .u64 150] (w.alloc (.cells #[hdl 146, .pointer (some ⟨vb, 0, none⟩), .int .u64 150] 180)) := At.new w [hdl 146, .pointer (some ⟨vb, 0, none⟩), .int .u64 150] 180
  clear hb htl0
  go_enter Tryz.func132, Tryz.ntmps132
  go_wp2
  generalize w.alloc (.cells #[hdl 146, .pointer (some ⟨vb, 0, none⟩), .int .u64 150] 180) = W1 at *
  refine wp_loop_rounds 1 ?_
  have el := rl_elemV ⟨vb, 0, none⟩ ⟨tb, 0, none⟩ W1 cv
  have hb4 : Below W1.heap.size W1 (W1.alloc (.cells #[.int .i64 c, .string s] 144)) := bal (Below.refl _ _) _
  have htl : tb < W1.heap.size := cell_lt t0
  have q0 := cell_keep hb4 t0
  have q1 := cell_keep hb4 t1
  have p0 := (hb4.frozen (p := ⟨tb, 0, none⟩) htl).trans f0
  have p1 := (hb4.frozen (p := ⟨tb, 1, none⟩) htl).trans f1
  have st := rl_setM tb W1.heap.size c s o0 o1 (W1.alloc (.cells #[.int .i64 c, .string s] 144)) (by rw [World.cell?_alloc_at _ _ _ _ (by simp)]; rfl) (by rw [World.cell?_alloc_at _ _ _ _ (by simp)]; rfl) q0 q1 p0 p1
  have F := Lib.hid (And.intro q0 (Below.trans HB.out (hb4.mono (Nat.le_of_lt htl))))
  clear hb4 q0 q1 p0 p1 t0 t1 f0 f1 cv HB htl
  have d0 := AV.cell 0 _ rfl
  have d1 := AV.cell 1 _ rfl
  have d2 := AV.cell 2 _ rfl
  clear AV
  rw [rounds_succ]
  go_wp2
  go_ret
  refine ⟨rfl, ?_, ?_⟩
  · rw [World.cell?_setCell_other _ _ _ _ (fun e => by injection e with _ e2; omega), World.cell?_setCell_same _ _ _ (by rw [F.out.1])]
  · exact (F.out.2.setCell (Nat.le_refl _) _).setCell (Nat.le_refl _) _
set_option maxHeartbeats 4000000 in
theorem as_1 (c : Int) (s s1 : ByteArray) (tb vb : Nat) (o0 o1 T : Value) (w : World) (cv : w.cell? ⟨vb, 0, none⟩ = some (.pointer (some ⟨tb, 0, none⟩))) (t0 : w.cell? ⟨tb, 0, none⟩ = some o0) (t1 : w.cell? ⟨tb, 1, none⟩ = some o1) (f0 : w.frozen? ⟨tb, 0, none⟩ = false) (f1 : w.frozen? ⟨tb, 1, none⟩ = false) :
    Calls Tryz.prog 132 #[refV s1 (misV c s), T, rval 146 ⟨vb, 0, none⟩ 150, .iface 211 (.agg #[hdl 144])] w (AsHit tb c w) := by
  have hV := @run_callFunc_extern Tryz.prog 129 _ (fun args => ReflectliteValue.unpack (args.getD 0 (.tuple #[]))) Tryz.func129 (by kernel_rfl) (by kernel_rfl) (by kernel_rfl) (by kernel_rfl)
  have hO := @run_callFunc_extern Tryz.prog 154 _ ReflectliteType.typeOf Tryz.func154 (by kernel_rfl) (by kernel_rfl) (by kernel_rfl) (by kernel_rfl)
  have hA := @run_callFunc_extern Tryz.prog 224 _ (ReflectliteType.relation "AssignableTo" ReflectliteType.assignableTo) Tryz.func224 (by kernel_rfl) (by kernel_rfl) (by kernel_rfl) (by kernel_rfl)
  have hL := @run_callFunc_extern Tryz.prog 155 _ (ReflectliteValue.method (ReflectliteValue.valueError "reflectlite.Value.Elem" 0) ReflectliteValue.elem) Tryz.func155 (by kernel_rfl) (by kernel_rfl) (by kernel_rfl) (by kernel_rfl)
  have hS := @run_callFunc_extern Tryz.prog 156 _ ReflectliteValue.set Tryz.func156 (by kernel_rfl) (by kernel_rfl) (by kernel_rfl) (by kernel_rfl)
  have tO := rl_typeOfM
  have tR := rl_typeOfR
  have mA := rl_mAsgn
  have a1 := rl_asgnM
  have a2 := rl_asgnR
  have v1 := rl_valueOfM
  have htl0 : tb < w.heap.size := cell_lt t0
  have hb := bal (Below.refl _ w) (.cells #[hdl 146, .pointer (some ⟨vb, 0, none⟩), .int .u64 150] 180)
  have HB := Lib.hid (hb.mono (Nat.le_of_lt htl0))
  have z := cell_keep hb cv; clear cv; have cv := z; clear z
  have z := cell_keep hb t0; clear t0; have t0 := z; clear z
  have z := cell_keep hb t1; clear t1; have t1 := z; clear z
  have z := (hb.frozen (p := ⟨tb, 0, none⟩) htl0).trans f0; clear f0; have f0 := z; clear z
  have z := (hb.frozen (p := ⟨tb, 1, none⟩) htl0).trans f1; clear f1; have f1 := z; clear z
  have AV : At w.heap.size [hdl 146, .pointer (some ⟨vb, 0, none⟩), .int .u64 150] (w.alloc (.cells #[hdl 146, .pointer (some ⟨vb, 0, none⟩), .int .u64 150] 180)) := At.new w [hdl 146, .pointer (some ⟨vb, 0, none⟩), .int .u64 150] 180
  clear hb htl0
  go_enter Tryz.func132, Tryz.ntmps132
  go_wp2
  generalize w.alloc (.cells #[hdl 146, .pointer (some ⟨vb, 0, none⟩), .int .u64 150] 180) = W1 at *
  refine wp_loop_rounds 2 ?_
  have ta1 := rl_noAs s1 (misV c s)
  have ta2 := rl_unwraps s1 (misV c s)
  have mU := rl_mUnwrap s1 (misV c s)
  rw [rounds_succ]
  go_wp2_with fail
  refine (unwrap_any _ _ _).mono ?_
  rintro r W2 ⟨rfl, hb⟩
  have htl : tb < W1.heap.size := cell_lt t0
  have z := Lib.hid (Below.trans HB.out (hb.mono (Nat.le_of_lt htl))); clear HB; have HB := z; clear z
  have z := AV.on hb; clear AV; have AV := z; clear z
  have z := cell_keep hb cv; clear cv; have cv := z; clear z
  have z := cell_keep hb t0; clear t0; have t0 := z; clear z
  have z := cell_keep hb t1; clear t1; have t1 := z; clear z
  have z := (hb.frozen (p := ⟨tb, 0, none⟩) htl).trans f0; clear f0; have f0 := z; clear z
  have z := (hb.frozen (p := ⟨tb, 1, none⟩) htl).trans f1; clear f1; have f1 := z; clear z
  clear hb htl ta1 ta2 mU
  go_wp2
  generalize W2 = W1 at *
  have el := rl_elemV ⟨vb, 0, none⟩ ⟨tb, 0, none⟩ W1 cv
  have hb4 : Below W1.heap.size W1 (W1.alloc (.cells #[.int .i64 c, .string s] 144)) := bal (Below.refl _ _) _
  have htl : tb < W1.heap.size := cell_lt t0
  have q0 := cell_keep hb4 t0
  have q1 := cell_keep hb4 t1
  have p0 := (hb4.frozen (p := ⟨tb, 0, none⟩) htl).trans f0
  have p1 := (hb4.frozen (p := ⟨tb, 1, none⟩) htl).trans f1
  have st := rl_setM tb W1.heap.size c s o0 o1 (W1.alloc (.cells #[.int .i64 c, .string s] 144)) (by rw [World.cell?_alloc_at _ _ _ _ (by simp)]; rfl) (by rw [World.cell?_alloc_at _ _ _ _ (by simp)]; rfl) q0 q1 p0 p1
  have F := Lib.hid (And.intro q0 (Below.trans HB.out (hb4.mono (Nat.le_of_lt htl))))
  clear hb4 q0 q1 p0 p1 t0 t1 f0 f1 cv HB htl
  have d0 := AV.cell 0 _ rfl
  have d1 := AV.cell 1 _ rfl
  have d2 := AV.cell 2 _ rfl
  clear AV
  rw [rounds_succ]
  go_wp2
  go_ret
  refine ⟨rfl, ?_, ?_⟩
  · rw [World.cell?_setCell_other _ _ _ _ (fun e => by injection e with _ e2; omega), World.cell?_setCell_same _ _ _ (by rw [F.out.1])]
  · exact (F.out.2.setCell (Nat.le_refl _) _).setCell (Nat.le_refl _) _
set_option maxHeartbeats 4000000 in
theorem as_2 (c : Int) (s s1 s2 : ByteArray) (tb vb : Nat) (o0 o1 T : Value) (w : World) (cv : w.cell? ⟨vb, 0, none⟩ = some (.pointer (some ⟨tb, 0, none⟩))) (t0 : w.cell? ⟨tb, 0, none⟩ = some o0) (t1 : w.cell? ⟨tb, 1, none⟩ = some o1) (f0 : w.frozen? ⟨tb, 0, none⟩ = false) (f1 : w.frozen? ⟨tb, 1, none⟩ = false) :
    Calls Tryz.prog 132 #[refV s2 (refV s1 (misV c s)), T, rval 146 ⟨vb, 0, none⟩ 150, .iface 211 (.agg #[hdl 144])] w (AsHit tb c w) := by
  have hV := @run_callFunc_extern Tryz.prog 129 _ (fun args => ReflectliteValue.unpack (args.getD 0 (.tuple #[]))) Tryz.func129 (by kernel_rfl) (by kernel_rfl) (by kernel_rfl) (by kernel_rfl)
  have hO := @run_callFunc_extern Tryz.prog 154 _ ReflectliteType.typeOf Tryz.func154 (by kernel_rfl) (by kernel_rfl) (by kernel_rfl) (by kernel_rfl)
  have hA := @run_callFunc_extern Tryz.prog 224 _ (ReflectliteType.relation "AssignableTo" ReflectliteType.assignableTo) Tryz.func224 (by kernel_rfl) (by kernel_rfl) (by kernel_rfl) (by kernel_rfl)
  have hL := @run_callFunc_extern Tryz.prog 155 _ (ReflectliteValue.method (ReflectliteValue.valueError "reflectlite.Value.Elem" 0) ReflectliteValue.elem) Tryz.func155 (by kernel_rfl) (by kernel_rfl) (by kernel_rfl) (by kernel_rfl)
  have hS := @run_callFunc_extern Tryz.prog 156 _ ReflectliteValue.set Tryz.func156 (by kernel_rfl) (by kernel_rfl) (by kernel_rfl) (by kernel_rfl)
  have tO := rl_typeOfM
  have tR := rl_typeOfR
  have mA := rl_mAsgn
  have a1 := rl_asgnM
  have a2 := rl_asgnR
  have v1 := rl_valueOfM
  have htl0 : tb < w.heap.size := cell_lt t0
  have hb := bal (Below.refl _ w) (.cells #[hdl 146, .pointer (some ⟨vb, 0, none⟩), .int .u64 150] 180)
  have HB := Lib.hid (hb.mono (Nat.le_of_lt htl0))
  have z := cell_keep hb cv; clear cv; have cv := z; clear z
  have z := cell_keep hb t0; clear t0; have t0 := z; clear z
  have z := cell_keep hb t1; clear t1; have t1 := z; clear z
  have z := (hb.frozen (p := ⟨tb, 0, none⟩) htl0).trans f0; clear f0; have f0 := z; clear z
  have z := (hb.frozen (p := ⟨tb, 1, none⟩) htl0).trans f1; clear f1; have f1 := z; clear z
  have AV : At w.heap.size [hdl 146, .pointer (some ⟨vb, 0, none⟩), .int .u64 150] (w.alloc (.cells #[hdl 146, .pointer (some ⟨vb, 0, none⟩), .int .u64 150] 180)) := At.new w [hdl 146, .pointer (some ⟨vb, 0, none⟩), .int .u64 150] 180
  clear hb htl0
  go_enter Tryz.func132, Tryz.ntmps132
  go_wp2
  generalize w.alloc (.cells #[hdl 146, .pointer (some ⟨vb, 0, none⟩), .int .u64 150] 180) = W1 at *
  refine wp_loop_rounds 3 ?_
  have ta1 := rl_noAs s2 (refV s1 (misV c s))
  have ta2 := rl_unwraps s2 (refV s1 (misV c s))
  have mU := rl_mUnwrap s2 (refV s1 (misV c s))
  rw [rounds_succ]
  go_wp2_with fail
  refine (unwrap_any _ _ _).mono ?_
  rintro r W2 ⟨rfl, hb⟩
  have htl : tb < W1.heap.size := cell_lt t0
  have z := Lib.hid (Below.trans HB.out (hb.mono (Nat.le_of_lt htl))); clear HB; have HB := z; clear z
  have z := AV.on hb; clear AV; have AV := z; clear z
  have z := cell_keep hb cv; clear cv; have cv := z; clear z
  have z := cell_keep hb t0; clear t0; have t0 := z; clear z
  have z := cell_keep hb t1; clear t1; have t1 := z; clear z
  have z := (hb.frozen (p := ⟨tb, 0, none⟩) htl).trans f0; clear f0; have f0 := z; clear z
  have z := (hb.frozen (p := ⟨tb, 1, none⟩) htl).trans f1; clear f1; have f1 := z; clear z
  clear hb htl ta1 ta2 mU
  go_wp2
  generalize W2 = W1 at *
  have ta1 := rl_noAs s1 (misV c s)
  have ta2 := rl_unwraps s1 (misV c s)
  have mU := rl_mUnwrap s1 (misV c s)
  rw [rounds_succ]
  go_wp2_with fail
  refine (unwrap_any _ _ _).mono ?_
  rintro r W2 ⟨rfl, hb⟩
  have htl : tb < W1.heap.size := cell_lt t0
  have z := Lib.hid (Below.trans HB.out (hb.mono (Nat.le_of_lt htl))); clear HB; have HB := z; clear z
  have z := AV.on hb; clear AV; have AV := z; clear z
  have z := cell_keep hb cv; clear cv; have cv := z; clear z
  have z := cell_keep hb t0; clear t0; have t0 := z; clear z
  have z := cell_keep hb t1; clear t1; have t1 := z; clear z
  have z := (hb.frozen (p := ⟨tb, 0, none⟩) htl).trans f0; clear f0; have f0 := z; clear z
  have z := (hb.frozen (p := ⟨tb, 1, none⟩) htl).trans f1; clear f1; have f1 := z; clear z
  clear hb htl ta1 ta2 mU
  go_wp2
  generalize W2 = W1 at *
  have el := rl_elemV ⟨vb, 0, none⟩ ⟨tb, 0, none⟩ W1 cv
  have hb4 : Below W1.heap.size W1 (W1.alloc (.cells #[.int .i64 c, .string s] 144)) := bal (Below.refl _ _) _
  have htl : tb < W1.heap.size := cell_lt t0
  have q0 := cell_keep hb4 t0
  have q1 := cell_keep hb4 t1
  have p0 := (hb4.frozen (p := ⟨tb, 0, none⟩) htl).trans f0
  have p1 := (hb4.frozen (p := ⟨tb, 1, none⟩) htl).trans f1
  have st := rl_setM tb W1.heap.size c s o0 o1 (W1.alloc (.cells #[.int .i64 c, .string s] 144)) (by rw [World.cell?_alloc_at _ _ _ _ (by simp)]; rfl) (by rw [World.cell?_alloc_at _ _ _ _ (by simp)]; rfl) q0 q1 p0 p1
  have F := Lib.hid (And.intro q0 (Below.trans HB.out (hb4.mono (Nat.le_of_lt htl))))
  clear hb4 q0 q1 p0 p1 t0 t1 f0 f1 cv HB htl
  have d0 := AV.cell 0 _ rfl
  have d1 := AV.cell 1 _ rfl
  have d2 := AV.cell 2 _ rfl
  clear AV
  rw [rounds_succ]
  go_wp2
  go_ret
  refine ⟨rfl, ?_, ?_⟩
  · rw [World.cell?_setCell_other _ _ _ _ (fun e => by injection e with _ e2; omega), World.cell?_setCell_same _ _ _ (by rw [F.out.1])]
  · exact (F.out.2.setCell (Nat.le_refl _) _).setCell (Nat.le_refl _) _
/-- An error that has code c: what does not fit, wrapped twice at most. -/
def ErrC (c : Int) (e : Value) : Prop := (∃ s, e = misV c s) ∨ (∃ s1 s, e = refV s1 (misV c s)) ∨ ∃ s2 s1 s, e = refV s2 (refV s1 (misV c s))
/-- One that is wrapped once at most. -/
def ErrC1 (c : Int) (e : Value) : Prop := (∃ s, e = misV c s) ∨ ∃ s1 s, e = refV s1 (misV c s)
theorem ErrC1.all {c : Int} {e : Value} (h : ErrC1 c e) : ErrC c e := h.elim (fun h => .inl h) fun h => .inr (.inl h)
theorem ErrC1.wrap {c : Int} {e : Value} (h : ErrC1 c e) (s : ByteArray) : ErrC c (refV s e) := by
  rcases h with ⟨x, rfl⟩ | ⟨y, x, rfl⟩
  · exact .inr (.inl ⟨_, _, rfl⟩)
  · exact .inr (.inr ⟨_, _, _, rfl⟩)
theorem ErrC.neq {c : Int} {e : Value} (h : ErrC c e) (w : World) : (binOp .neq 90 e .nilIface).run Tryz.prog w = .ok (.bool true) w := by
  rcases h with ⟨x, rfl⟩ | ⟨y, x, rfl⟩ | ⟨z, y, x, rfl⟩ <;> kernel_rfl
theorem ErrC.eql {c : Int} {e : Value} (h : ErrC c e) (w : World) : (binOp .eql 90 e .nilIface).run Tryz.prog w = .ok (.bool false) w := by
  rcases h with ⟨x, rfl⟩ | ⟨y, x, rfl⟩ | ⟨z, y, x, rfl⟩ <;> kernel_rfl
theorem ErrC.gneq {c : Int} {e : Value} (h : ErrC c e) (n : Nat) (w : World) : (eqGuard .neq 90 (.tmp n) (.const .nilIface) e .nilIface).run Tryz.prog w = .ok () w := by
  rcases h with ⟨x, rfl⟩ | ⟨y, x, rfl⟩ | ⟨z, y, x, rfl⟩ <;> kernel_rfl
theorem ErrC.geql {c : Int} {e : Value} (h : ErrC c e) (n : Nat) (w : World) : (eqGuard .eql 90 (.tmp n) (.const .nilIface) e .nilIface).run Tryz.prog w = .ok () w := by
  rcases h with ⟨x, rfl⟩ | ⟨y, x, rfl⟩ | ⟨z, y, x, rfl⟩ <;> kernel_rfl
theorem as_any {c : Int} {e : Value} (h : ErrC c e) (tb vb : Nat) (o0 o1 T : Value) (w : World) (cv : w.cell? ⟨vb, 0, none⟩ = some (.pointer (some ⟨tb, 0, none⟩))) (t0 : w.cell? ⟨tb, 0, none⟩ = some o0) (t1 : w.cell? ⟨tb, 1, none⟩ = some o1) (f0 : w.frozen? ⟨tb, 0, none⟩ = false) (f1 : w.frozen? ⟨tb, 1, none⟩ = false) :
    Calls Tryz.prog 132 #[e, T, rval 146 ⟨vb, 0, none⟩ 150, .iface 211 (.agg #[hdl 144])] w (AsHit tb c w) := by
  rcases h with ⟨x, rfl⟩ | ⟨y, x, rfl⟩ | ⟨z, y, x, rfl⟩
  · exact as_0 c x tb vb o0 o1 T w cv t0 t1 f0 f1
  · exact as_1 c x y tb vb o0 o1 T w cv t0 t1 f0 f1
  · exact as_2 c x y z tb vb o0 o1 T w cv t0 t1 f0 f1
set_option maxHeartbeats 4000000 in
theorem As_err {c : Int} {e : Value} (h : ErrC c e) (tb : Nat) (o0 o1 : Value) (w : World) (hg : ErrT w) (t0 : w.cell? ⟨tb, 0, none⟩ = some o0) (t1 : w.cell? ⟨tb, 1, none⟩ = some o1) (f0 : w.frozen? ⟨tb, 0, none⟩ = false) (f1 : w.frozen? ⟨tb, 1, none⟩ = false) :
    Calls Tryz.prog 97 #[e, .iface 146 (.pointer (some ⟨tb, 0, none⟩))] w (AsHit tb c w) := by
  have hV := @run_callFunc_extern Tryz.prog 129 _ (fun args => ReflectliteValue.unpack (args.getD 0 (.tuple #[]))) Tryz.func129 (by kernel_rfl) (by kernel_rfl) (by kernel_rfl) (by kernel_rfl)
  have hT := @run_callFunc_extern Tryz.prog 130 _ (ReflectliteValue.methodAny (ReflectliteValue.valueError "reflectlite.Value.Type" 0) (fun t _ _ _ => ReflectliteType.toType t)) Tryz.func130 (by kernel_rfl) (by kernel_rfl) (by kernel_rfl) (by kernel_rfl)
  have hN := @run_callFunc_extern Tryz.prog 131 _ (ReflectliteValue.method (ReflectliteValue.valueError "reflectlite.Value.IsNil" 0) ReflectliteValue.isNil) Tryz.func131 (by kernel_rfl) (by kernel_rfl) (by kernel_rfl) (by kernel_rfl)
  have hK := @run_callFunc_extern Tryz.prog 213 _ (ReflectliteType.abiMethod fun t => do pure (.int .u8 (← Rtype.kind t))) Tryz.func213 (by kernel_rfl) (by kernel_rfl) (by kernel_rfl) (by kernel_rfl)
  have hE := @run_callFunc_extern Tryz.prog 226 _ (ReflectliteType.method ReflectliteType.elem) Tryz.func226 (by kernel_rfl) (by kernel_rfl) (by kernel_rfl) (by kernel_rfl)
  have hI := @run_callFunc_extern Tryz.prog 227 _ (ReflectliteType.relation "Implements" ReflectliteType.implements_) Tryz.func227 (by kernel_rfl) (by kernel_rfl) (by kernel_rfl) (by kernel_rfl)
  have v2 := rl_valueOfP
  have ty := rl_typeP
  have mK := rl_mKind
  have mE := rl_mElem
  have mI := rl_mImpl
  have k1 := rl_kindP
  have k2 := rl_kindM
  have e1 := rl_elemP
  have i1 := rl_implM
  have ne := h.eql
  have ng := h.geql
  have n1 := rl_isNilP ⟨w.heap.size, 0, none⟩ ⟨tb, 0, none⟩ ((w.alloc (.cells #[.pointer (some ⟨tb, 0, none⟩)] 146)).alloc (.cells #[hdl 146, .pointer (some ⟨w.heap.size, 0, none⟩), .int .u64 150] 180)) (by simp)
  have hg2 : ((w.alloc (.cells #[.pointer (some ⟨tb, 0, none⟩)] 146)).alloc (.cells #[hdl 146, .pointer (some ⟨w.heap.size, 0, none⟩), .int .u64 150] 180)).cell? ⟨1, 0, none⟩ = some (.iface 211 (.agg #[.pointer (some ⟨6, 90, none⟩)])) :=
    ((hg.on (bal (Below.refl _ _) _)).on (bal (Below.refl _ _) _)).cell
  have htl : tb < w.heap.size := cell_lt t0
  have hb : Below w.heap.size w ((w.alloc (.cells #[.pointer (some ⟨tb, 0, none⟩)] 146)).alloc (.cells #[hdl 146, .pointer (some ⟨w.heap.size, 0, none⟩), .int .u64 150] 180)) := bal (bal (Below.refl _ _) _) _
  have A := as_any h tb w.heap.size o0 o1 (.iface 146 (.pointer (some ⟨tb, 0, none⟩))) _ (show ((w.alloc (.cells #[.pointer (some ⟨tb, 0, none⟩)] 146)).alloc (.cells #[hdl 146, .pointer (some ⟨w.heap.size, 0, none⟩), .int .u64 150] 180)).cell? ⟨w.heap.size, 0, none⟩ = some (.pointer (some ⟨tb, 0, none⟩)) by simp) (cell_keep hb t0) (cell_keep hb t1) ((hb.frozen (p := ⟨tb, 0, none⟩) htl).trans f0) ((hb.frozen (p := ⟨tb, 1, none⟩) htl).trans f1)
  have HB := Lib.hid (hb.mono (Nat.le_of_lt htl))
  clear hb t0 t1 f0 f1 hg htl h
  go_enter Tryz.func97, Tryz.ntmps97
  go_wp2_with fail
  refine A.mono ?_
  rintro r w2 ⟨rfl, q0, b2⟩
  have F := Lib.hid (And.intro q0 (Below.trans HB.out b2))
  clear q0 b2 HB
  go_wp2
  go_ret
  exact ⟨rfl, F.out.1, F.out.2⟩
theorem codeOf_err {c : Int} {e : Value} (h : ErrC c e) (w : World) (hg : ErrT w) :
    Calls Tryz.prog 51 #[e] w fun r w' => r = .returned (.int .i64 c) ∧ Below w.heap.size w w' := by
  have hg1 := fun o => hg.on (bal (Below.refl _ w) o)
  clear hg
  go_enter Tryz.func51, Tryz.ntmps51
  go_wp2_with fail
  refine (As_err h w.heap.size (.int .i64 0) (.string { data := #[] }) _ (hg1 _) (by go_simp) (by go_simp) (by go_simp) (by go_simp)).mono ?_
  rintro r w1 ⟨rfl, q0, hb⟩
  have hb2 := Below.trans (bal (Below.refl _ w) _) hb
  clear hb hg1
  go_wp2_with fail
  go_ret
  exact ⟨rfl, hb2⟩
end Go.Proofs.YtmdknbgpddnplaaGreatDoor
namespace Go.Proofs.YtmdknbgpddnplaaGreatDoor
open Go.RowKit
set_option maxRecDepth 100000
set_option linter.unusedVariables false

def liveB (p : PinD) (t : Int) : Bool := decide (p.f = 0) && timB t && decide (t ≤ p.u)
theorem implIsLive_any (p : PinD) (t : Int) (w : World) (hn : p.n.size ≤ maxLen) :
    Calls Tryz.prog 17 #[P5 p, .int .i64 t] w fun e w' => e = .returned (.bool (liveB p t)) ∧ Below w.heap.size w w' := by
  have b0 := bal (Below.refl _ w) (.cells #[.string p.n, .int .i64 p.a, .int .i64 p.b, .int .i64 p.e, .int .i64 p.u] 25)
  have A0 : At w.heap.size p.vals (w.alloc (.cells #[.string p.n, .int .i64 p.a, .int .i64 p.b, .int .i64 p.e, .int .i64 p.u] 25)) := At.new w p.vals 25
  have F := fun w => implPinFault_any p w hn
  by_cases h0 : p.f = 0
  · rw [h0] at F
    cases ht : timB t
    · rw [show liveB p t = false by simp [liveB, ht]]
      go_enter Tryz.func17, Tryz.ntmps17
      go_wp2_with fail
      generalize w.alloc (.cells #[.string p.n, .int .i64 p.a, .int .i64 p.b, .int .i64 p.e, .int .i64 p.u] 25) = W0 at *
      refine (F _).mono ?_
      rintro r u1 ⟨rfl, b1⟩
      have c4 := (A0.on b1).cell 4 _ rfl
      have B1 := btr b0 b1
      clear A0 b0 b1 F
      go_wp2_with fail
      refine (isTime_any _ _).mono ?_
      rintro r w' ⟨rfl, rfl⟩
      go_wp2_with fail
      go_ret
      exact ⟨rfl, B1⟩
    by_cases hu : t ≤ p.u
    · rw [show liveB p t = true by simp [liveB, h0, ht, hu]]
      go_enter Tryz.func17, Tryz.ntmps17
      go_wp2_with fail
      generalize w.alloc (.cells #[.string p.n, .int .i64 p.a, .int .i64 p.b, .int .i64 p.e, .int .i64 p.u] 25) = W0 at *
      refine (F _).mono ?_
      rintro r u1 ⟨rfl, b1⟩
      have c4 := (A0.on b1).cell 4 _ rfl
      have B1 := btr b0 b1
      clear A0 b0 b1 F
      go_wp2_with fail
      refine (isTime_any _ _).mono ?_
      rintro r w' ⟨rfl, rfl⟩
      go_wp2_with fail
      go_ret
      exact ⟨rfl, B1⟩
    · rw [show liveB p t = false by simp [liveB, hu]]
      go_enter Tryz.func17, Tryz.ntmps17
      go_wp2_with fail
      generalize w.alloc (.cells #[.string p.n, .int .i64 p.a, .int .i64 p.b, .int .i64 p.e, .int .i64 p.u] 25) = W0 at *
      refine (F _).mono ?_
      rintro r u1 ⟨rfl, b1⟩
      have c4 := (A0.on b1).cell 4 _ rfl
      have B1 := btr b0 b1
      clear A0 b0 b1 F
      go_wp2_with fail
      refine (isTime_any _ _).mono ?_
      rintro r w' ⟨rfl, rfl⟩
      go_wp2_with fail
      go_ret
      exact ⟨by simpa using hu, B1⟩
  · rw [show liveB p t = false by simp [liveB, h0]]
    generalize p.f = c at *
    have q0 : (c == 0) = false := by simpa using h0
    go_enter Tryz.func17, Tryz.ntmps17
    go_wp2_with fail
    generalize w.alloc (.cells #[.string p.n, .int .i64 p.a, .int .i64 p.b, .int .i64 p.e, .int .i64 p.u] 25) = W0 at *
    refine (F _).mono ?_
    rintro r u1 ⟨rfl, b1⟩
    have c4 := (A0.on b1).cell 4 _ rfl
    have B1 := btr b0 b1
    clear A0 b0 b1 F
    go_wp2_with fail
    go_ret
    exact ⟨rfl, B1⟩
theorem l7Live_any (g : Nat) (p : PinD) (t : Int) (w : World) (A : At g p.vals w) : Calls Tryz.prog 112 #[.pointer (some ⟨g, 0, none⟩), .int .i64 t] w fun e w' => e = .returned (.bool (decide (t ≤ p.u))) ∧ Below w.heap.size w w' := by
  have c4 := A.cell 4 _ rfl
  go_enter Tryz.func112, Tryz.ntmps112
  go_wp2_with fail
  go_ret
  exact ⟨rfl, Below.refl _ _⟩
end Go.Proofs.YtmdknbgpddnplaaGreatDoor
