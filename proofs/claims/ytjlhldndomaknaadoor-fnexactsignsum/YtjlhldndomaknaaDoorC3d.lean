/- Contracts of the exported functions of chapter 3 and of their model's: nonces, signatures and how they are checked. Conditions: as each theorem states. -/
import Derived.Test.YtjlhldndomaknaaDoorC3c
namespace Go.Proofs.YtjlhldndomaknaaDoor
open Go.RowKit
set_option maxRecDepth 100000

theorem signer_split {s t : Int} (h : (inB s 1 1438 && M.sumB t) = true) : inB s 1 1438 = true ∧ M.sumB t = true := by simpa using h

theorem implNonceOf_any (s t : Int) (w : World) (hL : Labels w) (hg : ErrT w) :
    Calls Tryd.prog 41 #[.int .i64 s, .int .i64 t] w fun r w' => r = .returned (I2 (M.nonceR s t).1 (M.nonceR s t).2) ∧ Below w.heap.size w w' := by
  cases h : (inB s 1 1438 && M.sumB t)
  · have E : M.nonceR s t = (3, 0) := by simp only [M.nonceR, h]; rfl
    rw [E]; clear E
    go_enter Tryd.func41, Tryd.ntmps41
    go_wp2_with fail
    refine (fitSigner_no s t _ h).mono ?_
    rintro r w1 ⟨m, rfl, hb1⟩
    have hR1 := (Res2.new w _).on hb1
    have hb1' := btr (bal (Below.refl _ w) _) hb1
    have hg1 := hg.on hb1'
    clear hg hL hb1
    go_wp2_with fail
    refine (codeOf_mis _ _ _ hg1).mono ?_
    rintro r w2 ⟨rfl, hb2⟩
    obtain ⟨q0, q1, z0, z1⟩ := hR1.on hb2
    have hb := btr hb1' hb2
    clear hR1 hg1 hb1' hb2
    go_wp2_with fail
    exact bodyPost_ret (v := I2 3 0) (by simp [results, Tryd.results41, go_sem, q0, q1]) rfl ⟨rfl, bset (bset hb (Nat.le_refl _) _) (Nat.le_refl _) _⟩
  · obtain ⟨hs, ht⟩ := signer_split h
    have E : M.nonceR s t = (0, M.nonceN s t) := by simp only [M.nonceR, h]; rfl
    rw [E]; clear E h
    have hL1 := fun o => hL.on (bal (Below.refl _ w) o)
    clear hL hg
    go_enter Tryd.func41, Tryd.ntmps41
    go_wp2_with fail
    refine (fitSigner_yes s t _ hs ht).mono ?_
    rintro r w' ⟨rfl, rfl⟩
    go_wp2_with fail
    refine (nonce_any s t _ (hL1 _) (M.sum_of_sec hs) ht).mono ?_
    rintro r w2 ⟨rfl, hb2⟩
    obtain ⟨q0, q1, z0, z1⟩ := (Res2.new w _).on hb2
    have hb := btr (bal (Below.refl _ w) _) hb2
    clear hL1 hb2
    go_wp2_with fail
    exact bodyPost_ret (v := I2 0 (M.nonceN s t)) (by simp [results, Tryd.results41, go_sem, q0, q1]) rfl ⟨rfl, bset (bset hb (Nat.le_refl _) _) (Nat.le_refl _) _⟩

theorem specNonceOf_any (s t : Int) (w : World) :
    Calls Tryd.prog 42 #[.int .i64 s, .int .i64 t] w fun r w' => r = .returned (I2 (M.nonceR s t).1 (M.nonceR s t).2) ∧ Below w.heap.size w w' := by
  cases hs : inB s 1 1438
  · have E : M.nonceR s t = (3, 0) := by simp [M.nonceR, hs]
    rw [E]; clear E
    go_enter Tryd.func42, Tryd.ntmps42
    go_wp2_with fail
    refine (l1Secret_any _ _).mono ?_
    rintro r w' ⟨rfl, rfl⟩
    go_wp2_with fail
    exact bodyPost_ret (v := I2 3 0) (by simp [results, Tryd.results42, go_sem]) rfl ⟨rfl, bal (Below.refl _ _) _⟩
  cases ht : M.sumB t
  · have E : M.nonceR s t = (3, 0) := by simp [M.nonceR, ht]
    rw [E]; clear E
    go_enter Tryd.func42, Tryd.ntmps42
    go_wp2_with fail
    refine (l1Secret_any _ _).mono ?_
    rintro r w' ⟨rfl, rfl⟩
    go_wp2_with fail
    refine (l2Is_any _ _).mono ?_
    rintro r w' ⟨rfl, rfl⟩
    go_wp2_with fail
    exact bodyPost_ret (v := I2 3 0) (by simp [results, Tryd.results42, go_sem]) rfl ⟨rfl, bal (Below.refl _ _) _⟩
  · have E : M.nonceR s t = (0, M.nonceN s t) := by simp [M.nonceR, hs, ht]
    rw [E]; clear E
    have hS := M.sum_of_sec hs
    go_enter Tryd.func42, Tryd.ntmps42
    go_wp2_with fail
    refine (l1Secret_any _ _).mono ?_
    rintro r w' ⟨rfl, rfl⟩
    go_wp2_with fail
    refine (l2Is_any _ _).mono ?_
    rintro r w' ⟨rfl, rfl⟩
    go_wp2_with fail
    refine (l3Nonce_any _ _ _ hS ht).mono ?_
    rintro r w1 ⟨rfl, hb_w1⟩
    obtain ⟨hc_w1, hf_w1⟩ := bcell hb_w1
    have hz_w1 := hb_w1.size
    (try simp at hz_w1)
    have q0 : w1.cell? ⟨w.heap.size, 0, none⟩ = some (.int .i64 0) := cell_keep hb_w1 (by go_simp)
    have q1 : w1.cell? ⟨w.heap.size, 1, none⟩ = some (.int .i64 0) := cell_keep hb_w1 (by go_simp)
    go_wp2_with fail
    exact bodyPost_ret (v := I2 0 (M.nonceN s t)) (by simp [results, Tryd.results42, go_sem, q0, q1]) rfl ⟨rfl, bset (bset (btr (bal (Below.refl _ _) _) hb_w1) (Nat.le_refl _) _) (Nat.le_refl _) _⟩

theorem implSignSum_any (s t : Int) (w : World) (hL : Labels w) (hg : ErrT w) :
    Calls Tryd.prog 36 #[.int .i64 s, .int .i64 t] w fun r w' => r = .returned (I3 (M.signR s t).1 (M.signR s t).2.1 (M.signR s t).2.2) ∧ Below w.heap.size w w' := by
  cases h : (inB s 1 1438 && M.sumB t)
  · have E : M.signR s t = (3, 0, 0) := by simp only [M.signR, h]; rfl
    rw [E]; clear E
    go_enter Tryd.func36, Tryd.ntmps36
    go_wp2_with fail
    refine (fitSigner_no s t _ h).mono ?_
    rintro r w1 ⟨m, rfl, hb1⟩
    have hR1 := (Res3.new w _).on hb1
    have hb1' := btr (bal (Below.refl _ w) _) hb1
    have hg1 := hg.on hb1'
    clear hg hL hb1
    go_wp2_with fail
    refine (codeOf_mis _ _ _ hg1).mono ?_
    rintro r w2 ⟨rfl, hb2⟩
    obtain ⟨q0, q1, q2, z0, z1, z2⟩ := hR1.on hb2
    have hb := btr hb1' hb2
    clear hR1 hg1 hb1' hb2
    go_wp2_with fail
    exact bodyPost_ret (v := I3 3 0 0) (by simp [results, Tryd.results36, go_sem, q0, q1, q2]) rfl ⟨rfl, bset (bset (bset hb (Nat.le_refl _) _) (Nat.le_refl _) _) (Nat.le_refl _) _⟩
  · obtain ⟨hs, ht⟩ := signer_split h
    have E : M.signR s t = (0, M.sigPt s t, M.sigPr s t) := by simp only [M.signR, h]; rfl
    rw [E]; clear E h
    have hs' := hs
    simp only [inB, decide_eq_true_eq] at hs'
    obtain ⟨s0, s1⟩ := hs'
    have hS := M.sum_of_sec hs
    obtain ⟨n0, n1⟩ := M.nonceN_bd s t
    obtain ⟨c0, c1⟩ := M.chalN_bd (M.pubN s) (M.sigPt s t) t
    have hp1 := M.pow_sum (a := 4) s.toNat
    have hp2 := M.pow_sum (a := 4) (M.nonceN s t).toNat
    have ep : M.pw 4 s.toNat 2879 = M.pubN s := rfl
    have eq : M.pw 4 (M.nonceN s t).toNat 2879 = M.sigPt s t := rfl
    rw [ep] at hp1
    rw [eq] at hp2
    have er : M.sigPr s t = (M.nonceN s t + M.chalN (M.pubN s) (M.sigPt s t) t * s % 1439) % 1439 := by unfold M.sigPr; omega
    obtain ⟨m0, m1⟩ := M.mod_bd (M.chalN (M.pubN s) (M.sigPt s t) t * s) (m := 1439) (by omega)
    rw [er]
    clear er hg
    generalize M.sigPt s t = P at *
    generalize M.pubN s = U at *
    go_enter Tryd.func36, Tryd.ntmps36
    go_wp2_with fail
    refine (fitSigner_yes s t _ hs ht).mono ?_
    rintro r w' ⟨rfl, rfl⟩
    go_wp2_with fail
    have hL0 := fun o => hL.on (bal (Below.refl _ w) o)
    refine (nonce_any s t _ (hL0 _) hS ht).mono ?_
    rintro r w1 ⟨rfl, hb0⟩
    have hR1 := (Res3.new w _).on hb0
    have hb1 := btr (bal (Below.refl _ w) _) hb0
    clear hL0 hb0
    go_wp2_with fail
    refine (power_int _ _ _ _ (by omega) (by omega) (by omega) (by omega) (by omega) (by omega)).mono ?_
    rintro r w2 ⟨rfl, hb2⟩
    rw [ep]
    go_wp2_with fail
    refine (power_int _ _ _ _ (by omega) (by omega) (by omega) (by omega) (by omega) (by omega)).mono ?_
    rintro r w3 ⟨rfl, hb3⟩
    rw [eq]
    have hb4 := btr (btr hb1 hb2) hb3
    have hR4 := (hR1.on hb2).on hb3
    have hL4 := hL.on hb4
    clear hL hR1 hb1 hb2 hb3 ep eq
    go_wp2_with fail
    refine (challenge_any _ _ _ _ hL4 hp1 hp2 ht).mono ?_
    rintro r w5 ⟨rfl, hb5⟩
    have hb6 := btr hb4 hb5
    have hR6 := (hR4.on hb5).on (bal (Below.refl _ _) (.cells #[.int .i64 (M.chalN U P t), .int .i64 s] 2))
    clear hL4 hR4 hb4 hb5
    go_wp2_with fail
    refine (product_two 1439 (M.chalN U P t) s _ _ (by omega) (by omega) (by omega) (by omega) (by omega) (by omega) (by go_simp) (by go_simp)).mono ?_
    rintro r w7 ⟨rfl, rfl⟩
    obtain ⟨q0, q1, q2, z0, z1, z2⟩ := hR6
    go_wp2_with fail
    exact bodyPost_ret (v := I3 0 P ((M.nonceN s t + M.chalN U P t * s % 1439) % 1439)) (by simp [results, Tryd.results36, go_sem, q0, q1, q2]) rfl ⟨rfl, bset (bset (bset (bal hb6 _) (Nat.le_refl _) _) (Nat.le_refl _) _) (Nat.le_refl _) _⟩
end Go.Proofs.YtjlhldndomaknaaDoor
