/- A pow of a sum is the product of pows, at every input that is drawn out of whatever bytes. The walk: the law's Go text answers true and turns nothing that was there. Conditions: as the theorem states. -/
import Derived.Test.YtbjenjmnjlhoeaaD1
import Derived.WalkKit
import Derived.Below
namespace Go.Proofs.Ytbjenjmnjlhoeaa.fnPowers
open Go.RowKit
set_option linter.unusedVariables false

theorem powR_form (a e m : Int) : powR a e m = (3, 0) ∨ (powR a e m = (0, M.pw a e.toNat m) ∧ 1 ≤ m ∧ m ≤ 1000000 ∧ 0 ≤ a ∧ a < m ∧ 0 ≤ e ∧ e ≤ 1000000000) := by
  unfold powR
  split
  · rename_i h
    simp only [Bool.and_eq_true, restB, inB, decide_eq_true_eq] at h
    exact .inr ⟨rfl, by omega⟩
  · exact .inl rfl

set_option maxHeartbeats 1000000 in
set_option maxRecDepth 100000 in
theorem walk (a0 : Option Addr) (len0 cap0 : Nat) (z0 : List Int) (w : World) (w0 : Row .u8 w w.heap.size a0 len0 cap0 z0) :
    Calls Try.prog 3 #[.slice a0 len0 cap0] w fun e w' => e = .returned (.bool true) ∧ Below w.heap.size w w' := by
  have hl := w0.fits
  have hm := w0.most
  unfold maxLen at hm
  by_cases hbig : 1048576 < len0
  · have hB : decide (1048576 < len0) = true := by simp [hbig]
    go_enter Try.func3, Try.ntmps3
    go_wp2_with fail
    refine (lwBig_any _ _ _ _ (by omega)).mono ?_
    rintro r w' ⟨rfl, rfl⟩
    go_wp2_with fail
    go_ret
    exact ⟨rfl, Below.refl _ _⟩
  have hB : decide (1048576 < len0) = false := by simp [hbig]
  have g0 := fld0
  have g1 := fld1
  go_enter Try.func3, Try.ntmps3
  go_wp2_with fail
  refine (lwBig_any _ _ _ _ (by omega)).mono ?_
  rintro r w' ⟨rfl, rfl⟩
  go_wp2_with fail
  refine (DrawPowMod_any w0).mono ?_
  rintro r w1 ⟨a, e, m, rfl, hb_w1⟩
  have R1 := (w0.below hb_w1).more hb_w1.size
  rcases powR_form a e m with hP | ⟨hP, m0, m1, a0, a1, e0, e1⟩
  · go_wp2_with fail
    refine (implPowMod_any _ _ _ _).mono ?_
    rintro r w2 ⟨rfl, hb_w2⟩
    obtain ⟨hc_w2, hf_w2⟩ := bcell hb_w2
    have hz_w2 := hb_w2.size
    (try simp at hz_w2)
    have R2 := ((R1.below (hb_w2.mono (Nat.le_refl _))).more hb_w2.size).below (bal (Below.refl _ _) (.cells #[.int .i64 3, .int .i64 0] 27))
    have R3 := R2.more (B' := (w2.alloc (.cells #[.int .i64 3, .int .i64 0] 27)).heap.size) (by simp)
    have p0_w2 : (w2.alloc (.cells #[.int .i64 3, .int .i64 0] 27)).cell? ⟨w2.heap.size, 0, none⟩ = some (.int .i64 3) := by go_simp
    have hb2 := bal (btr hb_w1 hb_w2) (.cells #[.int .i64 3, .int .i64 0] 27)
    clear R1 R2 hc_w2 hf_w2
    go_wp2_with fail
    refine (DrawMulMod_any R3).mono ?_
    rintro r w3 ⟨x, y, z, rfl, hb_w3⟩
    have p0_w3 := cell_keep hb_w3 p0_w2
    clear p0_w2
    go_wp2_with fail
    refine (implMulMod_any _ _ _ _).mono ?_
    rintro r w4 ⟨rfl, hb_w4⟩
    have p0_w4 := cell_keep hb_w4 p0_w3
    have hz_w4 := hb_w4.size
    (try simp at hz_w4)
    go_wp2_with fail
    refine (specMulMod_any _ _ _ _).mono ?_
    rintro r w5 ⟨rfl, hb_w5⟩
    have p0_w5 := cell_keep hb_w5 p0_w4
    have hz_w5 := hb_w5.size
    (try simp at hz_w5)
    go_wp2_with fail
    refine (implMulMod_any _ _ _ _).mono ?_
    rintro r w6 ⟨rfl, hb_w6⟩
    have p0_w6 := cell_keep hb_w6 p0_w5
    have hz_w6 := hb_w6.size
    (try simp at hz_w6)
    go_wp2_with fail
    refine (specMulMod_any _ _ _ _).mono ?_
    rintro r w7 ⟨rfl, hb_w7⟩
    have p0_w7 := cell_keep hb_w7 p0_w6
    have hz_w7 := hb_w7.size
    (try simp at hz_w7)
    go_wp2_with fail
    have hbel : Below w.heap.size w w7 := btr (btr (btr (btr (btr hb2 hb_w3) hb_w4) hb_w5) hb_w6) hb_w7
    clear p0_w3 p0_w4 p0_w5 p0_w6 hb_w1 hb_w2 hb_w3 hb_w4 hb_w5 hb_w6 hb_w7 hb2 R3 hz_w2 hz_w4 hz_w5 hz_w6 hz_w7
    go_region_held3 (fun w' => w'.cell? ⟨w2.heap.size, 0, none⟩ = some (.int .i64 3)) (first | exact p0_w7 | exact p0_w8)
      (first | (go_at_call 19; refine (specPowMod_any _ _ _ _).mono ?_; rintro r w8 ⟨rfl, hb_w8⟩; have p0_w8 := cell_keep hb_w8 (show w7.drew.cell? _ = _ from p0_w7); have hbel8 := btr hbel.drew hb_w8))
    go_wp2_with fail
    go_ret
    exact ⟨rfl, hbel8⟩
  · obtain ⟨V0, V1⟩ := M.pw_bd a e.toNat m0
    generalize hV : M.pw a e.toNat m = V at hP V0 V1
    have HV := Lib.hid hV
    clear hV
    go_wp2_with fail
    refine (implPowMod_any _ _ _ _).mono ?_
    rintro r w2 ⟨rfl, hb_w2⟩
    obtain ⟨hc_w2, hf_w2⟩ := bcell hb_w2
    have hz_w2 := hb_w2.size
    (try simp at hz_w2)
    have R2 := ((R1.below (hb_w2.mono (Nat.le_refl _))).more hb_w2.size).below (bal (Below.refl _ _) (.cells #[.int .i64 0, .int .i64 V] 27))
    have R3 := R2.more (B' := (w2.alloc (.cells #[.int .i64 0, .int .i64 V] 27)).heap.size) (by simp)
    have p0_w2 : (w2.alloc (.cells #[.int .i64 0, .int .i64 V] 27)).cell? ⟨w2.heap.size, 0, none⟩ = some (.int .i64 0) := by go_simp
    have p1_w2 : (w2.alloc (.cells #[.int .i64 0, .int .i64 V] 27)).cell? ⟨w2.heap.size, 1, none⟩ = some (.int .i64 V) := by go_simp
    have hb2 := bal (btr hb_w1 hb_w2) (.cells #[.int .i64 0, .int .i64 V] 27)
    clear R1 R2 hc_w2 hf_w2
    go_wp2_with fail
    refine (DrawMulMod_any R3).mono ?_
    rintro r w3 ⟨x, y, z, rfl, hb_w3⟩
    have p0_w3 := cell_keep hb_w3 p0_w2
    have p1_w3 := cell_keep hb_w3 p1_w2
    clear p0_w2 p1_w2
    go_wp2_with fail
    refine (implMulMod_any _ _ _ _).mono ?_
    rintro r w4 ⟨rfl, hb_w4⟩
    have p0_w4 := cell_keep hb_w4 p0_w3
    have p1_w4 := cell_keep hb_w4 p1_w3
    have hz_w4 := hb_w4.size
    (try simp at hz_w4)
    go_wp2_with fail
    refine (specMulMod_any _ _ _ _).mono ?_
    rintro r w5 ⟨rfl, hb_w5⟩
    have p0_w5 := cell_keep hb_w5 p0_w4
    have p1_w5 := cell_keep hb_w5 p1_w4
    have hz_w5 := hb_w5.size
    (try simp at hz_w5)
    go_wp2_with fail
    refine (implMulMod_any _ _ _ _).mono ?_
    rintro r w6 ⟨rfl, hb_w6⟩
    have p0_w6 := cell_keep hb_w6 p0_w5
    have p1_w6 := cell_keep hb_w6 p1_w5
    have hz_w6 := hb_w6.size
    (try simp at hz_w6)
    go_wp2_with fail
    refine (specMulMod_any _ _ _ _).mono ?_
    rintro r w7 ⟨rfl, hb_w7⟩
    have p0_w7 := cell_keep hb_w7 p0_w6
    have p1_w7 := cell_keep hb_w7 p1_w6
    have hz_w7 := hb_w7.size
    (try simp at hz_w7)
    have hbel : Below w.heap.size w w7 := btr (btr (btr (btr (btr hb2 hb_w3) hb_w4) hb_w5) hb_w6) hb_w7
    have R7 := ((((R3.below hb_w3).below (hb_w4.mono hb_w3.size)).below (hb_w5.mono (Nat.le_trans hb_w3.size hb_w4.size))).below (hb_w6.mono (Nat.le_trans hb_w3.size (Nat.le_trans hb_w4.size hb_w5.size)))).below (hb_w7.mono (Nat.le_trans hb_w3.size (Nat.le_trans hb_w4.size (Nat.le_trans hb_w5.size hb_w6.size))))
    clear p0_w3 p0_w4 p0_w5 p0_w6 p1_w3 p1_w4 p1_w5 p1_w6 hb_w1 hb_w2 hb_w3 hb_w4 hb_w5 hb_w6 hb_w7 hb2 R3 hz_w2 hz_w4 hz_w5 hz_w6 hz_w7
    go_wp2_with fail
    refine (lwAt_any 2 (e + 1) _ _ _ _ _ _ R7 (by omega)).mono ?_
    rintro r w8 ⟨f, f0, f1, rfl, hb_w8⟩
    have p0_w8 := cell_keep hb_w8 p0_w7
    have p1_w8 := cell_keep hb_w8 p1_w7
    have hbel8 := btr hbel hb_w8
    have fe : f ≤ e := by omega
    have hPf : powR a f m = (0, M.pw a f.toNat m) := by
      have : restB a m = true ∧ inB f 0 1000000000 = true := by simp only [restB, inB, decide_eq_true_eq]; omega
      simp [powR, this]
    have hPg : powR a (e - f) m = (0, M.pw a (e - f).toNat m) := by
      have : restB a m = true ∧ inB (e - f) 0 1000000000 = true := by simp only [restB, inB, decide_eq_true_eq]; omega
      simp [powR, this]
    have hQ : mulR (M.pw a f.toNat m) (M.pw a (e - f).toNat m) m = (0, V) := by
      have b1 := M.pw_bd a f.toNat m0
      have b2 := M.pw_bd a (e - f).toNat m0
      have : restB (M.pw a f.toNat m) m = true ∧ restB (M.pw a (e - f).toNat m) m = true := by simp only [restB, decide_eq_true_eq]; omega
      have hs : f.toNat + (e - f).toNat = e.toNat := by omega
      simp only [mulR, this.1, this.2, Bool.and_self, if_true, M.pw_add, hs, HV.out]
    generalize M.pw a f.toNat m = F at hPf hQ
    generalize M.pw a (e - f).toNat m = G at hPg hQ
    clear p0_w7 p1_w7 hbel R7 hb_w8 f1
    go_wp2_with fail
    refine (implPowMod_any _ _ _ _).mono ?_
    rintro r w9 ⟨rfl, hb_w9⟩
    have p0_w9 := cell_keep hb_w9 p0_w8
    have p1_w9 := cell_keep hb_w9 p1_w8
    have hz_w9 := hb_w9.size
    (try simp at hz_w9)
    go_wp2_with fail
    refine (implPowMod_any _ _ _ _).mono ?_
    rintro r w10 ⟨rfl, hb_w10⟩
    have p0_w10 := cell_keep hb_w10 p0_w9
    have p1_w10 := cell_keep hb_w10 p1_w9
    have hz_w10 := hb_w10.size
    (try simp at hz_w10)
    go_wp2_with fail
    refine (implMulMod_any _ _ _ _).mono ?_
    rintro r w11 ⟨rfl, hb_w11⟩
    have p0_w11 := cell_keep hb_w11 p0_w10
    have p1_w11 := cell_keep hb_w11 p1_w10
    have hz_w11 := hb_w11.size
    (try simp at hz_w11)
    have p0_w12 : (w11.alloc (.cells #[.int .i64 0, .int .i64 V] 27)).cell? ⟨w2.heap.size, 0, none⟩ = some (.int .i64 0) := cell_keep (bal (Below.refl _ _) _) p0_w11
    have p1_w12 : (w11.alloc (.cells #[.int .i64 0, .int .i64 V] 27)).cell? ⟨w2.heap.size, 1, none⟩ = some (.int .i64 V) := cell_keep (bal (Below.refl _ _) _) p1_w11
    have q0_w12 : (w11.alloc (.cells #[.int .i64 0, .int .i64 V] 27)).cell? ⟨w11.heap.size, 0, none⟩ = some (.int .i64 0) := by go_simp
    have q1_w12 : (w11.alloc (.cells #[.int .i64 0, .int .i64 V] 27)).cell? ⟨w11.heap.size, 1, none⟩ = some (.int .i64 V) := by go_simp
    have hbel12 := bal (btr (btr (btr hbel8 hb_w9) hb_w10) hb_w11) (.cells #[.int .i64 0, .int .i64 V] 27)
    clear p0_w8 p0_w9 p0_w10 p0_w11 p1_w8 p1_w9 p1_w10 p1_w11 hb_w9 hb_w10 hb_w11 hbel8 hz_w9 hz_w10 hz_w11
    go_wp2_with fail
    generalize w11.alloc (.cells #[.int .i64 0, .int .i64 V] 27) = w12 at *
    go_region_held3 (fun w' => w'.cell? ⟨w2.heap.size, 1, none⟩ = some (.int .i64 V) ∧ w'.cell? ⟨w11.heap.size, 0, none⟩ = some (.int .i64 0) ∧ w'.cell? ⟨w11.heap.size, 1, none⟩ = some (.int .i64 V)) (first | exact ⟨p1_w12, q0_w12, q1_w12⟩ | exact ⟨p1_w13, q0_w13, q1_w13⟩)
      (first | (go_at_call 19; refine (specPowMod_any _ _ _ _).mono ?_; rintro r w13 ⟨rfl, hb_w13⟩; have p1_w13 := cell_keep hb_w13 (show w12.drew.cell? _ = _ from p1_w12); have q0_w13 := cell_keep hb_w13 (show w12.drew.cell? _ = _ from q0_w12); have q1_w13 := cell_keep hb_w13 (show w12.drew.cell? _ = _ from q1_w12); have hbel13 := btr hbel12.drew hb_w13))
    all_goals
      go_wp2_with fail
      go_ret
      exact ⟨rfl, hbel13⟩

end Go.Proofs.Ytbjenjmnjlhoeaa.fnPowers
