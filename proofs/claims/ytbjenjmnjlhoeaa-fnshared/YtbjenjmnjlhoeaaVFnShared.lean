/- Two who know but the other's public number have one number in common, at every input that is drawn out of whatever bytes. The walk: the law's Go text answers true and turns nothing that was there. Conditions: as the theorem states. -/
import Derived.Test.YtbjenjmnjlhoeaaD1b
import Derived.WalkKit
import Derived.Below
namespace Go.Proofs.Ytbjenjmnjlhoeaa.fnShared
open Go.RowKit
set_option linter.unusedVariables false

set_option maxHeartbeats 1000000 in
set_option maxRecDepth 100000 in
theorem walk (a0 : Option Addr) (len0 cap0 : Nat) (z0 : List Int) (w : World) (w0 : Row .u8 w w.heap.size a0 len0 cap0 z0) :
    Calls Try.prog 5 #[.slice a0 len0 cap0] w fun e w' => e = .returned (.bool true) ∧ Below w.heap.size w w' := by
  have hl := w0.fits
  have hm := w0.most
  unfold maxLen at hm
  by_cases hbig : 1048576 < len0
  · have hB : decide (1048576 < len0) = true := by simp [hbig]
    go_enter Try.func5, Try.ntmps5
    go_wp2_with fail
    refine (lwBig_any _ _ _ _ (by omega)).mono ?_
    rintro r w' ⟨rfl, rfl⟩
    go_wp2_with fail
    go_ret
    exact ⟨rfl, Below.refl _ _⟩
  have hB : decide (1048576 < len0) = false := by simp [hbig]
  have g0 := fld0
  have g1 := fld1
  go_enter Try.func5, Try.ntmps5
  go_wp2_with fail
  refine (lwBig_any _ _ _ _ (by omega)).mono ?_
  rintro r w' ⟨rfl, rfl⟩
  go_wp2_with fail
  refine (lwSecret_any 2 w0 (by omega)).mono ?_
  rintro r w1 ⟨a, a0, a1, rfl, hb_w1⟩
  have R1 := (w0.below hb_w1).more hb_w1.size
  go_wp2_with fail
  refine (lwSecret_any 4 R1 (by omega)).mono ?_
  rintro r w2 ⟨b, b0, b1, rfl, hb_w2⟩
  have R2 := (R1.below hb_w2).more hb_w2.size
  have hb2 := btr hb_w1 hb_w2
  have hx : keyR a = (0, a, M.pw 4 a.toNat 2879) := by simp [keyR, inB, a0, a1]
  have hy : keyR b = (0, b, M.pw 4 b.toNat 2879) := by simp [keyR, inB, b0, b1]
  have hpx := pub_base a0 a1
  have hpy := pub_base b0 b1
  have hps := pub_shared a0 a1 b0 b1
  have hsa : sharedR a (M.pw 4 b.toNat 2879) = (0, M.pw (M.pw 4 b.toNat 2879) a.toNat 2879) := by simp only [sharedR, inB, a0, a1, hpy, and_self, decide_true, Bool.and_self, if_true]
  have hsb : sharedR b (M.pw 4 a.toNat 2879) = (0, M.pw (M.pw 4 b.toNat 2879) a.toNat 2879) := by simp only [sharedR, inB, b0, b1, hpx, and_self, decide_true, Bool.and_self, if_true, M.shared_eq]
  generalize M.pw (M.pw 4 b.toNat 2879) a.toNat 2879 = U at hps hsa hsb
  generalize M.pw 4 a.toNat 2879 = X at hx hpx hsb
  generalize M.pw 4 b.toNat 2879 = Y at hy hpy hsa
  clear R1 hb_w1 hb_w2 hpy
  go_wp2_with fail
  refine (implKeyOf_any _ _).mono ?_
  rintro r w3 ⟨rfl, hb_w3⟩
  obtain ⟨hc_w3, hf_w3⟩ := bcell hb_w3
  have hz_w3 := hb_w3.size
  (try simp at hz_w3)
  have hb3 := bal (btr hb2 hb_w3) (.cells #[.int .i64 0, .int .i64 a, .int .i64 X] 37)
  have R3 := ((R2.below (hb_w3.mono (Nat.le_refl _))).more hb_w3.size).below (bal (Below.refl _ _) (.cells #[.int .i64 0, .int .i64 a, .int .i64 X] 37))
  have x0_w3 : (w3.alloc (.cells #[.int .i64 0, .int .i64 a, .int .i64 X] 37)).cell? ⟨w3.heap.size, 0, none⟩ = some (.int .i64 0) := by go_simp
  have x2_w3 : (w3.alloc (.cells #[.int .i64 0, .int .i64 a, .int .i64 X] 37)).cell? ⟨w3.heap.size, 2, none⟩ = some (.int .i64 X) := by go_simp
  have R3' := R3.more (B' := (w3.alloc (.cells #[.int .i64 0, .int .i64 a, .int .i64 X] 37)).heap.size) (by simp)
  clear R2 R3 hc_w3 hf_w3 hz_w3 hb2 hb_w3
  go_wp2_with fail
  generalize w3.alloc (.cells #[.int .i64 0, .int .i64 a, .int .i64 X] 37) = u3 at *
  refine (implKeyOf_any _ _).mono ?_
  rintro r w4 ⟨rfl, hb_w4⟩
  have x0_w4 := cell_keep (bal hb_w4 (.cells #[.int .i64 0, .int .i64 b, .int .i64 Y] 37)) x0_w3
  have x2_w4 := cell_keep (bal hb_w4 (.cells #[.int .i64 0, .int .i64 b, .int .i64 Y] 37)) x2_w3
  have y0_w4 : (w4.alloc (.cells #[.int .i64 0, .int .i64 b, .int .i64 Y] 37)).cell? ⟨w4.heap.size, 0, none⟩ = some (.int .i64 0) := by go_simp
  have y2_w4 : (w4.alloc (.cells #[.int .i64 0, .int .i64 b, .int .i64 Y] 37)).cell? ⟨w4.heap.size, 2, none⟩ = some (.int .i64 Y) := by go_simp
  have hb4 := btr hb3 (bal hb_w4 (.cells #[.int .i64 0, .int .i64 b, .int .i64 Y] 37))
  have R4 := (R3'.below (bal hb_w4 (.cells #[.int .i64 0, .int .i64 b, .int .i64 Y] 37))).more (bal hb_w4 (.cells #[.int .i64 0, .int .i64 b, .int .i64 Y] 37)).size
  clear x0_w3 x2_w3 hb3 R3' hb_w4
  go_wp2_with fail
  generalize w4.alloc (.cells #[.int .i64 0, .int .i64 b, .int .i64 Y] 37) = u4 at *
  refine (DrawKeyOf_any R4).mono ?_
  rintro r w5 ⟨k, rfl, hb_w5⟩
  have x0_w5 := cell_keep hb_w5 x0_w4
  have x2_w5 := cell_keep hb_w5 x2_w4
  have y0_w5 := cell_keep hb_w5 y0_w4
  have y2_w5 := cell_keep hb_w5 y2_w4
  have hb5 := btr hb4 hb_w5
  have R5 := (R4.below hb_w5).more hb_w5.size
  clear x0_w4 x2_w4 y0_w4 y2_w4 hb4 R4 hb_w5
  go_wp2_with fail
  refine (DrawSharedOf_any R5).mono ?_
  rintro r w6 ⟨s, p, rfl, hb_w6⟩
  have x0_w6 := cell_keep hb_w6 x0_w5
  have x2_w6 := cell_keep hb_w6 x2_w5
  have y0_w6 := cell_keep hb_w6 y0_w5
  have y2_w6 := cell_keep hb_w6 y2_w5
  have hb6 := btr hb5 hb_w6
  clear x0_w5 x2_w5 y0_w5 y2_w5 hb5 R5 hb_w6
  go_wp2_with fail
  refine (implKeyOf_any _ _).mono ?_
  rintro r w7 ⟨rfl, hb_w7⟩
  have x0_w7 := cell_keep hb_w7 x0_w6
  have x2_w7 := cell_keep hb_w7 x2_w6
  have y0_w7 := cell_keep hb_w7 y0_w6
  have y2_w7 := cell_keep hb_w7 y2_w6
  have hz_w7 := hb_w7.size
  (try simp at hz_w7)
  go_wp2_with fail
  refine (specKeyOf_any _ _).mono ?_
  rintro r w8 ⟨rfl, hb_w8⟩
  have x0_w8 := cell_keep hb_w8 x0_w7
  have x2_w8 := cell_keep hb_w8 x2_w7
  have y0_w8 := cell_keep hb_w8 y0_w7
  have y2_w8 := cell_keep hb_w8 y2_w7
  have hz_w8 := hb_w8.size
  (try simp at hz_w8)
  go_wp2_with fail
  refine (implSharedOf_any _ _ _).mono ?_
  rintro r w9 ⟨rfl, hb_w9⟩
  have x0_w9 := cell_keep hb_w9 x0_w8
  have x2_w9 := cell_keep hb_w9 x2_w8
  have y0_w9 := cell_keep hb_w9 y0_w8
  have y2_w9 := cell_keep hb_w9 y2_w8
  have hz_w9 := hb_w9.size
  (try simp at hz_w9)
  go_wp2_with fail
  refine (specSharedOf_any _ _ _).mono ?_
  rintro r w10 ⟨rfl, hb_w10⟩
  have x0_w10 := cell_keep hb_w10 x0_w9
  have x2_w10 := cell_keep hb_w10 x2_w9
  have y0_w10 := cell_keep hb_w10 y0_w9
  have y2_w10 := cell_keep hb_w10 y2_w9
  have hz_w10 := hb_w10.size
  (try simp at hz_w10)
  go_wp2_with fail
  refine (implSharedOf_any _ _ _).mono ?_
  rintro r w11 ⟨rfl, hb_w11⟩
  have x0_w11 := cell_keep hb_w11 x0_w10
  have x2_w11 := cell_keep hb_w11 x2_w10
  have y0_w11 := cell_keep hb_w11 y0_w10
  have y2_w11 := cell_keep hb_w11 y2_w10
  have hz_w11 := hb_w11.size
  (try simp at hz_w11)
  go_wp2_with fail
  refine (specSharedOf_any _ _ _).mono ?_
  rintro r w12 ⟨rfl, hb_w12⟩
  have x0_w12 := cell_keep hb_w12 x0_w11
  have x2_w12 := cell_keep hb_w12 x2_w11
  have y0_w12 := cell_keep hb_w12 y0_w11
  have y2_w12 := cell_keep hb_w12 y2_w11
  have hz_w12 := hb_w12.size
  (try simp at hz_w12)
  have hb12 := btr (btr (btr (btr (btr (btr hb6 hb_w7) hb_w8) hb_w9) hb_w10) hb_w11) hb_w12
  clear x0_w6 x2_w6 y0_w6 y2_w6 x0_w7 x2_w7 y0_w7 y2_w7 x0_w8 x2_w8 y0_w8 y2_w8 x0_w9 x2_w9 y0_w9 y2_w9 x0_w10 x2_w10 y0_w10 y2_w10 x0_w11 x2_w11 y0_w11 y2_w11 hb6 hb_w7 hb_w8 hb_w9 hb_w10 hb_w11 hb_w12 hz_w7 hz_w8 hz_w9 hz_w10 hz_w11 hz_w12
  go_wp2_with fail
  refine (implSharedOf_any _ _ _).mono ?_
  rintro r w13 ⟨rfl, hb_w13⟩
  have x0_w13 := cell_keep hb_w13 x0_w12
  have x2_w13 := cell_keep hb_w13 x2_w12
  have y0_w13 := cell_keep hb_w13 y0_w12
  have y2_w13 := cell_keep hb_w13 y2_w12
  have l3 : w3.heap.size < w13.heap.size := cell_lt x0_w13
  have l4 : w4.heap.size < w13.heap.size := cell_lt y0_w13
  have hb13 := btr hb12 hb_w13
  clear x0_w12 x2_w12 y0_w12 y2_w12 hb12 hb_w13
  go_wp2_with fail
  refine (implSharedOf_any _ _ _).mono ?_
  rintro r w14 ⟨rfl, hb_w14⟩
  have kb := btr (bal (Below.refl _ _) _) hb_w14
  have x0_w14 := cell_keep kb x0_w13
  have x2_w14 := cell_keep kb x2_w13
  have y0_w14 := cell_keep kb y0_w13
  have y2_w14 := cell_keep kb y2_w13
  have u0_w14 : w14.cell? ⟨w13.heap.size, 0, none⟩ = some (.int .i64 0) := cell_keep hb_w14 (by go_simp)
  have u1_w14 : w14.cell? ⟨w13.heap.size, 1, none⟩ = some (.int .i64 U) := cell_keep hb_w14 (by go_simp)
  have m3 : w3.heap.size < w14.heap.size := cell_lt x0_w14
  have m4 : w4.heap.size < w14.heap.size := cell_lt y0_w14
  have m5 : w13.heap.size < w14.heap.size := cell_lt u0_w14
  have hb14 := btr hb13 kb
  have vb := bal (Below.refl _ w14) (.cells #[.int .i64 0, .int .i64 U] 27)
  have u0_v := cell_keep vb u0_w14
  have u1_v := cell_keep vb u1_w14
  have hbv := btr hb14 vb
  clear x0_w13 x2_w13 y0_w13 y2_w13 kb hb13 hb_w14 l3 l4
  go_wp2_with fail
  refine (implIsPublic_any _ _).mono ?_
  rintro r w15 ⟨rfl, hb_w15⟩
  have u0_w15 := cell_keep hb_w15 u0_v
  have u1_w15 := cell_keep hb_w15 u1_v
  have v1_w15 : w15.cell? ⟨w14.heap.size, 1, none⟩ = some (.int .i64 U) := cell_keep hb_w15 (by go_simp)
  have hb15 := btr hbv hb_w15
  clear x0_w14 x2_w14 y0_w14 y2_w14 u0_w14 u1_w14 m3 m4 m5 hb14 vb u0_v u1_v hbv hb_w15
  go_wp2_with fail
  refine (implIsPublic_any _ _).mono ?_
  rintro r w16 ⟨rfl, hb_w16⟩
  have hb16 := btr hb15 hb_w16
  clear hb15 hb_w16
  go_wp2_with fail
  go_ret
  exact ⟨rfl, hb16⟩

end Go.Proofs.Ytbjenjmnjlhoeaa.fnShared
