/- Contracts of how signatures are read out of bytes, by the model. Conditions: as each theorem states. -/
import Derived.Test.YtkondaojikfbjaaDoorC3f
namespace Go.Proofs.YtkondaojikfbjaaDoor
open Go.RowKit
set_option maxRecDepth 100000
set_option linter.unusedVariables false

theorem sigF_eq (p q : Int) : (M.sigF p q == 0) = M.sigB p q := by
  unfold M.sigF
  cases M.sigB p q <;> rfl
theorem l3Read_any (a : Option Addr) (len cap B : Nat) (zs : List Int) (w : World) (hR : Row .u8 w B a len cap zs) (hB : B ≤ w.heap.size) :
    Calls Tryd.prog 97 #[.slice a len cap] w fun r w' => r = .returned (.tuple #[(if zs.length = 4 then I2 (M.readP zs) (M.readQ zs) else I2 0 0), .bool (M.readB zs)]) ∧ Below w.heap.size w w' := by
  have hlen := hR.fits
  have hmost := hR.most
  have hm2 := hmost
  unfold maxLen at hm2
  by_cases h4 : len = 4
  · subst h4
    obtain ⟨b, off, x, y, u, v, rfl, rfl, d0, d1, d2, d3, x0, x1, y0, y1, u0, u1, v0, v1⟩ := row_four hR
    have eP : M.readP [x, y, u, v] = 256 * x + y := by simp [M.readP]
    have eQ : M.readQ [x, y, u, v] = 256 * u + v := by simp [M.readQ]
    have eB : M.readB [x, y, u, v] = M.sigB (256 * x + y) (256 * u + v) := by simp only [M.readB, eP, eQ]; rfl
    rw [eP, eQ, eB, ← sigF_eq, if_pos (show [x, y, u, v].length = 4 from rfl)]
    clear eP eQ eB hR
    have T1 := fun (w' : World) d0 d1 => l1At_any b off 4 cap 0 x y w' (by omega) (by omega) hlen hmost d0 d1 x0 x1 y0 y1
    have T2 := fun (w' : World) d2 d3 => l1At_any b off 4 cap 2 u v w' (by omega) (by omega) hlen hmost d2 d3 u0 u1 v0 v1
    have hb0 := bal (Below.refl _ w) (.cells #[.int .i64 0, .int .i64 0] 49)
    have hR0 := Res2.new w 49
    go_enter Tryd.func97, Tryd.ntmps97
    go_wp2_with fail
    refine (T1 _ (cell_keep hb0 d0) (cell_keep hb0 d1)).mono ?_
    rintro r w1 ⟨rfl, h1⟩
    have b1 := btr hb0 h1
    have hR1 := hR0.on h1
    clear h1 hb0 hR0 T1
    go_wp2_with fail
    refine (T2 _ (cell_keep b1 d2) (cell_keep b1 d3)).mono ?_
    rintro r w2 ⟨rfl, h2⟩
    have b2 := btr b1 h2
    have hR2 := hR1.on h2
    clear h2 b1 hR1 T2 d0 d1 d2 d3
    have k0 : (w2.alloc (.cells #[.int .i64 (256 * x + y), .int .i64 (256 * u + v)] 49)).cell? ⟨w2.heap.size, 0, none⟩ = some (.int .i64 (256 * x + y)) := by go_simp
    have k1 : (w2.alloc (.cells #[.int .i64 (256 * x + y), .int .i64 (256 * u + v)] 49)).cell? ⟨w2.heap.size, 1, none⟩ = some (.int .i64 (256 * u + v)) := by go_simp
    have hR3 := hR2.on (bal (Below.refl _ _) (.cells #[.int .i64 (256 * x + y), .int .i64 (256 * u + v)] 49))
    have b3 := bal b2 (.cells #[.int .i64 (256 * x + y), .int .i64 (256 * u + v)] 49)
    have hne : w.heap.size < w2.heap.size := cell_lt hR2.c0
    clear b2 hR2
    go_wp2_with fail
    generalize w2.alloc (.cells #[.int .i64 (256 * x + y), .int .i64 (256 * u + v)] 49) = v2 at *
    have T0 : SigAt w w2.heap.size (256 * x + y) (256 * u + v) v2.drew := ⟨b3.drew, k0, k1⟩
    refine wp_region_line (SigAt w w2.heap.size (256 * x + y) (256 * u + v)) [(0, true), (1, false), (2, true), (3, false), (4, true)] (by kernel_rfl) (by kernel_rfl) (fun _ _ d _ _ h => by cases d <;> exact h) T0 ?_
    have hst := T0
    have hRV : Res2 w.heap.size v2.drew := hR3.on (bdrew _)
    clear T0 hR3 k0 k1 b3
    generalize v2.drew = V at *
    have inst : Nonempty (Of (SigAt w w2.heap.size (256 * x + y) (256 * u + v))) := ⟨⟨_, hst⟩⟩
    have q8 : ∀ z : Of (SigAt w w2.heap.size (256 * x + y) (256 * u + v)), z.val.cell? ⟨w2.heap.size, 0, none⟩ = some (.int .i64 (256 * x + y)) := fun z => z.prop.c0
    have q9 : ∀ z : Of (SigAt w w2.heap.size (256 * x + y) (256 * u + v)), z.val.cell? ⟨w2.heap.size, 1, none⟩ = some (.int .i64 (256 * u + v)) := fun z => z.prop.c1
    iterate 1 (refine line_read rfl (by kernel_rfl) (fun K hK => ?_); go_big_quiet_op; refine hK _ ?_; clear hK K)
    refine line_alone rfl (by kernel_rfl) (fun K hK => ?_)
    refine call_wp (args := #[.pointer (some ⟨w2.heap.size, 0, none⟩)]) rfl (by kernel_rfl) (by kernel_rfl) (l3Fault_any _ _ _ _ hst.c0 hst.c1) (fun wn hbn => ?_)
    subst hbn
    refine hK _ _ hst ?_
    clear hK K
    simp only [Act.put, List.setIfInBounds_toArray, List.set_cons_zero, List.set_cons_succ]
    iterate 1 (refine line_read rfl (by kernel_rfl) (fun K hK => ?_); go_big_quiet_op; refine hK _ ?_; clear hK K)
    obtain ⟨q0, q1, z0, z1⟩ := hRV
    refine line_alone rfl (by kernel_rfl) (fun K hK => ?_)
    go_big_op
    refine hK _ _ (hst.set hne) ?_
    clear hK K
    iterate 1 (refine line_read rfl (by kernel_rfl) (fun K hK => ?_); go_big_quiet_op; refine hK _ ?_; clear hK K)
    refine line_nil ?_
    go_wp2_with fail
    exact bodyPost_ret (v := .tuple #[I2 (256 * x + y) (256 * u + v), .bool (M.sigF (256 * x + y) (256 * u + v) == 0)]) (by simp [results, Tryd.results97, go_sem, q0, q1]) rfl ⟨rfl, bset (bset hst.bel (Nat.le_refl _) _) (Nat.le_refl _) _⟩
  · have e4 : ((len : Int) == 4) = false := by rw [beq_eq_false_iff_ne]; omega
    have hl : ¬ zs.length = 4 := by rw [hR.length]; exact h4
    have eB : M.readB zs = false := by simp [M.readB, hl]
    rw [eB, if_neg hl]
    clear h4 eB hl
    go_enter Tryd.func97, Tryd.ntmps97
    go_wp2_with fail
    exact bodyPost_ret (v := .tuple #[I2 0 0, .bool false]) (by simp [results, Tryd.results97, go_sem]) rfl ⟨rfl, bal (Below.refl _ _) _⟩
theorem specReadSign_any (a : Option Addr) (len cap B : Nat) (zs : List Int) (w : World) (hR : Row .u8 w B a len cap zs) (hB : B ≤ w.heap.size) :
    Calls Tryd.prog 49 #[.slice a len cap] w fun r w' => r = .returned (I3 (M.readR zs).1 (M.readR zs).2.1 (M.readR zs).2.2) ∧ Below w.heap.size w w' := by
  have L1 := fun o => l3Read_any a len cap B zs (w.alloc o) (hR.alloc hB o) (by simp; omega)
  cases h : M.readB zs
  · rw [readR_no h]
    simp only [h] at L1
    obtain ⟨p, q, hg⟩ : ∃ p q, (if zs.length = 4 then I2 (M.readP zs) (M.readQ zs) else I2 0 0) = I2 p q := by
      split
      · exact ⟨_, _, rfl⟩
      · exact ⟨_, _, rfl⟩
    simp only [hg] at L1
    clear hg
    go_enter Tryd.func49, Tryd.ntmps49
    go_wp2_with fail
    refine (L1 _).mono ?_
    rintro r w1 ⟨rfl, h1⟩
    obtain ⟨q0, q1, q2, z0, z1, z2⟩ := (Res3.new w _).on h1
    have b1 := btr (bal (Below.refl _ w) _) h1
    have hz : w.heap.size < w1.heap.size := cell_lt q0
    clear h1 L1
    go_wp2_with fail
    exact bodyPost_ret (v := I3 5 0 0) (by simp [results, Tryd.results49, go_sem, q0, q1, q2, hz]) rfl ⟨rfl, bal (bset (bset (bset b1 (Nat.le_refl _) _) (Nat.le_refl _) _) (Nat.le_refl _) _) _⟩
  · rw [readR_yes h]
    have hl : zs.length = 4 := by simp only [M.readB, Bool.and_eq_true, decide_eq_true_eq] at h; exact h.1
    simp only [h, hl, if_true] at L1
    generalize M.readP zs = P at *
    generalize M.readQ zs = R at *
    go_enter Tryd.func49, Tryd.ntmps49
    go_wp2_with fail
    refine (L1 _).mono ?_
    rintro r w1 ⟨rfl, h1⟩
    obtain ⟨q0, q1, q2, z0, z1, z2⟩ := (Res3.new w _).on h1
    have b1 := btr (bal (Below.refl _ w) _) h1
    have hz : w.heap.size < w1.heap.size := cell_lt q0
    clear h1 L1
    go_wp2_with fail
    exact bodyPost_ret (v := I3 0 P R) (by simp [results, Tryd.results49, go_sem, q0, q1, q2, hz]) rfl ⟨rfl, bal (bset (bset (bset b1 (Nat.le_refl _) _) (Nat.le_refl _) _) (Nat.le_refl _) _) _⟩
end Go.Proofs.YtkondaojikfbjaaDoor
