/- Contracts of how signatures are laid into bytes, by the program and by its model. Conditions: as each theorem states. -/
import Derived.Test.YtepailfhagaboaaGreatDoorC3e
import Derived.Test.YtepailfhagaboaaGreatDoorLine
namespace Go.Proofs.YtepailfhagaboaaGreatDoor
open Go.RowKit
set_option maxRecDepth 100000
set_option linter.unusedVariables false

theorem implPackSign_no (p q : Int) (w : World) (hg : ErrT w) (h : M.sigB p q = false) :
    Calls Tryz.prog 88 #[I2 p q] w (BytesRes 3 [] w) := by
  have hR0 := ResB.new2 w (.cells #[.int .i64 p, .int .i64 q] 31) 39
  have hb0 := bal (bal (Below.refl _ w) (.cells #[.int .i64 p, .int .i64 q] 31)) (.cells #[.int .i64 0, .slice none 0 0] 39)
  go_enter Tryz.func88, Tryz.ntmps88
  go_wp2_with fail
  generalize (w.alloc (.cells #[.int .i64 p, .int .i64 q] 31)).alloc (.cells #[.int .i64 0, .slice none 0 0] 39) = W0 at *
  refine (pairOf_no p q _ h).mono ?_
  rintro r w1 ⟨s, v, rfl, h1⟩
  have b1 := btr hb0 h1
  have hR1 := hR0.on h1
  have hg1 := hg.on b1
  clear h1 hb0 hR0 hg h
  go_wp2_with fail
  refine (codeOf_mis _ _ _ hg1).mono ?_
  rintro r w2 ⟨rfl, h2⟩
  have b2 := btr b1 h2
  obtain ⟨q0, q1, z0, z1⟩ := hR1.on h2
  have F : BytesRes 3 [] w (.returned (.agg #[.int .i64 3, .slice none 0 0])) ((w2.setCell ⟨w.heap.size + 1, 0, none⟩ (.int .i64 3)).setCell ⟨w.heap.size + 1, 1, none⟩ (.slice none 0 0)) :=
    ⟨none, 0, 0, rfl, Own.nil _ _ _, bset (bset b2 (by show w.heap.size ≤ w.heap.size + 1; omega) _) (by show w.heap.size ≤ w.heap.size + 1; omega) _⟩
  clear b1 b2 hR1 hg1 h2
  go_wp2_with fail
  exact bodyPost_ret (v := .agg #[.int .i64 3, .slice none 0 0]) (by simp [results, Tryz.results88, go_sem, q0, q1]) rfl F

theorem implPackSign_yes (p q : Int) (w : World) (h : M.sigB p q = true) :
    Calls Tryz.prog 88 #[I2 p q] w (BytesRes 0 (M.two p ++ M.two q) w) := by
  obtain ⟨p0, p1, q0', q1'⟩ := M.sigB_bd h
  obtain ⟨i0, hi0, hz0, hz1, hz2⟩ := info_parts u8_info
  have hmk : ∀ W : World, (Instr.makeSlice 22 (.int .i64 0) (.int .i64 4)).run Tryz.prog W = .ok (.slice (some ⟨W.heap.size, 0, none⟩) 0 4) (W.alloc (.cells (madeCells #[.int .u8 0] 4) 5)) := by
    intro W
    have := run_make (P := Tryz.prog) W 22 5 i0 (.int .u8 0) Tryz.underlying22 hi0 hz0 .i64 .i64 0 4 (by omega) (by omega) (by rw [hz2]; omega) (by omega)
    simpa [hz1, Value.cells] using this
  have Y1 := fun w => pairOf_yes p q w h
  have P1 := fun w => point_any p q w (by omega) (by omega)
  have P2 := fun w => proof_any p q w (by omega) (by omega)
  have sp : M.sumB p = true := by simp only [M.sumB, decide_eq_true_eq]; omega
  have sq : M.sumB q = true := by simp only [M.sumB, decide_eq_true_eq]; omega
  generalize pairV p q = V at *
  have hR0 := ResB.new2 w (.cells #[.int .i64 p, .int .i64 q] 31) 39
  have hb0 := bal (bal (Below.refl _ w) (.cells #[.int .i64 p, .int .i64 q] 31)) (.cells #[.int .i64 0, .slice none 0 0] 39)
  clear hi0 hz0 hz1 hz2
  go_enter Tryz.func88, Tryz.ntmps88
  go_wp2_with fail
  generalize (w.alloc (.cells #[.int .i64 p, .int .i64 q] 31)).alloc (.cells #[.int .i64 0, .slice none 0 0] 39) = W0 at *
  refine (Y1 _).mono ?_
  rintro r w1 ⟨rfl, h1⟩
  have b1 := btr hb0 h1
  have hR1 := hR0.on h1
  clear h1 hb0 hR0
  have O1 : OwnK .u8 (w1.alloc (.cells (madeCells #[.int .u8 0] 4) 5)) w1.heap.size (.slice (some ⟨w1.heap.size, 0, none⟩) 0 4) [] := by
    have := Own.made (size := 1) (B := w1.heap.size) w1 (madeCells #[.int .u8 0] 4) 5 4 (Nat.le_refl _) (by simp only [maxLen]; omega) (by rw [size_madeCells])
    simpa [OwnK] using this
  have c1 : Below w1.heap.size w1 (w1.alloc (.cells (madeCells #[.int .u8 0] 4) 5)) := bal (Below.refl _ _) _
  go_wp2_with fail
  generalize w1.alloc (.cells (madeCells #[.int .u8 0] 4) 5) = v1 at *
  refine (P1 _).mono ?_
  rintro r w2 ⟨rfl, rfl⟩
  go_wp2_with fail
  refine (appendTwo_any _ p w1.heap.size [] _ O1 c1.size sp (by simp)).mono ?_
  rintro r w3 ⟨v3, rfl, O3, g3⟩
  have c3 := O1.grown c1 c1.size g3
  rw [List.nil_append] at O3
  clear O1 c1 g3
  go_wp2_with fail
  refine (P2 _).mono ?_
  rintro r w4 ⟨rfl, rfl⟩
  go_wp2_with fail
  refine (appendTwo_any _ q w1.heap.size (M.two p) _ O3 c3.size sq (by simp [M.two])).mono ?_
  rintro r w5 ⟨v5, rfl, O5, g5⟩
  have c5 := O3.grown c3 c3.size g5
  clear O3 c3 g5
  obtain ⟨q0, q1, z0, z1⟩ := hR1.on c5
  have lt1 : w.heap.size + 1 < w1.heap.size := cell_lt hR1.c0
  obtain ⟨a, cap, hv, -⟩ := O5.form
  have hne := fun g hg => (O5.lt g hg).1
  have b5 := btr b1 c5
  have HT := Lib.hid (And.intro O5 b5)
  clear O5 b5 c5 b1 hR1
  subst hv
  go_wp2_with fail
  refine bodyPost_ret (v := .agg #[.int .i64 0, .slice a (M.two p ++ M.two q).length cap]) (by simp [results, Tryz.results88, go_sem, q0, q1]) rfl ?_
  refine ⟨a, _, cap, rfl, ?_, ?_⟩
  · exact ((HT.out.1.less (by omega)).setCell (fun g hg => by have := hne g hg; show g ≠ w.heap.size + 1; omega) _).setCell (fun g hg => by have := hne g hg; show g ≠ w.heap.size + 1; omega) _
  · exact bset (bset HT.out.2 (by show w.heap.size ≤ w.heap.size + 1; omega) _) (by show w.heap.size ≤ w.heap.size + 1; omega) _

theorem implPackSign_any (p q : Int) (w : World) (hg : ErrT w) :
    Calls Tryz.prog 88 #[I2 p q] w (BytesRes (M.sigF p q) (M.packL p q) w) := by
  cases h : M.sigB p q
  · have := implPackSign_no p q w hg h
    simpa [M.sigF, M.packL, h] using this
  · have := implPackSign_yes p q w h
    simpa [M.sigF, M.packL, h] using this

theorem l3Pack_any (g : Nat) (p q : Int) (w : World) (d0 : w.cell? ⟨g, 0, none⟩ = some (.int .i64 p)) (d1 : w.cell? ⟨g, 1, none⟩ = some (.int .i64 q)) (hp : M.sumB p = true) (hq : M.sumB q = true) :
    Calls Tryz.prog 63 #[.pointer (some ⟨g, 0, none⟩)] w (Made (M.two p ++ M.two q) w) := by
  obtain ⟨i0, hi0, hz0, hz1, hz2⟩ := info_parts u8_info
  have T0 : SigAt w g p q w.drew := ⟨(Below.refl _ _).drew, d0, d1⟩
  go_enter Tryz.func63, Tryz.ntmps63
  go_wp2_with fail
  refine wp_region_line (SigAt w g p q) [(0, true), (1, true), (2, true), (3, true), (5, true), (6, true), (7, true), (8, true), (4, false), (9, false), (10, false), (11, true)] (by kernel_rfl) (by kernel_rfl) (fun _ _ d _ _ h => by cases d <;> exact h) T0 ?_
  have hst := T0
  have hgl : g < w.heap.size := cell_lt d0
  clear T0 d0 d1
  have hVs : w.drew.heap.size = w.heap.size := rfl
  have inst : Nonempty (Of (SigAt w g p q)) := ⟨⟨_, hst⟩⟩
  have q8 : ∀ z : Of (SigAt w g p q), z.val.cell? ⟨g, 0, none⟩ = some (.int .i64 p) := fun z => z.prop.c0
  have q9 : ∀ z : Of (SigAt w g p q), z.val.cell? ⟨g, 1, none⟩ = some (.int .i64 q) := fun z => z.prop.c1
  generalize w.drew = V at *
  iterate 8 (refine line_read rfl (by kernel_rfl) (fun K hK => ?_); go_big_quiet_op; refine hK _ ?_; clear hK K)
  refine line_alone rfl (by kernel_rfl) (fun K hK => ?_)
  refine call_wp (args := #[.int .i64 p]) rfl (by kernel_rfl) (by kernel_rfl) (l1Two_any p _ hp) (fun wn hwn => ?_)
  subst hwn
  have O1 := own_lit (k := .u8) V (M.two p) 2 5 (B := w.heap.size) (by omega) rfl (by simp only [maxLen]; omega)
  have hst1 := hst.on (bal (Below.refl _ V) (.cells #[.int .u8 (p / 256), .int .u8 (p % 256)] 5))
  refine hK _ _ hst1 ?_
  clear hK K hst
  simp only [Act.put, List.setIfInBounds_toArray, List.set_cons_zero, List.set_cons_succ]
  refine line_alone rfl (by kernel_rfl) (fun K hK => ?_)
  refine call_wp (args := #[.int .i64 q]) rfl (by kernel_rfl) (by kernel_rfl) (l1Two_any q _ hq) (fun wn hwn => ?_)
  subst hwn
  have O2 := O1.alloc (.cells #[.int .u8 (q / 256), .int .u8 (q % 256)] 5)
  have hst2 := hst1.on (bal (Below.refl _ _) (.cells #[.int .u8 (q / 256), .int .u8 (q % 256)] 5))
  have hsrc := src_new (P := Tryz.prog) (V.alloc (.cells #[.int .u8 (p / 256), .int .u8 (p % 256)] 5)) [.int .u8 (q / 256), .int .u8 (q % 256)] 2 2 5 22 5 Tryz.underlying22 rfl (ints_oneCell .u8 [q / 256, q % 256])
  refine hK _ _ hst2 ?_
  clear hK K hst1 O1
  simp only [Act.put, List.setIfInBounds_toArray, List.set_cons_zero, List.set_cons_succ]
  refine line_alone rfl (by kernel_rfl) (fun K hK => ?_)
  refine wp_append_src _ (.tmp 7) (.tmp 12) 22 22 rfl w.heap.size 5 i0 (.int .u8 0) 1 1 Tryz.underlying22 hi0 hz0 hz1 hz2 rfl _ 2 ((M.two p).map (Value.int .u8)) rfl O2 _ 2 [.int .u8 (q / 256), .int .u8 (q % 256)] rfl hsrc (by simp only [maxLen]; omega) (by omega) (by simp; omega) (fun v w3 hown hgrow hat => ?_)
  have b3 := O2.grown hst2.bel (by simp; omega) hgrow
  have ne : ∀ i, some (Addr.block ⟨g, i, none⟩) ≠ Value.ownBlock (.slice (some ⟨V.heap.size, 0, none⟩) 2 2) := fun i e => by
    simp [Value.ownBlock] at e
    omega
  have hst3 : SigAt w g p q w3 := ⟨b3, hgrow.cell hst2.c0 (ne 0), hgrow.cell hst2.c1 (ne 1)⟩
  have O3 : OwnK .u8 w3 w.heap.size v (M.two p ++ M.two q) := by unfold OwnK; simpa [M.two] using hown
  refine hK _ _ hst3 ?_
  clear hK K hst2 O2 hown hgrow hat hsrc ne hst3
  obtain ⟨a, cap, hv, -⟩ := O3.form
  have HT := Lib.hid (And.intro O3 b3)
  clear O3 b3
  subst hv
  simp only [Act.put, List.setIfInBounds_toArray, List.set_cons_zero, List.set_cons_succ]
  iterate 1 (refine line_read rfl (by kernel_rfl) (fun K hK => ?_); go_big_quiet_op; refine hK _ ?_; clear hK K)
  refine line_nil ?_
  go_wp2_with fail
  go_ret
  exact ⟨a, _, cap, rfl, HT.out.1, HT.out.2⟩

end Go.Proofs.YtepailfhagaboaaGreatDoor
