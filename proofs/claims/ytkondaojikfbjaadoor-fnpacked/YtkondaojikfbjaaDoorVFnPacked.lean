/- A signature is read back from its bytes, and there is one way to write it alone, at every input that is drawn out of whatever bytes. The walk: the law's Go text answers true and turns nothing that was there. Conditions: as the theorem states. -/
import Derived.Test.YtkondaojikfbjaaDoorD3b
import Derived.Test.YtkondaojikfbjaaDoorD2b
import Derived.WalkKit
import Derived.Below
namespace Go.Proofs.YtkondaojikfbjaaDoor.fnPacked
open Go.RowKit
set_option linter.unusedVariables false

/-- What stays so while the law goes on: the bytes that were drawn; what was read at block bb, what was drawn at block cb, what was packed at block db. -/
structure St (w : World) (aA : Option Addr) (nA cA : Nat) (zA : List Int) (bb cb db : Nat) (rc rp rq p q dc : Int) (aD : Option Addr) (nD cD : Nat) (zD : List Int) (cur : World) : Prop where
  bel : Below w.heap.size w cur
  rowA : Row .u8 cur cur.heap.size aA nA cA zA
  b0 : cur.cell? ⟨bb, 0, none⟩ = some (.int .i64 rc)
  b1 : cur.cell? ⟨bb, 1, none⟩ = some (.int .i64 rp)
  b2 : cur.cell? ⟨bb, 2, none⟩ = some (.int .i64 rq)
  c0 : cur.cell? ⟨cb, 0, none⟩ = some (.int .i64 p)
  c1 : cur.cell? ⟨cb, 1, none⟩ = some (.int .i64 q)
  d0 : cur.cell? ⟨db, 0, none⟩ = some (.int .i64 dc)
  d1 : cur.cell? ⟨db, 1, none⟩ = some (.slice aD nD cD)
  rowD : Row .u8 cur cur.heap.size aD nD cD zD
section
variable {w : World} {aA : Option Addr} {nA cA : Nat} {zA : List Int} {bb cb db : Nat} {rc rp rq p q dc : Int} {aD : Option Addr} {nD cD : Nat} {zD : List Int} {cur cur' : World}
theorem St.on (h : St w aA nA cA zA bb cb db rc rp rq p q dc aD nD cD zD cur) (hb : Below cur.heap.size cur cur') : St w aA nA cA zA bb cb db rc rp rq p q dc aD nD cD zD cur' :=
  ⟨btr h.bel hb, h.rowA.on hb, cell_keep hb h.b0, cell_keep hb h.b1, cell_keep hb h.b2, cell_keep hb h.c0, cell_keep hb h.c1, cell_keep hb h.d0, cell_keep hb h.d1, h.rowD.on hb⟩
end
theorem bf0 (c : Int) (a : Option Addr) (n k : Nat) (w : World) : Sem.run Tryd.prog (Instr.field 44 (.agg #[.int .i64 c, .slice a n k]) 0) w = .ok (.int .i64 c) w := by kernel_rfl
theorem bf1 (c : Int) (a : Option Addr) (n k : Nat) (w : World) : Sem.run Tryd.prog (Instr.field 44 (.agg #[.int .i64 c, .slice a n k]) 1) w = .ok (.slice a n k) w := by kernel_rfl
theorem sf0 (a b c : Int) (w : World) : Sem.run Tryd.prog (Instr.field 51 (.agg #[.int .i64 a, .int .i64 b, .int .i64 c]) 0) w = .ok (.int .i64 a) w := by kernel_rfl
theorem sf1 (a b c : Int) (w : World) : Sem.run Tryd.prog (Instr.field 51 (.agg #[.int .i64 a, .int .i64 b, .int .i64 c]) 1) w = .ok (.agg #[.int .i64 b, .int .i64 c]) w := by kernel_rfl
set_option maxHeartbeats 4000000 in
set_option maxRecDepth 100000 in
theorem walk (a0 : Option Addr) (len0 cap0 : Nat) (z0 : List Int) (w : World) (w0 : Row .u8 w w.heap.size a0 len0 cap0 z0) (ert : ErrT w) :
    Calls Tryd.prog 5 #[.slice a0 len0 cap0] w fun e w' => e = .returned (.bool true) ∧ Below w.heap.size w w' := by
  have hl := w0.fits
  have hm := w0.most
  unfold maxLen at hm
  by_cases hbig : 1048576 < len0
  · have hB : decide (1048576 < len0) = true := by simp [hbig]
    go_enter Tryd.func5, Tryd.ntmps5
    go_wp2_with fail
    refine (lwBig_any _ _ _ _ (by omega)).mono ?_
    rintro r w' ⟨rfl, rfl⟩
    go_wp2_with fail
    go_ret
    exact ⟨rfl, Below.refl _ _⟩
  have hB : decide (1048576 < len0) = false := by simp [hbig]
  have e0 := bf0
  have e1 := bf1
  have e2 := sf0
  have e3 := sf1
  go_enter Tryd.func5, Tryd.ntmps5
  go_wp2_with fail
  refine (lwBig_any _ _ _ _ (by omega)).mono ?_
  rintro r w' ⟨rfl, rfl⟩
  go_wp2_with fail
  refine (DrawReadSign_any w0).mono ?_
  rintro r w1 ⟨aA, nA, cA, zA, rfl, RA, h1⟩
  have R1 := w0.on h1
  have S1 := fun a len cap B w hR hB => implReadSign_any a len cap B zA w hR hB
  have S2 := fun a len cap B w hR hB => specReadSign_any a len cap B zA w hR hB
  have FA : ((M.readR zA).1 = 5) ∨ ((M.readR zA).1 = 0 ∧ M.sigB (M.readR zA).2.1 (M.readR zA).2.2 = true ∧ M.packL (M.readR zA).2.1 (M.readR zA).2.2 = zA) := by
    cases h : M.readB zA
    · exact .inl (by rw [readR_no h])
    · rw [readR_yes h]
      refine .inr ⟨rfl, ?_, M.pack_read (fun z hz => ?_) h⟩
      · simp only [M.readB, Bool.and_eq_true] at h; exact h.2
      · have := RA.wf z hz
        simp [Lit.wf, IntKind.min, IntKind.max, IntKind.signed, IntKind.bits] at this
        unfold M.byteB
        omega
  generalize (M.readR zA).1 = rc at *
  generalize (M.readR zA).2.1 = rp at *
  generalize (M.readR zA).2.2 = rq at *
  have HA := Lib.hid FA
  clear FA
  go_wp2_with fail
  refine (S1 _ _ _ _ _ RA (Nat.le_refl _)).mono ?_
  rintro r w2 ⟨rfl, h2⟩
  have g2 := bal h2 (.cells #[.int .i64 rc, .int .i64 rp, .int .i64 rq] 51)
  have b0 : (w2.alloc (.cells #[.int .i64 rc, .int .i64 rp, .int .i64 rq] 51)).cell? ⟨w2.heap.size, 0, none⟩ = some (.int .i64 rc) := by go_simp
  have b1 : (w2.alloc (.cells #[.int .i64 rc, .int .i64 rp, .int .i64 rq] 51)).cell? ⟨w2.heap.size, 1, none⟩ = some (.int .i64 rp) := by go_simp
  have b2 : (w2.alloc (.cells #[.int .i64 rc, .int .i64 rp, .int .i64 rq] 51)).cell? ⟨w2.heap.size, 2, none⟩ = some (.int .i64 rq) := by go_simp
  have R2 := R1.on g2
  have A2 := RA.on g2
  have l2 := btr h1 g2
  clear R1 RA h1 h2 g2
  go_wp2_with fail
  generalize w2.alloc (.cells #[.int .i64 rc, .int .i64 rp, .int .i64 rq] 51) = v2 at *
  refine (DrawPackSign_any R2).mono ?_
  rintro r w3 ⟨p, q, rfl, h3⟩
  have g3 := bal h3 (.cells #[.int .i64 p, .int .i64 q] 49)
  have c0 : (w3.alloc (.cells #[.int .i64 p, .int .i64 q] 49)).cell? ⟨w3.heap.size, 0, none⟩ = some (.int .i64 p) := by go_simp
  have c1 : (w3.alloc (.cells #[.int .i64 p, .int .i64 q] 49)).cell? ⟨w3.heap.size, 1, none⟩ = some (.int .i64 q) := by go_simp
  have b0' := cell_keep g3 b0
  have b1' := cell_keep g3 b1
  have b2' := cell_keep g3 b2
  have A3 := A2.on g3
  have l3 := btr l2 g3
  clear R2 A2 h3 g3 b0 b1 b2 l2
  have P1 := fun w hg => implPackSign_any p q w hg
  have F1 := fun w hg => implSignFault_any p q w hg
  have F2 := fun w => specSignFault_any p q w
  have wD : ∀ z ∈ M.packL p q, (Lit.int .u8 z).wf = true := fun z hz => byte_wf (M.packL_byte p q z hz)
  have FD : (M.sigF p q = 3) ∨ (M.sigF p q = 0 ∧ M.readR (M.packL p q) = (0, p, q)) := by
    cases h : M.sigB p q
    · exact .inl (by simp [M.sigF, h])
    · exact .inr ⟨by simp [M.sigF, h], M.read_packed h⟩
  generalize M.sigF p q = dc at *
  generalize M.packL p q = zD at *
  have HD := Lib.hid FD
  have HW := Lib.hid wD
  clear FD wD
  go_wp2_with fail
  generalize w3.alloc (.cells #[.int .i64 p, .int .i64 q] 49) = v3 at *
  refine (P1 _ (ert.on l3)).mono ?_
  rintro r w4 ⟨aD, nD, cD, rfl, O4, h4⟩
  have g4 := bal h4 (.cells #[.int .i64 dc, .slice aD nD cD] 44)
  have S4 : St w aA nA cA zA w2.heap.size w3.heap.size w4.heap.size rc rp rq p q dc aD nD cD zD (w4.alloc (.cells #[.int .i64 dc, .slice aD nD cD] 44)) :=
    ⟨btr l3 g4, A3.on g4, cell_keep g4 b0', cell_keep g4 b1', cell_keep g4 b2', cell_keep g4 c0, cell_keep g4 c1, by go_simp, by go_simp, (Own.row O4 HW.out).on (bal (Below.refl _ _) _)⟩
  have S5 := S4.on (bdrew _)
  clear A3 h4 g4 O4 b0' b1' b2' c0 c1 l3 S4
  rcases HA.out with hc | ⟨hc, hsb, hpk⟩
  · have hdone := True.intro
    subst hc
    go_wp2_with fail
    refine wp_region_line (St w aA nA cA zA w2.heap.size w3.heap.size w4.heap.size 5 rp rq p q dc aD nD cD zD) [(0, true), (1, true), (2, true), (3, false), (4, true), (5, true), (6, true), (7, true), (8, true), (9, true), (10, true), (11, true), (12, true), (15, true), (13, false), (14, true), (16, false), (17, true), (18, true), (19, true), (20, true), (21, true), (22, true), (23, true), (24, false), (25, true), (26, true), (27, true), (28, true), (29, true), (30, true), (31, false), (32, true), (33, true)] (by kernel_rfl) (by kernel_rfl) (fun _ _ d _ _ h => by cases d <;> exact h) S5 ?_
    have hst := S5
    have inst : Nonempty (Of (St w aA nA cA zA w2.heap.size w3.heap.size w4.heap.size 5 rp rq p q dc aD nD cD zD)) := ⟨⟨_, hst⟩⟩
    have u0 : ∀ z : Of (St w aA nA cA zA w2.heap.size w3.heap.size w4.heap.size 5 rp rq p q dc aD nD cD zD), z.val.cell? ⟨w2.heap.size, 0, none⟩ = some (.int .i64 5) := fun z => z.prop.b0
    have u1 : ∀ z : Of (St w aA nA cA zA w2.heap.size w3.heap.size w4.heap.size 5 rp rq p q dc aD nD cD zD), z.val.cell? ⟨w2.heap.size, 1, none⟩ = some (.int .i64 rp) := fun z => z.prop.b1
    have u2 : ∀ z : Of (St w aA nA cA zA w2.heap.size w3.heap.size w4.heap.size 5 rp rq p q dc aD nD cD zD), z.val.cell? ⟨w2.heap.size, 2, none⟩ = some (.int .i64 rq) := fun z => z.prop.b2
    have u3 : ∀ z : Of (St w aA nA cA zA w2.heap.size w3.heap.size w4.heap.size 5 rp rq p q dc aD nD cD zD), z.val.cell? ⟨w3.heap.size, 0, none⟩ = some (.int .i64 p) := fun z => z.prop.c0
    have u4 : ∀ z : Of (St w aA nA cA zA w2.heap.size w3.heap.size w4.heap.size 5 rp rq p q dc aD nD cD zD), z.val.cell? ⟨w3.heap.size, 1, none⟩ = some (.int .i64 q) := fun z => z.prop.c1
    have u5 : ∀ z : Of (St w aA nA cA zA w2.heap.size w3.heap.size w4.heap.size 5 rp rq p q dc aD nD cD zD), z.val.cell? ⟨w4.heap.size, 0, none⟩ = some (.int .i64 dc) := fun z => z.prop.d0
    clear S5
    iterate 3 (refine line_read rfl (by kernel_rfl) (fun K hK => ?_); go_big_quiet_op; refine hK _ ?_; clear hK K)
    refine line_alone rfl (by kernel_rfl) (fun K hK => ?_)
    refine call_wp (args := #[.slice aA nA cA]) rfl (by kernel_rfl) (by kernel_rfl) (S2 _ _ _ _ _ hst.rowA (Nat.le_refl _)) (fun wn hbn => ?_)
    have hst2 := hst.on hbn
    refine hK _ _ hst2 ?_
    clear hK K hst hbn
    have hst := hst2
    clear hst2
    simp only [Act.put, List.setIfInBounds_toArray, List.set_cons_zero, List.set_cons_succ]
    iterate 7 (refine line_read rfl (by kernel_rfl) (fun K hK => ?_); go_big_quiet_op; refine hK _ ?_; clear hK K)
    iterate 7 (refine line_skip rfl (by kernel_rfl) ?_; simp only [Act.put, List.setIfInBounds_toArray, List.set_cons_zero, List.set_cons_succ])
    iterate 6 (refine line_read rfl (by kernel_rfl) (fun K hK => ?_); go_big_quiet_op; refine hK _ ?_; clear hK K)
    refine line_alone rfl (by kernel_rfl) (fun K hK => ?_)
    refine call_wp (args := #[I2 p q]) rfl (by kernel_rfl) (by kernel_rfl) (F1 _ (ert.on hst.bel)) (fun wn hbn => ?_)
    have hst2 := hst.on hbn
    refine hK _ _ hst2 ?_
    clear hK K hst hbn
    have hst := hst2
    clear hst2
    simp only [Act.put, List.setIfInBounds_toArray, List.set_cons_zero, List.set_cons_succ]
    iterate 6 (refine line_read rfl (by kernel_rfl) (fun K hK => ?_); go_big_quiet_op; refine hK _ ?_; clear hK K)
    refine line_alone rfl (by kernel_rfl) (fun K hK => ?_)
    refine call_wp (args := #[I2 p q]) rfl (by kernel_rfl) (by kernel_rfl) (F2 _) (fun wn hbn => ?_)
    have hst2 := hst.on hbn
    refine hK _ _ hst2 ?_
    clear hK K hst hbn
    have hst := hst2
    clear hst2
    simp only [Act.put, List.setIfInBounds_toArray, List.set_cons_zero, List.set_cons_succ]
    iterate 2 (refine line_read rfl (by kernel_rfl) (fun K hK => ?_); go_big_quiet_op; refine hK _ ?_; clear hK K)
    refine line_nil ?_
    clear inst u0 u1 u2 u3 u4 u5
    have k0 := hst.d0
    rcases HD.out with hd | ⟨hd, hr⟩
    · subst hd
      go_wp2_with fail
      have S9 := hst.on (bdrew _)
      refine wp_region_line (St w aA nA cA zA w2.heap.size w3.heap.size w4.heap.size 5 rp rq p q 3 aD nD cD zD) [(0, true), (1, true), (2, true), (3, true), (4, true), (5, true), (8, true), (6, false), (7, true), (9, true), (10, true), (11, true), (12, true), (13, false), (14, true), (15, true), (16, true), (17, true), (18, true)] (by kernel_rfl) (by kernel_rfl) (fun _ _ d _ _ h => by cases d <;> exact h) S9 ?_
      clear hst k0
      have hst := S9
      have inst : Nonempty (Of (St w aA nA cA zA w2.heap.size w3.heap.size w4.heap.size 5 rp rq p q 3 aD nD cD zD)) := ⟨⟨_, hst⟩⟩
      have u0 : ∀ z : Of (St w aA nA cA zA w2.heap.size w3.heap.size w4.heap.size 5 rp rq p q 3 aD nD cD zD), z.val.cell? ⟨w4.heap.size, 0, none⟩ = some (.int .i64 3) := fun z => z.prop.d0
      clear S9
      iterate 4 (refine line_read rfl (by kernel_rfl) (fun K hK => ?_); go_big_quiet_op; refine hK _ ?_; clear hK K)
      iterate 13 (refine line_skip rfl (by kernel_rfl) ?_; simp only [Act.put, List.setIfInBounds_toArray, List.set_cons_zero, List.set_cons_succ])
      iterate 2 (refine line_read rfl (by kernel_rfl) (fun K hK => ?_); go_big_quiet_op; refine hK _ ?_; clear hK K)
      refine line_nil ?_
      go_wp2_with fail
      go_ret
      exact ⟨rfl, hst.bel⟩
    · subst hd
      have RD := fun a len cap B w hR hB => implReadSign_any a len cap B zD w hR hB
      rw [hr] at RD
      simp only at RD
      clear hr
      go_wp2_with fail
      have S9 := hst.on (bdrew _)
      refine wp_region_line (St w aA nA cA zA w2.heap.size w3.heap.size w4.heap.size 5 rp rq p q 0 aD nD cD zD) [(0, true), (1, true), (2, true), (3, true), (4, true), (5, true), (8, true), (6, false), (7, true), (9, true), (10, true), (11, true), (12, true), (13, false), (14, true), (15, true), (16, true), (17, true), (18, true)] (by kernel_rfl) (by kernel_rfl) (fun _ _ d _ _ h => by cases d <;> exact h) S9 ?_
      clear hst k0
      have hst := S9
      have inst : Nonempty (Of (St w aA nA cA zA w2.heap.size w3.heap.size w4.heap.size 5 rp rq p q 0 aD nD cD zD)) := ⟨⟨_, hst⟩⟩
      have u0 : ∀ z : Of (St w aA nA cA zA w2.heap.size w3.heap.size w4.heap.size 5 rp rq p q 0 aD nD cD zD), z.val.cell? ⟨w4.heap.size, 0, none⟩ = some (.int .i64 0) := fun z => z.prop.d0
      have u1 : ∀ z : Of (St w aA nA cA zA w2.heap.size w3.heap.size w4.heap.size 5 rp rq p q 0 aD nD cD zD), z.val.cell? ⟨w4.heap.size, 1, none⟩ = some (.slice aD nD cD) := fun z => z.prop.d1
      have u2 : ∀ z : Of (St w aA nA cA zA w2.heap.size w3.heap.size w4.heap.size 5 rp rq p q 0 aD nD cD zD), z.val.cell? ⟨w3.heap.size, 0, none⟩ = some (.int .i64 p) := fun z => z.prop.c0
      have u3 : ∀ z : Of (St w aA nA cA zA w2.heap.size w3.heap.size w4.heap.size 5 rp rq p q 0 aD nD cD zD), z.val.cell? ⟨w3.heap.size, 1, none⟩ = some (.int .i64 q) := fun z => z.prop.c1
      clear S9
      iterate 7 (refine line_read rfl (by kernel_rfl) (fun K hK => ?_); go_big_quiet_op; refine hK _ ?_; clear hK K)
      refine line_alone rfl (by kernel_rfl) (fun K hK => ?_)
      refine call_wp (args := #[.slice aD nD cD]) rfl (by kernel_rfl) (by kernel_rfl) (RD _ _ _ _ _ hst.rowD (Nat.le_refl _)) (fun wn hbn => ?_)
      have hst2 := hst.on hbn
      refine hK _ _ hst2 ?_
      clear hK K hst hbn
      have hst := hst2
      clear hst2
      simp only [Act.put, List.setIfInBounds_toArray, List.set_cons_zero, List.set_cons_succ]
      iterate 5 (refine line_read rfl (by kernel_rfl) (fun K hK => ?_); go_big_quiet_op; refine hK _ ?_; clear hK K)
      refine line_alone rfl (by kernel_rfl) (fun K hK => ?_)
      refine call_wp (args := #[.slice aD nD cD]) rfl (by kernel_rfl) (by kernel_rfl) (RD _ _ _ _ _ hst.rowD (Nat.le_refl _)) (fun wn hbn => ?_)
      have hst2 := hst.on hbn
      refine hK _ _ hst2 ?_
      clear hK K hst hbn
      have hst := hst2
      clear hst2
      simp only [Act.put, List.setIfInBounds_toArray, List.set_cons_zero, List.set_cons_succ]
      iterate 5 (refine line_read rfl (by kernel_rfl) (fun K hK => ?_); go_big_quiet_op; refine hK _ ?_; clear hK K)
      refine line_nil ?_
      go_wp2_with fail
      go_ret
      exact ⟨rfl, hst.bel⟩
  · have PB := fun w hg => implPackSign_any rp rq w hg
    have hF : M.sigF rp rq = 0 := by simp [M.sigF, hsb]
    rw [hF, hpk] at PB
    have hwA := S5.rowA.wf
    have HWA := Lib.hid hwA
    clear hsb hpk hF hwA
    subst hc
    go_wp2_with fail
    refine wp_region_line (St w aA nA cA zA w2.heap.size w3.heap.size w4.heap.size 0 rp rq p q dc aD nD cD zD) [(0, true), (1, true), (2, true), (3, false), (4, true), (5, true), (6, true), (7, true), (8, true), (9, true), (10, true), (11, true), (12, true), (15, true), (13, false), (14, true), (16, false), (17, true), (18, true), (19, true), (20, true), (21, true), (22, true), (23, true), (24, false), (25, true), (26, true), (27, true), (28, true), (29, true), (30, true), (31, false), (32, true), (33, true)] (by kernel_rfl) (by kernel_rfl) (fun _ _ d _ _ h => by cases d <;> exact h) S5 ?_
    have hst := S5
    have inst : Nonempty (Of (St w aA nA cA zA w2.heap.size w3.heap.size w4.heap.size 0 rp rq p q dc aD nD cD zD)) := ⟨⟨_, hst⟩⟩
    have u0 : ∀ z : Of (St w aA nA cA zA w2.heap.size w3.heap.size w4.heap.size 0 rp rq p q dc aD nD cD zD), z.val.cell? ⟨w2.heap.size, 0, none⟩ = some (.int .i64 0) := fun z => z.prop.b0
    have u1 : ∀ z : Of (St w aA nA cA zA w2.heap.size w3.heap.size w4.heap.size 0 rp rq p q dc aD nD cD zD), z.val.cell? ⟨w2.heap.size, 1, none⟩ = some (.int .i64 rp) := fun z => z.prop.b1
    have u2 : ∀ z : Of (St w aA nA cA zA w2.heap.size w3.heap.size w4.heap.size 0 rp rq p q dc aD nD cD zD), z.val.cell? ⟨w2.heap.size, 2, none⟩ = some (.int .i64 rq) := fun z => z.prop.b2
    have u3 : ∀ z : Of (St w aA nA cA zA w2.heap.size w3.heap.size w4.heap.size 0 rp rq p q dc aD nD cD zD), z.val.cell? ⟨w3.heap.size, 0, none⟩ = some (.int .i64 p) := fun z => z.prop.c0
    have u4 : ∀ z : Of (St w aA nA cA zA w2.heap.size w3.heap.size w4.heap.size 0 rp rq p q dc aD nD cD zD), z.val.cell? ⟨w3.heap.size, 1, none⟩ = some (.int .i64 q) := fun z => z.prop.c1
    have u5 : ∀ z : Of (St w aA nA cA zA w2.heap.size w3.heap.size w4.heap.size 0 rp rq p q dc aD nD cD zD), z.val.cell? ⟨w4.heap.size, 0, none⟩ = some (.int .i64 dc) := fun z => z.prop.d0
    clear S5
    iterate 3 (refine line_read rfl (by kernel_rfl) (fun K hK => ?_); go_big_quiet_op; refine hK _ ?_; clear hK K)
    refine line_alone rfl (by kernel_rfl) (fun K hK => ?_)
    refine call_wp (args := #[.slice aA nA cA]) rfl (by kernel_rfl) (by kernel_rfl) (S2 _ _ _ _ _ hst.rowA (Nat.le_refl _)) (fun wn hbn => ?_)
    have hst2 := hst.on hbn
    refine hK _ _ hst2 ?_
    clear hK K hst hbn
    have hst := hst2
    clear hst2
    simp only [Act.put, List.setIfInBounds_toArray, List.set_cons_zero, List.set_cons_succ]
    iterate 10 (refine line_read rfl (by kernel_rfl) (fun K hK => ?_); go_big_quiet_op; refine hK _ ?_; clear hK K)
    refine line_alone rfl (by kernel_rfl) (fun K hK => ?_)
    refine call_any (args := #[I2 rp rq]) rfl (by kernel_rfl) (by kernel_rfl) (PB _ (ert.on hst.bel)) ?_
    rintro e wn ⟨aE, nE, cE, rfl, OE, hE⟩
    have hst2 := hst.on hE
    refine ⟨_, rfl, hK _ _ hst2 ?_⟩
    clear hK K hst
    have hst := hst2
    have RE := Own.row OE HWA.out
    clear hst2 OE hE
    simp only [Act.put, List.setIfInBounds_toArray, List.set_cons_zero, List.set_cons_succ]
    iterate 1 (refine line_read rfl (by kernel_rfl) (fun K hK => ?_); go_big_quiet_op; refine hK _ ?_; clear hK K)
    refine line_alone rfl (by kernel_rfl) (fun K hK => ?_)
    refine call_wp (args := #[.slice aE nE cE, .slice aA nA cA]) rfl (by kernel_rfl) (by kernel_rfl) (lwBytes_any RE hst.rowA) (fun wn hbn => ?_)
    subst hbn
    refine hK _ _ hst ?_
    clear hK K
    simp only [Act.put, List.setIfInBounds_toArray, List.set_cons_zero, List.set_cons_succ]
    clear RE
    iterate 7 (refine line_read rfl (by kernel_rfl) (fun K hK => ?_); go_big_quiet_op; refine hK _ ?_; clear hK K)
    refine line_alone rfl (by kernel_rfl) (fun K hK => ?_)
    refine call_wp (args := #[I2 p q]) rfl (by kernel_rfl) (by kernel_rfl) (F1 _ (ert.on hst.bel)) (fun wn hbn => ?_)
    have hst2 := hst.on hbn
    refine hK _ _ hst2 ?_
    clear hK K hst hbn
    have hst := hst2
    clear hst2
    simp only [Act.put, List.setIfInBounds_toArray, List.set_cons_zero, List.set_cons_succ]
    iterate 6 (refine line_read rfl (by kernel_rfl) (fun K hK => ?_); go_big_quiet_op; refine hK _ ?_; clear hK K)
    refine line_alone rfl (by kernel_rfl) (fun K hK => ?_)
    refine call_wp (args := #[I2 p q]) rfl (by kernel_rfl) (by kernel_rfl) (F2 _) (fun wn hbn => ?_)
    have hst2 := hst.on hbn
    refine hK _ _ hst2 ?_
    clear hK K hst hbn
    have hst := hst2
    clear hst2
    simp only [Act.put, List.setIfInBounds_toArray, List.set_cons_zero, List.set_cons_succ]
    iterate 2 (refine line_read rfl (by kernel_rfl) (fun K hK => ?_); go_big_quiet_op; refine hK _ ?_; clear hK K)
    refine line_nil ?_
    clear inst u0 u1 u2 u3 u4 u5
    have k0 := hst.d0
    rcases HD.out with hd | ⟨hd, hr⟩
    · subst hd
      go_wp2_with fail
      have S9 := hst.on (bdrew _)
      refine wp_region_line (St w aA nA cA zA w2.heap.size w3.heap.size w4.heap.size 0 rp rq p q 3 aD nD cD zD) [(0, true), (1, true), (2, true), (3, true), (4, true), (5, true), (8, true), (6, false), (7, true), (9, true), (10, true), (11, true), (12, true), (13, false), (14, true), (15, true), (16, true), (17, true), (18, true)] (by kernel_rfl) (by kernel_rfl) (fun _ _ d _ _ h => by cases d <;> exact h) S9 ?_
      clear hst k0
      have hst := S9
      have inst : Nonempty (Of (St w aA nA cA zA w2.heap.size w3.heap.size w4.heap.size 0 rp rq p q 3 aD nD cD zD)) := ⟨⟨_, hst⟩⟩
      have u0 : ∀ z : Of (St w aA nA cA zA w2.heap.size w3.heap.size w4.heap.size 0 rp rq p q 3 aD nD cD zD), z.val.cell? ⟨w4.heap.size, 0, none⟩ = some (.int .i64 3) := fun z => z.prop.d0
      clear S9
      iterate 4 (refine line_read rfl (by kernel_rfl) (fun K hK => ?_); go_big_quiet_op; refine hK _ ?_; clear hK K)
      iterate 13 (refine line_skip rfl (by kernel_rfl) ?_; simp only [Act.put, List.setIfInBounds_toArray, List.set_cons_zero, List.set_cons_succ])
      iterate 2 (refine line_read rfl (by kernel_rfl) (fun K hK => ?_); go_big_quiet_op; refine hK _ ?_; clear hK K)
      refine line_nil ?_
      go_wp2_with fail
      go_ret
      exact ⟨rfl, hst.bel⟩
    · subst hd
      have RD := fun a len cap B w hR hB => implReadSign_any a len cap B zD w hR hB
      rw [hr] at RD
      simp only at RD
      clear hr
      go_wp2_with fail
      have S9 := hst.on (bdrew _)
      refine wp_region_line (St w aA nA cA zA w2.heap.size w3.heap.size w4.heap.size 0 rp rq p q 0 aD nD cD zD) [(0, true), (1, true), (2, true), (3, true), (4, true), (5, true), (8, true), (6, false), (7, true), (9, true), (10, true), (11, true), (12, true), (13, false), (14, true), (15, true), (16, true), (17, true), (18, true)] (by kernel_rfl) (by kernel_rfl) (fun _ _ d _ _ h => by cases d <;> exact h) S9 ?_
      clear hst k0
      have hst := S9
      have inst : Nonempty (Of (St w aA nA cA zA w2.heap.size w3.heap.size w4.heap.size 0 rp rq p q 0 aD nD cD zD)) := ⟨⟨_, hst⟩⟩
      have u0 : ∀ z : Of (St w aA nA cA zA w2.heap.size w3.heap.size w4.heap.size 0 rp rq p q 0 aD nD cD zD), z.val.cell? ⟨w4.heap.size, 0, none⟩ = some (.int .i64 0) := fun z => z.prop.d0
      have u1 : ∀ z : Of (St w aA nA cA zA w2.heap.size w3.heap.size w4.heap.size 0 rp rq p q 0 aD nD cD zD), z.val.cell? ⟨w4.heap.size, 1, none⟩ = some (.slice aD nD cD) := fun z => z.prop.d1
      have u2 : ∀ z : Of (St w aA nA cA zA w2.heap.size w3.heap.size w4.heap.size 0 rp rq p q 0 aD nD cD zD), z.val.cell? ⟨w3.heap.size, 0, none⟩ = some (.int .i64 p) := fun z => z.prop.c0
      have u3 : ∀ z : Of (St w aA nA cA zA w2.heap.size w3.heap.size w4.heap.size 0 rp rq p q 0 aD nD cD zD), z.val.cell? ⟨w3.heap.size, 1, none⟩ = some (.int .i64 q) := fun z => z.prop.c1
      clear S9
      iterate 7 (refine line_read rfl (by kernel_rfl) (fun K hK => ?_); go_big_quiet_op; refine hK _ ?_; clear hK K)
      refine line_alone rfl (by kernel_rfl) (fun K hK => ?_)
      refine call_wp (args := #[.slice aD nD cD]) rfl (by kernel_rfl) (by kernel_rfl) (RD _ _ _ _ _ hst.rowD (Nat.le_refl _)) (fun wn hbn => ?_)
      have hst2 := hst.on hbn
      refine hK _ _ hst2 ?_
      clear hK K hst hbn
      have hst := hst2
      clear hst2
      simp only [Act.put, List.setIfInBounds_toArray, List.set_cons_zero, List.set_cons_succ]
      iterate 5 (refine line_read rfl (by kernel_rfl) (fun K hK => ?_); go_big_quiet_op; refine hK _ ?_; clear hK K)
      refine line_alone rfl (by kernel_rfl) (fun K hK => ?_)
      refine call_wp (args := #[.slice aD nD cD]) rfl (by kernel_rfl) (by kernel_rfl) (RD _ _ _ _ _ hst.rowD (Nat.le_refl _)) (fun wn hbn => ?_)
      have hst2 := hst.on hbn
      refine hK _ _ hst2 ?_
      clear hK K hst hbn
      have hst := hst2
      clear hst2
      simp only [Act.put, List.setIfInBounds_toArray, List.set_cons_zero, List.set_cons_succ]
      iterate 5 (refine line_read rfl (by kernel_rfl) (fun K hK => ?_); go_big_quiet_op; refine hK _ ?_; clear hK K)
      refine line_nil ?_
      go_wp2_with fail
      go_ret
      exact ⟨rfl, hst.bel⟩

end Go.Proofs.YtkondaojikfbjaaDoor.fnPacked
