/- What was signed is taken by the public number of who signed it, and a proof that was turned is not, at every input that is drawn out of whatever bytes. The walk: the law's Go text answers true and turns nothing that was there. Conditions: as the theorem states. -/
import Derived.Test.YtjlhldndomaknaaDoorD3b
import Derived.WalkKit
import Derived.Below
namespace Go.Proofs.YtjlhldndomaknaaDoor.fnSigns
open Go.RowKit
set_option linter.unusedVariables false

/-- What stays so while the law goes on: the signature that was made lies at block gb, the one that was drawn at block xb. -/
structure St (w : World) (gb xb : Nat) (c P R xp xq : Int) (cur : World) : Prop where
  bel : Below w.heap.size w cur
  g0 : cur.cell? ⟨gb, 0, none⟩ = some (.int .i64 c)
  g1 : cur.cell? ⟨gb, 1, none⟩ = some (.int .i64 P)
  g2 : cur.cell? ⟨gb, 2, none⟩ = some (.int .i64 R)
  x0 : cur.cell? ⟨xb, 0, none⟩ = some (.int .i64 xp)
  x1 : cur.cell? ⟨xb, 1, none⟩ = some (.int .i64 xq)
theorem St.on {w : World} {gb xb : Nat} {c P R xp xq : Int} {cur cur' : World} (h : St w gb xb c P R xp xq cur) (hb : Below cur.heap.size cur cur') : St w gb xb c P R xp xq cur' :=
  ⟨btr h.bel hb, cell_keep hb h.g0, cell_keep hb h.g1, cell_keep hb h.g2, cell_keep hb h.x0, cell_keep hb h.x1⟩
structure St2 (w : World) (gb xb yb : Nat) (c P R xp xq yp yq : Int) (cur : World) : Prop where
  st : St w gb xb c P R xp xq cur
  y0 : cur.cell? ⟨yb, 0, none⟩ = some (.int .i64 yp)
  y1 : cur.cell? ⟨yb, 1, none⟩ = some (.int .i64 yq)
theorem St2.on {w : World} {gb xb yb : Nat} {c P R xp xq yp yq : Int} {cur cur' : World} (h : St2 w gb xb yb c P R xp xq yp yq cur) (hb : Below cur.heap.size cur cur') : St2 w gb xb yb c P R xp xq yp yq cur' :=
  ⟨h.st.on hb, cell_keep hb h.y0, cell_keep hb h.y1⟩
theorem sf0 (a b c : Int) (w : World) : Sem.run Tryd.prog (Instr.field 51 (.agg #[.int .i64 a, .int .i64 b, .int .i64 c]) 0) w = .ok (.int .i64 a) w := by kernel_rfl
theorem kr1 (a b c : Int) (w : World) : Sem.run Tryd.prog (Instr.field 61 (.agg #[.int .i64 a, .int .i64 b, .int .i64 c]) 1) w = .ok (.agg #[.int .i64 b, .int .i64 c]) w := by kernel_rfl
set_option maxHeartbeats 4000000 in
set_option maxRecDepth 100000 in
theorem walk (a0 : Option Addr) (len0 cap0 : Nat) (z0 : List Int) (w : World) (w0 : Row .u8 w w.heap.size a0 len0 cap0 z0) (lab : Labels w) (ert : ErrT w) :
    Calls Tryd.prog 4 #[.slice a0 len0 cap0] w fun e w' => e = .returned (.bool true) ∧ Below w.heap.size w w' := by
  have hl := w0.fits
  have hm := w0.most
  unfold maxLen at hm
  by_cases hbig : 1048576 < len0
  · have hB : decide (1048576 < len0) = true := by simp [hbig]
    go_enter Tryd.func4, Tryd.ntmps4
    go_wp2_with fail
    refine (lwBig_any _ _ _ _ (by omega)).mono ?_
    rintro r w' ⟨rfl, rfl⟩
    go_wp2_with fail
    go_ret
    exact ⟨rfl, Below.refl _ _⟩
  have hB : decide (1048576 < len0) = false := by simp [hbig]
  have f0 := fld0
  have f1 := fld1
  go_enter Tryd.func4, Tryd.ntmps4
  go_wp2_with fail
  refine (lwBig_any _ _ _ _ (by omega)).mono ?_
  rintro r w' ⟨rfl, rfl⟩
  go_wp2_with fail
  refine (DrawSignSum_any w0).mono ?_
  rintro r w1 ⟨s, t, rfl, h1⟩
  have R1 := w0.on h1
  have SS := fun w => specSignSum_any s t w
  have SI := fun w hL hg => implSignSum_any s t w hL hg
  have FF : ((M.signR s t).1 = 3) ∨ ((M.signR s t).1 = 0 ∧ inB s 1 1438 = true ∧ M.sumB t = true ∧ (M.signR s t).2.1 = M.sigPt s t ∧ (M.signR s t).2.2 = M.sigPr s t) := by
    cases h : (inB s 1 1438 && M.sumB t)
    · have E : M.signR s t = (3, 0, 0) := by simp only [M.signR, h]; rfl
      exact .inl (by rw [E])
    · have E : M.signR s t = (0, M.sigPt s t, M.sigPr s t) := by simp only [M.signR, h]; rfl
      obtain ⟨hs, ht⟩ := signer_split h
      exact .inr ⟨by rw [E], hs, ht, by rw [E], by rw [E]⟩
  generalize (M.signR s t).1 = c at *
  generalize (M.signR s t).2.1 = P at *
  generalize (M.signR s t).2.2 = R at *
  have HF := Lib.hid FF
  clear FF
  go_wp2_with fail
  refine (SI w1 (lab.on h1) (ert.on h1)).mono ?_
  rintro r w2 ⟨rfl, h2⟩
  have b2 := bal (btr h1 h2) (.cells #[.int .i64 c, .int .i64 P, .int .i64 R] 51)
  have k0 : (w2.alloc (.cells #[.int .i64 c, .int .i64 P, .int .i64 R] 51)).cell? ⟨w2.heap.size, 0, none⟩ = some (.int .i64 c) := by go_simp
  have k1 : (w2.alloc (.cells #[.int .i64 c, .int .i64 P, .int .i64 R] 51)).cell? ⟨w2.heap.size, 1, none⟩ = some (.int .i64 P) := by go_simp
  have k2 : (w2.alloc (.cells #[.int .i64 c, .int .i64 P, .int .i64 R] 51)).cell? ⟨w2.heap.size, 2, none⟩ = some (.int .i64 R) := by go_simp
  have R2 := w0.on b2
  clear R1 h1 h2 SI
  go_wp2_with fail
  generalize w2.alloc (.cells #[.int .i64 c, .int .i64 P, .int .i64 R] 51) = v2 at *
  refine (DrawCheckSign_any R2).mono ?_
  rintro r w3 ⟨cp, ct, xp, xq, rfl, h3⟩
  have b3' := bal h3 (.cells #[.int .i64 xp, .int .i64 xq] 49)
  have S3 : St w w2.heap.size w3.heap.size c P R xp xq (w3.alloc (.cells #[.int .i64 xp, .int .i64 xq] 49)) :=
    ⟨btr b2 b3', cell_keep b3' k0, cell_keep b3' k1, cell_keep b3' k2, by go_simp, by go_simp⟩
  have R3 := R2.on b3'
  clear R2 h3 b3' k0 k1 k2 b2
  go_wp2_with fail
  generalize w3.alloc (.cells #[.int .i64 xp, .int .i64 xq] 49) = v3 at *
  refine (DrawNonceOf_any R3).mono ?_
  rintro r w4 ⟨na, nb, rfl, h4⟩
  have S4 := (S3.on h4).on (bdrew _)
  have C1 := fun w hL => implCheckSign_any cp ct xp xq w hL
  have C2 := fun w => specCheckSign_any cp ct xp xq w
  have N1 := fun w hL hg => implNonceOf_any na nb w hL hg
  have N2 := fun w => specNonceOf_any na nb w
  generalize M.checkB cp ct xp xq = cb at *
  generalize (M.nonceR na nb).1 = n1 at *
  generalize (M.nonceR na nb).2 = n2 at *
  clear S3 R3 h4
  go_wp2_with fail
  refine wp_region_line (St w w2.heap.size w3.heap.size c P R xp xq) [(0, true), (1, true), (2, true), (4, true), (5, true), (6, true), (3, false), (7, false), (8, true), (9, true), (10, true), (11, true), (14, true), (15, true), (12, false), (13, true), (16, false), (17, true), (18, true), (19, true), (20, true), (21, true), (22, true), (25, true), (26, true), (23, false), (24, true), (27, false), (28, true), (29, true), (30, true)] (by kernel_rfl) (by kernel_rfl) (fun _ _ d _ _ h => by cases d <;> exact h) S4 ?_
  have hst := S4
  have inst : Nonempty (Of (St w w2.heap.size w3.heap.size c P R xp xq)) := ⟨⟨_, hst⟩⟩
  have q0 : ∀ z : Of (St w w2.heap.size w3.heap.size c P R xp xq), z.val.cell? ⟨w3.heap.size, 0, none⟩ = some (.int .i64 xp) := fun z => z.prop.x0
  have q1 : ∀ z : Of (St w w2.heap.size w3.heap.size c P R xp xq), z.val.cell? ⟨w3.heap.size, 1, none⟩ = some (.int .i64 xq) := fun z => z.prop.x1
  clear S4
  iterate 6 (refine line_read rfl (by kernel_rfl) (fun K hK => ?_); go_big_quiet_op; refine hK _ ?_; clear hK K)
  refine line_alone rfl (by kernel_rfl) (fun K hK => ?_)
  refine call_wp (args := #[.int .i64 cp, .int .i64 ct, I2 xp xq]) rfl (by kernel_rfl) (by kernel_rfl) (C1 _ (lab.on hst.bel)) (fun wn hbn => ?_)
  have hst2 := hst.on hbn
  refine hK _ _ hst2 ?_
  clear hK K hst hbn
  have hst := hst2
  clear hst2
  simp only [Act.put, List.setIfInBounds_toArray, List.set_cons_zero, List.set_cons_succ]
  refine line_alone rfl (by kernel_rfl) (fun K hK => ?_)
  refine call_wp (args := #[.int .i64 cp, .int .i64 ct, I2 xp xq]) rfl (by kernel_rfl) (by kernel_rfl) (C2 _) (fun wn hbn => ?_)
  have hst2 := hst.on hbn
  refine hK _ _ hst2 ?_
  clear hK K hst hbn
  have hst := hst2
  clear hst2
  simp only [Act.put, List.setIfInBounds_toArray, List.set_cons_zero, List.set_cons_succ]
  iterate 6 (refine line_read rfl (by kernel_rfl) (fun K hK => ?_); go_big_quiet_op; refine hK _ ?_; clear hK K)
  refine line_alone rfl (by kernel_rfl) (fun K hK => ?_)
  refine call_wp (args := #[.int .i64 na, .int .i64 nb]) rfl (by kernel_rfl) (by kernel_rfl) (N1 _ (lab.on hst.bel) (ert.on hst.bel)) (fun wn hbn => ?_)
  have hst2 := hst.on hbn
  refine hK _ _ hst2 ?_
  clear hK K hst hbn
  have hst := hst2
  clear hst2
  simp only [Act.put, List.setIfInBounds_toArray, List.set_cons_zero, List.set_cons_succ]
  iterate 1 (refine line_read rfl (by kernel_rfl) (fun K hK => ?_); go_big_quiet_op; refine hK _ ?_; clear hK K)
  refine line_alone rfl (by kernel_rfl) (fun K hK => ?_)
  refine call_wp (args := #[.int .i64 na, .int .i64 nb]) rfl (by kernel_rfl) (by kernel_rfl) (N2 _) (fun wn hbn => ?_)
  have hst2 := hst.on hbn
  refine hK _ _ hst2 ?_
  clear hK K hst hbn
  have hst := hst2
  clear hst2
  simp only [Act.put, List.setIfInBounds_toArray, List.set_cons_zero, List.set_cons_succ]
  iterate 8 (refine line_read rfl (by kernel_rfl) (fun K hK => ?_); go_big_quiet_op; refine hK _ ?_; clear hK K)
  refine line_alone rfl (by kernel_rfl) (fun K hK => ?_)
  refine call_wp (args := #[.int .i64 na, .int .i64 nb]) rfl (by kernel_rfl) (by kernel_rfl) (N1 _ (lab.on hst.bel) (ert.on hst.bel)) (fun wn hbn => ?_)
  have hst2 := hst.on hbn
  refine hK _ _ hst2 ?_
  clear hK K hst hbn
  have hst := hst2
  clear hst2
  simp only [Act.put, List.setIfInBounds_toArray, List.set_cons_zero, List.set_cons_succ]
  iterate 1 (refine line_read rfl (by kernel_rfl) (fun K hK => ?_); go_big_quiet_op; refine hK _ ?_; clear hK K)
  refine line_alone rfl (by kernel_rfl) (fun K hK => ?_)
  refine call_wp (args := #[.int .i64 na, .int .i64 nb]) rfl (by kernel_rfl) (by kernel_rfl) (N2 _) (fun wn hbn => ?_)
  have hst2 := hst.on hbn
  refine hK _ _ hst2 ?_
  clear hK K hst hbn
  have hst := hst2
  clear hst2
  simp only [Act.put, List.setIfInBounds_toArray, List.set_cons_zero, List.set_cons_succ]
  iterate 3 (refine line_read rfl (by kernel_rfl) (fun K hK => ?_); go_big_quiet_op; refine hK _ ?_; clear hK K)
  refine line_nil ?_
  clear C1 C2 N1 N2 inst q0 q1
  have k0 := hst.g0
  rcases HF.out with hc | ⟨hc, hs, ht, hP, hR⟩
  · subst hc
    have e0 := sf0
    go_wp2_with fail
    have S5 := hst.on (bdrew _)
    refine wp_region_line (St w w2.heap.size w3.heap.size 3 P R xp xq) [(0, true), (1, true), (4, true), (5, true), (2, false), (3, true), (6, true), (7, true)] (by kernel_rfl) (by kernel_rfl) (fun _ _ d _ _ h => by cases d <;> exact h) S5 ?_
    clear hst k0
    have hst := S5
    have inst : Nonempty (Of (St w w2.heap.size w3.heap.size 3 P R xp xq)) := ⟨⟨_, hst⟩⟩
    have q0 : ∀ z : Of (St w w2.heap.size w3.heap.size 3 P R xp xq), z.val.cell? ⟨w2.heap.size, 0, none⟩ = some (.int .i64 3) := fun z => z.prop.g0
    clear S5
    iterate 4 (refine line_read rfl (by kernel_rfl) (fun K hK => ?_); go_big_quiet_op; refine hK _ ?_; clear hK K)
    refine line_alone rfl (by kernel_rfl) (fun K hK => ?_)
    refine call_wp (args := #[.int .i64 s, .int .i64 t]) rfl (by kernel_rfl) (by kernel_rfl) (SS _) (fun wn hbn => ?_)
    have hst2 := hst.on hbn
    refine hK _ _ hst2 ?_
    clear hK K hst hbn
    have hst := hst2
    clear hst2
    simp only [Act.put, List.setIfInBounds_toArray, List.set_cons_zero, List.set_cons_succ]
    iterate 3 (refine line_read rfl (by kernel_rfl) (fun K hK => ?_); go_big_quiet_op; refine hK _ ?_; clear hK K)
    refine line_nil ?_
    go_wp2_with fail
    go_ret
    exact ⟨rfl, hst.bel⟩
  · subst hc
    have hsb : M.sigB P R = true := by rw [hP, hR]; exact M.sigB_signed s t
    have hF : M.sigF P R = 0 := by simp [M.sigF, hsb]
    obtain ⟨-, -, r0, r1⟩ := M.sigB_bd hsb
    have hs' := hs
    simp only [inB, decide_eq_true_eq] at hs'
    have hK : keyR s = (0, s, M.pubN s) := by simp [keyR, hs]; rfl
    have hT1 : M.checkB (M.pubN s) t P R = true := by rw [hP, hR]; exact M.checked hs ht
    have hT2 : M.checkB (M.pubN s) t P ((R + 1) % 1439) = false := by rw [hP, hR]; exact M.turned hs
    have A0 := fun w hg => implSignFault_any P R w hg
    have A1 := fun w hL => implCheckSign_any (M.pubN s) t P R w hL
    have A2 := fun w hL => implCheckSign_any (M.pubN s) t P ((R + 1) % 1439) w hL
    have K1 := fun w => implKeyOf_any s w
    rw [hF] at A0
    rw [hT1] at A1
    rw [hT2] at A2
    rw [hK] at K1
    simp only at K1
    generalize M.pubN s = U at *
    clear hsb hF hK hT1 hT2 hs hs' ht hP hR HF
    have k1 := hst.g1
    have k2 := hst.g2
    have S5' : St2 w w2.heap.size w3.heap.size wn.heap.size 0 P R xp xq P ((R + 1) % 1439) (wn.alloc (.cells #[.int .i64 P, .int .i64 ((R + 1) % 1439)] 49)) :=
      ⟨hst.on (bal (Below.refl _ _) _), by go_simp, by go_simp⟩
    have S5 := S5'.on (bdrew _)
    have e1 := kr1
    have e2 := kf1
    clear S5' hst
    go_wp2_with fail
    refine wp_region_line (St2 w w2.heap.size w3.heap.size wn.heap.size 0 P R xp xq P ((R + 1) % 1439)) [(0, true), (1, true), (2, false), (3, true), (4, true), (5, true), (9, true), (10, true), (11, true), (6, false), (7, true), (8, true), (12, false), (13, true), (14, true), (15, true), (19, true), (20, true), (16, false), (17, true), (18, true), (21, false), (22, true), (23, true), (24, true), (25, true), (26, true), (27, true), (28, false), (29, true), (30, true), (31, true)] (by kernel_rfl) (by kernel_rfl) (fun _ _ d _ _ h => by cases d <;> exact h) S5 ?_
    clear k0 k1 k2
    have hst := S5
    have inst : Nonempty (Of (St2 w w2.heap.size w3.heap.size wn.heap.size 0 P R xp xq P ((R + 1) % 1439))) := ⟨⟨_, hst⟩⟩
    have q0 : ∀ z : Of (St2 w w2.heap.size w3.heap.size wn.heap.size 0 P R xp xq P ((R + 1) % 1439)), z.val.cell? ⟨w2.heap.size, 0, none⟩ = some (.int .i64 0) := fun z => z.prop.st.g0
    have q1 : ∀ z : Of (St2 w w2.heap.size w3.heap.size wn.heap.size 0 P R xp xq P ((R + 1) % 1439)), z.val.cell? ⟨w2.heap.size, 1, none⟩ = some (.int .i64 P) := fun z => z.prop.st.g1
    have q2 : ∀ z : Of (St2 w w2.heap.size w3.heap.size wn.heap.size 0 P R xp xq P ((R + 1) % 1439)), z.val.cell? ⟨w2.heap.size, 2, none⟩ = some (.int .i64 R) := fun z => z.prop.st.g2
    have q3 : ∀ z : Of (St2 w w2.heap.size w3.heap.size wn.heap.size 0 P R xp xq P ((R + 1) % 1439)), z.val.cell? ⟨wn.heap.size, 0, none⟩ = some (.int .i64 P) := fun z => z.prop.y0
    have q4 : ∀ z : Of (St2 w w2.heap.size w3.heap.size wn.heap.size 0 P R xp xq P ((R + 1) % 1439)), z.val.cell? ⟨wn.heap.size, 1, none⟩ = some (.int .i64 ((R + 1) % 1439)) := fun z => z.prop.y1
    clear S5
    generalize (wn.alloc (.cells #[.int .i64 P, .int .i64 ((R + 1) % 1439)] 49)).drew = V at *
    iterate 2 (refine line_read rfl (by kernel_rfl) (fun K hK => ?_); go_big_quiet_op; refine hK _ ?_; clear hK K)
    refine line_alone rfl (by kernel_rfl) (fun K hK => ?_)
    refine call_wp (args := #[I2 P R]) rfl (by kernel_rfl) (by kernel_rfl) (A0 _ (ert.on hst.st.bel)) (fun wn hbn => ?_)
    have hst2 := hst.on hbn
    refine hK _ _ hst2 ?_
    clear hK K hst hbn
    have hst := hst2
    clear hst2
    simp only [Act.put, List.setIfInBounds_toArray, List.set_cons_zero, List.set_cons_succ]
    iterate 6 (refine line_read rfl (by kernel_rfl) (fun K hK => ?_); go_big_quiet_op; refine hK _ ?_; clear hK K)
    refine line_alone rfl (by kernel_rfl) (fun K hK => ?_)
    refine call_wp (args := #[.int .i64 s]) rfl (by kernel_rfl) (by kernel_rfl) (K1 _) (fun wn hbn => ?_)
    have hst2 := hst.on hbn
    refine hK _ _ hst2 ?_
    clear hK K hst hbn
    have hst := hst2
    clear hst2
    simp only [Act.put, List.setIfInBounds_toArray, List.set_cons_zero, List.set_cons_succ]
    iterate 2 (refine line_read rfl (by kernel_rfl) (fun K hK => ?_); go_big_quiet_op; refine hK _ ?_; clear hK K)
    refine line_alone rfl (by kernel_rfl) (fun K hK => ?_)
    refine call_wp (args := #[.int .i64 U, .int .i64 t, I2 P R]) rfl (by kernel_rfl) (by kernel_rfl) (A1 _ (lab.on hst.st.bel)) (fun wn hbn => ?_)
    have hst2 := hst.on hbn
    refine hK _ _ hst2 ?_
    clear hK K hst hbn
    have hst := hst2
    clear hst2
    simp only [Act.put, List.setIfInBounds_toArray, List.set_cons_zero, List.set_cons_succ]
    iterate 5 (refine line_read rfl (by kernel_rfl) (fun K hK => ?_); go_big_quiet_op; refine hK _ ?_; clear hK K)
    refine line_alone rfl (by kernel_rfl) (fun K hK => ?_)
    refine call_wp (args := #[.int .i64 s]) rfl (by kernel_rfl) (by kernel_rfl) (K1 _) (fun wn hbn => ?_)
    have hst2 := hst.on hbn
    refine hK _ _ hst2 ?_
    clear hK K hst hbn
    have hst := hst2
    clear hst2
    simp only [Act.put, List.setIfInBounds_toArray, List.set_cons_zero, List.set_cons_succ]
    iterate 2 (refine line_read rfl (by kernel_rfl) (fun K hK => ?_); go_big_quiet_op; refine hK _ ?_; clear hK K)
    refine line_alone rfl (by kernel_rfl) (fun K hK => ?_)
    refine call_wp (args := #[.int .i64 U, .int .i64 t, I2 P ((R + 1) % 1439)]) rfl (by kernel_rfl) (by kernel_rfl) (A2 _ (lab.on hst.st.bel)) (fun wn hbn => ?_)
    have hst2 := hst.on hbn
    refine hK _ _ hst2 ?_
    clear hK K hst hbn
    have hst := hst2
    clear hst2
    simp only [Act.put, List.setIfInBounds_toArray, List.set_cons_zero, List.set_cons_succ]
    iterate 6 (refine line_read rfl (by kernel_rfl) (fun K hK => ?_); go_big_quiet_op; refine hK _ ?_; clear hK K)
    refine line_alone rfl (by kernel_rfl) (fun K hK => ?_)
    refine call_wp (args := #[.int .i64 s, .int .i64 t]) rfl (by kernel_rfl) (by kernel_rfl) (SS _) (fun wn hbn => ?_)
    have hst2 := hst.on hbn
    refine hK _ _ hst2 ?_
    clear hK K hst hbn
    have hst := hst2
    clear hst2
    simp only [Act.put, List.setIfInBounds_toArray, List.set_cons_zero, List.set_cons_succ]
    iterate 3 (refine line_read rfl (by kernel_rfl) (fun K hK => ?_); go_big_quiet_op; refine hK _ ?_; clear hK K)
    refine line_nil ?_
    go_wp2_with fail
    go_ret
    exact ⟨rfl, hst.st.bel⟩

end Go.Proofs.YtjlhldndomaknaaDoor.fnSigns
