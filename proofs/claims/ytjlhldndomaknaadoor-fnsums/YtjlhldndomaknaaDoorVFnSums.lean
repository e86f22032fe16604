/- A derived number hangs on its secret and its label alone; a stream begins as a shorter one, at every input that is drawn out of whatever bytes. The walk: the law's Go text answers true and turns nothing that was there. Conditions: as the theorem states. -/
import Derived.Test.YtjlhldndomaknaaDoorC2f
import Derived.Test.YtjlhldndomaknaaDoorD2b
import Derived.Test.YtjlhldndomaknaaDoorL0
import Derived.Test.YtjlhldndomaknaaDoorLine
import Derived.WalkKit
import Derived.Below
namespace Go.Proofs.YtjlhldndomaknaaDoor.fnSums
open Go.RowKit
set_option linter.unusedVariables false

theorem fld0 (a b : Int) (w : World) : Sem.run Tryd.prog (Instr.field 27 (.agg #[.int .i64 a, .int .i64 b]) 0) w = .ok (.int .i64 a) w := by kernel_rfl
theorem fld1 (a b : Int) (w : World) : Sem.run Tryd.prog (Instr.field 27 (.agg #[.int .i64 a, .int .i64 b]) 1) w = .ok (.int .i64 b) w := by kernel_rfl
theorem bfld0 (c : Int) (a : Option Addr) (n k : Nat) (w : World) : Sem.run Tryd.prog (Instr.field 44 (.agg #[.int .i64 c, .slice a n k]) 0) w = .ok (.int .i64 c) w := by kernel_rfl
theorem bfld1 (c : Int) (a : Option Addr) (n k : Nat) (w : World) : Sem.run Tryd.prog (Instr.field 44 (.agg #[.int .i64 c, .slice a n k]) 1) w = .ok (.slice a n k) w := by kernel_rfl

/-- What the law's walk carries from call to call. -/
structure St (w : World) (a0 : Option Addr) (len0 cap0 : Nat) (z0 : List Int) (pd px : Nat) (kd xd : Int × Int) (aT : Option Addr) (nT cT : Nat) (zT : List Int) (aH : Option Addr) (nH cH : Nat) (zH : List (List Int)) (aD : Option Addr) (nD cD : Nat) (zD : List Int) (cur : World) : Prop where
  bel : Below w.heap.size w cur
  lab : Labels cur
  code : Row .u8 cur cur.heap.size a0 len0 cap0 z0
  d0 : cur.cell? ⟨pd, 0, none⟩ = some (.int .i64 kd.1)
  d1 : cur.cell? ⟨pd, 1, none⟩ = some (.int .i64 kd.2)
  x0 : cur.cell? ⟨px, 0, none⟩ = some (.int .i64 xd.1)
  x1 : cur.cell? ⟨px, 1, none⟩ = some (.int .i64 xd.2)
  rT : Row .i64 cur cur.heap.size aT nT cT zT
  gH : Grid cur cur.heap.size aH nH cH zH
  rD : Row .u8 cur cur.heap.size aD nD cD zD
theorem St.on {w : World} {a0 : Option Addr} {len0 cap0 : Nat} {z0 : List Int} {pd px : Nat} {kd xd : Int × Int} {aT : Option Addr} {nT cT : Nat} {zT : List Int} {aH : Option Addr} {nH cH : Nat} {zH : List (List Int)} {aD : Option Addr} {nD cD : Nat} {zD : List Int} {cur cur' : World}
    (h : St w a0 len0 cap0 z0 pd px kd xd aT nT cT zT aH nH cH zH aD nD cD zD cur) (hb : Below cur.heap.size cur cur') : St w a0 len0 cap0 z0 pd px kd xd aT nT cT zT aH nH cH zH aD nD cD zD cur' :=
  ⟨btr h.bel hb, h.lab.on hb, h.code.on hb, cell_keep hb h.d0, cell_keep hb h.d1, cell_keep hb h.x0, cell_keep hb h.x1, h.rT.on hb, h.gH.on hb, h.rD.on hb⟩

structure St2 (w : World) (pS pQ : Nat) (aS : Option Addr) (m cS : Nat) (aQ : Option Addr) (q cQ : Nat) (key seq : Int) (cur : World) : Prop where
  bel : Below w.heap.size w cur
  s1 : cur.cell? ⟨pS, 1, none⟩ = some (.slice aS m cS)
  q1 : cur.cell? ⟨pQ, 1, none⟩ = some (.slice aQ q cQ)
  rS : Row .u8 cur cur.heap.size aS m cS (M.streamL key seq m)
  rQ : Row .u8 cur cur.heap.size aQ q cQ (M.streamL key seq q)
theorem St2.on {w : World} {pS pQ : Nat} {aS : Option Addr} {m cS : Nat} {aQ : Option Addr} {q cQ : Nat} {key seq : Int} {cur cur' : World} (h : St2 w pS pQ aS m cS aQ q cQ key seq cur) (hb : Below cur.heap.size cur cur') : St2 w pS pQ aS m cS aQ q cQ key seq cur' :=
  ⟨btr h.bel hb, cell_keep hb h.s1, cell_keep hb h.q1, h.rS.on hb, h.rQ.on hb⟩
theorem row_take {k : IntKind} {w : World} {B : Nat} {a : Option Addr} {len cap : Nat} {zs : List Int} (h : Row k w B a len cap zs) (n : Nat) (hn : n ≤ len) : Row k w B a n cap (zs.take n) :=
  ⟨by rw [List.length_take, h.length]; omega, fun z hz => h.wf z (List.mem_of_mem_take hz), Nat.le_trans hn h.fits, h.most, fun hp => by
    obtain ⟨b, off, e, hb, hc⟩ := h.cells (by omega)
    refine ⟨b, off, e, hb, fun j hj => ?_⟩
    rw [hc j (by omega)]
    simp [List.getD, hj]⟩
theorem stream_wf (key seq : Int) (n : Nat) : ∀ z ∈ M.streamL key seq n, (Lit.int .u8 z).wf = true := fun z hz => byte_wf (M.streamL_byte key seq n z hz)

set_option maxHeartbeats 4000000 in
set_option maxRecDepth 100000 in
theorem walk (a0 : Option Addr) (len0 cap0 : Nat) (z0 : List Int) (w : World) (w0 : Row .u8 w w.heap.size a0 len0 cap0 z0) (lab : Labels w) :
    Calls Tryd.prog 3 #[.slice a0 len0 cap0] w fun e w' => e = .returned (.bool true) ∧ Below w.heap.size w w' := by
  have hl := w0.fits
  have hm := w0.most
  unfold maxLen at hm
  by_cases hbig : 1048576 < len0
  · have hB : decide (1048576 < len0) = true := by simp [hbig]
    go_enter Tryd.func3, Tryd.ntmps3
    go_wp2_with fail
    refine (lwBig_any _ _ _ _ (by omega)).mono ?_
    rintro r w' ⟨rfl, rfl⟩
    go_wp2_with fail
    go_ret
    exact ⟨rfl, Below.refl _ _⟩
  have hB : decide (1048576 < len0) = false := by simp [hbig]
  have g0 := fld0
  have g1 := fld1
  have f0 := bfld0
  have f1 := bfld1
  go_enter Tryd.func3, Tryd.ntmps3
  go_wp2_with fail
  refine (lwBig_any _ _ _ _ (by omega)).mono ?_
  rintro r w' ⟨rfl, rfl⟩
  go_wp2_with fail
  refine (DrawDeriveKey_any w0).mono ?_
  rintro r w1 ⟨k, s, rfl, hs, b1⟩
  have hs2 : s.size ≤ maxLen := by simp only [maxLen]; omega
  go_wp2_with fail
  refine (implDeriveKey_any _ _ _ hs2).mono ?_
  rintro r w2 ⟨rfl, b2⟩
  have c2 := bal (btr b1 b2) (.cells #[.int .i64 (M.keyD k s).1, .int .i64 (M.keyD k s).2] 27)
  have R2 := w0.on c2
  have d0 : (w2.alloc (.cells #[.int .i64 (M.keyD k s).1, .int .i64 (M.keyD k s).2] 27)).cell? ⟨w2.heap.size, 0, none⟩ = some (.int .i64 (M.keyD k s).1) := by go_simp
  have d1 : (w2.alloc (.cells #[.int .i64 (M.keyD k s).1, .int .i64 (M.keyD k s).2] 27)).cell? ⟨w2.heap.size, 1, none⟩ = some (.int .i64 (M.keyD k s).2) := by go_simp
  clear b1 b2
  go_wp2_with fail
  generalize w2.alloc (.cells #[.int .i64 (M.keyD k s).1, .int .i64 (M.keyD k s).2] 27) = v2 at *
  refine (DrawTagSum_any R2).mono ?_
  rintro r w3 ⟨t, aT, nT, cT, zT, rfl, ht, rT, b3⟩
  have ht2 : t.size ≤ maxLen := by simp only [maxLen]; omega
  go_wp2_with fail
  refine (implTagSum_any _ _ _ _ _ _ _ ht2 rT (Nat.le_refl _)).mono ?_
  rintro r w4 ⟨rfl, b4⟩
  have e4 := bal b4 (.cells #[.int .i64 (M.tagR t zT).1, .int .i64 (M.tagR t zT).2] 27)
  have c4 := btr c2 (btr b3 e4)
  have R4 := w0.on c4
  have rT4 := rT.on e4
  have d04 := cell_keep (btr b3 e4) d0
  have d14 := cell_keep (btr b3 e4) d1
  have x0 : (w4.alloc (.cells #[.int .i64 (M.tagR t zT).1, .int .i64 (M.tagR t zT).2] 27)).cell? ⟨w4.heap.size, 0, none⟩ = some (.int .i64 (M.tagR t zT).1) := by go_simp
  have x1 : (w4.alloc (.cells #[.int .i64 (M.tagR t zT).1, .int .i64 (M.tagR t zT).2] 27)).cell? ⟨w4.heap.size, 1, none⟩ = some (.int .i64 (M.tagR t zT).2) := by go_simp
  clear b3 b4 e4 c2 R2 rT d0 d1
  go_wp2_with fail
  generalize w4.alloc (.cells #[.int .i64 (M.tagR t zT).1, .int .i64 (M.tagR t zT).2] 27) = v4 at *
  refine (DrawTranscript_any R4).mono ?_
  rintro r w5 ⟨aH, nH, cH, zH, rfl, gH, b5⟩
  have R5 := R4.on b5
  go_wp2_with fail
  refine (DrawSumOf_any R5).mono ?_
  rintro r w6 ⟨aD, nD, cD, zD, rfl, rD, b6⟩
  have b56 := btr b5 b6
  have S6 : St w a0 len0 cap0 z0 w2.heap.size w4.heap.size (M.keyD k s) (M.tagR t zT) aT nT cT zT aH nH cH zH aD nD cD zD w6 :=
    ⟨btr c4 b56, lab.on (btr c4 b56), R4.on b56, cell_keep b56 d04, cell_keep b56 d14, cell_keep b56 x0, cell_keep b56 x1, rT4.on b56, gH.on b6, rD⟩
  clear R4 R5 b5 b6 b56 c4 rT4 gH rD d04 d14 x0 x1
  go_wp2_with fail
  refine (DrawSameSum_any S6.code).mono ?_
  rintro r w7 ⟨u, v, rfl, b7⟩
  have hst := S6.on b7.drew
  clear S6 b7
  go_wp2_with fail
  simp only [List.append_eq, List.cons_append, List.nil_append]
  obtain ⟨J, hJ⟩ : ∃ J, J = St w a0 len0 cap0 z0 w2.heap.size w4.heap.size (M.keyD k s) (M.tagR t zT) aT nT cT zT aH nH cH zH aD nD cD zD := ⟨_, rfl⟩
  have q0 : ∀ x : Of J, x.val.cell? ⟨w2.heap.size, 0, none⟩ = some (.int .i64 (M.keyD k s).1) := by subst hJ; exact fun x => x.prop.d0
  have q1 : ∀ x : Of J, x.val.cell? ⟨w2.heap.size, 1, none⟩ = some (.int .i64 (M.keyD k s).2) := by subst hJ; exact fun x => x.prop.d1
  have q2 : ∀ x : Of J, x.val.cell? ⟨w4.heap.size, 0, none⟩ = some (.int .i64 (M.tagR t zT).1) := by subst hJ; exact fun x => x.prop.x0
  have q3 : ∀ x : Of J, x.val.cell? ⟨w4.heap.size, 1, none⟩ = some (.int .i64 (M.tagR t zT).2) := by subst hJ; exact fun x => x.prop.x1
  refine wp_region_line J [(0, true), (1, true), (2, true), (3, true), (4, false), (5, true), (6, true), (7, true), (8, true), (9, true), (10, true), (11, true), (12, false), (13, true), (14, true), (15, true), (16, true), (17, true), (20, true), (18, false), (19, true), (21, false), (22, true), (23, true), (24, true), (25, true), (26, true), (29, true), (27, false), (28, true), (30, false), (31, true), (32, true), (33, true), (34, true), (35, true), (38, true), (36, false), (37, true), (39, false), (40, true), (41, true), (42, true), (43, true), (44, true), (47, true), (45, false), (46, true), (48, false), (49, true), (50, true), (51, true), (52, true), (53, true), (54, true), (56, true), (57, true), (55, false), (58, false), (59, true), (60, true), (61, true), (62, true), (63, true), (64, true), (65, true), (66, false), (67, true), (68, true), (69, true), (70, true), (71, true), (72, true), (73, true), (74, true), (75, true), (76, true), (77, true), (78, true), (79, false), (80, false), (81, true), (82, true), (83, true), (84, true)] (by kernel_rfl) (by kernel_rfl) (fun _ _ d _ _ h => by cases d <;> exact h) (by rw [hJ]; exact hst) ?_
  rw [hJ] at q0 q1 q2 q3 ⊢
  clear hJ J
  have inst : Nonempty (Of (St w a0 len0 cap0 z0 w2.heap.size w4.heap.size (M.keyD k s) (M.tagR t zT) aT nT cT zT aH nH cH zH aD nD cD zD)) := ⟨⟨_, hst⟩⟩
  iterate 4 (refine line_read rfl (by kernel_rfl) (fun K hK => ?_); go_big_quiet_op; refine hK _ ?_; clear hK K)
  refine line_alone rfl (by kernel_rfl) (fun K hK => ?_)
  refine call_wp (args := #[.string t, .slice aT nT cT]) rfl (by kernel_rfl) (by kernel_rfl) (specTagSum_any _ _ _ _ _ _ _ ht2 hst.rT (Nat.le_refl _)) (fun wn hbn => ?_)
  have hst2 := hst.on hbn
  refine hK _ _ hst2 ?_
  clear hK K hst hbn
  have hst := hst2
  clear hst2
  simp only [Act.put, List.setIfInBounds_toArray, List.set_cons_zero, List.set_cons_succ]
  iterate 7 (refine line_read rfl (by kernel_rfl) (fun K hK => ?_); go_big_quiet_op; refine hK _ ?_; clear hK K)
  refine line_alone rfl (by kernel_rfl) (fun K hK => ?_)
  refine call_wp (args := #[.string t, .slice aT nT cT]) rfl (by kernel_rfl) (by kernel_rfl) (specTagSum_any _ _ _ _ _ _ _ ht2 hst.rT (Nat.le_refl _)) (fun wn hbn => ?_)
  have hst2 := hst.on hbn
  refine hK _ _ hst2 ?_
  clear hK K hst hbn
  have hst := hst2
  clear hst2
  simp only [Act.put, List.setIfInBounds_toArray, List.set_cons_zero, List.set_cons_succ]
  iterate 6 (refine line_read rfl (by kernel_rfl) (fun K hK => ?_); go_big_quiet_op; refine hK _ ?_; clear hK K)
  refine line_alone rfl (by kernel_rfl) (fun K hK => ?_)
  refine call_wp (args := #[.slice aH nH cH]) rfl (by kernel_rfl) (by kernel_rfl) (implTranscript_any _ _ _ _ _ _ hst.lab hst.gH (Nat.le_refl _)) (fun wn hbn => ?_)
  have hst2 := hst.on hbn
  refine hK _ _ hst2 ?_
  clear hK K hst hbn
  have hst := hst2
  clear hst2
  simp only [Act.put, List.setIfInBounds_toArray, List.set_cons_zero, List.set_cons_succ]
  iterate 1 (refine line_read rfl (by kernel_rfl) (fun K hK => ?_); go_big_quiet_op; refine hK _ ?_; clear hK K)
  refine line_alone rfl (by kernel_rfl) (fun K hK => ?_)
  refine call_wp (args := #[.slice aH nH cH]) rfl (by kernel_rfl) (by kernel_rfl) (specTranscript_any _ _ _ _ _ _ hst.gH (Nat.le_refl _)) (fun wn hbn => ?_)
  have hst2 := hst.on hbn
  refine hK _ _ hst2 ?_
  clear hK K hst hbn
  have hst := hst2
  clear hst2
  simp only [Act.put, List.setIfInBounds_toArray, List.set_cons_zero, List.set_cons_succ]
  iterate 6 (refine line_read rfl (by kernel_rfl) (fun K hK => ?_); go_big_quiet_op; refine hK _ ?_; clear hK K)
  refine line_alone rfl (by kernel_rfl) (fun K hK => ?_)
  refine call_wp (args := #[.slice aH nH cH]) rfl (by kernel_rfl) (by kernel_rfl) (implTranscript_any _ _ _ _ _ _ hst.lab hst.gH (Nat.le_refl _)) (fun wn hbn => ?_)
  have hst2 := hst.on hbn
  refine hK _ _ hst2 ?_
  clear hK K hst hbn
  have hst := hst2
  clear hst2
  simp only [Act.put, List.setIfInBounds_toArray, List.set_cons_zero, List.set_cons_succ]
  iterate 1 (refine line_read rfl (by kernel_rfl) (fun K hK => ?_); go_big_quiet_op; refine hK _ ?_; clear hK K)
  refine line_alone rfl (by kernel_rfl) (fun K hK => ?_)
  refine call_wp (args := #[.slice aH nH cH]) rfl (by kernel_rfl) (by kernel_rfl) (specTranscript_any _ _ _ _ _ _ hst.gH (Nat.le_refl _)) (fun wn hbn => ?_)
  have hst2 := hst.on hbn
  refine hK _ _ hst2 ?_
  clear hK K hst hbn
  have hst := hst2
  clear hst2
  simp only [Act.put, List.setIfInBounds_toArray, List.set_cons_zero, List.set_cons_succ]
  iterate 6 (refine line_read rfl (by kernel_rfl) (fun K hK => ?_); go_big_quiet_op; refine hK _ ?_; clear hK K)
  refine line_alone rfl (by kernel_rfl) (fun K hK => ?_)
  refine call_wp (args := #[.slice aD nD cD]) rfl (by kernel_rfl) (by kernel_rfl) (implSumOf_any _ _ _ _ _ _ hst.rD (Nat.le_refl _)) (fun wn hbn => ?_)
  have hst2 := hst.on hbn
  refine hK _ _ hst2 ?_
  clear hK K hst hbn
  have hst := hst2
  clear hst2
  simp only [Act.put, List.setIfInBounds_toArray, List.set_cons_zero, List.set_cons_succ]
  iterate 1 (refine line_read rfl (by kernel_rfl) (fun K hK => ?_); go_big_quiet_op; refine hK _ ?_; clear hK K)
  refine line_alone rfl (by kernel_rfl) (fun K hK => ?_)
  refine call_wp (args := #[.slice aD nD cD]) rfl (by kernel_rfl) (by kernel_rfl) (specSumOf_any _ _ _ _ _ _ hst.rD (Nat.le_refl _)) (fun wn hbn => ?_)
  have hst2 := hst.on hbn
  refine hK _ _ hst2 ?_
  clear hK K hst hbn
  have hst := hst2
  clear hst2
  simp only [Act.put, List.setIfInBounds_toArray, List.set_cons_zero, List.set_cons_succ]
  iterate 6 (refine line_read rfl (by kernel_rfl) (fun K hK => ?_); go_big_quiet_op; refine hK _ ?_; clear hK K)
  refine line_alone rfl (by kernel_rfl) (fun K hK => ?_)
  refine call_wp (args := #[.slice aD nD cD]) rfl (by kernel_rfl) (by kernel_rfl) (implSumOf_any _ _ _ _ _ _ hst.rD (Nat.le_refl _)) (fun wn hbn => ?_)
  have hst2 := hst.on hbn
  refine hK _ _ hst2 ?_
  clear hK K hst hbn
  have hst := hst2
  clear hst2
  simp only [Act.put, List.setIfInBounds_toArray, List.set_cons_zero, List.set_cons_succ]
  iterate 1 (refine line_read rfl (by kernel_rfl) (fun K hK => ?_); go_big_quiet_op; refine hK _ ?_; clear hK K)
  refine line_alone rfl (by kernel_rfl) (fun K hK => ?_)
  refine call_wp (args := #[.slice aD nD cD]) rfl (by kernel_rfl) (by kernel_rfl) (specSumOf_any _ _ _ _ _ _ hst.rD (Nat.le_refl _)) (fun wn hbn => ?_)
  have hst2 := hst.on hbn
  refine hK _ _ hst2 ?_
  clear hK K hst hbn
  have hst := hst2
  clear hst2
  simp only [Act.put, List.setIfInBounds_toArray, List.set_cons_zero, List.set_cons_succ]
  iterate 8 (refine line_read rfl (by kernel_rfl) (fun K hK => ?_); go_big_quiet_op; refine hK _ ?_; clear hK K)
  refine line_alone rfl (by kernel_rfl) (fun K hK => ?_)
  refine call_wp (args := #[.int .i64 u, .int .i64 v]) rfl (by kernel_rfl) (by kernel_rfl) (implSameSum_any _ _ _) (fun wn hbn => ?_)
  subst hbn
  refine hK _ _ hst ?_
  clear hK K
  simp only [Act.put, List.setIfInBounds_toArray, List.set_cons_zero, List.set_cons_succ]
  refine line_alone rfl (by kernel_rfl) (fun K hK => ?_)
  refine call_wp (args := #[.int .i64 u, .int .i64 v]) rfl (by kernel_rfl) (by kernel_rfl) (specSameSum_any _ _ _) (fun wn hbn => ?_)
  subst hbn
  refine hK _ _ hst ?_
  clear hK K
  simp only [Act.put, List.setIfInBounds_toArray, List.set_cons_zero, List.set_cons_succ]
  iterate 7 (refine line_read rfl (by kernel_rfl) (fun K hK => ?_); go_big_quiet_op; refine hK _ ?_; clear hK K)
  refine line_alone rfl (by kernel_rfl) (fun K hK => ?_)
  refine call_wp (args := #[.int .i64 k, .string s]) rfl (by kernel_rfl) (by kernel_rfl) (specDeriveKey_any _ _ _ hs2) (fun wn hbn => ?_)
  have hst2 := hst.on hbn
  refine hK _ _ hst2 ?_
  clear hK K hst hbn
  have hst := hst2
  clear hst2
  simp only [Act.put, List.setIfInBounds_toArray, List.set_cons_zero, List.set_cons_succ]
  iterate 6 (refine line_read rfl (by kernel_rfl) (fun K hK => ?_); go_big_quiet_op; refine hK _ ?_; clear hK K)
  cases hc : ((M.keyD k s).1 == 0)
  · iterate 2 (refine line_read rfl (by kernel_rfl) (fun K hK => ?_); go_big_quiet_op; refine hK _ ?_; clear hK K)
    iterate 8 (refine line_skip rfl (by kernel_rfl) ?_; simp only [Act.put, List.setIfInBounds_toArray, List.set_cons_zero, List.set_cons_succ])
    iterate 2 (refine line_read rfl (by kernel_rfl) (fun K hK => ?_); go_big_quiet_op; refine hK _ ?_; clear hK K)
    refine line_nil ?_
    go_wp2_with fail
    refine (DrawStreamOf_any hst.code).mono ?_
    rintro r x1 ⟨key, seq, n, rfl, e1⟩
    have S1 := hst.on e1
    clear hst e1 q0 q1 q2 q3 inst
    cases hS : M.strB key seq n
    · go_wp2_with fail
      refine (implStreamOf_no key seq n _ hS).mono ?_
      rintro r x2 ⟨aS, nS, cS, rfl, OS, e2⟩
      have c2 := bal (btr S1.bel e2) (.cells #[.int .i64 3, .slice aS nS cS] 44)
      have p0 : (x2.alloc (.cells #[.int .i64 3, .slice aS nS cS] 44)).cell? ⟨x2.heap.size, 0, none⟩ = some (.int .i64 3) := by go_simp
      clear OS e2 S1
      go_wp2_with fail
      generalize x2.alloc (.cells #[.int .i64 3, .slice aS nS cS] 44) = y2 at *
      refine wp_region_line (fun w' => Below w.heap.size w w' ∧ w'.cell? ⟨x2.heap.size, 0, none⟩ = some (.int .i64 3)) [(0, true), (1, true), (2, true), (5, true), (6, true), (3, false), (4, true), (7, true), (8, true)] (by kernel_rfl) (by kernel_rfl) (fun _ _ d _ _ h => by cases d <;> exact h) ⟨c2.drew, p0⟩ ?_
      have q9 : ∀ x : Of (fun w' => Below w.heap.size w w' ∧ w'.cell? ⟨x2.heap.size, 0, none⟩ = some (.int .i64 3)), x.val.cell? ⟨x2.heap.size, 0, none⟩ = some (.int .i64 3) := fun x => x.prop.2
      have inst : Nonempty (Of (fun w' => Below w.heap.size w w' ∧ w'.cell? ⟨x2.heap.size, 0, none⟩ = some (.int .i64 3))) := ⟨⟨y2, c2, p0⟩⟩
      iterate 5 (refine line_read rfl (by kernel_rfl) (fun K hK => ?_); go_big_quiet_op; refine hK _ ?_; clear hK K)
      refine line_alone rfl (by kernel_rfl) (fun K hK => ?_)
      refine call_any (args := #[.int .i64 key, .int .i64 seq, .int .i64 n]) rfl (by kernel_rfl) (by kernel_rfl) (specStreamOf_no key seq n _ hS) ?_
      rintro e x3 ⟨aZ, nZ, cZ, rfl, OZ, e3⟩
      have c3 := btr c2.drew e3
      refine ⟨_, rfl, hK _ _ ⟨c3, cell_keep e3 p0⟩ ?_⟩
      clear hK K OZ e3
      simp only [Act.put, List.setIfInBounds_toArray, List.set_cons_zero, List.set_cons_succ]
      iterate 3 (refine line_read rfl (by kernel_rfl) (fun K hK => ?_); go_big_quiet_op; refine hK _ ?_; clear hK K)
      refine line_nil ?_
      go_wp2_with fail
      go_ret
      exact ⟨rfl, c3⟩
    · obtain ⟨hk', hs', h0', h1'⟩ := strB_yes hS
      obtain ⟨m, rfl⟩ := Int.eq_ofNat_of_zero_le h0'
      clear hS
      go_wp2_with fail
      refine (implStreamOf_yes key seq m _ S1.lab hk' hs' (by omega)).mono ?_
      rintro r x2 ⟨aS, nS, cS, rfl, OS, e2⟩
      have lS : nS = m := by rw [OS.len, M.streamL_length]
      subst lS
      have e2' := bal e2 (.cells #[.int .i64 0, .slice aS nS cS] 44)
      have S2 := S1.on e2'
      have rS := (Own.row OS (stream_wf key seq nS)).on (bal (Below.refl _ _) (.cells #[.int .i64 0, .slice aS nS cS] 44))
      have p1 : (x2.alloc (.cells #[.int .i64 0, .slice aS nS cS] 44)).cell? ⟨x2.heap.size, 1, none⟩ = some (.slice aS nS cS) := by go_simp
      have hfit := rS.fits
      clear OS e2 S1 e2'
      go_wp2_with fail
      generalize x2.alloc (.cells #[.int .i64 0, .slice aS nS cS] 44) = y2 at *
      refine (lwAt_any 3 _ _ _ _ _ _ _ S2.code (by omega)).mono ?_
      rintro r x3 ⟨q, q0, q1, rfl, e3⟩
      have q2 : q ≤ nS := by omega
      obtain ⟨qn, rfl⟩ := Int.eq_ofNat_of_zero_le q0
      have S3 := S2.on e3
      have rS3 := rS.on e3
      have p13 := cell_keep e3 p1
      clear S2 rS p1 e3 q1
      go_wp2_with fail
      refine (implStreamOf_yes key seq qn _ S3.lab hk' hs' (by omega)).mono ?_
      rintro r x4 ⟨aQ, nQ, cQ, rfl, OQ, e4⟩
      have lQ : nQ = qn := by rw [OQ.len, M.streamL_length]
      subst lQ
      have e4' := bal e4 (.cells #[.int .i64 0, .slice aQ nQ cQ] 44)
      have T : St2 w x2.heap.size x4.heap.size aS nS cS aQ nQ cQ key seq (x4.alloc (.cells #[.int .i64 0, .slice aQ nQ cQ] 44)) :=
        ⟨btr S3.bel e4', cell_keep e4' p13, by go_simp, rS3.on e4', (Own.row OQ (stream_wf key seq nQ)).on (bal (Below.refl _ _) _)⟩
      clear OQ e4 e4' S3 rS3 p13
      go_wp2_with fail
      generalize x4.alloc (.cells #[.int .i64 0, .slice aQ nQ cQ] 44) = y4 at *
      have hst := T.on (Below.refl _ y4).drew
      have q8 : ∀ x : Of (St2 w x2.heap.size x4.heap.size aS nS cS aQ nQ cQ key seq), x.val.cell? ⟨x2.heap.size, 1, none⟩ = some (.slice aS nS cS) := fun x => x.prop.s1
      have q9 : ∀ x : Of (St2 w x2.heap.size x4.heap.size aS nS cS aQ nQ cQ key seq), x.val.cell? ⟨x4.heap.size, 1, none⟩ = some (.slice aQ nQ cQ) := fun x => x.prop.q1
      have inst : Nonempty (Of (St2 w x2.heap.size x4.heap.size aS nS cS aQ nQ cQ key seq)) := ⟨⟨_, T⟩⟩
      have qc : (nQ : Int) ≤ cS := by omega
      refine wp_region_line (St2 w x2.heap.size x4.heap.size aS nS cS aQ nQ cQ key seq) [(0, true), (1, true), (2, true), (3, true), (4, true), (5, true), (6, true), (7, true), (8, true), (9, true), (10, true), (11, true), (12, true), (13, true), (14, true), (15, true), (16, true), (17, true), (18, true), (19, false), (20, true), (21, true), (22, true), (23, true), (24, true), (25, true), (26, true), (27, false), (28, true), (29, false), (30, true), (31, true)] (by kernel_rfl) (by kernel_rfl) (fun _ _ d _ _ h => by cases d <;> exact h) hst ?_
      clear T
      iterate 19 (refine line_read rfl (by kernel_rfl) (fun K hK => ?_); go_big_quiet_op; refine hK _ ?_; clear hK K)
      refine line_alone rfl (by kernel_rfl) (fun K hK => ?_)
      refine call_wp (args := #[.slice aS nQ cS, .slice aQ nQ cQ]) rfl (by kernel_rfl) (by kernel_rfl) (lwBytes_any (by rw [← M.streamL_take key seq nS nQ (by omega)]; exact row_take hst.rS nQ (by omega)) hst.rQ) (fun wn hbn => ?_)
      subst hbn
      refine hK _ _ hst ?_
      clear hK K
      simp only [Act.put, List.setIfInBounds_toArray, List.set_cons_zero, List.set_cons_succ]
      iterate 7 (refine line_read rfl (by kernel_rfl) (fun K hK => ?_); go_big_quiet_op; refine hK _ ?_; clear hK K)
      refine line_alone rfl (by kernel_rfl) (fun K hK => ?_)
      refine call_any (args := #[.int .i64 key, .int .i64 seq, .int .i64 nS]) rfl (by kernel_rfl) (by kernel_rfl) (specStreamOf_yes key seq nS _ hk' hs' (by omega)) ?_
      rintro e x5 ⟨aZ, nZ, cZ, rfl, OZ, e5⟩
      have hst5 := hst.on e5
      have rZ := Own.row OZ (stream_wf key seq nS)
      refine ⟨_, rfl, hK _ _ hst5 ?_⟩
      clear hK K OZ e5 hst
      simp only [Act.put, List.setIfInBounds_toArray, List.set_cons_zero, List.set_cons_succ]
      iterate 1 (refine line_read rfl (by kernel_rfl) (fun K hK => ?_); go_big_quiet_op; refine hK _ ?_; clear hK K)
      refine line_alone rfl (by kernel_rfl) (fun K hK => ?_)
      refine call_wp (args := #[.slice aS nS cS, .slice aZ nZ cZ]) rfl (by kernel_rfl) (by kernel_rfl) (lwBytes_any hst5.rS rZ) (fun wn hbn => ?_)
      subst hbn
      refine hK _ _ hst5 ?_
      have hbe := hst5.bel
      clear hK K rZ hst5
      simp only [Act.put, List.setIfInBounds_toArray, List.set_cons_zero, List.set_cons_succ]
      iterate 2 (refine line_read rfl (by kernel_rfl) (fun K hK => ?_); go_big_quiet_op; refine hK _ ?_; clear hK K)
      refine line_nil ?_
      go_wp2_with fail
      go_ret
      exact ⟨rfl, hbe⟩
  · iterate 6 (refine line_read rfl (by kernel_rfl) (fun K hK => ?_); go_big_quiet_op; refine hK _ ?_; clear hK K)
    refine line_alone rfl (by kernel_rfl) (fun K hK => ?_)
    go_simp
    refine hK _ _ (hst.on (bal (Below.refl _ _) _)) ?_
    clear hK K
    refine line_alone rfl (by kernel_rfl) (fun K hK => ?_)
    refine call_wp (args := #[.string s, .slice (some ⟨wn.heap.size, 0, none⟩) 1 1]) rfl (by kernel_rfl) (by kernel_rfl) (implTagSum_key k s _ _ hs2 (keyD_ok hc)) (fun wm hbm => ?_)
    have hst2 := hst.on hbm
    refine hK _ _ hst2 ?_
    clear hK K hst hbm
    have hst := hst2
    clear hst2
    simp only [Act.put, List.setIfInBounds_toArray, List.set_cons_zero, List.set_cons_succ]
    iterate 4 (refine line_read rfl (by kernel_rfl) (fun K hK => ?_); go_big_quiet_op; refine hK _ ?_; clear hK K)
    refine line_nil ?_
    go_wp2_with fail
    refine (DrawStreamOf_any hst.code).mono ?_
    rintro r x1 ⟨key, seq, n, rfl, e1⟩
    have S1 := hst.on e1
    clear hst e1 q0 q1 q2 q3 inst
    cases hS : M.strB key seq n
    · go_wp2_with fail
      refine (implStreamOf_no key seq n _ hS).mono ?_
      rintro r x2 ⟨aS, nS, cS, rfl, OS, e2⟩
      have c2 := bal (btr S1.bel e2) (.cells #[.int .i64 3, .slice aS nS cS] 44)
      have p0 : (x2.alloc (.cells #[.int .i64 3, .slice aS nS cS] 44)).cell? ⟨x2.heap.size, 0, none⟩ = some (.int .i64 3) := by go_simp
      clear OS e2 S1
      go_wp2_with fail
      generalize x2.alloc (.cells #[.int .i64 3, .slice aS nS cS] 44) = y2 at *
      refine wp_region_line (fun w' => Below w.heap.size w w' ∧ w'.cell? ⟨x2.heap.size, 0, none⟩ = some (.int .i64 3)) [(0, true), (1, true), (2, true), (5, true), (6, true), (3, false), (4, true), (7, true), (8, true)] (by kernel_rfl) (by kernel_rfl) (fun _ _ d _ _ h => by cases d <;> exact h) ⟨c2.drew, p0⟩ ?_
      have q9 : ∀ x : Of (fun w' => Below w.heap.size w w' ∧ w'.cell? ⟨x2.heap.size, 0, none⟩ = some (.int .i64 3)), x.val.cell? ⟨x2.heap.size, 0, none⟩ = some (.int .i64 3) := fun x => x.prop.2
      have inst : Nonempty (Of (fun w' => Below w.heap.size w w' ∧ w'.cell? ⟨x2.heap.size, 0, none⟩ = some (.int .i64 3))) := ⟨⟨y2, c2, p0⟩⟩
      iterate 5 (refine line_read rfl (by kernel_rfl) (fun K hK => ?_); go_big_quiet_op; refine hK _ ?_; clear hK K)
      refine line_alone rfl (by kernel_rfl) (fun K hK => ?_)
      refine call_any (args := #[.int .i64 key, .int .i64 seq, .int .i64 n]) rfl (by kernel_rfl) (by kernel_rfl) (specStreamOf_no key seq n _ hS) ?_
      rintro e x3 ⟨aZ, nZ, cZ, rfl, OZ, e3⟩
      have c3 := btr c2.drew e3
      refine ⟨_, rfl, hK _ _ ⟨c3, cell_keep e3 p0⟩ ?_⟩
      clear hK K OZ e3
      simp only [Act.put, List.setIfInBounds_toArray, List.set_cons_zero, List.set_cons_succ]
      iterate 3 (refine line_read rfl (by kernel_rfl) (fun K hK => ?_); go_big_quiet_op; refine hK _ ?_; clear hK K)
      refine line_nil ?_
      go_wp2_with fail
      go_ret
      exact ⟨rfl, c3⟩
    · obtain ⟨hk', hs', h0', h1'⟩ := strB_yes hS
      obtain ⟨m, rfl⟩ := Int.eq_ofNat_of_zero_le h0'
      clear hS
      go_wp2_with fail
      refine (implStreamOf_yes key seq m _ S1.lab hk' hs' (by omega)).mono ?_
      rintro r x2 ⟨aS, nS, cS, rfl, OS, e2⟩
      have lS : nS = m := by rw [OS.len, M.streamL_length]
      subst lS
      have e2' := bal e2 (.cells #[.int .i64 0, .slice aS nS cS] 44)
      have S2 := S1.on e2'
      have rS := (Own.row OS (stream_wf key seq nS)).on (bal (Below.refl _ _) (.cells #[.int .i64 0, .slice aS nS cS] 44))
      have p1 : (x2.alloc (.cells #[.int .i64 0, .slice aS nS cS] 44)).cell? ⟨x2.heap.size, 1, none⟩ = some (.slice aS nS cS) := by go_simp
      have hfit := rS.fits
      clear OS e2 S1 e2'
      go_wp2_with fail
      generalize x2.alloc (.cells #[.int .i64 0, .slice aS nS cS] 44) = y2 at *
      refine (lwAt_any 3 _ _ _ _ _ _ _ S2.code (by omega)).mono ?_
      rintro r x3 ⟨q, q0, q1, rfl, e3⟩
      have q2 : q ≤ nS := by omega
      obtain ⟨qn, rfl⟩ := Int.eq_ofNat_of_zero_le q0
      have S3 := S2.on e3
      have rS3 := rS.on e3
      have p13 := cell_keep e3 p1
      clear S2 rS p1 e3 q1
      go_wp2_with fail
      refine (implStreamOf_yes key seq qn _ S3.lab hk' hs' (by omega)).mono ?_
      rintro r x4 ⟨aQ, nQ, cQ, rfl, OQ, e4⟩
      have lQ : nQ = qn := by rw [OQ.len, M.streamL_length]
      subst lQ
      have e4' := bal e4 (.cells #[.int .i64 0, .slice aQ nQ cQ] 44)
      have T : St2 w x2.heap.size x4.heap.size aS nS cS aQ nQ cQ key seq (x4.alloc (.cells #[.int .i64 0, .slice aQ nQ cQ] 44)) :=
        ⟨btr S3.bel e4', cell_keep e4' p13, by go_simp, rS3.on e4', (Own.row OQ (stream_wf key seq nQ)).on (bal (Below.refl _ _) _)⟩
      clear OQ e4 e4' S3 rS3 p13
      go_wp2_with fail
      generalize x4.alloc (.cells #[.int .i64 0, .slice aQ nQ cQ] 44) = y4 at *
      have hst := T.on (Below.refl _ y4).drew
      have q8 : ∀ x : Of (St2 w x2.heap.size x4.heap.size aS nS cS aQ nQ cQ key seq), x.val.cell? ⟨x2.heap.size, 1, none⟩ = some (.slice aS nS cS) := fun x => x.prop.s1
      have q9 : ∀ x : Of (St2 w x2.heap.size x4.heap.size aS nS cS aQ nQ cQ key seq), x.val.cell? ⟨x4.heap.size, 1, none⟩ = some (.slice aQ nQ cQ) := fun x => x.prop.q1
      have inst : Nonempty (Of (St2 w x2.heap.size x4.heap.size aS nS cS aQ nQ cQ key seq)) := ⟨⟨_, T⟩⟩
      have qc : (nQ : Int) ≤ cS := by omega
      refine wp_region_line (St2 w x2.heap.size x4.heap.size aS nS cS aQ nQ cQ key seq) [(0, true), (1, true), (2, true), (3, true), (4, true), (5, true), (6, true), (7, true), (8, true), (9, true), (10, true), (11, true), (12, true), (13, true), (14, true), (15, true), (16, true), (17, true), (18, true), (19, false), (20, true), (21, true), (22, true), (23, true), (24, true), (25, true), (26, true), (27, false), (28, true), (29, false), (30, true), (31, true)] (by kernel_rfl) (by kernel_rfl) (fun _ _ d _ _ h => by cases d <;> exact h) hst ?_
      clear T
      iterate 19 (refine line_read rfl (by kernel_rfl) (fun K hK => ?_); go_big_quiet_op; refine hK _ ?_; clear hK K)
      refine line_alone rfl (by kernel_rfl) (fun K hK => ?_)
      refine call_wp (args := #[.slice aS nQ cS, .slice aQ nQ cQ]) rfl (by kernel_rfl) (by kernel_rfl) (lwBytes_any (by rw [← M.streamL_take key seq nS nQ (by omega)]; exact row_take hst.rS nQ (by omega)) hst.rQ) (fun wn hbn => ?_)
      subst hbn
      refine hK _ _ hst ?_
      clear hK K
      simp only [Act.put, List.setIfInBounds_toArray, List.set_cons_zero, List.set_cons_succ]
      iterate 7 (refine line_read rfl (by kernel_rfl) (fun K hK => ?_); go_big_quiet_op; refine hK _ ?_; clear hK K)
      refine line_alone rfl (by kernel_rfl) (fun K hK => ?_)
      refine call_any (args := #[.int .i64 key, .int .i64 seq, .int .i64 nS]) rfl (by kernel_rfl) (by kernel_rfl) (specStreamOf_yes key seq nS _ hk' hs' (by omega)) ?_
      rintro e x5 ⟨aZ, nZ, cZ, rfl, OZ, e5⟩
      have hst5 := hst.on e5
      have rZ := Own.row OZ (stream_wf key seq nS)
      refine ⟨_, rfl, hK _ _ hst5 ?_⟩
      clear hK K OZ e5 hst
      simp only [Act.put, List.setIfInBounds_toArray, List.set_cons_zero, List.set_cons_succ]
      iterate 1 (refine line_read rfl (by kernel_rfl) (fun K hK => ?_); go_big_quiet_op; refine hK _ ?_; clear hK K)
      refine line_alone rfl (by kernel_rfl) (fun K hK => ?_)
      refine call_wp (args := #[.slice aS nS cS, .slice aZ nZ cZ]) rfl (by kernel_rfl) (by kernel_rfl) (lwBytes_any hst5.rS rZ) (fun wn hbn => ?_)
      subst hbn
      refine hK _ _ hst5 ?_
      have hbe := hst5.bel
      clear hK K rZ hst5
      simp only [Act.put, List.setIfInBounds_toArray, List.set_cons_zero, List.set_cons_succ]
      iterate 2 (refine line_read rfl (by kernel_rfl) (fun K hK => ?_); go_big_quiet_op; refine hK _ ?_; clear hK K)
      refine line_nil ?_
      go_wp2_with fail
      go_ret
      exact ⟨rfl, hbe⟩

end Go.Proofs.YtjlhldndomaknaaDoor.fnSums
