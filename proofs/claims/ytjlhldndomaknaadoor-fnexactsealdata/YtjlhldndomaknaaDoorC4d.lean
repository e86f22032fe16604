/- Contracts of how records are read out of bytes, by the program and by its model. Conditions: as each theorem states. -/
import Derived.Test.YtjlhldndomaknaaDoorC4b
import Derived.Deep.CutRange
namespace Go.Proofs.YtjlhldndomaknaaDoor
open Go.RowKit
set_option maxRecDepth 100000
set_option linter.unusedVariables false

/-- A code and a record in new memory. -/
def RecRes (e s k : Int) (zs : List Int) (t : Int) (w : World) (r : Ending) (w' : World) : Prop :=
  ∃ a n c, r = .returned (R5 e s k a n c t) ∧ OwnK .u8 w' w.heap.size (.slice a n c) zs ∧ Below w.heap.size w w'
/-- A record has been laid at block g. -/
def RecLaid (V : World) (s k : Int) (zs : List Int) (t : Int) (v : Value) (wx : World) : Prop :=
  ∃ g a n c, v = .pointer (some ⟨g, 0, none⟩) ∧ At g (L4 s k a n c t) wx ∧ OwnK .u8 wx V.heap.size (.slice a n c) zs ∧ V.heap.size ≤ g ∧ (∀ q, Value.ownBlock (.slice a n c) = some q → q ≠ g) ∧ Below V.heap.size V wx

/-- What is read out of bytes. -/
def ReadRes (zs : List Int) (w : World) (r : Ending) (w' : World) : Prop :=
  if M.rdB zs then RecRes 0 (M.at2 zs 0) (zs.getD 2 0) (M.rdD zs) (M.at2 zs (zs.length - 2)) w r w' else RecRes 5 0 0 [] 0 w r w'
theorem ReadRes.yes {zs : List Int} {w : World} {r : Ending} {w' : World} (h : M.rdB zs = true) (k : RecRes 0 (M.at2 zs 0) (zs.getD 2 0) (M.rdD zs) (M.at2 zs (zs.length - 2)) w r w') : ReadRes zs w r w' := by
  unfold ReadRes; rw [if_pos h]; exact k
theorem ReadRes.no {zs : List Int} {w : World} {r : Ending} {w' : World} (h : M.rdB zs = false) (k : RecRes 5 0 0 [] 0 w r w') : ReadRes zs w r w' := by
  unfold ReadRes; rw [if_neg (by rw [h]; simp)]; exact k
def rdE (zs : List Int) : Int := if M.rdB zs then 0 else 5
def rdS (zs : List Int) : Int := if M.rdB zs then M.at2 zs 0 else 0
def rdK (zs : List Int) : Int := if M.rdB zs then zs.getD 2 0 else 0
def rdT (zs : List Int) : Int := if M.rdB zs then M.at2 zs (zs.length - 2) else 0
def rdX (zs : List Int) : List Int := if M.rdB zs then M.rdD zs else []
theorem ReadRes.all {zs : List Int} {w : World} {r : Ending} {w' : World} (h : ReadRes zs w r w') : RecRes (rdE zs) (rdS zs) (rdK zs) (rdX zs) (rdT zs) w r w' := by
  unfold ReadRes at h
  unfold rdE rdS rdK rdX rdT
  cases hb : M.rdB zs
  · rw [hb] at h; simpa using h
  · rw [hb] at h; simpa using h
theorem rdX_len (zs : List Int) : (rdX zs).length ≤ 60 := by
  unfold rdX
  split
  · rename_i h
    obtain ⟨h6, -, hf⟩ := M.rdB_len h
    have := (M.recF_zero hf).2.2.2
    rw [M.rdD_length h6]
    exact this
  · simp
theorem rdX_wf {zs : List Int} (h : ∀ z ∈ zs, (Lit.int .u8 z).wf = true) : ∀ z ∈ rdX zs, (Lit.int .u8 z).wf = true := by
  unfold rdX
  split
  · exact fun z hz => h z (M.rdD_mem z hz)
  · intro z hz; cases hz
theorem implReadRecord_len (a : Option Addr) (len cap B : Nat) (zs : List Int) (w : World) (hR : Row .u8 w B a len cap zs) (hB : B ≤ w.heap.size) (h6 : 6 ≤ len) (h3 : (len : Int) = 6 + zs.getD 3 0) (hl : len ≤ 1048576) :
    Calls Tryd.prog 51 #[.slice a len cap] w (ReadRes zs w) := by
  have hlen := hR.fits
  have hmost := hR.most
  obtain ⟨b, off, rfl, hb, hc⟩ := hR.cells (by omega)
  have b0 := bal (Below.refl _ w) (.cells #[.int .i64 0, .int .i64 0, .int .i64 0, .slice none 0 0, .int .i64 0] 68)
  have A0 : At w.heap.size (L5 0 0 0 none 0 0 0) (w.alloc (.cells #[.int .i64 0, .int .i64 0, .int .i64 0, .slice none 0 0, .int .i64 0] 68)) := At.new w (L5 0 0 0 none 0 0 0) 68
  have e0 := cell_keep b0 (hc 0 (by omega))
  have e1 := cell_keep b0 (hc 1 (by omega))
  have e2 := cell_keep b0 (hc 2 (by omega))
  have e3 := cell_keep b0 (hc 3 (by omega))
  have e4 := cell_keep b0 (hc (len - 2) (by omega))
  have e5 := cell_keep b0 (hc (len - 2 + 1) (by omega))
  obtain ⟨x00, x01⟩ := hR.byte 0
  obtain ⟨x10, x11⟩ := hR.byte 1
  obtain ⟨x20, x21⟩ := hR.byte 2
  obtain ⟨x30, x31⟩ := hR.byte 3
  obtain ⟨x40, x41⟩ := hR.byte (len - 2)
  obtain ⟨x50, x51⟩ := hR.byte (len - 2 + 1)
  have R0 := hR.below (b0.mono hB)
  have hzl := hR.length
  have E0 : M.at2 zs 0 = 256 * zs.getD 0 0 + zs.getD 1 0 := rfl
  have E1 : M.at2 zs (zs.length - 2) = 256 * zs.getD (len - 2) 0 + zs.getD (len - 2 + 1) 0 := by rw [hzl]; rfl
  have h3' : ((len : Int) - 2 - 4 != zs.getD 3 0) = false := by
    have e : (len : Int) - 2 - 4 = zs.getD 3 0 := by omega
    rw [e]
    exact bne_self_eq_false _
  have H3 := Lib.hid h3
  have HL := Lib.hid hzl
  clear h3 hzl
  obtain ⟨y2, HY2⟩ : ∃ y, Hid (zs.getD 2 0 = y) := ⟨_, Lib.hid rfl⟩
  obtain ⟨y3, HY3⟩ : ∃ y, Hid (zs.getD 3 0 = y) := ⟨_, Lib.hid rfl⟩
  rw [HY2.out] at x20 x21 e2
  rw [HY3.out] at x30 x31 e3 h3' H3
  generalize zs.getD 0 0 = y0 at *
  generalize zs.getD 1 0 = y1 at *
  generalize zs.getD (len - 2) 0 = y4 at *
  generalize zs.getD (len - 2 + 1) 0 = y5 at *
  have hmx := hmost
  unfold maxLen at hmost
  clear hc
  have hW0 : w.heap.size < (w.alloc (.cells #[.int .i64 0, .int .i64 0, .int .i64 0, .slice none 0 0, .int .i64 0] 68)).heap.size := by simp
  obtain ⟨W0, hW⟩ : ∃ W0, w.alloc (.cells #[.int .i64 0, .int .i64 0, .int .i64 0, .slice none 0 0, .int .i64 0] 68) = W0 := ⟨_, rfl⟩
  rw [hW] at b0 A0 e0 e1 e2 e4 e5 R0 hW0
  have HW := Lib.hid hW
  clear hW
  have T1 := fun (cur : World) (h : Below W0.heap.size W0 cur) => readTwo_any b off len cap y0 y1 cur (by omega) hlen hmx (cell_keep h e0) (cell_keep h e1) x00 x01 x10 x11
  have T2 := fun (cur : World) (h : Below W0.heap.size W0 cur) => readTwo_any b (off + (len - 2)) (len - (len - 2)) (cap - (len - 2)) y4 y5 cur (by omega) (by omega) (by omega) (cell_keep h e4) (cell_keep h e5) x40 x41 x50 x51
  have RS := R0.sub 4 (len - 2 - 4) (cap - 4) (by omega) (by omega) (by omega)
  have ED : (zs.drop 4).take (len - 2 - 4) = M.rdD zs := by unfold M.rdD; rw [HL.out]; congr 1
  rw [ED] at RS
  have TC := fun (cur : World) (h : Below W0.heap.size W0 cur) => copyBytes_any _ _ _ B _ cur (RS.below (h.mono (by omega))) (by have := h.size; omega) (by omega)
  rw [← E0] at T1
  rw [← E1] at T2
  clear E0 E1 ED
  go_enter Tryd.func51, Tryd.ntmps51
  go_upto_region 6 with fail
  rw [HW.out]
  go_cut [4] from 20 to 34 (fun v wx => RecLaid W0 (M.at2 zs 0) y2 (M.rdD zs) (M.at2 zs (zs.length - 2)) v wx)
  case first =>
    refine wp_region_fork (Bel W0) (by kernel_rfl) (Bel.drew W0) ?_
    have hst : (Bel W0) _ := (Bel.drew W0)
    have inst : Nonempty (Of (Bel W0)) := ⟨⟨_, hst⟩⟩
    have u0 := bel_cell e2
    generalize W0.drew = V1 at *
    refine any_seg 6 [(0, true), (2, true), (3, true), (4, true), (5, true), (6, true), (7, true), (8, true), (10, true), (11, true), (12, true)] (by kernel_rfl) (fun _ _ d _ _ h => by cases d <;> exact h) ?_
    iterate 11 (refine line_read rfl (by kernel_rfl) (fun K hK => ?_); go_big_quiet_op; refine hK _ ?_; clear hK K)
    refine line_nil ?_
    have szV1 := hst.out.size
    refine any_fork 1 15 (by kernel_rfl) rfl rfl (by kernel_rfl) (by kernel_rfl) (fun K hK => ?_) (fun K hK => ?_)
    · refine call_any (args := #[.slice (some ⟨b, off, none⟩) len cap]) rfl (by kernel_rfl) (by kernel_rfl) (T1 _ hst.out) ?_
      rintro e x1 ⟨rfl, hbn⟩
      have hst2 := hst.on hbn
      have szx1 := hbn.size
      refine ⟨_, rfl, hK _ _ hst2 ?_⟩
      clear hK K hst
      have hst := hst2
      clear hst2
      simp only [Act.put, List.setIfInBounds_toArray, List.set_cons_zero, List.set_cons_succ]
      clear hbn
      refine any_fork 9 15 (by kernel_rfl) rfl rfl (by kernel_rfl) (by kernel_rfl) (fun K hK => ?_) (fun K hK => ?_)
      · refine call_any (args := #[.slice (some ⟨b, off + 4, none⟩) (len - 2 - 4) (cap - 4)]) rfl (by kernel_rfl) (by kernel_rfl) (TC _ hst.out) ?_
        rintro e x9 ⟨rfl, O, hbn⟩
        have hst2 := hst.on hbn
        have szx9 := hbn.size
        have ltO : x1.heap.size < x9.heap.size := (O.lt _ rfl).2
        refine ⟨_, rfl, hK _ _ hst2 ?_⟩
        clear hK K hst
        have hst := hst2
        clear hst2
        simp only [Act.put, List.setIfInBounds_toArray, List.set_cons_zero, List.set_cons_succ]
        clear hbn
        refine any_fork 13 15 (by kernel_rfl) rfl rfl (by kernel_rfl) (by kernel_rfl) (fun K hK => ?_) (fun K hK => ?_)
        · refine call_any (args := #[.slice (some ⟨b, off + (len - 2), none⟩) (len - (len - 2)) (cap - (len - 2))]) rfl (by kernel_rfl) (by kernel_rfl) (T2 _ hst.out) ?_
          rintro e x13 ⟨rfl, hbn⟩
          have hst2 := hst.on hbn
          have szx13 := hbn.size
          have O2 := O.below hbn
          clear O
          have O := O2
          clear O2
          refine ⟨_, rfl, hK _ _ hst2 ?_⟩
          clear hK K hst
          have hst := hst2
          clear hst2
          simp only [Act.put, List.setIfInBounds_toArray, List.set_cons_zero, List.set_cons_succ]
          clear hbn
          refine any_rest [(14, true), (15, false), (16, false)] (by kernel_rfl) (fun _ _ d _ _ h => by cases d <;> exact h) ?_
          refine line_readv (v := R4 (M.at2 zs 0) y2 (some ⟨x1.heap.size, 0, none⟩) (len - 2 - 4) (len - 2 - 4) (M.at2 zs (zs.length - 2))) rfl (by kernel_rfl) (fun _ => by kernel_rfl) ?_
          simp only [Act.put, List.setIfInBounds_toArray, List.set_cons_zero, List.set_cons_succ]
          refine line_alone rfl (by kernel_rfl) (fun K hK => ?_)
          go_big_op
          have hst2 := hst.on (bal (Below.refl _ x13) (.cells #[.int .i64 0, .int .i64 0, .slice none 0 0, .int .i64 0] 66))
          have A := At.new x13 (L4 0 0 none 0 0 0) 66
          have ltA : x13.heap.size < (x13.alloc (.cells #[.int .i64 0, .int .i64 0, .slice none 0 0, .int .i64 0] 66)).heap.size := by simp
          have leA : W0.heap.size ≤ x13.heap.size := hst.out.size
          have O2 := O.alloc (.cells #[.int .i64 0, .int .i64 0, .slice none 0 0, .int .i64 0] 66)
          clear O
          have O := O2
          clear O2
          refine hK _ _ hst2 ?_
          clear hK K hst
          have hst := hst2
          clear hst2
          generalize x13.alloc (.cells #[.int .i64 0, .int .i64 0, .slice none 0 0, .int .i64 0] 66) = x15 at *
          have leO : W0.heap.size ≤ x1.heap.size := by omega
          have hne : x1.heap.size ≠ x13.heap.size := by omega
          have p0 := A.cell 0 _ rfl
          have p1 := A.cell 1 _ rfl
          have p2 := A.cell 2 _ rfl
          have p3 := A.cell 3 _ rfl
          have f0 := A.free 0 _ rfl
          have f1 := A.free 1 _ rfl
          have f2 := A.free 2 _ rfl
          have f3 := A.free 3 _ rfl
          refine line_alone rfl (by kernel_rfl) (fun K hK => ?_)
          go_big_op
          refine hK _ _ (⟨(by (iterate 4 (refine bset ?_ (by dsimp only; omega) _)); exact hst.out)⟩) ?_
          clear hK K
          have A9 := (((A.set 0 (.int .i64 (M.at2 zs 0))).set 1 (.int .i64 y2)).set 2 (.slice (some ⟨x1.heap.size, 0, none⟩) (len - 2 - 4) (len - 2 - 4))).set 3 (.int .i64 (M.at2 zs (zs.length - 2)))
          refine line_nil ?_
          go_wp2_with fail
          go_meet
          case rel => exact ⟨_, _, _, _, rfl, A9, (by (iterate 4 (refine Own.setCell ?_ (fun g hg => by simp [Value.ownBlock] at hg; dsimp only; omega) _)); exact O.less (by omega)), leA, (fun q hq e => by simp [Value.ownBlock] at hq; omega), (by (iterate 4 (refine bset ?_ (by dsimp only; omega) _)); exact hst.out)⟩
        · go_big_op
          have hst2 := hst.on (bal (Below.refl _ x9) (.cells #[.int .i64 0, .int .i64 0, .slice none 0 0, .int .i64 0] 66))
          have A := At.new x9 (L4 0 0 none 0 0 0) 66
          have ltA : x9.heap.size < (x9.alloc (.cells #[.int .i64 0, .int .i64 0, .slice none 0 0, .int .i64 0] 66)).heap.size := by simp
          have leA : W0.heap.size ≤ x9.heap.size := hst.out.size
          have O2 := O.alloc (.cells #[.int .i64 0, .int .i64 0, .slice none 0 0, .int .i64 0] 66)
          clear O
          have O := O2
          clear O2
          refine hK _ _ hst2 ?_
          clear hK K hst
          have hst := hst2
          clear hst2
          generalize x9.alloc (.cells #[.int .i64 0, .int .i64 0, .slice none 0 0, .int .i64 0] 66) = x15 at *
          refine any_rest [(13, false), (14, true), (16, false)] (by kernel_rfl) (fun _ _ d _ _ h => by cases d <;> exact h) ?_
          refine line_alone rfl (by kernel_rfl) (fun K hK => ?_)
          refine call_any (args := #[.slice (some ⟨b, off + (len - 2), none⟩) (len - (len - 2)) (cap - (len - 2))]) rfl (by kernel_rfl) (by kernel_rfl) (T2 _ hst.out) ?_
          rintro e x13 ⟨rfl, hbn⟩
          have hst2 := hst.on hbn
          have szx13 := hbn.size
          have O2 := O.below hbn
          clear O
          have O := O2
          clear O2
          have A2 := A.on hbn
          clear A
          have A := A2
          clear A2
          refine ⟨_, rfl, hK _ _ hst2 ?_⟩
          clear hK K hst
          have hst := hst2
          clear hst2
          simp only [Act.put, List.setIfInBounds_toArray, List.set_cons_zero, List.set_cons_succ]
          clear hbn
          refine line_readv (v := R4 (M.at2 zs 0) y2 (some ⟨x1.heap.size, 0, none⟩) (len - 2 - 4) (len - 2 - 4) (M.at2 zs (zs.length - 2))) rfl (by kernel_rfl) (fun _ => by kernel_rfl) ?_
          simp only [Act.put, List.setIfInBounds_toArray, List.set_cons_zero, List.set_cons_succ]
          have leO : W0.heap.size ≤ x1.heap.size := by omega
          have hne : x1.heap.size ≠ x9.heap.size := by omega
          have p0 := A.cell 0 _ rfl
          have p1 := A.cell 1 _ rfl
          have p2 := A.cell 2 _ rfl
          have p3 := A.cell 3 _ rfl
          have f0 := A.free 0 _ rfl
          have f1 := A.free 1 _ rfl
          have f2 := A.free 2 _ rfl
          have f3 := A.free 3 _ rfl
          refine line_alone rfl (by kernel_rfl) (fun K hK => ?_)
          go_big_op
          refine hK _ _ (⟨(by (iterate 4 (refine bset ?_ (by dsimp only; omega) _)); exact hst.out)⟩) ?_
          clear hK K
          have A9 := (((A.set 0 (.int .i64 (M.at2 zs 0))).set 1 (.int .i64 y2)).set 2 (.slice (some ⟨x1.heap.size, 0, none⟩) (len - 2 - 4) (len - 2 - 4))).set 3 (.int .i64 (M.at2 zs (zs.length - 2)))
          refine line_nil ?_
          go_wp2_with fail
          go_meet
          case rel => exact ⟨_, _, _, _, rfl, A9, (by (iterate 4 (refine Own.setCell ?_ (fun g hg => by simp [Value.ownBlock] at hg; dsimp only; omega) _)); exact O.less (by omega)), leA, (fun q hq e => by simp [Value.ownBlock] at hq; omega), (by (iterate 4 (refine bset ?_ (by dsimp only; omega) _)); exact hst.out)⟩
      · go_big_op
        have hst2 := hst.on (bal (Below.refl _ x1) (.cells #[.int .i64 0, .int .i64 0, .slice none 0 0, .int .i64 0] 66))
        have A := At.new x1 (L4 0 0 none 0 0 0) 66
        have ltA : x1.heap.size < (x1.alloc (.cells #[.int .i64 0, .int .i64 0, .slice none 0 0, .int .i64 0] 66)).heap.size := by simp
        have leA : W0.heap.size ≤ x1.heap.size := hst.out.size
        refine hK _ _ hst2 ?_
        clear hK K hst
        have hst := hst2
        clear hst2
        generalize x1.alloc (.cells #[.int .i64 0, .int .i64 0, .slice none 0 0, .int .i64 0] 66) = x15 at *
        refine any_rest [(9, false), (13, false), (14, true), (16, false)] (by kernel_rfl) (fun _ _ d _ _ h => by cases d <;> exact h) ?_
        refine line_alone rfl (by kernel_rfl) (fun K hK => ?_)
        refine call_any (args := #[.slice (some ⟨b, off + 4, none⟩) (len - 2 - 4) (cap - 4)]) rfl (by kernel_rfl) (by kernel_rfl) (TC _ hst.out) ?_
        rintro e x9 ⟨rfl, O, hbn⟩
        have hst2 := hst.on hbn
        have szx9 := hbn.size
        have ltO : x15.heap.size < x9.heap.size := (O.lt _ rfl).2
        have A2 := A.on hbn
        clear A
        have A := A2
        clear A2
        refine ⟨_, rfl, hK _ _ hst2 ?_⟩
        clear hK K hst
        have hst := hst2
        clear hst2
        simp only [Act.put, List.setIfInBounds_toArray, List.set_cons_zero, List.set_cons_succ]
        clear hbn
        refine line_alone rfl (by kernel_rfl) (fun K hK => ?_)
        refine call_any (args := #[.slice (some ⟨b, off + (len - 2), none⟩) (len - (len - 2)) (cap - (len - 2))]) rfl (by kernel_rfl) (by kernel_rfl) (T2 _ hst.out) ?_
        rintro e x13 ⟨rfl, hbn⟩
        have hst2 := hst.on hbn
        have szx13 := hbn.size
        have O2 := O.below hbn
        clear O
        have O := O2
        clear O2
        have A2 := A.on hbn
        clear A
        have A := A2
        clear A2
        refine ⟨_, rfl, hK _ _ hst2 ?_⟩
        clear hK K hst
        have hst := hst2
        clear hst2
        simp only [Act.put, List.setIfInBounds_toArray, List.set_cons_zero, List.set_cons_succ]
        clear hbn
        refine line_readv (v := R4 (M.at2 zs 0) y2 (some ⟨x15.heap.size, 0, none⟩) (len - 2 - 4) (len - 2 - 4) (M.at2 zs (zs.length - 2))) rfl (by kernel_rfl) (fun _ => by kernel_rfl) ?_
        simp only [Act.put, List.setIfInBounds_toArray, List.set_cons_zero, List.set_cons_succ]
        have leO : W0.heap.size ≤ x15.heap.size := by omega
        have hne : x15.heap.size ≠ x1.heap.size := by omega
        have p0 := A.cell 0 _ rfl
        have p1 := A.cell 1 _ rfl
        have p2 := A.cell 2 _ rfl
        have p3 := A.cell 3 _ rfl
        have f0 := A.free 0 _ rfl
        have f1 := A.free 1 _ rfl
        have f2 := A.free 2 _ rfl
        have f3 := A.free 3 _ rfl
        refine line_alone rfl (by kernel_rfl) (fun K hK => ?_)
        go_big_op
        refine hK _ _ (⟨(by (iterate 4 (refine bset ?_ (by dsimp only; omega) _)); exact hst.out)⟩) ?_
        clear hK K
        have A9 := (((A.set 0 (.int .i64 (M.at2 zs 0))).set 1 (.int .i64 y2)).set 2 (.slice (some ⟨x15.heap.size, 0, none⟩) (len - 2 - 4) (len - 2 - 4))).set 3 (.int .i64 (M.at2 zs (zs.length - 2)))
        refine line_nil ?_
        go_wp2_with fail
        go_meet
        case rel => exact ⟨_, _, _, _, rfl, A9, (by (iterate 4 (refine Own.setCell ?_ (fun g hg => by simp [Value.ownBlock] at hg; dsimp only; omega) _)); exact O.less (by omega)), leA, (fun q hq e => by simp [Value.ownBlock] at hq; omega), (by (iterate 4 (refine bset ?_ (by dsimp only; omega) _)); exact hst.out)⟩
    · go_big_op
      have hst2 := hst.on (bal (Below.refl _ V1) (.cells #[.int .i64 0, .int .i64 0, .slice none 0 0, .int .i64 0] 66))
      have A := At.new V1 (L4 0 0 none 0 0 0) 66
      have ltA : V1.heap.size < (V1.alloc (.cells #[.int .i64 0, .int .i64 0, .slice none 0 0, .int .i64 0] 66)).heap.size := by simp
      have leA : W0.heap.size ≤ V1.heap.size := hst.out.size
      refine hK _ _ hst2 ?_
      clear hK K hst
      have hst := hst2
      clear hst2
      generalize V1.alloc (.cells #[.int .i64 0, .int .i64 0, .slice none 0 0, .int .i64 0] 66) = x15 at *
      refine any_rest [(1, false), (9, false), (13, false), (14, true), (16, false)] (by kernel_rfl) (fun _ _ d _ _ h => by cases d <;> exact h) ?_
      refine line_alone rfl (by kernel_rfl) (fun K hK => ?_)
      refine call_any (args := #[.slice (some ⟨b, off, none⟩) len cap]) rfl (by kernel_rfl) (by kernel_rfl) (T1 _ hst.out) ?_
      rintro e x1 ⟨rfl, hbn⟩
      have hst2 := hst.on hbn
      have szx1 := hbn.size
      have A2 := A.on hbn
      clear A
      have A := A2
      clear A2
      refine ⟨_, rfl, hK _ _ hst2 ?_⟩
      clear hK K hst
      have hst := hst2
      clear hst2
      simp only [Act.put, List.setIfInBounds_toArray, List.set_cons_zero, List.set_cons_succ]
      clear hbn
      refine line_alone rfl (by kernel_rfl) (fun K hK => ?_)
      refine call_any (args := #[.slice (some ⟨b, off + 4, none⟩) (len - 2 - 4) (cap - 4)]) rfl (by kernel_rfl) (by kernel_rfl) (TC _ hst.out) ?_
      rintro e x9 ⟨rfl, O, hbn⟩
      have hst2 := hst.on hbn
      have szx9 := hbn.size
      have ltO : x1.heap.size < x9.heap.size := (O.lt _ rfl).2
      have A2 := A.on hbn
      clear A
      have A := A2
      clear A2
      refine ⟨_, rfl, hK _ _ hst2 ?_⟩
      clear hK K hst
      have hst := hst2
      clear hst2
      simp only [Act.put, List.setIfInBounds_toArray, List.set_cons_zero, List.set_cons_succ]
      clear hbn
      refine line_alone rfl (by kernel_rfl) (fun K hK => ?_)
      refine call_any (args := #[.slice (some ⟨b, off + (len - 2), none⟩) (len - (len - 2)) (cap - (len - 2))]) rfl (by kernel_rfl) (by kernel_rfl) (T2 _ hst.out) ?_
      rintro e x13 ⟨rfl, hbn⟩
      have hst2 := hst.on hbn
      have szx13 := hbn.size
      have O2 := O.below hbn
      clear O
      have O := O2
      clear O2
      have A2 := A.on hbn
      clear A
      have A := A2
      clear A2
      refine ⟨_, rfl, hK _ _ hst2 ?_⟩
      clear hK K hst
      have hst := hst2
      clear hst2
      simp only [Act.put, List.setIfInBounds_toArray, List.set_cons_zero, List.set_cons_succ]
      clear hbn
      refine line_readv (v := R4 (M.at2 zs 0) y2 (some ⟨x1.heap.size, 0, none⟩) (len - 2 - 4) (len - 2 - 4) (M.at2 zs (zs.length - 2))) rfl (by kernel_rfl) (fun _ => by kernel_rfl) ?_
      simp only [Act.put, List.setIfInBounds_toArray, List.set_cons_zero, List.set_cons_succ]
      have leO : W0.heap.size ≤ x1.heap.size := by omega
      have hne : x1.heap.size ≠ V1.heap.size := by omega
      have p0 := A.cell 0 _ rfl
      have p1 := A.cell 1 _ rfl
      have p2 := A.cell 2 _ rfl
      have p3 := A.cell 3 _ rfl
      have f0 := A.free 0 _ rfl
      have f1 := A.free 1 _ rfl
      have f2 := A.free 2 _ rfl
      have f3 := A.free 3 _ rfl
      refine line_alone rfl (by kernel_rfl) (fun K hK => ?_)
      go_big_op
      refine hK _ _ (⟨(by (iterate 4 (refine bset ?_ (by dsimp only; omega) _)); exact hst.out)⟩) ?_
      clear hK K
      have A9 := (((A.set 0 (.int .i64 (M.at2 zs 0))).set 1 (.int .i64 y2)).set 2 (.slice (some ⟨x1.heap.size, 0, none⟩) (len - 2 - 4) (len - 2 - 4))).set 3 (.int .i64 (M.at2 zs (zs.length - 2)))
      refine line_nil ?_
      go_wp2_with fail
      go_meet
      case rel => exact ⟨_, _, _, _, rfl, A9, (by (iterate 4 (refine Own.setCell ?_ (fun g hg => by simp [Value.ownBlock] at hg; dsimp only; omega) _)); exact O.less (by omega)), leA, (fun q hq e => by simp [Value.ownBlock] at hq; omega), (by (iterate 4 (refine bset ?_ (by dsimp only; omega) _)); exact hst.out)⟩
  case rest =>
    obtain ⟨g, a2, n2, c2, hv, A2, O2, hg, hne, b2⟩ := hcut
    have hn2 : n2 = zs.length - 6 := O2.len.trans (M.rdD_length (by rw [HL.out]; exact h6))
    have hB : M.rdB zs = decide (M.recF (M.at2 zs 0) y2 (M.at2 zs (zs.length - 2)) n2 = 0) := by
      rw [hn2]
      simp only [M.rdB, M.rdL, HY2.out, HY3.out, HL.out]
      simp [h6, H3.out]
    have F := fun w => implRecordFault_any (M.at2 zs 0) y2 a2 n2 c2 (M.at2 zs (zs.length - 2)) w (by rw [hn2, HL.out]; simp only [maxLen]; omega)
    have HB := Lib.hid hB
    have H2 := Lib.hid hn2
    subst hv
    have ltW : w.heap.size < g := by omega
    clear hn2 hB
    by_cases h0 : M.recF (M.at2 zs 0) y2 (M.at2 zs (zs.length - 2)) n2 = 0
    · rw [h0] at F
      have hyes : M.rdB zs = true := by rw [HB.out]; simp [h0]
      have HY := Lib.hid hyes
      clear h0 hyes HB
      have p0 := A2.cell 0 _ rfl
      have p1 := A2.cell 1 _ rfl
      have p2 := A2.cell 2 _ rfl
      have p3 := A2.cell 3 _ rfl
      go_wp2_with fail
      refine (F _).mono ?_
      rintro r w5 ⟨rfl, b5⟩
      have x0 := (A2.on b5).cell 0 _ rfl
      have x1 := (A2.on b5).cell 1 _ rfl
      have x2 := (A2.on b5).cell 2 _ rfl
      have x3 := (A2.on b5).cell 3 _ rfl
      have q0 := ((A0.on b2).on b5).cell 0 _ rfl
      have q1 := ((A0.on b2).on b5).cell 1 _ rfl
      have q2 := ((A0.on b2).on b5).cell 2 _ rfl
      have q3 := ((A0.on b2).on b5).cell 3 _ rfl
      have q4 := ((A0.on b2).on b5).cell 4 _ rfl
      have z0 := ((A0.on b2).on b5).free 0 _ rfl
      have z1 := ((A0.on b2).on b5).free 1 _ rfl
      have z2 := ((A0.on b2).on b5).free 2 _ rfl
      have z3 := ((A0.on b2).on b5).free 3 _ rfl
      have z4 := ((A0.on b2).on b5).free 4 _ rfl
      have HT := Lib.hid (And.intro (O2.below b5) (btr b0 (btr b2 b5)))
      clear A2 O2 b2 b5 F p0 p1 p2 p3 A0
      go_wp2_with fail
      refine bodyPost_ret (v := R5 0 (M.at2 zs 0) y2 a2 n2 c2 (M.at2 zs (zs.length - 2))) (by simp [results, Tryd.results51, go_sem, q0, q1, q2, q3, q4]) rfl ?_
      refine ReadRes.yes HY.out ?_
      rw [HY2.out]
      exact ⟨_, _, _, rfl, (by (iterate 5 (refine Own.setCell ?_ (fun g hg => by have := (HT.out.1.lt g hg).1; dsimp only; omega) _)); exact HT.out.1.less (by omega)), (by (iterate 5 (refine bset ?_ (by dsimp only; omega) _)); exact HT.out.2)⟩
    · have hno : M.rdB zs = false := by rw [HB.out]; simp [h0]
      have HN := Lib.hid hno
      have k0 : (M.recF (M.at2 zs 0) y2 (M.at2 zs (zs.length - 2)) n2 != 0) = true := by simpa [bne] using h0
      generalize M.recF (M.at2 zs 0) y2 (M.at2 zs (zs.length - 2)) n2 = cd at *
      clear h0 hno HB
      have p0 := A2.cell 0 _ rfl
      have p1 := A2.cell 1 _ rfl
      have p2 := A2.cell 2 _ rfl
      have p3 := A2.cell 3 _ rfl
      go_wp2_with fail
      refine (F _).mono ?_
      rintro r w5 ⟨rfl, b5⟩
      have q0 := ((A0.on b2).on b5).cell 0 _ rfl
      have q1 := ((A0.on b2).on b5).cell 1 _ rfl
      have q2 := ((A0.on b2).on b5).cell 2 _ rfl
      have q3 := ((A0.on b2).on b5).cell 3 _ rfl
      have q4 := ((A0.on b2).on b5).cell 4 _ rfl
      have z0 := ((A0.on b2).on b5).free 0 _ rfl
      have z1 := ((A0.on b2).on b5).free 1 _ rfl
      have z2 := ((A0.on b2).on b5).free 2 _ rfl
      have z3 := ((A0.on b2).on b5).free 3 _ rfl
      have z4 := ((A0.on b2).on b5).free 4 _ rfl
      have HT := Lib.hid (btr b0 (btr b2 b5))
      clear A2 O2 b2 b5 F p0 p1 p2 p3 A0
      go_wp2_with fail
      refine bodyPost_ret (v := R5 5 0 0 none 0 0 0) (by simp [results, Tryd.results51, go_sem, q0, q1, q2, q3, q4]) rfl ?_
      refine ReadRes.no HN.out ?_
      exact ⟨_, _, _, rfl, Own.nil _ _ _, (by (iterate 5 (refine bset ?_ (by dsimp only; omega) _)); exact HT.out)⟩

theorem implReadRecord_any (a : Option Addr) (len cap B : Nat) (zs : List Int) (w : World) (hR : Row .u8 w B a len cap zs) (hB : B ≤ w.heap.size) (hl : len ≤ 1048576) :
    Calls Tryd.prog 51 #[.slice a len cap] w (ReadRes zs w) := by
  have hlen := hR.fits
  have hmost := hR.most
  have b0 := bal (Below.refl _ w) (.cells #[.int .i64 5, .int .i64 0, .int .i64 0, .slice none 0 0, .int .i64 0] 68)
  by_cases h6 : len < 6
  · have F : ReadRes zs w (.returned (R5 5 0 0 none 0 0 0)) (w.alloc (.cells #[.int .i64 5, .int .i64 0, .int .i64 0, .slice none 0 0, .int .i64 0] 68)) :=
      ReadRes.no (by simp [M.rdB, M.rdL, hR.length]; omega) ⟨_, _, _, rfl, Own.nil _ _ _, b0⟩
    clear hR
    unfold maxLen at hmost
    go_enter Tryd.func51, Tryd.ntmps51
    go_wp2_with fail
    exact bodyPost_ret (v := R5 5 0 0 none 0 0 0) (by simp [results, Tryd.results51, go_sem]) rfl F
  by_cases h3 : (len : Int) = 6 + zs.getD 3 0
  · exact implReadRecord_len a len cap B zs w hR hB (by omega) h3 hl
  · have F : ReadRes zs w (.returned (R5 5 0 0 none 0 0 0)) (w.alloc (.cells #[.int .i64 5, .int .i64 0, .int .i64 0, .slice none 0 0, .int .i64 0] 68)) :=
      ReadRes.no (by simp only [M.rdB, M.rdL, hR.length, h3, decide_false, Bool.and_false, Bool.false_and]) ⟨_, _, _, rfl, Own.nil _ _ _, b0⟩
    obtain ⟨b, off, rfl, hb, hc⟩ := hR.cells (by omega)
    have e3 := cell_keep (bal (Below.refl _ w) (.cells #[.int .i64 0, .int .i64 0, .int .i64 0, .slice none 0 0, .int .i64 0] 68)) (hc 3 (by omega))
    obtain ⟨x30, x31⟩ := hR.byte 3
    have h3' : ((len : Int) - 2 - 4 != zs.getD 3 0) = true := by
      rw [bne_iff_ne]
      omega
    clear h3 hc hR b0
    generalize zs.getD 3 0 = y3 at *
    unfold maxLen at hmost
    go_enter Tryd.func51, Tryd.ntmps51
    go_wp2_with fail
    exact bodyPost_ret (v := R5 5 0 0 none 0 0 0) (by simp [results, Tryd.results51, go_sem]) rfl F

/-- What the model reads out of bytes, and whether these are a record's. -/
def L4Res (zs : List Int) (w : World) (r : Ending) (w' : World) : Prop :=
  ∃ s k a n c t xs, r = .returned (.tuple #[R4 s k a n c t, .bool (M.rdB zs)]) ∧ OwnK .u8 w' w.heap.size (.slice a n c) xs ∧ (M.rdB zs = true → s = M.at2 zs 0 ∧ k = zs.getD 2 0 ∧ t = M.at2 zs (zs.length - 2) ∧ xs = M.rdD zs) ∧ Below w.heap.size w w'

theorem l4Read_len (a : Option Addr) (len cap B : Nat) (zs : List Int) (w : World) (hR : Row .u8 w B a len cap zs) (hB : B ≤ w.heap.size) (h6 : 6 ≤ len) (h3 : (len : Int) = 6 + zs.getD 3 0) (hl : len ≤ 1048576) :
    Calls Tryd.prog 125 #[.slice a len cap] w (L4Res zs w) := by
  have hlen := hR.fits
  have hmost := hR.most
  obtain ⟨b, off, rfl, hb, hc⟩ := hR.cells (by omega)
  have b0 := bal (Below.refl _ w) (.cells #[.int .i64 0, .int .i64 0, .slice none 0 0, .int .i64 0] 66)
  have A0 : At w.heap.size (L4 0 0 none 0 0 0) (w.alloc (.cells #[.int .i64 0, .int .i64 0, .slice none 0 0, .int .i64 0] 66)) := At.new w (L4 0 0 none 0 0 0) 66
  have e0 := cell_keep b0 (hc 0 (by omega))
  have e1 := cell_keep b0 (hc 1 (by omega))
  have e2 := cell_keep b0 (hc 2 (by omega))
  have e3 := cell_keep b0 (hc 3 (by omega))
  have e4 := cell_keep b0 (hc (len - 2) (by omega))
  have e5 := cell_keep b0 (hc (len - 2 + 1) (by omega))
  obtain ⟨x00, x01⟩ := hR.byte 0
  obtain ⟨x10, x11⟩ := hR.byte 1
  obtain ⟨x20, x21⟩ := hR.byte 2
  obtain ⟨x30, x31⟩ := hR.byte 3
  obtain ⟨x40, x41⟩ := hR.byte (len - 2)
  obtain ⟨x50, x51⟩ := hR.byte (len - 2 + 1)
  have hl2 : len ≤ 261 := by omega
  have R0 := hR.below (b0.mono hB)
  have hzl := hR.length
  have E0 : M.at2 zs 0 = 256 * zs.getD 0 0 + zs.getD 1 0 := rfl
  have E1 : M.at2 zs (zs.length - 2) = 256 * zs.getD (len - 2) 0 + zs.getD (len - 2 + 1) 0 := by rw [hzl]; rfl
  have h3' : ((len : Int) != 6 + zs.getD 3 0) = false := by
    rw [h3]
    exact bne_self_eq_false _
  have H3 := Lib.hid h3
  have HL := Lib.hid hzl
  clear h3 hzl
  obtain ⟨y2, HY2⟩ : ∃ y, Hid (zs.getD 2 0 = y) := ⟨_, Lib.hid rfl⟩
  obtain ⟨y3, HY3⟩ : ∃ y, Hid (zs.getD 3 0 = y) := ⟨_, Lib.hid rfl⟩
  rw [HY2.out] at x20 x21 e2
  rw [HY3.out] at x30 x31 e3 h3' H3
  generalize zs.getD 0 0 = y0 at *
  generalize zs.getD 1 0 = y1 at *
  generalize zs.getD (len - 2) 0 = y4 at *
  generalize zs.getD (len - 2 + 1) 0 = y5 at *
  have hmx := hmost
  unfold maxLen at hmost
  clear hc
  have hW0 : w.heap.size < (w.alloc (.cells #[.int .i64 0, .int .i64 0, .slice none 0 0, .int .i64 0] 66)).heap.size := by simp
  obtain ⟨W0, hW⟩ : ∃ W0, w.alloc (.cells #[.int .i64 0, .int .i64 0, .slice none 0 0, .int .i64 0] 66) = W0 := ⟨_, rfl⟩
  rw [hW] at b0 A0 e0 e1 e2 e4 e5 R0 hW0
  have HW := Lib.hid hW
  clear hW
  have eK : ((len - 2 : Nat) : Int) = (len : Int) - 2 := by omega
  have T1 := fun (cur : World) (h : Below W0.heap.size W0 cur) => l1At_any b off len cap 0 y0 y1 cur (by omega) (by omega) hlen hmx (cell_keep h e0) (cell_keep h e1) x00 x01 x10 x11
  have T2 := fun (cur : World) (h : Below W0.heap.size W0 cur) => l1At_any b off len cap (len - 2) y4 y5 cur (by omega) (by omega) hlen hmx (cell_keep h e4) (cell_keep h e5) x40 x41 x50 x51
  rw [eK] at T2
  clear eK
  have RS := R0.sub 4 (len - 2 - 4) (cap - 4) (by omega) (by omega) (by omega)
  have ED : (zs.drop 4).take (len - 2 - 4) = M.rdD zs := by unfold M.rdD; rw [HL.out]; congr 1
  rw [ED] at RS
  have TC := fun (cur : World) (h : Below W0.heap.size W0 cur) => l1Copy_any _ _ _ B _ cur (RS.below (h.mono (by omega))) (by have := h.size; omega) (by omega)
  rw [← E0] at T1
  rw [← E1] at T2
  clear E0 E1 ED
  go_enter Tryd.func125, Tryd.ntmps125
  go_upto_region 4 with fail
  rw [HW.out]
  go_cut [5] from 23 to 36 (fun v wx => RecLaid W0 (M.at2 zs 0) y2 (M.rdD zs) (M.at2 zs (zs.length - 2)) v wx)
  case first =>
    refine wp_region_fork (Bel W0) (by kernel_rfl) (Bel.drew W0) ?_
    have hst : (Bel W0) _ := (Bel.drew W0)
    have inst : Nonempty (Of (Bel W0)) := ⟨⟨_, hst⟩⟩
    have u0 := bel_cell e2
    generalize W0.drew = V1 at *
    refine any_seg 6 [(0, true), (2, true), (3, true), (4, true), (5, true), (6, true), (7, true), (8, true), (10, true), (11, true)] (by kernel_rfl) (fun _ _ d _ _ h => by cases d <;> exact h) ?_
    iterate 10 (refine line_read rfl (by kernel_rfl) (fun K hK => ?_); go_big_quiet_op; refine hK _ ?_; clear hK K)
    refine line_nil ?_
    have szV1 := hst.out.size
    refine any_fork 1 14 (by kernel_rfl) rfl rfl (by kernel_rfl) (by kernel_rfl) (fun K hK => ?_) (fun K hK => ?_)
    · refine call_any (args := #[.slice (some ⟨b, off, none⟩) len cap, .int .i64 0]) rfl (by kernel_rfl) (by kernel_rfl) (T1 _ hst.out) ?_
      rintro e x1 ⟨rfl, hbn⟩
      have hst2 := hst.on hbn
      have szx1 := hbn.size
      refine ⟨_, rfl, hK _ _ hst2 ?_⟩
      clear hK K hst
      have hst := hst2
      clear hst2
      simp only [Act.put, List.setIfInBounds_toArray, List.set_cons_zero, List.set_cons_succ]
      clear hbn
      refine any_fork 9 14 (by kernel_rfl) rfl rfl (by kernel_rfl) (by kernel_rfl) (fun K hK => ?_) (fun K hK => ?_)
      · refine call_any (args := #[.slice (some ⟨b, off + 4, none⟩) (len - 2 - 4) (cap - 4)]) rfl (by kernel_rfl) (by kernel_rfl) (TC _ hst.out) ?_
        rintro e x9 ⟨a9, n9, c9, rfl, O, hbn⟩
        have hst2 := hst.on hbn
        have szx9 := hbn.size
        have OL := Lib.hid (fun q (hq : Value.ownBlock (.slice a9 n9 c9) = some q) => O.lt q hq)
        refine ⟨_, rfl, hK _ _ hst2 ?_⟩
        clear hK K hst
        have hst := hst2
        clear hst2
        simp only [Act.put, List.setIfInBounds_toArray, List.set_cons_zero, List.set_cons_succ]
        clear hbn
        refine any_fork 12 14 (by kernel_rfl) rfl rfl (by kernel_rfl) (by kernel_rfl) (fun K hK => ?_) (fun K hK => ?_)
        · refine call_any (args := #[.slice (some ⟨b, off, none⟩) len cap, .int .i64 ((len : Int) - 2)]) rfl (by kernel_rfl) (by kernel_rfl) (T2 _ hst.out) ?_
          rintro e x13 ⟨rfl, hbn⟩
          have hst2 := hst.on hbn
          have szx13 := hbn.size
          have O2 := O.below hbn
          clear O
          have O := O2
          clear O2
          refine ⟨_, rfl, hK _ _ hst2 ?_⟩
          clear hK K hst
          have hst := hst2
          clear hst2
          simp only [Act.put, List.setIfInBounds_toArray, List.set_cons_zero, List.set_cons_succ]
          clear hbn
          refine any_rest [(13, true), (14, false), (15, false)] (by kernel_rfl) (fun _ _ d _ _ h => by cases d <;> exact h) ?_
          refine line_readv (v := R4 (M.at2 zs 0) y2 a9 n9 c9 (M.at2 zs (zs.length - 2))) rfl (by kernel_rfl) (fun _ => by kernel_rfl) ?_
          simp only [Act.put, List.setIfInBounds_toArray, List.set_cons_zero, List.set_cons_succ]
          refine line_alone rfl (by kernel_rfl) (fun K hK => ?_)
          go_big_op
          have hst2 := hst.on (bal (Below.refl _ x13) (.cells #[.int .i64 0, .int .i64 0, .slice none 0 0, .int .i64 0] 66))
          have A := At.new x13 (L4 0 0 none 0 0 0) 66
          have ltA : x13.heap.size < (x13.alloc (.cells #[.int .i64 0, .int .i64 0, .slice none 0 0, .int .i64 0] 66)).heap.size := by simp
          have leA : W0.heap.size ≤ x13.heap.size := hst.out.size
          have O2 := O.alloc (.cells #[.int .i64 0, .int .i64 0, .slice none 0 0, .int .i64 0] 66)
          clear O
          have O := O2
          clear O2
          refine hK _ _ hst2 ?_
          clear hK K hst
          have hst := hst2
          clear hst2
          generalize x13.alloc (.cells #[.int .i64 0, .int .i64 0, .slice none 0 0, .int .i64 0] 66) = x15 at *
          have leO : W0.heap.size ≤ x1.heap.size := by omega
          have hne : ∀ q, Value.ownBlock (.slice a9 n9 c9) = some q → q ≠ x13.heap.size := fun q hq => by have := OL.out q hq; omega
          have HN := Lib.hid hne
          clear hne
          have p0 := A.cell 0 _ rfl
          have p1 := A.cell 1 _ rfl
          have p2 := A.cell 2 _ rfl
          have p3 := A.cell 3 _ rfl
          have f0 := A.free 0 _ rfl
          have f1 := A.free 1 _ rfl
          have f2 := A.free 2 _ rfl
          have f3 := A.free 3 _ rfl
          refine line_alone rfl (by kernel_rfl) (fun K hK => ?_)
          go_big_op
          refine hK _ _ (⟨(by (iterate 4 (refine bset ?_ (by dsimp only; omega) _)); exact hst.out)⟩) ?_
          clear hK K
          have A9 := (((A.set 0 (.int .i64 (M.at2 zs 0))).set 1 (.int .i64 y2)).set 2 (.slice a9 n9 c9)).set 3 (.int .i64 (M.at2 zs (zs.length - 2)))
          refine line_nil ?_
          go_wp2_with fail
          go_meet
          case rel => exact ⟨_, _, _, _, rfl, A9, (by (iterate 4 (refine Own.setCell ?_ (fun g hg => HN.out g hg) _)); exact O.less (by omega)), leA, HN.out, (by (iterate 4 (refine bset ?_ (by dsimp only; omega) _)); exact hst.out)⟩
        · go_big_op
          have hst2 := hst.on (bal (Below.refl _ x9) (.cells #[.int .i64 0, .int .i64 0, .slice none 0 0, .int .i64 0] 66))
          have A := At.new x9 (L4 0 0 none 0 0 0) 66
          have ltA : x9.heap.size < (x9.alloc (.cells #[.int .i64 0, .int .i64 0, .slice none 0 0, .int .i64 0] 66)).heap.size := by simp
          have leA : W0.heap.size ≤ x9.heap.size := hst.out.size
          have O2 := O.alloc (.cells #[.int .i64 0, .int .i64 0, .slice none 0 0, .int .i64 0] 66)
          clear O
          have O := O2
          clear O2
          refine hK _ _ hst2 ?_
          clear hK K hst
          have hst := hst2
          clear hst2
          generalize x9.alloc (.cells #[.int .i64 0, .int .i64 0, .slice none 0 0, .int .i64 0] 66) = x15 at *
          refine any_rest [(12, false), (13, true), (15, false)] (by kernel_rfl) (fun _ _ d _ _ h => by cases d <;> exact h) ?_
          refine line_alone rfl (by kernel_rfl) (fun K hK => ?_)
          refine call_any (args := #[.slice (some ⟨b, off, none⟩) len cap, .int .i64 ((len : Int) - 2)]) rfl (by kernel_rfl) (by kernel_rfl) (T2 _ hst.out) ?_
          rintro e x13 ⟨rfl, hbn⟩
          have hst2 := hst.on hbn
          have szx13 := hbn.size
          have O2 := O.below hbn
          clear O
          have O := O2
          clear O2
          have A2 := A.on hbn
          clear A
          have A := A2
          clear A2
          refine ⟨_, rfl, hK _ _ hst2 ?_⟩
          clear hK K hst
          have hst := hst2
          clear hst2
          simp only [Act.put, List.setIfInBounds_toArray, List.set_cons_zero, List.set_cons_succ]
          clear hbn
          refine line_readv (v := R4 (M.at2 zs 0) y2 a9 n9 c9 (M.at2 zs (zs.length - 2))) rfl (by kernel_rfl) (fun _ => by kernel_rfl) ?_
          simp only [Act.put, List.setIfInBounds_toArray, List.set_cons_zero, List.set_cons_succ]
          have leO : W0.heap.size ≤ x1.heap.size := by omega
          have hne : ∀ q, Value.ownBlock (.slice a9 n9 c9) = some q → q ≠ x9.heap.size := fun q hq => by have := OL.out q hq; omega
          have HN := Lib.hid hne
          clear hne
          have p0 := A.cell 0 _ rfl
          have p1 := A.cell 1 _ rfl
          have p2 := A.cell 2 _ rfl
          have p3 := A.cell 3 _ rfl
          have f0 := A.free 0 _ rfl
          have f1 := A.free 1 _ rfl
          have f2 := A.free 2 _ rfl
          have f3 := A.free 3 _ rfl
          refine line_alone rfl (by kernel_rfl) (fun K hK => ?_)
          go_big_op
          refine hK _ _ (⟨(by (iterate 4 (refine bset ?_ (by dsimp only; omega) _)); exact hst.out)⟩) ?_
          clear hK K
          have A9 := (((A.set 0 (.int .i64 (M.at2 zs 0))).set 1 (.int .i64 y2)).set 2 (.slice a9 n9 c9)).set 3 (.int .i64 (M.at2 zs (zs.length - 2)))
          refine line_nil ?_
          go_wp2_with fail
          go_meet
          case rel => exact ⟨_, _, _, _, rfl, A9, (by (iterate 4 (refine Own.setCell ?_ (fun g hg => HN.out g hg) _)); exact O.less (by omega)), leA, HN.out, (by (iterate 4 (refine bset ?_ (by dsimp only; omega) _)); exact hst.out)⟩
      · go_big_op
        have hst2 := hst.on (bal (Below.refl _ x1) (.cells #[.int .i64 0, .int .i64 0, .slice none 0 0, .int .i64 0] 66))
        have A := At.new x1 (L4 0 0 none 0 0 0) 66
        have ltA : x1.heap.size < (x1.alloc (.cells #[.int .i64 0, .int .i64 0, .slice none 0 0, .int .i64 0] 66)).heap.size := by simp
        have leA : W0.heap.size ≤ x1.heap.size := hst.out.size
        refine hK _ _ hst2 ?_
        clear hK K hst
        have hst := hst2
        clear hst2
        generalize x1.alloc (.cells #[.int .i64 0, .int .i64 0, .slice none 0 0, .int .i64 0] 66) = x15 at *
        refine any_rest [(9, false), (12, false), (13, true), (15, false)] (by kernel_rfl) (fun _ _ d _ _ h => by cases d <;> exact h) ?_
        refine line_alone rfl (by kernel_rfl) (fun K hK => ?_)
        refine call_any (args := #[.slice (some ⟨b, off + 4, none⟩) (len - 2 - 4) (cap - 4)]) rfl (by kernel_rfl) (by kernel_rfl) (TC _ hst.out) ?_
        rintro e x9 ⟨a9, n9, c9, rfl, O, hbn⟩
        have hst2 := hst.on hbn
        have szx9 := hbn.size
        have OL := Lib.hid (fun q (hq : Value.ownBlock (.slice a9 n9 c9) = some q) => O.lt q hq)
        have A2 := A.on hbn
        clear A
        have A := A2
        clear A2
        refine ⟨_, rfl, hK _ _ hst2 ?_⟩
        clear hK K hst
        have hst := hst2
        clear hst2
        simp only [Act.put, List.setIfInBounds_toArray, List.set_cons_zero, List.set_cons_succ]
        clear hbn
        refine line_alone rfl (by kernel_rfl) (fun K hK => ?_)
        refine call_any (args := #[.slice (some ⟨b, off, none⟩) len cap, .int .i64 ((len : Int) - 2)]) rfl (by kernel_rfl) (by kernel_rfl) (T2 _ hst.out) ?_
        rintro e x13 ⟨rfl, hbn⟩
        have hst2 := hst.on hbn
        have szx13 := hbn.size
        have O2 := O.below hbn
        clear O
        have O := O2
        clear O2
        have A2 := A.on hbn
        clear A
        have A := A2
        clear A2
        refine ⟨_, rfl, hK _ _ hst2 ?_⟩
        clear hK K hst
        have hst := hst2
        clear hst2
        simp only [Act.put, List.setIfInBounds_toArray, List.set_cons_zero, List.set_cons_succ]
        clear hbn
        refine line_readv (v := R4 (M.at2 zs 0) y2 a9 n9 c9 (M.at2 zs (zs.length - 2))) rfl (by kernel_rfl) (fun _ => by kernel_rfl) ?_
        simp only [Act.put, List.setIfInBounds_toArray, List.set_cons_zero, List.set_cons_succ]
        have leO : W0.heap.size ≤ x15.heap.size := by omega
        have hne : ∀ q, Value.ownBlock (.slice a9 n9 c9) = some q → q ≠ x1.heap.size := fun q hq => by have := OL.out q hq; omega
        have HN := Lib.hid hne
        clear hne
        have p0 := A.cell 0 _ rfl
        have p1 := A.cell 1 _ rfl
        have p2 := A.cell 2 _ rfl
        have p3 := A.cell 3 _ rfl
        have f0 := A.free 0 _ rfl
        have f1 := A.free 1 _ rfl
        have f2 := A.free 2 _ rfl
        have f3 := A.free 3 _ rfl
        refine line_alone rfl (by kernel_rfl) (fun K hK => ?_)
        go_big_op
        refine hK _ _ (⟨(by (iterate 4 (refine bset ?_ (by dsimp only; omega) _)); exact hst.out)⟩) ?_
        clear hK K
        have A9 := (((A.set 0 (.int .i64 (M.at2 zs 0))).set 1 (.int .i64 y2)).set 2 (.slice a9 n9 c9)).set 3 (.int .i64 (M.at2 zs (zs.length - 2)))
        refine line_nil ?_
        go_wp2_with fail
        go_meet
        case rel => exact ⟨_, _, _, _, rfl, A9, (by (iterate 4 (refine Own.setCell ?_ (fun g hg => HN.out g hg) _)); exact O.less (by omega)), leA, HN.out, (by (iterate 4 (refine bset ?_ (by dsimp only; omega) _)); exact hst.out)⟩
    · go_big_op
      have hst2 := hst.on (bal (Below.refl _ V1) (.cells #[.int .i64 0, .int .i64 0, .slice none 0 0, .int .i64 0] 66))
      have A := At.new V1 (L4 0 0 none 0 0 0) 66
      have ltA : V1.heap.size < (V1.alloc (.cells #[.int .i64 0, .int .i64 0, .slice none 0 0, .int .i64 0] 66)).heap.size := by simp
      have leA : W0.heap.size ≤ V1.heap.size := hst.out.size
      refine hK _ _ hst2 ?_
      clear hK K hst
      have hst := hst2
      clear hst2
      generalize V1.alloc (.cells #[.int .i64 0, .int .i64 0, .slice none 0 0, .int .i64 0] 66) = x15 at *
      refine any_rest [(1, false), (9, false), (12, false), (13, true), (15, false)] (by kernel_rfl) (fun _ _ d _ _ h => by cases d <;> exact h) ?_
      refine line_alone rfl (by kernel_rfl) (fun K hK => ?_)
      refine call_any (args := #[.slice (some ⟨b, off, none⟩) len cap, .int .i64 0]) rfl (by kernel_rfl) (by kernel_rfl) (T1 _ hst.out) ?_
      rintro e x1 ⟨rfl, hbn⟩
      have hst2 := hst.on hbn
      have szx1 := hbn.size
      have A2 := A.on hbn
      clear A
      have A := A2
      clear A2
      refine ⟨_, rfl, hK _ _ hst2 ?_⟩
      clear hK K hst
      have hst := hst2
      clear hst2
      simp only [Act.put, List.setIfInBounds_toArray, List.set_cons_zero, List.set_cons_succ]
      clear hbn
      refine line_alone rfl (by kernel_rfl) (fun K hK => ?_)
      refine call_any (args := #[.slice (some ⟨b, off + 4, none⟩) (len - 2 - 4) (cap - 4)]) rfl (by kernel_rfl) (by kernel_rfl) (TC _ hst.out) ?_
      rintro e x9 ⟨a9, n9, c9, rfl, O, hbn⟩
      have hst2 := hst.on hbn
      have szx9 := hbn.size
      have OL := Lib.hid (fun q (hq : Value.ownBlock (.slice a9 n9 c9) = some q) => O.lt q hq)
      have A2 := A.on hbn
      clear A
      have A := A2
      clear A2
      refine ⟨_, rfl, hK _ _ hst2 ?_⟩
      clear hK K hst
      have hst := hst2
      clear hst2
      simp only [Act.put, List.setIfInBounds_toArray, List.set_cons_zero, List.set_cons_succ]
      clear hbn
      refine line_alone rfl (by kernel_rfl) (fun K hK => ?_)
      refine call_any (args := #[.slice (some ⟨b, off, none⟩) len cap, .int .i64 ((len : Int) - 2)]) rfl (by kernel_rfl) (by kernel_rfl) (T2 _ hst.out) ?_
      rintro e x13 ⟨rfl, hbn⟩
      have hst2 := hst.on hbn
      have szx13 := hbn.size
      have O2 := O.below hbn
      clear O
      have O := O2
      clear O2
      have A2 := A.on hbn
      clear A
      have A := A2
      clear A2
      refine ⟨_, rfl, hK _ _ hst2 ?_⟩
      clear hK K hst
      have hst := hst2
      clear hst2
      simp only [Act.put, List.setIfInBounds_toArray, List.set_cons_zero, List.set_cons_succ]
      clear hbn
      refine line_readv (v := R4 (M.at2 zs 0) y2 a9 n9 c9 (M.at2 zs (zs.length - 2))) rfl (by kernel_rfl) (fun _ => by kernel_rfl) ?_
      simp only [Act.put, List.setIfInBounds_toArray, List.set_cons_zero, List.set_cons_succ]
      have leO : W0.heap.size ≤ x1.heap.size := by omega
      have hne : ∀ q, Value.ownBlock (.slice a9 n9 c9) = some q → q ≠ V1.heap.size := fun q hq => by have := OL.out q hq; omega
      have HN := Lib.hid hne
      clear hne
      have p0 := A.cell 0 _ rfl
      have p1 := A.cell 1 _ rfl
      have p2 := A.cell 2 _ rfl
      have p3 := A.cell 3 _ rfl
      have f0 := A.free 0 _ rfl
      have f1 := A.free 1 _ rfl
      have f2 := A.free 2 _ rfl
      have f3 := A.free 3 _ rfl
      refine line_alone rfl (by kernel_rfl) (fun K hK => ?_)
      go_big_op
      refine hK _ _ (⟨(by (iterate 4 (refine bset ?_ (by dsimp only; omega) _)); exact hst.out)⟩) ?_
      clear hK K
      have A9 := (((A.set 0 (.int .i64 (M.at2 zs 0))).set 1 (.int .i64 y2)).set 2 (.slice a9 n9 c9)).set 3 (.int .i64 (M.at2 zs (zs.length - 2)))
      refine line_nil ?_
      go_wp2_with fail
      go_meet
      case rel => exact ⟨_, _, _, _, rfl, A9, (by (iterate 4 (refine Own.setCell ?_ (fun g hg => HN.out g hg) _)); exact O.less (by omega)), leA, HN.out, (by (iterate 4 (refine bset ?_ (by dsimp only; omega) _)); exact hst.out)⟩
  case rest =>
    obtain ⟨g, a2, n2, c2, hv, A2, O2, hg, hne, b2⟩ := hcut
    have hn2 : n2 = zs.length - 6 := O2.len.trans (M.rdD_length (by rw [HL.out]; exact h6))
    have hB : M.rdB zs = (M.recF (M.at2 zs 0) y2 (M.at2 zs (zs.length - 2)) n2 == 0) := by
      rw [hn2]
      simp only [M.rdB, M.rdL, HY2.out, HY3.out, HL.out]
      rw [show decide (6 ≤ len) = true by simpa using h6, show decide ((len : Int) = 6 + y3) = true by simpa using H3.out]
      rfl
    have hmn : n2 ≤ maxLen := by rw [hn2, HL.out]; simp only [maxLen]; omega
    have HB := Lib.hid hB
    subst hv
    have ltW : w.heap.size < g := by omega
    have HN := Lib.hid hne
    clear hn2 hB hne
    have AV := A0.on b2
    have S0 : Hold w g (L4 (M.at2 zs 0) y2 a2 n2 c2 (M.at2 zs (zs.length - 2))) wc.drew := ⟨(btr b0 b2).drew, A2.on (bdrew _)⟩
    have AV2 := AV.on (bdrew _)
    have O3 := O2.drew
    clear A2 AV A0 O2
    go_wp2_with fail
    refine wp_region_line (Hold w g (L4 (M.at2 zs 0) y2 a2 n2 c2 (M.at2 zs (zs.length - 2)))) [(0, true), (1, false), (2, true), (3, false), (4, true)] (by kernel_rfl) (by kernel_rfl) (fun _ _ d _ _ h => by cases d <;> exact h) S0 ?_
    have hst := S0
    clear S0
    generalize wc.drew = V at *
    have inst : Nonempty (Of (Hold w g (L4 (M.at2 zs 0) y2 a2 n2 c2 (M.at2 zs (zs.length - 2))))) := ⟨⟨_, hst⟩⟩
    have v0 := hold_cell (W := w) (g := g) (cs := L4 (M.at2 zs 0) y2 a2 n2 c2 (M.at2 zs (zs.length - 2))) 0 _ rfl
    have v1 := hold_cell (W := w) (g := g) (cs := L4 (M.at2 zs 0) y2 a2 n2 c2 (M.at2 zs (zs.length - 2))) 1 _ rfl
    have v2 := hold_cell (W := w) (g := g) (cs := L4 (M.at2 zs 0) y2 a2 n2 c2 (M.at2 zs (zs.length - 2))) 2 _ rfl
    have v3 := hold_cell (W := w) (g := g) (cs := L4 (M.at2 zs 0) y2 a2 n2 c2 (M.at2 zs (zs.length - 2))) 3 _ rfl
    iterate 1 (refine line_read rfl (by kernel_rfl) (fun K hK => ?_); go_big_quiet_op; refine hK _ ?_; clear hK K)
    refine line_alone rfl (by kernel_rfl) (fun K hK => ?_)
    refine call_wp (args := #[.pointer (some ⟨g, 0, none⟩)]) rfl (by kernel_rfl) (by kernel_rfl) (l4Fault_any _ _ _ _ _ _ _ _ hst.at' hmn) (fun wn hbn => ?_)
    subst hbn
    refine hK _ _ hst ?_
    clear hK K
    simp only [Act.put, List.setIfInBounds_toArray, List.set_cons_zero, List.set_cons_succ]
    iterate 1 (refine line_read rfl (by kernel_rfl) (fun K hK => ?_); go_big_quiet_op; refine hK _ ?_; clear hK K)
    have q0 := AV2.cell 0 _ rfl
    have q1 := AV2.cell 1 _ rfl
    have q2 := AV2.cell 2 _ rfl
    have q3 := AV2.cell 3 _ rfl
    have z0 := AV2.free 0 _ rfl
    have z1 := AV2.free 1 _ rfl
    have z2 := AV2.free 2 _ rfl
    have z3 := AV2.free 3 _ rfl
    clear v0 v1 v2 v3 inst
    refine line_alone rfl (by kernel_rfl) (fun K hK => ?_)
    go_big_op
    refine hK _ _ ((by (iterate 4 (refine Hold.setB ?_ (by dsimp only; omega) (by dsimp only; omega) _)); exact hst)) ?_
    clear hK K
    iterate 1 (refine line_read rfl (by kernel_rfl) (fun K hK => ?_); go_big_quiet_op; refine hK _ ?_; clear hK K)
    refine line_nil ?_
    rw [← HB.out]
    go_wp2_with fail
    refine bodyPost_ret (v := .tuple #[R4 (M.at2 zs 0) y2 a2 n2 c2 (M.at2 zs (zs.length - 2)), .bool (M.rdB zs)]) (by simp [results, Tryd.results125, go_sem, q0, q1, q2, q3]) rfl ?_
    exact ⟨_, _, _, _, _, _, _, rfl, (by (iterate 4 (refine Own.setCell ?_ (fun g hg => by have := (O3.lt g hg).1; dsimp only; omega) _)); exact O3.less (by omega)), (fun _ => ⟨rfl, HY2.out.symm, rfl, rfl⟩), (by (iterate 4 (refine bset ?_ (by dsimp only; omega) _)); exact hst.bel)⟩

theorem l4Read_any (a : Option Addr) (len cap B : Nat) (zs : List Int) (w : World) (hR : Row .u8 w B a len cap zs) (hB : B ≤ w.heap.size) (hl : len ≤ 1048576) :
    Calls Tryd.prog 125 #[.slice a len cap] w (L4Res zs w) := by
  have hlen := hR.fits
  have hmost := hR.most
  have b0 := bal (Below.refl _ w) (.cells #[.int .i64 0, .int .i64 0, .slice none 0 0, .int .i64 0] 66)
  by_cases h6 : len < 6
  · have hn : M.rdB zs = false := by simp [M.rdB, M.rdL, hR.length]; omega
    have F : L4Res zs w (.returned (.tuple #[R4 0 0 none 0 0 0, .bool false])) (w.alloc (.cells #[.int .i64 0, .int .i64 0, .slice none 0 0, .int .i64 0] 66)) :=
      ⟨0, 0, none, 0, 0, 0, [], by rw [hn], Own.nil _ _ _, (fun h => by rw [hn] at h; cases h), b0⟩
    clear hR hn
    unfold maxLen at hmost
    go_enter Tryd.func125, Tryd.ntmps125
    go_wp2_with fail
    exact bodyPost_ret (v := .tuple #[R4 0 0 none 0 0 0, .bool false]) (by simp [results, Tryd.results125, go_sem]) rfl F
  by_cases h3 : (len : Int) = 6 + zs.getD 3 0
  · exact l4Read_len a len cap B zs w hR hB (by omega) h3 hl
  · have hn : M.rdB zs = false := by simp only [M.rdB, M.rdL, hR.length, h3, decide_false, Bool.and_false, Bool.false_and]
    have F : L4Res zs w (.returned (.tuple #[R4 0 0 none 0 0 0, .bool false])) (w.alloc (.cells #[.int .i64 0, .int .i64 0, .slice none 0 0, .int .i64 0] 66)) :=
      ⟨0, 0, none, 0, 0, 0, [], by rw [hn], Own.nil _ _ _, (fun h => by rw [hn] at h; cases h), b0⟩
    obtain ⟨b, off, rfl, hb, hc⟩ := hR.cells (by omega)
    have e3 := cell_keep b0 (hc 3 (by omega))
    obtain ⟨x30, x31⟩ := hR.byte 3
    have h3' : ((len : Int) != 6 + zs.getD 3 0) = true := by
      rw [bne_iff_ne]
      omega
    clear h3 hc hR b0 hn
    generalize zs.getD 3 0 = y3 at *
    unfold maxLen at hmost
    go_enter Tryd.func125, Tryd.ntmps125
    go_wp2_with fail
    exact bodyPost_ret (v := .tuple #[R4 0 0 none 0 0 0, .bool false]) (by simp [results, Tryd.results125, go_sem]) rfl F

theorem specReadRecord_any (a : Option Addr) (len cap B : Nat) (zs : List Int) (w : World) (hR : Row .u8 w B a len cap zs) (hB : B ≤ w.heap.size) (hl : len ≤ 1048576) :
    Calls Tryd.prog 55 #[.slice a len cap] w (ReadRes zs w) := by
  have b0 := bal (Below.refl _ w) (.cells #[.int .i64 0, .int .i64 0, .int .i64 0, .slice none 0 0, .int .i64 0] 68)
  have A0 := At.new w (L5 0 0 0 none 0 0 0) 68
  have F := l4Read_any a len cap B zs _ (hR.below (b0.mono hB)) (by have := b0.size; omega) hl
  clear hR
  go_enter Tryd.func55, Tryd.ntmps55
  go_wp2_with fail
  generalize w.alloc (.cells #[.int .i64 0, .int .i64 0, .int .i64 0, .slice none 0 0, .int .i64 0] 68) = W0 at *
  refine F.mono ?_
  rintro r w1 ⟨s, k, a1, n1, c1, t, xs, rfl, O1, hX, b1⟩
  have lt0 : w.heap.size < W0.heap.size := A0.lt (by simp)
  have sz1 := b1.size
  have HX := Lib.hid hX
  have q0 := ((A0.on b1).alloc (.cells #[.int .i64 s, .int .i64 k, .slice a1 n1 c1, .int .i64 t] 66)).cell 0 _ rfl
  have q1 := ((A0.on b1).alloc (.cells #[.int .i64 s, .int .i64 k, .slice a1 n1 c1, .int .i64 t] 66)).cell 1 _ rfl
  have q2 := ((A0.on b1).alloc (.cells #[.int .i64 s, .int .i64 k, .slice a1 n1 c1, .int .i64 t] 66)).cell 2 _ rfl
  have q3 := ((A0.on b1).alloc (.cells #[.int .i64 s, .int .i64 k, .slice a1 n1 c1, .int .i64 t] 66)).cell 3 _ rfl
  have q4 := ((A0.on b1).alloc (.cells #[.int .i64 s, .int .i64 k, .slice a1 n1 c1, .int .i64 t] 66)).cell 4 _ rfl
  have z0 := ((A0.on b1).alloc (.cells #[.int .i64 s, .int .i64 k, .slice a1 n1 c1, .int .i64 t] 66)).free 0 _ rfl
  have z1 := ((A0.on b1).alloc (.cells #[.int .i64 s, .int .i64 k, .slice a1 n1 c1, .int .i64 t] 66)).free 1 _ rfl
  have z2 := ((A0.on b1).alloc (.cells #[.int .i64 s, .int .i64 k, .slice a1 n1 c1, .int .i64 t] 66)).free 2 _ rfl
  have z3 := ((A0.on b1).alloc (.cells #[.int .i64 s, .int .i64 k, .slice a1 n1 c1, .int .i64 t] 66)).free 3 _ rfl
  have z4 := ((A0.on b1).alloc (.cells #[.int .i64 s, .int .i64 k, .slice a1 n1 c1, .int .i64 t] 66)).free 4 _ rfl
  have HT := Lib.hid (And.intro (O1.alloc (.cells #[.int .i64 s, .int .i64 k, .slice a1 n1 c1, .int .i64 t] 66)) (bal (btr b0 b1) (.cells #[.int .i64 s, .int .i64 k, .slice a1 n1 c1, .int .i64 t] 66)))
  clear A0 b0 b1 O1 hX F
  cases hY : M.rdB zs
  · have HY := Lib.hid hY
    go_wp2_with fail
    refine bodyPost_ret (v := R5 5 0 0 none 0 0 0) (by simp [results, Tryd.results55, go_sem, q0, q1, q2, q3, q4]) rfl ?_
    exact ReadRes.no HY.out ⟨_, _, _, rfl, Own.nil _ _ _, (by (iterate 5 (refine bset ?_ (by dsimp only; omega) _)); exact HT.out.2)⟩
  · have HY := Lib.hid hY
    go_wp2_with fail
    refine bodyPost_ret (v := R5 0 s k a1 n1 c1 t) (by simp [results, Tryd.results55, go_sem, q0, q1, q2, q3, q4]) rfl ?_
    obtain ⟨rfl, rfl, rfl, rfl⟩ := HX.out HY.out
    exact ReadRes.yes HY.out ⟨_, _, _, rfl, (by (iterate 5 (refine Own.setCell ?_ (fun g hg => by have := (HT.out.1.lt g hg).1; dsimp only; omega) _)); exact HT.out.1.less (by omega)), (by (iterate 5 (refine bset ?_ (by dsimp only; omega) _)); exact HT.out.2)⟩
end Go.Proofs.YtjlhldndomaknaaDoor
