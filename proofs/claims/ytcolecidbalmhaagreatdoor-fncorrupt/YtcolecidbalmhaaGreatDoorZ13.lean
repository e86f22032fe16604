/- Texts of this seat that several laws rest on, laid into one. Conditions: as each theorem states. -/
import Derived.Test.YtcolecidbalmhaaGreatDoorZ11
import Derived.Test.YtcolecidbalmhaaGreatDoorZ12
import Derived.DataShut
namespace Go.Proofs.YtcolecidbalmhaaGreatDoor
open Go.RowKit
set_option maxRecDepth 100000
set_option linter.unusedVariables false

/-- A disk that is read, a result and a disk that is made, each in a block of its own. -/
structure CSt (W : World) (j r d : Nat) (J : List Value) (v : Value) (s : Int) (zss : List (List Int)) (xs : List Value) (wr : World) : Prop where
  P : At j J wr
  R : At r [.slice none 0 0, .int .i64 0] wr
  D : At d [v, .int .i64 s] wr
  G : OwnG wr W.heap.size wr.heap.size v zss xs
  B : Below W.heap.size W wr
  off : ∀ k, v.ownBlock = some k → k ≠ j ∧ k ≠ r ∧ k ≠ d
  offx : ∀ (i : Nat) (u : Value) (k : Nat), xs[i]? = some u → u.ownBlock = some k → k ≠ r ∧ k ≠ d
  le : W.heap.size ≤ d
section
variable {W wr w1 w2 : World} {j r d : Nat} {J : List Value} {v : Value} {s : Int} {zss : List (List Int)} {xs : List Value}
theorem CSt.on (h : CSt W j r d J v s zss xs wr) (hb : Below wr.heap.size wr w1) : CSt W j r d J v s zss xs w1 :=
  ⟨h.P.on hb, h.R.on hb, h.D.on hb, (h.G.below hb).more hb.size (Nat.le_refl _), btr h.B hb, h.off, h.offx, h.le⟩
/-- One more record was appended, and the slice stored. -/
theorem CSt.app (h : CSt W j r d J v s zss xs wr) {v' u : Value} {zs : List Int} (hb : Below wr.heap.size wr w1) (hu : OwnK .u8 w1 wr.heap.size u zs)
    (ho : Own w2 W.heap.size 1 v' (zss.length + 1) (xs ++ [u])) (hg : w1.grownBy w2 v.ownBlock) (hat : v'.ownBlock = v.ownBlock ∨ v'.ownBlock = some w1.heap.size)
    (hd : d ≠ j) (hr : d ≠ r) (hJl : 0 < J.length) : CSt W j r d J v' s (zss ++ [zs]) (xs ++ [u]) (w2.setCell ⟨d, 0, none⟩ v') := by
  have T := h.on hb
  have hB := h.B.size
  have hsz := hb.size
  have hJ : At j J w2 := T.P.kept hg (fun e => (h.off j e.symm).1 rfl)
  have hR := T.R.kept hg (fun e => (h.off r e.symm).2.1 rfl)
  have hD := T.D.kept hg (fun e => (h.off d e.symm).2.2 rfl)
  have lts : j < w1.heap.size ∧ r < w1.heap.size ∧ d < w1.heap.size := ⟨T.P.lt hJl, T.R.lt (by simp), T.D.lt (by simp)⟩
  have G2 := OwnG.app h.G hB hb hu ho hg hat
  have off2 : ∀ k, v'.ownBlock = some k → k ≠ j ∧ k ≠ r ∧ k ≠ d := fun k e => by
    rcases hat with ha | ha
    · rw [ha] at e; exact h.off k e
    · rw [ha] at e; injection e with e; omega
  have ltd := h.D.lt (by simp)
  have ltr := h.R.lt (by simp)
  have off3 : ∀ (i : Nat) (x : Value) (k : Nat), (xs ++ [u])[i]? = some x → x.ownBlock = some k → k ≠ r ∧ k ≠ d := fun i x k hx e => by
    rcases Nat.lt_or_ge i xs.length with hi | hi
    · rw [List.getElem?_append_left hi] at hx
      exact h.offx i x k hx e
    · rw [List.getElem?_append_right hi] at hx
      have h0 := (List.getElem?_eq_some_iff.1 hx).1
      simp at h0
      rw [h0] at hx
      simp at hx
      subst hx
      have := (Own.lt hu k e).1
      omega
  have hB2 : Below W.heap.size W w2 := T.B.grown hg (Nat.le_trans hB hsz) fun k e => (h.G.own.lt k e).1
  refine ⟨hJ.setB (Ne.symm hd) _, hR.setB (Ne.symm hr) _, by simpa using hD.set 0 v', ?_, bset hB2 h.le _, off2, off3, h.le⟩
  have hk : ∀ k, k ≠ d → (w2.setCell ⟨d, 0, none⟩ v').heap[k]? = w2.heap[k]? := fun k hk => Below.heap_setCell w2 ⟨d, 0, none⟩ v' k hk
  have G3 := G2.keepP (w' := w2.setCell ⟨d, 0, none⟩ v') (by simp [World.setCell]) (fun k e => hk k (off2 k e).2.2) (fun i x k hx e => hk k (off3 i x k hx e).2)
  rw [show (w2.setCell ⟨d, 0, none⟩ v').heap.size = w2.heap.size by simp [World.setCell]]
  exact G3
end
theorem CSt.new {W x : World} {j r d : Nat} {J : List Value} {v v0 : Value} {s s0 : Int} (hJ : At j J x) (hR : At r [.slice none 0 0, .int .i64 0] x) (hD : At d [v0, .int .i64 s0] x) (hO : Own x W.heap.size 1 v 0 []) (hB : Below W.heap.size W x)
    (off : ∀ k, v.ownBlock = some k → k ≠ j ∧ k ≠ r ∧ k ≠ d) (hj : d ≠ j) (hr : d ≠ r) (le : W.heap.size ≤ d) : CSt W j r d J v s [] [] ((x.setCell ⟨d, 0, none⟩ v).setCell ⟨d, 1, none⟩ (.int .i64 s)) := by
  have hO2 := (hO.setCell (p := ⟨d, 0, none⟩) (fun k e => (off k e).2.2) v).setCell (p := ⟨d, 1, none⟩) (fun k e => (off k e).2.2) (.int .i64 s)
  exact ⟨(hJ.setB (Ne.symm hj) _).setB (Ne.symm hj) _, (hR.setB (Ne.symm hr) _).setB (Ne.symm hr) _, by simpa using (hD.set 0 v).set 1 (.int .i64 s), OwnG.fresh hO2, bset (bset hB le _) le _, off, fun i u k hu => by simp at hu, le⟩
theorem size_le40 {rs : List (List Int)} (h : rs.any longR = false) {k : Nat} (hk : k < rs.length) {n : Nat} (hn : (rs[k]?.getD []).length = n) : n ≤ 40 := by rw [← hn]; exact long_no h hk
set_option maxHeartbeats 2000000 in
theorem l9CopyDisk_any (a : Option Addr) (n c B : Nat) (rs : List (List Int)) (s : Int) (w : World) (hG : Grid w B a n c rs) (hB : B ≤ w.heap.size) (hn12 : rs.length ≤ 12) (hl : rs.any longR = false) :
    Calls Tryz.prog 96 #[.agg #[.slice a n c, .int .i64 s]] w (DiskRes rs s w) := by
  obtain ⟨i0, hi0, hz0, hz1, hz2⟩ := info_parts slices_info
  have HL := Lib.hid hG.length
  have hlen := hG.fits
  have hmost := hG.most
  unfold maxLen at hmost
  have b0 := bal (bal (bal (Below.refl _ w) (.cells #[.slice a n c, .int .i64 s] 27)) (.cells #[.slice none 0 0, .int .i64 0] 27)) (.cells #[.slice none 0 0, .int .i64 s] 27)
  have P0 : At w.heap.size [.slice a n c, .int .i64 s] (((w.alloc (.cells #[.slice a n c, .int .i64 s] 27)).alloc (.cells #[.slice none 0 0, .int .i64 0] 27)).alloc (.cells #[.slice none 0 0, .int .i64 s] 27)) := ((At.new w [.slice a n c, .int .i64 s] 27).alloc _).alloc _
  have R0 := (At.new (w.alloc (.cells #[.slice a n c, .int .i64 s] 27)) [.slice none 0 0, .int .i64 0] 27).alloc (.cells #[.slice none 0 0, .int .i64 s] 27)
  have D0 := At.new ((w.alloc (.cells #[.slice a n c, .int .i64 s] 27)).alloc (.cells #[.slice none 0 0, .int .i64 0] 27)) [.slice none 0 0, .int .i64 s] 27
  have S0 : CSt w w.heap.size (w.heap.size + 1) (w.heap.size + 1 + 1) [.slice a n c, .int .i64 s] (.slice none 0 0) s [] [] (((w.alloc (.cells #[.slice a n c, .int .i64 s] 27)).alloc (.cells #[.slice none 0 0, .int .i64 0] 27)).alloc (.cells #[.slice none 0 0, .int .i64 s] 27)) :=
    ⟨P0, by simpa using R0, by simpa using D0, OwnG.fresh (Own.nil _ _ _), b0, fun g e => by simp [Value.ownBlock] at e, fun i u g hu => by simp at hu, by omega⟩
  have d0 := S0.P.cell 0 _ rfl
  have HS := Lib.hid S0
  have HG := Lib.hid (fun (w' : World) (h : Below w.heap.size w w') => hG.below (h.mono hB))
  have HN := Lib.hid hn12
  have HLL := Lib.hid hl
  have hd1 : w.heap.size + 1 + 1 ≠ w.heap.size := by omega
  have hd2 : w.heap.size + 1 + 1 ≠ w.heap.size + 1 := by omega
  have hd0 : w.heap.size ≤ w.heap.size + 1 + 1 := by omega
  clear b0 P0 R0 D0 S0 hG hn12 hl
  go_enter Tryz.func96, Tryz.ntmps96
  go_upto_region 3 with fail
  generalize ((w.alloc (.cells #[.slice a n c, .int .i64 s] 27)).alloc (.cells #[.slice none 0 0, .int .i64 0] 27)).alloc (.cells #[.slice none 0 0, .int .i64 s] 27) = W0 at *
  generalize w.heap.size + 1 + 1 = d at *
  go_loopw [4] (fun i wr => ∃ (k : Nat) (v : Value) (xs : List Value), k ≤ n ∧ i = .int .i64 k ∧ CSt w w.heap.size (w.heap.size + 1) d [.slice a n c, .int .i64 s] v s (rs.take k) xs wr) (fun i _ => n - (intOf i).toNat)
  case atStart => exact ⟨0, _, _, Nat.zero_le _, rfl, by rw [List.take_zero]; exact HS.out⟩
  case round =>
    obtain ⟨k, v, xs, hk, rfl, hT⟩ := hrel
    clear HS d0
    have d0 := hT.P.cell 0 _ rfl
    by_cases hlt : k < n
    · obtain ⟨b, off, ha, hb, hc⟩ := (HG.out w (Below.refl _ _)).cells (by omega)
      obtain ⟨a', n', c', hcell, hrow⟩ := hc k hlt
      have hl2 : k < rs.length := by rw [HL.out]; exact hlt
      have hn40 : n' ≤ 40 := size_le40 HLL.out hl2 hrow.length
      have HRW := Lib.hid (fun (w' : World) (h : Below w.heap.size w w') => hrow.below (h.mono hB))
      have HTK := Lib.hid (M.take_snoc rs [] k hl2)
      have HLK := Lib.hid (show (rs.take k).length = k by simp; omega)
      have hk12 : k < 12 := by have := HN.out; omega
      generalize rs[k]?.getD [] = zs at *
      have H0 := Lib.hid (show Hold w w.heap.size [.slice a n c, .int .i64 s] wr.drew from ⟨hT.B.drew, hT.P.on (bdrew wr)⟩)
      have HT1 := Lib.hid (hT.on (bdrew wr))
      subst ha
      have hcw := fun z : Of (Hold w w.heap.size [.slice (some ⟨b, off, none⟩) n c, .int .i64 s]) => cell_keep z.prop.bel hcell
      clear hc hrow hT hl2
      go_wp2_with fail
      refine wp_region_fork (Hold w w.heap.size [.slice (some ⟨b, off, none⟩) n c, .int .i64 s]) (by kernel_rfl) (H0.out) ?_
      have hst : (Hold w w.heap.size [.slice (some ⟨b, off, none⟩) n c, .int .i64 s]) _ := (H0.out)
      have inst : Nonempty (Of (Hold w w.heap.size [.slice (some ⟨b, off, none⟩) n c, .int .i64 s])) := ⟨⟨_, hst⟩⟩
      have u0 := hold_cell (W := w) (g := w.heap.size) (cs := [.slice (some ⟨b, off, none⟩) n c, .int .i64 s]) 0 _ rfl
      clear H0
      generalize wr.drew = V1 at *
      refine any_seg 6 [(0, true), (2, true), (3, true), (4, true), (5, true), (6, true)] (by kernel_rfl) (fun _ _ d _ _ h => by cases d <;> exact h) ?_
      iterate 6 (refine line_read rfl (by kernel_rfl) (fun K hK => ?_); go_big_quiet_op; refine hK _ ?_; clear hK K)
      refine line_nil ?_
      clear u0 hcw hcell d0
      refine any_fork 1 7 (by kernel_rfl) rfl rfl (by kernel_rfl) (by kernel_rfl) (fun K hK => ?_) (fun K hK => ?_)
      · have e1 := (HT1.out).D.cell 0 _ rfl
        go_big_op
        refine hK _ _ hst ?_
        clear hK K e1
        refine any_rest [(7, false), (8, false), (9, false), (10, true), (11, false)] (by kernel_rfl) (fun _ _ d _ _ h => by cases d <;> exact h) ?_
        refine line_alone rfl (by kernel_rfl) (fun K hK => ?_)
        refine call_any (args := #[.slice a' n' c']) rfl (by kernel_rfl) (by kernel_rfl) (l1Copy_any _ _ _ B zs _ (HRW.out _ hst.bel) (Nat.le_trans hB hst.bel.size) (by omega)) ?_
        rintro e x6 ⟨a6, n6, c6, rfl, O6, b6⟩
        have hst2 := hst.on b6
        refine ⟨_, rfl, hK _ _ hst2 ?_⟩
        clear hK K hst
        have hst := hst2
        clear hst2
        simp only [Act.put, List.setIfInBounds_toArray, List.set_cons_zero, List.set_cons_succ]
        refine line_alone rfl (by kernel_rfl) (fun K hK => ?_)
        go_big_op
        have SR := Lib.hid (src_new (P := Tryz.prog) x6 [.slice a6 n6 c6] 1 1 22 25 22 Tryz.underlying25 rfl (by intro u hu; simp at hu; subst hu; rfl))
        have b7 := btr b6 (bal (Below.refl _ x6) (.cells #[.slice a6 n6 c6] 22))
        have O7 := Lib.hid (O6.alloc (.cells #[.slice a6 n6 c6] 22))
        have hst2 := hst.on (bal (Below.refl _ x6) (.cells #[.slice a6 n6 c6] 22))
        refine hK _ _ hst2 ?_
        clear hK K hst O6 b6
        have hst := hst2
        clear hst2
        have hc7 : (x6.alloc (.cells [Value.slice a6 n6 c6].toArray 22)) = x6.alloc (.cells #[.slice a6 n6 c6] 22) := rfl
        rw [hc7] at SR
        clear hc7
        generalize x6.alloc (.cells #[.slice a6 n6 c6] 22) = x7 at *
        generalize x6.heap.size = lit at *
        refine line_alone rfl (by kernel_rfl) (fun K hK => ?_)
        have HT7 := Lib.hid (HT1.out.on b7)
        refine wp_append_src _ (.tmp 16) (.tmp 23) 25 25 rfl w.heap.size 22 i0 (.slice none 0 0) 1 24 Tryz.underlying25 hi0 hz0 hz1 hz2 rfl v k xs rfl (by have := HT7.out.G.own; rwa [HLK.out] at this) _ 1 [.slice a6 n6 c6] rfl SR.out (by simp only [maxLen]; omega) (by omega) HT7.out.B.size (fun v8 w8 hown hgrow hat => ?_)
        obtain ⟨a8, c8, hv8, -⟩ := Own.form hown
        subst hv8
        have T8 := Lib.hid (HT1.out.app b7 O7.out (by rw [HLK.out]; exact hown) hgrow hat hd1 hd2 (by simp))
        have D8 := HT7.out.D.kept hgrow (fun e => (HT7.out.off d e.symm).2.2 rfl)
        have P8 := HT7.out.P.kept hgrow (fun e => (HT7.out.off w.heap.size e.symm).1 rfl)
        have B8 : Below w.heap.size w w8 := HT7.out.B.grown hgrow HT7.out.B.size fun k e => (HT7.out.G.own.lt k e).1
        have hst2 : Hold w w.heap.size [.slice (some ⟨b, off, none⟩) n c, .int .i64 s] w8 := ⟨B8, P8⟩
        refine hK _ _ hst2 ?_
        clear hK K hst hown hgrow hat O7 SR HT7 b7 B8 P8
        have hst := hst2
        clear hst2
        simp only [Act.put, List.setIfInBounds_toArray, List.set_cons_zero, List.set_cons_succ]
        have p0 := D8.cell 0 _ rfl
        have p1 := D8.cell 1 _ rfl
        have f0 := D8.free 0 _ rfl
        have f1 := D8.free 1 _ rfl
        iterate 1 (refine line_read rfl (by kernel_rfl) (fun K hK => ?_); go_big_quiet_op; refine hK _ ?_; clear hK K)
        refine line_alone rfl (by kernel_rfl) (fun K hK => ?_)
        go_big_op
        refine hK _ _ (hst.setB (p := ⟨d, 0, none⟩) hd0 (Ne.symm hd1) _) ?_
        clear hK K
        refine line_nil ?_
        clear p0 p1 f0 f1 D8
        go_wp2_with fail
        go_roundw
        case rel => exact ⟨k + 1, _, _, by omega, by go_num, by rw [HTK.out]; exact T8.out⟩
        case measure => simp [intOf]; omega
      · refine call_any (args := #[.slice a' n' c']) rfl (by kernel_rfl) (by kernel_rfl) (l1Copy_any _ _ _ B zs _ (HRW.out _ hst.bel) (Nat.le_trans hB hst.bel.size) (by omega)) ?_
        rintro e x6 ⟨a6, n6, c6, rfl, O6, b6⟩
        have hst2 := hst.on b6
        refine ⟨_, rfl, hK _ _ hst2 ?_⟩
        clear hK K hst
        have hst := hst2
        clear hst2
        simp only [Act.put, List.setIfInBounds_toArray, List.set_cons_zero, List.set_cons_succ]
        refine any_fork 1 8 (by kernel_rfl) rfl rfl (by kernel_rfl) (by kernel_rfl) (fun K hK => ?_) (fun K hK => ?_)
        · have e1 := (HT1.out.on b6).D.cell 0 _ rfl
          go_big_op
          refine hK _ _ hst ?_
          clear hK K e1
          refine any_rest [(8, false), (9, false), (10, true), (11, false)] (by kernel_rfl) (fun _ _ d _ _ h => by cases d <;> exact h) ?_
          refine line_alone rfl (by kernel_rfl) (fun K hK => ?_)
          go_big_op
          have SR := Lib.hid (src_new (P := Tryz.prog) x6 [.slice a6 n6 c6] 1 1 22 25 22 Tryz.underlying25 rfl (by intro u hu; simp at hu; subst hu; rfl))
          have b7 := btr b6 (bal (Below.refl _ x6) (.cells #[.slice a6 n6 c6] 22))
          have O7 := Lib.hid (O6.alloc (.cells #[.slice a6 n6 c6] 22))
          have hst2 := hst.on (bal (Below.refl _ x6) (.cells #[.slice a6 n6 c6] 22))
          refine hK _ _ hst2 ?_
          clear hK K hst O6 b6
          have hst := hst2
          clear hst2
          have hc7 : (x6.alloc (.cells [Value.slice a6 n6 c6].toArray 22)) = x6.alloc (.cells #[.slice a6 n6 c6] 22) := rfl
          rw [hc7] at SR
          clear hc7
          generalize x6.alloc (.cells #[.slice a6 n6 c6] 22) = x7 at *
          generalize x6.heap.size = lit at *
          refine line_alone rfl (by kernel_rfl) (fun K hK => ?_)
          have HT7 := Lib.hid (HT1.out.on b7)
          refine wp_append_src _ (.tmp 16) (.tmp 23) 25 25 rfl w.heap.size 22 i0 (.slice none 0 0) 1 24 Tryz.underlying25 hi0 hz0 hz1 hz2 rfl v k xs rfl (by have := HT7.out.G.own; rwa [HLK.out] at this) _ 1 [.slice a6 n6 c6] rfl SR.out (by simp only [maxLen]; omega) (by omega) HT7.out.B.size (fun v8 w8 hown hgrow hat => ?_)
          obtain ⟨a8, c8, hv8, -⟩ := Own.form hown
          subst hv8
          have T8 := Lib.hid (HT1.out.app b7 O7.out (by rw [HLK.out]; exact hown) hgrow hat hd1 hd2 (by simp))
          have D8 := HT7.out.D.kept hgrow (fun e => (HT7.out.off d e.symm).2.2 rfl)
          have P8 := HT7.out.P.kept hgrow (fun e => (HT7.out.off w.heap.size e.symm).1 rfl)
          have B8 : Below w.heap.size w w8 := HT7.out.B.grown hgrow HT7.out.B.size fun k e => (HT7.out.G.own.lt k e).1
          have hst2 : Hold w w.heap.size [.slice (some ⟨b, off, none⟩) n c, .int .i64 s] w8 := ⟨B8, P8⟩
          refine hK _ _ hst2 ?_
          clear hK K hst hown hgrow hat O7 SR HT7 b7 B8 P8
          have hst := hst2
          clear hst2
          simp only [Act.put, List.setIfInBounds_toArray, List.set_cons_zero, List.set_cons_succ]
          have p0 := D8.cell 0 _ rfl
          have p1 := D8.cell 1 _ rfl
          have f0 := D8.free 0 _ rfl
          have f1 := D8.free 1 _ rfl
          iterate 1 (refine line_read rfl (by kernel_rfl) (fun K hK => ?_); go_big_quiet_op; refine hK _ ?_; clear hK K)
          refine line_alone rfl (by kernel_rfl) (fun K hK => ?_)
          go_big_op
          refine hK _ _ (hst.setB (p := ⟨d, 0, none⟩) hd0 (Ne.symm hd1) _) ?_
          clear hK K
          refine line_nil ?_
          clear p0 p1 f0 f1 D8
          go_wp2_with fail
          go_roundw
          case rel => exact ⟨k + 1, _, _, by omega, by go_num, by rw [HTK.out]; exact T8.out⟩
          case measure => simp [intOf]; omega
        · go_big_op
          have SR := Lib.hid (src_new (P := Tryz.prog) x6 [.slice a6 n6 c6] 1 1 22 25 22 Tryz.underlying25 rfl (by intro u hu; simp at hu; subst hu; rfl))
          have b7 := btr b6 (bal (Below.refl _ x6) (.cells #[.slice a6 n6 c6] 22))
          have O7 := Lib.hid (O6.alloc (.cells #[.slice a6 n6 c6] 22))
          have hst2 := hst.on (bal (Below.refl _ x6) (.cells #[.slice a6 n6 c6] 22))
          refine hK _ _ hst2 ?_
          clear hK K hst O6 b6
          have hst := hst2
          clear hst2
          have hc7 : (x6.alloc (.cells [Value.slice a6 n6 c6].toArray 22)) = x6.alloc (.cells #[.slice a6 n6 c6] 22) := rfl
          rw [hc7] at SR
          clear hc7
          generalize x6.alloc (.cells #[.slice a6 n6 c6] 22) = x7 at *
          generalize x6.heap.size = lit at *
          refine any_rest [(1, false), (9, false), (10, true), (11, false)] (by kernel_rfl) (fun _ _ d _ _ h => by cases d <;> exact h) ?_
          refine line_alone rfl (by kernel_rfl) (fun K hK => ?_)
          have e1 := (HT1.out.on b7).D.cell 0 _ rfl
          go_big_op
          refine hK _ _ hst ?_
          clear hK K e1
          refine line_alone rfl (by kernel_rfl) (fun K hK => ?_)
          have HT7 := Lib.hid (HT1.out.on b7)
          refine wp_append_src _ (.tmp 16) (.tmp 23) 25 25 rfl w.heap.size 22 i0 (.slice none 0 0) 1 24 Tryz.underlying25 hi0 hz0 hz1 hz2 rfl v k xs rfl (by have := HT7.out.G.own; rwa [HLK.out] at this) _ 1 [.slice a6 n6 c6] rfl SR.out (by simp only [maxLen]; omega) (by omega) HT7.out.B.size (fun v8 w8 hown hgrow hat => ?_)
          obtain ⟨a8, c8, hv8, -⟩ := Own.form hown
          subst hv8
          have T8 := Lib.hid (HT1.out.app b7 O7.out (by rw [HLK.out]; exact hown) hgrow hat hd1 hd2 (by simp))
          have D8 := HT7.out.D.kept hgrow (fun e => (HT7.out.off d e.symm).2.2 rfl)
          have P8 := HT7.out.P.kept hgrow (fun e => (HT7.out.off w.heap.size e.symm).1 rfl)
          have B8 : Below w.heap.size w w8 := HT7.out.B.grown hgrow HT7.out.B.size fun k e => (HT7.out.G.own.lt k e).1
          have hst2 : Hold w w.heap.size [.slice (some ⟨b, off, none⟩) n c, .int .i64 s] w8 := ⟨B8, P8⟩
          refine hK _ _ hst2 ?_
          clear hK K hst hown hgrow hat O7 SR HT7 b7 B8 P8
          have hst := hst2
          clear hst2
          simp only [Act.put, List.setIfInBounds_toArray, List.set_cons_zero, List.set_cons_succ]
          have p0 := D8.cell 0 _ rfl
          have p1 := D8.cell 1 _ rfl
          have f0 := D8.free 0 _ rfl
          have f1 := D8.free 1 _ rfl
          iterate 1 (refine line_read rfl (by kernel_rfl) (fun K hK => ?_); go_big_quiet_op; refine hK _ ?_; clear hK K)
          refine line_alone rfl (by kernel_rfl) (fun K hK => ?_)
          go_big_op
          refine hK _ _ (hst.setB (p := ⟨d, 0, none⟩) hd0 (Ne.symm hd1) _) ?_
          clear hK K
          refine line_nil ?_
          clear p0 p1 f0 f1 D8
          go_wp2_with fail
          go_roundw
          case rel => exact ⟨k + 1, _, _, by omega, by go_num, by rw [HTK.out]; exact T8.out⟩
          case measure => simp [intOf]; omega
    · obtain rfl : k = n := by omega
      rw [List.take_of_length_le (by rw [HL.out]; omega)] at hT
      obtain ⟨a1, c1, hv, -⟩ := hT.G.form
      rw [HL.out] at hv
      subst hv
      have HF := Lib.hid hT
      have R1 := hT.R
      have D1 := hT.D
      clear hT HG
      have p0 := D1.cell 0 _ rfl
      have p1 := D1.cell 1 _ rfl
      have q0 := R1.cell 0 _ rfl
      have q1 := R1.cell 1 _ rfl
      have f0 := R1.free 0 _ rfl
      have f1 := R1.free 1 _ rfl
      clear D1 R1
      have G1 := HF.out.G.keepP (w' := (wr.setCell ⟨w.heap.size + 1, 0, none⟩ (.slice a1 k c1)).setCell ⟨w.heap.size + 1, 1, none⟩ (.int .i64 s)) (by simp [World.setCell])
        (fun g e => by
          have hg : g ≠ w.heap.size + 1 := (HF.out.off g e).2.1
          rw [Below.heap_setCell _ _ _ g hg, Below.heap_setCell _ _ _ g hg])
        (fun i x g hx e => by
          have hg : g ≠ w.heap.size + 1 := (HF.out.offx i x g hx e).1
          rw [Below.heap_setCell _ _ _ g hg, Below.heap_setCell _ _ _ g hg])
      have G2 := G1.more (hi' := ((wr.setCell ⟨w.heap.size + 1, 0, none⟩ (.slice a1 k c1)).setCell ⟨w.heap.size + 1, 1, none⟩ (.int .i64 s)).heap.size) G1.top (Nat.le_refl _)
      have B2 : Below w.heap.size w ((wr.setCell ⟨w.heap.size + 1, 0, none⟩ (.slice a1 k c1)).setCell ⟨w.heap.size + 1, 1, none⟩ (.int .i64 s)) := (by (iterate 2 (refine bset ?_ (by dsimp only; omega) _)); exact HF.out.B)
      have GB := Lib.hid (And.intro G2 B2)
      clear G1 G2 B2 HF
      go_wp2_with fail
      exact bodyPost_ret (v := .agg #[.slice a1 k c1, .int .i64 s]) (by simp [results, Tryz.results96, go_sem, q0, q1]) rfl ⟨a1, k, c1, xs, rfl, GB.out.1, GB.out.2⟩
theorem l9Bad_any (c : Int) (w : World) :
    Calls Tryz.prog 80 #[.int .i64 c] w fun r w' => r = .returned (V4 c none 0 0 none 0 0 0) ∧ Below w.heap.size w w' := by
  have b0 := bal (Below.refl _ w) (.cells #[.int .i64 c, .slice none 0 0, .slice none 0 0, .int .i64 0] 35)
  go_enter Tryz.func80, Tryz.ntmps80
  go_wp2_with fail
  refine bodyPost_ret (v := V4 c none 0 0 none 0 0 0) (by simp [results, Tryz.results80, go_sem, V4]) rfl ⟨rfl, b0⟩
theorem SOwn.res {w x : World} {lo r : Nat} {v1 v2 : Value} {s : StoreD} (h : SOwn x lo x.heap.size v1 v2 s) (hr : r < lo) (hw : w.heap.size ≤ lo) (u0 u1 u2 u3 : Value) :
    SOwn ((((x.setCell ⟨r, 0, none⟩ u0).setCell ⟨r, 1, none⟩ u1).setCell ⟨r, 2, none⟩ u2).setCell ⟨r, 3, none⟩ u3) w.heap.size ((((x.setCell ⟨r, 0, none⟩ u0).setCell ⟨r, 1, none⟩ u1).setCell ⟨r, 2, none⟩ u2).setCell ⟨r, 3, none⟩ u3).heap.size v1 v2 s := by
  have h4 := (((h.setCell (p := ⟨r, 0, none⟩) (.inl hr) u0).setCell (p := ⟨r, 1, none⟩) (.inl hr) u1).setCell (p := ⟨r, 2, none⟩) (.inl hr) u2).setCell (p := ⟨r, 3, none⟩) (.inl hr) u3
  exact (h4.less hw).more h4.top.2 (Nat.le_refl _)
set_option maxHeartbeats 2000000 in
theorem specOpenDisk_any (a : Option Addr) (n c B : Nat) (rs : List (List Int)) (s : Int) (w : World) (hG : Grid w B a n c rs) (hB : B ≤ w.heap.size) (hw : ∀ zs ∈ rs, ∀ z ∈ zs, (Lit.int .u8 z).wf = true) :
    Calls Tryz.prog 33 #[.agg #[.slice a n c, .int .i64 s]] w (StoreRes (openC ⟨rs, s⟩) (openS ⟨rs, s⟩) w) := by
  have b0 := bal (bal (Below.refl _ w) (.cells #[.slice a n c, .int .i64 s] 27)) (.cells #[.int .i64 0, .slice none 0 0, .slice none 0 0, .int .i64 0] 35)
  have A0 : At w.heap.size [.slice a n c, .int .i64 s] ((w.alloc (.cells #[.slice a n c, .int .i64 s] 27)).alloc (.cells #[.int .i64 0, .slice none 0 0, .slice none 0 0, .int .i64 0] 35)) := (At.new w [.slice a n c, .int .i64 s] 27).alloc _
  have R0 := At.new (w.alloc (.cells #[.slice a n c, .int .i64 s] 27)) zero9 35
  rw [World.size_alloc] at R0
  have HR0 := Lib.hid (show At (w.heap.size + 1) zero9 ((w.alloc (.cells #[.slice a n c, .int .i64 s] 27)).alloc (.cells #[.int .i64 0, .slice none 0 0, .slice none 0 0, .int .i64 0] 35)) from R0)
  have HA0 := Lib.hid A0
  have HB0 := Lib.hid b0
  have F0 := l9Disk_any w.heap.size a n c B rs s 0 _ (A0.cell 0 _ rfl) (A0.cell 1 _ rfl) (hG.below (b0.mono hB)) (Nat.le_trans hB b0.size)
  have HL := Lib.hid hG.length
  have HG := Lib.hid (fun (w' : World) (h : Below w.heap.size w w') => hG.below (h.mono hB))
  have HW := Lib.hid hw
  clear hG hw A0 R0 b0
  by_cases h0 : diskF ⟨rs, s⟩ = 0
  case neg =>
    have e1 := openC_bad h0
    have e2 := openS_no (d := ⟨rs, s⟩) (by rw [e1]; exact h0)
    rw [e1, e2]
    generalize diskF ⟨rs, s⟩ = cd at *
    have q9 : (cd != 0) = true := by simpa using h0
    have q8 : decide (cd = 0) = false := by simpa using h0
    clear e1 e2 HW HG
    go_enter Tryz.func33, Tryz.ntmps33
    go_wp2_with fail
    generalize (w.alloc (.cells #[.slice a n c, .int .i64 s] 27)).alloc (.cells #[.int .i64 0, .slice none 0 0, .slice none 0 0, .int .i64 0] 35) = W0 at *
    refine F0.mono ?_
    rintro r u1 ⟨rfl, b1⟩
    have B1 := Lib.hid (btr HB0.out b1)
    have R1 := Lib.hid (HR0.out.on b1)
    have A1 := Lib.hid (HA0.out.on b1)
    clear b1 F0 HB0 HR0 HA0
    go_wp2_with fail
    refine (l9Bad_any cd _).mono ?_
    rintro r u9 ⟨rfl, b9⟩
    have R9 := (R1.out).on b9
    have B9 := btr B1.out b9
    unfold zero9 at R9
    have q0 := R9.cell 0 _ rfl
    have q1 := R9.cell 1 _ rfl
    have q2 := R9.cell 2 _ rfl
    have q3 := R9.cell 3 _ rfl
    have f0 := R9.free 0 _ rfl
    have f1 := R9.free 1 _ rfl
    have f2 := R9.free 2 _ rfl
    have f3 := R9.free 3 _ rfl
    clear b9 R9
    go_wp2_with fail
    refine bodyPost_ret (v := V4 cd none 0 0 none 0 0 0) (by simp [results, Tryz.results33, go_sem, V4, q0, q1, q2, q3]) rfl ⟨none, 0, 0, none, 0, 0, rfl, SOwn.nil _ _ ?_, ?_⟩
    · exact Nat.le_trans B9.size (by simp [World.setCell])
    · exact (by (iterate 4 (refine bset ?_ (by dsimp only; omega) _)); exact B9)
  rw [h0] at F0
  obtain ⟨h12, hlong, hs0, hs1⟩ := diskF_zero h0
  have PI := Lib.hid (fun (w' : World) (h : Below w.heap.size w w') => l9Pins_any a n c B rs w' (HG.out w' h) (Nat.le_trans hB h.size) hlong)
  have CD := Lib.hid (fun (w' : World) (h : Below w.heap.size w w') => l9CopyDisk_any a n c B rs s w' (HG.out w' h) (Nat.le_trans hB h.size) h12 hlong)
  unfold PinsTold at PI
  clear HG hs0 hs1
  by_cases hc : (openG [] rs).1 = 0
  case neg =>
    have e1 := openC_ok (d := ⟨rs, s⟩) h0
    have e2 := openS_no (d := ⟨rs, s⟩) (by rw [e1]; exact hc)
    rw [e1, e2]
    have e3 := openG_ne hc
    rw [e3] at PI
    generalize (openG [] rs).1 = cd at *
    have q9 : (cd != 0) = true := by simpa using hc
    have q8 : decide (cd = 0) = false := by simpa using hc
    clear e1 e2 e3 CD HW
    go_enter Tryz.func33, Tryz.ntmps33
    go_wp2_with fail
    generalize (w.alloc (.cells #[.slice a n c, .int .i64 s] 27)).alloc (.cells #[.int .i64 0, .slice none 0 0, .slice none 0 0, .int .i64 0] 35) = W0 at *
    refine F0.mono ?_
    rintro r u1 ⟨rfl, b1⟩
    have B1 := Lib.hid (btr HB0.out b1)
    have R1 := Lib.hid (HR0.out.on b1)
    have A1 := Lib.hid (HA0.out.on b1)
    clear b1 F0 HB0 HR0 HA0
    have a0 := A1.out.cell 0 _ rfl
    go_wp2_with fail
    refine (PI.out _ B1.out).mono ?_
    rintro r u2 ⟨a2, n2, c2, rfl, O2, b2⟩
    have B2 := Lib.hid (btr B1.out b2)
    have R2 := Lib.hid (R1.out.on b2)
    have A2 := Lib.hid (A1.out.on b2)
    have HO2 := Lib.hid O2
    have HS2 := Lib.hid b2.size
    have HR2 := Lib.hid (R1.out.lt (by decide))
    have HS1 := Lib.hid B1.out.size
    clear a0 b2 O2 PI B1 R1 A1
    go_wp2_with fail
    refine (l9Bad_any cd _).mono ?_
    rintro r u9 ⟨rfl, b9⟩
    have R9 := (R2.out).on b9
    have B9 := btr B2.out b9
    unfold zero9 at R9
    have q0 := R9.cell 0 _ rfl
    have q1 := R9.cell 1 _ rfl
    have q2 := R9.cell 2 _ rfl
    have q3 := R9.cell 3 _ rfl
    have f0 := R9.free 0 _ rfl
    have f1 := R9.free 1 _ rfl
    have f2 := R9.free 2 _ rfl
    have f3 := R9.free 3 _ rfl
    clear b9 R9
    go_wp2_with fail
    refine bodyPost_ret (v := V4 cd none 0 0 none 0 0 0) (by simp [results, Tryz.results33, go_sem, V4, q0, q1, q2, q3]) rfl ⟨none, 0, 0, none, 0, 0, rfl, SOwn.nil _ _ ?_, ?_⟩
    · exact Nat.le_trans B9.size (by simp [World.setCell])
    · exact (by (iterate 4 (refine bset ?_ (by dsimp only; omega) _)); exact B9)
  have e1 : openC ⟨rs, s⟩ = 0 := openC_make h0 hc
  rw [openS_yes e1, e1]
  rw [hc] at PI
  have HNM := Lib.hid (right_names (openG_right pins0 hc))
  show Calls _ _ _ _ (StoreRes 0 ⟨(openG [] rs).2, ⟨rs, s⟩⟩ w)
  generalize (openG [] rs).2 = ps at *
  clear e1 hc hlong h12 h0
  go_enter Tryz.func33, Tryz.ntmps33
  go_wp2_with fail
  generalize (w.alloc (.cells #[.slice a n c, .int .i64 s] 27)).alloc (.cells #[.int .i64 0, .slice none 0 0, .slice none 0 0, .int .i64 0] 35) = W0 at *
  refine F0.mono ?_
  rintro r u1 ⟨rfl, b1⟩
  have B1 := Lib.hid (btr HB0.out b1)
  have R1 := Lib.hid (HR0.out.on b1)
  have A1 := Lib.hid (HA0.out.on b1)
  clear b1 F0 HB0 HR0 HA0
  have a0 := A1.out.cell 0 _ rfl
  go_wp2_with fail
  refine (PI.out _ B1.out).mono ?_
  rintro r u2 ⟨a2, n2, c2, rfl, O2, b2⟩
  have B2 := Lib.hid (btr B1.out b2)
  have R2 := Lib.hid (R1.out.on b2)
  have A2 := Lib.hid (A1.out.on b2)
  have HO2 := Lib.hid O2
  have HS2 := Lib.hid b2.size
  have HR2 := Lib.hid (R1.out.lt (by decide))
  have HS1 := Lib.hid B1.out.size
  clear a0 b2 O2 PI B1 R1 A1
  have d0 := A2.out.cell 0 _ rfl
  have d1 := A2.out.cell 1 _ rfl
  go_wp2_with fail
  refine (CD.out _ B2.out).mono ?_
  rintro r u3 ⟨a3, n3, c3, xs, rfl, G3, b3⟩
  have R3 := R2.out.on b3
  have SO : SOwn u3 u1.heap.size u3.heap.size (.slice a2 n2 c2) (.slice a3 n3 c3) ⟨ps, ⟨rs, s⟩⟩ :=
    SOwn.mk' (W := w) (mid := u2.heap.size) (HO2.out.below b3) HS2.out (fun g hg => (Own.lt HO2.out g hg).2) G3 b3.size HNM.out HW.out
  have HSO := Lib.hid (SO.res (w := w) HR2.out HS1.out (.int .i64 0) (.slice a2 n2 c2) (.slice a3 n3 c3) (.int .i64 s))
  have HB3 := Lib.hid (btr B2.out b3)
  unfold zero9 at R3
  have q0 := R3.cell 0 _ rfl
  have q1 := R3.cell 1 _ rfl
  have q2 := R3.cell 2 _ rfl
  have q3 := R3.cell 3 _ rfl
  have f0 := R3.free 0 _ rfl
  have f1 := R3.free 1 _ rfl
  have f2 := R3.free 2 _ rfl
  have f3 := R3.free 3 _ rfl
  clear G3 b3 SO d0 d1 CD HO2 B2 R2 A2
  go_wp2_with fail
  refine bodyPost_ret (v := V4 0 a2 n2 c2 a3 n3 c3 s) (by simp [results, Tryz.results33, go_sem, V4, q0, q1, q2, q3]) rfl ⟨a2, n2, c2, a3, n3, c3, rfl, HSO.out, ?_⟩
  exact (by (iterate 4 (refine bset ?_ (by dsimp only; omega) _)); exact HB3.out)
end Go.Proofs.YtcolecidbalmhaaGreatDoor
namespace Go.Proofs.YtcolecidbalmhaaGreatDoor
open Go.RowKit
set_option maxRecDepth 100000
set_option linter.unusedVariables false

theorem storeF_new (s : StoreD) : storeF s = if openC s.d = 0 then (if sameL (openS s.d).ps s.ps then 0 else 8) else openC s.d := by
  by_cases h : openC s.d = 0
  · unfold storeF
    rw [if_pos h, if_pos h, openS_yes h]
  · unfold storeF
    rw [if_neg h, if_neg h]
set_option maxHeartbeats 1000000 in
theorem implStoreFault_any (a1 : Option Addr) (n1 c1 : Nat) (a2 : Option Addr) (n2 c2 B : Nat) (s : StoreD) (w : World) (hR : SRow w B a1 n1 c1 a2 n2 c2 s) (hB : B ≤ w.heap.size) :
    Calls Tryz.prog 18 #[S3 a1 n1 c1 a2 n2 c2 s.d.s] w fun r w' => r = .returned (.int .i64 (storeF s)) ∧ Below w.heap.size w w' := by
  have b0 := bal (Below.refl _ w) (.cells #[.slice a1 n1 c1, .slice a2 n2 c2, .int .i64 s.d.s] 29)
  have A0 : At w.heap.size (S3L a1 n1 c1 a2 n2 c2 s.d.s) (w.alloc (.cells #[.slice a1 n1 c1, .slice a2 n2 c2, .int .i64 s.d.s] 29)) := At.new w (S3L a1 n1 c1 a2 n2 c2 s.d.s) 29
  have R0 := hR.below (b0.mono hB)
  have OD := implOpenDisk_any a2 n2 c2 B s.d.rs s.d.s _ R0.rs (Nat.le_trans hB b0.size) R0.wf
  have HP := Lib.hid (fun (w' : World) (h : Below w.heap.size w w') => hR.ps.below (h.mono hB))
  rw [storeF_new]
  have ed : (⟨s.d.rs, s.d.s⟩ : DiskD) = s.d := rfl
  rw [ed] at OD
  unfold StoreRes at OD
  clear hR R0 ed
  generalize openC s.d = c at *
  generalize openS s.d = t at *
  generalize s.d.s = x at *
  generalize s.ps = ps at *
  by_cases h : c = 0
  · subst h
    rw [if_pos rfl]
    have SP := Lib.hid (fun (w' : World) (h1 : PRow w' w'.heap.size a1 n1 c1 ps) (a3 : Option Addr) (n3 c3 : Nat) (h2 : PRow w' w'.heap.size a3 n3 c3 t.ps) => implSamePins_any a3 a1 n3 n1 c3 c1 w'.heap.size t.ps ps w' h2 h1 (Nat.le_refl _))
    cases hq : sameL t.ps ps
    · rw [hq] at SP
      clear hq
      go_enter Tryz.func18, Tryz.ntmps18
      have d0 := A0.cell 0 _ rfl
      have d1 := A0.cell 1 _ rfl
      have d2 := A0.cell 2 _ rfl
      go_wp2_with fail
      generalize w.alloc (.cells #[.slice a1 n1 c1, .slice a2 n2 c2, .int .i64 x] 29) = W0 at *
      refine OD.mono ?_
      rintro r u1 ⟨a3, n3, c3, a4, n4, c4, rfl, SO, b1⟩
      have T := At.new u1 [.int .i64 0, .slice a3 n3 c3, .slice a4 n4 c4, .int .i64 t.d.s] 35
      have b2 := btr b1 (bal (Below.refl _ u1) (.cells #[.int .i64 0, .slice a3 n3 c3, .slice a4 n4 c4, .int .i64 t.d.s] 35))
      have A2 := A0.on b2
      have B2 := btr b0 b2
      have SR := Lib.hid (SO.below (bal (Below.refl _ u1) (.cells #[.int .i64 0, .slice a3 n3 c3, .slice a4 n4 c4, .int .i64 t.d.s] 35))).row.ps
      clear d0 d1 d2 b1 b2 A0 b0 OD SO
      have hT2 : (u1.alloc (.cells [Value.int .i64 0, .slice a3 n3 c3, .slice a4 n4 c4, .int .i64 t.d.s].toArray 35)) = u1.alloc (.cells #[.int .i64 0, .slice a3 n3 c3, .slice a4 n4 c4, .int .i64 t.d.s] 35) := rfl
      rw [hT2] at T
      clear hT2
      have t0 := T.cell 0 _ rfl
      have t1 := T.cell 1 _ rfl
      have t2 := T.cell 2 _ rfl
      have t3 := T.cell 3 _ rfl
      have d0 := A2.cell 0 _ rfl
      have d1 := A2.cell 1 _ rfl
      have d2 := A2.cell 2 _ rfl
      clear T A2
      have PR := Lib.hid ((HP.out _ B2).more (Nat.le_trans hB B2.size))
      go_wp2_with fail
      generalize u1.alloc (.cells #[.int .i64 0, .slice a3 n3 c3, .slice a4 n4 c4, .int .i64 t.d.s] 35) = W2 at *
      refine (SP.out _ PR.out _ _ _ SR.out).mono ?_
      rintro r u3 ⟨rfl, b3⟩
      have B3 := btr B2 b3
      clear B2 b3 SP PR SR t0 t1 t2 t3 d0 d1 d2
      go_wp2_with fail
      go_ret
      exact ⟨rfl, B3⟩
    · rw [hq] at SP
      clear hq
      go_enter Tryz.func18, Tryz.ntmps18
      have d0 := A0.cell 0 _ rfl
      have d1 := A0.cell 1 _ rfl
      have d2 := A0.cell 2 _ rfl
      go_wp2_with fail
      generalize w.alloc (.cells #[.slice a1 n1 c1, .slice a2 n2 c2, .int .i64 x] 29) = W0 at *
      refine OD.mono ?_
      rintro r u1 ⟨a3, n3, c3, a4, n4, c4, rfl, SO, b1⟩
      have T := At.new u1 [.int .i64 0, .slice a3 n3 c3, .slice a4 n4 c4, .int .i64 t.d.s] 35
      have b2 := btr b1 (bal (Below.refl _ u1) (.cells #[.int .i64 0, .slice a3 n3 c3, .slice a4 n4 c4, .int .i64 t.d.s] 35))
      have A2 := A0.on b2
      have B2 := btr b0 b2
      have SR := Lib.hid (SO.below (bal (Below.refl _ u1) (.cells #[.int .i64 0, .slice a3 n3 c3, .slice a4 n4 c4, .int .i64 t.d.s] 35))).row.ps
      clear d0 d1 d2 b1 b2 A0 b0 OD SO
      have hT2 : (u1.alloc (.cells [Value.int .i64 0, .slice a3 n3 c3, .slice a4 n4 c4, .int .i64 t.d.s].toArray 35)) = u1.alloc (.cells #[.int .i64 0, .slice a3 n3 c3, .slice a4 n4 c4, .int .i64 t.d.s] 35) := rfl
      rw [hT2] at T
      clear hT2
      have t0 := T.cell 0 _ rfl
      have t1 := T.cell 1 _ rfl
      have t2 := T.cell 2 _ rfl
      have t3 := T.cell 3 _ rfl
      have d0 := A2.cell 0 _ rfl
      have d1 := A2.cell 1 _ rfl
      have d2 := A2.cell 2 _ rfl
      clear T A2
      have PR := Lib.hid ((HP.out _ B2).more (Nat.le_trans hB B2.size))
      go_wp2_with fail
      generalize u1.alloc (.cells #[.int .i64 0, .slice a3 n3 c3, .slice a4 n4 c4, .int .i64 t.d.s] 35) = W2 at *
      refine (SP.out _ PR.out _ _ _ SR.out).mono ?_
      rintro r u3 ⟨rfl, b3⟩
      have B3 := btr B2 b3
      clear B2 b3 SP PR SR t0 t1 t2 t3 d0 d1 d2
      go_wp2_with fail
      go_ret
      exact ⟨rfl, B3⟩
  · rw [if_neg h]
    have q9 : (c != 0) = true := by simpa using h
    have q8 : decide (c = 0) = false := by simpa using h
    go_enter Tryz.func18, Tryz.ntmps18
    have d0 := A0.cell 0 _ rfl
    have d1 := A0.cell 1 _ rfl
    have d2 := A0.cell 2 _ rfl
    go_wp2_with fail
    generalize w.alloc (.cells #[.slice a1 n1 c1, .slice a2 n2 c2, .int .i64 x] 29) = W0 at *
    refine OD.mono ?_
    rintro r u1 ⟨a3, n3, c3, a4, n4, c4, rfl, SO, b1⟩
    have T := At.new u1 [.int .i64 c, .slice a3 n3 c3, .slice a4 n4 c4, .int .i64 t.d.s] 35
    have b2 := btr b1 (bal (Below.refl _ u1) (.cells #[.int .i64 c, .slice a3 n3 c3, .slice a4 n4 c4, .int .i64 t.d.s] 35))
    have A2 := A0.on b2
    have B2 := btr b0 b2
    have SR := Lib.hid (SO.below (bal (Below.refl _ u1) (.cells #[.int .i64 c, .slice a3 n3 c3, .slice a4 n4 c4, .int .i64 t.d.s] 35))).row.ps
    clear d0 d1 d2 b1 b2 A0 b0 OD SO
    have hT2 : (u1.alloc (.cells [Value.int .i64 c, .slice a3 n3 c3, .slice a4 n4 c4, .int .i64 t.d.s].toArray 35)) = u1.alloc (.cells #[.int .i64 c, .slice a3 n3 c3, .slice a4 n4 c4, .int .i64 t.d.s] 35) := rfl
    rw [hT2] at T
    clear hT2
    have t0 := T.cell 0 _ rfl
    have t1 := T.cell 1 _ rfl
    have t2 := T.cell 2 _ rfl
    have t3 := T.cell 3 _ rfl
    have d0 := A2.cell 0 _ rfl
    have d1 := A2.cell 1 _ rfl
    have d2 := A2.cell 2 _ rfl
    clear T A2
    go_wp2_with fail
    go_ret
    exact ⟨rfl, B2⟩
/-- A store that a pointer points to. -/
structure SAt (w : World) (g : Nat) (B : Nat) (a1 : Option Addr) (n1 c1 : Nat) (a2 : Option Addr) (n2 c2 : Nat) (s : StoreD) : Prop where
  A : At g (S3L a1 n1 c1 a2 n2 c2 s.d.s) w
  R : SRow w B a1 n1 c1 a2 n2 c2 s
theorem SAt.on {w w' : World} {g B : Nat} {a1 a2 : Option Addr} {n1 c1 n2 c2 : Nat} {s : StoreD} (h : SAt w g B a1 n1 c1 a2 n2 c2 s) (hB : B ≤ w.heap.size) (hb : Below w.heap.size w w') : SAt w' g B a1 n1 c1 a2 n2 c2 s := ⟨h.A.on hb, h.R.below (hb.mono hB)⟩
set_option maxHeartbeats 1000000 in
theorem l9Fault_any (g : Nat) (a1 : Option Addr) (n1 c1 : Nat) (a2 : Option Addr) (n2 c2 B : Nat) (s : StoreD) (w : World) (hS : SAt w g B a1 n1 c1 a2 n2 c2 s) (hB : B ≤ w.heap.size) :
    Calls Tryz.prog 79 #[.pointer (some ⟨g, 0, none⟩)] w fun r w' => r = .returned (.int .i64 (storeF s)) ∧ Below w.heap.size w w' := by
  have F := l9Disk_any g a2 n2 c2 B s.d.rs s.d.s 1 w (hS.A.cell 1 _ rfl) (hS.A.cell 2 _ rfl) hS.R.rs hB
  have HA := Lib.hid hS.A
  have HP := Lib.hid (fun (w' : World) (h : Below w.heap.size w w') => hS.R.ps.below (h.mono hB))
  have HG := Lib.hid (fun (w' : World) (h : Below w.heap.size w w') => hS.R.rs.below (h.mono hB))
  have ed : (⟨s.d.rs, s.d.s⟩ : DiskD) = s.d := rfl
  rw [ed] at F
  have cg := hS.A.cell 0 _ rfl
  clear hS ed
  by_cases h0 : diskF s.d = 0
  case neg =>
    have e1 := openC_bad h0
    have e2 : storeF s = diskF s.d := by rw [storeF_bad (by rw [e1]; exact h0), e1]
    rw [e2]
    generalize diskF s.d = cd at *
    have q9 : (cd != 0) = true := by simpa using h0
    have q8 : decide (cd = 0) = false := by simpa using h0
    clear e1 e2
    go_enter Tryz.func79, Tryz.ntmps79
    go_wp2_with fail
    refine F.mono ?_
    rintro r u1 ⟨rfl, b1⟩
    have A1 := HA.out.on b1
    have d0 := A1.cell 0 _ rfl
    have d1 := A1.cell 1 _ rfl
    have d2 := A1.cell 2 _ rfl
    have HA1 := Lib.hid A1
    clear F A1 cg
    go_wp2_with fail
    go_ret
    exact ⟨rfl, b1⟩
  rw [h0] at F
  obtain ⟨h12, hlong, hs0, hs1⟩ := diskF_zero h0
  have PI := Lib.hid (fun (w' : World) (h : Below w.heap.size w w') => l9Pins_any a2 n2 c2 B s.d.rs w' (HG.out w' h) (Nat.le_trans hB h.size) hlong)
  unfold PinsTold at PI
  by_cases hc : (openG [] s.d.rs).1 = 0
  case neg =>
    have e1 := openC_ok h0
    have e2 : storeF s = (openG [] s.d.rs).1 := by rw [storeF_bad (by rw [e1]; exact hc), e1]
    rw [e2]
    generalize (openG [] s.d.rs).1 = cd at *
    generalize (openG [] s.d.rs).2 = qs at *
    have q9 : (cd != 0) = true := by simpa using hc
    have q8 : decide (cd = 0) = false := by simpa using hc
    clear e1 e2
    go_enter Tryz.func79, Tryz.ntmps79
    go_wp2_with fail
    refine F.mono ?_
    rintro r u1 ⟨rfl, b1⟩
    have A1 := HA.out.on b1
    have d0 := A1.cell 0 _ rfl
    have d1 := A1.cell 1 _ rfl
    have d2 := A1.cell 2 _ rfl
    have HA1 := Lib.hid A1
    clear F A1 cg
    go_wp2_with fail
    refine (PI.out _ b1).mono ?_
    rintro r u2 ⟨a3, n3, c3, rfl, O2, b2⟩
    have B2 := btr b1 b2
    have A2 := HA1.out.on b2
    clear d0 d1 d2
    have d0 := A2.cell 0 _ rfl
    have d1 := A2.cell 1 _ rfl
    have d2 := A2.cell 2 _ rfl
    clear A2 HA1 PI HG b1 b2 HA
    go_wp2_with fail
    go_ret
    exact ⟨rfl, B2⟩
  have e1 := openC_make h0 hc
  have HNM := Lib.hid (right_names (openG_right pins0 hc))
  rw [hc] at PI
  have e2 : storeF s = if sameL (openG [] s.d.rs).2 s.ps then 0 else 8 := by unfold storeF; rw [if_pos e1]
  rw [e2]
  clear e1 e2 hc h0 h12 hlong hs0 hs1
  generalize (openG [] s.d.rs).2 = qs at *
  generalize s.ps = ps at *
  have SP := Lib.hid (fun (w' : World) (h1 : PRow w' w'.heap.size a1 n1 c1 ps) (a3 : Option Addr) (n3 c3 : Nat) (h2 : PRow w' w'.heap.size a3 n3 c3 qs) => specSamePins_any a3 a1 n3 n1 c3 c1 w'.heap.size qs ps w' h2 h1 (Nat.le_refl _))
  cases hq : sameL qs ps
  · rw [hq] at SP
    clear hq
    go_enter Tryz.func79, Tryz.ntmps79
    go_wp2_with fail
    refine F.mono ?_
    rintro r u1 ⟨rfl, b1⟩
    have A1 := HA.out.on b1
    have d0 := A1.cell 0 _ rfl
    have d1 := A1.cell 1 _ rfl
    have d2 := A1.cell 2 _ rfl
    have HA1 := Lib.hid A1
    clear F A1 cg
    go_wp2_with fail
    refine (PI.out _ b1).mono ?_
    rintro r u2 ⟨a3, n3, c3, rfl, O2, b2⟩
    have B2 := btr b1 b2
    have A2 := HA1.out.on b2
    clear d0 d1 d2
    have d0 := A2.cell 0 _ rfl
    have d1 := A2.cell 1 _ rfl
    have d2 := A2.cell 2 _ rfl
    clear A2 HA1 PI HG b1 b2 HA
    have PR := Lib.hid ((HP.out _ B2).more (Nat.le_trans hB B2.size))
    have SR := Lib.hid (OwnP.row O2 HNM.out)
    clear O2
    go_wp2_with fail
    refine (SP.out _ PR.out _ _ _ SR.out).mono ?_
    rintro r u3 ⟨rfl, b3⟩
    have B3 := btr B2 b3
    clear B2 b3 SP PR SR d0 d1 d2
    go_wp2_with fail
    go_ret
    exact ⟨rfl, B3⟩
  · rw [hq] at SP
    clear hq
    go_enter Tryz.func79, Tryz.ntmps79
    go_wp2_with fail
    refine F.mono ?_
    rintro r u1 ⟨rfl, b1⟩
    have A1 := HA.out.on b1
    have d0 := A1.cell 0 _ rfl
    have d1 := A1.cell 1 _ rfl
    have d2 := A1.cell 2 _ rfl
    have HA1 := Lib.hid A1
    clear F A1 cg
    go_wp2_with fail
    refine (PI.out _ b1).mono ?_
    rintro r u2 ⟨a3, n3, c3, rfl, O2, b2⟩
    have B2 := btr b1 b2
    have A2 := HA1.out.on b2
    clear d0 d1 d2
    have d0 := A2.cell 0 _ rfl
    have d1 := A2.cell 1 _ rfl
    have d2 := A2.cell 2 _ rfl
    clear A2 HA1 PI HG b1 b2 HA
    have PR := Lib.hid ((HP.out _ B2).more (Nat.le_trans hB B2.size))
    have SR := Lib.hid (OwnP.row O2 HNM.out)
    clear O2
    go_wp2_with fail
    refine (SP.out _ PR.out _ _ _ SR.out).mono ?_
    rintro r u3 ⟨rfl, b3⟩
    have B3 := btr B2 b3
    clear B2 b3 SP PR SR d0 d1 d2
    go_wp2_with fail
    go_ret
    exact ⟨rfl, B3⟩
theorem specStoreFault_any (a1 : Option Addr) (n1 c1 : Nat) (a2 : Option Addr) (n2 c2 B : Nat) (s : StoreD) (w : World) (hR : SRow w B a1 n1 c1 a2 n2 c2 s) (hB : B ≤ w.heap.size) :
    Calls Tryz.prog 22 #[S3 a1 n1 c1 a2 n2 c2 s.d.s] w fun r w' => r = .returned (.int .i64 (storeF s)) ∧ Below w.heap.size w w' := by
  have b0 := bal (Below.refl _ w) (.cells #[.slice a1 n1 c1, .slice a2 n2 c2, .int .i64 s.d.s] 29)
  have A0 : At w.heap.size (S3L a1 n1 c1 a2 n2 c2 s.d.s) (w.alloc (.cells #[.slice a1 n1 c1, .slice a2 n2 c2, .int .i64 s.d.s] 29)) := At.new w (S3L a1 n1 c1 a2 n2 c2 s.d.s) 29
  have F := l9Fault_any w.heap.size a1 n1 c1 a2 n2 c2 B s _ ⟨A0, hR.below (b0.mono hB)⟩ (Nat.le_trans hB b0.size)
  generalize storeF s = c at *
  generalize s.d.s = x at *
  clear hR A0
  go_enter Tryz.func22, Tryz.ntmps22
  go_wp2_with fail
  refine F.mono ?_
  rintro r u1 ⟨rfl, b1⟩
  have b2 := btr b0 b1
  clear b1 F b0
  go_wp2_with fail
  go_ret
  exact ⟨rfl, b2⟩
end Go.Proofs.YtcolecidbalmhaaGreatDoor
namespace Go.Proofs.YtcolecidbalmhaaGreatDoor
open Go.RowKit
set_option maxRecDepth 100000
set_option linter.unusedVariables false

theorem syncS_no {s : StoreD} (h : storeF s ≠ 0) : syncS s = store0 := by unfold syncS; rw [if_neg h]
/-- Where an operation on a store begins: the argument, the result, what is wrong. -/
theorem begin9 (a1 : Option Addr) (n1 c1 : Nat) (a2 : Option Addr) (n2 c2 B : Nat) (s : StoreD) (w : World) (hR : SRow w B a1 n1 c1 a2 n2 c2 s) (hB : B ≤ w.heap.size) :
    Below w.heap.size w ((w.alloc (.cells #[.slice a1 n1 c1, .slice a2 n2 c2, .int .i64 s.d.s] 29)).alloc (.cells #[.int .i64 0, .slice none 0 0, .slice none 0 0, .int .i64 0] 35)) ∧
    At w.heap.size (S3L a1 n1 c1 a2 n2 c2 s.d.s) ((w.alloc (.cells #[.slice a1 n1 c1, .slice a2 n2 c2, .int .i64 s.d.s] 29)).alloc (.cells #[.int .i64 0, .slice none 0 0, .slice none 0 0, .int .i64 0] 35)) ∧
    At (w.heap.size + 1) zero9 ((w.alloc (.cells #[.slice a1 n1 c1, .slice a2 n2 c2, .int .i64 s.d.s] 29)).alloc (.cells #[.int .i64 0, .slice none 0 0, .slice none 0 0, .int .i64 0] 35)) := by
  have b0 := bal (bal (Below.refl _ w) (.cells #[.slice a1 n1 c1, .slice a2 n2 c2, .int .i64 s.d.s] 29)) (.cells #[.int .i64 0, .slice none 0 0, .slice none 0 0, .int .i64 0] 35)
  have A0 := (At.new w (S3L a1 n1 c1 a2 n2 c2 s.d.s) 29).alloc (.cells #[.int .i64 0, .slice none 0 0, .slice none 0 0, .int .i64 0] 35)
  have R0 := At.new (w.alloc (.cells #[.slice a1 n1 c1, .slice a2 n2 c2, .int .i64 s.d.s] 29)) zero9 35
  rw [World.size_alloc] at R0
  exact ⟨b0, A0, R0⟩
end Go.Proofs.YtcolecidbalmhaaGreatDoor
namespace Go.Proofs.YtcolecidbalmhaaGreatDoor
open Go.RowKit
set_option maxRecDepth 100000
set_option linter.unusedVariables false

/-- Two blocks of cells and a journal. -/
structure Hold3 (W : World) (d : Nat) (dv : List Value) (r : Nat) (rv : List Value) (j : Nat) (J : List Value) (cur : World) : Prop where
  bel : Below W.heap.size W cur
  D : At d dv cur
  R : At r rv cur
  J : JB j J cur
section
variable {W cur cur' : World} {d r j : Nat} {dv rv J : List Value}
theorem Hold3.on (h : Hold3 W d dv r rv j J cur) (hb : Below cur.heap.size cur cur') : Hold3 W d dv r rv j J cur' := ⟨btr h.bel hb, h.D.on hb, h.R.on hb, h.J.on hb⟩
theorem Hold3.row (h : Hold3 W d dv r rv j J cur) (K : List Value) (h1 : d ≠ j) (h2 : r ≠ j) (h3 : W.heap.size ≤ j) : Hold3 W d dv r rv j K (cur.setRow j K.toArray) :=
  ⟨brow h.bel h3 _, h.D.keep fun _ => setRow_other cur j d _ h1, h.R.keep fun _ => setRow_other cur j r _ h2, h.J.row K⟩
theorem Hold.row {g : Nat} {cs : List Value} (h : Hold W g cs cur) (K : List Value) (h1 : g ≠ j) (h3 : W.heap.size ≤ j) : Hold W g cs (cur.setRow j K.toArray) :=
  ⟨brow h.bel h3 _, h.at'.keep fun _ => setRow_other cur j g _ h1⟩
end
end Go.Proofs.YtcolecidbalmhaaGreatDoor
namespace Go.Proofs.YtcolecidbalmhaaGreatDoor
open Go.RowKit
set_option maxRecDepth 100000
set_option linter.unusedVariables false

@[go_sem] theorem min_two (ats : Array TypeId) (ty : TypeId) (k k' : IntKind) (x y : Int) : Builtin.min_ ats ty #[.int k x, .int k' y] = pure (.int k (if y < x then y else x)) := rfl
theorem crashS_no {s : StoreD} {k : Int} (h : crashC s k ≠ 0) : crashS s k = store0 := by unfold crashS; rw [if_neg h]
theorem crash_open {s : StoreD} {k : Int} (h : storeF s = 0) (hk : 0 ≤ k) : ∃ m : Nat, (m : Int) = leftN s k ∧ m ≤ s.d.rs.length ∧ leftD s k = ⟨s.d.rs.take m, m⟩ ∧ openC ⟨s.d.rs.take m, m⟩ = 0 ∧ openS ⟨s.d.rs.take m, m⟩ = crashS s k := by
  have hb := left_bd h hk
  have ho := left_open h hk
  have e : leftD s k = ⟨s.d.rs.take (leftN s k).toNat, ((leftN s k).toNat : Nat)⟩ := by
    unfold leftD
    rw [Int.toNat_of_nonneg (by omega)]
  refine ⟨(leftN s k).toNat, Int.toNat_of_nonneg (by omega), by omega, e, ?_, ?_⟩
  · rw [← e]; exact ho
  · rw [← e]; unfold crashS; rw [if_pos (crashC_yes h (by omega))]
end Go.Proofs.YtcolecidbalmhaaGreatDoor
namespace Go.Proofs.YtcolecidbalmhaaGreatDoor
open Go.RowKit
set_option maxRecDepth 100000
set_option linter.unusedVariables false

theorem flat_oneCell (ps : List PinD) : ∀ v ∈ flat ps, v.oneCell' = true := by
  intro v hv
  simp only [flat, List.mem_flatMap] at hv
  obtain ⟨p, _, h⟩ := hv
  exact pin_oneCell p v h
theorem PRow.src {w : World} {B : Nat} {a : Option Addr} {len cap : Nat} {ps : List PinD} {tx e' : TypeId} (h : PRow w B a len cap ps) (hk : Tryz.prog.underlying tx = some (.slice e')) : Go.Src Tryz.prog 5 tx (.slice a len cap) len (flat ps) w := by
  rcases Nat.eq_zero_or_pos len with h0 | h0
  · subst h0
    obtain rfl : ps = [] := List.eq_nil_of_length_eq_zero h.length
    cases a with
    | none => exact Src.ofNil w hk cap
    | some x => exact Src.ofSlice w hk x 0 cap [] rfl (fun j u hu => by simp at hu) (fun _ hu => by cases hu)
  · obtain ⟨b, off, rfl, hb, hc⟩ := h.cells h0
    refine Src.ofSlice w hk _ len cap _ (by rw [flat_length, h.length]) (fun j u hu => ?_) (flat_oneCell ps)
    have hj := (List.getElem?_eq_some_iff.1 hu).1
    rw [flat_length] at hj
    have hk5 : j / 5 < ps.length := by omega
    have hi5 : j % 5 < (ps[j / 5]?.getD pin0).vals.length := by show j % 5 < 5; omega
    have hv := flat_get ps (j / 5) (j % 5) _ hk5 (List.getElem?_eq_getElem hi5)
    rw [show j / 5 * 5 + j % 5 = j by omega, hu] at hv
    injection hv with hv
    rw [Addr.add_lit, show off + j = off + j / 5 * 5 + j % 5 by omega, hv]
    exact hc (j / 5) (by rw [← h.length]; exact hk5) (j % 5) _ (List.getElem?_eq_getElem hi5)
/-- A store of new memory was answered. -/
def CopiedS (s : StoreD) (w : World) (e : Ending) (w' : World) : Prop :=
  ∃ a1 c1 a2 c2, e = .returned (S3 a1 s.ps.length c1 a2 s.d.rs.length c2 s.d.s) ∧ SOwn w' w.heap.size w'.heap.size (.slice a1 s.ps.length c1) (.slice a2 s.d.rs.length c2) s ∧ Below w.heap.size w w'
set_option maxHeartbeats 1000000 in
theorem l9Copy_any (a1 : Option Addr) (n1 c1 : Nat) (a2 : Option Addr) (n2 c2 B : Nat) (s : StoreD) (w : World) (hR : SRow w B a1 n1 c1 a2 n2 c2 s) (hB : B ≤ w.heap.size) (hn4 : s.ps.length ≤ 4) (h12 : s.d.rs.length ≤ 12) (hl : s.d.rs.any longR = false) :
    Calls Tryz.prog 87 #[S3 a1 n1 c1 a2 n2 c2 s.d.s] w (CopiedS s w) := by
  obtain ⟨i0, hi0, hz0, hz1, hz2⟩ := info_parts pin_info
  have b0 := bal (bal (Below.refl _ w) (.cells #[.slice a1 n1 c1, .slice a2 n2 c2, .int .i64 s.d.s] 29)) (.cells #[.slice none 0 0, .slice none 0 0, .int .i64 0] 29)
  have A0 := (At.new w (S3L a1 n1 c1 a2 n2 c2 s.d.s) 29).alloc (.cells #[.slice none 0 0, .slice none 0 0, .int .i64 0] 29)
  have R0 := At.new (w.alloc (.cells #[.slice a1 n1 c1, .slice a2 n2 c2, .int .i64 s.d.s] 29)) [.slice none 0 0, .slice none 0 0, .int .i64 0] 29
  rw [World.size_alloc] at R0
  have hln := hR.ps.length
  have hrn := hR.rs.length
  have HPS := Lib.hid (fun (w' : World) (h : Below w.heap.size w w') => (hR.ps.below (h.mono hB)).src Tryz.underlying24)
  have CD := Lib.hid (fun (w' : World) (h : Below w.heap.size w w') => l9CopyDisk_any a2 n2 c2 B s.d.rs s.d.s w' (hR.rs.below (h.mono hB)) (Nat.le_trans hB h.size) h12 hl)
  have HNM := Lib.hid hR.ps.names
  have HW := Lib.hid hR.wf
  have H0 := Lib.hid (show Hold w w.heap.size (S3L a1 n1 c1 a2 n2 c2 s.d.s) (((w.alloc (.cells #[.slice a1 n1 c1, .slice a2 n2 c2, .int .i64 s.d.s] 29)).alloc (.cells #[.slice none 0 0, .slice none 0 0, .int .i64 0] 29)).drew) from ⟨b0.drew, A0.on (bdrew _)⟩)
  have HR0 := Lib.hid (show At (w.heap.size + 1) [.slice none 0 0, .slice none 0 0, .int .i64 0] (((w.alloc (.cells #[.slice a1 n1 c1, .slice a2 n2 c2, .int .i64 s.d.s] 29)).alloc (.cells #[.slice none 0 0, .slice none 0 0, .int .i64 0] 29)).drew) from R0.on (bdrew _))
  have hn1 : n1 ≤ 4 := by rw [← hln]; exact hn4
  have HLN := Lib.hid hln
  have HRN := Lib.hid hrn
  clear hR hn4 h12 hl A0 R0 b0 hln hrn
  go_enter Tryz.func87, Tryz.ntmps87
  go_wp2_with fail
  refine wp_region_line (Hold w w.heap.size (S3L a1 n1 c1 a2 n2 c2 s.d.s)) [(1, true), (2, true), (4, true), (5, true), (0, false), (3, false), (6, false), (7, true), (8, false)] (by kernel_rfl) (by kernel_rfl) (fun _ _ d _ _ h => by cases d <;> exact h) H0.out ?_
  have hst := H0.out
  have inst : Nonempty (Of (Hold w w.heap.size (S3L a1 n1 c1 a2 n2 c2 s.d.s))) := ⟨⟨_, hst⟩⟩
  have u0 := hold_cell (W := w) (g := w.heap.size) (cs := S3L a1 n1 c1 a2 n2 c2 s.d.s) 0 _ rfl
  have u1 := hold_cell (W := w) (g := w.heap.size) (cs := S3L a1 n1 c1 a2 n2 c2 s.d.s) 1 _ rfl
  have u2 := hold_cell (W := w) (g := w.heap.size) (cs := S3L a1 n1 c1 a2 n2 c2 s.d.s) 2 _ rfl
  clear H0
  generalize ((w.alloc (.cells #[.slice a1 n1 c1, .slice a2 n2 c2, .int .i64 s.d.s] 29)).alloc (.cells #[.slice none 0 0, .slice none 0 0, .int .i64 0] 29)).drew = V1 at *
  iterate 4 (refine line_read rfl (by kernel_rfl) (fun K hK => ?_); go_big_quiet_op; refine hK _ ?_; clear hK K)
  clear u0 u1 u2
  refine line_alone rfl (by kernel_rfl) (fun K hK => ?_)
  go_big_op
  have b2 := bal (Below.refl _ V1) (.cells #[] 31)
  have hst2 := hst.on b2
  have O2 := Lib.hid (show Own (V1.alloc (.cells #[] 31)) V1.heap.size 5 (.slice (some ⟨V1.heap.size, 0, none⟩) 0 0) 0 [] from Own.made V1 #[] 31 0 (Nat.le_refl _) (Nat.zero_le _) rfl)
  have S2 := Lib.hid (HPS.out _ hst2.bel)
  have R2 := Lib.hid (HR0.out.on b2)
  have hlo : w.heap.size + 1 < V1.heap.size := HR0.out.lt (by simp)
  refine hK _ _ hst2 ?_
  clear hK K hst b2 HPS HR0
  have hst := hst2
  clear hst2
  have hsz2 : V1.heap.size ≤ (V1.alloc (.cells #[] 31)).heap.size := by simp
  generalize V1.alloc (.cells #[] 31) = V2 at *
  generalize V1.heap.size = lo at *
  refine line_alone rfl (by kernel_rfl) (fun K hK => ?_)
  refine wp_append_src _ (.tmp 3) (.tmp 5) 24 24 rfl lo 31 i0 (P5 pin0) 5 48 Tryz.underlying24 hi0 hz0 hz1 hz2 rfl _ 0 [] rfl O2.out _ n1 (flat s.ps) rfl S2.out (by simp only [maxLen]; omega) (by omega) hsz2 (fun v3 w3 hown hgrow hat => ?_)
  have hst2 : Hold w w.heap.size (S3L a1 n1 c1 a2 n2 c2 s.d.s) w3 := ⟨hst.bel.grown hgrow hst.bel.size (fun k e => by have := (Own.lt O2.out k e).1; omega), hst.at'.kept hgrow (fun e => by have := (Own.lt O2.out _ e.symm).1; omega)⟩
  have R3 := Lib.hid (R2.out.kept hgrow (fun e => by have := (Own.lt O2.out _ e.symm).1; omega))
  have O3 : OwnP w3 lo v3 s.ps := by
    unfold OwnP
    rw [HLN.out]
    simpa using hown
  obtain ⟨a3, c3, hv3, -⟩ := O3.form
  subst hv3
  have HO3 := Lib.hid O3
  have hlo3 : lo ≤ w3.heap.size := Nat.le_trans hsz2 hgrow.size
  refine hK _ _ hst2 ?_
  clear hK K hst hown hgrow hat O2 S2 R2 O3 hsz2
  have hst := hst2
  clear hst2
  simp only [Act.put, List.setIfInBounds_toArray, List.set_cons_zero, List.set_cons_succ]
  refine line_alone rfl (by kernel_rfl) (fun K hK => ?_)
  refine call_any (args := #[.agg #[.slice a2 n2 c2, .int .i64 s.d.s]]) rfl (by kernel_rfl) (by kernel_rfl) (CD.out _ hst.bel) ?_
  rintro e x6 ⟨a6, n6, c6, xs, rfl, G6, b6⟩
  have hst2 := hst.on b6
  have R6 := R3.out.on b6
  have SO : SOwn x6 lo x6.heap.size (.slice a3 s.ps.length c3) (.slice a6 n6 c6) s :=
    SOwn.mk' (W := w) (mid := w3.heap.size) (HO3.out.below b6) hlo3 (fun g hg => (Own.lt HO3.out g hg).2) G6 b6.size HNM.out HW.out
  obtain ⟨-, hn6⟩ := SO.len
  subst hn6
  have HSO := Lib.hid SO
  refine ⟨_, rfl, hK _ _ hst2 ?_⟩
  clear hK K hst b6 G6 SO R3 HO3 CD
  have hst := hst2
  clear hst2
  simp only [Act.put, List.setIfInBounds_toArray, List.set_cons_zero, List.set_cons_succ]
  refine line_readv (v := .agg #[.slice a3 s.ps.length c3, .slice a6 s.d.rs.length c6, .int .i64 s.d.s]) rfl (by kernel_rfl) (fun _ => by kernel_rfl) ?_
  simp only [Act.put, List.setIfInBounds_toArray, List.set_cons_zero, List.set_cons_succ]
  have q0 := R6.cell 0 _ rfl
  have q1 := R6.cell 1 _ rfl
  have q2 := R6.cell 2 _ rfl
  have f0 := R6.free 0 _ rfl
  have f1 := R6.free 1 _ rfl
  have f2 := R6.free 2 _ rfl
  refine line_alone rfl (by kernel_rfl) (fun K hK => ?_)
  go_big_op
  refine hK _ _ ((by (iterate 3 (refine Hold.setB ?_ (by dsimp only; omega) (by dsimp only; omega) _)); exact hst)) ?_
  clear hK K
  refine line_nil ?_
  have hS := ((HSO.out.setCell (p := ⟨w.heap.size + 1, 0, none⟩) (.inl hlo) (.slice a3 s.ps.length c3)).setCell (p := ⟨w.heap.size + 1, 1, none⟩) (.inl hlo) (.slice a6 s.d.rs.length c6)).setCell (p := ⟨w.heap.size + 1, 2, none⟩) (.inl hlo) (.int .i64 s.d.s)
  have hS2 := Lib.hid ((hS.less (show w.heap.size ≤ lo by omega)).more hS.top.2 (Nat.le_refl _))
  have HB := Lib.hid hst.bel
  clear hst inst R6 hS HSO
  go_wp2_with fail
  refine bodyPost_ret (v := S3 a3 s.ps.length c3 a6 s.d.rs.length c6 s.d.s) (by simp [results, Tryz.results87, go_sem, S3, q0, q1, q2]) rfl ⟨a3, c3, a6, c6, rfl, hS2.out, ?_⟩
  exact (by (iterate 3 (refine bset ?_ (by dsimp only; omega) _)); exact HB.out)
end Go.Proofs.YtcolecidbalmhaaGreatDoor
namespace Go.Proofs.YtcolecidbalmhaaGreatDoor
open Go.RowKit
set_option maxRecDepth 100000
set_option linter.unusedVariables false

theorem Grid.upto {w : World} {B : Nat} {a : Option Addr} {len cap : Nat} {zss : List (List Int)} (h : Grid w B a len cap zss) (n : Nat) (hn : n ≤ len) : Grid w B a n cap (zss.take n) :=
  ⟨by rw [List.length_take, h.length]; omega, Nat.le_trans hn h.fits, h.most, fun hp => by
    obtain ⟨b, off, e, hb, hc⟩ := h.cells (by omega)
    refine ⟨b, off, e, hb, fun j hj => ?_⟩
    obtain ⟨a', n', c', h1, h2⟩ := hc j (by omega)
    refine ⟨a', n', c', h1, ?_⟩
    rw [List.getElem?_take_of_lt hj]
    exact h2⟩
theorem l1Min_any (a b : Int) (w : World) : Calls Tryz.prog 92 #[.int .i64 a, .int .i64 b] w fun e w' => e = .returned (.int .i64 (if a < b then a else b)) ∧ w = w' := by
  by_cases h : a < b
  · rw [if_pos h]
    go_enter Tryz.func92, Tryz.ntmps92
    go_wp2_with fail
    go_ret
    exact ⟨rfl, rfl⟩
  · rw [if_neg h]
    go_enter Tryz.func92, Tryz.ntmps92
    go_wp2_with fail
    go_ret
    exact ⟨rfl, rfl⟩
set_option maxHeartbeats 1000000 in
theorem specSyncStore_any (a1 : Option Addr) (n1 c1 : Nat) (a2 : Option Addr) (n2 c2 B : Nat) (s : StoreD) (w : World) (hR : SRow w B a1 n1 c1 a2 n2 c2 s) (hB : B ≤ w.heap.size) :
    Calls Tryz.prog 20 #[S3 a1 n1 c1 a2 n2 c2 s.d.s] w (StoreRes (storeF s) (syncS s) w) := by
  obtain ⟨b0, A0, R0⟩ := begin9 a1 n1 c1 a2 n2 c2 B s w hR hB
  have HR0 := Lib.hid R0
  have HA0 := Lib.hid A0
  have HB0 := Lib.hid b0
  have hRw := hR.wf
  have HR := Lib.hid (fun (w' : World) (h : Below w.heap.size w w') => hR.below (h.mono hB))
  have F0 := l9Fault_any w.heap.size a1 n1 c1 a2 n2 c2 B s _ ⟨A0, hR.below (b0.mono hB)⟩ (Nat.le_trans hB b0.size)
  clear A0 R0 b0
  by_cases h0 : storeF s = 0
  case neg =>
    rw [syncS_no h0]
    generalize storeF s = cd at *
    have q9 : (cd != 0) = true := by simpa using h0
    have q8 : decide (cd = 0) = false := by simpa using h0
    clear HR hR
    go_enter Tryz.func20, Tryz.ntmps20
    go_wp2_with fail
    generalize (w.alloc (.cells #[.slice a1 n1 c1, .slice a2 n2 c2, .int .i64 s.d.s] 29)).alloc (.cells #[.int .i64 0, .slice none 0 0, .slice none 0 0, .int .i64 0] 35) = W0 at *
    refine F0.mono ?_
    rintro r u1 ⟨rfl, b1⟩
    have B1 := Lib.hid (btr HB0.out b1)
    have R1 := Lib.hid (HR0.out.on b1)
    have A1 := Lib.hid (HA0.out.on b1)
    clear b1 F0 HB0 HR0 HA0
    go_wp2_with fail
    refine (l9Bad_any cd _).mono ?_
    rintro r u9 ⟨rfl, b9⟩
    have R9 := (R1.out).on b9
    have B9 := btr B1.out b9
    unfold zero9 at R9
    have q0 := R9.cell 0 _ rfl
    have q1 := R9.cell 1 _ rfl
    have q2 := R9.cell 2 _ rfl
    have q3 := R9.cell 3 _ rfl
    have f0 := R9.free 0 _ rfl
    have f1 := R9.free 1 _ rfl
    have f2 := R9.free 2 _ rfl
    have f3 := R9.free 3 _ rfl
    clear b9 R9
    go_wp2_with fail
    refine bodyPost_ret (v := V4 cd none 0 0 none 0 0 0) (by simp [results, Tryz.results20, go_sem, V4, q0, q1, q2, q3]) rfl ⟨none, 0, 0, none, 0, 0, rfl, SOwn.nil _ _ ?_, ?_⟩
    · exact Nat.le_trans B9.size (by simp [World.setCell])
    · exact (by (iterate 4 (refine bset ?_ (by dsimp only; omega) _)); exact B9)
  obtain ⟨hp4, -, -⟩ := pinsF_zero (storeF_pins h0)
  obtain ⟨h12, hlong, -, -⟩ := diskF_zero (openC_zero (storeF_zero h0).1).1
  have CP := Lib.hid (fun (w' : World) (h : Below w.heap.size w w') => l9Copy_any a1 n1 c1 a2 n2 c2 B s w' (HR.out w' h) (Nat.le_trans hB h.size) hp4 h12 hlong)
  have hn2 := hR.rs.length
  subst hn2
  have e : syncS s = ⟨s.ps, ⟨s.d.rs, s.d.rs.length⟩⟩ := by unfold syncS; rw [if_pos h0]
  rw [e, h0]
  rw [h0] at F0
  have hlen : s.d.rs.length ≤ 12 := h12
  clear h0 hp4 h12 hlong e HR hR hRw
  go_enter Tryz.func20, Tryz.ntmps20
  go_wp2_with fail
  generalize (w.alloc (.cells #[.slice a1 n1 c1, .slice a2 s.d.rs.length c2, .int .i64 s.d.s] 29)).alloc (.cells #[.int .i64 0, .slice none 0 0, .slice none 0 0, .int .i64 0] 35) = W0 at *
  refine F0.mono ?_
  rintro r u1 ⟨rfl, b1⟩
  have B1 := Lib.hid (btr HB0.out b1)
  have R1 := Lib.hid (HR0.out.on b1)
  have A1 := Lib.hid (HA0.out.on b1)
  clear b1 F0 HB0 HR0 HA0
  have d0 := A1.out.cell 0 _ rfl
  have d1 := A1.out.cell 1 _ rfl
  have d2 := A1.out.cell 2 _ rfl
  go_wp2_with fail
  refine (CP.out _ B1.out).mono ?_
  rintro r u2 ⟨a3, c3, a4, c4, rfl, SO, b2⟩
  have b3 := btr b2 (bal (Below.refl _ u2) (.cells #[.slice a3 s.ps.length c3, .slice a4 s.d.rs.length c4, .int .i64 s.d.s] 29))
  have P3 : At u2.heap.size [.slice a3 s.ps.length c3, .slice a4 s.d.rs.length c4, .int .i64 s.d.s] (u2.alloc (.cells #[.slice a3 s.ps.length c3, .slice a4 s.d.rs.length c4, .int .i64 s.d.s] 29)) := At.new u2 [.slice a3 s.ps.length c3, .slice a4 s.d.rs.length c4, .int .i64 s.d.s] 29
  have HSO := Lib.hid (SO.below (bal (Below.refl _ u2) (.cells #[.slice a3 s.ps.length c3, .slice a4 s.d.rs.length c4, .int .i64 s.d.s] 29)))
  have R3 := Lib.hid (R1.out.on b3)
  have A3 := Lib.hid (A1.out.on b3)
  have B3 := Lib.hid (btr B1.out b3)
  have hst2 : w.heap.size ≤ u2.heap.size := (btr B1.out b2).size
  have hlt1 : w.heap.size + 1 < u1.heap.size := R1.out.lt (by simp [zero9])
  have hlt2 : u1.heap.size ≤ u2.heap.size := b2.size
  have HP3 := Lib.hid P3
  clear d0 d1 d2 b2 b3 P3 SO R1 A1
  go_upto_region 5 with fail
  generalize u2.alloc (.cells #[.slice a3 s.ps.length c3, .slice a4 s.d.rs.length c4, .int .i64 s.d.s] 29) = W3 at *
  have d0 := A3.out.cell 0 _ rfl
  have d1 := A3.out.cell 1 _ rfl
  have d2 := A3.out.cell 2 _ rfl
  have p0 := HP3.out.cell 0 _ rfl
  have p1 := HP3.out.cell 1 _ rfl
  have p2 := HP3.out.cell 2 _ rfl
  have g0 := HP3.out.free 0 _ rfl
  have g1 := HP3.out.free 1 _ rfl
  have g2 := HP3.out.free 2 _ rfl
  go_upto_region 6 with fail
  have P4 : At u2.heap.size [.slice a3 s.ps.length c3, .slice a4 s.d.rs.length c4, .int .i64 s.d.rs.length] (W3.setCell ⟨u2.heap.size, 2, none⟩ (.int .i64 s.d.rs.length)) := by simpa using HP3.out.set 2 (.int .i64 s.d.rs.length)
  have R4 := R3.out.setB (p := ⟨u2.heap.size, 2, none⟩) (by show w.heap.size + 1 ≠ u2.heap.size; omega) (.int .i64 s.d.rs.length)
  have B4 : Below w.heap.size w (W3.setCell ⟨u2.heap.size, 2, none⟩ (.int .i64 s.d.rs.length)) := bset B3.out (by show w.heap.size ≤ u2.heap.size; omega) _
  have SO9 : SOwn (W3.setCell ⟨u2.heap.size, 2, none⟩ (.int .i64 s.d.rs.length)) u1.heap.size (W3.setCell ⟨u2.heap.size, 2, none⟩ (.int .i64 s.d.rs.length)).heap.size (.slice a3 s.ps.length c3) (.slice a4 s.d.rs.length c4) ⟨s.ps, ⟨s.d.rs, s.d.rs.length⟩⟩ := by
    have h := HSO.out.setCell (p := ⟨u2.heap.size, 2, none⟩) (.inr (Nat.le_refl _)) (.int .i64 s.d.rs.length)
    exact h.more h.top.2 (Nat.le_refl _)
  generalize W3.setCell ⟨u2.heap.size, 2, none⟩ (.int .i64 s.d.rs.length) = W4 at *
  have HS9 := Lib.hid (SO9.res (w := w) (r := w.heap.size + 1) hlt1 (by omega) (.int .i64 0) (.slice a3 s.ps.length c3) (.slice a4 s.d.rs.length c4) (.int .i64 s.d.rs.length))
  have HB4 := Lib.hid B4
  clear d0 d1 d2 p0 p1 p2 g0 g1 g2 SO9 HP3 R3 A3 B3 HSO
  have p0 := P4.cell 0 _ rfl
  have p1 := P4.cell 1 _ rfl
  have p2 := P4.cell 2 _ rfl
  unfold zero9 at R4
  have q0 := R4.cell 0 _ rfl
  have q1 := R4.cell 1 _ rfl
  have q2 := R4.cell 2 _ rfl
  have q3 := R4.cell 3 _ rfl
  have f0 := R4.free 0 _ rfl
  have f1 := R4.free 1 _ rfl
  have f2 := R4.free 2 _ rfl
  have f3 := R4.free 3 _ rfl
  clear P4 R4
  go_wp2_with fail
  refine bodyPost_ret (v := V4 0 a3 s.ps.length c3 a4 s.d.rs.length c4 s.d.rs.length) (by simp [results, Tryz.results20, go_sem, V4, q0, q1, q2, q3]) rfl ⟨a3, s.ps.length, c3, a4, s.d.rs.length, c4, rfl, HS9.out, ?_⟩
  exact (by (iterate 4 (refine bset ?_ (by dsimp only; omega) _)); exact HB4.out)
set_option maxHeartbeats 2000000 in
theorem specCrashStore_any (a1 : Option Addr) (n1 c1 : Nat) (a2 : Option Addr) (n2 c2 B : Nat) (s : StoreD) (k : Int) (w : World) (hR : SRow w B a1 n1 c1 a2 n2 c2 s) (hB : B ≤ w.heap.size) (hkm : k ≤ 9223372036854775807) :
    Calls Tryz.prog 27 #[S3 a1 n1 c1 a2 n2 c2 s.d.s, .int .i64 k] w (StoreRes (crashC s k) (crashS s k) w) := by
  obtain ⟨b0, A0, R0⟩ := begin9 a1 n1 c1 a2 n2 c2 B s w hR hB
  have HR0 := Lib.hid R0
  have HA0 := Lib.hid A0
  have HB0 := Lib.hid b0
  have hRw := hR.wf
  have HR := Lib.hid (fun (w' : World) (h : Below w.heap.size w w') => hR.below (h.mono hB))
  have F0 := l9Fault_any w.heap.size a1 n1 c1 a2 n2 c2 B s _ ⟨A0, hR.below (b0.mono hB)⟩ (Nat.le_trans hB b0.size)
  clear A0 R0 b0
  by_cases h0 : storeF s = 0
  case neg =>
    have ec := crashC_bad (k := k) h0
    rw [crashS_no (by rw [ec]; exact h0), ec]
    generalize storeF s = cd at *
    have q9 : (cd != 0) = true := by simpa using h0
    have q8 : decide (cd = 0) = false := by simpa using h0
    clear HR ec hR
    go_enter Tryz.func27, Tryz.ntmps27
    go_wp2_with fail
    generalize (w.alloc (.cells #[.slice a1 n1 c1, .slice a2 n2 c2, .int .i64 s.d.s] 29)).alloc (.cells #[.int .i64 0, .slice none 0 0, .slice none 0 0, .int .i64 0] 35) = W0 at *
    refine F0.mono ?_
    rintro r u1 ⟨rfl, b1⟩
    have B1 := Lib.hid (btr HB0.out b1)
    have R1 := Lib.hid (HR0.out.on b1)
    have A1 := Lib.hid (HA0.out.on b1)
    clear b1 F0 HB0 HR0 HA0
    go_wp2_with fail
    refine (l9Bad_any cd _).mono ?_
    rintro r u9 ⟨rfl, b9⟩
    have R9 := (R1.out).on b9
    have B9 := btr B1.out b9
    unfold zero9 at R9
    have q0 := R9.cell 0 _ rfl
    have q1 := R9.cell 1 _ rfl
    have q2 := R9.cell 2 _ rfl
    have q3 := R9.cell 3 _ rfl
    have f0 := R9.free 0 _ rfl
    have f1 := R9.free 1 _ rfl
    have f2 := R9.free 2 _ rfl
    have f3 := R9.free 3 _ rfl
    clear b9 R9
    go_wp2_with fail
    refine bodyPost_ret (v := V4 cd none 0 0 none 0 0 0) (by simp [results, Tryz.results27, go_sem, V4, q0, q1, q2, q3]) rfl ⟨none, 0, 0, none, 0, 0, rfl, SOwn.nil _ _ ?_, ?_⟩
    · exact Nat.le_trans B9.size (by simp [World.setCell])
    · exact (by (iterate 4 (refine bset ?_ (by dsimp only; omega) _)); exact B9)
  by_cases hk : k < 0
  · have ec := crashC_neg h0 hk
    rw [crashS_no (by rw [ec]; decide), ec]
    rw [h0] at F0
    clear HR ec hR
    go_enter Tryz.func27, Tryz.ntmps27
    go_wp2_with fail
    generalize (w.alloc (.cells #[.slice a1 n1 c1, .slice a2 n2 c2, .int .i64 s.d.s] 29)).alloc (.cells #[.int .i64 0, .slice none 0 0, .slice none 0 0, .int .i64 0] 35) = W0 at *
    refine F0.mono ?_
    rintro r u1 ⟨rfl, b1⟩
    have B1 := Lib.hid (btr HB0.out b1)
    have R1 := Lib.hid (HR0.out.on b1)
    have A1 := Lib.hid (HA0.out.on b1)
    clear b1 F0 HB0 HR0 HA0
    go_wp2_with fail
    refine (l9Bad_any 3 _).mono ?_
    rintro r u9 ⟨rfl, b9⟩
    have R9 := (R1.out).on b9
    have B9 := btr B1.out b9
    unfold zero9 at R9
    have q0 := R9.cell 0 _ rfl
    have q1 := R9.cell 1 _ rfl
    have q2 := R9.cell 2 _ rfl
    have q3 := R9.cell 3 _ rfl
    have f0 := R9.free 0 _ rfl
    have f1 := R9.free 1 _ rfl
    have f2 := R9.free 2 _ rfl
    have f3 := R9.free 3 _ rfl
    clear b9 R9
    go_wp2_with fail
    refine bodyPost_ret (v := V4 3 none 0 0 none 0 0 0) (by simp [results, Tryz.results27, go_sem, V4, q0, q1, q2, q3]) rfl ⟨none, 0, 0, none, 0, 0, rfl, SOwn.nil _ _ ?_, ?_⟩
    · exact Nat.le_trans B9.size (by simp [World.setCell])
    · exact (by (iterate 4 (refine bset ?_ (by dsimp only; omega) _)); exact B9)
  have hk0 : 0 ≤ k := by omega
  obtain ⟨h12, hlong, hd0, hd1⟩ := diskF_zero (openC_zero (storeF_zero h0).1).1
  obtain ⟨m, hm, hml, -, e1, e2⟩ := crash_open h0 hk0
  rw [crashC_yes h0 hk]
  rw [h0] at F0
  have hn2 := hR.rs.length
  subst hn2
  have hwt : ∀ zs ∈ s.d.rs.take m, ∀ z ∈ zs, (Lit.int .u8 z).wf = true := fun zs hz => hRw zs (List.mem_of_mem_take hz)
  have od := fun (w' : World) (hb : Below w.heap.size w w') (t : Int) (tn : Nat) (ht : t = m) (htn : tn = m) => (show Calls Tryz.prog 33 #[.agg #[.slice a2 tn c2, .int .i64 t]] w' (StoreRes (openC ⟨s.d.rs.take m, m⟩) (openS ⟨s.d.rs.take m, m⟩) w') from by rw [ht, htn]; exact specOpenDisk_any a2 m c2 B (s.d.rs.take m) m w' ((HR.out w' hb).rs.upto m hml) (Nat.le_trans hB hb.size) hwt)
  rw [e1, e2] at od
  have OD := Lib.hid od
  have hsy : (crashS s k).d.s = m := by
    have := (crash_ok (crashC_yes h0 hk)).d
    rw [this, hm]; rfl
  have hfit := hR.rs.fits
  have hmost := hR.rs.most
  unfold maxLen at hmost
  have hlen : s.d.rs.length ≤ 12 := h12
  have hs0 : 0 ≤ s.d.s := hd0
  have hs1 : s.d.s ≤ s.d.rs.length := hd1
  have ME : (if k < (s.d.rs.length : Int) - s.d.s then k else (s.d.rs.length : Int) - s.d.s) = m - s.d.s := by
    unfold leftN at hm
    split at hm <;> split <;> omega
  have MI := Lib.hid (fun w' => ME ▸ l1Min_any k ((s.d.rs.length : Int) - s.d.s) w')
  unfold StoreRes at OD
  clear od h12 hlong e1 e2 hRw h0 hwt hd0 hd1 hsy hm ME HR hR
  generalize crashS s k = S at *
  go_enter Tryz.func27, Tryz.ntmps27
  go_wp2_with fail
  generalize (w.alloc (.cells #[.slice a1 n1 c1, .slice a2 s.d.rs.length c2, .int .i64 s.d.s] 29)).alloc (.cells #[.int .i64 0, .slice none 0 0, .slice none 0 0, .int .i64 0] 35) = W0 at *
  refine F0.mono ?_
  rintro r u1 ⟨rfl, b1⟩
  have B1 := Lib.hid (btr HB0.out b1)
  have R1 := Lib.hid (HR0.out.on b1)
  have A1 := Lib.hid (HA0.out.on b1)
  clear b1 F0 HB0 HR0 HA0
  have d0 := A1.out.cell 0 _ rfl
  have d1 := A1.out.cell 1 _ rfl
  have d2 := A1.out.cell 2 _ rfl
  go_wp2_with fail
  refine wp_region_line (Bel u1) [(0, true), (1, true), (2, true), (3, true), (4, true), (5, true), (6, true), (7, true), (8, true), (9, true), (10, true), (11, true), (12, false), (13, true), (14, true)] (by kernel_rfl) (by kernel_rfl) (fun _ _ d _ _ h => by cases d <;> exact h) (Bel.drew u1) ?_
  have hst := Bel.drew u1
  have inst : Nonempty (Of (Bel u1)) := ⟨⟨_, hst⟩⟩
  have v0 := bel_cell d0
  have v1 := bel_cell d1
  have v2 := bel_cell d2
  generalize u1.drew = V1 at *
  iterate 12 (refine line_read rfl (by kernel_rfl) (fun K hK => ?_); go_big_quiet_op; refine hK _ ?_; clear hK K)
  refine line_alone rfl (by kernel_rfl) (fun K hK => ?_)
  refine call_wp (args := #[.int .i64 k, .int .i64 ((s.d.rs.length : Int) - s.d.s)]) rfl (by kernel_rfl) (by kernel_rfl) (MI.out _) (fun wn hbn => ?_)
  subst hbn
  refine hK _ _ hst ?_
  clear hK K
  simp only [Act.put, List.setIfInBounds_toArray, List.set_cons_zero, List.set_cons_succ]
  iterate 2 (refine line_read rfl (by kernel_rfl) (fun K hK => ?_); go_big_quiet_op; refine hK _ ?_; clear hK K)
  refine line_nil ?_
  have A2 := Lib.hid (A1.out.on hst.out)
  have R2 := Lib.hid (R1.out.on hst.out)
  have B2 := Lib.hid (btr B1.out hst.out)
  clear hst inst v0 v1 v2 d0 d1 d2 A1 R1 B1
  have d0 := A2.out.cell 0 _ rfl
  have d1 := A2.out.cell 1 _ rfl
  have d2 := A2.out.cell 2 _ rfl
  go_wp2_with fail
  refine (OD.out _ B2.out _ _ (by omega) (by omega)).mono ?_
  rintro r u9 ⟨a3, n3, c3, a4, n4, c4, rfl, SO9, b9⟩
  have R9 := (R2.out).on b9
  have B9 := btr (B2.out) b9
  have HS9 := Lib.hid (SO9.res (w := w) (r := w.heap.size + 1) (by have := (R2.out).lt (by decide); exact this) (B2.out).size (.int .i64 0) (.slice a3 n3 c3) (.slice a4 n4 c4) (.int .i64 S.d.s))
  unfold zero9 at R9
  have q0 := R9.cell 0 _ rfl
  have q1 := R9.cell 1 _ rfl
  have q2 := R9.cell 2 _ rfl
  have q3 := R9.cell 3 _ rfl
  have f0 := R9.free 0 _ rfl
  have f1 := R9.free 1 _ rfl
  have f2 := R9.free 2 _ rfl
  have f3 := R9.free 3 _ rfl
  clear R9 b9 SO9
  go_wp2_with fail
  refine bodyPost_ret (v := V4 0 a3 n3 c3 a4 n4 c4 S.d.s) (by simp [results, Tryz.results27, go_sem, V4, q0, q1, q2, q3]) rfl ⟨a3, n3, c3, a4, n4, c4, rfl, HS9.out, ?_⟩
  exact (by (iterate 4 (refine bset ?_ (by dsimp only; omega) _)); exact B9)
end Go.Proofs.YtcolecidbalmhaaGreatDoor
namespace Go.Proofs.YtcolecidbalmhaaGreatDoor
open Go.RowKit
set_option maxRecDepth 100000
set_option linter.unusedVariables false

/-- A store that is read, a result and a store that is made, each in a block of its own. -/
structure KSt (W : World) (j r d : Nat) (J rv : List Value) (pv v : Value) (x : Int) (ps : List PinD) (zss : List (List Int)) (xs : List Value) (lo : Nat) (wr : World) : Prop where
  P : At j J wr
  R : At r rv wr
  D : At d [pv, v, .int .i64 x] wr
  O : OwnP wr (r + 1) pv ps
  ob : ∀ k, pv.ownBlock = some k → k < lo ∧ k ≠ d
  G : OwnG wr lo wr.heap.size v zss xs
  B : Below W.heap.size W wr
  off : ∀ k, v.ownBlock = some k → k ≠ j ∧ k ≠ r ∧ k ≠ d
  offx : ∀ (i : Nat) (u : Value) (k : Nat), xs[i]? = some u → u.ownBlock = some k → k ≠ r ∧ k ≠ d
  lo1 : W.heap.size ≤ lo
  rl : r + 1 ≤ lo
  lo2 : lo ≤ wr.heap.size
  le : W.heap.size ≤ d
section
variable {W wr w1 w2 : World} {j r d lo : Nat} {J rv : List Value} {pv v : Value} {x : Int} {ps : List PinD} {zss : List (List Int)} {xs : List Value}
theorem KSt.on (h : KSt W j r d J rv pv v x ps zss xs lo wr) (hb : Below wr.heap.size wr w1) : KSt W j r d J rv pv v x ps zss xs lo w1 :=
  ⟨h.P.on hb, h.R.on hb, h.D.on hb, h.O.below hb, h.ob, (h.G.below hb).more hb.size (Nat.le_refl _), btr h.B hb, h.off, h.offx, h.lo1, h.rl, Nat.le_trans h.lo2 hb.size, h.le⟩
/-- One more record was appended, and the slice stored. -/
theorem KSt.app (h : KSt W j r d J rv pv v x ps zss xs lo wr) {v' u : Value} {zs : List Int} (hb : Below wr.heap.size wr w1) (hu : OwnK .u8 w1 wr.heap.size u zs)
    (ho : Own w2 lo 1 v' (zss.length + 1) (xs ++ [u])) (hg : w1.grownBy w2 v.ownBlock) (hat : v'.ownBlock = v.ownBlock ∨ v'.ownBlock = some w1.heap.size)
    (hd : d ≠ j) (hr : d ≠ r) (hJl : 0 < J.length) (hrl : 0 < rv.length) : KSt W j r d J rv pv v' x ps (zss ++ [zs]) (xs ++ [u]) lo (w2.setCell ⟨d, 1, none⟩ v') := by
  have T := h.on hb
  have hB := h.B.size
  have hsz := hb.size
  have hl2 := h.lo2
  have hJ : At j J w2 := T.P.kept hg (fun e => (h.off j e.symm).1 rfl)
  have hR := T.R.kept hg (fun e => (h.off r e.symm).2.1 rfl)
  have hD := T.D.kept hg (fun e => (h.off d e.symm).2.2 rfl)
  have lts : j < w1.heap.size ∧ r < w1.heap.size ∧ d < w1.heap.size := ⟨T.P.lt hJl, T.R.lt hrl, T.D.lt (by simp)⟩
  have G2 := OwnG.app h.G hl2 hb hu ho hg hat
  have off2 : ∀ k, v'.ownBlock = some k → k ≠ j ∧ k ≠ r ∧ k ≠ d := fun k e => by
    rcases hat with ha | ha
    · rw [ha] at e; exact h.off k e
    · rw [ha] at e; injection e with e; omega
  have ltd := h.D.lt (by simp)
  have ltr := h.R.lt hrl
  have off3 : ∀ (i : Nat) (x : Value) (k : Nat), (xs ++ [u])[i]? = some x → x.ownBlock = some k → k ≠ r ∧ k ≠ d := fun i x k hx e => by
    rcases Nat.lt_or_ge i xs.length with hi | hi
    · rw [List.getElem?_append_left hi] at hx
      exact h.offx i x k hx e
    · rw [List.getElem?_append_right hi] at hx
      have h0 := (List.getElem?_eq_some_iff.1 hx).1
      simp at h0
      rw [h0] at hx
      simp at hx
      subst hx
      have := (Own.lt hu k e).1
      omega
  have hlov : ∀ k, v.ownBlock = some k → lo ≤ k := fun k e => (h.G.own.lt k e).1
  have hO : OwnP w2 (r + 1) pv ps := Own.keep T.O hg.size fun k e => hg.block k (Own.lt T.O k e).2 (fun e2 => by have := hlov k e2.symm; have := (h.ob k e).1; omega)
  have hB2 : Below W.heap.size W w2 := T.B.grown hg (Nat.le_trans hB hsz) fun k e => Nat.le_trans h.lo1 (hlov k e)
  refine ⟨hJ.setB (Ne.symm hd) _, hR.setB (Ne.symm hr) _, by simpa using hD.set 1 v', Own.setCell hO (fun k e => (h.ob k e).2) _, h.ob, ?_, bset hB2 h.le _, off2, off3, h.lo1, h.rl, ?_, h.le⟩
  · have hk : ∀ k, k ≠ d → (w2.setCell ⟨d, 1, none⟩ v').heap[k]? = w2.heap[k]? := fun k hk => Below.heap_setCell w2 ⟨d, 1, none⟩ v' k hk
    have G3 := G2.keepP (w' := w2.setCell ⟨d, 1, none⟩ v') (by simp [World.setCell]) (fun k e => hk k (off2 k e).2.2) (fun i x k hx e => hk k (off3 i x k hx e).2)
    rw [show (w2.setCell ⟨d, 1, none⟩ v').heap.size = w2.heap.size by simp [World.setCell]]
    exact G3
  · rw [show (w2.setCell ⟨d, 1, none⟩ v').heap.size = w2.heap.size by simp [World.setCell]]
    exact Nat.le_trans hl2 (Nat.le_trans hsz hg.size)
/-- How many are safe was stored: the store as a whole. -/
theorem KSt.done (h : KSt W j r d J rv pv v x ps zss xs lo wr) (y : Int) (hn : ∀ p ∈ ps, p.n.size ≤ maxLen) (hw : ∀ zs ∈ zss, ∀ z ∈ zs, (Lit.int .u8 z).wf = true) :
    SOwn (wr.setCell ⟨d, 2, none⟩ (.int .i64 y)) (r + 1) (wr.setCell ⟨d, 2, none⟩ (.int .i64 y)).heap.size pv v ⟨ps, ⟨zss, y⟩⟩ := by
  have hk : ∀ k, k ≠ d → (wr.setCell ⟨d, 2, none⟩ (.int .i64 y)).heap[k]? = wr.heap[k]? := fun k hk => Below.heap_setCell wr ⟨d, 2, none⟩ (.int .i64 y) k hk
  have G3 := h.G.keepP (w' := wr.setCell ⟨d, 2, none⟩ (.int .i64 y)) (by simp [World.setCell]) (fun k e => hk k (h.off k e).2.2) (fun i x k hx e => hk k (h.offx i x k hx e).2)
  have O3 := Own.setCell h.O (p := ⟨d, 2, none⟩) (fun k e => (h.ob k e).2) (.int .i64 y)
  have hs : (wr.setCell ⟨d, 2, none⟩ (.int .i64 y)).heap.size = wr.heap.size := by simp [World.setCell]
  rw [hs]
  exact SOwn.mk' (W := W) (mid := lo) O3 h.rl (fun k e => (h.ob k e).1) G3 h.lo2 hn hw
end
end Go.Proofs.YtcolecidbalmhaaGreatDoor
