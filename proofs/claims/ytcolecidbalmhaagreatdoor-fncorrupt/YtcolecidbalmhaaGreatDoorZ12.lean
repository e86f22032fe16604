/- Texts of this seat that several laws rest on, laid into one. Conditions: as each theorem states. -/
import Derived.Test.YtcolecidbalmhaaGreatDoorZ4
import Derived.Test.YtcolecidbalmhaaGreatDoorZ6
import Derived.Test.YtcolecidbalmhaaGreatDoorZ7
import Derived.Test.YtcolecidbalmhaaGreatDoorZ9
import Derived.Test.YtcolecidbalmhaaGreatDoorZ10
import Derived.Test.YtcolecidbalmhaaGreatDoorZ11
namespace Go.Proofs.YtcolecidbalmhaaGreatDoor
open Go.RowKit
set_option maxRecDepth 100000
set_option linter.unusedVariables false

/-- A record's cells. -/
def slotL (zs : List Int) : List Value := (List.range 41).map fun i => if i = 40 then .int .i64 ((zs.length : Nat) : Int) else .int .u8 (zs.getD i 0)
theorem slotL_len (zs : List Int) : (slotL zs).length = 41 := by simp [slotL]
theorem slotL_at (zs : List Int) {i : Nat} (h : i < 41) : (slotL zs)[i]? = some (if i = 40 then .int .i64 ((zs.length : Nat) : Int) else .int .u8 (zs.getD i 0)) := by simp [slotL, h]
theorem slotL_size (zs : List Int) : (slotL zs)[40]? = some (.int .i64 ((zs.length : Nat) : Int)) := by rw [slotL_at zs (by omega)]; rfl
theorem slotL_one (zs : List Int) : (slotL zs).toArray.all (·.oneCell') = true := all_oneCell_toArray fun v hv => by
  simp only [slotL, List.mem_map] at hv
  obtain ⟨i, _, rfl⟩ := hv
  split <;> rfl
theorem JB.slot {g : Nat} {rs : List (List Int)} {n s : Int} {w : World} (h : JB g (jour rs n s) w) {k : Nat} (hk : k < 12) : w.rangeAt g (k * 41) (slotL (rs[k]?.getD [])) := by
  intro j v hv
  have hj : j < 41 := by have := (List.getElem?_eq_some_iff.1 hv).1; rwa [slotL_len] at this
  rw [slotL_at _ hj] at hv
  injection hv with hv
  subst hv
  rw [Nat.mul_comm]
  by_cases h40 : j = 40
  · subst h40
    exact h.at (jour_size rs n s hk)
  · rw [if_neg h40]
    exact h.at (jour_byte rs n s hk (by omega))
theorem slot_fit (zs : List Int) : (Tryz.prog.info? 111).map (·.size) = some (slotL zs).length := by
  rw [slotL_len]
  kernel_rfl
theorem slot_zero : (Tryz.prog.info? 111).map (fun i => (i.zero, i.size)) = some (some (.agg (slotL []).toArray), 41) := by kernel_rfl
theorem slot_row {g : Nat} {zs : List Int} {w : World} (h : At g (slotL zs) w) (hl : zs.length ≤ 40) (hw : ∀ z ∈ zs, (Lit.int .u8 z).wf = true) : Row .u8 w w.heap.size (some ⟨g, 0, none⟩) zs.length 40 zs :=
  ⟨rfl, hw, hl, by simp only [maxLen]; omega, fun hp => ⟨g, 0, rfl, h.lt (by rw [slotL_len]; omega), fun j hj => by
    rw [Nat.zero_add]
    refine h.cell j _ ?_
    rw [slotL_at zs (by omega), if_neg (by omega)]⟩⟩
attribute [irreducible] slotL
/-- A journal, a result and a disk that is made, each in a block of its own. -/
structure DSt (W : World) (j r d : Nat) (J : List Value) (v : Value) (s : Int) (zss : List (List Int)) (xs : List Value) (wr : World) : Prop where
  J : JB j J wr
  R : At r [.slice none 0 0, .int .i64 0] wr
  D : At d [v, .int .i64 s] wr
  G : OwnG wr W.heap.size wr.heap.size v zss xs
  B : Below W.heap.size W wr
  off : ∀ k, v.ownBlock = some k → k ≠ j ∧ k ≠ r ∧ k ≠ d
  offx : ∀ (i : Nat) (u : Value) (k : Nat), xs[i]? = some u → u.ownBlock = some k → k ≠ r ∧ k ≠ d
  le : W.heap.size ≤ d
section
variable {W wr w1 w2 : World} {j r d : Nat} {J : List Value} {v : Value} {s : Int} {zss : List (List Int)} {xs : List Value}
theorem DSt.on (h : DSt W j r d J v s zss xs wr) (hb : Below wr.heap.size wr w1) : DSt W j r d J v s zss xs w1 :=
  ⟨h.J.on hb, h.R.on hb, h.D.on hb, (h.G.below hb).more hb.size (Nat.le_refl _), btr h.B hb, h.off, h.offx, h.le⟩
/-- One more record was appended, and the slice stored. -/
theorem DSt.app (h : DSt W j r d J v s zss xs wr) {v' u : Value} {zs : List Int} (hb : Below wr.heap.size wr w1) (hu : OwnK .u8 w1 wr.heap.size u zs)
    (ho : Own w2 W.heap.size 1 v' (zss.length + 1) (xs ++ [u])) (hg : w1.grownBy w2 v.ownBlock) (hat : v'.ownBlock = v.ownBlock ∨ v'.ownBlock = some w1.heap.size)
    (hd : d ≠ j) (hr : d ≠ r) : DSt W j r d J v' s (zss ++ [zs]) (xs ++ [u]) (w2.setCell ⟨d, 0, none⟩ v') := by
  have T := h.on hb
  have hB := h.B.size
  have hsz := hb.size
  have hJ : JB j J w2 := (hg.block j T.J.lt (fun e => (h.off j e.symm).1 rfl)).trans T.J
  have hR := T.R.kept hg (fun e => (h.off r e.symm).2.1 rfl)
  have hD := T.D.kept hg (fun e => (h.off d e.symm).2.2 rfl)
  have lts : j < w1.heap.size ∧ r < w1.heap.size ∧ d < w1.heap.size := ⟨T.J.lt, T.R.lt (by simp), T.D.lt (by simp)⟩
  have G2 := OwnG.app h.G hB hb hu ho hg hat
  have off2 : ∀ k, v'.ownBlock = some k → k ≠ j ∧ k ≠ r ∧ k ≠ d := fun k e => by
    rcases hat with ha | ha
    · rw [ha] at e; exact h.off k e
    · rw [ha] at e; injection e with e; omega
  have ltd := h.D.lt (by simp)
  have ltr := h.R.lt (by simp)
  have off3 : ∀ (i : Nat) (x : Value) (k : Nat), (xs ++ [u])[i]? = some x → x.ownBlock = some k → k ≠ r ∧ k ≠ d := fun i x k hx e => by
    rcases Nat.lt_or_ge i xs.length with hi | hi
    · rw [List.getElem?_append_left hi] at hx
      exact h.offx i x k hx e
    · rw [List.getElem?_append_right hi] at hx
      have h0 := (List.getElem?_eq_some_iff.1 hx).1
      simp at h0
      rw [h0] at hx
      simp at hx
      subst hx
      have := (Own.lt hu k e).1
      omega
  have hB2 : Below W.heap.size W w2 := T.B.grown hg (Nat.le_trans hB hsz) fun k e => (h.G.own.lt k e).1
  refine ⟨hJ.setB (Ne.symm hd) _, hR.setB (Ne.symm hr) _, by simpa using hD.set 0 v', ?_, bset hB2 h.le _, off2, off3, h.le⟩
  have hk : ∀ k, k ≠ d → (w2.setCell ⟨d, 0, none⟩ v').heap[k]? = w2.heap[k]? := fun k hk => Below.heap_setCell w2 ⟨d, 0, none⟩ v' k hk
  have G3 := G2.keepP (w' := w2.setCell ⟨d, 0, none⟩ v') (by simp [World.setCell]) (fun k e => hk k (off2 k e).2.2) (fun i x k hx e => hk k (off3 i x k hx e).2)
  rw [show (w2.setCell ⟨d, 0, none⟩ v').heap.size = w2.heap.size by simp [World.setCell]]
  exact G3
end
theorem OwnG.fresh {w : World} {lo : Nat} {v : Value} (h : Own w lo 1 v 0 []) : OwnG w lo w.heap.size v [] [] :=
  ⟨h, Nat.le_refl _, fun k e => (h.lt k e).2, fun j u hu => by simp at hu, fun i j u1 u2 _ hu => by simp at hu⟩
theorem DSt.new {W x : World} {j r d : Nat} {J : List Value} {v v0 : Value} {s s0 : Int} (hJ : JB j J x) (hR : At r [.slice none 0 0, .int .i64 0] x) (hD : At d [v0, .int .i64 s0] x) (hO : Own x W.heap.size 1 v 0 []) (hB : Below W.heap.size W x)
    (off : ∀ k, v.ownBlock = some k → k ≠ j ∧ k ≠ r ∧ k ≠ d) (hj : d ≠ j) (hr : d ≠ r) (le : W.heap.size ≤ d) : DSt W j r d J v s [] [] ((x.setCell ⟨d, 0, none⟩ v).setCell ⟨d, 1, none⟩ (.int .i64 s)) := by
  have hO2 := (hO.setCell (p := ⟨d, 0, none⟩) (fun k e => (off k e).2.2) v).setCell (p := ⟨d, 1, none⟩) (fun k e => (off k e).2.2) (.int .i64 s)
  exact ⟨(hJ.setB (Ne.symm hj) _).setB (Ne.symm hj) _, (hR.setB (Ne.symm hr) _).setB (Ne.symm hr) _, by simpa using (hD.set 0 v).set 1 (.int .i64 s), OwnG.fresh hO2, bset (bset hB le _) le _, off, fun i u k hu => by simp at hu, le⟩
theorem slices_info : (Tryz.prog.info? 22).map (fun i => (i.zero, i.size, i.bytes)) = some (some (.slice none 0 0), 1, 24) := by kernel_rfl
/-- A disk of new memory was answered. -/
def DiskRes (rs : List (List Int)) (s : Int) (w : World) (e : Ending) (w' : World) : Prop :=
  ∃ a n c xs, e = .returned (.agg #[.slice a n c, .int .i64 s]) ∧ OwnG w' w.heap.size w'.heap.size (.slice a n c) rs xs ∧ Below w.heap.size w w'
theorem run_slots (g n : Nat) (hn : n ≤ 12) (W : World) : (Instr.sliceAt 112 (.pointer (some ⟨g, 0, none⟩)) none (some (.int .i64 (n : Int))) none).run Tryz.prog W = .ok (.slice (some ⟨g, 0, none⟩) n 12) W := by
  have hu : Tryz.prog.underlying 112 = some (.array (Tryz.prog.arrayLen 112) (Tryz.prog.elem 112)) := by kernel_rfl
  have hl : Tryz.prog.arrayLen 112 = 12 := by kernel_rfl
  have he : Tryz.prog.elem 112 = 111 := by kernel_rfl
  have hs : (sizeOf 111).run Tryz.prog W = .ok 41 W := by
    have h := (zero_of_info slot_zero).2
    cases hq : Tryz.prog.info? 111 with
    | none => rw [hq] at h; cases h
    | some i =>
      rw [hq] at h
      simp at h
      simp [sizeOf, typeInfo, hq, h]
  rw [run_sliceAt_array_h W _ _ hu .i64 n (by omega) (by rw [hl]; omega), he, hl, hs]
  simp [slicedAt, Result.andThen, Addr.add_lit]
theorem run_room (g n : Nat) (hn : n ≤ 40) (W : World) : (Instr.sliceAt 109 (.pointer (some ⟨g, 0, none⟩)) none (some (.int .i64 (n : Int))) none).run Tryz.prog W = .ok (.slice (some ⟨g, 0, none⟩) n 40) W := by
  have hu : Tryz.prog.underlying 109 = some (.array (Tryz.prog.arrayLen 109) (Tryz.prog.elem 109)) := by kernel_rfl
  have hl : Tryz.prog.arrayLen 109 = 40 := by kernel_rfl
  have he : Tryz.prog.elem 109 = 5 := by kernel_rfl
  have hs : (sizeOf 5).run Tryz.prog W = .ok 1 W := by
    obtain ⟨i0, hi0, hz0, hz1, hz2⟩ := info_parts u8_info
    simp [sizeOf, typeInfo, hi0, hz1]
  rw [run_sliceAt_array_h W _ _ hu .i64 n (by omega) (by rw [hl]; omega), he, hl, hs]
  simp [slicedAt, Result.andThen, Addr.add_lit]
set_option maxHeartbeats 1000000 in
theorem disk_any (rs : List (List Int)) (n : Nat) (s : Int) (w : World) (hn : n ≤ rs.length) (h12 : rs.length ≤ 12) (hl : rs.any longR = false) (hw : ∀ zs ∈ rs, ∀ z ∈ zs, (Lit.int .u8 z).wf = true) :
    Calls Tryz.prog 71 #[.agg (jour rs n s).toArray] w (DiskRes (rs.take n) s w) := by
  obtain ⟨i0, hi0, hz0, hz1, hz2⟩ := info_parts slices_info
  have hmk : ∀ W : World, (Instr.makeSlice 25 (.int .i64 0) (.int .i64 (n : Int))).run Tryz.prog W = .ok (.slice (some ⟨W.heap.size, 0, none⟩) 0 n) (W.alloc (.cells (madeCells #[.slice none 0 0] n) 22)) := by
    intro W
    have := run_make (P := Tryz.prog) W 25 22 i0 (.slice none 0 0) Tryz.underlying25 hi0 hz0 .i64 .i64 0 n (by omega) (by omega) (by rw [hz2]; omega) (by omega)
    simpa [hz1, Value.cells] using this
  have hzs := (zero_of_info slot_zero).1
  have b0 := bal (bal (Below.refl _ w) (.cells (jour rs n s).toArray 114)) (.cells #[.slice none 0 0, .int .i64 0] 27)
  have Q0 := (JB.new w (jour rs n s)).on (bal (Below.refl _ _) (.cells #[.slice none 0 0, .int .i64 0] 27))
  have R0 := At.new (w.alloc (.cells (jour rs n s).toArray 114)) [.slice none 0 0, .int .i64 0] 27
  rw [World.size_alloc] at R0
  have sz0 : ((w.alloc (.cells (jour rs n s).toArray 114)).alloc (.cells #[.slice none 0 0, .int .i64 0] 27)).heap.size = w.heap.size + 2 := by simp
  have d0 := Q0.at (jour_count rs n s)
  have d1 := Q0.at (jour_safe rs n s)
  have HJC := Lib.hid (jour_count rs n s)
  have HSLOT := Lib.hid (fun (g : Nat) (wr : World) (k : Nat) (h : JB g (jour rs n s) wr) (hk : k < 12) => JB.slot (g := g) (rs := rs) (n := n) (s := s) (w := wr) h hk)
  have HN := Lib.hid hn
  have H12 := Lib.hid h12
  have HLL := Lib.hid hl
  have HW := Lib.hid hw
  clear hn hl hw
  have hn12 : n ≤ 12 := by have := HN.out; omega
  clear h12
  generalize jour rs n s = J at *
  go_enter Tryz.func71, Tryz.ntmps71
  go_upto_region 1 with fail
  generalize (w.alloc (.cells J.toArray 114)).alloc (.cells #[.slice none 0 0, .int .i64 0] 27) = W0 at *
  have HQ := Lib.hid Q0
  have HR := Lib.hid R0
  have HB := Lib.hid b0
  have HZ := Lib.hid sz0
  clear Q0 R0 b0 sz0
  go_cut [3] from 6 to 11 (fun v' wx => ∃ d g, v' = .pointer (some ⟨d, 0, none⟩) ∧ d ≠ w.heap.size ∧ d ≠ w.heap.size + 1 ∧ DSt w w.heap.size (w.heap.size + 1) d J (.slice (some ⟨g, 0, none⟩) 0 n) s [] [] wx)
  case first =>
    refine wp_region_fork (Bel W0) (by kernel_rfl) (Bel.drew W0) ?_
    have hst : (Bel W0) _ := (Bel.drew W0)
    have inst : Nonempty (Of (Bel W0)) := ⟨⟨_, hst⟩⟩
    have u0 := bel_cell d0
    have u1 := bel_cell d1
    have HV := Lib.hid (show W0.drew.heap.size = w.heap.size + 2 from HZ.out)
    have HQ1 := Lib.hid (HQ.out.on (bdrew W0))
    have HR1 := Lib.hid (HR.out.on (bdrew W0))
    have HB1 := Lib.hid (btr HB.out (bdrew W0))
    have hm4 : n ≤ maxLen := by simp only [maxLen]; omega
    generalize W0.drew = V1 at *
    refine any_seg 4 [(0, true), (1, true), (3, true), (4, true)] (by kernel_rfl) (fun _ _ d _ _ h => by cases d <;> exact h) ?_
    iterate 4 (refine line_read rfl (by kernel_rfl) (fun K hK => ?_); go_big_quiet_op; refine hK _ ?_; clear hK K)
    refine line_nil ?_
    clear u0 u1 d0 d1
    refine any_fork 2 6 (by kernel_rfl) rfl rfl (by kernel_rfl) (by kernel_rfl) (fun K hK => ?_) (fun K hK => ?_)
    · go_big_op
      have O1 := Own.made (size := 1) (B := w.heap.size) V1 (madeCells #[.slice none 0 0] n) 22 n (by have := HV.out; omega) hm4 (by rw [size_madeCells]; simp)
      have hst2 := hst.on (bal (Below.refl _ V1) (.cells (madeCells #[.slice none 0 0] n) 22))
      have HQ2 := Lib.hid (HQ1.out.on (bal (Below.refl _ V1) (.cells (madeCells #[.slice none 0 0] n) 22)))
      have HR2 := Lib.hid (HR1.out.on (bal (Below.refl _ V1) (.cells (madeCells #[.slice none 0 0] n) 22)))
      have HB2 := Lib.hid (bal HB1.out (.cells (madeCells #[.slice none 0 0] n) 22))
      have HV2 := Lib.hid (show (V1.alloc (.cells (madeCells #[.slice none 0 0] n) 22)).heap.size = V1.heap.size + 1 by simp)
      refine hK _ _ hst2 ?_
      clear hK K hst hmk
      have hst := hst2
      clear hst2
      generalize V1.alloc (.cells (madeCells #[.slice none 0 0] n) 22) = x1 at *
      generalize V1.heap.size = mg at *
      refine any_rest [(5, true), (6, false), (7, false)] (by kernel_rfl) (fun _ _ d _ _ h => by cases d <;> exact h) ?_
      refine line_readv (v := .agg #[.slice (some ⟨mg, 0, none⟩) 0 n, .int .i64 s]) rfl (by kernel_rfl) (fun _ => by kernel_rfl) ?_
      simp only [Act.put, List.setIfInBounds_toArray, List.set_cons_zero, List.set_cons_succ]
      refine line_alone rfl (by kernel_rfl) (fun K hK => ?_)
      go_big_op
      have A := At.new x1 [.slice none 0 0, .int .i64 0] 27
      have b3 := bal (Below.refl _ x1) (.cells #[.slice none 0 0, .int .i64 0] 27)
      have hst2 := hst.on b3
      have leA : W0.heap.size ≤ x1.heap.size := hst.out.size
      have DN := Lib.hid (DSt.new (s := s) (HQ2.out.on b3) (HR2.out.on b3) A (O1.below b3) (btr HB2.out b3) (fun k e => by simp [Value.ownBlock] at e; have := HV.out; have := HV2.out; omega) (by have := HV.out; have := HV2.out; omega) (by have := HV.out; have := HV2.out; omega) (by have := HV.out; have := HV2.out; omega))
      refine hK _ _ hst2 ?_
      clear hK K hst b3 O1 HQ2 HR2 HB2
      have hst := hst2
      clear hst2
      have hd1 : x1.heap.size ≠ w.heap.size := by have := HV.out; have := HV2.out; omega
      have hd2 : x1.heap.size ≠ w.heap.size + 1 := by have := HV.out; have := HV2.out; omega
      generalize x1.alloc (.cells #[.slice none 0 0, .int .i64 0] 27) = xa at *
      generalize x1.heap.size = d at *
      have p0 := A.cell 0 _ rfl
      have p1 := A.cell 1 _ rfl
      have f0 := A.free 0 _ rfl
      have f1 := A.free 1 _ rfl
      refine line_alone rfl (by kernel_rfl) (fun K hK => ?_)
      go_big_op
      refine hK _ _ (⟨(by (iterate 2 (refine bset ?_ (by dsimp only; omega) _)); exact hst.out)⟩) ?_
      clear hK K
      refine line_nil ?_
      clear hst A p0 p1 f0 f1
      go_wp2_with fail
      go_meet
      case rel => exact ⟨d, mg, rfl, hd1, hd2, DN.out⟩
    · go_big_op
      have A := At.new V1 [.slice none 0 0, .int .i64 0] 27
      have b3 := bal (Below.refl _ V1) (.cells #[.slice none 0 0, .int .i64 0] 27)
      have hst2 := hst.on b3
      have HQ2 := Lib.hid (HQ1.out.on b3)
      have HR2 := Lib.hid (HR1.out.on b3)
      have HB2 := Lib.hid (btr HB1.out b3)
      have HV2 := Lib.hid (show (V1.alloc (.cells #[.slice none 0 0, .int .i64 0] 27)).heap.size = V1.heap.size + 1 by simp)
      have leA : W0.heap.size ≤ V1.heap.size := hst.out.size
      refine hK _ _ hst2 ?_
      clear hK K hst b3
      have hst := hst2
      clear hst2
      have hd1 : V1.heap.size ≠ w.heap.size := by have := HV.out; omega
      have hd2 : V1.heap.size ≠ w.heap.size + 1 := by have := HV.out; omega
      generalize V1.alloc (.cells #[.slice none 0 0, .int .i64 0] 27) = x1 at *
      generalize V1.heap.size = d at *
      refine any_rest [(2, false), (5, true), (7, false)] (by kernel_rfl) (fun _ _ d _ _ h => by cases d <;> exact h) ?_
      refine line_alone rfl (by kernel_rfl) (fun K hK => ?_)
      go_big_op
      have O1 := Own.made (size := 1) (B := w.heap.size) x1 (madeCells #[.slice none 0 0] n) 22 n (by have := HV.out; have := HV2.out; omega) hm4 (by rw [size_madeCells]; simp)
      have b4 := bal (Below.refl _ x1) (.cells (madeCells #[.slice none 0 0] n) 22)
      have hst2 := hst.on b4
      have A4 := A.on b4
      have DN := Lib.hid (DSt.new (s := s) (HQ2.out.on b4) (HR2.out.on b4) A4 O1 (btr HB2.out b4) (fun k e => by simp [Value.ownBlock] at e; have := HV.out; have := HV2.out; omega) (by have := HV.out; omega) (by have := HV.out; omega) (by have := HV.out; omega))
      refine hK _ _ hst2 ?_
      clear hK K hst hmk b4 O1 HQ2 HR2 HB2 A
      have hst := hst2
      clear hst2
      generalize x1.alloc (.cells (madeCells #[.slice none 0 0] n) 22) = xa at *
      generalize x1.heap.size = mg at *
      refine line_readv (v := .agg #[.slice (some ⟨mg, 0, none⟩) 0 n, .int .i64 s]) rfl (by kernel_rfl) (fun _ => by kernel_rfl) ?_
      simp only [Act.put, List.setIfInBounds_toArray, List.set_cons_zero, List.set_cons_succ]
      have p0 := A4.cell 0 _ rfl
      have p1 := A4.cell 1 _ rfl
      have f0 := A4.free 0 _ rfl
      have f1 := A4.free 1 _ rfl
      refine line_alone rfl (by kernel_rfl) (fun K hK => ?_)
      go_big_op
      refine hK _ _ (⟨(by (iterate 2 (refine bset ?_ (by dsimp only; omega) _)); exact hst.out)⟩) ?_
      clear hK K
      refine line_nil ?_
      clear hst A4 p0 p1 f0 f1
      go_wp2_with fail
      go_meet
      case rel => exact ⟨d, mg, rfl, hd1, hd2, DN.out⟩
  case rest =>
    obtain ⟨d, g, rfl, hd1, hd2, T0⟩ := hcut
    clear HQ HR HB HZ d0 d1 hmk
    have q0 := T0.J.at HJC.out
    have HT0 := Lib.hid T0
    clear T0
    have hsl := fun W => run_slots w.heap.size n hn12 W
    go_wp2_with fail
    go_loopw [17] (fun i wr => ∃ (k : Nat) (v : Value) (xs : List Value), k ≤ n ∧ i = .int .i64 k ∧ DSt w w.heap.size (w.heap.size + 1) d J v s (rs.take k) xs wr) (fun i _ => n - (intOf i).toNat)
    case atStart => exact ⟨0, _, _, Nat.zero_le _, rfl, HT0.out⟩
    case round =>
      obtain ⟨k, v, xs, hk, rfl, hT⟩ := hrel
      clear HT0 q0
      by_cases hlt : k < n
      · have hl2 : k < rs.length := by have := HN.out; omega
        have RG := Lib.hid (HSLOT.out w.heap.size wr k hT.J (by omega))
        have hz40 := long_no HLL.out hl2
        have HTK := Lib.hid (M.take_snoc rs [] k hl2)
        have HLK := Lib.hid (show (rs.take k).length = k by simp; omega)
        have hzw := HW.out (rs[k]?.getD []) (by rw [List.getElem?_eq_getElem hl2]; exact List.getElem_mem hl2)
        have HT := Lib.hid hT
        generalize rs[k]?.getD [] = zs at *
        have HZW := Lib.hid hzw
        have HSF := Lib.hid (slot_fit zs)
        have HSO := Lib.hid (slotL_one zs)
        have HSF2 := Lib.hid (show (Tryz.prog.info? 111).map (·.size) = some (slotL zs).toArray.size by rw [slot_fit zs]; simp)
        have HSZ := Lib.hid (show (slotL []).toArray.size = (slotL zs).toArray.size by simp [slotL_len])
        clear hT hl2 hzw
        go_upto_region 5 with (first | (refine wpList_load_mid rfl 111 (.tmp 19) rfl w.heap.size (k * 41) rfl (slotL zs) _ RG.out Tryz.underlying111 rfl HSF.out ?_) | (refine wpList_store_row rfl 111 (.tmp 5) (.tmp 20) rfl wr.heap.size (slotL zs).toArray rfl rfl 111 (slotL []).toArray (MapKept.heap_alloc wr _).1 HSF2.out HSZ.out HSO.out ?_; rw [World.setRow_alloc_new]))
        have L0 := At.new wr (slotL zs) 111
        have HT2 := Lib.hid (HT.out.on (bal (Below.refl _ wr) (.cells (slotL zs).toArray 111)))
        have B2 := bal (Below.refl _ wr) (.cells (slotL zs).toArray 111)
        clear RG HSF HSF2 HSO HSZ
        have hld : d ≠ wr.heap.size := by have := HT.out.D.lt (by simp); omega
        have hlv : ∀ k, v.ownBlock = some k → k ≠ wr.heap.size := fun k e => by have := (HT.out.G.own.lt k e).2; omega
        have hd0 : w.heap.size ≤ d := HT.out.le
        clear HT
        generalize wr.alloc (.cells (slotL zs).toArray 111) = W4 at *
        generalize wr.heap.size = lb at *
        simp only [Act.put]
        refine wp_region_fork (Hold w lb (slotL zs)) (by kernel_rfl) (⟨HT2.out.B.drew, L0.on (bdrew _)⟩) ?_
        have hst : (Hold w lb (slotL zs)) _ := (⟨HT2.out.B.drew, L0.on (bdrew _)⟩)
        have inst : Nonempty (Of (Hold w lb (slotL zs))) := ⟨⟨_, hst⟩⟩
        have HT1 := Lib.hid (HT2.out.on (bdrew W4))
        clear HT2
        generalize W4.drew = V1 at *
        have u4 := hold_cell (W := w) (g := lb) 40 _ (slotL_size zs)
        have u5 := fun W => run_room lb zs.length hz40 W
        refine any_seg 6 [(0, true), (2, true), (3, true), (4, true), (5, true)] (by kernel_rfl) (fun _ _ d _ _ h => by cases d <;> exact h) ?_
        iterate 5 (refine line_read rfl (by kernel_rfl) (fun K hK => ?_); go_big_quiet_op; refine hK _ ?_; clear hK K)
        refine line_nil ?_
        clear u4 u5
        refine any_fork 1 6 (by kernel_rfl) rfl rfl (by kernel_rfl) (by kernel_rfl) (fun K hK => ?_) (fun K hK => ?_)
        · have e1 := (HT1.out).D.cell 0 _ rfl
          go_big_op
          refine hK _ _ hst ?_
          clear hK K e1
          refine any_rest [(6, false), (7, false), (8, false), (9, true), (10, false)] (by kernel_rfl) (fun _ _ d _ _ h => by cases d <;> exact h) ?_
          refine line_alone rfl (by kernel_rfl) (fun K hK => ?_)
          refine call_any (args := #[.slice (some ⟨lb, 0, none⟩) zs.length 40]) rfl (by kernel_rfl) (by kernel_rfl) (copyBytes_any _ _ _ _ zs _ (slot_row hst.at' hz40 HZW.out) (Nat.le_refl _) (by omega)) ?_
          rintro e x6 ⟨rfl, O6, b6⟩
          have hst2 := hst.on b6
          refine ⟨_, rfl, hK _ _ hst2 ?_⟩
          clear hK K hst
          have hst := hst2
          clear hst2
          simp only [Act.put, List.setIfInBounds_toArray, List.set_cons_zero, List.set_cons_succ]
          refine line_alone rfl (by kernel_rfl) (fun K hK => ?_)
          go_big_op
          have SR := Lib.hid (src_new (P := Tryz.prog) x6 [.slice (some ⟨V1.heap.size, 0, none⟩) zs.length zs.length] 1 1 22 25 22 Tryz.underlying25 rfl (by intro u hu; simp at hu; subst hu; rfl))
          have b7 := btr b6 (bal (Below.refl _ x6) (.cells #[.slice (some ⟨V1.heap.size, 0, none⟩) zs.length zs.length] 22))
          have O7 := Lib.hid (O6.alloc (.cells #[.slice (some ⟨V1.heap.size, 0, none⟩) zs.length zs.length] 22))
          have hst2 := hst.on (bal (Below.refl _ x6) (.cells #[.slice (some ⟨V1.heap.size, 0, none⟩) zs.length zs.length] 22))
          refine hK _ _ hst2 ?_
          clear hK K hst O6 b6
          have hst := hst2
          clear hst2
          have hc7 : (x6.alloc (.cells [Value.slice (some ⟨V1.heap.size, 0, none⟩) zs.length zs.length].toArray 22)) = x6.alloc (.cells #[.slice (some ⟨V1.heap.size, 0, none⟩) zs.length zs.length] 22) := rfl
          rw [hc7] at SR
          clear hc7
          generalize x6.alloc (.cells #[.slice (some ⟨V1.heap.size, 0, none⟩) zs.length zs.length] 22) = x7 at *
          generalize x6.heap.size = lit at *
          refine line_alone rfl (by kernel_rfl) (fun K hK => ?_)
          have HT7 := Lib.hid (HT1.out.on b7)
          refine wp_append_src _ (.tmp 22) (.tmp 28) 25 25 rfl w.heap.size 22 i0 (.slice none 0 0) 1 24 Tryz.underlying25 hi0 hz0 hz1 hz2 rfl v k xs rfl (by have := HT7.out.G.own; rwa [HLK.out] at this) _ 1 [.slice (some ⟨V1.heap.size, 0, none⟩) zs.length zs.length] rfl SR.out (by simp only [maxLen]; omega) (by omega) (Nat.le_trans HT7.out.B.size (Nat.le_refl _)) (fun v8 w8 hown hgrow hat => ?_)
          obtain ⟨a8, c8, hv8, -⟩ := Own.form hown
          subst hv8
          have T8 := Lib.hid (HT1.out.app b7 O7.out (by rw [HLK.out]; exact hown) hgrow hat hd1 hd2)
          have D8 := HT7.out.D.kept hgrow (fun e => (HT7.out.off d e.symm).2.2 rfl)
          have B8 : Below w.heap.size w w8 := HT7.out.B.grown hgrow HT7.out.B.size fun k e => (HT7.out.G.own.lt k e).1
          have L8 := hst.at'.kept hgrow (fun e => hlv lb e.symm rfl)
          have hst2 : Hold w lb (slotL zs) w8 := ⟨B8, L8⟩
          refine hK _ _ hst2 ?_
          clear hK K hst hown hgrow hat O7 SR HT7 b7 B8 L8
          have hst := hst2
          clear hst2
          simp only [Act.put, List.setIfInBounds_toArray, List.set_cons_zero, List.set_cons_succ]
          have p0 := D8.cell 0 _ rfl
          have p1 := D8.cell 1 _ rfl
          have f0 := D8.free 0 _ rfl
          have f1 := D8.free 1 _ rfl
          iterate 1 (refine line_read rfl (by kernel_rfl) (fun K hK => ?_); go_big_quiet_op; refine hK _ ?_; clear hK K)
          refine line_alone rfl (by kernel_rfl) (fun K hK => ?_)
          go_big_op
          refine hK _ _ (hst.setB (p := ⟨d, 0, none⟩) hd0 (fun e => hld e.symm) _) ?_
          clear hK K
          refine line_nil ?_
          clear p0 p1 f0 f1 D8
          go_wp2_with fail
          go_roundw
          case rel => exact ⟨k + 1, _, _, by omega, by go_num, by rw [HTK.out]; exact T8.out⟩
          case measure => simp [intOf]; omega
        · refine call_any (args := #[.slice (some ⟨lb, 0, none⟩) zs.length 40]) rfl (by kernel_rfl) (by kernel_rfl) (copyBytes_any _ _ _ _ zs _ (slot_row hst.at' hz40 HZW.out) (Nat.le_refl _) (by omega)) ?_
          rintro e x6 ⟨rfl, O6, b6⟩
          have hst2 := hst.on b6
          refine ⟨_, rfl, hK _ _ hst2 ?_⟩
          clear hK K hst
          have hst := hst2
          clear hst2
          simp only [Act.put, List.setIfInBounds_toArray, List.set_cons_zero, List.set_cons_succ]
          refine any_fork 1 7 (by kernel_rfl) rfl rfl (by kernel_rfl) (by kernel_rfl) (fun K hK => ?_) (fun K hK => ?_)
          · have e1 := (HT1.out.on b6).D.cell 0 _ rfl
            go_big_op
            refine hK _ _ hst ?_
            clear hK K e1
            refine any_rest [(7, false), (8, false), (9, true), (10, false)] (by kernel_rfl) (fun _ _ d _ _ h => by cases d <;> exact h) ?_
            refine line_alone rfl (by kernel_rfl) (fun K hK => ?_)
            go_big_op
            have SR := Lib.hid (src_new (P := Tryz.prog) x6 [.slice (some ⟨V1.heap.size, 0, none⟩) zs.length zs.length] 1 1 22 25 22 Tryz.underlying25 rfl (by intro u hu; simp at hu; subst hu; rfl))
            have b7 := btr b6 (bal (Below.refl _ x6) (.cells #[.slice (some ⟨V1.heap.size, 0, none⟩) zs.length zs.length] 22))
            have O7 := Lib.hid (O6.alloc (.cells #[.slice (some ⟨V1.heap.size, 0, none⟩) zs.length zs.length] 22))
            have hst2 := hst.on (bal (Below.refl _ x6) (.cells #[.slice (some ⟨V1.heap.size, 0, none⟩) zs.length zs.length] 22))
            refine hK _ _ hst2 ?_
            clear hK K hst O6 b6
            have hst := hst2
            clear hst2
            have hc7 : (x6.alloc (.cells [Value.slice (some ⟨V1.heap.size, 0, none⟩) zs.length zs.length].toArray 22)) = x6.alloc (.cells #[.slice (some ⟨V1.heap.size, 0, none⟩) zs.length zs.length] 22) := rfl
            rw [hc7] at SR
            clear hc7
            generalize x6.alloc (.cells #[.slice (some ⟨V1.heap.size, 0, none⟩) zs.length zs.length] 22) = x7 at *
            generalize x6.heap.size = lit at *
            refine line_alone rfl (by kernel_rfl) (fun K hK => ?_)
            have HT7 := Lib.hid (HT1.out.on b7)
            refine wp_append_src _ (.tmp 22) (.tmp 28) 25 25 rfl w.heap.size 22 i0 (.slice none 0 0) 1 24 Tryz.underlying25 hi0 hz0 hz1 hz2 rfl v k xs rfl (by have := HT7.out.G.own; rwa [HLK.out] at this) _ 1 [.slice (some ⟨V1.heap.size, 0, none⟩) zs.length zs.length] rfl SR.out (by simp only [maxLen]; omega) (by omega) (Nat.le_trans HT7.out.B.size (Nat.le_refl _)) (fun v8 w8 hown hgrow hat => ?_)
            obtain ⟨a8, c8, hv8, -⟩ := Own.form hown
            subst hv8
            have T8 := Lib.hid (HT1.out.app b7 O7.out (by rw [HLK.out]; exact hown) hgrow hat hd1 hd2)
            have D8 := HT7.out.D.kept hgrow (fun e => (HT7.out.off d e.symm).2.2 rfl)
            have B8 : Below w.heap.size w w8 := HT7.out.B.grown hgrow HT7.out.B.size fun k e => (HT7.out.G.own.lt k e).1
            have L8 := hst.at'.kept hgrow (fun e => hlv lb e.symm rfl)
            have hst2 : Hold w lb (slotL zs) w8 := ⟨B8, L8⟩
            refine hK _ _ hst2 ?_
            clear hK K hst hown hgrow hat O7 SR HT7 b7 B8 L8
            have hst := hst2
            clear hst2
            simp only [Act.put, List.setIfInBounds_toArray, List.set_cons_zero, List.set_cons_succ]
            have p0 := D8.cell 0 _ rfl
            have p1 := D8.cell 1 _ rfl
            have f0 := D8.free 0 _ rfl
            have f1 := D8.free 1 _ rfl
            iterate 1 (refine line_read rfl (by kernel_rfl) (fun K hK => ?_); go_big_quiet_op; refine hK _ ?_; clear hK K)
            refine line_alone rfl (by kernel_rfl) (fun K hK => ?_)
            go_big_op
            refine hK _ _ (hst.setB (p := ⟨d, 0, none⟩) hd0 (fun e => hld e.symm) _) ?_
            clear hK K
            refine line_nil ?_
            clear p0 p1 f0 f1 D8
            go_wp2_with fail
            go_roundw
            case rel => exact ⟨k + 1, _, _, by omega, by go_num, by rw [HTK.out]; exact T8.out⟩
            case measure => simp [intOf]; omega
          · go_big_op
            have SR := Lib.hid (src_new (P := Tryz.prog) x6 [.slice (some ⟨V1.heap.size, 0, none⟩) zs.length zs.length] 1 1 22 25 22 Tryz.underlying25 rfl (by intro u hu; simp at hu; subst hu; rfl))
            have b7 := btr b6 (bal (Below.refl _ x6) (.cells #[.slice (some ⟨V1.heap.size, 0, none⟩) zs.length zs.length] 22))
            have O7 := Lib.hid (O6.alloc (.cells #[.slice (some ⟨V1.heap.size, 0, none⟩) zs.length zs.length] 22))
            have hst2 := hst.on (bal (Below.refl _ x6) (.cells #[.slice (some ⟨V1.heap.size, 0, none⟩) zs.length zs.length] 22))
            refine hK _ _ hst2 ?_
            clear hK K hst O6 b6
            have hst := hst2
            clear hst2
            have hc7 : (x6.alloc (.cells [Value.slice (some ⟨V1.heap.size, 0, none⟩) zs.length zs.length].toArray 22)) = x6.alloc (.cells #[.slice (some ⟨V1.heap.size, 0, none⟩) zs.length zs.length] 22) := rfl
            rw [hc7] at SR
            clear hc7
            generalize x6.alloc (.cells #[.slice (some ⟨V1.heap.size, 0, none⟩) zs.length zs.length] 22) = x7 at *
            generalize x6.heap.size = lit at *
            refine any_rest [(1, false), (8, false), (9, true), (10, false)] (by kernel_rfl) (fun _ _ d _ _ h => by cases d <;> exact h) ?_
            refine line_alone rfl (by kernel_rfl) (fun K hK => ?_)
            have e1 := (HT1.out.on b7).D.cell 0 _ rfl
            go_big_op
            refine hK _ _ hst ?_
            clear hK K e1
            refine line_alone rfl (by kernel_rfl) (fun K hK => ?_)
            have HT7 := Lib.hid (HT1.out.on b7)
            refine wp_append_src _ (.tmp 22) (.tmp 28) 25 25 rfl w.heap.size 22 i0 (.slice none 0 0) 1 24 Tryz.underlying25 hi0 hz0 hz1 hz2 rfl v k xs rfl (by have := HT7.out.G.own; rwa [HLK.out] at this) _ 1 [.slice (some ⟨V1.heap.size, 0, none⟩) zs.length zs.length] rfl SR.out (by simp only [maxLen]; omega) (by omega) (Nat.le_trans HT7.out.B.size (Nat.le_refl _)) (fun v8 w8 hown hgrow hat => ?_)
            obtain ⟨a8, c8, hv8, -⟩ := Own.form hown
            subst hv8
            have T8 := Lib.hid (HT1.out.app b7 O7.out (by rw [HLK.out]; exact hown) hgrow hat hd1 hd2)
            have D8 := HT7.out.D.kept hgrow (fun e => (HT7.out.off d e.symm).2.2 rfl)
            have B8 : Below w.heap.size w w8 := HT7.out.B.grown hgrow HT7.out.B.size fun k e => (HT7.out.G.own.lt k e).1
            have L8 := hst.at'.kept hgrow (fun e => hlv lb e.symm rfl)
            have hst2 : Hold w lb (slotL zs) w8 := ⟨B8, L8⟩
            refine hK _ _ hst2 ?_
            clear hK K hst hown hgrow hat O7 SR HT7 b7 B8 L8
            have hst := hst2
            clear hst2
            simp only [Act.put, List.setIfInBounds_toArray, List.set_cons_zero, List.set_cons_succ]
            have p0 := D8.cell 0 _ rfl
            have p1 := D8.cell 1 _ rfl
            have f0 := D8.free 0 _ rfl
            have f1 := D8.free 1 _ rfl
            iterate 1 (refine line_read rfl (by kernel_rfl) (fun K hK => ?_); go_big_quiet_op; refine hK _ ?_; clear hK K)
            refine line_alone rfl (by kernel_rfl) (fun K hK => ?_)
            go_big_op
            refine hK _ _ (hst.setB (p := ⟨d, 0, none⟩) hd0 (fun e => hld e.symm) _) ?_
            clear hK K
            refine line_nil ?_
            clear p0 p1 f0 f1 D8
            go_wp2_with fail
            go_roundw
            case rel => exact ⟨k + 1, _, _, by omega, by go_num, by rw [HTK.out]; exact T8.out⟩
            case measure => simp [intOf]; omega
      · obtain rfl : k = n := by omega
        obtain ⟨a, c, hv, -⟩ := hT.G.form
        rw [show (rs.take k).length = k by have := HN.out; simp; omega] at hv
        subst hv
        have HF := Lib.hid hT
        have R1 := hT.R
        have D1 := hT.D
        clear hT
        have p0 := D1.cell 0 _ rfl
        have p1 := D1.cell 1 _ rfl
        have q0 := R1.cell 0 _ rfl
        have q1 := R1.cell 1 _ rfl
        have f0 := R1.free 0 _ rfl
        have f1 := R1.free 1 _ rfl
        clear D1 R1
        have hne : w.heap.size + 1 ≠ d := Ne.symm hd2
        have G1 := HF.out.G.keepP (w' := (wr.setCell ⟨w.heap.size + 1, 0, none⟩ (.slice a k c)).setCell ⟨w.heap.size + 1, 1, none⟩ (.int .i64 s)) (by simp [World.setCell])
          (fun g e => by
            have hg : g ≠ w.heap.size + 1 := (HF.out.off g e).2.1
            rw [Below.heap_setCell _ _ _ g hg, Below.heap_setCell _ _ _ g hg])
          (fun i x g hx e => by
            have hg : g ≠ w.heap.size + 1 := (HF.out.offx i x g hx e).1
            rw [Below.heap_setCell _ _ _ g hg, Below.heap_setCell _ _ _ g hg])
        have G2 := G1.more (hi' := ((wr.setCell ⟨w.heap.size + 1, 0, none⟩ (.slice a k c)).setCell ⟨w.heap.size + 1, 1, none⟩ (.int .i64 s)).heap.size) G1.top (Nat.le_refl _)
        have B2 : Below w.heap.size w ((wr.setCell ⟨w.heap.size + 1, 0, none⟩ (.slice a k c)).setCell ⟨w.heap.size + 1, 1, none⟩ (.int .i64 s)) := (by (iterate 2 (refine bset ?_ (by dsimp only; omega) _)); exact HF.out.B)
        have GB := Lib.hid (And.intro G2 B2)
        clear G1 G2 B2 HF
        go_wp2_with fail
        exact bodyPost_ret (v := .agg #[.slice a k c, .int .i64 s]) (by simp [results, Tryz.results71, go_sem, q0, q1]) rfl ⟨a, k, c, xs, rfl, GB.out.1, GB.out.2⟩
end Go.Proofs.YtcolecidbalmhaaGreatDoor
namespace Go.Proofs.YtcolecidbalmhaaGreatDoor
open Go.RowKit
set_option maxRecDepth 100000
set_option linter.unusedVariables false

/-- What reading a record answers. -/
def rdC (zs : List Int) : Int := if recOk zs then 0 else 5
def rdP (zs : List Int) : PinD := if recOk zs then pinZ (body zs) else pin0
theorem recOk_short {zs : List Int} (h : zs.length < 2) : recOk zs = false := by
  unfold recOk
  rw [show decide (2 ≤ zs.length) = false by simp; omega]
  rfl
theorem recOk_sum {zs : List Int} (h : 2 ≤ zs.length) (h1 : tailN zs ≠ M.sumL (body zs)) : recOk zs = false := by
  unfold recOk
  simp [h1]
theorem recOk_pinOk {zs : List Int} (h : 2 ≤ zs.length) (h1 : tailN zs = M.sumL (body zs)) : recOk zs = pinOk (body zs) := by
  unfold recOk
  simp [h, h1]
theorem implReadRecord9_any (a : Option Addr) (len cap B : Nat) (zs : List Int) (w : World) (hR : Row .u8 w B a len cap zs) (hB : B ≤ w.heap.size) :
    Calls Tryz.prog 89 #[.slice a len cap] w fun r w' => r = .returned (RP6 (rdC zs) (rdP zs)) ∧ Below w.heap.size w w' := by
  have hzl := hR.length
  have hfit := hR.fits
  have hmost := hR.most
  have hm2 := hmost
  unfold maxLen at hm2
  have b0 := bal (Below.refl _ w) (.cells #[.int .i64 0, .string { data := #[] }, .int .i64 0, .int .i64 0, .int .i64 0, .int .i64 0] 48)
  have A0 := At.new w [.int .i64 0, .string { data := #[] }, .int .i64 0, .int .i64 0, .int .i64 0, .int .i64 0] 48
  by_cases h2 : len < 2
  · have eno : recOk zs = false := recOk_short (by omega)
    rw [show rdC zs = 5 by simp [rdC, eno], show rdP zs = pin0 by simp [rdP, eno]]
    have h2' : (len : Int) - 2 < 0 := by omega
    have HB0 := Lib.hid b0
    have HA0 := Lib.hid A0
    clear hR b0 A0 eno hzl
    go_enter Tryz.func89, Tryz.ntmps89
    go_wp2_with fail
    generalize w.alloc (.cells #[.int .i64 0, .string { data := #[] }, .int .i64 0, .int .i64 0, .int .i64 0, .int .i64 0] 48) = W0 at *
    refine wp_region_line (Bel W0) [(0, true), (1, true), (2, true), (3, true), (4, true), (5, true), (7, true), (8, true), (9, true), (6, false), (10, false), (11, true), (12, true), (13, true)] (by kernel_rfl) (by kernel_rfl) (fun _ _ d _ _ h => by cases d <;> exact h) (Bel.drew W0) ?_
    have hst := Bel.drew W0
    have inst : Nonempty (Of (Bel W0)) := ⟨⟨_, hst⟩⟩
    generalize W0.drew = V1 at *
    iterate 3 (refine line_read rfl (by kernel_rfl) (fun K hK => ?_); go_big_quiet_op; refine hK _ ?_; clear hK K)
    iterate 10 (refine line_skip rfl (by kernel_rfl) ?_; simp only [Act.put, List.setIfInBounds_toArray, List.set_cons_zero, List.set_cons_succ])
    iterate 1 (refine line_read rfl (by kernel_rfl) (fun K hK => ?_); go_big_quiet_op; refine hK _ ?_; clear hK K)
    refine line_nil ?_
    have A1 := (HA0.out.on hst.out)
    have B1 := btr HB0.out hst.out
    clear hst inst HA0 HB0
    have q0 := A1.cell 0 _ rfl
    have q1 := A1.cell 1 _ rfl
    have q2 := A1.cell 2 _ rfl
    have q3 := A1.cell 3 _ rfl
    have q4 := A1.cell 4 _ rfl
    have q5 := A1.cell 5 _ rfl
    have z0 := A1.free 0 _ rfl
    have z1 := A1.free 1 _ rfl
    have z2 := A1.free 2 _ rfl
    have z3 := A1.free 3 _ rfl
    have z4 := A1.free 4 _ rfl
    have z5 := A1.free 5 _ rfl
    clear A1
    go_wp2_with fail
    refine bodyPost_ret (v := RP6 5 ⟨{ data := #[] }, 0, 0, 0, 0⟩) (by simp [results, Tryz.results89, go_sem, q0, q1, q2, q3, q4, q5]) rfl ⟨rfl, ?_⟩
    exact (by (iterate 6 (refine bset ?_ (by dsimp only; omega) _)); exact B1)
  obtain ⟨m, rfl⟩ : ∃ m, len = m + 2 := ⟨len - 2, by omega⟩
  obtain ⟨b, off, rfl, hb, hc⟩ := hR.cells (by omega)
  have hz2 : 2 ≤ zs.length := by omega
  have ebody : body zs = zs.take m := by unfold body; rw [hzl]; rfl
  have etail : tailN zs = 256 * zs.getD m 0 + zs.getD (m + 1) 0 := by unfold tailN; rw [hzl]; rfl
  have z0 := hR.byte m
  have z1 := hR.byte (m + 1)
  have RB : Row .u8 w B (some ⟨b, off, none⟩) m cap (body zs) := by
    have := hR.sub 0 m cap (by omega) (by omega) hmost
    rwa [Nat.add_zero, List.drop_zero, ← ebody] at this
  have d0 := cell_keep b0 (hc m (by omega))
  have d1 := cell_keep b0 (hc (m + 1) (by omega))
  have T0 := Lib.hid (fun (w' : World) d0 d1 => readTwo_any b (off + m) 2 (cap - m) (zs.getD m 0) (zs.getD (m + 1) 0) w' (by omega) (by omega) (by simp only [maxLen]; omega) d0 d1 z0.1 z0.2 z1.1 z1.2)
  have SB := Lib.hid (fun (w' : World) (h : Below w.heap.size w w') => sumBytes_any (some ⟨b, off, none⟩) m cap B (body zs) w' (RB.below (h.mono hB)))
  have RD := Lib.hid (fun (w' : World) (h : Below w.heap.size w w') => implReadPin_any (some ⟨b, off, none⟩) m cap B (body zs) w' (RB.below (h.mono hB)) (Nat.le_trans hB h.size))
  obtain ⟨s0, s1⟩ := M.sumL_bd (body zs)
  have hmz : ¬ ((m : Int) < 0) := by omega
  have hmd : decide ((m : Int) < 0) = false := by simp
  have HD0 := Lib.hid d0
  have HD1 := Lib.hid d1
  have HB0 := Lib.hid b0
  have HA0 := Lib.hid A0
  rw [← Nat.add_assoc] at HD1
  by_cases ht : tailN zs = M.sumL (body zs)
  · have er := recOk_pinOk hz2 ht
    rw [show rdC zs = readC (body zs) by simp [rdC, readC, er], show rdP zs = readR (body zs) by simp [rdP, readR, er]]
    rw [etail] at ht
    have hq : (256 * zs.getD m 0 + zs.getD (m + 1) 0 != M.sumL (body zs)) = false := by rw [ht]; simp
    have HT := Lib.hid ht
    generalize readC (body zs) = rc at *
    generalize readR (body zs) = rp at *
    generalize zs.getD m 0 = y0 at *
    generalize zs.getD (m + 1) 0 = y1 at *
    generalize M.sumL (body zs) = sm at *
    generalize body zs = bz at *
    clear hR hc b0 A0 d0 d1 er ht ebody etail RB
    go_enter Tryz.func89, Tryz.ntmps89
    go_wp2_with fail
    generalize w.alloc (.cells #[.int .i64 0, .string { data := #[] }, .int .i64 0, .int .i64 0, .int .i64 0, .int .i64 0] 48) = W0 at *
    refine wp_region_line (Bel W0) [(0, true), (1, true), (2, true), (3, true), (4, true), (5, true), (7, true), (8, true), (9, true), (6, false), (10, false), (11, true), (12, true), (13, true)] (by kernel_rfl) (by kernel_rfl) (fun _ _ d _ _ h => by cases d <;> exact h) (Bel.drew W0) ?_
    have hst := Bel.drew W0
    have inst : Nonempty (Of (Bel W0)) := ⟨⟨_, hst⟩⟩
    generalize W0.drew = V1 at *
    iterate 9 (refine line_read rfl (by kernel_rfl) (fun K hK => ?_); go_big_quiet_op; refine hK _ ?_; clear hK K)
    refine line_alone rfl (by kernel_rfl) (fun K hK => ?_)
    refine call_wp (args := #[.slice (some ⟨b, off + m, none⟩) 2 (cap - m)]) rfl (by kernel_rfl) (by kernel_rfl) (T0.out _ (cell_keep hst.out HD0.out) (cell_keep hst.out HD1.out)) (fun wn hbn => ?_)
    have hst2 := hst.on hbn
    refine hK _ _ hst2 ?_
    clear hK K hst hbn
    have hst := hst2
    clear hst2
    simp only [Act.put, List.setIfInBounds_toArray, List.set_cons_zero, List.set_cons_succ]
    refine line_alone rfl (by kernel_rfl) (fun K hK => ?_)
    refine call_wp (args := #[.slice (some ⟨b, off, none⟩) m cap]) rfl (by kernel_rfl) (by kernel_rfl) (SB.out _ (btr HB0.out hst.out)) (fun wn hbn => ?_)
    subst hbn
    refine hK _ _ hst ?_
    clear hK K
    simp only [Act.put, List.setIfInBounds_toArray, List.set_cons_zero, List.set_cons_succ]
    iterate 3 (refine line_read rfl (by kernel_rfl) (fun K hK => ?_); go_big_quiet_op; refine hK _ ?_; clear hK K)
    refine line_nil ?_
    have A1 := (HA0.out.on hst.out)
    have HA1 := Lib.hid A1
    have B1 := btr HB0.out hst.out
    clear hst inst HA0 HB0 HD0 HD1 T0 SB
    have q0 := A1.cell 0 _ rfl
    have q1 := A1.cell 1 _ rfl
    have q2 := A1.cell 2 _ rfl
    have q3 := A1.cell 3 _ rfl
    have q4 := A1.cell 4 _ rfl
    have q5 := A1.cell 5 _ rfl
    have z0 := A1.free 0 _ rfl
    have z1 := A1.free 1 _ rfl
    have z2 := A1.free 2 _ rfl
    have z3 := A1.free 3 _ rfl
    have z4 := A1.free 4 _ rfl
    have z5 := A1.free 5 _ rfl
    clear A1
    clear q0 q1 q2 q3 q4 q5
    clear z2 z3 z4 z5
    go_wp2_with fail
    refine (RD.out _ B1).mono ?_
    rintro r w2 ⟨rfl, b2⟩
    have A2 := HA1.out.on b2
    have B2 := btr B1 b2
    have q0 := A2.cell 0 _ rfl
    have q1 := A2.cell 1 _ rfl
    have q2 := A2.cell 2 _ rfl
    have q3 := A2.cell 3 _ rfl
    have q4 := A2.cell 4 _ rfl
    have q5 := A2.cell 5 _ rfl
    have z0 := A2.free 0 _ rfl
    have z1 := A2.free 1 _ rfl
    have z2 := A2.free 2 _ rfl
    have z3 := A2.free 3 _ rfl
    have z4 := A2.free 4 _ rfl
    have z5 := A2.free 5 _ rfl
    clear A2 B1 b2 RD HA1
    go_wp2_with fail
    refine bodyPost_ret (v := RP6 rc rp) (by simp [results, Tryz.results89, go_sem, q0, q1, q2, q3, q4, q5]) rfl ⟨rfl, ?_⟩
    exact (by (iterate 6 (refine bset ?_ (by dsimp only; omega) _)); exact B2)
  · have er := recOk_sum hz2 ht
    rw [show rdC zs = 5 by simp [rdC, er], show rdP zs = pin0 by simp [rdP, er]]
    rw [etail] at ht
    have hq : (256 * zs.getD m 0 + zs.getD (m + 1) 0 != M.sumL (body zs)) = true := by simpa using ht
    have hq2 : decide (256 * zs.getD m 0 + zs.getD (m + 1) 0 = M.sumL (body zs)) = false := by simpa using ht
    generalize zs.getD m 0 = y0 at *
    generalize zs.getD (m + 1) 0 = y1 at *
    generalize M.sumL (body zs) = sm at *
    generalize body zs = bz at *
    clear hR hc b0 A0 d0 d1 er ht ebody etail RB
    go_enter Tryz.func89, Tryz.ntmps89
    go_wp2_with fail
    generalize w.alloc (.cells #[.int .i64 0, .string { data := #[] }, .int .i64 0, .int .i64 0, .int .i64 0, .int .i64 0] 48) = W0 at *
    refine wp_region_line (Bel W0) [(0, true), (1, true), (2, true), (3, true), (4, true), (5, true), (7, true), (8, true), (9, true), (6, false), (10, false), (11, true), (12, true), (13, true)] (by kernel_rfl) (by kernel_rfl) (fun _ _ d _ _ h => by cases d <;> exact h) (Bel.drew W0) ?_
    have hst := Bel.drew W0
    have inst : Nonempty (Of (Bel W0)) := ⟨⟨_, hst⟩⟩
    generalize W0.drew = V1 at *
    iterate 9 (refine line_read rfl (by kernel_rfl) (fun K hK => ?_); go_big_quiet_op; refine hK _ ?_; clear hK K)
    refine line_alone rfl (by kernel_rfl) (fun K hK => ?_)
    refine call_wp (args := #[.slice (some ⟨b, off + m, none⟩) 2 (cap - m)]) rfl (by kernel_rfl) (by kernel_rfl) (T0.out _ (cell_keep hst.out HD0.out) (cell_keep hst.out HD1.out)) (fun wn hbn => ?_)
    have hst2 := hst.on hbn
    refine hK _ _ hst2 ?_
    clear hK K hst hbn
    have hst := hst2
    clear hst2
    simp only [Act.put, List.setIfInBounds_toArray, List.set_cons_zero, List.set_cons_succ]
    refine line_alone rfl (by kernel_rfl) (fun K hK => ?_)
    refine call_wp (args := #[.slice (some ⟨b, off, none⟩) m cap]) rfl (by kernel_rfl) (by kernel_rfl) (SB.out _ (btr HB0.out hst.out)) (fun wn hbn => ?_)
    subst hbn
    refine hK _ _ hst ?_
    clear hK K
    simp only [Act.put, List.setIfInBounds_toArray, List.set_cons_zero, List.set_cons_succ]
    iterate 3 (refine line_read rfl (by kernel_rfl) (fun K hK => ?_); go_big_quiet_op; refine hK _ ?_; clear hK K)
    refine line_nil ?_
    have A1 := (HA0.out.on hst.out)
    have HA1 := Lib.hid A1
    have B1 := btr HB0.out hst.out
    clear hst inst HA0 HB0 HD0 HD1 T0 SB
    have q0 := A1.cell 0 _ rfl
    have q1 := A1.cell 1 _ rfl
    have q2 := A1.cell 2 _ rfl
    have q3 := A1.cell 3 _ rfl
    have q4 := A1.cell 4 _ rfl
    have q5 := A1.cell 5 _ rfl
    have z0 := A1.free 0 _ rfl
    have z1 := A1.free 1 _ rfl
    have z2 := A1.free 2 _ rfl
    have z3 := A1.free 3 _ rfl
    have z4 := A1.free 4 _ rfl
    have z5 := A1.free 5 _ rfl
    clear A1 RD HA1
    go_wp2_with fail
    refine bodyPost_ret (v := RP6 5 ⟨{ data := #[] }, 0, 0, 0, 0⟩) (by simp [results, Tryz.results89, go_sem, q0, q1, q2, q3, q4, q5]) rfl ⟨rfl, ?_⟩
    exact (by (iterate 6 (refine bset ?_ (by dsimp only; omega) _)); exact B1)
theorem rec_sum (zs : List Int) : M.sumB (M.sumL zs) = true := by
  have hs := M.sumL_bd zs
  simp only [M.sumB, decide_eq_true_eq]; omega
theorem l9Record_any (g : Nat) (o : Nat) (p : PinD) (w : World) (L : ∀ w', Below w.heap.size w w' → Calls Tryz.prog 162 #[.pointer (some ⟨g, o, none⟩)] w' (Made (packP p) w')) (h : p.f = 0) :
    Calls Tryz.prog 98 #[.pointer (some ⟨g, o, none⟩)] w (Made (recP p) w) := by
  obtain ⟨i0, hi0, hz0, hz1, hz2⟩ := info_parts u8_info
  have hn20 := (pin_bounds h).1
  have hw := fun z hz => byte_wf (packP_byte h z hz)
  have P := L w (Below.refl _ _)
  have hl : (packP p).length ≤ 1000000 := by rw [packP_length]; omega
  have hs := rec_sum (packP p)
  obtain ⟨s0, s1⟩ := M.sumL_bd (packP p)
  unfold recP
  clear h L
  generalize packP p = zs at *
  have S := fun a n c B w R => l2Sum_any a n c B zs w R
  generalize hx : M.sumL zs = x at *
  have T := fun w => l1Two_any x w hs
  have HX := Lib.hid hx
  have HL := Lib.hid hl
  clear hl hs hx
  go_enter Tryz.func98, Tryz.ntmps98
  go_wp2_with fail
  refine P.mono ?_
  rintro r u1 ⟨a, n, c, rfl, O1, b1⟩
  have ln := OwnK.len O1
  subst ln
  have R1 := Own.row O1 hw
  have HO := Lib.hid O1
  have hsz1 := b1.size
  clear O1 P
  go_wp2_with fail
  refine (S _ _ _ _ _ R1).mono ?_
  rintro r u2 ⟨rfl, rfl⟩
  clear R1 S
  go_wp2_with fail
  refine (T _).mono ?_
  rintro r u3 ⟨rfl, rfl⟩
  have SR := src_new (P := Tryz.prog) u1 [.int .u8 (x / 256), .int .u8 (x % 256)] 2 2 5 22 5 Tryz.underlying22 rfl (ints_oneCell .u8 [x / 256, x % 256])
  have O3 : OwnK .u8 (u1.alloc (.cells #[.int .u8 (x / 256), .int .u8 (x % 256)] 5)) w.heap.size (.slice a zs.length c) zs := HO.out.alloc _
  have B3 := bal b1 (.cells #[.int .u8 (x / 256), .int .u8 (x % 256)] 5)
  have hsz3 := B3.size
  clear T
  have HSR := Lib.hid SR
  have HO3 := Lib.hid O3
  have HB3 := Lib.hid B3
  clear SR O3 B3 b1 HO
  go_wp2_with (at_builtin; refine wpList_append_src _ rfl (.tmp 6) (.tmp 9) 22 22 rfl w.heap.size 5 i0 (.int .u8 0) 1 1 Tryz.underlying22 hi0 hz0 hz1 hz2 rfl _ _ _ rfl HO3.out _ 2 _ rfl HSR.out (by have := HL.out; simp only [maxLen]; omega) (by have := HL.out; omega) hsz3 ?_; intro v w4 hown hgrow hat)
  have O4 : OwnK .u8 w4 w.heap.size v (zs ++ M.two x) := by
    unfold OwnK
    simpa [M.two] using hown
  have B4 := Own.grown HO3.out HB3.out hsz3 hgrow
  obtain ⟨a4, n4, c4, hv4⟩ : ∃ a n c, v = .slice a n c := by obtain ⟨a, c, e, -⟩ := Own.form O4; exact ⟨_, _, _, e⟩
  subst hv4
  have HF := Lib.hid (And.intro O4 B4)
  clear O4 B4 hown hgrow hat
  go_wp2_with fail
  go_ret
  exact ⟨_, _, _, rfl, HF.out.1, HF.out.2⟩
/-- What the model reads: the pin, and whether the record is one. -/
def PinRead9 (zs : List Int) (w : World) (e : Ending) (w' : World) : Prop := ∃ p : PinD, e = .returned (.tuple #[P5 p, .bool (recOk zs)]) ∧ (recOk zs = true → p = pinZ (body zs)) ∧ Below w.heap.size w w'
theorem l9Read_any (a : Option Addr) (len cap B : Nat) (zs : List Int) (w : World) (hR : Row .u8 w B a len cap zs) (hB : B ≤ w.heap.size) (h40 : len ≤ 40) :
    Calls Tryz.prog 160 #[.slice a len cap] w (PinRead9 zs w) := by
  have hzl := hR.length
  have hfit := hR.fits
  have hmost := hR.most
  have hm2 := hmost
  unfold maxLen at hm2
  have b0 := bal (Below.refl _ w) (.cells #[.string { data := #[] }, .int .i64 0, .int .i64 0, .int .i64 0, .int .i64 0] 31)
  have A0 := At.new w [.string { data := #[] }, .int .i64 0, .int .i64 0, .int .i64 0, .int .i64 0] 31
  have HB0 := Lib.hid b0
  have HA0 := Lib.hid A0
  by_cases h2 : len < 2
  · have eno : recOk zs = false := recOk_short (by omega)
    have HP : PinRead9 zs w = fun e w' => ∃ p : PinD, e = .returned (.tuple #[P5 p, .bool false]) ∧ Below w.heap.size w w' := by
      funext e w'
      simp [PinRead9, eno]
    rw [HP]
    have h2' : (len : Int) - 2 < 0 := by omega
    clear hR b0 A0 eno hzl HP
    go_enter Tryz.func160, Tryz.ntmps160
    go_wp2_with fail
    generalize w.alloc (.cells #[.string { data := #[] }, .int .i64 0, .int .i64 0, .int .i64 0, .int .i64 0] 31) = W0 at *
    refine wp_region_line (Bel W0) [(0, true), (1, true), (2, true), (3, true), (4, true), (6, true), (7, true), (8, true), (5, false), (9, false), (10, true), (11, true)] (by kernel_rfl) (by kernel_rfl) (fun _ _ d _ _ h => by cases d <;> exact h) (Bel.drew W0) ?_
    have hst := Bel.drew W0
    have inst : Nonempty (Of (Bel W0)) := ⟨⟨_, hst⟩⟩
    generalize W0.drew = V1 at *
    iterate 3 (refine line_read rfl (by kernel_rfl) (fun K hK => ?_); go_big_quiet_op; refine hK _ ?_; clear hK K)
    iterate 8 (refine line_skip rfl (by kernel_rfl) ?_; simp only [Act.put, List.setIfInBounds_toArray, List.set_cons_zero, List.set_cons_succ])
    iterate 1 (refine line_read rfl (by kernel_rfl) (fun K hK => ?_); go_big_quiet_op; refine hK _ ?_; clear hK K)
    refine line_nil ?_
    have A1 := (HA0.out.on hst.out)
    have B1 := btr HB0.out hst.out
    clear hst inst HA0 HB0
    have q0 := A1.cell 0 _ rfl
    have q1 := A1.cell 1 _ rfl
    have q2 := A1.cell 2 _ rfl
    have q3 := A1.cell 3 _ rfl
    have q4 := A1.cell 4 _ rfl
    have z0 := A1.free 0 _ rfl
    have z1 := A1.free 1 _ rfl
    have z2 := A1.free 2 _ rfl
    have z3 := A1.free 3 _ rfl
    have z4 := A1.free 4 _ rfl
    clear A1
    go_wp2_with fail
    refine bodyPost_ret (v := .tuple #[P5 ⟨{ data := #[] }, 0, 0, 0, 0⟩, .bool false]) (by simp [results, Tryz.results160, go_sem, q0, q1, q2, q3, q4]) rfl ⟨pin0, rfl, ?_⟩
    exact (by (iterate 5 (refine bset ?_ (by dsimp only; omega) _)); exact B1)
  obtain ⟨m, rfl⟩ : ∃ m, len = m + 2 := ⟨len - 2, by omega⟩
  obtain ⟨b, off, rfl, hb, hc⟩ := hR.cells (by omega)
  have hz2 : 2 ≤ zs.length := by omega
  have ebody : body zs = zs.take m := by unfold body; rw [hzl]; rfl
  have etail : tailN zs = 256 * zs.getD m 0 + zs.getD (m + 1) 0 := by unfold tailN; rw [hzl]; rfl
  have z0 := hR.byte m
  have z1 := hR.byte (m + 1)
  have RB : Row .u8 w B (some ⟨b, off, none⟩) m cap (body zs) := by
    have := hR.sub 0 m cap (by omega) (by omega) hmost
    rwa [Nat.add_zero, List.drop_zero, ← ebody] at this
  have HD0 := Lib.hid (cell_keep b0 (hc m (by omega)))
  have HD1 := Lib.hid (cell_keep b0 (hc (m + 1) (by omega)))
  have T0 := Lib.hid (fun (w' : World) d0 d1 => l1At_any b off (m + 2) cap m (zs.getD m 0) (zs.getD (m + 1) 0) w' (by omega) (by omega) hfit hmost d0 d1 z0.1 z0.2 z1.1 z1.2)
  have SB := Lib.hid (fun (w' : World) (h : Below w.heap.size w w') => l2Sum_any (some ⟨b, off, none⟩) m cap B (body zs) w' (RB.below (h.mono hB)))
  have RD := Lib.hid (fun (w' : World) (h : Below w.heap.size w w') => l7Read_any (some ⟨b, off, none⟩) m cap B (body zs) w' (RB.below (h.mono hB)) (Nat.le_trans hB h.size))
  obtain ⟨s0, s1⟩ := M.sumL_bd (body zs)
  have hmz : ¬ ((m : Int) < 0) := by omega
  have hmd : decide ((m : Int) < 0) = false := by simp
  by_cases ht : tailN zs = M.sumL (body zs)
  · have er := recOk_pinOk hz2 ht
    have HP : PinRead9 zs w = fun e w' => ∃ p : PinD, e = .returned (.tuple #[P5 p, .bool (pinOk (body zs))]) ∧ (pinOk (body zs) = true → p = pinZ (body zs)) ∧ Below w.heap.size w w' := by
      funext e w'
      simp [PinRead9, er]
    rw [HP]
    rw [etail] at ht
    have hq : (256 * zs.getD m 0 + zs.getD (m + 1) 0 != M.sumL (body zs)) = false := by rw [ht]; simp
    have HT := Lib.hid ht
    unfold PinRead at RD
    generalize pinOk (body zs) = ok at *
    generalize pinZ (body zs) = pz at *
    generalize zs.getD m 0 = y0 at *
    generalize zs.getD (m + 1) 0 = y1 at *
    generalize M.sumL (body zs) = sm at *
    generalize body zs = bz at *
    clear hR hc b0 A0 er ht ebody etail RB HP
    go_enter Tryz.func160, Tryz.ntmps160
    go_wp2_with fail
    generalize w.alloc (.cells #[.string { data := #[] }, .int .i64 0, .int .i64 0, .int .i64 0, .int .i64 0] 31) = W0 at *
    refine wp_region_line (Bel W0) [(0, true), (1, true), (2, true), (3, true), (4, true), (6, true), (7, true), (8, true), (5, false), (9, false), (10, true), (11, true)] (by kernel_rfl) (by kernel_rfl) (fun _ _ d _ _ h => by cases d <;> exact h) (Bel.drew W0) ?_
    have hst := Bel.drew W0
    have inst : Nonempty (Of (Bel W0)) := ⟨⟨_, hst⟩⟩
    generalize W0.drew = V1 at *
    iterate 8 (refine line_read rfl (by kernel_rfl) (fun K hK => ?_); go_big_quiet_op; refine hK _ ?_; clear hK K)
    refine line_alone rfl (by kernel_rfl) (fun K hK => ?_)
    refine call_wp (args := #[.slice (some ⟨b, off, none⟩) (m + 2) cap, .int .i64 m]) rfl (by kernel_rfl) (by kernel_rfl) (T0.out _ (cell_keep hst.out HD0.out) (cell_keep hst.out HD1.out)) (fun wn hbn => ?_)
    have hst2 := hst.on hbn
    refine hK _ _ hst2 ?_
    clear hK K hst hbn
    have hst := hst2
    clear hst2
    simp only [Act.put, List.setIfInBounds_toArray, List.set_cons_zero, List.set_cons_succ]
    refine line_alone rfl (by kernel_rfl) (fun K hK => ?_)
    refine call_wp (args := #[.slice (some ⟨b, off, none⟩) m cap]) rfl (by kernel_rfl) (by kernel_rfl) (SB.out _ (btr HB0.out hst.out)) (fun wn hbn => ?_)
    subst hbn
    refine hK _ _ hst ?_
    clear hK K
    simp only [Act.put, List.setIfInBounds_toArray, List.set_cons_zero, List.set_cons_succ]
    iterate 2 (refine line_read rfl (by kernel_rfl) (fun K hK => ?_); go_big_quiet_op; refine hK _ ?_; clear hK K)
    refine line_nil ?_
    have A1 := (HA0.out.on hst.out)
    have HA1 := Lib.hid A1
    have B1 := btr HB0.out hst.out
    clear hst inst HA0 HB0 HD0 HD1 T0 SB
    have q0 := A1.cell 0 _ rfl
    have q1 := A1.cell 1 _ rfl
    have q2 := A1.cell 2 _ rfl
    have q3 := A1.cell 3 _ rfl
    have q4 := A1.cell 4 _ rfl
    have z0 := A1.free 0 _ rfl
    have z1 := A1.free 1 _ rfl
    have z2 := A1.free 2 _ rfl
    have z3 := A1.free 3 _ rfl
    have z4 := A1.free 4 _ rfl
    clear A1
    clear q0 q1 q2 q3 q4
    clear z2 z3 z4
    go_wp2_with fail
    refine (RD.out _ B1).mono ?_
    rintro r w2 ⟨p, rfl, hp, b2⟩
    have A2 := HA1.out.on b2
    have B2 := btr B1 b2
    have HP := Lib.hid hp
    have q0 := A2.cell 0 _ rfl
    have q1 := A2.cell 1 _ rfl
    have q2 := A2.cell 2 _ rfl
    have q3 := A2.cell 3 _ rfl
    have q4 := A2.cell 4 _ rfl
    have z0 := A2.free 0 _ rfl
    have z1 := A2.free 1 _ rfl
    have z2 := A2.free 2 _ rfl
    have z3 := A2.free 3 _ rfl
    have z4 := A2.free 4 _ rfl
    clear A2 B1 b2 RD HA1 hp
    go_wp2_with fail
    refine bodyPost_ret (v := .tuple #[P5 p, .bool ok]) (by simp [results, Tryz.results160, go_sem, q0, q1, q2, q3, q4]) rfl ⟨p, rfl, HP.out, ?_⟩
    exact (by (iterate 5 (refine bset ?_ (by dsimp only; omega) _)); exact B2)
  · have er := recOk_sum hz2 ht
    have HP : PinRead9 zs w = fun e w' => ∃ p : PinD, e = .returned (.tuple #[P5 p, .bool false]) ∧ Below w.heap.size w w' := by
      funext e w'
      simp [PinRead9, er]
    rw [HP]
    rw [etail] at ht
    have hq : (256 * zs.getD m 0 + zs.getD (m + 1) 0 != M.sumL (body zs)) = true := by simpa using ht
    have hq2 : decide (256 * zs.getD m 0 + zs.getD (m + 1) 0 = M.sumL (body zs)) = false := by simpa using ht
    generalize zs.getD m 0 = y0 at *
    generalize zs.getD (m + 1) 0 = y1 at *
    generalize M.sumL (body zs) = sm at *
    generalize body zs = bz at *
    clear hR hc b0 A0 er ht ebody etail RB HP
    go_enter Tryz.func160, Tryz.ntmps160
    go_wp2_with fail
    generalize w.alloc (.cells #[.string { data := #[] }, .int .i64 0, .int .i64 0, .int .i64 0, .int .i64 0] 31) = W0 at *
    refine wp_region_line (Bel W0) [(0, true), (1, true), (2, true), (3, true), (4, true), (6, true), (7, true), (8, true), (5, false), (9, false), (10, true), (11, true)] (by kernel_rfl) (by kernel_rfl) (fun _ _ d _ _ h => by cases d <;> exact h) (Bel.drew W0) ?_
    have hst := Bel.drew W0
    have inst : Nonempty (Of (Bel W0)) := ⟨⟨_, hst⟩⟩
    generalize W0.drew = V1 at *
    iterate 8 (refine line_read rfl (by kernel_rfl) (fun K hK => ?_); go_big_quiet_op; refine hK _ ?_; clear hK K)
    refine line_alone rfl (by kernel_rfl) (fun K hK => ?_)
    refine call_wp (args := #[.slice (some ⟨b, off, none⟩) (m + 2) cap, .int .i64 m]) rfl (by kernel_rfl) (by kernel_rfl) (T0.out _ (cell_keep hst.out HD0.out) (cell_keep hst.out HD1.out)) (fun wn hbn => ?_)
    have hst2 := hst.on hbn
    refine hK _ _ hst2 ?_
    clear hK K hst hbn
    have hst := hst2
    clear hst2
    simp only [Act.put, List.setIfInBounds_toArray, List.set_cons_zero, List.set_cons_succ]
    refine line_alone rfl (by kernel_rfl) (fun K hK => ?_)
    refine call_wp (args := #[.slice (some ⟨b, off, none⟩) m cap]) rfl (by kernel_rfl) (by kernel_rfl) (SB.out _ (btr HB0.out hst.out)) (fun wn hbn => ?_)
    subst hbn
    refine hK _ _ hst ?_
    clear hK K
    simp only [Act.put, List.setIfInBounds_toArray, List.set_cons_zero, List.set_cons_succ]
    iterate 2 (refine line_read rfl (by kernel_rfl) (fun K hK => ?_); go_big_quiet_op; refine hK _ ?_; clear hK K)
    refine line_nil ?_
    have A1 := (HA0.out.on hst.out)
    have HA1 := Lib.hid A1
    have B1 := btr HB0.out hst.out
    clear hst inst HA0 HB0 HD0 HD1 T0 SB
    have q0 := A1.cell 0 _ rfl
    have q1 := A1.cell 1 _ rfl
    have q2 := A1.cell 2 _ rfl
    have q3 := A1.cell 3 _ rfl
    have q4 := A1.cell 4 _ rfl
    have z0 := A1.free 0 _ rfl
    have z1 := A1.free 1 _ rfl
    have z2 := A1.free 2 _ rfl
    have z3 := A1.free 3 _ rfl
    have z4 := A1.free 4 _ rfl
    clear A1 RD HA1
    go_wp2_with fail
    refine bodyPost_ret (v := .tuple #[P5 ⟨{ data := #[] }, 0, 0, 0, 0⟩, .bool false]) (by simp [results, Tryz.results160, go_sem, q0, q1, q2, q3, q4]) rfl ⟨pin0, rfl, ?_⟩
    exact (by (iterate 5 (refine bset ?_ (by dsimp only; omega) _)); exact B1)
end Go.Proofs.YtcolecidbalmhaaGreatDoor
namespace Go.Proofs.YtcolecidbalmhaaGreatDoor
open Go.RowKit
set_option maxRecDepth 100000
set_option linter.unusedVariables false

/-- Below W, and two blocks hold their cells. -/
structure Hold2 (W : World) (g1 : Nat) (c1 : List Value) (g2 : Nat) (c2 : List Value) (cur : World) : Prop where
  bel : Below W.heap.size W cur
  a1 : At g1 c1 cur
  a2 : At g2 c2 cur
section
variable {W cur cur' : World} {g1 g2 : Nat} {c1 c2 : List Value}
theorem Hold2.on (h : Hold2 W g1 c1 g2 c2 cur) (hb : Below cur.heap.size cur cur') : Hold2 W g1 c1 g2 c2 cur' := ⟨btr h.bel hb, h.a1.on hb, h.a2.on hb⟩
theorem Hold2.setB (h : Hold2 W g1 c1 g2 c2 cur) {p : Addr} (hW : W.heap.size ≤ p.block) (h1 : g1 ≠ p.block) (h2 : g2 ≠ p.block) (u : Value) : Hold2 W g1 c1 g2 c2 (cur.setCell p u) := ⟨bset h.bel hW u, h.a1.setB h1 u, h.a2.setB h2 u⟩
theorem Hold2.q1 (i : Nat) (v : Value) (h : c1[i]? = some v) : ∀ z : Of (Hold2 W g1 c1 g2 c2), z.val.cell? ⟨g1, i, none⟩ = some v := fun z => z.prop.a1.cell i v h
theorem Hold2.q2 (i : Nat) (v : Value) (h : c2[i]? = some v) : ∀ z : Of (Hold2 W g1 c1 g2 c2), z.val.cell? ⟨g2, i, none⟩ = some v := fun z => z.prop.a2.cell i v h
end
/-- The cells of a store's result that is not yet told. -/
def zero9 : List Value := [.int .i64 0, .slice none 0 0, .slice none 0 0, .int .i64 0]
theorem right_names {ps : List PinD} (h : pinsF ps = 0) : ∀ p ∈ ps, p.n.size ≤ maxLen := fun p hp => by
  have := (pin_bounds ((pinsF_zero h).2.1 p hp)).1
  simp only [maxLen]
  omega
/-- A journal that is being read. -/
structure OpenSt (w : World) (t : Nat) (dv : List Value) (v : Value) (ps : List PinD) (rs : List (List Int)) (T : Int × List PinD) (wr : World) : Prop where
  D : At w.heap.size dv wr
  R : At (w.heap.size + 1) zero9 wr
  C : At t [.int .i64 0, v] wr
  O : OwnP wr (t + 1) v ps
  B : Below w.heap.size w wr
  lo : w.heap.size + 2 ≤ t
  hs : t + 1 ≤ wr.heap.size
  ok : pinsF ps = 0
  left : openG ps rs = T
theorem OpenSt.on {w wr w1 : World} {t : Nat} {dv : List Value} {v : Value} {ps : List PinD} {rs : List (List Int)} {T : Int × List PinD} (h : OpenSt w t dv v ps rs T wr) (hb : Below wr.heap.size wr w1) : OpenSt w t dv v ps rs T w1 :=
  ⟨h.D.on hb, h.R.on hb, h.C.on hb, h.O.below hb, btr h.B hb, h.lo, Nat.le_trans h.hs hb.size, h.ok, h.left⟩
set_option maxHeartbeats 4000000 in
theorem implOpenDisk_any (a : Option Addr) (n c B : Nat) (rs : List (List Int)) (s : Int) (w : World) (hG : Grid w B a n c rs) (hB : B ≤ w.heap.size) (hw : ∀ zs ∈ rs, ∀ z ∈ zs, (Lit.int .u8 z).wf = true) :
    Calls Tryz.prog 23 #[.agg #[.slice a n c, .int .i64 s]] w (StoreRes (openC ⟨rs, s⟩) (openS ⟨rs, s⟩) w) := by
  have b0 := bal (bal (Below.refl _ w) (.cells #[.slice a n c, .int .i64 s] 27)) (.cells #[.int .i64 0, .slice none 0 0, .slice none 0 0, .int .i64 0] 35)
  have A0 : At w.heap.size [.slice a n c, .int .i64 s] ((w.alloc (.cells #[.slice a n c, .int .i64 s] 27)).alloc (.cells #[.int .i64 0, .slice none 0 0, .slice none 0 0, .int .i64 0] 35)) := (At.new w [.slice a n c, .int .i64 s] 27).alloc _
  have R0 := At.new (w.alloc (.cells #[.slice a n c, .int .i64 s] 27)) zero9 35
  have sz0 : ((w.alloc (.cells #[.slice a n c, .int .i64 s] 27)).alloc (.cells #[.int .i64 0, .slice none 0 0, .slice none 0 0, .int .i64 0] 35)).heap.size = w.heap.size + 2 := by simp
  rw [World.size_alloc] at R0
  have F := fun w' (h : Below w.heap.size w w') => implDiskFault_any a n c B rs s w' (hG.below (h.mono hB)) (Nat.le_trans hB h.size)
  have HL := Lib.hid hG.length
  have hlen := hG.fits
  have hmost := hG.most
  unfold maxLen at hmost
  have HW := Lib.hid hw
  have HG := Lib.hid (fun (w' : World) (h : Below w.heap.size w w') => hG.below (h.mono hB))
  clear hw hG
  have HA0 := Lib.hid A0
  have HR0 := Lib.hid (show At (w.heap.size + 1) zero9 ((w.alloc (.cells #[.slice a n c, .int .i64 s] 27)).alloc (.cells #[.int .i64 0, .slice none 0 0, .slice none 0 0, .int .i64 0] 35)) from R0)
  have HB0 := Lib.hid b0
  have HZ0 := Lib.hid sz0
  clear A0 R0 b0 sz0
  by_cases h0 : diskF ⟨rs, s⟩ = 0
  case neg =>
    have e1 := openC_bad h0
    have e2 := openS_no (d := ⟨rs, s⟩) (by rw [e1]; exact h0)
    rw [e1, e2]
    generalize diskF ⟨rs, s⟩ = cd at *
    have q0 : (cd != 0) = true := by simpa using h0
    clear e1 e2 HW HG
    have F0 := F _ HB0.out
    clear F
    have d0 := HA0.out.cell 0 _ rfl
    have d1 := HA0.out.cell 1 _ rfl
    go_enter Tryz.func23, Tryz.ntmps23
    go_wp2_with fail
    generalize (w.alloc (.cells #[.slice a n c, .int .i64 s] 27)).alloc (.cells #[.int .i64 0, .slice none 0 0, .slice none 0 0, .int .i64 0] 35) = W0 at *
    refine F0.mono ?_
    rintro r u1 ⟨rfl, b1⟩
    have B1 := btr HB0.out b1
    have R1 := HR0.out.on b1
    have S1 : w.heap.size ≤ u1.heap.size := B1.size
    clear q0
    have q9 : (cd != 0) = true := by simpa using h0
    unfold zero9 at R1
    have q0 := R1.cell 0 _ rfl
    have q1 := R1.cell 1 _ rfl
    have q2 := R1.cell 2 _ rfl
    have q3 := R1.cell 3 _ rfl
    have f0 := R1.free 0 _ rfl
    have f1 := R1.free 1 _ rfl
    have f2 := R1.free 2 _ rfl
    have f3 := R1.free 3 _ rfl
    clear d0 d1 HA0 HR0 HB0 HZ0 b1 R1 F0
    go_wp2_with fail
    refine bodyPost_ret (v := V4 cd none 0 0 none 0 0 0) (by simp [results, Tryz.results23, go_sem, V4, q0, q1, q2, q3]) rfl ⟨none, 0, 0, none, 0, 0, rfl, SOwn.nil _ _ ?_, ?_⟩
    · exact Nat.le_trans (B1).size (by simp [World.setCell])
    · exact (by (iterate 4 (refine bset ?_ (by dsimp only; omega) _)); exact B1)
  have ho := openC_ok (d := ⟨rs, s⟩) h0
  have hs1' := fun h => openS_yes (d := ⟨rs, s⟩) h
  have hs0' := fun h => openS_no (d := ⟨rs, s⟩) h
  obtain ⟨h12, hlong, hs0, hs1⟩ := diskF_zero h0
  have hn12 : n ≤ 12 := by rw [← HL.out]; exact h12
  have F0 := F _ HB0.out
  rw [h0] at F0
  have hbu : Tryz.prog.built 120 [] = some #[.int .i64 0, .slice none 0 0] := by kernel_rfl
  have JO := Lib.hid (fun (w' : World) (h : Below w.heap.size w w') => journalOf_any a n c B rs s w' (HG.out w' h) (Nat.le_trans hB h.size) h12 hlong)
  have dk := fun (w' : World) => disk_any rs rs.length s w' (Nat.le_refl _) h12 hlong HW.out
  simp only [← jall_def, List.take_length] at dk
  have DK := Lib.hid dk
  clear dk
  have H40 := Lib.hid (fun (k : Nat) (hk : k < rs.length) => long_no hlong hk)
  clear F hlong h12 hs0 hs1
  generalize openC ⟨rs, s⟩ = C at *
  generalize openS ⟨rs, s⟩ = S at *
  generalize hT : openG [] rs = T at *
  have HT := Lib.hid hT
  have HO := Lib.hid ho
  have HS1 := Lib.hid hs1'
  have HS0 := Lib.hid hs0'
  clear hT ho hs1' hs0'
  have d0 := HA0.out.cell 0 _ rfl
  have d1 := HA0.out.cell 1 _ rfl
  go_enter Tryz.func23, Tryz.ntmps23
  go_wp2_with fail
  generalize (w.alloc (.cells #[.slice a n c, .int .i64 s] 27)).alloc (.cells #[.int .i64 0, .slice none 0 0, .slice none 0 0, .int .i64 0] 35) = W0 at *
  refine F0.mono ?_
  rintro r u1 ⟨rfl, b1⟩
  have S0 : OpenSt w u1.heap.size [.slice a n c, .int .i64 s] (.slice none 0 0) [] rs T (u1.alloc (.cells #[.int .i64 0, .slice none 0 0] 120)) := by
    have hz := HZ0.out
    have b2 := btr b1 (bal (Below.refl _ u1) (.cells #[.int .i64 0, .slice none 0 0] 120))
    have hsz := b1.size
    exact ⟨HA0.out.on b2, HR0.out.on b2, At.new u1 [.int .i64 0, .slice none 0 0] 120, OwnP.nil _ _, btr HB0.out b2, by omega, by simp, rfl, HT.out⟩
  have HS := Lib.hid S0
  have sd0 := S0.D.cell 0 _ rfl
  have sd1 := S0.D.cell 1 _ rfl
  clear HA0 HR0 HB0 HZ0 b1 F0 d0 d1 S0
  go_upto_region 6 with fail
  generalize u1.alloc (.cells #[.int .i64 0, .slice none 0 0] 120) = W1 at *
  generalize u1.heap.size = t at *
  go_loopw [18] (fun i wr => ∃ (k : Nat) (v : Value) (ps : List PinD), k ≤ n ∧ i = .int .i64 k ∧ OpenSt w t [.slice a n c, .int .i64 s] v ps (rs.drop k) T wr) (fun i _ => n - (intOf i).toNat)
  case atStart => exact ⟨0, _, _, Nat.zero_le _, rfl, by rw [List.drop_zero]; exact HS.out⟩
  case round =>
    obtain ⟨k, v, ps, hk, rfl, hT⟩ := hrel
    clear HS sd0 sd1 hbu
    by_cases hlt : k < n
    · obtain ⟨b, off, ha, hb, hc⟩ := (HG.out wr hT.B).cells (by omega)
      obtain ⟨a', n', c', hcell, hrow⟩ := hc k hlt
      have hl2 : k < rs.length := by rw [HL.out]; exact hlt
      have hleft := hT.left
      rw [openG_drop hl2] at hleft
      have R9 := implReadRecord9_any a' n' c' B (rs[k]?.getD []) wr hrow (Nat.le_trans hB hT.B.size)
      clear hc hrow
      subst ha
      generalize rs[k]?.getD [] = zs at *
      cases hrec : recOk zs
      · rw [openG_no hrec] at hleft
        have e1 : C = 5 := by rw [HO.out, ← hleft]
        have e2 := HS0.out (by rw [e1]; omega)
        subst e1; subst e2
        rw [show rdC zs = 5 by simp [rdC, hrec]] at R9
        generalize rdP zs = pz at *
        have HT := Lib.hid hT
        clear hT hleft hrec HG HO HS0 HS1 JO DK H40 HW
        go_wp2_with fail
        refine R9.mono ?_
        rintro r u2 ⟨rfl, b2⟩
        have b3 := btr b2 (bal (Below.refl _ u2) (.cells #[.int .i64 5, .string pz.n, .int .i64 pz.a, .int .i64 pz.b, .int .i64 pz.e, .int .i64 pz.u] 48))
        have T3 := HT.out.on b3
        have B3 := T3.B
        have R3 := T3.R
        have S3 : w.heap.size ≤ (u2.alloc (.cells #[.int .i64 5, .string pz.n, .int .i64 pz.a, .int .i64 pz.b, .int .i64 pz.e, .int .i64 pz.u] 48)).heap.size := B3.size
        have P3 : At u2.heap.size (RPL6 5 pz) (u2.alloc (.cells #[.int .i64 5, .string pz.n, .int .i64 pz.a, .int .i64 pz.b, .int .i64 pz.e, .int .i64 pz.u] 48)) := At.new u2 (RPL6 5 pz) 48
        have p0 := P3.cell 0 _ rfl
        unfold zero9 at R3
        have q0 := R3.cell 0 _ rfl
        have q1 := R3.cell 1 _ rfl
        have q2 := R3.cell 2 _ rfl
        have q3 := R3.cell 3 _ rfl
        have f0 := R3.free 0 _ rfl
        have f1 := R3.free 1 _ rfl
        have f2 := R3.free 2 _ rfl
        have f3 := R3.free 3 _ rfl
        clear T3 b3 b2 R3 P3 hcell
        go_wp2_with fail
        refine bodyPost_ret (v := V4 5 none 0 0 none 0 0 0) (by simp [results, Tryz.results23, go_sem, V4, q0, q1, q2, q3]) rfl ⟨none, 0, 0, none, 0, 0, rfl, SOwn.nil _ _ ?_, ?_⟩
        · exact Nat.le_trans (B3).size (by simp [World.setCell])
        · exact (by (iterate 4 (refine bset ?_ (by dsimp only; omega) _)); exact B3)
      · obtain ⟨hpf, _, _, _⟩ := recOk_pin hrec
        rw [show rdC zs = 0 by simp [rdC, hrec], show rdP zs = pinZ (body zs) by simp [rdP, hrec]] at R9
        have hpn : (pinZ (body zs)).n.size ≤ maxLen := by have := (pin_bounds hpf).1; simp only [maxLen]; omega
        obtain ⟨hpc, hpr⟩ := put0_code hT.ok hpf
        have PP := Lib.hid (fun (a1 : Option Addr) (n1 c1 : Nat) (w' : World) (h : PRow w' w'.heap.size a1 n1 c1 ps) => implPutPin_any a1 n1 c1 w'.heap.size ps (pinZ (body zs)) w' h (Nat.le_refl _) hpn)
        rw [hpc, hpr] at PP
        obtain ⟨a1, n1, c1, hv⟩ : ∃ a n c, v = .slice a n c := by obtain ⟨a, c, e, -⟩ := Own.form hT.O; exact ⟨_, _, _, e⟩
        subst hv
        by_cases hput : put0 ps (pinZ (body zs)) = 0
        · rw [openG_put hrec hput] at hleft
          have hok2 := put_right hT.ok hpf hput
          rw [show put1 ps (pinZ (body zs)) = putL ps (pinZ (body zs)) by unfold put1; rw [if_pos hput], hput] at PP
          have HLF := Lib.hid hleft
          have HOK := Lib.hid hok2
          have HNM := Lib.hid (right_names hT.ok)
          generalize putL ps (pinZ (body zs)) = qs at *
          generalize pinZ (body zs) = pz at *
          have HT := Lib.hid hT
          clear hT hleft hok2 hpc hpr hput hrec
          go_wp2_with fail
          refine R9.mono ?_
          rintro r u2 ⟨rfl, b2⟩
          have b3 := btr b2 (bal (Below.refl _ u2) (.cells #[.int .i64 0, .string pz.n, .int .i64 pz.a, .int .i64 pz.b, .int .i64 pz.e, .int .i64 pz.u] 48))
          have T3 := HT.out.on b3
          have P3 : At u2.heap.size (RPL6 0 pz) (u2.alloc (.cells #[.int .i64 0, .string pz.n, .int .i64 pz.a, .int .i64 pz.b, .int .i64 pz.e, .int .i64 pz.u] 48)) := At.new u2 (RPL6 0 pz) 48
          have p0 := P3.cell 0 _ rfl
          have p1 := P3.cell 1 _ rfl
          have p2 := P3.cell 2 _ rfl
          have p3 := P3.cell 3 _ rfl
          have p4 := P3.cell 4 _ rfl
          have p5 := P3.cell 5 _ rfl
          have x0 := T3.C.cell 0 _ rfl
          have x1 := T3.C.cell 1 _ rfl
          have HT3 := Lib.hid T3
          clear HT b3 b2 T3 P3 hcell R9
          go_wp2_with fail
          generalize u2.alloc (.cells #[.int .i64 0, .string pz.n, .int .i64 pz.a, .int .i64 pz.b, .int .i64 pz.e, .int .i64 pz.u] 48) = W3 at *
          generalize u2.heap.size = pb at *
          refine (PP.out _ _ _ _ (OwnP.row HT3.out.O HNM.out)).mono ?_
          rintro r u4 ⟨a4, n4, c4, rfl, O4, b4⟩
          clear p0 p1 p2 p3 p4 p5 x0 x1
          have T4 := HT3.out.on b4
          have x0 := T4.C.cell 0 _ rfl
          have x1 := T4.C.cell 1 _ rfl
          have y0 := T4.C.free 0 _ rfl
          have y1 := T4.C.free 1 _ rfl
          have htl := HT3.out.lo
          have hO := (OwnP.less O4 (show t + 1 ≤ W3.heap.size from HT3.out.hs))
          have S5 : OpenSt w t [.slice (some ⟨b, off, none⟩) n c, .int .i64 s] (.slice a4 n4 c4) qs (rs.drop (k + 1)) T ((u4.setCell ⟨t, 0, none⟩ (.int .i64 0)).setCell ⟨t, 1, none⟩ (.slice a4 n4 c4)) :=
            ⟨(T4.D.setB (p := ⟨t, 0, none⟩) (by show w.heap.size ≠ t; omega) _).setB (p := ⟨t, 1, none⟩) (by show w.heap.size ≠ t; omega) _,
             (T4.R.setB (p := ⟨t, 0, none⟩) (by show w.heap.size + 1 ≠ t; omega) _).setB (p := ⟨t, 1, none⟩) (by show w.heap.size + 1 ≠ t; omega) _,
             by simpa using (T4.C.set 0 (.int .i64 0)).set 1 (.slice a4 n4 c4),
             Own.setCell (Own.setCell hO (fun g hg e => by have := (Own.lt hO g hg).1; dsimp only at e; omega) _) (fun g hg e => by have := (Own.lt hO g hg).1; dsimp only at e; omega) _,
             (by (iterate 2 (refine bset ?_ (by dsimp only; omega) _)); exact T4.B), htl, by have := T4.hs; simpa [World.setCell] using this, HOK.out, HLF.out⟩
          have HS5 := Lib.hid S5
          clear T4 O4 b4 hO S5 HT3 PP
          go_wp2_with fail
          go_roundw
          case rel => exact ⟨k + 1, _, _, by omega, by go_num, HS5.out⟩
          case measure => simp [intOf]; omega
        · rw [openG_bad hrec hput] at hleft
          have e1 : C = put0 ps (pinZ (body zs)) := by rw [HO.out, ← hleft]
          have e2 := HS0.out (by rw [e1]; exact hput)
          subst e2
          have HNM := Lib.hid (right_names hT.ok)
          generalize put0 ps (pinZ (body zs)) = cd at *
          subst e1
          generalize put1 ps (pinZ (body zs)) = qs at *
          generalize pinZ (body zs) = pz at *
          have hcd : (C != 0) = true := by simpa using hput
          have hcd2 : decide (C = 0) = false := by simpa using hput
          have HT := Lib.hid hT
          clear hT hleft hpc hpr hrec HO HS0 HS1
          go_wp2_with fail
          refine R9.mono ?_
          rintro r u2 ⟨rfl, b2⟩
          have b3 := btr b2 (bal (Below.refl _ u2) (.cells #[.int .i64 0, .string pz.n, .int .i64 pz.a, .int .i64 pz.b, .int .i64 pz.e, .int .i64 pz.u] 48))
          have T3 := HT.out.on b3
          have P3 : At u2.heap.size (RPL6 0 pz) (u2.alloc (.cells #[.int .i64 0, .string pz.n, .int .i64 pz.a, .int .i64 pz.b, .int .i64 pz.e, .int .i64 pz.u] 48)) := At.new u2 (RPL6 0 pz) 48
          have p0 := P3.cell 0 _ rfl
          have p1 := P3.cell 1 _ rfl
          have p2 := P3.cell 2 _ rfl
          have p3 := P3.cell 3 _ rfl
          have p4 := P3.cell 4 _ rfl
          have p5 := P3.cell 5 _ rfl
          have x0 := T3.C.cell 0 _ rfl
          have x1 := T3.C.cell 1 _ rfl
          have HT3 := Lib.hid T3
          clear HT b3 b2 T3 P3 hcell R9
          go_wp2_with fail
          generalize u2.alloc (.cells #[.int .i64 0, .string pz.n, .int .i64 pz.a, .int .i64 pz.b, .int .i64 pz.e, .int .i64 pz.u] 48) = W3 at *
          generalize u2.heap.size = pb at *
          refine (PP.out _ _ _ _ (OwnP.row HT3.out.O HNM.out)).mono ?_
          rintro r u4 ⟨a4, n4, c4, rfl, O4, b4⟩
          clear p0 p1 p2 p3 p4 p5 x0 x1
          have T4 := HT3.out.on b4
          have x0 := T4.C.cell 0 _ rfl
          have x1 := T4.C.cell 1 _ rfl
          have y0 := T4.C.free 0 _ rfl
          have y1 := T4.C.free 1 _ rfl
          have R5 := (T4.R.setB (p := ⟨t, 0, none⟩) (by show w.heap.size + 1 ≠ t; have := HT3.out.lo; omega) (.int .i64 C)).setB (p := ⟨t, 1, none⟩) (by show w.heap.size + 1 ≠ t; have := HT3.out.lo; omega) (.slice a4 n4 c4)
          have B5 : Below w.heap.size w ((u4.setCell ⟨t, 0, none⟩ (.int .i64 C)).setCell ⟨t, 1, none⟩ (.slice a4 n4 c4)) := by
            have := HT3.out.lo
            exact (by (iterate 2 (refine bset ?_ (by dsimp only; omega) _)); exact T4.B)
          unfold zero9 at R5
          have q0 := R5.cell 0 _ rfl
          have q1 := R5.cell 1 _ rfl
          have q2 := R5.cell 2 _ rfl
          have q3 := R5.cell 3 _ rfl
          have f0 := R5.free 0 _ rfl
          have f1 := R5.free 1 _ rfl
          have f2 := R5.free 2 _ rfl
          have f3 := R5.free 3 _ rfl
          clear T4 O4 b4 R5 PP HT3
          go_wp2_with fail
          refine bodyPost_ret (v := V4 C none 0 0 none 0 0 0) (by simp [results, Tryz.results23, go_sem, V4, q0, q1, q2, q3]) rfl ⟨none, 0, 0, none, 0, 0, rfl, SOwn.nil _ _ ?_, ?_⟩
          · exact Nat.le_trans (B5).size (by simp [World.setCell])
          · exact (by (iterate 4 (refine bset ?_ (by dsimp only; omega) _)); exact B5)
    · obtain rfl : k = n := by omega
      have hleft := hT.left
      rw [List.drop_of_length_le (by rw [HL.out]; omega), openG_nil] at hleft
      have e1 : C = 0 := by rw [HO.out, ← hleft]
      have e2 := HS1.out e1
      rw [← hleft] at e2
      subst e1
      subst e2
      obtain ⟨a1, n1, c1, hv⟩ : ∃ a n c, v = .slice a n c := by obtain ⟨a, c, e, -⟩ := Own.form hT.O; exact ⟨_, _, _, e⟩
      subst hv
      have HNM := Lib.hid (right_names hT.ok)
      have HT1 := Lib.hid (hT.on (bdrew wr))
      have HTD := Lib.hid (show Hold2 w w.heap.size [.slice a k c, .int .i64 s] t [.int .i64 0, .slice a1 n1 c1] wr.drew from ⟨(hT.on (bdrew wr)).B, (hT.on (bdrew wr)).D, (hT.on (bdrew wr)).C⟩)
      clear hT hleft HO HS1 HS0
      go_wp2_with fail
      refine wp_region_line (Hold2 w w.heap.size [.slice a k c, .int .i64 s] t [.int .i64 0, .slice a1 n1 c1]) [(0, true), (1, true), (2, true), (3, false), (4, false), (5, true), (6, true), (7, false)] (by kernel_rfl) (by kernel_rfl) (fun _ _ d _ _ h => by cases d <;> exact h) HTD.out ?_
      have hst := HTD.out
      have inst : Nonempty (Of (Hold2 w w.heap.size [.slice a k c, .int .i64 s] t [.int .i64 0, .slice a1 n1 c1])) := ⟨⟨_, hst⟩⟩
      have x1 := Hold2.q2 (W := w) (g1 := w.heap.size) (c1 := [.slice a k c, .int .i64 s]) (g2 := t) (c2 := [.int .i64 0, .slice a1 n1 c1]) 1 _ rfl
      have y0 := Hold2.q1 (W := w) (g1 := w.heap.size) (c1 := [.slice a k c, .int .i64 s]) (g2 := t) (c2 := [.int .i64 0, .slice a1 n1 c1]) 0 _ rfl
      have y1 := Hold2.q1 (W := w) (g1 := w.heap.size) (c1 := [.slice a k c, .int .i64 s]) (g2 := t) (c2 := [.int .i64 0, .slice a1 n1 c1]) 1 _ rfl
      clear HTD
      generalize wr.drew = V1 at *
      iterate 3 (refine line_read rfl (by kernel_rfl) (fun K hK => ?_); go_big_quiet_op; refine hK _ ?_; clear hK K)
      refine line_alone rfl (by kernel_rfl) (fun K hK => ?_)
      refine call_wp (args := #[.agg #[.slice a k c, .int .i64 s]]) rfl (by kernel_rfl) (by kernel_rfl) (JO.out _ hst.bel) (fun x3 b3 => ?_)
      have hst2 := hst.on b3
      have T3 := Lib.hid (HT1.out.on b3)
      refine hK _ _ hst2 ?_
      clear hK K hst b3 HT1
      have hst := hst2
      clear hst2
      simp only [Act.put, List.setIfInBounds_toArray, List.set_cons_zero, List.set_cons_succ]
      refine line_alone rfl (by kernel_rfl) (fun K hK => ?_)
      refine call_any (args := #[.agg (jall rs s).toArray]) rfl (by kernel_rfl) (by kernel_rfl) (DK.out _) ?_
      rintro e x4 ⟨a2, n2, c2, xs, rfl, G4, b4⟩
      have hst2 := hst.on b4
      have R4 := T3.out.R.on b4
      have lo4 := T3.out.lo
      have SO : SOwn x4 (t + 1) x4.heap.size (.slice a1 n1 c1) (.slice a2 n2 c2) ⟨ps, ⟨rs, s⟩⟩ :=
        SOwn.mk' (W := w) (mid := x3.heap.size) (T3.out.O.below b4) T3.out.hs (fun g hg => (Own.lt T3.out.O g hg).2) G4 b4.size HNM.out HW.out
      have HSO := Lib.hid SO
      refine ⟨_, rfl, hK _ _ hst2 ?_⟩
      clear hK K hst b4 G4 SO T3
      have hst := hst2
      clear hst2
      simp only [Act.put, List.setIfInBounds_toArray, List.set_cons_zero, List.set_cons_succ]
      refine line_readv (v := .agg #[.slice a1 n1 c1, .slice a2 n2 c2, .int .i64 s]) rfl (by kernel_rfl) (fun _ => by kernel_rfl) ?_
      simp only [Act.put, List.setIfInBounds_toArray, List.set_cons_zero, List.set_cons_succ]
      refine line_readv (v := .agg #[.int .i64 0, .slice a1 n1 c1, .slice a2 n2 c2, .int .i64 s]) rfl (by kernel_rfl) (fun _ => by kernel_rfl) ?_
      simp only [Act.put, List.setIfInBounds_toArray, List.set_cons_zero, List.set_cons_succ]
      unfold zero9 at R4
      have q0 := R4.cell 0 _ rfl
      have q1 := R4.cell 1 _ rfl
      have q2 := R4.cell 2 _ rfl
      have q3 := R4.cell 3 _ rfl
      have f0 := R4.free 0 _ rfl
      have f1 := R4.free 1 _ rfl
      have f2 := R4.free 2 _ rfl
      have f3 := R4.free 3 _ rfl
      refine line_alone rfl (by kernel_rfl) (fun K hK => ?_)
      go_big_op
      refine hK _ _ ((by (iterate 4 (refine Hold2.setB ?_ (by dsimp only; omega) (by dsimp only; omega) (by dsimp only; omega) _)); exact hst)) ?_
      clear hK K
      refine line_nil ?_
      have hS := (((HSO.out.setCell (p := ⟨w.heap.size + 1, 0, none⟩) (.inl (by show w.heap.size + 1 < t + 1; omega)) (.int .i64 0)).setCell (p := ⟨w.heap.size + 1, 1, none⟩) (.inl (by show w.heap.size + 1 < t + 1; omega)) (.slice a1 n1 c1)).setCell (p := ⟨w.heap.size + 1, 2, none⟩) (.inl (by show w.heap.size + 1 < t + 1; omega)) (.slice a2 n2 c2)).setCell (p := ⟨w.heap.size + 1, 3, none⟩) (.inl (by show w.heap.size + 1 < t + 1; omega)) (.int .i64 s)
      have hS2 := Lib.hid ((hS.less (show w.heap.size ≤ t + 1 by omega)).more hS.top.2 (Nat.le_refl _))
      have HB := Lib.hid hst.bel
      clear hst inst R4 hS HSO
      go_wp2_with fail
      refine bodyPost_ret (v := V4 0 a1 n1 c1 a2 n2 c2 s) (by simp [results, Tryz.results23, go_sem, V4, q0, q1, q2, q3]) rfl ⟨a1, n1, c1, a2, n2, c2, rfl, hS2.out, ?_⟩
      exact (by (iterate 4 (refine bset ?_ (by dsimp only; omega) _)); exact HB.out)
end Go.Proofs.YtcolecidbalmhaaGreatDoor
namespace Go.Proofs.YtcolecidbalmhaaGreatDoor
open Go.RowKit
set_option maxRecDepth 100000
set_option linter.unusedVariables false

/-- Pins of new memory and a code were answered. -/
def PinsTold (T : Int × List PinD) (w : World) (e : Ending) (w' : World) : Prop :=
  ∃ a n c, e = .returned (.tuple #[.slice a n c, .int .i64 T.1]) ∧ OwnP w' w.heap.size (.slice a n c) T.2 ∧ Below w.heap.size w w'
structure LSt (w : World) (v : Value) (ps : List PinD) (rs : List (List Int)) (T : Int × List PinD) (wr : World) : Prop where
  O : OwnP wr w.heap.size v ps
  B : Below w.heap.size w wr
  ok : pinsF ps = 0
  left : openG ps rs = T
set_option maxHeartbeats 2000000 in
theorem l9Pins_any (a : Option Addr) (n c B : Nat) (rs : List (List Int)) (w : World) (hG : Grid w B a n c rs) (hB : B ≤ w.heap.size) (h40 : rs.any longR = false) :
    Calls Tryz.prog 95 #[.slice a n c] w (PinsTold (openG [] rs) w) := by
  have HL := Lib.hid hG.length
  have hlen := hG.fits
  have hmost := hG.most
  unfold maxLen at hmost
  have HG := Lib.hid (fun (w' : World) (h : Below w.heap.size w w') => hG.below (h.mono hB))
  have H40 := Lib.hid (fun (k : Nat) (hk : k < rs.length) => long_no h40 hk)
  have S0 : LSt w (.slice (some ⟨w.heap.size, 0, none⟩) 0 0) [] rs (openG [] rs) (w.alloc (.cells #[] 31)) :=
    ⟨show Own _ _ 5 _ 0 [] from Own.made (size := 5) (B := w.heap.size) w #[] 31 0 (Nat.le_refl _) (Nat.zero_le _) (by simp), bal (Below.refl _ w) _, rfl, rfl⟩
  generalize openG [] rs = T at *
  clear hG h40
  have HS := Lib.hid S0
  clear S0
  go_enter Tryz.func95, Tryz.ntmps95
  go_wp2_with fail
  generalize w.alloc (.cells #[] 31) = W0 at *
  go_loopw [4, 5] (fun v i wr => ∃ (k : Nat) (ps : List PinD), k ≤ n ∧ i = .int .i64 k ∧ LSt w v ps (rs.drop k) T wr) (fun _ i _ => n - (intOf i).toNat)
  case atStart => exact ⟨0, _, Nat.zero_le _, rfl, by rw [List.drop_zero]; exact HS.out⟩
  case round =>
    obtain ⟨k, ps, hk, rfl, hT⟩ := hrel
    clear HS
    obtain ⟨a1, n1, c1, hv⟩ : ∃ a n c, u4 = .slice a n c := by obtain ⟨a, c, e, -⟩ := Own.form hT.O; exact ⟨_, _, _, e⟩
    subst hv
    by_cases hlt : k < n
    · obtain ⟨b, off, ha, hb, hc⟩ := (HG.out wr hT.B).cells (by omega)
      obtain ⟨a', n', c', hcell, hrow⟩ := hc k hlt
      have hl2 : k < rs.length := by rw [HL.out]; exact hlt
      have hleft := hT.left
      rw [openG_drop hl2] at hleft
      have R9 := l9Read_any a' n' c' B (rs[k]?.getD []) wr hrow (Nat.le_trans hB hT.B.size) (by rw [← hrow.length]; exact H40.out k hl2)
      unfold PinRead9 at R9
      clear hc hrow
      subst ha
      generalize rs[k]?.getD [] = zs at *
      cases hrec : recOk zs
      · rw [openG_no hrec] at hleft
        subst hleft
        rw [hrec] at R9
        have HT := Lib.hid hT
        clear hT hrec HG H40
        go_wp2_with fail
        refine R9.mono ?_
        rintro r u2 ⟨p, rfl, -, b2⟩
        have B3 := btr HT.out.B (btr b2 (bal (Below.refl _ u2) (.cells #[.string p.n, .int .i64 p.a, .int .i64 p.b, .int .i64 p.e, .int .i64 p.u] 31)))
        clear b2 HT hcell R9
        go_wp2_with fail
        exact bodyPost_ret (v := .tuple #[.slice none 0 0, .int .i64 5]) (by simp [results, Tryz.results95, go_sem]) rfl ⟨none, 0, 0, rfl, OwnP.nil _ _, B3⟩
      · obtain ⟨hpf, _, _, _⟩ := recOk_pin hrec
        rw [hrec] at R9
        have HNM := Lib.hid (right_names hT.ok)
        have h4 := (pinsF_zero hT.ok).1
        have hn1 : n1 = ps.length := (OwnP.row' hT.O HNM.out).2
        have PP := Lib.hid (fun (w' : World) (h : PRow w' w'.heap.size a1 n1 c1 ps) => l7Put_any a1 n1 c1 w'.heap.size ps (pinZ (body zs)) w' h (Nat.le_refl _) (by omega))
        clear h4 hn1
        by_cases hput : put0 ps (pinZ (body zs)) = 0
        · rw [openG_put hrec hput] at hleft
          have hok2 := put_right hT.ok hpf hput
          unfold Put0 at PP
          rw [show put1 ps (pinZ (body zs)) = putL ps (pinZ (body zs)) by unfold put1; rw [if_pos hput], hput] at PP
          have HLF := Lib.hid hleft
          have HOK := Lib.hid hok2
          generalize putL ps (pinZ (body zs)) = qs at *
          generalize pinZ (body zs) = pz at *
          have HT := Lib.hid hT
          clear hT hleft hok2 hput hrec
          go_wp2_with fail
          refine R9.mono ?_
          rintro r u2 ⟨p, rfl, hp, b2⟩
          obtain rfl := hp trivial
          have b3 := btr b2 (bal (Below.refl _ u2) (.cells #[.string p.n, .int .i64 p.a, .int .i64 p.b, .int .i64 p.e, .int .i64 p.u] 31))
          have P3 : At u2.heap.size p.vals (u2.alloc (.cells #[.string p.n, .int .i64 p.a, .int .i64 p.b, .int .i64 p.e, .int .i64 p.u] 31)) := At.new u2 p.vals 31
          have p0 := P3.cell 0 _ rfl
          have p1 := P3.cell 1 _ rfl
          have p2 := P3.cell 2 _ rfl
          have p3 := P3.cell 3 _ rfl
          have p4 := P3.cell 4 _ rfl
          have PR := Lib.hid (OwnP.row (HT.out.O.below b3) HNM.out)
          have HB3 := Lib.hid (btr HT.out.B b3)
          clear P3 b3 b2 hcell R9 HT hp
          go_wp2_with fail
          refine (PP.out _ PR.out).mono ?_
          rintro r u4' ⟨a4, n4, c4, rfl, O4, b4⟩
          have S5 := Lib.hid (LSt.mk (OwnP.less O4 HB3.out.size) (btr HB3.out b4) HOK.out HLF.out)
          clear O4 b4 PP PR p0 p1 p2 p3 p4
          go_wp2_with fail
          go_roundw
          case rel => exact ⟨k + 1, _, by omega, by go_num, S5.out⟩
          case measure => simp [intOf]; omega
        · rw [openG_bad hrec hput] at hleft
          subst hleft
          unfold Put0 at PP
          generalize put0 ps (pinZ (body zs)) = cd at *
          generalize put1 ps (pinZ (body zs)) = qs at *
          generalize pinZ (body zs) = pz at *
          have hcd : (cd != 0) = true := by simpa using hput
          have hcd2 : decide (cd = 0) = false := by simpa using hput
          have HT := Lib.hid hT
          clear hT hrec
          go_wp2_with fail
          refine R9.mono ?_
          rintro r u2 ⟨p, rfl, hp, b2⟩
          obtain rfl := hp trivial
          have b3 := btr b2 (bal (Below.refl _ u2) (.cells #[.string p.n, .int .i64 p.a, .int .i64 p.b, .int .i64 p.e, .int .i64 p.u] 31))
          have P3 : At u2.heap.size p.vals (u2.alloc (.cells #[.string p.n, .int .i64 p.a, .int .i64 p.b, .int .i64 p.e, .int .i64 p.u] 31)) := At.new u2 p.vals 31
          have p0 := P3.cell 0 _ rfl
          have p1 := P3.cell 1 _ rfl
          have p2 := P3.cell 2 _ rfl
          have p3 := P3.cell 3 _ rfl
          have p4 := P3.cell 4 _ rfl
          have PR := Lib.hid (OwnP.row (HT.out.O.below b3) HNM.out)
          have HB3 := Lib.hid (btr HT.out.B b3)
          clear P3 b3 b2 hcell R9 HT hp
          go_wp2_with fail
          refine (PP.out _ PR.out).mono ?_
          rintro r u4' ⟨a4, n4, c4, rfl, O4, b4⟩
          have B5 := Lib.hid (btr HB3.out b4)
          clear O4 b4 PP PR p0 p1 p2 p3 p4
          go_wp2_with fail
          exact bodyPost_ret (v := .tuple #[.slice none 0 0, .int .i64 cd]) (by simp [results, Tryz.results95, go_sem]) rfl ⟨none, 0, 0, rfl, OwnP.nil _ _, B5.out⟩
    · obtain rfl : k = n := by omega
      have hleft := hT.left
      rw [List.drop_of_length_le (by rw [HL.out]; omega), openG_nil] at hleft
      subst hleft
      have HT := Lib.hid (And.intro hT.O hT.B)
      clear hT HG H40
      go_wp2_with fail
      exact bodyPost_ret (v := .tuple #[.slice a1 n1 c1, .int .i64 0]) (by simp [results, Tryz.results95, go_sem]) rfl ⟨_, _, _, rfl, HT.out.1, HT.out.2⟩
end Go.Proofs.YtcolecidbalmhaaGreatDoor
