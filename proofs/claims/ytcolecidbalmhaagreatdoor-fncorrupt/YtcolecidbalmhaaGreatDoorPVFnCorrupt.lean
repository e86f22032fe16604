/- A byte that was turned anywhere in the journal is told, and never is a first use, at every input that is drawn out of whatever bytes. The walk: the law's Go text answers true and turns nothing that was there. Conditions: as the theorem states. -/
import Derived.Test.YtcolecidbalmhaaGreatDoorZ10
import Derived.Test.YtcolecidbalmhaaGreatDoorZ12
import Derived.Test.YtcolecidbalmhaaGreatDoorZ13
import Derived.Test.YtcolecidbalmhaaGreatDoorZ16
import Derived.WalkKit
import Derived.Below
namespace Go.Proofs.YtcolecidbalmhaaGreatDoor.fnCorrupt
open Go.RowKit
set_option linter.unusedVariables false

theorem res0 (c : Int) (a1 : Option Addr) (n1 c1 : Nat) (a2 : Option Addr) (n2 c2 : Nat) (x : Int) (w : World) : Sem.run Tryz.prog (Instr.field 35 (.agg #[.int .i64 c, .slice a1 n1 c1, .slice a2 n2 c2, .int .i64 x]) 0) w = .ok (.int .i64 c) w := by kernel_rfl
theorem size_40 {rs : List (List Int)} (h : rs.any longR = false) {k : Nat} (hk : k < rs.length) {n : Nat} (hn : (rs[k]?.getD []).length = n) : n ≤ 40 := by rw [← hn]; exact long_no h hk
set_option maxHeartbeats 6000000 in
set_option maxRecDepth 100000 in
theorem walk (a0 : Option Addr) (len0 cap0 : Nat) (z0 : List Int) (w : World) (w0 : Row .u8 w w.heap.size a0 len0 cap0 z0) :
    Calls Tryz.prog 7 #[.slice a0 len0 cap0] w fun e w' => e = .returned (.bool true) ∧ Below w.heap.size w w' := by
  have hl := w0.fits
  have hm := w0.most
  unfold maxLen at hm
  by_cases hbig : 1048576 < len0
  · have hB : decide (1048576 < len0) = true := by simp [hbig]
    go_enter Tryz.func7, Tryz.ntmps7
    go_wp2_with fail
    refine (lwBig_any _ _ _ _ (by omega)).mono ?_
    rintro r w' ⟨rfl, rfl⟩
    go_wp2_with fail
    go_ret
    exact ⟨rfl, Below.refl _ _⟩
  have hB : decide (1048576 < len0) = false := by simp [hbig]
  obtain ⟨i0, hi0, hi1, hi2, hi3'⟩ := info_parts slices_info
  obtain ⟨j0, hj0, hj1, hj2, hj3⟩ := info_parts u8_info
  have hi3 := hi3'
  clear hi3'
  go_enter Tryz.func7, Tryz.ntmps7
  go_wp2_with fail
  refine (lwBig_any _ _ _ _ (by omega)).mono ?_
  rintro r w' ⟨rfl, rfl⟩
  go_wp2_with fail
  refine (DrawCrashStore_any w0).mono ?_
  rintro r u1 ⟨a1, n1, c1, a2, n2, c2, s, t, rfl, ht, RS, b1⟩
  have HN := Lib.hid RS.rs.length
  have b1a := bal b1 (.cells #[.slice a1 n1 c1, .slice a2 n2 c2, .int .i64 s.d.s] 29)
  have AS : At u1.heap.size (S3L a1 n1 c1 a2 n2 c2 s.d.s) (u1.alloc (.cells #[.slice a1 n1 c1, .slice a2 n2 c2, .int .i64 s.d.s] 29)) := At.new u1 (S3L a1 n1 c1 a2 n2 c2 s.d.s) 29
  have RS1 := RS.on (bal (Below.refl _ u1) (.cells #[.slice a1 n1 c1, .slice a2 n2 c2, .int .i64 s.d.s] 29))
  have sf := fun w hR => implStoreFault_any a1 n1 c1 a2 n2 c2 w.heap.size s w hR (Nat.le_refl _)
  have SF := Lib.hid sf
  have SG := Lib.hid (fun w hR => specStoreFault_any a1 n1 c1 a2 n2 c2 w.heap.size s w hR (Nat.le_refl _))
  have hfit := RS.rs.fits
  have hmost := RS.rs.most
  unfold maxLen at hmost
  have HW := Lib.hid RS.wf
  have kk0 := AS.cell 0 _ rfl
  have kk1 := AS.cell 1 _ rfl
  have kk2 := AS.cell 2 _ rfl
  clear RS b1 sf
  go_wp2_with fail
  generalize u1.alloc (.cells #[.slice a1 n1 c1, .slice a2 n2 c2, .int .i64 s.d.s] 29) = v1 at *
  refine (SF.out _ RS1).mono ?_
  rintro r u2 ⟨rfl, b2⟩
  have AS2 := AS.on b2
  have RS2 := RS1.on b2
  have B2 := btr b1a b2
  clear b1a b2 RS1 AS kk0 kk1 kk2
  by_cases h0 : storeF s = 0
  case neg =>
    generalize storeF s = C at *
    have q9 : (C != 0) = true := by simpa using h0
    have q8 : decide (C = 0) = false := by simpa using h0
    have kk0 := AS2.cell 0 _ rfl
    have kk1 := AS2.cell 1 _ rfl
    have kk2 := AS2.cell 2 _ rfl
    go_wp2_with fail
    refine wp_region_line (Bel u2) [(0, true), (2, true), (1, false), (3, false), (4, true), (5, true)] (by kernel_rfl) (by kernel_rfl) (fun _ _ d _ _ h => by cases d <;> exact h) (Bel.drew u2) ?_
    have hst := Bel.drew u2
    have inst : Nonempty (Of (Bel u2)) := ⟨⟨_, hst⟩⟩
    have kc0 := bel_cell kk0
    have kc1 := bel_cell kk1
    have kc2 := bel_cell kk2
    generalize u2.drew = V1 at *
    iterate 2 (refine line_read rfl (by kernel_rfl) (fun K hK => ?_); go_big_quiet_op; refine hK _ ?_; clear hK K)
    refine line_alone rfl (by kernel_rfl) (fun K hK => ?_)
    refine call_wp (args := #[S3 a1 n1 c1 a2 (n2) c2 s.d.s]) rfl (by kernel_rfl) (by kernel_rfl) (SF.out _ (RS2.on hst.out)) (fun wn hbn => ?_)
    have hst2 := hst.on hbn
    refine hK _ _ hst2 ?_
    clear hK K hst hbn
    have hst := hst2
    clear hst2
    simp only [Act.put, List.setIfInBounds_toArray, List.set_cons_zero, List.set_cons_succ]
    refine line_alone rfl (by kernel_rfl) (fun K hK => ?_)
    refine call_wp (args := #[S3 a1 n1 c1 a2 (n2) c2 s.d.s]) rfl (by kernel_rfl) (by kernel_rfl) (SG.out _ (RS2.on hst.out)) (fun wn hbn => ?_)
    have hst2 := hst.on hbn
    refine hK _ _ hst2 ?_
    clear hK K hst hbn
    have hst := hst2
    clear hst2
    simp only [Act.put, List.setIfInBounds_toArray, List.set_cons_zero, List.set_cons_succ]
    iterate 2 (refine line_read rfl (by kernel_rfl) (fun K hK => ?_); go_big_quiet_op; refine hK _ ?_; clear hK K)
    refine line_nil ?_
    have hb := btr B2 hst.out
    clear hst
    go_wp2_with fail
    go_ret
    exact ⟨rfl, hb⟩
  by_cases hn : n2 = 0
  · subst hn
    rw [h0] at *
    have kk0 := AS2.cell 0 _ rfl
    have kk1 := AS2.cell 1 _ rfl
    have kk2 := AS2.cell 2 _ rfl
    go_wp2_with fail
    refine wp_region_line (Bel u2) [(0, true), (2, true), (1, false), (3, false), (4, true), (5, true)] (by kernel_rfl) (by kernel_rfl) (fun _ _ d _ _ h => by cases d <;> exact h) (Bel.drew u2) ?_
    have hst := Bel.drew u2
    have inst : Nonempty (Of (Bel u2)) := ⟨⟨_, hst⟩⟩
    have kc0 := bel_cell kk0
    have kc1 := bel_cell kk1
    have kc2 := bel_cell kk2
    generalize u2.drew = V1 at *
    iterate 2 (refine line_read rfl (by kernel_rfl) (fun K hK => ?_); go_big_quiet_op; refine hK _ ?_; clear hK K)
    refine line_alone rfl (by kernel_rfl) (fun K hK => ?_)
    refine call_wp (args := #[S3 a1 n1 c1 a2 (0) c2 s.d.s]) rfl (by kernel_rfl) (by kernel_rfl) (SF.out _ (RS2.on hst.out)) (fun wn hbn => ?_)
    have hst2 := hst.on hbn
    refine hK _ _ hst2 ?_
    clear hK K hst hbn
    have hst := hst2
    clear hst2
    simp only [Act.put, List.setIfInBounds_toArray, List.set_cons_zero, List.set_cons_succ]
    refine line_alone rfl (by kernel_rfl) (fun K hK => ?_)
    refine call_wp (args := #[S3 a1 n1 c1 a2 (0) c2 s.d.s]) rfl (by kernel_rfl) (by kernel_rfl) (SG.out _ (RS2.on hst.out)) (fun wn hbn => ?_)
    have hst2 := hst.on hbn
    refine hK _ _ hst2 ?_
    clear hK K hst hbn
    have hst := hst2
    clear hst2
    simp only [Act.put, List.setIfInBounds_toArray, List.set_cons_zero, List.set_cons_succ]
    iterate 2 (refine line_read rfl (by kernel_rfl) (fun K hK => ?_); go_big_quiet_op; refine hK _ ?_; clear hK K)
    refine line_nil ?_
    have hb := btr B2 hst.out
    clear hst
    go_wp2_with fail
    go_ret
    exact ⟨rfl, hb⟩
  have qn : ((n2 : Int) == 0) = false := by rw [beq_eq_false_iff_ne]; omega
  have qm : decide ((n2 : Int) = 0) = false := by simpa using hn
  have h0' := h0
  rw [h0']
  clear h0'
  obtain ⟨h12, hlong, -, -⟩ := diskF_zero (openC_zero (storeF_zero h0).1).1
  have hn12 : n2 ≤ 12 := by rw [← HN.out]; exact h12
  have HLL := Lib.hid hlong
  have hby := fun (k : Nat) => (show ∀ z ∈ s.d.rs[k]?.getD [], M.byteB z from fun z hz => (by
    cases hk : s.d.rs[k]? with
    | none => rw [hk] at hz; cases hz
    | some r => rw [hk] at hz; exact u8_byte (HW.out r (List.mem_of_getElem? hk) z hz)))
  have HBR := Lib.hid hby
  have H0 := Lib.hid h0
  clear h12 hlong hby h0
  have T3 : TSt u2 u2.heap.size (.slice none 0 0) s.d.s [] [] (u2.alloc (.cells #[.slice none 0 0, .int .i64 s.d.s] 27)) :=
    ⟨At.new u2 [.slice none 0 0, .int .i64 s.d.s] 27, OwnG.nil _ _ _ (Nat.le_refl _), bal (Below.refl _ _) _, Nat.le_refl _⟩
  have kk0 := AS2.cell 0 _ rfl
  have kk1 := AS2.cell 1 _ rfl
  have kk2 := AS2.cell 2 _ rfl
  go_upto_region 8 with fail
  clear kk0 kk1 kk2 qn qm
  generalize u2.alloc (.cells #[.slice none 0 0, .int .i64 s.d.s] 27) = v3 at *
  go_loopw [6] (fun i wr => ∃ (k : Nat) (v : Value) (xs : List Value), k ≤ n2 ∧ i = .int .i64 k ∧ TSt u2 u2.heap.size v s.d.s (s.d.rs.take k) xs wr) (fun i _ => n2 - (intOf i).toNat)
  case atStart => exact ⟨0, _, _, Nat.zero_le _, rfl, by rw [List.take_zero]; exact T3⟩
  case round =>
    obtain ⟨k, v, xs, hk, rfl, hT⟩ := hrel
    have ASk := AS2.on hT.B
    have kk0 := ASk.cell 0 _ rfl
    have kk1 := ASk.cell 1 _ rfl
    have kk2 := ASk.cell 2 _ rfl
    by_cases hlt : k < n2
    · obtain ⟨b, off, ha, hb, hc⟩ := RS2.rs.cells (by omega)
      obtain ⟨a', n', c', hcell, hrow⟩ := hc k hlt
      have hl2 : k < s.d.rs.length := by rw [HN.out]; exact hlt
      have hn40 : n' ≤ 40 := size_40 HLL.out hl2 hrow.length
      have HNZ := Lib.hid hrow.length
      have HRW := Lib.hid (fun (w' : World) (h : Below u2.heap.size u2 w') => hrow.below h)
      have HTK := Lib.hid (M.take_snoc s.d.rs [] k hl2)
      have HLK := Lib.hid (show (s.d.rs.take k).length = k by simp; omega)
      have hk12 : k < 12 := by omega
      generalize s.d.rs[k]?.getD [] = zs at *
      generalize s.d.rs.take k = rs0 at *
      subst ha
      have H0' := Lib.hid (show Bel u2 wr.drew from ⟨hT.B.drew⟩)
      have HT1 := Lib.hid (hT.on (bdrew wr))
      have hcw := bel_cell hcell
      clear hc hrow hT hl2 ASk T3
      go_wp2_with fail
      refine wp_region_fork (Bel u2) (by kernel_rfl) (H0'.out) ?_
      have hst : (Bel u2) _ := (H0'.out)
      have inst : Nonempty (Of (Bel u2)) := ⟨⟨_, hst⟩⟩
      have kc0 := bel_cell (AS2.cell 0 _ rfl)
      have kc1 := bel_cell (AS2.cell 1 _ rfl)
      have kc2 := bel_cell (AS2.cell 2 _ rfl)
      clear H0' kk0 kk1 kk2
      generalize wr.drew = V1 at *
      refine any_seg 7 [(0, true), (3, true), (4, true), (5, true), (6, true), (7, true), (8, true)] (by kernel_rfl) (fun _ _ d _ _ h => by cases d <;> exact h) ?_
      iterate 7 (refine line_read rfl (by kernel_rfl) (fun K hK => ?_); go_big_quiet_op; refine hK _ ?_; clear hK K)
      refine line_nil ?_
      clear kc0 kc1 kc2 hcw hcell
      refine any_fork 1 2 (by kernel_rfl) rfl rfl (by kernel_rfl) (by kernel_rfl) (fun K hK => ?_) (fun K hK => ?_)
      · have e1 := (HT1.out).D.cell 0 _ rfl
        go_big_op
        refine hK _ _ hst ?_
        clear hK K e1
        refine any_rest [(2, false), (9, false), (10, false), (11, false), (12, true), (13, false)] (by kernel_rfl) (fun _ _ d _ _ h => by cases d <;> exact h) ?_
        refine line_alone rfl (by kernel_rfl) (fun K hK => ?_)
        go_big_op
        have b5 := bal (Below.refl _ V1) (.cells #[] 5)
        have OE := Lib.hid (own_empty V1 5)
        have SE := Lib.hid (((HRW.out _ hst.out).alloc hst.out.size (.cells #[] 5)).src (P := Tryz.prog) (tx := 22) Tryz.underlying22)
        have hst2 : Bel u2 (V1.alloc (.cells #[] 5)) := hst.on b5
        refine hK _ _ hst2 ?_
        clear hK K hst
        have hst := hst2
        clear hst2
        generalize V1.alloc (.cells #[] 5) = x5 at *
        refine line_alone rfl (by kernel_rfl) (fun K hK => ?_)
        refine wp_append_src _ (.tmp 46) (.tmp 52) 22 22 rfl V1.heap.size 5 j0 (.int .u8 0) 1 1 Tryz.underlying22 hj0 hj1 hj2 hj3 rfl (.slice (some ⟨V1.heap.size, 0, none⟩) 0 0) 0 [] rfl OE.out _ n' _ rfl SE.out (by simp only [maxLen]; omega) (by omega) b5.size (fun v6 w6 hown hgrow hat => ?_)
        have O6 : OwnK .u8 w6 V1.heap.size v6 zs := by
          unfold OwnK
          rw [HNZ.out]
          simpa using hown
        have b6 : Below V1.heap.size V1 w6 := OE.out.grown b5 b5.size hgrow
        obtain ⟨a6, c6, hv6, -⟩ := Own.form O6
        subst hv6
        have hst2 : Bel u2 w6 := ⟨btr HT1.out.B b6⟩
        refine hK _ _ hst2 ?_
        clear hK K hst hown hgrow hat OE SE b5
        have hst := hst2
        clear hst2
        simp only [Act.put, List.setIfInBounds_toArray, List.set_cons_zero, List.set_cons_succ]
        refine line_alone rfl (by kernel_rfl) (fun K hK => ?_)
        go_big_op
        have SR := Lib.hid (src_new (P := Tryz.prog) w6 [.slice a6 zs.length c6] 1 1 22 25 22 Tryz.underlying25 rfl (by intro u hu; simp at hu; subst hu; rfl))
        have b7 := btr b6 (bal (Below.refl _ w6) (.cells #[.slice a6 zs.length c6] 22))
        have O7 := Lib.hid (Own.alloc O6 (.cells #[.slice a6 zs.length c6] 22))
        have hst2 := hst.on (bal (Below.refl _ w6) (.cells #[.slice a6 zs.length c6] 22))
        refine hK _ _ hst2 ?_
        clear hK K hst O6 b6
        have hst := hst2
        clear hst2
        have hc7 : (w6.alloc (.cells [Value.slice a6 zs.length c6].toArray 22)) = w6.alloc (.cells #[.slice a6 zs.length c6] 22) := rfl
        rw [hc7] at SR
        clear hc7
        generalize w6.alloc (.cells #[.slice a6 zs.length c6] 22) = x7 at *
        refine line_alone rfl (by kernel_rfl) (fun K hK => ?_)
        have hd7 : u2.heap.size < x7.heap.size := Nat.lt_of_lt_of_le (HT1.out.D.lt (by simp)) b7.size
        refine wp_append_src _ (.tmp 45) (.tmp 54) 25 25 rfl (u2.heap.size + 1) 22 i0 (.slice none 0 0) 1 24 Tryz.underlying25 hi0 hi1 hi2 hi3 rfl v k xs rfl (by have := (HT1.out.G.below b7).own; rwa [HLK.out] at this) _ 1 [.slice a6 zs.length c6] rfl SR.out (by simp only [maxLen]; omega) (by omega) hd7 (fun v8 w8 hown hgrow hat => ?_)
        obtain ⟨a8, c8, hv8, -⟩ := Own.form hown
        subst hv8
        have T8 := Lib.hid (HT1.out.app b7 O7.out (by rw [HLK.out]; exact hown) hgrow hat)
        have hge : ∀ g, v.ownBlock = some g → u2.heap.size + 1 ≤ g := fun g e => (HT1.out.G.own.lt g e).1
        have D8 := ((HT1.out.on b7).D).kept hgrow (fun e => by have := hge _ e.symm; omega)
        have hst2 : Bel u2 w8 := ⟨(btr HT1.out.B b7).grown hgrow (Nat.le_of_lt hd7) fun g e => by have := hge g e; omega⟩
        refine hK _ _ hst2 ?_
        clear hK K hst hown hgrow hat O7 SR b7
        have hst := hst2
        clear hst2
        simp only [Act.put, List.setIfInBounds_toArray, List.set_cons_zero, List.set_cons_succ]
        have pd0 := D8.cell 0 _ rfl
        have pd1 := D8.cell 1 _ rfl
        have pf0 := D8.free 0 _ rfl
        have pf1 := D8.free 1 _ rfl
        iterate 1 (refine line_read rfl (by kernel_rfl) (fun K hK => ?_); go_big_quiet_op; refine hK _ ?_; clear hK K)
        refine line_alone rfl (by kernel_rfl) (fun K hK => ?_)
        go_big_op
        refine hK _ _ (⟨bset hst.out (p := ⟨u2.heap.size, 0, none⟩) (Nat.le_refl _) _⟩) ?_
        clear hK K
        refine line_nil ?_
        clear pd0 pd1 pf0 pf1 D8
        go_wp2_with fail
        go_roundw
        case rel => exact ⟨k + 1, _, _, by omega, by go_num, by rw [HTK.out]; exact T8.out⟩
        case measure => simp [intOf]; omega
      · go_big_op
        have b5 := bal (Below.refl _ V1) (.cells #[] 5)
        have OE := Lib.hid (own_empty V1 5)
        have SE := Lib.hid (((HRW.out _ hst.out).alloc hst.out.size (.cells #[] 5)).src (P := Tryz.prog) (tx := 22) Tryz.underlying22)
        have hst2 : Bel u2 (V1.alloc (.cells #[] 5)) := hst.on b5
        refine hK _ _ hst2 ?_
        clear hK K hst
        have hst := hst2
        clear hst2
        generalize V1.alloc (.cells #[] 5) = x5 at *
        refine any_fork 1 9 (by kernel_rfl) rfl rfl (by kernel_rfl) (by kernel_rfl) (fun K hK => ?_) (fun K hK => ?_)
        · have e1 := (HT1.out.on b5).D.cell 0 _ rfl
          go_big_op
          refine hK _ _ hst ?_
          clear hK K e1
          refine any_rest [(9, false), (10, false), (11, false), (12, true), (13, false)] (by kernel_rfl) (fun _ _ d _ _ h => by cases d <;> exact h) ?_
          refine line_alone rfl (by kernel_rfl) (fun K hK => ?_)
          refine wp_append_src _ (.tmp 46) (.tmp 52) 22 22 rfl V1.heap.size 5 j0 (.int .u8 0) 1 1 Tryz.underlying22 hj0 hj1 hj2 hj3 rfl (.slice (some ⟨V1.heap.size, 0, none⟩) 0 0) 0 [] rfl OE.out _ n' _ rfl SE.out (by simp only [maxLen]; omega) (by omega) b5.size (fun v6 w6 hown hgrow hat => ?_)
          have O6 : OwnK .u8 w6 V1.heap.size v6 zs := by
            unfold OwnK
            rw [HNZ.out]
            simpa using hown
          have b6 : Below V1.heap.size V1 w6 := OE.out.grown b5 b5.size hgrow
          obtain ⟨a6, c6, hv6, -⟩ := Own.form O6
          subst hv6
          have hst2 : Bel u2 w6 := ⟨btr HT1.out.B b6⟩
          refine hK _ _ hst2 ?_
          clear hK K hst hown hgrow hat OE SE b5
          have hst := hst2
          clear hst2
          simp only [Act.put, List.setIfInBounds_toArray, List.set_cons_zero, List.set_cons_succ]
          refine line_alone rfl (by kernel_rfl) (fun K hK => ?_)
          go_big_op
          have SR := Lib.hid (src_new (P := Tryz.prog) w6 [.slice a6 zs.length c6] 1 1 22 25 22 Tryz.underlying25 rfl (by intro u hu; simp at hu; subst hu; rfl))
          have b7 := btr b6 (bal (Below.refl _ w6) (.cells #[.slice a6 zs.length c6] 22))
          have O7 := Lib.hid (Own.alloc O6 (.cells #[.slice a6 zs.length c6] 22))
          have hst2 := hst.on (bal (Below.refl _ w6) (.cells #[.slice a6 zs.length c6] 22))
          refine hK _ _ hst2 ?_
          clear hK K hst O6 b6
          have hst := hst2
          clear hst2
          have hc7 : (w6.alloc (.cells [Value.slice a6 zs.length c6].toArray 22)) = w6.alloc (.cells #[.slice a6 zs.length c6] 22) := rfl
          rw [hc7] at SR
          clear hc7
          generalize w6.alloc (.cells #[.slice a6 zs.length c6] 22) = x7 at *
          refine line_alone rfl (by kernel_rfl) (fun K hK => ?_)
          have hd7 : u2.heap.size < x7.heap.size := Nat.lt_of_lt_of_le (HT1.out.D.lt (by simp)) b7.size
          refine wp_append_src _ (.tmp 45) (.tmp 54) 25 25 rfl (u2.heap.size + 1) 22 i0 (.slice none 0 0) 1 24 Tryz.underlying25 hi0 hi1 hi2 hi3 rfl v k xs rfl (by have := (HT1.out.G.below b7).own; rwa [HLK.out] at this) _ 1 [.slice a6 zs.length c6] rfl SR.out (by simp only [maxLen]; omega) (by omega) hd7 (fun v8 w8 hown hgrow hat => ?_)
          obtain ⟨a8, c8, hv8, -⟩ := Own.form hown
          subst hv8
          have T8 := Lib.hid (HT1.out.app b7 O7.out (by rw [HLK.out]; exact hown) hgrow hat)
          have hge : ∀ g, v.ownBlock = some g → u2.heap.size + 1 ≤ g := fun g e => (HT1.out.G.own.lt g e).1
          have D8 := ((HT1.out.on b7).D).kept hgrow (fun e => by have := hge _ e.symm; omega)
          have hst2 : Bel u2 w8 := ⟨(btr HT1.out.B b7).grown hgrow (Nat.le_of_lt hd7) fun g e => by have := hge g e; omega⟩
          refine hK _ _ hst2 ?_
          clear hK K hst hown hgrow hat O7 SR b7
          have hst := hst2
          clear hst2
          simp only [Act.put, List.setIfInBounds_toArray, List.set_cons_zero, List.set_cons_succ]
          have pd0 := D8.cell 0 _ rfl
          have pd1 := D8.cell 1 _ rfl
          have pf0 := D8.free 0 _ rfl
          have pf1 := D8.free 1 _ rfl
          iterate 1 (refine line_read rfl (by kernel_rfl) (fun K hK => ?_); go_big_quiet_op; refine hK _ ?_; clear hK K)
          refine line_alone rfl (by kernel_rfl) (fun K hK => ?_)
          go_big_op
          refine hK _ _ (⟨bset hst.out (p := ⟨u2.heap.size, 0, none⟩) (Nat.le_refl _) _⟩) ?_
          clear hK K
          refine line_nil ?_
          clear pd0 pd1 pf0 pf1 D8
          go_wp2_with fail
          go_roundw
          case rel => exact ⟨k + 1, _, _, by omega, by go_num, by rw [HTK.out]; exact T8.out⟩
          case measure => simp [intOf]; omega
        · refine wp_append_src _ (.tmp 46) (.tmp 52) 22 22 rfl V1.heap.size 5 j0 (.int .u8 0) 1 1 Tryz.underlying22 hj0 hj1 hj2 hj3 rfl (.slice (some ⟨V1.heap.size, 0, none⟩) 0 0) 0 [] rfl OE.out _ n' _ rfl SE.out (by simp only [maxLen]; omega) (by omega) b5.size (fun v6 w6 hown hgrow hat => ?_)
          have O6 : OwnK .u8 w6 V1.heap.size v6 zs := by
            unfold OwnK
            rw [HNZ.out]
            simpa using hown
          have b6 : Below V1.heap.size V1 w6 := OE.out.grown b5 b5.size hgrow
          obtain ⟨a6, c6, hv6, -⟩ := Own.form O6
          subst hv6
          have hst2 : Bel u2 w6 := ⟨btr HT1.out.B b6⟩
          refine hK _ _ hst2 ?_
          clear hK K hst hown hgrow hat OE SE b5
          have hst := hst2
          clear hst2
          simp only [Act.put, List.setIfInBounds_toArray, List.set_cons_zero, List.set_cons_succ]
          refine any_fork 1 10 (by kernel_rfl) rfl rfl (by kernel_rfl) (by kernel_rfl) (fun K hK => ?_) (fun K hK => ?_)
          · have e1 := (HT1.out.on b6).D.cell 0 _ rfl
            go_big_op
            refine hK _ _ hst ?_
            clear hK K e1
            refine any_rest [(10, false), (11, false), (12, true), (13, false)] (by kernel_rfl) (fun _ _ d _ _ h => by cases d <;> exact h) ?_
            refine line_alone rfl (by kernel_rfl) (fun K hK => ?_)
            go_big_op
            have SR := Lib.hid (src_new (P := Tryz.prog) w6 [.slice a6 zs.length c6] 1 1 22 25 22 Tryz.underlying25 rfl (by intro u hu; simp at hu; subst hu; rfl))
            have b7 := btr b6 (bal (Below.refl _ w6) (.cells #[.slice a6 zs.length c6] 22))
            have O7 := Lib.hid (Own.alloc O6 (.cells #[.slice a6 zs.length c6] 22))
            have hst2 := hst.on (bal (Below.refl _ w6) (.cells #[.slice a6 zs.length c6] 22))
            refine hK _ _ hst2 ?_
            clear hK K hst O6 b6
            have hst := hst2
            clear hst2
            have hc7 : (w6.alloc (.cells [Value.slice a6 zs.length c6].toArray 22)) = w6.alloc (.cells #[.slice a6 zs.length c6] 22) := rfl
            rw [hc7] at SR
            clear hc7
            generalize w6.alloc (.cells #[.slice a6 zs.length c6] 22) = x7 at *
            refine line_alone rfl (by kernel_rfl) (fun K hK => ?_)
            have hd7 : u2.heap.size < x7.heap.size := Nat.lt_of_lt_of_le (HT1.out.D.lt (by simp)) b7.size
            refine wp_append_src _ (.tmp 45) (.tmp 54) 25 25 rfl (u2.heap.size + 1) 22 i0 (.slice none 0 0) 1 24 Tryz.underlying25 hi0 hi1 hi2 hi3 rfl v k xs rfl (by have := (HT1.out.G.below b7).own; rwa [HLK.out] at this) _ 1 [.slice a6 zs.length c6] rfl SR.out (by simp only [maxLen]; omega) (by omega) hd7 (fun v8 w8 hown hgrow hat => ?_)
            obtain ⟨a8, c8, hv8, -⟩ := Own.form hown
            subst hv8
            have T8 := Lib.hid (HT1.out.app b7 O7.out (by rw [HLK.out]; exact hown) hgrow hat)
            have hge : ∀ g, v.ownBlock = some g → u2.heap.size + 1 ≤ g := fun g e => (HT1.out.G.own.lt g e).1
            have D8 := ((HT1.out.on b7).D).kept hgrow (fun e => by have := hge _ e.symm; omega)
            have hst2 : Bel u2 w8 := ⟨(btr HT1.out.B b7).grown hgrow (Nat.le_of_lt hd7) fun g e => by have := hge g e; omega⟩
            refine hK _ _ hst2 ?_
            clear hK K hst hown hgrow hat O7 SR b7
            have hst := hst2
            clear hst2
            simp only [Act.put, List.setIfInBounds_toArray, List.set_cons_zero, List.set_cons_succ]
            have pd0 := D8.cell 0 _ rfl
            have pd1 := D8.cell 1 _ rfl
            have pf0 := D8.free 0 _ rfl
            have pf1 := D8.free 1 _ rfl
            iterate 1 (refine line_read rfl (by kernel_rfl) (fun K hK => ?_); go_big_quiet_op; refine hK _ ?_; clear hK K)
            refine line_alone rfl (by kernel_rfl) (fun K hK => ?_)
            go_big_op
            refine hK _ _ (⟨bset hst.out (p := ⟨u2.heap.size, 0, none⟩) (Nat.le_refl _) _⟩) ?_
            clear hK K
            refine line_nil ?_
            clear pd0 pd1 pf0 pf1 D8
            go_wp2_with fail
            go_roundw
            case rel => exact ⟨k + 1, _, _, by omega, by go_num, by rw [HTK.out]; exact T8.out⟩
            case measure => simp [intOf]; omega
          · go_big_op
            have SR := Lib.hid (src_new (P := Tryz.prog) w6 [.slice a6 zs.length c6] 1 1 22 25 22 Tryz.underlying25 rfl (by intro u hu; simp at hu; subst hu; rfl))
            have b7 := btr b6 (bal (Below.refl _ w6) (.cells #[.slice a6 zs.length c6] 22))
            have O7 := Lib.hid (Own.alloc O6 (.cells #[.slice a6 zs.length c6] 22))
            have hst2 := hst.on (bal (Below.refl _ w6) (.cells #[.slice a6 zs.length c6] 22))
            refine hK _ _ hst2 ?_
            clear hK K hst O6 b6
            have hst := hst2
            clear hst2
            have hc7 : (w6.alloc (.cells [Value.slice a6 zs.length c6].toArray 22)) = w6.alloc (.cells #[.slice a6 zs.length c6] 22) := rfl
            rw [hc7] at SR
            clear hc7
            generalize w6.alloc (.cells #[.slice a6 zs.length c6] 22) = x7 at *
            refine any_rest [(1, false), (11, false), (12, true), (13, false)] (by kernel_rfl) (fun _ _ d _ _ h => by cases d <;> exact h) ?_
            refine line_alone rfl (by kernel_rfl) (fun K hK => ?_)
            have e1 := (HT1.out.on b7).D.cell 0 _ rfl
            go_big_op
            refine hK _ _ hst ?_
            clear hK K e1
            refine line_alone rfl (by kernel_rfl) (fun K hK => ?_)
            have hd7 : u2.heap.size < x7.heap.size := Nat.lt_of_lt_of_le (HT1.out.D.lt (by simp)) b7.size
            refine wp_append_src _ (.tmp 45) (.tmp 54) 25 25 rfl (u2.heap.size + 1) 22 i0 (.slice none 0 0) 1 24 Tryz.underlying25 hi0 hi1 hi2 hi3 rfl v k xs rfl (by have := (HT1.out.G.below b7).own; rwa [HLK.out] at this) _ 1 [.slice a6 zs.length c6] rfl SR.out (by simp only [maxLen]; omega) (by omega) hd7 (fun v8 w8 hown hgrow hat => ?_)
            obtain ⟨a8, c8, hv8, -⟩ := Own.form hown
            subst hv8
            have T8 := Lib.hid (HT1.out.app b7 O7.out (by rw [HLK.out]; exact hown) hgrow hat)
            have hge : ∀ g, v.ownBlock = some g → u2.heap.size + 1 ≤ g := fun g e => (HT1.out.G.own.lt g e).1
            have D8 := ((HT1.out.on b7).D).kept hgrow (fun e => by have := hge _ e.symm; omega)
            have hst2 : Bel u2 w8 := ⟨(btr HT1.out.B b7).grown hgrow (Nat.le_of_lt hd7) fun g e => by have := hge g e; omega⟩
            refine hK _ _ hst2 ?_
            clear hK K hst hown hgrow hat O7 SR b7
            have hst := hst2
            clear hst2
            simp only [Act.put, List.setIfInBounds_toArray, List.set_cons_zero, List.set_cons_succ]
            have pd0 := D8.cell 0 _ rfl
            have pd1 := D8.cell 1 _ rfl
            have pf0 := D8.free 0 _ rfl
            have pf1 := D8.free 1 _ rfl
            iterate 1 (refine line_read rfl (by kernel_rfl) (fun K hK => ?_); go_big_quiet_op; refine hK _ ?_; clear hK K)
            refine line_alone rfl (by kernel_rfl) (fun K hK => ?_)
            go_big_op
            refine hK _ _ (⟨bset hst.out (p := ⟨u2.heap.size, 0, none⟩) (Nat.le_refl _) _⟩) ?_
            clear hK K
            refine line_nil ?_
            clear pd0 pd1 pf0 pf1 D8
            go_wp2_with fail
            go_roundw
            case rel => exact ⟨k + 1, _, _, by omega, by go_num, by rw [HTK.out]; exact T8.out⟩
            case measure => simp [intOf]; omega
    · obtain rfl : k = n2 := by omega
      rw [List.take_of_length_le (by rw [HN.out]; omega)] at hT
      have h0 := H0.out
      obtain ⟨av, cv, hv, -⟩ := hT.G.form
      rw [HN.out] at hv
      subst hv
      obtain ⟨gb, rfl, hgb⟩ := hT.G.head (by omega)
      have d0 := hT.D.cell 0 _ rfl
      have d1 := hT.D.cell 1 _ rfl
      have hvf := (hT.G.grid HW.out).fits
      have hvm := (hT.G.grid HW.out).most
      unfold maxLen at hvm
      clear ASk T3
      go_wp2_with fail
      refine (lwAt_any 2 k _ _ _ _ _ _ (w0.on (btr B2 hT.B)) (by omega)).mono ?_
      rintro r u4 ⟨kr, k0, k1, rfl, b4⟩
      obtain ⟨kr, rfl⟩ := Int.eq_ofNat_of_zero_le k0
      have hkr : kr < k := by omega
      have T4 := hT.on b4
      clear hT d0 d1 kk0 kk1 kk2 k1 b4
      have hxl := T4.G.len
      obtain ⟨u, hu⟩ : ∃ u, xs[kr]? = some u := ⟨_, List.getElem?_eq_getElem (by have := HN.out; omega)⟩
      obtain ⟨hrow, hult, -⟩ := T4.G.row kr u hu
      obtain ⟨ra, rc, rfl, hr1, hr2, -⟩ := Own.form hrow
      have hmem : s.d.rs[kr]?.getD [] ∈ s.d.rs := by
        rw [List.getElem?_eq_getElem (by rw [HN.out]; exact hkr)]
        exact List.getElem_mem _
      have hm2 := rec_long h0 hmem
      have hu2 := T4.G.at' hu
      unfold maxLen at hr2
      generalize hmm : (s.d.rs[kr]?.getD []).length = m at *
      have HMM := Lib.hid hmm
      clear hmm
      rcases hrow.2 with ⟨e, h9⟩ | ⟨g', c9', e, hB8, hg8, hn8, hm8, hcell, -⟩
      · injection e with e1 e2 e3
        omega
      injection e with e1 e2 e3
      subst e1
      subst e3
      have hg1 : u2.heap.size + 1 ≤ g' := hB8
      have d0 := T4.D.cell 0 _ rfl
      have qm : ((m : Int) == 0) = false := by rw [beq_eq_false_iff_ne]; omega
      have hk1 : (kr : Int) < k := by omega
      have hk2 : ¬ (kr : Int) < 0 := by omega
      clear hrow hcell e2 hmem
      go_wp2_with fail
      refine (lwAt_any 3 m _ _ _ _ _ _ (w0.on (btr B2 T4.B)) (by omega)).mono ?_
      rintro r u5 ⟨ir, j0', j1, rfl, b5⟩
      obtain ⟨ir, rfl⟩ := Int.eq_ofNat_of_zero_le j0'
      have hi3 : ir < m := by omega
      have T5 := T4.on b5
      clear T4 d0 hu2 j1 b5
      have hi4 : (ir : Int) < m := by omega
      have hi5 : ¬ (ir : Int) < 0 := by omega
      obtain ⟨zr, hz⟩ : ∃ zr, (s.d.rs[kr]?.getD [])[ir]? = some zr := ⟨_, List.getElem?_eq_getElem (by rw [HMM.out]; exact hi3)⟩
      have HBZ := Lib.hid (HBR.out kr zr (List.mem_of_getElem? hz))
      have H6 := Lib.hid (show Bel u2 u5.drew from ⟨T5.B.drew⟩)
      have HT6 := Lib.hid (T5.on (bdrew u5))
      clear T5
      go_wp2_with fail
      refine wp_region_fork (Bel u2) (by kernel_rfl) (H6.out) ?_
      have hst : (Bel u2) _ := (H6.out)
      have inst : Nonempty (Of (Bel u2)) := ⟨⟨_, hst⟩⟩
      clear H6
      generalize u5.drew = V5 at *
      refine any_seg 7 [(0, true), (1, true), (2, true), (3, true), (4, true), (6, true)] (by kernel_rfl) (fun _ _ d _ _ h => by cases d <;> exact h) ?_
      iterate 6 (refine line_read rfl (by kernel_rfl) (fun K hK => ?_); go_big_quiet_op; refine hK _ ?_; clear hK K)
      refine line_nil ?_
      refine any_fork 5 7 (by kernel_rfl) rfl rfl (by kernel_rfl) (by kernel_rfl) (fun K hK => ?_) (fun K hK => ?_)
      · have e5 := ((HT6.out).G.read hu hz).1
        have HZ := Lib.hid hz
        clear hz
        go_big_op
        refine hK _ _ hst ?_
        clear hK K e5
        have hz := HZ.out
        clear HZ
        refine any_rest [(7, false), (8, true), (9, true), (10, true), (11, true), (12, false)] (by kernel_rfl) (fun _ _ d _ _ h => by cases d <;> exact h) ?_
        refine line_alone rfl (by kernel_rfl) (fun K hK => ?_)
        refine call_any (args := #[.slice a0 len0 cap0, .int .i64 4, .int .i64 255]) rfl (by kernel_rfl) (by kernel_rfl) (lwAt_any 4 255 a0 len0 cap0 _ z0 _ (w0.on (btr B2 hst.out)) (by omega)) ?_
        rintro e x9 ⟨y, y0, y1, rfl, be⟩
        have hy2 : y ≤ 254 := by omega
        have T7 := HT6.out.on be
        have hst2 := hst.on be
        refine ⟨_, rfl, hK _ _ hst2 ?_⟩
        clear hK K hst be y1
        have hst := hst2
        clear hst2
        simp only [Act.put, List.setIfInBounds_toArray, List.set_cons_zero, List.set_cons_succ]
        have hxor := xor_bits (x := zr) (y := 1 + y) HBZ.out ⟨by omega, by omega⟩
        have hxor2 := xor_bits (x := zr) (y := y + 1) HBZ.out ⟨by omega, by omega⟩
        rw [show y + 1 = 1 + y by omega] at hxor2
        iterate 4 (refine line_read rfl (by kernel_rfl) (fun K hK => ?_); go_big_quiet_op; refine hK _ ?_; clear hK K)
        have hbx := M.xorB_byte (x := zr) (y := 1 + y) HBZ.out ⟨by omega, by omega⟩
        have hnx := xor_turned (x := zr) (y := 1 + y) (by omega)
        generalize M.xorB zr (1 + y) = X at *
        have hy5 := (T7.G.read hu hz).1
        have hf5 := (T7.G.read hu hz).2
        have GP := T7.G.put X hu (i := ir) (by rw [HMM.out]; exact hi3)
        have DP := T7.D.setB (p := ⟨g', ir, none⟩) (by dsimp only; omega) (.int .u8 X)
        have BP := bset T7.B (p := ⟨g', ir, none⟩) (by dsimp only; omega) (.int .u8 X)
        have HP := Lib.hid (And.intro GP (And.intro DP BP))
        have TT := Lib.hid (turn_told (k := kr) (i := ir) (b := X) h0 (by rw [HN.out]; exact hkr) (HBR.out kr) hbx (by rw [HMM.out]; exact hi3) (by rw [hz]; intro e; injection e with e; exact hnx e.symm))
        have WX := Lib.hid (wf_set HW.out kr ir (u8_wf hbx.1 (by have := hbx.2; omega)))
        clear GP DP T7 hxor hxor2 hz hnx hbx
        refine line_alone rfl (by kernel_rfl) (fun K hK => ?_)
        go_big_op
        refine hK _ _ (⟨BP⟩) ?_
        clear hK K
        refine line_nil ?_
        clear hy5 hf5 BP hst
        generalize x9.setCell ⟨g', ir, none⟩ (.int .u8 X) = x10 at *
        have D10 := HP.out.2.1
        have G10 := HP.out.1
        have B10 := HP.out.2.2
        have AS10 := AS2.on B10
        have RS10 := RS2.on B10
        have Q10 := G10.grid WX.out
        have OD := implOpenDisk_any _ _ _ _ _ s.d.s x10 Q10 (Nat.le_refl _) WX.out
        rw [TT.out] at OD
        have OE := fun w hG => implOpenDisk_any a2 k c2 w.heap.size s.d.rs s.d.s w hG (Nat.le_refl _) HW.out
        rw [show openC ⟨s.d.rs, s.d.s⟩ = 0 from (storeF_zero h0).1] at OE
        unfold StoreRes at OD OE
        generalize openS ⟨s.d.rs.set kr ((s.d.rs[kr]?.getD []).set ir X), s.d.s⟩ = O at *
        generalize openS ⟨s.d.rs, s.d.s⟩ = O2 at *
        have r0 := res0
        have dd0 := D10.cell 0 _ rfl
        have dd1 := D10.cell 1 _ rfl
        have kk0 := AS10.cell 0 _ rfl
        have kk1 := AS10.cell 1 _ rfl
        have kk2 := AS10.cell 2 _ rfl
        clear D10 G10 HP TT WX
        go_wp2_with fail
        refine OD.mono ?_
        rintro r u11 ⟨y1, l1, i1, y2, l2, i2, rfl, SO9, b11⟩
        have AS11 := AS10.on b11
        have RS11 := RS10.on b11
        have B11 := btr (btr B2 B10) b11
        clear dd0 dd1 kk0 kk1 kk2 AS10 RS10 B10 b11 SO9 OD Q10
        have kk0 := AS11.cell 0 _ rfl
        have kk1 := AS11.cell 1 _ rfl
        have kk2 := AS11.cell 2 _ rfl
        go_wp2_with fail
        refine (OE _ RS11.rs).mono ?_
        rintro r u12 ⟨j1, l3, i3, j2, l4, i4, rfl, SO9, b12⟩
        have B12 := btr B11 b12
        clear SO9 b12 B11 OE AS11 RS11 kk0 kk1 kk2
        go_wp2_with fail
        go_ret
        exact ⟨rfl, B12⟩
      · refine call_any (args := #[.slice a0 len0 cap0, .int .i64 4, .int .i64 255]) rfl (by kernel_rfl) (by kernel_rfl) (lwAt_any 4 255 a0 len0 cap0 _ z0 _ (w0.on (btr B2 hst.out)) (by omega)) ?_
        rintro e x9 ⟨y, y0, y1, rfl, be⟩
        have hy2 : y ≤ 254 := by omega
        have T7 := HT6.out.on be
        have hst2 := hst.on be
        refine ⟨_, rfl, hK _ _ hst2 ?_⟩
        clear hK K hst be y1
        have hst := hst2
        clear hst2
        simp only [Act.put, List.setIfInBounds_toArray, List.set_cons_zero, List.set_cons_succ]
        have hxor := xor_bits (x := zr) (y := 1 + y) HBZ.out ⟨by omega, by omega⟩
        have hxor2 := xor_bits (x := zr) (y := y + 1) HBZ.out ⟨by omega, by omega⟩
        rw [show y + 1 = 1 + y by omega] at hxor2
        refine any_rest [(8, true), (9, true), (5, false), (10, true), (11, true), (12, false)] (by kernel_rfl) (fun _ _ d _ _ h => by cases d <;> exact h) ?_
        iterate 2 (refine line_read rfl (by kernel_rfl) (fun K hK => ?_); go_big_quiet_op; refine hK _ ?_; clear hK K)
        refine line_alone rfl (by kernel_rfl) (fun K hK => ?_)
        have e5 := ((T7).G.read hu hz).1
        have HZ := Lib.hid hz
        clear hz
        go_big_op
        refine hK _ _ hst ?_
        clear hK K e5
        have hz := HZ.out
        clear HZ
        iterate 2 (refine line_read rfl (by kernel_rfl) (fun K hK => ?_); go_big_quiet_op; refine hK _ ?_; clear hK K)
        have hbx := M.xorB_byte (x := zr) (y := 1 + y) HBZ.out ⟨by omega, by omega⟩
        have hnx := xor_turned (x := zr) (y := 1 + y) (by omega)
        generalize M.xorB zr (1 + y) = X at *
        have hy5 := (T7.G.read hu hz).1
        have hf5 := (T7.G.read hu hz).2
        have GP := T7.G.put X hu (i := ir) (by rw [HMM.out]; exact hi3)
        have DP := T7.D.setB (p := ⟨g', ir, none⟩) (by dsimp only; omega) (.int .u8 X)
        have BP := bset T7.B (p := ⟨g', ir, none⟩) (by dsimp only; omega) (.int .u8 X)
        have HP := Lib.hid (And.intro GP (And.intro DP BP))
        have TT := Lib.hid (turn_told (k := kr) (i := ir) (b := X) h0 (by rw [HN.out]; exact hkr) (HBR.out kr) hbx (by rw [HMM.out]; exact hi3) (by rw [hz]; intro e; injection e with e; exact hnx e.symm))
        have WX := Lib.hid (wf_set HW.out kr ir (u8_wf hbx.1 (by have := hbx.2; omega)))
        clear GP DP T7 hxor hxor2 hz hnx hbx
        refine line_alone rfl (by kernel_rfl) (fun K hK => ?_)
        go_big_op
        refine hK _ _ (⟨BP⟩) ?_
        clear hK K
        refine line_nil ?_
        clear hy5 hf5 BP hst
        generalize x9.setCell ⟨g', ir, none⟩ (.int .u8 X) = x10 at *
        have D10 := HP.out.2.1
        have G10 := HP.out.1
        have B10 := HP.out.2.2
        have AS10 := AS2.on B10
        have RS10 := RS2.on B10
        have Q10 := G10.grid WX.out
        have OD := implOpenDisk_any _ _ _ _ _ s.d.s x10 Q10 (Nat.le_refl _) WX.out
        rw [TT.out] at OD
        have OE := fun w hG => implOpenDisk_any a2 k c2 w.heap.size s.d.rs s.d.s w hG (Nat.le_refl _) HW.out
        rw [show openC ⟨s.d.rs, s.d.s⟩ = 0 from (storeF_zero h0).1] at OE
        unfold StoreRes at OD OE
        generalize openS ⟨s.d.rs.set kr ((s.d.rs[kr]?.getD []).set ir X), s.d.s⟩ = O at *
        generalize openS ⟨s.d.rs, s.d.s⟩ = O2 at *
        have r0 := res0
        have dd0 := D10.cell 0 _ rfl
        have dd1 := D10.cell 1 _ rfl
        have kk0 := AS10.cell 0 _ rfl
        have kk1 := AS10.cell 1 _ rfl
        have kk2 := AS10.cell 2 _ rfl
        clear D10 G10 HP TT WX
        go_wp2_with fail
        refine OD.mono ?_
        rintro r u11 ⟨y1, l1, i1, y2, l2, i2, rfl, SO9, b11⟩
        have AS11 := AS10.on b11
        have RS11 := RS10.on b11
        have B11 := btr (btr B2 B10) b11
        clear dd0 dd1 kk0 kk1 kk2 AS10 RS10 B10 b11 SO9 OD Q10
        have kk0 := AS11.cell 0 _ rfl
        have kk1 := AS11.cell 1 _ rfl
        have kk2 := AS11.cell 2 _ rfl
        go_wp2_with fail
        refine (OE _ RS11.rs).mono ?_
        rintro r u12 ⟨j1, l3, i3, j2, l4, i4, rfl, SO9, b12⟩
        have B12 := btr B11 b12
        clear SO9 b12 B11 OE AS11 RS11 kk0 kk1 kk2
        go_wp2_with fail
        go_ret
        exact ⟨rfl, B12⟩

end Go.Proofs.YtcolecidbalmhaaGreatDoor.fnCorrupt
