/- Contracts of how records are sealed and opened, by the program. Conditions: as each theorem states. -/
import Derived.Test.YtjlhldndomaknaaDoorC4f
import Derived.Test.YtjlhldndomaknaaDoorC4h
namespace Go.Proofs.YtjlhldndomaknaaDoor
open Go.RowKit
set_option maxRecDepth 100000
set_option linter.unusedVariables false

theorem openL_len (key q s k : Int) (zs : List Int) (t : Int) : (M.openL key q s k zs t).length ≤ zs.length := by
  unfold M.openL
  split
  · rw [M.turnL_length]; exact Nat.le_refl _
  · simp
theorem openL_wf {key q s k : Int} {zs : List Int} {t : Int} (h : ∀ z ∈ zs, M.byteB z) : ∀ z ∈ M.openL key q s k zs t, (Lit.int .u8 z).wf = true := by
  unfold M.openL
  split
  · exact fun z hz => byte_wf (M.turnL_byte h z hz)
  · intro z hz; cases hz

theorem implSealData_any (key s k : Int) (a : Option Addr) (n c B : Nat) (zs : List Int) (w : World) (lab : Labels w) (hR : Row .u8 w B a n c zs) (hB : B ≤ w.heap.size) :
    Calls Tryd.prog 47 #[.int .i64 key, .int .i64 s, .int .i64 k, .slice a n c] w (SealRes key s k zs w) := by
  have hlen := hR.fits
  have hmost := hR.most
  unfold maxLen at hmost
  have hz := hR.length
  have NO := fun (e : Int) (h : M.sealC key s k n = e) (he : e ≠ 0) => show SealRes key s k zs w (.returned (R5 e 0 0 none 0 0 0)) (w.alloc (.cells #[.int .i64 e, .int .i64 0, .int .i64 0, .slice none 0 0, .int .i64 0] 68)) from
    SealRes.no (by rw [hz]; exact h) he ⟨_, _, _, rfl, Own.nil _ _ _, bal (Below.refl _ w) _⟩
  cases h0 : M.sumB key
  · have F := NO 3 (sealC_key h0) (by omega)
    clear NO hz hR
    go_enter Tryd.func47, Tryd.ntmps47
    go_wp2_with fail
    refine (isSum_any _ _).mono ?_
    rintro r w' ⟨rfl, rfl⟩
    go_wp2_with fail
    exact bodyPost_ret (v := R5 3 0 0 none 0 0 0) (by simp [results, Tryd.results47, go_sem]) rfl F
  cases h1 : M.sumB s
  · have F := NO 3 (sealC_seq h1) (by omega)
    clear NO hz hR
    go_enter Tryd.func47, Tryd.ntmps47
    go_wp2_with fail
    refine (isSum_any _ _).mono ?_
    rintro r w' ⟨rfl, rfl⟩
    go_wp2_with fail
    refine (isSeq_any _ _).mono ?_
    rintro r w' ⟨rfl, rfl⟩
    go_wp2_with fail
    exact bodyPost_ret (v := R5 3 0 0 none 0 0 0) (by simp [results, Tryd.results47, go_sem]) rfl F
  cases h2 : M.kindB k
  · have F := NO 3 (sealC_kind h2) (by omega)
    clear NO hz hR
    go_enter Tryd.func47, Tryd.ntmps47
    go_wp2_with fail
    refine (isSum_any _ _).mono ?_
    rintro r w' ⟨rfl, rfl⟩
    go_wp2_with fail
    refine (isSeq_any _ _).mono ?_
    rintro r w' ⟨rfl, rfl⟩
    go_wp2_with fail
    refine (isKind_any _ _).mono ?_
    rintro r w' ⟨rfl, rfl⟩
    go_wp2_with fail
    exact bodyPost_ret (v := R5 3 0 0 none 0 0 0) (by simp [results, Tryd.results47, go_sem]) rfl F
  by_cases h3 : 60 < n
  · have F := NO 2 (sealC_long h0 h1 h2 h3) (by omega)
    clear NO hz hR
    go_enter Tryd.func47, Tryd.ntmps47
    go_wp2_with fail
    refine (isSum_any _ _).mono ?_
    rintro r w' ⟨rfl, rfl⟩
    go_wp2_with fail
    refine (isSeq_any _ _).mono ?_
    rintro r w' ⟨rfl, rfl⟩
    go_wp2_with fail
    refine (isKind_any _ _).mono ?_
    rintro r w' ⟨rfl, rfl⟩
    go_wp2_with fail
    exact bodyPost_ret (v := R5 2 0 0 none 0 0 0) (by simp [results, Tryd.results47, go_sem]) rfl F
  have HY := Lib.hid (show M.sealC key s k zs.length = 0 by rw [hz]; exact sealC_ok h0 h1 h2 h3)
  have b0 := bal (Below.refl _ w) (.cells #[.int .i64 0, .int .i64 0, .int .i64 0, .slice none 0 0, .int .i64 0] 68)
  have A0 := At.new w (L5 0 0 0 none 0 0 0) 68
  have lab0 := lab.on b0
  have T1 := turnData_any key s a n c B zs _ lab0 (hR.below (b0.mono hB)) (by have := b0.size; omega) h0 h1 (by omega)
  have HL := Lib.hid ((M.turnL_length key s zs).trans hz)
  have HW := Lib.hid (fun z hz => byte_wf (M.turnL_byte (key := key) (seq := s) hR.bytes z hz))
  clear NO hz hR
  go_enter Tryd.func47, Tryd.ntmps47
  go_wp2_with fail
  refine (isSum_any _ _).mono ?_
  rintro r w' ⟨rfl, rfl⟩
  go_wp2_with fail
  refine (isSeq_any _ _).mono ?_
  rintro r w' ⟨rfl, rfl⟩
  go_wp2_with fail
  refine (isKind_any _ _).mono ?_
  rintro r w' ⟨rfl, rfl⟩
  go_wp2_with fail
  generalize w.alloc (.cells #[.int .i64 0, .int .i64 0, .int .i64 0, .slice none 0 0, .int .i64 0] 68) = W0 at *
  refine T1.mono ?_
  rintro r w1 ⟨a1, n1, c1, rfl, O1, b1⟩
  have l1 : n1 = n := O1.len.trans HL.out
  subst l1
  have bb := bal b1 (.cells #[.int .i64 s, .int .i64 k, .slice a1 n1 c1, .int .i64 0] 66)
  have A1 := At.new w1 (L4 s k a1 n1 c1 0) 66
  have O1a := O1.alloc (.cells #[.int .i64 s, .int .i64 k, .slice a1 n1 c1, .int .i64 0] 66)
  have A0a := A0.on bb
  have lab1 := lab0.on bb
  have lt0 : w.heap.size < w1.heap.size := (A0.on b1).lt (by simp)
  have off1 := O1.offHi (Nat.le_refl _)
  have off0 := O1.offLo (g := w.heap.size) (A0.lt (by simp))
  have leW : w.heap.size ≤ W0.heap.size := b0.size
  have B1 := btr b0 bb
  clear T1 O1 b1 bb A0 b0
  go_wp2_with fail
  generalize w1.alloc (.cells #[.int .i64 s, .int .i64 k, .slice a1 n1 c1, .int .i64 0] 66) = v1 at *
  refine (sealTag_any key s k a1 n1 c1 0 _ _ _ lab1 (Own.row O1a HW.out) (Nat.le_refl _) h0 h1 (M.kind_sum h2)).mono ?_
  rintro r w2 ⟨rfl, b2⟩
  have p0 := (A1.on b2).cell 0 _ rfl
  have p1 := (A1.on b2).cell 1 _ rfl
  have p2 := (A1.on b2).cell 2 _ rfl
  have p3 := (A1.on b2).cell 3 _ rfl
  have f0 := (A1.on b2).free 0 _ rfl
  have f1 := (A1.on b2).free 1 _ rfl
  have f2 := (A1.on b2).free 2 _ rfl
  have f3 := (A1.on b2).free 3 _ rfl
  have q0 := (A0a.on b2).cell 0 _ rfl
  have q1 := (A0a.on b2).cell 1 _ rfl
  have q2 := (A0a.on b2).cell 2 _ rfl
  have q3 := (A0a.on b2).cell 3 _ rfl
  have q4 := (A0a.on b2).cell 4 _ rfl
  have z0 := (A0a.on b2).free 0 _ rfl
  have z1 := (A0a.on b2).free 1 _ rfl
  have z2 := (A0a.on b2).free 2 _ rfl
  have z3 := (A0a.on b2).free 3 _ rfl
  have z4 := (A0a.on b2).free 4 _ rfl
  have O2 := Own.below O1a b2
  have HT := Lib.hid (And.intro O2 (And.intro (btr B1 b2) (And.intro off0 off1)))
  clear A1 A0a O1a b2 B1 O2 off0 off1
  go_wp2_with fail
  refine bodyPost_ret (v := R5 0 s k a1 n1 c1 (M.recT key s k (M.turnL key s zs))) (by simp [results, Tryd.results47, go_sem, q0, q1, q2, q3, q4]) rfl ?_
  refine SealRes.yes HY.out ⟨_, _, _, rfl, ?_, ?_⟩
  · iterate 5 (refine Own.setCell ?_ (fun k hk => HT.out.2.2.1 k hk) _)
    refine Own.setCell ?_ (fun k hk => HT.out.2.2.2 k hk) _
    exact HT.out.1.less leW
  · exact (by (iterate 6 (refine bset ?_ (by dsimp only; omega) _)); exact HT.out.2.1)

theorem implOpenRecord_any (key q s k : Int) (a : Option Addr) (n c : Nat) (t : Int) (B : Nat) (zs : List Int) (w : World) (lab : Labels w) (hR : Row .u8 w B a n c zs) (hB : B ≤ w.heap.size) :
    Calls Tryd.prog 49 #[.int .i64 key, .int .i64 q, R4 s k a n c t] w (BytesRes (M.openC key q s k zs t) (M.openL key q s k zs t) w) := by
  have hmx := Nat.le_trans hR.fits hR.most
  have hz := hR.length
  have b0 := bal (bal (Below.refl _ w) (.cells #[.int .i64 s, .int .i64 k, .slice a n c, .int .i64 t] 66)) (.cells #[.int .i64 0, .slice none 0 0] 44)
  have b3 := bal (bal (Below.refl _ w) (.cells #[.int .i64 s, .int .i64 k, .slice a n c, .int .i64 t] 66)) (.cells #[.int .i64 3, .slice none 0 0] 44)
  have A1 := (At.new w (L4 s k a n c t) 66).alloc (.cells #[.int .i64 0, .slice none 0 0] 44)
  have A2 := At.new (w.alloc (.cells #[.int .i64 s, .int .i64 k, .slice a n c, .int .i64 t] 66)) [.int .i64 0, .slice none 0 0] 44
  simp only [World.size_alloc] at A1 A2
  have F := fun w => implRecordFault_any s k a n c t w hmx
  cases h0 : M.sumB key
  · have eC : M.openC key q s k zs t = 3 := by simp [M.openC, h0]
    have eL : M.openL key q s k zs t = [] := by unfold M.openL; rw [eC]; simp
    rw [eC, eL]
    clear hR eC eL A1 A2 F hz
    go_enter Tryd.func49, Tryd.ntmps49
    go_wp2_with fail
    refine (isSum_any _ _).mono ?_
    rintro r w' ⟨rfl, rfl⟩
    go_wp2_with fail
    exact bodyPost_ret (v := .agg #[.int .i64 3, .slice none 0 0]) (by simp [results, Tryd.results49, go_sem]) rfl ⟨_, _, _, rfl, Own.nil _ _ _, b3⟩
  cases h1 : M.sumB q
  · have eC : M.openC key q s k zs t = 3 := by simp [M.openC, h1]
    have eL : M.openL key q s k zs t = [] := by unfold M.openL; rw [eC]; simp
    rw [eC, eL]
    clear hR eC eL A1 A2 F hz
    go_enter Tryd.func49, Tryd.ntmps49
    go_wp2_with fail
    refine (isSum_any _ _).mono ?_
    rintro r w' ⟨rfl, rfl⟩
    go_wp2_with fail
    refine (isSeq_any _ _).mono ?_
    rintro r w' ⟨rfl, rfl⟩
    go_wp2_with fail
    exact bodyPost_ret (v := .agg #[.int .i64 3, .slice none 0 0]) (by simp [results, Tryd.results49, go_sem]) rfl ⟨_, _, _, rfl, Own.nil _ _ _, b3⟩
  have R0 := hR.below (b0.mono hB)
  have hWB : B ≤ ((w.alloc (.cells #[.int .i64 s, .int .i64 k, .slice a n c, .int .i64 t] 66)).alloc (.cells #[.int .i64 0, .slice none 0 0] 44)).heap.size := by simp; omega
  have lab0 := lab.on b0
  have NO := fun (e : Int) (h : M.openC key q s k zs t = e) (he : e ≠ 0) (w' : World) (hb : Below w.heap.size w w') => show BytesRes (M.openC key q s k zs t) (M.openL key q s k zs t) w (.returned (.agg #[.int .i64 e, .slice none 0 0])) w' from by
    have e2 : M.openL key q s k zs t = [] := by unfold M.openL; rw [h, if_neg he]
    rw [h, e2]
    exact ⟨_, _, _, rfl, Own.nil _ _ _, hb⟩
  clear hR b3
  by_cases hf : M.recF s k t n = 0
  · obtain ⟨hs, hd, ht, hn⟩ := M.recF_zero hf
    rw [hf] at F
    by_cases h2 : s = q
    · have e1 : (s != q) = false := by rw [h2]; exact bne_self_eq_false _
      have T1 := fun w' lab hR hB => sealTag_any key s k a n c t B zs w' lab hR hB h0 hs (M.kind_sum hd)
      by_cases h3 : t = M.recT key s k zs
      · have eC : M.openC key q s k zs t = 0 := by unfold M.openC; rw [hz, hf, h0, h1]; simp [h2, h3]
        have eL : M.openL key q s k zs t = M.turnL key q zs := by unfold M.openL; rw [eC]; simp
        rw [eC, eL]
        have T2 := fun w' lab hR hB => turnData_any key q a n c B zs w' lab hR hB h0 h1 (by omega)
        rw [← h3] at T1
        clear eC eL NO hf h2 h3 hz
        go_enter Tryd.func49, Tryd.ntmps49
        go_wp2_with fail
        refine (isSum_any _ _).mono ?_
        rintro r w' ⟨rfl, rfl⟩
        go_wp2_with fail
        refine (isSeq_any _ _).mono ?_
        rintro r w' ⟨rfl, rfl⟩
        go_wp2_with fail
        generalize (w.alloc (.cells #[.int .i64 s, .int .i64 k, .slice a n c, .int .i64 t] 66)).alloc (.cells #[.int .i64 0, .slice none 0 0] 44) = W0 at *
        refine (F _).mono ?_
        rintro r w1 ⟨rfl, b1⟩
        have d0 := (A1.on b1).cell 0 _ rfl
        have d1 := (A1.on b1).cell 1 _ rfl
        have d2 := (A1.on b1).cell 2 _ rfl
        have d3 := (A1.on b1).cell 3 _ rfl
        have R1 := R0.below (b1.mono hWB)
        have hw1 := b1.size
        go_wp2_with fail
        refine wp_region_line (Bel w1) [(0, true), (1, true), (2, true), (3, true), (4, false), (5, true)] (by kernel_rfl) (by kernel_rfl) (fun _ _ d _ _ h => by cases d <;> exact h) (Bel.drew w1) ?_
        have hst := Bel.drew w1
        have inst : Nonempty (Of (Bel w1)) := ⟨⟨_, hst⟩⟩
        have u0 := bel_cell d0
        have u1 := bel_cell d1
        have u2 := bel_cell d2
        have u3 := bel_cell d3
        iterate 4 (refine line_read rfl (by kernel_rfl) (fun K hK => ?_); go_big_quiet_op; refine hK _ ?_; clear hK K)
        refine line_alone rfl (by kernel_rfl) (fun K hK => ?_)
        refine call_wp (args := #[.int .i64 key, R4 s k a n c t]) rfl (by kernel_rfl) (by kernel_rfl) (T1 _ ((lab0.on b1).on hst.out) (R1.below (hst.out.mono (by omega))) (by have := hst.out.size; omega)) (fun wn hbn => ?_)
        have hst2 := hst.on hbn
        refine hK _ _ hst2 ?_
        clear hK K hst hbn
        have hst := hst2
        clear hst2
        simp only [Act.put, List.setIfInBounds_toArray, List.set_cons_zero, List.set_cons_succ]
        iterate 1 (refine line_read rfl (by kernel_rfl) (fun K hK => ?_); go_big_quiet_op; refine hK _ ?_; clear hK K)
        refine line_nil ?_
        have bb := btr b1 hst.out
        have x2 := (A1.on bb).cell 2 _ rfl
        have lab2 := lab0.on bb
        have R2 := R0.below (bb.mono hWB)
        have AR := A2.on bb
        have B2 := btr b0 bb
        have lt2 := AR.lt (by simp)
        have hw2 := bb.size
        clear hst inst u0 u1 u2 u3 d0 d1 d2 d3 b1 R1 A1 A2 b0 bb
        go_wp2_with fail
        refine (T2 _ lab2 R2 (by omega)).mono ?_
        rintro r w3 ⟨a3, n3, c3, rfl, O3, b3⟩
        have p0 := (AR.on b3).cell 0 _ rfl
        have p1 := (AR.on b3).cell 1 _ rfl
        have z0 := (AR.on b3).free 0 _ rfl
        have z1 := (AR.on b3).free 1 _ rfl
        have HT := Lib.hid (And.intro O3 (btr B2 b3))
        clear O3 b3 R2 AR B2 lab2
        go_wp2_with fail
        refine bodyPost_ret (v := .agg #[.int .i64 0, .slice a3 n3 c3]) (by simp [results, Tryd.results49, go_sem, p0, p1]) rfl ?_
        exact ⟨_, _, _, rfl, (by (iterate 2 (refine Own.setCell ?_ (fun g hg => by have := (HT.out.1.lt g hg).1; dsimp only; omega) _)); exact HT.out.1.less (by omega)), (by (iterate 2 (refine bset ?_ (by dsimp only; omega) _)); exact HT.out.2)⟩
      · have FN := Lib.hid (NO 9 (by unfold M.openC; rw [hz, hf, h0, h1]; simp [h2]; rw [← h2]; simp [h3]) (by omega))
        have e2 : (t != M.recT key s k zs) = true := by simpa [bne] using h3
        generalize M.recT key s k zs = tg at *
        clear NO hf h2 h3 hz
        go_enter Tryd.func49, Tryd.ntmps49
        go_wp2_with fail
        refine (isSum_any _ _).mono ?_
        rintro r w' ⟨rfl, rfl⟩
        go_wp2_with fail
        refine (isSeq_any _ _).mono ?_
        rintro r w' ⟨rfl, rfl⟩
        go_wp2_with fail
        generalize (w.alloc (.cells #[.int .i64 s, .int .i64 k, .slice a n c, .int .i64 t] 66)).alloc (.cells #[.int .i64 0, .slice none 0 0] 44) = W0 at *
        refine (F _).mono ?_
        rintro r w1 ⟨rfl, b1⟩
        have d0 := (A1.on b1).cell 0 _ rfl
        have d1 := (A1.on b1).cell 1 _ rfl
        have d2 := (A1.on b1).cell 2 _ rfl
        have d3 := (A1.on b1).cell 3 _ rfl
        have R1 := R0.below (b1.mono hWB)
        have hw1 := b1.size
        go_wp2_with fail
        refine wp_region_line (Bel w1) [(0, true), (1, true), (2, true), (3, true), (4, false), (5, true)] (by kernel_rfl) (by kernel_rfl) (fun _ _ d _ _ h => by cases d <;> exact h) (Bel.drew w1) ?_
        have hst := Bel.drew w1
        have inst : Nonempty (Of (Bel w1)) := ⟨⟨_, hst⟩⟩
        have u0 := bel_cell d0
        have u1 := bel_cell d1
        have u2 := bel_cell d2
        have u3 := bel_cell d3
        iterate 4 (refine line_read rfl (by kernel_rfl) (fun K hK => ?_); go_big_quiet_op; refine hK _ ?_; clear hK K)
        refine line_alone rfl (by kernel_rfl) (fun K hK => ?_)
        refine call_wp (args := #[.int .i64 key, R4 s k a n c t]) rfl (by kernel_rfl) (by kernel_rfl) (T1 _ ((lab0.on b1).on hst.out) (R1.below (hst.out.mono (by omega))) (by have := hst.out.size; omega)) (fun wn hbn => ?_)
        have hst2 := hst.on hbn
        refine hK _ _ hst2 ?_
        clear hK K hst hbn
        have hst := hst2
        clear hst2
        simp only [Act.put, List.setIfInBounds_toArray, List.set_cons_zero, List.set_cons_succ]
        iterate 1 (refine line_read rfl (by kernel_rfl) (fun K hK => ?_); go_big_quiet_op; refine hK _ ?_; clear hK K)
        refine line_nil ?_
        have bb := btr b1 hst.out
        have p0 := (A2.on bb).cell 0 _ rfl
        have p1 := (A2.on bb).cell 1 _ rfl
        have z0 := (A2.on bb).free 0 _ rfl
        have z1 := (A2.on bb).free 1 _ rfl
        have B2 := btr b0 bb
        clear hst inst u0 u1 u2 u3 d0 d1 d2 d3 b1 R1 A1 A2 b0 bb
        go_wp2_with fail
        refine bodyPost_ret (v := .agg #[.int .i64 9, .slice none 0 0]) (by simp [results, Tryd.results49, go_sem, p0, p1]) rfl ?_
        exact FN.out _ (by (iterate 2 (refine bset ?_ (by dsimp only; omega) _)); exact B2)
    · have e1 : (s != q) = true := by simpa [bne] using h2
      have FN := Lib.hid (NO 8 (by unfold M.openC; rw [hz, hf, h0, h1]; simp [h2]) (by omega))
      clear NO hf h2 hz
      go_enter Tryd.func49, Tryd.ntmps49
      go_wp2_with fail
      refine (isSum_any _ _).mono ?_
      rintro r w' ⟨rfl, rfl⟩
      go_wp2_with fail
      refine (isSeq_any _ _).mono ?_
      rintro r w' ⟨rfl, rfl⟩
      go_wp2_with fail
      generalize (w.alloc (.cells #[.int .i64 s, .int .i64 k, .slice a n c, .int .i64 t] 66)).alloc (.cells #[.int .i64 0, .slice none 0 0] 44) = W0 at *
      refine (F _).mono ?_
      rintro r w1 ⟨rfl, b1⟩
      have d0 := (A1.on b1).cell 0 _ rfl
      have d1 := (A1.on b1).cell 1 _ rfl
      have d2 := (A1.on b1).cell 2 _ rfl
      have d3 := (A1.on b1).cell 3 _ rfl
      have p0 := (A2.on b1).cell 0 _ rfl
      have p1 := (A2.on b1).cell 1 _ rfl
      have z0 := (A2.on b1).free 0 _ rfl
      have z1 := (A2.on b1).free 1 _ rfl
      have B2 := btr b0 b1
      clear b1 A1 A2 b0 R0
      go_wp2_with fail
      refine bodyPost_ret (v := .agg #[.int .i64 8, .slice none 0 0]) (by simp [results, Tryd.results49, go_sem, p0, p1]) rfl ?_
      exact FN.out _ (by (iterate 2 (refine bset ?_ (by dsimp only; omega) _)); exact B2)
  · have FN := Lib.hid (NO (M.recF s k t n) (by unfold M.openC; rw [hz, h0, h1]; simp [hf]) hf)
    have e0 : (M.recF s k t n != 0) = true := by simpa [bne] using hf
    generalize M.recF s k t n = cd at *
    clear NO hf hz
    go_enter Tryd.func49, Tryd.ntmps49
    go_wp2_with fail
    refine (isSum_any _ _).mono ?_
    rintro r w' ⟨rfl, rfl⟩
    go_wp2_with fail
    refine (isSeq_any _ _).mono ?_
    rintro r w' ⟨rfl, rfl⟩
    go_wp2_with fail
    generalize (w.alloc (.cells #[.int .i64 s, .int .i64 k, .slice a n c, .int .i64 t] 66)).alloc (.cells #[.int .i64 0, .slice none 0 0] 44) = W0 at *
    refine (F _).mono ?_
    rintro r w1 ⟨rfl, b1⟩
    have p0 := (A2.on b1).cell 0 _ rfl
    have p1 := (A2.on b1).cell 1 _ rfl
    have z0 := (A2.on b1).free 0 _ rfl
    have z1 := (A2.on b1).free 1 _ rfl
    have B2 := btr b0 b1
    clear b1 A1 A2 b0 R0
    go_wp2_with fail
    refine bodyPost_ret (v := .agg #[.int .i64 cd, .slice none 0 0]) (by simp [results, Tryd.results49, go_sem, p0, p1]) rfl ?_
    exact FN.out _ (by (iterate 2 (refine bset ?_ (by dsimp only; omega) _)); exact B2)
end Go.Proofs.YtjlhldndomaknaaDoor
