/- Contracts of how records are laid into bytes, by the program and by its model. Conditions: as each theorem states. -/
import Derived.Test.YtjlhldndomaknaaDoorC4b
import Derived.Deep.CutRange
namespace Go.Proofs.YtjlhldndomaknaaDoor
open Go.RowKit
set_option maxRecDepth 100000
set_option linter.unusedVariables false

/-- The bytes ahead of a record's data. -/
def headL (s k : Int) (n : Nat) : List Int := M.two s ++ [k, (n : Int)]
def HeadRel (V : World) (zs : List Int) (v : Value) (wx : World) : Prop := OwnK .u8 wx V.heap.size v zs ∧ Below V.heap.size V wx

theorem implPackRecord_yes (s k : Int) (a : Option Addr) (n c : Nat) (t : Int) (B : Nat) (zs : List Int) (w : World) (hR : Row .u8 w B a n c zs) (hB : B ≤ w.heap.size) (h : M.recF s k t n = 0) :
    Calls Tryd.prog 53 #[R4 s k a n c t] w (BytesRes 0 (M.packR s k zs t) w) := by
  obtain ⟨hs, hk, ht, hn⟩ := M.recF_zero h
  obtain ⟨k0, k1⟩ := M.kindB_bd hk
  have hmx : n ≤ maxLen := by simp only [maxLen]; omega
  obtain ⟨i0, hi0, hz0, hz1, hz2⟩ := info_parts u8_info
  have hmk : ∀ W : World, (Instr.makeSlice 22 (.int .i64 0) (.int .i64 (4 + (n : Int) + 2))).run Tryd.prog W = .ok (.slice (some ⟨W.heap.size, 0, none⟩) 0 (4 + n + 2)) (W.alloc (.cells (madeCells #[.int .u8 0] (4 + n + 2)) 5)) := by
    intro W
    have := run_make (P := Tryd.prog) W 22 5 i0 (.int .u8 0) Tryd.underlying22 hi0 hz0 .i64 .i64 0 (4 + n + 2) (by omega) (by omega) (by rw [hz2]; omega) (by omega)
    simpa [hz1, Value.cells, show (4 + (n : Int) + 2).toNat = 4 + n + 2 by omega] using this
  have F := fun w => implRecordFault_any s k a n c t w hmx
  rw [h] at F
  clear h hk
  have b0 := bal (bal (Below.refl _ w) (.cells #[.int .i64 s, .int .i64 k, .slice a n c, .int .i64 t] 66)) (.cells #[.int .i64 0, .slice none 0 0] 44)
  have A1 := (At.new w (L4 s k a n c t) 66).alloc (.cells #[.int .i64 0, .slice none 0 0] 44)
  have A2 := At.new (w.alloc (.cells #[.int .i64 s, .int .i64 k, .slice a n c, .int .i64 t] 66)) [.int .i64 0, .slice none 0 0] 44
  simp only [World.size_alloc] at A1 A2
  have R1 := hR.below (b0.mono hB)
  have hL := Lib.hid hR.length
  clear hR
  go_enter Tryd.func53, Tryd.ntmps53
  go_wp2_with fail
  generalize (w.alloc (.cells #[.int .i64 s, .int .i64 k, .slice a n c, .int .i64 t] 66)).alloc (.cells #[.int .i64 0, .slice none 0 0] 44) = W0 at *
  refine (F _).mono ?_
  rintro r V ⟨rfl, h1⟩
  have bV := btr b0 h1
  have AV := A1.on h1
  have RV := (R1.below (h1.mono (by have := b0.size; omega))).more (show B ≤ V.heap.size by have := bV.size; omega)
  have AR := A2.on h1
  have ltV := AR.lt (by simp)
  have d0 := AV.cell 0 _ rfl
  have d1 := AV.cell 1 _ rfl
  have d2 := AV.cell 2 _ rfl
  have d3 := AV.cell 3 _ rfl
  clear b0 h1 A1 A2 R1
  have O1 : OwnK .u8 (V.alloc (.cells (madeCells #[.int .u8 0] (4 + n + 2)) 5)) V.heap.size (.slice (some ⟨V.heap.size, 0, none⟩) 0 (4 + n + 2)) [] := by
    have := Own.made (size := 1) (B := V.heap.size) V (madeCells #[.int .u8 0] (4 + n + 2)) 5 (4 + n + 2) (Nat.le_refl _) (by simp only [maxLen]; omega) (by rw [size_madeCells]; omega)
    simpa [OwnK] using this
  go_upto_region 5 with fail
  go_cut [4] from 17 to 29 (fun v wx => HeadRel V (headL s k n) v wx)
  case first =>
    have S0 : Bel V (V.alloc (.cells (madeCells #[.int .u8 0] (4 + n + 2)) 5)).drew := ⟨(bal (Below.refl _ V) _).drew⟩
    have O2 := O1.drew
    clear O1
    refine wp_region_fork (Bel V) (by kernel_rfl) (S0) ?_
    have hst : (Bel V) _ := (S0)
    have inst : Nonempty (Of (Bel V)) := ⟨⟨_, hst⟩⟩
    have u0 := bel_cell d0
    have u1 := bel_cell d1
    have u2 := bel_cell d2
    generalize (V.alloc (.cells (madeCells #[.int .u8 0] (4 + n + 2)) 5)).drew = V1 at *
    clear S0
    refine any_seg 4 [(0, true), (1, true), (2, true), (4, true), (5, true), (6, true), (7, true), (8, true), (9, true), (10, true)] (by kernel_rfl) (fun _ _ d _ _ h => by cases d <;> exact h) ?_
    iterate 10 (refine line_read rfl (by kernel_rfl) (fun K hK => ?_); go_big_quiet_op; refine hK _ ?_; clear hK K)
    refine line_nil ?_
    refine any_fork 3 11 (by kernel_rfl) rfl rfl (by kernel_rfl) (by kernel_rfl) (fun K hK => ?_) (fun K hK => ?_)
    · refine call_any (args := #[.slice (some ⟨V.heap.size, 0, none⟩) 0 (4 + n + 2), .int .i64 s]) rfl (by kernel_rfl) (by kernel_rfl) (appendTwo_any _ s V.heap.size [] V1 O2 hst.out.size hs (by simp)) ?_
      rintro e w3 ⟨v3, rfl, O3, g3⟩
      have st3 : Bel V w3 := ⟨O2.grown hst.out hst.out.size g3⟩
      rw [List.nil_append] at O3
      refine ⟨_, rfl, hK _ _ st3 ?_⟩
      clear hK K hst O2 g3
      simp only [Act.put, List.setIfInBounds_toArray, List.set_cons_zero, List.set_cons_succ]
      refine any_rest [(11, false), (12, false), (13, true)] (by kernel_rfl) (fun _ _ d _ _ h => by cases d <;> exact h) ?_
      refine line_alone rfl (by kernel_rfl) (fun K hK => ?_)
      go_big_op
      refine hK _ _ (st3.on (bal (Below.refl _ _) _)) ?_
      clear hK K
      refine line_alone rfl (by kernel_rfl) (fun K hK => ?_)
      refine wp_append_src _ (.tmp 20) (.tmp 28) 22 22 rfl V.heap.size 5 i0 (.int .u8 0) 1 1 Tryd.underlying22 hi0 hz0 hz1 hz2 rfl v3 2 ((M.two s).map (Value.int .u8)) rfl (O3.alloc _) _ 2 [.int .u8 k, .int .u8 n] rfl (src_new w3 _ 2 2 _ _ _ Tryd.underlying22 rfl (ints_oneCell .u8 [k, n])) (by simp only [maxLen]; omega) (by omega) (by have := st3.out.size; simp; omega) (fun v4 w4 hown hgrow hat => ?_)
      have b4 : Below V.heap.size V w4 := (O3.alloc (.cells #[.int .u8 k, .int .u8 n] 5)).grown (bal st3.out _) (by have := st3.out.size; simp; omega) hgrow
      have O4 : OwnK .u8 w4 V.heap.size v4 (headL s k n) := by unfold OwnK headL; simpa [M.two] using hown
      refine hK _ _ ⟨b4⟩ ?_
      have HT := Lib.hid (show HeadRel V (headL s k n) v4 w4 from ⟨O4, b4⟩)
      clear hK K st3 O3 hown hgrow hat b4 O4
      simp only [Act.put, List.setIfInBounds_toArray, List.set_cons_zero, List.set_cons_succ]
      iterate 1 (refine line_read rfl (by kernel_rfl) (fun K hK => ?_); go_big_quiet_op; refine hK _ ?_; clear hK K)
      refine line_nil ?_
      go_wp2_with fail
      go_meet
      case rel => exact HT.out
    · go_big_op
      have ltV1 : V.heap.size < V1.heap.size := (O2.lt V.heap.size rfl).2
      have st2 := hst.on (bal (Below.refl _ V1) (.cells #[.int .u8 k, .int .u8 n] 5))
      have O2' := O2.alloc (.cells #[.int .u8 k, .int .u8 n] 5)
      have e2 : (V1.alloc (.cells #[.int .u8 k, .int .u8 n] 5)).heap[V1.heap.size]? = some (.cells #[.int .u8 k, .int .u8 n] 5) := (MapKept.heap_alloc V1 _).1
      have hlt2 : V1.heap.size < (V1.alloc (.cells #[.int .u8 k, .int .u8 n] 5)).heap.size := by simp
      refine hK _ _ st2 ?_
      clear hK K hst O2
      refine any_rest [(3, false), (12, false), (13, true)] (by kernel_rfl) (fun _ _ d _ _ h => by cases d <;> exact h) ?_
      generalize V1.alloc (.cells #[.int .u8 k, .int .u8 n] 5) = V2 at *
      refine line_alone rfl (by kernel_rfl) (fun K hK => ?_)
      refine call_any (args := #[.slice (some ⟨V.heap.size, 0, none⟩) 0 (4 + n + 2), .int .i64 s]) rfl (by kernel_rfl) (by kernel_rfl) (appendTwo_any _ s V.heap.size [] V2 O2' st2.out.size hs (by simp)) ?_
      rintro e w3 ⟨v3, rfl, O3, g3⟩
      have st3 : Bel V w3 := ⟨O2'.grown st2.out st2.out.size g3⟩
      have e3 := (g3.block V1.heap.size hlt2 (fun e => by simp [Value.ownBlock] at e; omega)).trans e2
      rw [List.nil_append] at O3
      refine ⟨_, rfl, hK _ _ st3 ?_⟩
      clear hK K st2 O2' g3 e2
      simp only [Act.put, List.setIfInBounds_toArray, List.set_cons_zero, List.set_cons_succ]
      refine line_alone rfl (by kernel_rfl) (fun K hK => ?_)
      refine wp_append_src _ (.tmp 20) (.tmp 28) 22 22 rfl V.heap.size 5 i0 (.int .u8 0) 1 1 Tryd.underlying22 hi0 hz0 hz1 hz2 rfl v3 2 ((M.two s).map (Value.int .u8)) rfl O3 _ 2 [.int .u8 k, .int .u8 n] rfl (src_at V1.heap.size _ 2 2 _ _ _ Tryd.underlying22 rfl (ints_oneCell .u8 [k, n]) e3) (by simp only [maxLen]; omega) (by omega) st3.out.size (fun v4 w4 hown hgrow hat => ?_)
      have b4 : Below V.heap.size V w4 := O3.grown st3.out st3.out.size hgrow
      have O4 : OwnK .u8 w4 V.heap.size v4 (headL s k n) := by unfold OwnK headL; simpa [M.two] using hown
      refine hK _ _ ⟨b4⟩ ?_
      have HT := Lib.hid (show HeadRel V (headL s k n) v4 w4 from ⟨O4, b4⟩)
      clear hK K st3 O3 hown hgrow hat b4 O4 e3
      simp only [Act.put, List.setIfInBounds_toArray, List.set_cons_zero, List.set_cons_succ]
      iterate 1 (refine line_read rfl (by kernel_rfl) (fun K hK => ?_); go_big_quiet_op; refine hK _ ?_; clear hK K)
      refine line_nil ?_
      go_wp2_with fail
      go_meet
      case rel => exact HT.out
  case rest =>
    obtain ⟨O4, b4⟩ := hcut
    obtain ⟨a4, c4, hv, -⟩ := O4.form
    have hl4 : (headL s k n).length = 4 := rfl
    rw [hl4] at hv
    have R4' := RV.below b4
    have hsrc := R4'.src (P := Tryd.prog) (tx := 22) Tryd.underlying22
    have A4 := AV.on b4
    have x0 := A4.cell 0 _ rfl
    have x1 := A4.cell 1 _ rfl
    have x2 := A4.cell 2 _ rfl
    have x3 := A4.cell 3 _ rfl
    have AR4 := AR.on b4
    have hz4 := b4.size
    clear AV AR RV R4' d0 d1 d2 d3 O1
    subst hv
    have Hne := Lib.hid (fun g (hg : g < V.heap.size) => show some g ≠ Value.ownBlock (.slice a4 4 c4) from fun e => by have := (O4.lt g e.symm).1; omega)
    go_wp2_with (at_builtin; refine wpList_append_src _ rfl (.tmp 30) (.tmp 32) 22 22 rfl V.heap.size 5 i0 (.int .u8 0) 1 1 Tryd.underlying22 hi0 hz0 hz1 hz2 rfl _ _ _ rfl O4 _ n _ rfl hsrc (by rw [hl4]; simp only [maxLen]; omega) (by rw [hl4]; omega) hz4 ?_; intro v5 w5 hown hgrow hat; have y3 := (A4.kept hgrow (Hne.out _ (by omega))).cell 3 _ rfl)
    have O5 : OwnK .u8 w5 V.heap.size v5 (headL s k n ++ zs) := by
      unfold OwnK
      rw [List.length_append, hL.out]
      simpa using hown
    have b5 : Below V.heap.size V w5 := O4.grown b4 hz4 hgrow
    have AR5 := AR4.kept hgrow (Hne.out _ ltV)
    have hz5 := b5.size
    clear hown hgrow hat Hne A4 AR4 b4 hsrc hz4 O4
    refine (appendTwo_any v5 t V.heap.size _ _ O5 hz5 ht (by rw [List.length_append, hl4, hL.out]; omega)).mono ?_
    rintro r w6 ⟨v6, rfl, O6, g6⟩
    have b6 := O5.grown b5 hz5 g6
    obtain ⟨a6, c6, hv6, -⟩ := O6.form
    have AR6 := AR5.kept g6 (fun e => by have := (O5.lt _ e.symm).1; omega)
    have q0 := AR6.cell 0 _ rfl
    have q1 := AR6.cell 1 _ rfl
    have z0 := AR6.free 0 _ rfl
    have z1 := AR6.free 1 _ rfl
    have HT := Lib.hid (And.intro O6 (btr bV b6))
    have eP : M.packR s k zs t = headL s k n ++ zs ++ M.two t := by simp [M.packR, headL, hL.out]
    have HE := Lib.hid eP
    clear O5 O6 b5 b6 AR5 AR6 g6 y3 bV eP hl4
    generalize headL s k n ++ zs ++ M.two t = zz at *
    subst hv6
    go_wp2_with fail
    refine bodyPost_ret (v := .agg #[.int .i64 0, .slice a6 zz.length c6]) (by simp [results, Tryd.results53, go_sem, q0, q1]) rfl ?_
    rw [HE.out]
    exact ⟨_, _, _, rfl, (by (iterate 2 (refine Own.setCell ?_ (fun g hg => by have := (HT.out.1.lt g hg).1; dsimp only; omega) _)); exact HT.out.1.less (by omega)), (by (iterate 2 (refine bset ?_ (by dsimp only; omega) _)); exact HT.out.2)⟩

theorem implPackRecord_any (s k : Int) (a : Option Addr) (n c : Nat) (t : Int) (B : Nat) (zs : List Int) (w : World) (hR : Row .u8 w B a n c zs) (hB : B ≤ w.heap.size) :
    Calls Tryd.prog 53 #[R4 s k a n c t] w (BytesRes (M.recF s k t n) (M.packRL s k zs t) w) := by
  by_cases h : M.recF s k t n = 0
  · have := implPackRecord_yes s k a n c t B zs w hR hB h
    have e : M.packRL s k zs t = M.packR s k zs t := by simp [M.packRL, hR.length, h]
    rw [e, h]
    exact this
  · have e : M.packRL s k zs t = [] := by simp [M.packRL, hR.length, h]
    rw [e]
    have F := fun w => implRecordFault_any s k a n c t w (Nat.le_trans hR.fits hR.most)
    have h0 : (M.recF s k t n == 0) = false := by rw [beq_eq_false_iff_ne]; exact h
    have h1 : (M.recF s k t n != 0) = true := by simp [bne, h0]
    have b0 := bal (bal (Below.refl _ w) (.cells #[.int .i64 s, .int .i64 k, .slice a n c, .int .i64 t] 66)) (.cells #[.int .i64 0, .slice none 0 0] 44)
    have A2 := At.new (w.alloc (.cells #[.int .i64 s, .int .i64 k, .slice a n c, .int .i64 t] 66)) [.int .i64 0, .slice none 0 0] 44
    simp only [World.size_alloc] at A2
    generalize M.recF s k t n = cd at *
    clear hR h
    go_enter Tryd.func53, Tryd.ntmps53
    go_wp2_with fail
    generalize (w.alloc (.cells #[.int .i64 s, .int .i64 k, .slice a n c, .int .i64 t] 66)).alloc (.cells #[.int .i64 0, .slice none 0 0] 44) = W0 at *
    refine (F _).mono ?_
    rintro r w1 ⟨rfl, b1⟩
    have q0 := (A2.on b1).cell 0 _ rfl
    have q1 := (A2.on b1).cell 1 _ rfl
    have z0 := (A2.on b1).free 0 _ rfl
    have z1 := (A2.on b1).free 1 _ rfl
    have hb := btr b0 b1
    clear A2 b0 b1 F
    go_wp2_with fail
    refine bodyPost_ret (v := .agg #[.int .i64 cd, .slice none 0 0]) (by simp [results, Tryd.results53, go_sem, q0, q1]) rfl ?_
    exact ⟨_, _, _, rfl, Own.nil _ _ _, (by (iterate 2 (refine bset ?_ (by dsimp only; omega) _)); exact hb)⟩

theorem l4Pack_any (g : Nat) (s k : Int) (a : Option Addr) (n c : Nat) (t : Int) (B : Nat) (zs : List Int) (w : World) (hA : At g (L4 s k a n c t) w) (hR : Row .u8 w B a n c zs) (hB : B ≤ w.heap.size) (h : M.recF s k t n = 0) :
    Calls Tryd.prog 119 #[.pointer (some ⟨g, 0, none⟩)] w (Made (M.packR s k zs t) w) := by
  obtain ⟨hs, hk, ht, hn⟩ := M.recF_zero h
  obtain ⟨k0, k1⟩ := M.kindB_bd hk
  obtain ⟨i0, hi0, hz0, hz1, hz2⟩ := info_parts u8_info
  have hL := Lib.hid hR.length
  have ltg := hA.lt (by simp)
  clear h hk
  have d0 := hA.cell 0 _ rfl
  have d1 := hA.cell 1 _ rfl
  have d2 := hA.cell 2 _ rfl
  have d3 := hA.cell 3 _ rfl
  go_enter Tryd.func119, Tryd.ntmps119
  go_upto_region 1 with fail
  go_cut [3] from 4 to 21 (fun v wx => HeadRel w (headL s k n) v wx)
  case first =>
    refine wp_region_fork (Bel w) (by kernel_rfl) (Bel.drew w) ?_
    have hst : (Bel w) _ := (Bel.drew w)
    have inst : Nonempty (Of (Bel w)) := ⟨⟨_, hst⟩⟩
    have u0 := bel_cell d0
    have u1 := bel_cell d1
    have u2 := bel_cell d2
    have eV := Lib.hid (show w.drew.heap.size = w.heap.size from rfl)
    generalize w.drew = V1 at *
    refine any_seg 4 [(0, true), (1, true), (2, true), (3, true), (5, true), (6, true), (7, true), (8, true), (9, true), (10, true), (11, true), (12, true), (13, true), (14, true), (15, true)] (by kernel_rfl) (fun _ _ d _ _ h => by cases d <;> exact h) ?_
    iterate 15 (refine line_read rfl (by kernel_rfl) (fun K hK => ?_); go_big_quiet_op; refine hK _ ?_; clear hK K)
    refine line_nil ?_
    refine any_fork 4 16 (by kernel_rfl) rfl rfl (by kernel_rfl) (by kernel_rfl) (fun K hK => ?_) (fun K hK => ?_)
    · refine call_any (args := #[.int .i64 s]) rfl (by kernel_rfl) (by kernel_rfl) (l1Two_any s _ hs) ?_
      rintro e w3 ⟨rfl, rfl⟩
      have O3 := own_lit (k := .u8) V1 (M.two s) 2 5 (B := w.heap.size) (by have := eV.out; omega) rfl (by simp only [maxLen]; omega)
      have st3 := hst.on (bal (Below.refl _ V1) (.cells #[.int .u8 (s / 256), .int .u8 (s % 256)] 5))
      have e3 : OwnK .u8 (V1.alloc (.cells #[.int .u8 (s / 256), .int .u8 (s % 256)] 5)) w.heap.size (.slice (some ⟨V1.heap.size, 0, none⟩) 2 2) (M.two s) := O3
      refine ⟨_, rfl, hK _ _ st3 ?_⟩
      clear hK K hst O3
      simp only [Act.put, List.setIfInBounds_toArray, List.set_cons_zero, List.set_cons_succ]
      generalize V1.alloc (.cells #[.int .u8 (s / 256), .int .u8 (s % 256)] 5) = w3 at *
      refine any_rest [(16, false), (17, false), (18, true)] (by kernel_rfl) (fun _ _ d _ _ h => by cases d <;> exact h) ?_
      refine line_alone rfl (by kernel_rfl) (fun K hK => ?_)
      go_big_op
      refine hK _ _ (st3.on (bal (Below.refl _ _) _)) ?_
      clear hK K
      refine line_alone rfl (by kernel_rfl) (fun K hK => ?_)
      refine wp_append_src _ (.tmp 8) (.tmp 20) 22 22 rfl w.heap.size 5 i0 (.int .u8 0) 1 1 Tryd.underlying22 hi0 hz0 hz1 hz2 rfl _ 2 ((M.two s).map (Value.int .u8)) rfl (e3.alloc _) _ 2 [.int .u8 k, .int .u8 n] rfl (src_new w3 _ 2 2 _ _ _ Tryd.underlying22 rfl (ints_oneCell .u8 [k, n])) (by simp only [maxLen]; omega) (by omega) (by have := st3.out.size; simp; omega) (fun v4 w4 hown hgrow hat => ?_)
      have b4 : Below w.heap.size w w4 := (e3.alloc (.cells #[.int .u8 k, .int .u8 n] 5)).grown (bal st3.out _) (by have := st3.out.size; simp; omega) hgrow
      have O4 : OwnK .u8 w4 w.heap.size v4 (headL s k n) := by unfold OwnK headL; simpa [M.two] using hown
      refine hK _ _ ⟨b4⟩ ?_
      have HT := Lib.hid (show HeadRel w (headL s k n) v4 w4 from ⟨O4, b4⟩)
      clear hK K st3 e3 hown hgrow hat b4 O4
      simp only [Act.put, List.setIfInBounds_toArray, List.set_cons_zero, List.set_cons_succ]
      iterate 1 (refine line_read rfl (by kernel_rfl) (fun K hK => ?_); go_big_quiet_op; refine hK _ ?_; clear hK K)
      refine line_nil ?_
      go_wp2_with fail
      go_meet
      case rel => exact HT.out
    · go_big_op
      have st2 := hst.on (bal (Below.refl _ V1) (.cells #[.int .u8 k, .int .u8 n] 5))
      have e2 : (V1.alloc (.cells #[.int .u8 k, .int .u8 n] 5)).heap[V1.heap.size]? = some (.cells #[.int .u8 k, .int .u8 n] 5) := (MapKept.heap_alloc V1 _).1
      have hlt2 : V1.heap.size < (V1.alloc (.cells #[.int .u8 k, .int .u8 n] 5)).heap.size := by simp
      refine hK _ _ st2 ?_
      clear hK K hst
      refine any_rest [(4, false), (17, false), (18, true)] (by kernel_rfl) (fun _ _ d _ _ h => by cases d <;> exact h) ?_
      generalize V1.alloc (.cells #[.int .u8 k, .int .u8 n] 5) = V2 at *
      refine line_alone rfl (by kernel_rfl) (fun K hK => ?_)
      refine call_any (args := #[.int .i64 s]) rfl (by kernel_rfl) (by kernel_rfl) (l1Two_any s _ hs) ?_
      rintro e w3 ⟨rfl, rfl⟩
      have O3 := own_lit (k := .u8) V2 (M.two s) 2 5 (B := w.heap.size) st2.out.size rfl (by simp only [maxLen]; omega)
      have st3 := st2.on (bal (Below.refl _ V2) (.cells #[.int .u8 (s / 256), .int .u8 (s % 256)] 5))
      have e3 := (Below.heap_alloc V2 (.cells #[.int .u8 (s / 256), .int .u8 (s % 256)] 5) V1.heap.size hlt2).trans e2
      refine ⟨_, rfl, hK _ _ st3 ?_⟩
      clear hK K st2 e2
      simp only [Act.put, List.setIfInBounds_toArray, List.set_cons_zero, List.set_cons_succ]
      refine line_alone rfl (by kernel_rfl) (fun K hK => ?_)
      refine wp_append_src _ (.tmp 8) (.tmp 20) 22 22 rfl w.heap.size 5 i0 (.int .u8 0) 1 1 Tryd.underlying22 hi0 hz0 hz1 hz2 rfl _ 2 ((M.two s).map (Value.int .u8)) rfl O3 _ 2 [.int .u8 k, .int .u8 n] rfl (src_at V1.heap.size _ 2 2 _ _ _ Tryd.underlying22 rfl (ints_oneCell .u8 [k, n]) e3) (by simp only [maxLen]; omega) (by omega) st3.out.size (fun v4 w4 hown hgrow hat => ?_)
      have b4 : Below w.heap.size w w4 := O3.grown st3.out st3.out.size hgrow
      have O4 : OwnK .u8 w4 w.heap.size v4 (headL s k n) := by unfold OwnK headL; simpa [M.two] using hown
      refine hK _ _ ⟨b4⟩ ?_
      have HT := Lib.hid (show HeadRel w (headL s k n) v4 w4 from ⟨O4, b4⟩)
      clear hK K st3 O3 hown hgrow hat b4 O4 e3
      simp only [Act.put, List.setIfInBounds_toArray, List.set_cons_zero, List.set_cons_succ]
      iterate 1 (refine line_read rfl (by kernel_rfl) (fun K hK => ?_); go_big_quiet_op; refine hK _ ?_; clear hK K)
      refine line_nil ?_
      go_wp2_with fail
      go_meet
      case rel => exact HT.out
  case rest =>
    obtain ⟨O4, b4⟩ := hcut
    obtain ⟨a4, c4, hv, -⟩ := O4.form
    have hl4 : (headL s k n).length = 4 := rfl
    rw [hl4] at hv
    have hz4 := b4.size
    have hsrc := (hR.below (b4.mono hB)).src (P := Tryd.prog) (tx := 22) Tryd.underlying22
    have A4 := hA.on b4
    have x0 := A4.cell 0 _ rfl
    have x1 := A4.cell 1 _ rfl
    have x2 := A4.cell 2 _ rfl
    have x3 := A4.cell 3 _ rfl
    subst hv
    have Hne := Lib.hid (fun g (hg : g < w.heap.size) => show some g ≠ Value.ownBlock (.slice a4 4 c4) from fun e => by have := (O4.lt g e.symm).1; omega)
    clear hR hA d0 d1 d2 d3
    go_wp2_with (at_builtin; refine wpList_append_src _ rfl (.tmp 22) (.tmp 26) 22 22 rfl w.heap.size 5 i0 (.int .u8 0) 1 1 Tryd.underlying22 hi0 hz0 hz1 hz2 rfl _ _ _ rfl O4 _ n _ rfl hsrc (by rw [hl4]; simp only [maxLen]; omega) (by rw [hl4]; omega) hz4 ?_; intro v5 w5 hown hgrow hat; have y3 := (A4.kept hgrow (Hne.out _ (by omega))).cell 3 _ rfl)
    have O5 : OwnK .u8 w5 w.heap.size v5 (headL s k n ++ zs) := by
      unfold OwnK
      rw [List.length_append, hL.out]
      simpa using hown
    have b5 : Below w.heap.size w w5 := O4.grown b4 hz4 hgrow
    have hz5 := b5.size
    clear hown hgrow hat Hne A4 b4 hsrc hz4 O4
    refine (l1Two_any t _ ht).mono ?_
    rintro r w6 ⟨rfl, rfl⟩
    have hl5 : (headL s k n ++ zs).length ≤ 64 := by rw [List.length_append, hl4, hL.out]; omega
    have O6 := O5.alloc (.cells #[.int .u8 (t / 256), .int .u8 (t % 256)] 5)
    have b6 := bal b5 (.cells #[.int .u8 (t / 256), .int .u8 (t % 256)] 5)
    have HE := Lib.hid (show M.packR s k zs t = headL s k n ++ zs ++ M.two t by simp [M.packR, headL, hL.out])
    generalize headL s k n ++ zs = hd at *
    clear hl4 O5 b5
    go_wp2_with (at_builtin; refine wpList_append_src _ rfl (.tmp 28) (.tmp 33) 22 22 rfl w.heap.size 5 i0 (.int .u8 0) 1 1 Tryd.underlying22 hi0 hz0 hz1 hz2 rfl _ _ _ rfl O6 _ 2 [.int .u8 (t / 256), .int .u8 (t % 256)] rfl (src_new w5 _ 2 2 _ _ _ Tryd.underlying22 rfl (ints_oneCell .u8 [t / 256, t % 256])) (by simp only [maxLen]; omega) (by omega) (by simp; omega) ?_; intro v7 w7 hown hgrow hat)
    have O7 : OwnK .u8 w7 w.heap.size v7 (hd ++ M.two t) := by unfold OwnK; simpa [M.two] using hown
    have b7 : Below w.heap.size w w7 := O6.grown b6 (by simp; omega) hgrow
    obtain ⟨a7, c7, hv7, -⟩ := O7.form
    have HT := Lib.hid (And.intro O7 b7)
    generalize hd ++ M.two t = zz at *
    clear hown hgrow hat O6 O7 b6 b7 hl5
    subst hv7
    go_wp2_with fail
    go_ret
    rw [HE.out]
    exact ⟨_, _, _, rfl, HT.out.1, HT.out.2⟩

end Go.Proofs.YtjlhldndomaknaaDoor
