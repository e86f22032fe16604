/- Contracts of how supplied keys are laid into bytes, by the program and by its model. Conditions: as each theorem states. -/
import Derived.Test.YtdkgiiikcapjcaaDoorC5g
import Derived.Test.YtdkgiiikcapjcaaDoorMath5c
import Derived.Deep.CutRange
namespace Go.Proofs.YtdkgiiikcapjcaaDoor
open Go.RowKit
set_option maxRecDepth 100000
set_option linter.unusedVariables false

/-- The bytes ahead of a supplied key's name. -/
def headT (u m v : Int) : List Int := [u, m] ++ M.two v
theorem headT_length (u m v : Int) : (headT u m v).length = 4 := rfl
def HeadT (V : World) (zs : List Int) (v : Value) (wx : World) : Prop := OwnK .u8 wx V.heap.size v zs ∧ Below V.heap.size V wx
/-- The bytes of a supplied key. -/
def packT (n : ByteArray) (u m v : Int) : List Int := headT u m v ++ M.textL n
def packTL (n : ByteArray) (u m v : Int) : List Int := if M.tlsaF n.data.toList u m v = 0 then packT n u m v else []
theorem tlsa_bounds {n : ByteArray} {u m v : Int} (h : M.tlsaF n.data.toList u m v = 0) : n.size ≤ 20 ∧ 0 ≤ u ∧ u ≤ 3 ∧ 0 ≤ m ∧ m ≤ 1 ∧ M.sumB v = true := by
  obtain ⟨h1, h2, h3⟩ := M.tlsaF_parts h
  have h4 := (M.nameF_zero (M.normF_zero (M.tlsaF_zero h).1).1).1
  have hL : n.data.toList.length = n.size := by simp
  simp only [M.useB, M.matB, decide_eq_true_eq] at h1 h2
  exact ⟨by omega, h1.1, h1.2, h2.1, h2.2, h3⟩
theorem text_src (w : World) (s : ByteArray) (hs : s.size ≤ maxLen) :
    Src Tryd.prog 1 22 (.slice (some ⟨w.heap.size, 0, none⟩) s.size (grownCap w s.size 0 5)) s.size ((M.textL s).map (Value.int .u8)) (w.alloc (textObj w s 5)).drew := by
  have R := Own.row (own_text w s 5 hs) (fun z hz => byte_wf (M.textL_byte s z hz))
  have R2 : Row .u8 (w.alloc (textObj w s 5)).drew (w.alloc (textObj w s 5)).heap.size (some ⟨w.heap.size, 0, none⟩) s.size (grownCap w s.size 0 5) (M.textL s) := R.keep (fun _ _ => rfl)
  exact R2.src Tryd.underlying22

theorem l5Pack_any (g : Nat) (n : ByteArray) (u m v : Int) (w : World) (hA : At g (TL4 n u m v) w) (h : M.tlsaF n.data.toList u m v = 0) :
    Calls Tryd.prog 44 #[.pointer (some ⟨g, 0, none⟩)] w (Made (packT n u m v) w) := by
  obtain ⟨hn, hu0, hu1, hm0, hm1, hv⟩ := tlsa_bounds h
  have hnm : n.size ≤ maxLen := size_max hn
  obtain ⟨i0, hi0, hz0, hz1, hz2⟩ := info_parts u8_info
  have hcv := fun (W : World) => run_bytes_of_string (P := Tryd.prog) W 9 22 5 n Tryd.underlying9 Tryd.underlying22 Tryd.underlying5
  have ltg := hA.lt (by simp)
  clear h
  have d0 := hA.cell 0 _ rfl
  have d1 := hA.cell 1 _ rfl
  have d2 := hA.cell 2 _ rfl
  have d3 := hA.cell 3 _ rfl
  go_enter Tryd.func44, Tryd.ntmps44
  go_upto_region 1 with fail
  go_cut [3] from 4 to 20 (fun v' wx => HeadT w (headT u m v) v' wx)
  case first =>
    clear hcv
    refine wp_region_fork (Bel w) (by kernel_rfl) (Bel.drew w) ?_
    have hst : (Bel w) _ := (Bel.drew w)
    have inst : Nonempty (Of (Bel w)) := ⟨⟨_, hst⟩⟩
    have u1 := bel_cell d1
    have u2 := bel_cell d2
    have u3 := bel_cell d3
    have eV := Lib.hid (show w.drew.heap.size = w.heap.size from rfl)
    generalize w.drew = V1 at *
    refine any_seg 4 [(0, true), (1, true), (2, true), (3, true), (4, true), (5, true), (6, true), (7, true), (8, true), (9, true), (11, true), (12, true), (13, true), (14, true)] (by kernel_rfl) (fun _ _ d _ _ h => by cases d <;> exact h) ?_
    iterate 14 (refine line_read rfl (by kernel_rfl) (fun K hK => ?_); go_big_quiet_op; refine hK _ ?_; clear hK K)
    refine line_nil ?_
    refine any_fork 10 15 (by kernel_rfl) rfl rfl (by kernel_rfl) (by kernel_rfl) (fun K hK => ?_) (fun K hK => ?_)
    · go_big_op
      have st2 := hst.on (bal (Below.refl _ V1) (.cells #[.int .u8 u, .int .u8 m] 5))
      have O2 : OwnK .u8 (V1.alloc (.cells #[.int .u8 u, .int .u8 m] 5)) w.heap.size (.slice (some ⟨V1.heap.size, 0, none⟩) 2 2) [u, m] := own_lit (k := .u8) V1 [u, m] 2 5 (B := w.heap.size) (by have := eV.out; omega) rfl (by simp only [maxLen]; omega)
      refine hK _ _ st2 ?_
      clear hK K hst
      refine any_rest [(15, false), (16, false), (17, true)] (by kernel_rfl) (fun _ _ d _ _ h => by cases d <;> exact h) ?_
      generalize V1.alloc (.cells #[.int .u8 u, .int .u8 m] 5) = V2 at *
      refine line_alone rfl (by kernel_rfl) (fun K hK => ?_)
      refine call_any (args := #[.int .i64 v]) rfl (by kernel_rfl) (by kernel_rfl) (l1Two_any v _ hv) ?_
      rintro e w3 ⟨rfl, rfl⟩
      have st3 := st2.on (bal (Below.refl _ V2) (.cells #[.int .u8 (v / 256), .int .u8 (v % 256)] 5))
      refine ⟨_, rfl, hK _ _ st3 ?_⟩
      clear hK K
      simp only [Act.put, List.setIfInBounds_toArray, List.set_cons_zero, List.set_cons_succ]
      refine line_alone rfl (by kernel_rfl) (fun K hK => ?_)
      refine wp_append_src _ (.tmp 14) (.tmp 19) 22 22 rfl w.heap.size 5 i0 (.int .u8 0) 1 1 Tryd.underlying22 hi0 hz0 hz1 hz2 rfl _ 2 ([u, m].map (Value.int .u8)) rfl (Own.alloc O2 _) _ 2 [.int .u8 (v / 256), .int .u8 (v % 256)] rfl (src_new V2 _ 2 2 _ _ _ Tryd.underlying22 rfl (ints_oneCell .u8 [v / 256, v % 256])) (by simp only [maxLen]; omega) (by omega) (by have := st2.out.size; simp; omega) (fun v4 w4 hown hgrow hat => ?_)
      have b4 : Below w.heap.size w w4 := (Own.alloc O2 (.cells #[.int .u8 (v / 256), .int .u8 (v % 256)] 5)).grown st3.out (by have := st2.out.size; simp; omega) hgrow
      have O4 : OwnK .u8 w4 w.heap.size v4 (headT u m v) := by unfold OwnK headT; simpa [M.two] using hown
      refine hK _ _ ⟨b4⟩ ?_
      have HT := Lib.hid (show HeadT w (headT u m v) v4 w4 from ⟨O4, b4⟩)
      clear hK K st2 st3 O2 hown hgrow hat b4 O4
      simp only [Act.put, List.setIfInBounds_toArray, List.set_cons_zero, List.set_cons_succ]
      iterate 1 (refine line_read rfl (by kernel_rfl) (fun K hK => ?_); go_big_quiet_op; refine hK _ ?_; clear hK K)
      refine line_nil ?_
      go_wp2_with fail
      go_meet
      case rel => exact HT.out
    · refine call_any (args := #[.int .i64 v]) rfl (by kernel_rfl) (by kernel_rfl) (l1Two_any v _ hv) ?_
      rintro e w3 ⟨rfl, rfl⟩
      have st3 := hst.on (bal (Below.refl _ V1) (.cells #[.int .u8 (v / 256), .int .u8 (v % 256)] 5))
      have e3 : (V1.alloc (.cells #[.int .u8 (v / 256), .int .u8 (v % 256)] 5)).heap[V1.heap.size]? = some (.cells #[.int .u8 (v / 256), .int .u8 (v % 256)] 5) := (MapKept.heap_alloc V1 _).1
      have hlt3 : V1.heap.size < (V1.alloc (.cells #[.int .u8 (v / 256), .int .u8 (v % 256)] 5)).heap.size := by simp
      refine ⟨_, rfl, hK _ _ st3 ?_⟩
      clear hK K hst
      simp only [Act.put, List.setIfInBounds_toArray, List.set_cons_zero, List.set_cons_succ]
      generalize V1.alloc (.cells #[.int .u8 (v / 256), .int .u8 (v % 256)] 5) = V3 at *
      refine any_rest [(10, false), (16, false), (17, true)] (by kernel_rfl) (fun _ _ d _ _ h => by cases d <;> exact h) ?_
      refine line_alone rfl (by kernel_rfl) (fun K hK => ?_)
      go_big_op
      refine hK _ _ (st3.on (bal (Below.refl _ _) _)) ?_
      clear hK K
      have O4' : OwnK .u8 (V3.alloc (.cells #[.int .u8 u, .int .u8 m] 5)) w.heap.size (.slice (some ⟨V3.heap.size, 0, none⟩) 2 2) [u, m] := own_lit (k := .u8) V3 [u, m] 2 5 (B := w.heap.size) st3.out.size rfl (by simp only [maxLen]; omega)
      have st4 := st3.on (bal (Below.refl _ V3) (.cells #[.int .u8 u, .int .u8 m] 5))
      have e4 := (Below.heap_alloc V3 (.cells #[.int .u8 u, .int .u8 m] 5) V1.heap.size hlt3).trans e3
      refine line_alone rfl (by kernel_rfl) (fun K hK => ?_)
      refine wp_append_src _ (.tmp 14) (.tmp 19) 22 22 rfl w.heap.size 5 i0 (.int .u8 0) 1 1 Tryd.underlying22 hi0 hz0 hz1 hz2 rfl _ 2 ([u, m].map (Value.int .u8)) rfl O4' _ 2 [.int .u8 (v / 256), .int .u8 (v % 256)] rfl (src_at V1.heap.size _ 2 2 _ _ _ Tryd.underlying22 rfl (ints_oneCell .u8 [v / 256, v % 256]) e4) (by simp only [maxLen]; omega) (by omega) st4.out.size (fun v4 w4 hown hgrow hat => ?_)
      have b4 : Below w.heap.size w w4 := Own.grown O4' st4.out st4.out.size hgrow
      have O4 : OwnK .u8 w4 w.heap.size v4 (headT u m v) := by unfold OwnK headT; simpa [M.two] using hown
      refine hK _ _ ⟨b4⟩ ?_
      have HT := Lib.hid (show HeadT w (headT u m v) v4 w4 from ⟨O4, b4⟩)
      clear hK K st3 st4 O4' hown hgrow hat b4 O4 e3 e4
      simp only [Act.put, List.setIfInBounds_toArray, List.set_cons_zero, List.set_cons_succ]
      iterate 1 (refine line_read rfl (by kernel_rfl) (fun K hK => ?_); go_big_quiet_op; refine hK _ ?_; clear hK K)
      refine line_nil ?_
      go_wp2_with fail
      go_meet
      case rel => exact HT.out
  case rest =>
    obtain ⟨O4, b4⟩ := hcut
    have hz4 := b4.size
    have x0 := (hA.on b4).cell 0 _ rfl
    have hsrc := text_src wc n hnm
    have O5 := (O4.alloc (textObj wc n 5)).drew
    have b5 := (bal b4 (textObj wc n 5)).drew
    clear hA d0 d1 d2 d3
    go_wp2_with (at_builtin; refine wpList_append_src _ rfl (.tmp 21) (.tmp 26) 22 22 rfl w.heap.size 5 i0 (.int .u8 0) 1 1 Tryd.underlying22 hi0 hz0 hz1 hz2 rfl _ _ _ rfl O5 _ n.size _ rfl hsrc (by rw [headT_length]; simp only [maxLen]; omega) (by rw [headT_length]; omega) (by simp; omega) ?_; intro v5 w5 hown hgrow hat)
    have O6 : OwnK .u8 w5 w.heap.size v5 (packT n u m v) := by
      unfold OwnK packT
      rw [List.length_append, M.textL_length]
      simpa using hown
    have b6 : Below w.heap.size w w5 := O5.grown b5 (by simp; omega) hgrow
    obtain ⟨a6, c6, hv6, -⟩ := O6.form
    have HT := Lib.hid (And.intro O6 b6)
    clear hown hgrow hat O5 O6 b5 b6 hsrc O4 b4 hcv
    subst hv6
    go_wp2_with fail
    go_ret
    exact ⟨_, _, _, rfl, HT.out.1, HT.out.2⟩

theorem specPackTlsa_any (n : ByteArray) (u m v : Int) (w : World) (hn : n.size ≤ maxLen) :
    Calls Tryd.prog 33 #[T4 n u m v] w (BytesRes (M.tlsaF n.data.toList u m v) (packTL n u m v) w) := by
  have b0 := bal (bal (Below.refl _ w) (.cells #[.string n, .int .i64 u, .int .i64 m, .int .i64 v] 30)) (.cells #[.int .i64 0, .slice none 0 0] 36)
  have A1 := (At.new w (TL4 n u m v) 30).alloc (.cells #[.int .i64 0, .slice none 0 0] 36)
  have A2 := At.new (w.alloc (.cells #[.string n, .int .i64 u, .int .i64 m, .int .i64 v] 30)) [.int .i64 0, .slice none 0 0] 36
  simp only [World.size_alloc] at A1 A2
  have F := fun (g : Nat) (w : World) (A : At g (TL4 n u m v) w) => l5Tlsa_any g n u m v w A hn
  by_cases h : M.tlsaF n.data.toList u m v = 0
  · have e : packTL n u m v = packT n u m v := by simp [packTL, h]
    rw [e]
    have HF := Lib.hid h
    simp only [h] at F ⊢
    clear e h
    go_enter Tryd.func33, Tryd.ntmps33
    go_wp2_with fail
    generalize (w.alloc (.cells #[.string n, .int .i64 u, .int .i64 m, .int .i64 v] 30)).alloc (.cells #[.int .i64 0, .slice none 0 0] 36) = W0 at *
    refine (F _ _ A1).mono ?_
    rintro r w1 ⟨rfl, b1⟩
    clear F
    go_wp2_with fail
    refine (l5Pack_any _ n u m v _ (A1.on b1) HF.out).mono ?_
    rintro r w2 ⟨a2, n2, c2, rfl, O2, b2⟩
    have lt2 : w.heap.size + 1 < w1.heap.size := (A2.on b1).lt (by simp)
    have p0 := ((A2.on b1).on b2).cell 0 _ rfl
    have p1 := ((A2.on b1).on b2).cell 1 _ rfl
    have z0 := ((A2.on b1).on b2).free 0 _ rfl
    have z1 := ((A2.on b1).on b2).free 1 _ rfl
    have HT := Lib.hid (And.intro O2 (btr b0 (btr b1 b2)))
    have hzs := (btr b0 b1).size
    clear A1 A2 O2 b2 b1 b0
    go_wp2_with fail
    refine bodyPost_ret (v := .agg #[.int .i64 0, .slice a2 n2 c2]) (by simp [results, Tryd.results33, go_sem, p0, p1]) rfl ?_
    exact ⟨_, _, _, rfl, (by (iterate 2 (refine Own.setCell ?_ (fun g hg => by have := (HT.out.1.lt g hg).1; dsimp only; omega) _)); exact HT.out.1.less (by omega)), (by (iterate 2 (refine bset ?_ (by dsimp only; omega) _)); exact HT.out.2)⟩
  · have e : packTL n u m v = [] := by simp [packTL, h]
    rw [e]
    generalize M.tlsaF n.data.toList u m v = cd at *
    clear e
    go_enter Tryd.func33, Tryd.ntmps33
    go_wp2_with fail
    generalize (w.alloc (.cells #[.string n, .int .i64 u, .int .i64 m, .int .i64 v] 30)).alloc (.cells #[.int .i64 0, .slice none 0 0] 36) = W0 at *
    refine (F _ _ A1).mono ?_
    rintro r w1 ⟨rfl, b1⟩
    have q0 := (A2.on b1).cell 0 _ rfl
    have q1 := (A2.on b1).cell 1 _ rfl
    have z0 := (A2.on b1).free 0 _ rfl
    have z1 := (A2.on b1).free 1 _ rfl
    have hb := btr b0 b1
    clear A1 A2 b0 b1 F
    go_wp2_with fail
    refine bodyPost_ret (v := .agg #[.int .i64 cd, .slice none 0 0]) (by simp [results, Tryd.results33, go_sem, q0, q1]) rfl ?_
    exact ⟨_, _, _, rfl, Own.nil _ _ _, (by (iterate 2 (refine bset ?_ (by dsimp only; omega) _)); exact hb)⟩

theorem implPackTlsa_any (n : ByteArray) (u m v : Int) (w : World) (hn : n.size ≤ maxLen) :
    Calls Tryd.prog 16 #[T4 n u m v] w (BytesRes (M.tlsaF n.data.toList u m v) (packTL n u m v) w) := by
  have b0 := bal (bal (Below.refl _ w) (.cells #[.string n, .int .i64 u, .int .i64 m, .int .i64 v] 30)) (.cells #[.int .i64 0, .slice none 0 0] 36)
  have A1 := (At.new w (TL4 n u m v) 30).alloc (.cells #[.int .i64 0, .slice none 0 0] 36)
  have A2 := At.new (w.alloc (.cells #[.string n, .int .i64 u, .int .i64 m, .int .i64 v] 30)) [.int .i64 0, .slice none 0 0] 36
  simp only [World.size_alloc] at A1 A2
  have F := fun w => implTlsaFault_any n u m v w hn
  by_cases h : M.tlsaF n.data.toList u m v = 0
  · have e : packTL n u m v = packT n u m v := by simp [packTL, h]
    rw [e]
    obtain ⟨hn20, hu0, hu1, hm0, hm1, hv⟩ := tlsa_bounds h
    obtain ⟨i0, hi0, hz0, hz1, hz2⟩ := info_parts u8_info
    have hmk : ∀ W : World, (Instr.makeSlice 22 (.int .i64 0) (.int .i64 (4 + (n.size : Int)))).run Tryd.prog W = .ok (.slice (some ⟨W.heap.size, 0, none⟩) 0 (4 + n.size)) (W.alloc (.cells (madeCells #[.int .u8 0] (4 + n.size)) 5)) := by
      intro W
      have := run_make (P := Tryd.prog) W 22 5 i0 (.int .u8 0) Tryd.underlying22 hi0 hz0 .i64 .i64 0 (4 + n.size) (by omega) (by omega) (by rw [hz2]; omega) (by omega)
      simpa [hz1, Value.cells, show (4 + (n.size : Int)).toNat = 4 + n.size by omega] using this
    simp only [h] at F ⊢
    clear e h
    go_enter Tryd.func16, Tryd.ntmps16
    go_wp2_with fail
    generalize (w.alloc (.cells #[.string n, .int .i64 u, .int .i64 m, .int .i64 v] 30)).alloc (.cells #[.int .i64 0, .slice none 0 0] 36) = W0 at *
    refine (F _).mono ?_
    rintro r V ⟨rfl, h1⟩
    have bV := btr b0 h1
    have AV := A1.on h1
    have AR := A2.on h1
    have ltV := AR.lt (by simp)
    have d0 := AV.cell 0 _ rfl
    have d1 := AV.cell 1 _ rfl
    have d2 := AV.cell 2 _ rfl
    have d3 := AV.cell 3 _ rfl
    clear b0 h1 A1 A2 F
    have O1 : OwnK .u8 (V.alloc (.cells (madeCells #[.int .u8 0] (4 + n.size)) 5)).drew V.heap.size (.slice (some ⟨V.heap.size, 0, none⟩) 0 (4 + n.size)) [] := by
      have := Own.made (size := 1) (B := V.heap.size) V (madeCells #[.int .u8 0] (4 + n.size)) 5 (4 + n.size) (Nat.le_refl _) (by simp only [maxLen]; omega) (by rw [size_madeCells]; omega)
      simpa [OwnK] using this.drew
    have S0 : Bel V (V.alloc (.cells (madeCells #[.int .u8 0] (4 + n.size)) 5)).drew := ⟨(bal (Below.refl _ V) _).drew⟩
    go_wp2_with fail
    refine wp_region_line (Bel V) [(0, true), (1, true), (2, true), (3, true), (4, true), (5, true), (6, true), (9, true), (10, true), (7, false), (8, false), (11, false), (12, true)] (by kernel_rfl) (by kernel_rfl) (fun _ _ d _ _ h => by cases d <;> exact h) S0 ?_
    have hst := S0
    have inst : Nonempty (Of (Bel V)) := ⟨⟨_, hst⟩⟩
    have u1 := bel_cell d1
    have u2 := bel_cell d2
    have u3 := bel_cell d3
    generalize (V.alloc (.cells (madeCells #[.int .u8 0] (4 + n.size)) 5)).drew = V1 at *
    clear S0
    iterate 9 (refine line_read rfl (by kernel_rfl) (fun K hK => ?_); go_big_quiet_op; refine hK _ ?_; clear hK K)
    refine line_alone rfl (by kernel_rfl) (fun K hK => ?_)
    go_big_op
    refine hK _ _ (hst.on (bal (Below.refl _ V1) _)) ?_
    clear hK K
    have O2 := O1.alloc (.cells #[.int .u8 u, .int .u8 m] 5)
    have st2 := hst.on (bal (Below.refl _ V1) (.cells #[.int .u8 u, .int .u8 m] 5))
    refine line_alone rfl (by kernel_rfl) (fun K hK => ?_)
    refine wp_append_src _ (.tmp 16) (.tmp 23) 22 22 rfl V.heap.size 5 i0 (.int .u8 0) 1 1 Tryd.underlying22 hi0 hz0 hz1 hz2 rfl _ 0 [] rfl O2 _ 2 [.int .u8 u, .int .u8 m] rfl (src_new V1 _ 2 2 _ _ _ Tryd.underlying22 rfl (ints_oneCell .u8 [u, m])) (by simp only [maxLen]; omega) (by omega) st2.out.size (fun v4 w4 hown hgrow hat => ?_)
    have b4 : Below V.heap.size V w4 := O2.grown st2.out st2.out.size hgrow
    have O4 : OwnK .u8 w4 V.heap.size v4 [u, m] := by unfold OwnK; simpa using hown
    refine hK _ _ ⟨b4⟩ ?_
    clear hK K hown hgrow hat O2 st2 O1
    simp only [Act.put, List.setIfInBounds_toArray, List.set_cons_zero, List.set_cons_succ]
    refine line_alone rfl (by kernel_rfl) (fun K hK => ?_)
    refine call_any (args := #[v4, .int .i64 v]) rfl (by kernel_rfl) (by kernel_rfl) (appendTwo_any _ v V.heap.size [u, m] w4 O4 b4.size hv (by simp)) ?_
    rintro e w5 ⟨v5, rfl, O5, g5⟩
    have b5 : Below V.heap.size V w5 := O4.grown b4 b4.size g5
    refine ⟨_, rfl, hK _ _ ⟨b5⟩ ?_⟩
    clear hK K O4 b4 g5
    simp only [Act.put, List.setIfInBounds_toArray, List.set_cons_zero, List.set_cons_succ]
    iterate 1 (refine line_read rfl (by kernel_rfl) (fun K hK => ?_); go_big_quiet_op; refine hK _ ?_; clear hK K)
    refine line_nil ?_
    have O6 : OwnK .u8 w5 V.heap.size v5 (headT u m v) := O5
    obtain ⟨a5, c5, hv5, -⟩ := O6.form
    have hz5 := b5.size
    have A5 := AV.on b5
    have x0 := A5.cell 0 _ rfl
    have hsrc := Src.ofString (P := Tryd.prog) w5 (tx := 9) Tryd.underlying9 n
    have AR5 := AR.on b5
    rw [headT_length] at hv5
    clear hst inst u1 u2 u3 d0 d1 d2 d3 O5 AV A5 AR
    subst hv5
    have HN := Lib.hid (show some (w.heap.size + 1) ≠ Value.ownBlock (.slice a5 4 c5) from fun e => by have := (O6.lt _ e.symm).1; omega)
    go_wp2_with (at_builtin; refine wpList_append_src _ rfl (.tmp 28) (.tmp 30) 22 9 rfl V.heap.size 5 i0 (.int .u8 0) 1 1 Tryd.underlying22 hi0 hz0 hz1 hz2 rfl _ _ _ rfl O6 _ n.size _ rfl hsrc (by rw [headT_length]; simp only [maxLen]; omega) (by rw [headT_length]; omega) hz5 ?_; intro v7 w7 hown hgrow hat; obtain ⟨a7, c7, hv7, -⟩ := Own.form hown; subst hv7; have AR7 := AR5.kept hgrow HN.out; have q0 := AR7.cell 0 _ rfl; have q1 := AR7.cell 1 _ rfl; have z0 := AR7.free 0 _ rfl; have z1 := AR7.free 1 _ rfl)
    have O7 : OwnK .u8 w7 V.heap.size (.slice a7 ((headT u m v).length + n.size) c7) (packT n u m v) := by
      unfold OwnK packT
      rw [List.length_append, M.textL_length, List.map_append]
      have e : (M.textL n).map (Value.int .u8) = byteCells n := by simp [M.textL, byteCells, List.map_map, Function.comp_def]
      rw [e]
      exact hown
    have b7 : Below V.heap.size V w7 := O6.grown b5 hz5 hgrow
    have HT := Lib.hid (And.intro O7 (btr bV b7))
    clear hown hgrow hat O6 O7 b7 b5 AR5 AR7 hsrc x0 bV HN
    refine bodyPost_ret (v := .agg #[.int .i64 0, .slice a7 ((headT u m v).length + n.size) c7]) (by simp [results, Tryd.results16, go_sem, q0, q1]) rfl ?_
    exact ⟨_, _, _, rfl, (by (iterate 2 (refine Own.setCell ?_ (fun g hg => by have := (HT.out.1.lt g hg).1; dsimp only; omega) _)); exact HT.out.1.less (by omega)), (by (iterate 2 (refine bset ?_ (by dsimp only; omega) _)); exact HT.out.2)⟩
  · have e : packTL n u m v = [] := by simp [packTL, h]
    rw [e]
    generalize M.tlsaF n.data.toList u m v = cd at *
    clear e
    go_enter Tryd.func16, Tryd.ntmps16
    go_wp2_with fail
    generalize (w.alloc (.cells #[.string n, .int .i64 u, .int .i64 m, .int .i64 v] 30)).alloc (.cells #[.int .i64 0, .slice none 0 0] 36) = W0 at *
    refine (F _).mono ?_
    rintro r w1 ⟨rfl, b1⟩
    have q0 := (A2.on b1).cell 0 _ rfl
    have q1 := (A2.on b1).cell 1 _ rfl
    have z0 := (A2.on b1).free 0 _ rfl
    have z1 := (A2.on b1).free 1 _ rfl
    have hb := btr b0 b1
    clear A1 A2 b0 b1 F
    go_wp2_with fail
    refine bodyPost_ret (v := .agg #[.int .i64 cd, .slice none 0 0]) (by simp [results, Tryd.results16, go_sem, q0, q1]) rfl ?_
    exact ⟨_, _, _, rfl, Own.nil _ _ _, (by (iterate 2 (refine bset ?_ (by dsimp only; omega) _)); exact hb)⟩
end Go.Proofs.YtdkgiiikcapjcaaDoor
