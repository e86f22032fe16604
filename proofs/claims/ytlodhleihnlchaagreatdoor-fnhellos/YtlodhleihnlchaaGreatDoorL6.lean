/- Texts of this seat that several laws rest on, laid into one. Conditions: as each theorem states. -/
import Derived.Test.YtlodhleihnlchaaGreatDoorL2
import Derived.Test.YtlodhleihnlchaaGreatDoorL3
import Derived.Test.YtlodhleihnlchaaGreatDoorL5
import Derived.Defers
import Derived.Recover
namespace Go.Proofs.YtlodhleihnlchaaGreatDoor
open Go.RowKit
set_option maxRecDepth 100000
set_option linter.unusedVariables false

theorem OwnK.src6 {w : World} {B : Nat} {a : Option Addr} {len cap : Nat} {zs : List Int} (h : OwnK .u8 w B (.slice a len cap) zs) (hz : ∀ z ∈ zs, M.byteB z) : Go.Src Tryz.prog 1 22 (.slice a len cap) len (zs.map (Value.int .u8)) w :=
  (Own.row h (fun z hm => byte_wf (hz z hm))).src Tryz.underlying22
theorem OwnK.kept6 {w w' : World} {B : Nat} {v : Value} {zs : List Int} {row : Option Nat} (h : OwnK .u8 w B v zs) (hg : w.grownBy w' row) (hne : ∀ k, row = some k → k < B) : OwnK .u8 w' B v zs :=
  Own.kept h hg (by
    cases hv : v.ownBlock with
    | none => exact .inl rfl
    | some k =>
      refine .inr fun e => ?_
      have h1 := (Own.lt h k hv).1
      have h2 := hne k e.symm
      omega)
theorem two_own (w : World) (s : Int) : OwnK .u8 (w.alloc (.cells #[.int .u8 (s / 256), .int .u8 (s % 256)] 5)) w.heap.size (.slice (some ⟨w.heap.size, 0, none⟩) 2 2) (M.two s) := own_lit (k := .u8) w (M.two s) 2 5 (Nat.le_refl _) rfl (by simp only [maxLen]; omega)
theorem text_own (w : World) (n : ByteArray) (hn : n.size ≤ maxLen) : OwnK .u8 (w.alloc (textObj w n 5)).drew w.heap.size (.slice (some ⟨w.heap.size, 0, none⟩) n.size (grownCap w n.size 0 5)) (M.textL n) := by
  have := (own_text w n 5 hn).drew
  unfold OwnK
  rw [M.textL_length]
  exact this

set_option maxHeartbeats 1000000 in
theorem l6PackHello_any (g : Nat) (r s : Int) (n : ByteArray) (w : World) (hA : At g (HL3 r s n) w) (h : helF n.data.toList r s = 0) :
    Calls Tryz.prog 91 #[.pointer (some ⟨g, 0, none⟩)] w (Made (packH n r s) w) := by
  obtain ⟨hr, hs, -⟩ := helF_zero h
  have hn := hel_size h
  have hnm : n.size ≤ maxLen := size_max hn
  have hss := pub_sum6 hs
  obtain ⟨i0, hi0, hz0, hz1, hz2⟩ := info_parts u8_info
  have hcv := fun (W : World) => run_bytes_of_string (P := Tryz.prog) W 9 22 5 n Tryz.underlying9 Tryz.underlying22 Tryz.underlying5
  have ltg := hA.lt (by simp)
  have d0 := hA.cell 0 _ rfl
  have d1 := hA.cell 1 _ rfl
  have d2 := hA.cell 2 _ rfl
  have b1 := bal (Below.refl _ w) (.cells #[.int .u8 1] 5)
  have O1 : OwnK .u8 (w.alloc (.cells #[.int .u8 1] 5)) w.heap.size (.slice (some ⟨w.heap.size, 0, none⟩) 1 1) [1] := own_lit (k := .u8) w [1] 1 5 (Nat.le_refl _) rfl (by simp only [maxLen]; omega)
  clear h
  go_enter Tryz.func91, Tryz.ntmps91
  go_wp2_with fail
  generalize w.alloc (.cells #[.int .u8 1] 5) = W1 at *
  refine (l1Two_any r _ hr).mono ?_
  rintro e w2 ⟨rfl, rfl⟩
  have O2 := Own.alloc O1 (.cells #[.int .u8 (r / 256), .int .u8 (r % 256)] 5)
  have b2 := bal b1 (.cells #[.int .u8 (r / 256), .int .u8 (r % 256)] 5)
  have hle := b2.size
  have hsrc := src_new (P := Tryz.prog) W1 [.int .u8 (r / 256), .int .u8 (r % 256)] 2 2 5 22 5 Tryz.underlying22 rfl (ints_oneCell .u8 [r / 256, r % 256])
  go_wp2_with (at_builtin; refine wpList_append_src _ rfl (.tmp 4) (.tmp 9) 22 22 rfl w.heap.size 5 i0 (.int .u8 0) 1 1 Tryz.underlying22 hi0 hz0 hz1 hz2 rfl _ 1 [.int .u8 1] rfl O2 _ 2 _ rfl hsrc (by simp only [maxLen]; omega) (by omega) hle ?_; intro v3 w3 hown hgrow hat)
  have b3 : Below w.heap.size w w3 := Own.grown O2 b2 hle hgrow
  have O3 : OwnK .u8 w3.drew w.heap.size v3 ([1] ++ M.two r) := by unfold OwnK; simpa [M.two] using hown.drew
  clear O1 O2 b1 b2 hle hsrc hown hgrow hat
  refine wp_region_fork (Bel w) (by kernel_rfl) (Bel.mk b3.drew) ?_
  have hst : (Bel w) _ := (Bel.mk b3.drew)
  have inst : Nonempty (Of (Bel w)) := ⟨⟨_, hst⟩⟩
  have u1 := bel_cell d1
  have u2 := bel_cell d2
  clear b3 d0 d1 d2
  generalize w3.drew = V1 at *
  refine any_seg 5 [(0, true), (1, true), (2, true), (3, true), (4, true), (7, true), (8, true), (9, true), (10, true)] (by kernel_rfl) (fun _ _ d _ _ h => by cases d <;> exact h) ?_
  iterate 9 (refine line_read rfl (by kernel_rfl) (fun K hK => ?_); go_big_quiet_op; refine hK _ ?_; clear hK K)
  refine line_nil ?_
  clear u1 u2
  refine any_fork 5 11 (by kernel_rfl) rfl rfl (by kernel_rfl) (by kernel_rfl) (fun K hK => ?_) (fun K hK => ?_)
  · refine call_any (args := #[.int .i64 s]) rfl (by kernel_rfl) (by kernel_rfl) (l1Two_any s _ hss) ?_
    rintro e w4 ⟨rfl, rfl⟩
    have st4 := hst.on (bal (Below.refl _ V1) (.cells #[.int .u8 (s / 256), .int .u8 (s % 256)] 5))
    have O4 : OwnK .u8 _ w.heap.size v3 ([1] ++ M.two r) := Own.alloc O3 (.cells #[.int .u8 (s / 256), .int .u8 (s % 256)] 5)
    have T4 := two_own V1 s
    refine ⟨_, rfl, hK _ _ st4 ?_⟩
    clear hK K
    simp only [Act.put, List.setIfInBounds_toArray, List.set_cons_zero, List.set_cons_succ]
    generalize V1.alloc (.cells #[.int .u8 (s / 256), .int .u8 (s % 256)] 5) = V4 at *
    refine any_fork 6 11 (by kernel_rfl) rfl rfl (by kernel_rfl) (by kernel_rfl) (fun K hK => ?_) (fun K hK => ?_)
    · refine wp_append_src _ (.tmp 11) (.tmp 16) 22 22 rfl w.heap.size 5 i0 (.int .u8 0) 1 1 Tryz.underlying22 hi0 hz0 hz1 hz2 rfl _ _ _ rfl O4 _ 2 _ rfl (T4.src6 (two_byte hss)) (by simp only [maxLen, M.two, List.length_append, List.length_cons, List.length_nil]; omega) (by simp only [M.two, List.length_append, List.length_cons, List.length_nil]; omega) st4.out.size (fun v5 w5 hown hgrow hat => ?_)
      have b5 : Below w.heap.size w w5 := Own.grown O4 st4.out st4.out.size hgrow
      have O5 : OwnK .u8 w5 w.heap.size v5 (helHead r s) := by unfold OwnK helHead; simpa [M.two] using hown
      refine hK _ _ ⟨b5⟩ ?_
      clear hK K hown hgrow hat O3 O4 T4 st4 hst
      simp only [Act.put, List.setIfInBounds_toArray, List.set_cons_zero, List.set_cons_succ]
      refine any_rest [(11, false), (12, false), (13, true)] (by kernel_rfl) (fun _ _ d _ _ h => by cases d <;> exact h) ?_
      refine line_alone rfl (by kernel_rfl) (fun K hK => ?_)
      have st5 : Bel w w5 := ⟨b5⟩
      go_big_op
      have st6 := st5.on (bal (Below.refl _ w5) (textObj w5 n 5)).drew
      have X6 := text_own w5 n hnm
      refine hK _ _ st6 ?_
      clear hK K
      have O6 : OwnK .u8 (w5.alloc (textObj w5 n 5)).drew w.heap.size v5 (helHead r s) := (Own.alloc O5 _).drew
      have hsrc := X6.src6 (M.textL_byte n)
      clear b5 O5 X6 st5
      refine line_alone rfl (by kernel_rfl) (fun K hK => ?_)
      refine wp_append_src _ (.tmp 17) (.tmp 22) 22 22 rfl w.heap.size 5 i0 (.int .u8 0) 1 1 Tryz.underlying22 hi0 hz0 hz1 hz2 rfl _ _ _ rfl O6 _ n.size _ rfl hsrc (by rw [helHead_length]; simp only [maxLen]; omega) (by rw [helHead_length]; omega) st6.out.size (fun v7 w7 hown hgrow hat => ?_)
      have b7 : Below w.heap.size w w7 := Own.grown O6 st6.out st6.out.size hgrow
      have O7 : OwnK .u8 w7 w.heap.size v7 (packH n r s) := by
        unfold OwnK packH
        rw [List.length_append, M.textL_length, List.map_append]
        exact hown
      refine hK _ _ ⟨b7⟩ ?_
      obtain ⟨a7, c7, hv7, -⟩ := O7.form
      have HT := Lib.hid (And.intro O7 b7)
      clear hK K hown hgrow hat O7 b7 O6 st6 hsrc
      subst hv7
      simp only [Act.put, List.setIfInBounds_toArray, List.set_cons_zero, List.set_cons_succ]
      iterate 1 (refine line_read rfl (by kernel_rfl) (fun K hK => ?_); go_big_quiet_op; refine hK _ ?_; clear hK K)
      refine line_nil ?_
      go_wp2_with fail
      go_ret
      exact ⟨_, _, _, rfl, HT.out.1, HT.out.2⟩
    · go_big_op
      have st5 := st4.on (bal (Below.refl _ V4) (textObj V4 n 5)).drew
      have X5 := text_own V4 n hnm
      refine hK _ _ st5 ?_
      clear hK K
      have O5' : OwnK .u8 (V4.alloc (textObj V4 n 5)).drew w.heap.size v3 ([1] ++ M.two r) := (Own.alloc O4 _).drew
      have T5 : OwnK .u8 (V4.alloc (textObj V4 n 5)).drew V1.heap.size (.slice (some ⟨V1.heap.size, 0, none⟩) 2 2) (M.two s) := (Own.alloc T4 _).drew
      have hk3 : ∀ k, v3.ownBlock = some k → k < V4.heap.size := fun k hk => (Own.lt O4 k hk).2
      refine any_rest [(6, false), (12, false), (13, true)] (by kernel_rfl) (fun _ _ d _ _ h => by cases d <;> exact h) ?_
      refine line_alone rfl (by kernel_rfl) (fun K hK => ?_)
      refine wp_append_src _ (.tmp 11) (.tmp 16) 22 22 rfl w.heap.size 5 i0 (.int .u8 0) 1 1 Tryz.underlying22 hi0 hz0 hz1 hz2 rfl _ _ _ rfl O5' _ 2 _ rfl (T5.src6 (two_byte hss)) (by simp only [maxLen, M.two, List.length_append, List.length_cons, List.length_nil]; omega) (by simp only [M.two, List.length_append, List.length_cons, List.length_nil]; omega) st5.out.size (fun v5 w5 hown hgrow hat => ?_)
      have b5 : Below w.heap.size w w5 := Own.grown O5' st5.out st5.out.size hgrow
      have O5 : OwnK .u8 w5 w.heap.size v5 (helHead r s) := by unfold OwnK helHead; simpa [M.two] using hown
      have X6 := X5.kept6 hgrow hk3
      refine hK _ _ ⟨b5⟩ ?_
      clear hK K hown hgrow hat O3 O4 T4 st4 hst O5' T5 st5 X5
      simp only [Act.put, List.setIfInBounds_toArray, List.set_cons_zero, List.set_cons_succ]
      have st6 : Bel w w5 := ⟨b5⟩
      have O6 := O5
      have hsrc := X6.src6 (M.textL_byte n)
      clear b5 O5 X6
      refine line_alone rfl (by kernel_rfl) (fun K hK => ?_)
      refine wp_append_src _ (.tmp 17) (.tmp 22) 22 22 rfl w.heap.size 5 i0 (.int .u8 0) 1 1 Tryz.underlying22 hi0 hz0 hz1 hz2 rfl _ _ _ rfl O6 _ n.size _ rfl hsrc (by rw [helHead_length]; simp only [maxLen]; omega) (by rw [helHead_length]; omega) st6.out.size (fun v7 w7 hown hgrow hat => ?_)
      have b7 : Below w.heap.size w w7 := Own.grown O6 st6.out st6.out.size hgrow
      have O7 : OwnK .u8 w7 w.heap.size v7 (packH n r s) := by
        unfold OwnK packH
        rw [List.length_append, M.textL_length, List.map_append]
        exact hown
      refine hK _ _ ⟨b7⟩ ?_
      obtain ⟨a7, c7, hv7, -⟩ := O7.form
      have HT := Lib.hid (And.intro O7 b7)
      clear hK K hown hgrow hat O7 b7 O6 st6 hsrc
      subst hv7
      simp only [Act.put, List.setIfInBounds_toArray, List.set_cons_zero, List.set_cons_succ]
      iterate 1 (refine line_read rfl (by kernel_rfl) (fun K hK => ?_); go_big_quiet_op; refine hK _ ?_; clear hK K)
      refine line_nil ?_
      go_wp2_with fail
      go_ret
      exact ⟨_, _, _, rfl, HT.out.1, HT.out.2⟩
  · go_big_op
    have st4 := hst.on (bal (Below.refl _ V1) (textObj V1 n 5)).drew
    have X4 := text_own V1 n hnm
    refine hK _ _ st4 ?_
    clear hK K
    have O4' : OwnK .u8 (V1.alloc (textObj V1 n 5)).drew w.heap.size v3 ([1] ++ M.two r) := (Own.alloc O3 _).drew
    have hk3 : ∀ k, v3.ownBlock = some k → k < V1.heap.size := fun k hk => (Own.lt O3 k hk).2
    have lt4 : V1.heap.size < (V1.alloc (textObj V1 n 5)).drew.heap.size := by simp
    generalize (V1.alloc (textObj V1 n 5)).drew = V4 at *
    refine any_rest [(5, false), (6, false), (12, false), (13, true)] (by kernel_rfl) (fun _ _ d _ _ h => by cases d <;> exact h) ?_
    refine line_alone rfl (by kernel_rfl) (fun K hK => ?_)
    have st4' := st4
    clear st4
    refine call_any (args := #[.int .i64 s]) rfl (by kernel_rfl) (by kernel_rfl) (l1Two_any s _ hss) ?_
    rintro e w4 ⟨rfl, rfl⟩
    have st4 := st4'.on (bal (Below.refl _ V4) (.cells #[.int .u8 (s / 256), .int .u8 (s % 256)] 5))
    have O4 : OwnK .u8 _ w.heap.size v3 ([1] ++ M.two r) := Own.alloc O4' (.cells #[.int .u8 (s / 256), .int .u8 (s % 256)] 5)
    have T4 := two_own V4 s
    refine ⟨_, rfl, hK _ _ st4 ?_⟩
    clear hK K
    simp only [Act.put, List.setIfInBounds_toArray, List.set_cons_zero, List.set_cons_succ]
    have X5 : OwnK .u8 (V4.alloc (.cells #[.int .u8 (s / 256), .int .u8 (s % 256)] 5)) V1.heap.size (.slice (some ⟨V1.heap.size, 0, none⟩) n.size (grownCap V1 n.size 0 5)) (M.textL n) := Own.alloc X4 _
    refine line_alone rfl (by kernel_rfl) (fun K hK => ?_)
    refine wp_append_src _ (.tmp 11) (.tmp 16) 22 22 rfl w.heap.size 5 i0 (.int .u8 0) 1 1 Tryz.underlying22 hi0 hz0 hz1 hz2 rfl _ _ _ rfl O4 _ 2 _ rfl (T4.src6 (two_byte hss)) (by simp only [maxLen, M.two, List.length_append, List.length_cons, List.length_nil]; omega) (by simp only [M.two, List.length_append, List.length_cons, List.length_nil]; omega) st4.out.size (fun v5 w5 hown hgrow hat => ?_)
    have b5 : Below w.heap.size w w5 := Own.grown O4 st4.out st4.out.size hgrow
    have O5 : OwnK .u8 w5 w.heap.size v5 (helHead r s) := by unfold OwnK helHead; simpa [M.two] using hown
    have X6 := X5.kept6 hgrow hk3
    refine hK _ _ ⟨b5⟩ ?_
    clear hK K hown hgrow hat O3 O4 T4 st4 hst O4' st4' X4 X5
    simp only [Act.put, List.setIfInBounds_toArray, List.set_cons_zero, List.set_cons_succ]
    have st6 : Bel w w5 := ⟨b5⟩
    have O6 := O5
    have hsrc := X6.src6 (M.textL_byte n)
    clear b5 O5 X6
    refine line_alone rfl (by kernel_rfl) (fun K hK => ?_)
    refine wp_append_src _ (.tmp 17) (.tmp 22) 22 22 rfl w.heap.size 5 i0 (.int .u8 0) 1 1 Tryz.underlying22 hi0 hz0 hz1 hz2 rfl _ _ _ rfl O6 _ n.size _ rfl hsrc (by rw [helHead_length]; simp only [maxLen]; omega) (by rw [helHead_length]; omega) st6.out.size (fun v7 w7 hown hgrow hat => ?_)
    have b7 : Below w.heap.size w w7 := Own.grown O6 st6.out st6.out.size hgrow
    have O7 : OwnK .u8 w7 w.heap.size v7 (packH n r s) := by
      unfold OwnK packH
      rw [List.length_append, M.textL_length, List.map_append]
      exact hown
    refine hK _ _ ⟨b7⟩ ?_
    obtain ⟨a7, c7, hv7, -⟩ := O7.form
    have HT := Lib.hid (And.intro O7 b7)
    clear hK K hown hgrow hat O7 b7 O6 st6 hsrc
    subst hv7
    simp only [Act.put, List.setIfInBounds_toArray, List.set_cons_zero, List.set_cons_succ]
    iterate 1 (refine line_read rfl (by kernel_rfl) (fun K hK => ?_); go_big_quiet_op; refine hK _ ?_; clear hK K)
    refine line_nil ?_
    go_wp2_with fail
    go_ret
    exact ⟨_, _, _, rfl, HT.out.1, HT.out.2⟩

end Go.Proofs.YtlodhleihnlchaaGreatDoor
namespace Go.Proofs.YtlodhleihnlchaaGreatDoor
open Go.RowKit
set_option maxRecDepth 100000
set_option linter.unusedVariables false

theorem implPackSign_yes (p q : Int) (w : World) (h : M.sigB p q = true) :
    Calls Tryz.prog 261 #[I2 p q] w (BytesRes 0 (M.two p ++ M.two q) w) := by
  obtain ⟨p0, p1, q0', q1'⟩ := M.sigB_bd h
  obtain ⟨i0, hi0, hz0, hz1, hz2⟩ := info_parts u8_info
  have hmk : ∀ W : World, (Instr.makeSlice 22 (.int .i64 0) (.int .i64 4)).run Tryz.prog W = .ok (.slice (some ⟨W.heap.size, 0, none⟩) 0 4) (W.alloc (.cells (madeCells #[.int .u8 0] 4) 5)) := by
    intro W
    have := run_make (P := Tryz.prog) W 22 5 i0 (.int .u8 0) Tryz.underlying22 hi0 hz0 .i64 .i64 0 4 (by omega) (by omega) (by rw [hz2]; omega) (by omega)
    simpa [hz1, Value.cells] using this
  have Y1 := fun w => pairOf_yes p q w h
  have P1 := fun w => point_any p q w (by omega) (by omega)
  have P2 := fun w => proof_any p q w (by omega) (by omega)
  have sp : M.sumB p = true := by simp only [M.sumB, decide_eq_true_eq]; omega
  have sq : M.sumB q = true := by simp only [M.sumB, decide_eq_true_eq]; omega
  generalize pairV p q = V at *
  have hR0 := ResB.new2 w (.cells #[.int .i64 p, .int .i64 q] 31) 39
  have hb0 := bal (bal (Below.refl _ w) (.cells #[.int .i64 p, .int .i64 q] 31)) (.cells #[.int .i64 0, .slice none 0 0] 39)
  clear hi0 hz0 hz1 hz2
  go_enter Tryz.func261, Tryz.ntmps261
  go_wp2_with fail
  generalize (w.alloc (.cells #[.int .i64 p, .int .i64 q] 31)).alloc (.cells #[.int .i64 0, .slice none 0 0] 39) = W0 at *
  refine (Y1 _).mono ?_
  rintro r w1 ⟨rfl, h1⟩
  have b1 := btr hb0 h1
  have hR1 := hR0.on h1
  clear h1 hb0 hR0
  have O1 : OwnK .u8 (w1.alloc (.cells (madeCells #[.int .u8 0] 4) 5)) w1.heap.size (.slice (some ⟨w1.heap.size, 0, none⟩) 0 4) [] := by
    have := Own.made (size := 1) (B := w1.heap.size) w1 (madeCells #[.int .u8 0] 4) 5 4 (Nat.le_refl _) (by simp only [maxLen]; omega) (by rw [size_madeCells])
    simpa [OwnK] using this
  have c1 : Below w1.heap.size w1 (w1.alloc (.cells (madeCells #[.int .u8 0] 4) 5)) := bal (Below.refl _ _) _
  go_wp2_with fail
  generalize w1.alloc (.cells (madeCells #[.int .u8 0] 4) 5) = v1 at *
  refine (P1 _).mono ?_
  rintro r w2 ⟨rfl, rfl⟩
  go_wp2_with fail
  refine (appendTwo_any _ p w1.heap.size [] _ O1 c1.size sp (by simp)).mono ?_
  rintro r w3 ⟨v3, rfl, O3, g3⟩
  have c3 := O1.grown c1 c1.size g3
  rw [List.nil_append] at O3
  clear O1 c1 g3
  go_wp2_with fail
  refine (P2 _).mono ?_
  rintro r w4 ⟨rfl, rfl⟩
  go_wp2_with fail
  refine (appendTwo_any _ q w1.heap.size (M.two p) _ O3 c3.size sq (by simp [M.two])).mono ?_
  rintro r w5 ⟨v5, rfl, O5, g5⟩
  have c5 := O3.grown c3 c3.size g5
  clear O3 c3 g5
  obtain ⟨q0, q1, z0, z1⟩ := hR1.on c5
  have lt1 : w.heap.size + 1 < w1.heap.size := cell_lt hR1.c0
  obtain ⟨a, cap, hv, -⟩ := O5.form
  have hne := fun g hg => (O5.lt g hg).1
  have b5 := btr b1 c5
  have HT := Lib.hid (And.intro O5 b5)
  clear O5 b5 c5 b1 hR1
  subst hv
  go_wp2_with fail
  refine bodyPost_ret (v := .agg #[.int .i64 0, .slice a (M.two p ++ M.two q).length cap]) (by simp [results, Tryz.results261, go_sem, q0, q1]) rfl ?_
  refine ⟨a, _, cap, rfl, ?_, ?_⟩
  · exact ((HT.out.1.less (by omega)).setCell (fun g hg => by have := hne g hg; show g ≠ w.heap.size + 1; omega) _).setCell (fun g hg => by have := hne g hg; show g ≠ w.heap.size + 1; omega) _
  · exact bset (bset HT.out.2 (by show w.heap.size ≤ w.heap.size + 1; omega) _) (by show w.heap.size ≤ w.heap.size + 1; omega) _

end Go.Proofs.YtlodhleihnlchaaGreatDoor
namespace Go.Proofs.YtlodhleihnlchaaGreatDoor
open Go.RowKit
set_option maxRecDepth 100000
set_option linter.unusedVariables false

theorem replyHeadOf_any (r s p x y f : Int) (w : World) (hr : M.sumB r = true) (hs : M.sumB s = true) (hp : M.sumB p = true) :
    Calls Tryz.prog 200 #[R6 r s p x y f] w (Made (frontR r s p) w) := by
  have b0 := bal (bal (Below.refl _ w) (.cells #[.int .i64 r, .int .i64 s, .int .i64 p, .int .i64 x, .int .i64 y, .int .i64 f] 33)) (.cells #[.int .i64 r, .int .i64 s, .int .i64 p] 2)
  have R2 := row_three (w := w.alloc (.cells #[.int .i64 r, .int .i64 s, .int .i64 p, .int .i64 x, .int .i64 y, .int .i64 f] 33)) r s p 2 hr hs hp
  simp only [World.size_alloc] at R2
  have lt2 : w.heap.size + 1 + 1 ≤ ((w.alloc (.cells #[.int .i64 r, .int .i64 s, .int .i64 p, .int .i64 x, .int .i64 y, .int .i64 f] 33)).alloc (.cells #[.int .i64 r, .int .i64 s, .int .i64 p] 2)).heap.size := by simp
  have hall : [r, s, p].all M.sumB = true := by simp [hr, hs, hp]
  clear hr hs hp
  go_enter Tryz.func200, Tryz.ntmps200
  go_wp2_with fail
  generalize (w.alloc (.cells #[.int .i64 r, .int .i64 s, .int .i64 p, .int .i64 x, .int .i64 y, .int .i64 f] 33)).alloc (.cells #[.int .i64 r, .int .i64 s, .int .i64 p] 2) = W0 at *
  refine (wordHead_any 2 _ 3 3 _ [r, s, p] _ R2 lt2 hall (by omega)).mono ?_
  rintro e u1 ⟨a, n, c, rfl, O', b1⟩
  have O : OwnK .u8 u1 W0.heap.size (.slice a n c) (frontR r s p) := O'
  have HT := Lib.hid (And.intro (O.less b0.size) (btr b0 b1))
  clear O O' b1 b0 R2 lt2 hall
  go_wp2_with fail
  go_ret
  exact ⟨_, _, _, rfl, HT.out.1, HT.out.2⟩
end Go.Proofs.YtlodhleihnlchaaGreatDoor
namespace Go.Proofs.YtlodhleihnlchaaGreatDoor
open Go.RowKit
set_option maxRecDepth 100000
set_option linter.unusedVariables false

theorem by6 (c : Int) (a : Option Addr) (n k : Nat) (w : World) : Sem.run Tryz.prog (Instr.field 39 (.agg #[.int .i64 c, .slice a n k]) 1) w = .ok (.slice a n k) w := by kernel_rfl
theorem wordBytes_reply (r s p x y f : Int) (w : World) (h : repF r s p x y f = 0) :
    Calls Tryz.prog 195 #[.iface 33 (R6 r s p x y f)] w (Made (packR r s p x y f) w) := by
  obtain ⟨hr, hs, hp, hf, hg⟩ := repF_zero h
  have hss := pub_sum6 hs
  have hps := pub_sum6 hp
  obtain ⟨hxs, hys⟩ := sig_sums hg
  obtain ⟨i0, hi0, hz0, hz1, hz2⟩ := info_parts u8_info
  have g1 := by6
  have ta : ∀ W : World, (Instr.typeAssert (.iface 33 (R6 r s p x y f)) 157 26 true).run Tryz.prog W = .ok (.tuple #[.agg #[.int .i64 0, .int .i64 0, .string { data := #[] }], .bool false]) W := fun _ => by kernel_rfl
  have tb : ∀ W : World, (Instr.typeAssert (.iface 33 (R6 r s p x y f)) 157 33 true).run Tryz.prog W = .ok (.tuple #[R6 r s p x y f, .bool true]) W := fun _ => by kernel_rfl
  have A0 := At.new w (RL6 r s p x y f) 33
  have b0 := bal (Below.refl _ w) (.cells #[.int .i64 r, .int .i64 s, .int .i64 p, .int .i64 x, .int .i64 y, .int .i64 f] 33)
  have hby : ∀ z ∈ M.two x ++ M.two y, M.byteB z := fun z hz => by
    rcases List.mem_append.1 hz with h | h
    · exact two_byte hxs z h
    · exact two_byte hys z h
  clear h
  go_enter Tryz.func195, Tryz.ntmps195
  go_wp2_with fail
  generalize w.alloc (.cells #[.int .i64 r, .int .i64 s, .int .i64 p, .int .i64 x, .int .i64 y, .int .i64 f] 33) = W0 at *
  have d0 := A0.cell 0 _ rfl
  have d1 := A0.cell 1 _ rfl
  have d2 := A0.cell 2 _ rfl
  have d3 := A0.cell 3 _ rfl
  have d4 := A0.cell 4 _ rfl
  have d5 := A0.cell 5 _ rfl
  refine wp_region_line (Bel W0) [(0, true), (2, true), (3, true), (1, false), (4, false), (5, true), (6, false), (7, true)] (by kernel_rfl) (by kernel_rfl) (fun _ _ d _ _ h => by cases d <;> exact h) (Bel.drew W0) ?_
  have hst := Bel.drew W0
  have inst : Nonempty (Of (Bel W0)) := ⟨⟨_, hst⟩⟩
  have u0 := bel_cell d0
  have u1 := bel_cell d1
  have u2 := bel_cell d2
  have u3 := bel_cell d3
  have u4 := bel_cell d4
  have u5 := bel_cell d5
  have lt0 : w.heap.size ≤ W0.drew.heap.size := b0.size
  generalize W0.drew = V2 at *
  iterate 3 (refine line_read rfl (by kernel_rfl) (fun K hK => ?_); go_big_quiet_op; refine hK _ ?_; clear hK K)
  clear u0 u1 u2 u3 u4 u5 d0 d1 d2 d3 d4 d5
  refine line_alone rfl (by kernel_rfl) (fun K hK => ?_)
  refine call_any (args := #[R6 r s p x y f]) rfl (by kernel_rfl) (by kernel_rfl) (replyHeadOf_any r s p x y f V2 hr hss hps) ?_
  rintro e V3 ⟨a3, n3, c3, rfl, O3, b3⟩
  have l3 : n3 = 7 := O3.len
  subst l3
  have st3 := hst.on b3
  refine ⟨_, rfl, hK _ _ st3 ?_⟩
  clear hK K
  simp only [Act.put, List.setIfInBounds_toArray, List.set_cons_zero, List.set_cons_succ]
  refine line_alone rfl (by kernel_rfl) (fun K hK => ?_)
  refine call_any (args := #[I2 x y]) rfl (by kernel_rfl) (by kernel_rfl) (implPackSign_yes x y V3 hg) ?_
  rintro e V4 ⟨a4, n4, c4, rfl, O4, b4⟩
  have l4 : n4 = 4 := O4.len
  subst l4
  have st4 := st3.on b4
  have b34 := btr b3 b4
  have O5 : OwnK .u8 V4 V2.heap.size (.slice a3 7 c3) (frontR r s p) := Own.below O3 b4
  refine ⟨_, rfl, hK _ _ st4 ?_⟩
  clear hK K O3 b3
  simp only [Act.put, List.setIfInBounds_toArray, List.set_cons_zero, List.set_cons_succ]
  iterate 1 (refine line_read rfl (by kernel_rfl) (fun K hK => ?_); go_big_quiet_op; refine hK _ ?_; clear hK K)
  refine line_alone rfl (by kernel_rfl) (fun K hK => ?_)
  refine wp_append_src _ (.tmp 23) (.tmp 27) 22 22 rfl V2.heap.size 5 i0 (.int .u8 0) 1 1 Tryz.underlying22 hi0 hz0 hz1 hz2 rfl _ _ _ rfl O5 _ 4 _ rfl (O4.src6 hby) (by rw [frontR_length]; simp only [maxLen]; omega) (by rw [frontR_length]; omega) b34.size (fun v6 w6 hown hgrow hat => ?_)
  have b6 : Below V2.heap.size V2 w6 := Own.grown O5 b34 b34.size hgrow
  have O6 : OwnK .u8 w6 V2.heap.size v6 (frontR r s p ++ (M.two x ++ M.two y)) := by
    unfold OwnK
    rw [List.length_append, List.map_append]
    exact hown
  have st6 := hst.on b6
  refine hK _ _ st6 ?_
  have A6 := A0.on st6.out
  have b7 := btr b0 st6.out
  have O7 : OwnK .u8 w6 w.heap.size v6 (frontR r s p ++ (M.two x ++ M.two y)) := O6.less lt0
  clear hK K hown hgrow hat O4 O5 O6 b4 b34 b6 hst st3 st4 st6 A0 b0
  simp only [Act.put, List.setIfInBounds_toArray, List.set_cons_zero, List.set_cons_succ]
  iterate 1 (refine line_read rfl (by kernel_rfl) (fun K hK => ?_); go_big_quiet_op; refine hK _ ?_; clear hK K)
  refine line_nil ?_
  have d5 := A6.cell 5 _ rfl
  have HF := Lib.hid hf
  go_wp2_with fail
  refine (appendTwo_any _ f w.heap.size _ _ O7 b7.size HF.out (by simp only [frontR, M.two, List.length_append, List.length_cons, List.length_nil]; omega)).mono ?_
  rintro e w8 ⟨v8, rfl, O8, g8⟩
  have b8 := O7.grown b7 b7.size g8
  obtain ⟨a8, c8, hv8, -⟩ := O8.form
  have HT := Lib.hid (And.intro (show OwnK .u8 w8 w.heap.size v8 (packR r s p x y f) from O8) b8)
  clear O8 b8 g8 O7 b7 A6
  subst hv8
  go_wp2_with fail
  go_ret
  exact ⟨_, _, _, rfl, HT.out.1, HT.out.2⟩
theorem replyFault_method (r s p x y f : Int) (w : World) (hg : ErrT w) :
    Calls Tryz.prog 364 #[R6 r s p x y f] w fun e w' => e = .returned (.int .i64 (repF r s p x y f)) ∧ Below w.heap.size w w' := by
  have b0 := bal (Below.refl _ w) (.cells #[.int .i64 r, .int .i64 s, .int .i64 p, .int .i64 x, .int .i64 y, .int .i64 f] 33)
  have F := fun w hg => implReplyFault_any r s p x y f w hg
  have E0 := hg.on b0
  go_enter Tryz.func364, Tryz.ntmps364
  go_wp2_with fail
  refine (F _ E0).mono ?_
  rintro e u1 ⟨rfl, b1⟩
  have hb := btr b0 b1
  go_wp2_with fail
  go_ret
  exact ⟨rfl, hb⟩
theorem packWord_reply (r s p x y f : Int) (w : World) (hg : ErrT w) :
    Calls Tryz.prog 100 #[.iface 33 (R6 r s p x y f)] w (BytesRes (repF r s p x y f) (packRL r s p x y f) w) := by
  have hm : ∀ w : World, (method 566 33 (R6 r s p x y f) "loop.example/g00618/impl.fault").run Tryz.prog w = .ok (364, R6 r s p x y f) w := fun _ => by kernel_rfl
  have F := fun w hg => replyFault_method r s p x y f w hg
  have A0 := At.new w [.int .i64 0, .slice none 0 0] 39
  have b0 := bal (Below.refl _ w) (.cells #[.int .i64 0, .slice none 0 0] 39)
  have E0 := hg.on b0
  by_cases h : repF r s p x y f = 0
  · have e : packRL r s p x y f = packR r s p x y f := by simp [packRL, h]
    rw [e]
    have P1 := fun w => wordBytes_reply r s p x y f w h
    simp only [h] at F ⊢
    clear e h
    go_enter Tryz.func100, Tryz.ntmps100
    go_wp2_with fail
    generalize w.alloc (.cells #[.int .i64 0, .slice none 0 0] 39) = W0 at *
    refine (F _ E0).mono ?_
    rintro e u1 ⟨rfl, b1⟩
    go_wp2_with fail
    refine (P1 _).mono ?_
    rintro e u2 ⟨a2, n2, c2, rfl, O2, b2⟩
    have lt1 : w.heap.size < u1.heap.size := (A0.on b1).lt (by simp)
    have q0 := ((A0.on b1).on b2).cell 0 _ rfl
    have q1 := ((A0.on b1).on b2).cell 1 _ rfl
    have z0 := ((A0.on b1).on b2).free 0 _ rfl
    have z1 := ((A0.on b1).on b2).free 1 _ rfl
    have HT := Lib.hid (And.intro O2 (btr b0 (btr b1 b2)))
    have hzs := (btr b0 b1).size
    clear A0 O2 b2 b1 b0
    go_wp2_with fail
    refine bodyPost_ret (v := .agg #[.int .i64 0, .slice a2 n2 c2]) (by simp [results, Tryz.results100, go_sem, q0, q1]) rfl ?_
    exact ⟨_, _, _, rfl, (by (iterate 2 (refine Own.setCell ?_ (fun g hg => by have := (HT.out.1.lt g hg).1; dsimp only; omega) _)); exact HT.out.1.less (by omega)), (by (iterate 2 (refine bset ?_ (by dsimp only; omega) _)); exact HT.out.2)⟩
  · have e : packRL r s p x y f = [] := by simp [packRL, h]
    rw [e]
    generalize repF r s p x y f = cd at *
    clear e
    go_enter Tryz.func100, Tryz.ntmps100
    go_wp2_with fail
    generalize w.alloc (.cells #[.int .i64 0, .slice none 0 0] 39) = W0 at *
    refine (F _ E0).mono ?_
    rintro e u1 ⟨rfl, b1⟩
    have q0 := (A0.on b1).cell 0 _ rfl
    have q1 := (A0.on b1).cell 1 _ rfl
    have z0 := (A0.on b1).free 0 _ rfl
    have z1 := (A0.on b1).free 1 _ rfl
    have hb := btr b0 b1
    clear A0 b0 b1 F
    go_wp2_with fail
    refine bodyPost_ret (v := .agg #[.int .i64 cd, .slice none 0 0]) (by simp [results, Tryz.results100, go_sem, q0, q1]) rfl ?_
    exact ⟨_, _, _, rfl, Own.nil _ _ _, (by (iterate 2 (refine bset ?_ (by dsimp only; omega) _)); exact hb)⟩
theorem implPackReply_any (r s p x y f : Int) (w : World) (hg : ErrT w) :
    Calls Tryz.prog 19 #[R6 r s p x y f] w (BytesRes (repF r s p x y f) (packRL r s p x y f) w) := by
  have F := fun w hg => packWord_reply r s p x y f w hg
  have b0 := bal (bal (Below.refl _ w) (.cells #[.int .i64 r, .int .i64 s, .int .i64 p, .int .i64 x, .int .i64 y, .int .i64 f] 33)) (.cells #[.int .i64 0, .slice none 0 0] 39)
  have A2 := At.new (w.alloc (.cells #[.int .i64 r, .int .i64 s, .int .i64 p, .int .i64 x, .int .i64 y, .int .i64 f] 33)) [.int .i64 0, .slice none 0 0] 39
  simp only [World.size_alloc] at A2
  have E0 := hg.on b0
  generalize repF r s p x y f = cd at *
  generalize packRL r s p x y f = zs at *
  go_enter Tryz.func19, Tryz.ntmps19
  go_wp2_with fail
  generalize (w.alloc (.cells #[.int .i64 r, .int .i64 s, .int .i64 p, .int .i64 x, .int .i64 y, .int .i64 f] 33)).alloc (.cells #[.int .i64 0, .slice none 0 0] 39) = W0 at *
  refine (F _ E0).mono ?_
  rintro e u1 ⟨a2, n2, c2, rfl, O2, b2⟩
  have lt1 : w.heap.size + 1 < W0.heap.size := A2.lt (by simp)
  have q0 := (A2.on b2).cell 0 _ rfl
  have q1 := (A2.on b2).cell 1 _ rfl
  have z0 := (A2.on b2).free 0 _ rfl
  have z1 := (A2.on b2).free 1 _ rfl
  have HT := Lib.hid (And.intro O2 (btr b0 b2))
  clear A2 O2 b2 b0
  go_wp2_with fail
  refine bodyPost_ret (v := .agg #[.int .i64 cd, .slice a2 n2 c2]) (by simp [results, Tryz.results19, go_sem, q0, q1]) rfl ?_
  exact ⟨_, _, _, rfl, (by (iterate 2 (refine Own.setCell ?_ (fun g hg => by have := (HT.out.1.lt g hg).1; dsimp only; omega) _)); exact HT.out.1.less (by omega)), (by (iterate 2 (refine bset ?_ (by dsimp only; omega) _)); exact HT.out.2)⟩

theorem l3Pack3_any (g : Nat) (p q : Int) (w : World) (d0 : w.cell? ⟨g, 3, none⟩ = some (.int .i64 p)) (d1 : w.cell? ⟨g, 4, none⟩ = some (.int .i64 q)) (hp : M.sumB p = true) (hq : M.sumB q = true) :
    Calls Tryz.prog 194 #[.pointer (some ⟨g, 3, none⟩)] w (Made (M.two p ++ M.two q) w) := by
  obtain ⟨i0, hi0, hz0, hz1, hz2⟩ := info_parts u8_info
  go_enter Tryz.func194, Tryz.ntmps194
  go_wp2_with fail
  refine wp_region_line (Bel w) [(0, true), (1, true), (2, true), (3, true), (5, true), (6, true), (7, true), (8, true), (4, false), (9, false), (10, false), (11, true)] (by kernel_rfl) (by kernel_rfl) (fun _ _ d _ _ h => by cases d <;> exact h) (Bel.drew w) ?_
  have hst := Bel.drew w
  have inst : Nonempty (Of (Bel w)) := ⟨⟨_, hst⟩⟩
  have u0 := bel_cell d0
  have u1 := bel_cell d1
  have eV := Lib.hid (show w.drew.heap.size = w.heap.size from rfl)
  generalize w.drew = V at *
  iterate 8 (refine line_read rfl (by kernel_rfl) (fun K hK => ?_); go_big_quiet_op; refine hK _ ?_; clear hK K)
  clear u0 u1 d0 d1
  refine line_alone rfl (by kernel_rfl) (fun K hK => ?_)
  refine call_any (args := #[.int .i64 p]) rfl (by kernel_rfl) (by kernel_rfl) (l1Two_any p _ hp) ?_
  rintro e w1 ⟨rfl, rfl⟩
  have O1 := (two_own V p).less (Nat.le_of_eq eV.out.symm)
  have st1 := hst.on (bal (Below.refl _ V) (.cells #[.int .u8 (p / 256), .int .u8 (p % 256)] 5))
  refine ⟨_, rfl, hK _ _ st1 ?_⟩
  clear hK K hst
  simp only [Act.put, List.setIfInBounds_toArray, List.set_cons_zero, List.set_cons_succ]
  generalize V.alloc (.cells #[.int .u8 (p / 256), .int .u8 (p % 256)] 5) = V1 at *
  refine line_alone rfl (by kernel_rfl) (fun K hK => ?_)
  refine call_any (args := #[.int .i64 q]) rfl (by kernel_rfl) (by kernel_rfl) (l1Two_any q _ hq) ?_
  rintro e w2 ⟨rfl, rfl⟩
  have O2 : OwnK .u8 (V1.alloc (.cells #[.int .u8 (q / 256), .int .u8 (q % 256)] 5)) w.heap.size (.slice (some ⟨V.heap.size, 0, none⟩) 2 2) (M.two p) := Own.alloc O1 _
  have T2 := two_own V1 q
  have st2 := st1.on (bal (Below.refl _ V1) (.cells #[.int .u8 (q / 256), .int .u8 (q % 256)] 5))
  refine ⟨_, rfl, hK _ _ st2 ?_⟩
  clear hK K st1 O1
  simp only [Act.put, List.setIfInBounds_toArray, List.set_cons_zero, List.set_cons_succ]
  refine line_alone rfl (by kernel_rfl) (fun K hK => ?_)
  refine wp_append_src _ (.tmp 7) (.tmp 12) 22 22 rfl w.heap.size 5 i0 (.int .u8 0) 1 1 Tryz.underlying22 hi0 hz0 hz1 hz2 rfl _ _ _ rfl O2 _ 2 _ rfl (T2.src6 (two_byte hq)) (by simp only [maxLen, M.two, List.length_cons, List.length_nil]; omega) (by simp only [M.two, List.length_cons, List.length_nil]; omega) st2.out.size (fun v3 w3 hown hgrow hat => ?_)
  have b3 : Below w.heap.size w w3 := Own.grown O2 st2.out st2.out.size hgrow
  have O3 : OwnK .u8 w3 w.heap.size v3 (M.two p ++ M.two q) := by
    unfold OwnK
    rw [List.length_append, List.map_append]
    exact hown
  refine hK _ _ ⟨b3⟩ ?_
  obtain ⟨a3, c3, hv3, -⟩ := O3.form
  have HT := Lib.hid (And.intro O3 b3)
  clear hK K hown hgrow hat O2 T2 st2 O3 b3
  subst hv3
  simp only [Act.put, List.setIfInBounds_toArray, List.set_cons_zero, List.set_cons_succ]
  iterate 1 (refine line_read rfl (by kernel_rfl) (fun K hK => ?_); go_big_quiet_op; refine hK _ ?_; clear hK K)
  refine line_nil ?_
  go_wp2_with fail
  go_ret
  exact ⟨_, _, _, rfl, HT.out.1, HT.out.2⟩

theorem l6Front_any (g : Nat) (r s p x y f : Int) (w : World) (hA : At g (RL6 r s p x y f) w) (hr : M.sumB r = true) (hs : M.sumB s = true) (hp : M.sumB p = true) :
    Calls Tryz.prog 193 #[.pointer (some ⟨g, 0, none⟩)] w (Made (frontR r s p) w) := by
  obtain ⟨i0, hi0, hz0, hz1, hz2⟩ := info_parts u8_info
  have d0 := hA.cell 0 _ rfl
  have d1 := hA.cell 1 _ rfl
  have d2 := hA.cell 2 _ rfl
  have d3 := hA.cell 3 _ rfl
  have d4 := hA.cell 4 _ rfl
  have d5 := hA.cell 5 _ rfl
  have b1 := bal (Below.refl _ w) (.cells #[.int .u8 2] 5)
  have ltg := hA.lt (by simp)
  have O1 : OwnK .u8 (w.alloc (.cells #[.int .u8 2] 5)) w.heap.size (.slice (some ⟨w.heap.size, 0, none⟩) 1 1) [2] := own_lit (k := .u8) w [2] 1 5 (Nat.le_refl _) rfl (by simp only [maxLen]; omega)
  go_enter Tryz.func193, Tryz.ntmps193
  go_wp2_with fail
  generalize w.alloc (.cells #[.int .u8 2] 5) = W1 at *
  refine (l1Two_any r _ hr).mono ?_
  rintro e w2 ⟨rfl, rfl⟩
  have O2 := Own.alloc O1 (.cells #[.int .u8 (r / 256), .int .u8 (r % 256)] 5)
  have b2 := bal b1 (.cells #[.int .u8 (r / 256), .int .u8 (r % 256)] 5)
  have hle := b2.size
  have hsrc := src_new (P := Tryz.prog) W1 [.int .u8 (r / 256), .int .u8 (r % 256)] 2 2 5 22 5 Tryz.underlying22 rfl (ints_oneCell .u8 [r / 256, r % 256])
  go_wp2_with (at_builtin; refine wpList_append_src _ rfl (.tmp 4) (.tmp 9) 22 22 rfl w.heap.size 5 i0 (.int .u8 0) 1 1 Tryz.underlying22 hi0 hz0 hz1 hz2 rfl _ 1 [.int .u8 2] rfl O2 _ 2 _ rfl hsrc (by simp only [maxLen]; omega) (by omega) hle ?_; intro v3 w3 hown hgrow hat)
  have b3 : Below w.heap.size w w3 := Own.grown O2 b2 hle hgrow
  have O3 : OwnK .u8 w3.drew w.heap.size v3 ([2] ++ M.two r) := by unfold OwnK; simpa [M.two] using hown.drew
  clear O1 O2 b1 b2 hle hsrc hown hgrow hat
  have S0 : Bel w w3.drew := ⟨b3.drew⟩
  refine wp_region_line (Bel w) [(0, true), (1, true), (2, true), (3, true), (4, true), (7, true), (8, true), (9, true), (10, true), (5, false), (6, false), (11, false), (12, false), (13, true)] (by kernel_rfl) (by kernel_rfl) (fun _ _ d _ _ h => by cases d <;> exact h) S0 ?_
  have inst : Nonempty (Of (Bel w)) := ⟨⟨_, S0⟩⟩
  have u1 := bel_cell d1
  have u2 := bel_cell d2
  clear b3 d0 d1 d2 d3 d4 d5
  generalize w3.drew = V1 at *
  iterate 9 (refine line_read rfl (by kernel_rfl) (fun K hK => ?_); go_big_quiet_op; refine hK _ ?_; clear hK K)
  clear u1 u2
  refine line_alone rfl (by kernel_rfl) (fun K hK => ?_)
  refine call_any (args := #[.int .i64 s]) rfl (by kernel_rfl) (by kernel_rfl) (l1Two_any s _ hs) ?_
  rintro e _ ⟨rfl, rfl⟩
  have st5 := S0.on (bal (Below.refl _ V1) (.cells #[.int .u8 (s / 256), .int .u8 (s % 256)] 5))
  have O5 : OwnK .u8 (V1.alloc (.cells #[.int .u8 (s / 256), .int .u8 (s % 256)] 5)) w.heap.size v3 ([2] ++ M.two r) := Own.alloc O3 _
  have T5 := two_own V1 s
  refine ⟨_, rfl, hK _ _ st5 ?_⟩
  clear hK K
  simp only [Act.put, List.setIfInBounds_toArray, List.set_cons_zero, List.set_cons_succ]
  refine line_alone rfl (by kernel_rfl) (fun K hK => ?_)
  refine wp_append_src _ (.tmp 11) (.tmp 16) 22 22 rfl w.heap.size 5 i0 (.int .u8 0) 1 1 Tryz.underlying22 hi0 hz0 hz1 hz2 rfl _ _ _ rfl O5 _ 2 _ rfl (T5.src6 (two_byte hs)) (by simp only [maxLen, M.two, List.length_append, List.length_cons, List.length_nil]; omega) (by simp only [M.two, List.length_append, List.length_cons, List.length_nil]; omega) st5.out.size (fun v5 w5 hown hgrow hat => ?_)
  have b5 : Below w.heap.size w w5 := Own.grown O5 st5.out st5.out.size hgrow
  have P5 : OwnK .u8 w5 w.heap.size v5 ([2] ++ M.two r ++ M.two s) := by
    unfold OwnK
    rw [List.length_append, List.map_append]
    exact hown
  have S5 : Bel w w5 := ⟨b5⟩
  refine hK _ _ S5 ?_
  clear hK K hown hgrow hat O5 T5 st5 O3 S0 b5
  simp only [Act.put, List.setIfInBounds_toArray, List.set_cons_zero, List.set_cons_succ]
  refine line_alone rfl (by kernel_rfl) (fun K hK => ?_)
  refine call_any (args := #[.int .i64 p]) rfl (by kernel_rfl) (by kernel_rfl) (l1Two_any p _ hp) ?_
  rintro e _ ⟨rfl, rfl⟩
  have st6 := S5.on (bal (Below.refl _ w5) (.cells #[.int .u8 (p / 256), .int .u8 (p % 256)] 5))
  have O6 : OwnK .u8 (w5.alloc (.cells #[.int .u8 (p / 256), .int .u8 (p % 256)] 5)) w.heap.size v5 ([2] ++ M.two r ++ M.two s) := Own.alloc P5 _
  have T6 := two_own w5 p
  refine ⟨_, rfl, hK _ _ st6 ?_⟩
  clear hK K
  simp only [Act.put, List.setIfInBounds_toArray, List.set_cons_zero, List.set_cons_succ]
  refine line_alone rfl (by kernel_rfl) (fun K hK => ?_)
  refine wp_append_src _ (.tmp 17) (.tmp 22) 22 22 rfl w.heap.size 5 i0 (.int .u8 0) 1 1 Tryz.underlying22 hi0 hz0 hz1 hz2 rfl _ _ _ rfl O6 _ 2 _ rfl (T6.src6 (two_byte hp)) (by simp only [maxLen, M.two, List.length_append, List.length_cons, List.length_nil]; omega) (by simp only [M.two, List.length_append, List.length_cons, List.length_nil]; omega) st6.out.size (fun v6 w6 hown hgrow hat => ?_)
  have b6 : Below w.heap.size w w6 := Own.grown O6 st6.out st6.out.size hgrow
  have P6 : OwnK .u8 w6 w.heap.size v6 ([2] ++ M.two r ++ M.two s ++ M.two p) := by
    unfold OwnK
    rw [List.length_append, List.map_append]
    exact hown
  have S6 : Bel w w6 := ⟨b6⟩
  refine hK _ _ S6 ?_
  clear hK K hown hgrow hat O6 T6 st6 P5 S5 b6
  simp only [Act.put, List.setIfInBounds_toArray, List.set_cons_zero, List.set_cons_succ]
  obtain ⟨a7, c7, hv7, -⟩ := P6.form
  have HT := Lib.hid (And.intro (show OwnK .u8 w6 w.heap.size v6 (frontR r s p) from P6) S6.out)
  clear P6 S6
  subst hv7
  iterate 1 (refine line_read rfl (by kernel_rfl) (fun K hK => ?_); go_big_quiet_op; refine hK _ ?_; clear hK K)
  refine line_nil ?_
  go_wp2_with fail
  go_ret
  exact ⟨_, _, _, rfl, HT.out.1, HT.out.2⟩

theorem l6PackReply_any (g : Nat) (r s p x y f : Int) (w : World) (hA : At g (RL6 r s p x y f) w) (h : repF r s p x y f = 0) :
    Calls Tryz.prog 97 #[.pointer (some ⟨g, 0, none⟩)] w (Made (packR r s p x y f) w) := by
  obtain ⟨hr, hs, hp, hf, hg⟩ := repF_zero h
  obtain ⟨hxs, hys⟩ := sig_sums hg
  obtain ⟨i0, hi0, hz0, hz1, hz2⟩ := info_parts u8_info
  have P1 := fun w hA => l6Front_any g r s p x y f w hA hr (pub_sum6 hs) (pub_sum6 hp)
  have P2 := fun w d3 d4 => l3Pack3_any g x y w d3 d4 hxs hys
  have hby : ∀ z ∈ M.two x ++ M.two y, M.byteB z := fun z hz => by
    rcases List.mem_append.1 hz with h | h
    · exact two_byte hxs z h
    · exact two_byte hys z h
  clear h
  go_enter Tryz.func97, Tryz.ntmps97
  go_wp2_with fail
  refine wp_region_line (Bel w) [(0, true), (2, true), (3, true), (4, true), (1, false), (5, false), (6, false), (7, true)] (by kernel_rfl) (by kernel_rfl) (fun _ _ d _ _ h => by cases d <;> exact h) (Bel.drew w) ?_
  have hst := Bel.drew w
  have inst : Nonempty (Of (Bel w)) := ⟨⟨_, hst⟩⟩
  have eV := Lib.hid (show w.drew.heap.size = w.heap.size from rfl)
  generalize w.drew = V at *
  iterate 4 (refine line_read rfl (by kernel_rfl) (fun K hK => ?_); go_big_quiet_op; refine hK _ ?_; clear hK K)
  refine line_alone rfl (by kernel_rfl) (fun K hK => ?_)
  refine call_any (args := #[.pointer (some ⟨g, 0, none⟩)]) rfl (by kernel_rfl) (by kernel_rfl) (P1 _ (hA.on hst.out)) ?_
  rintro e w1 ⟨a1, n1, c1, rfl, O1, b1⟩
  have l1 : n1 = 7 := O1.len
  subst l1
  have st1 := hst.on b1
  refine ⟨_, rfl, hK _ _ st1 ?_⟩
  clear hK K
  simp only [Act.put, List.setIfInBounds_toArray, List.set_cons_zero, List.set_cons_succ]
  have A1 := hA.on st1.out
  refine line_alone rfl (by kernel_rfl) (fun K hK => ?_)
  refine call_any (args := #[.pointer (some ⟨g, 3, none⟩)]) rfl (by kernel_rfl) (by kernel_rfl) (P2 _ (A1.cell 3 _ rfl) (A1.cell 4 _ rfl)) ?_
  rintro e w2 ⟨a2, n2, c2, rfl, O2, b2⟩
  have l2 : n2 = 4 := O2.len
  subst l2
  have st2 := st1.on b2
  have O1' : OwnK .u8 w2 w.heap.size (.slice a1 7 c1) (frontR r s p) := (Own.below O1 b2).less (Nat.le_of_eq eV.out.symm)
  refine ⟨_, rfl, hK _ _ st2 ?_⟩
  clear hK K
  simp only [Act.put, List.setIfInBounds_toArray, List.set_cons_zero, List.set_cons_succ]
  refine line_alone rfl (by kernel_rfl) (fun K hK => ?_)
  refine wp_append_src _ (.tmp 5) (.tmp 9) 22 22 rfl w.heap.size 5 i0 (.int .u8 0) 1 1 Tryz.underlying22 hi0 hz0 hz1 hz2 rfl _ _ _ rfl O1' _ 4 _ rfl (O2.src6 hby) (by rw [frontR_length]; simp only [maxLen]; omega) (by rw [frontR_length]; omega) st2.out.size (fun v3 w3 hown hgrow hat => ?_)
  have b3 : Below w.heap.size w w3 := Own.grown O1' st2.out st2.out.size hgrow
  have O3 : OwnK .u8 w3 w.heap.size v3 (frontR r s p ++ (M.two x ++ M.two y)) := by
    unfold OwnK
    rw [List.length_append, List.map_append]
    exact hown
  refine hK _ _ ⟨b3⟩ ?_
  clear hK K hown hgrow hat O1' O1 O2 st1 st2 hst b1 b2 P1 P2 A1
  simp only [Act.put, List.setIfInBounds_toArray, List.set_cons_zero, List.set_cons_succ]
  iterate 1 (refine line_read rfl (by kernel_rfl) (fun K hK => ?_); go_big_quiet_op; refine hK _ ?_; clear hK K)
  refine line_nil ?_
  have d5 := (hA.on b3).cell 5 _ rfl
  clear inst
  go_wp2_with fail
  refine (l1Two_any f _ hf).mono ?_
  rintro e w4 ⟨rfl, rfl⟩
  have O4 : OwnK .u8 (w3.alloc (.cells #[.int .u8 (f / 256), .int .u8 (f % 256)] 5)) w.heap.size v3 (frontR r s p ++ (M.two x ++ M.two y)) := Own.alloc O3 _
  have T4 := (two_own w3 f).src6 (two_byte hf)
  have b4 := bal b3 (.cells #[.int .u8 (f / 256), .int .u8 (f % 256)] 5)
  have hle := b4.size
  have hlen : (frontR r s p ++ (M.two x ++ M.two y)).length = 11 := rfl
  go_wp2_with (at_builtin; refine wpList_append_src _ rfl (.tmp 11) (.tmp 16) 22 22 rfl w.heap.size 5 i0 (.int .u8 0) 1 1 Tryz.underlying22 hi0 hz0 hz1 hz2 rfl _ _ _ rfl O4 _ 2 _ rfl T4 (by rw [hlen]; simp only [maxLen]; omega) (by rw [hlen]; omega) hle ?_; intro v5 w5 hown hgrow hat)
  have b5 : Below w.heap.size w w5 := Own.grown O4 b4 hle hgrow
  have O5 : OwnK .u8 w5 w.heap.size v5 (packR r s p x y f) := by
    unfold OwnK packR
    generalize frontR r s p ++ (M.two x ++ M.two y) = L at hown ⊢
    rw [List.length_append, List.map_append]
    exact hown
  obtain ⟨a5, c5, hv5, -⟩ := O5.form
  have HT := Lib.hid (And.intro O5 b5)
  clear hown hgrow hat O4 T4 b4 O5 b5 O3 b3
  subst hv5
  go_wp2_with fail
  go_ret
  exact ⟨_, _, _, rfl, HT.out.1, HT.out.2⟩
end Go.Proofs.YtlodhleihnlchaaGreatDoor
namespace Go.Proofs.YtlodhleihnlchaaGreatDoor
open Go.RowKit
set_option maxRecDepth 100000
set_option linter.unusedVariables false

theorem grid_two {w : World} {a1 a2 : Option Addr} {n1 n2 c1 c2 : Nat} {z1 z2 : List Int} (t : TypeId) (R1 : Row .u8 w w.heap.size a1 n1 c1 z1) (R2 : Row .u8 w w.heap.size a2 n2 c2 z2) :
    Grid (w.alloc (.cells #[.slice a1 n1 c1, .slice a2 n2 c2] t)) (w.heap.size + 1) (some ⟨w.heap.size, 0, none⟩) 2 2 [z1, z2] :=
  ⟨rfl, Nat.le_refl _, by simp only [maxLen]; omega, fun _ => ⟨w.heap.size, 0, rfl, by omega, fun j hj => by
    have e1 : (w.alloc (.cells #[.slice a1 n1 c1, .slice a2 n2 c2] t)).heap[w.heap.size]? = some (.cells #[.slice a1 n1 c1, .slice a2 n2 c2] t) := (MapKept.heap_alloc w _).1
    match j, hj with
    | 0, _ => exact ⟨a1, n1, c1, by unfold World.cell?; show (match (w.alloc (.cells #[.slice a1 n1 c1, .slice a2 n2 c2] t)).heap[w.heap.size]? with | some (Obj.cells c elem frozen) => c[0]? | x => none) = _; rw [e1]; rfl, (R1.alloc (Nat.le_refl _) _).more (by omega)⟩
    | 1, _ => exact ⟨a2, n2, c2, by unfold World.cell?; show (match (w.alloc (.cells #[.slice a1 n1 c1, .slice a2 n2 c2] t)).heap[w.heap.size]? with | some (Obj.cells c elem frozen) => c[1]? | x => none) = _; rw [e1]; rfl, (R2.alloc (Nat.le_refl _) _).more (by omega)⟩⟩⟩
theorem Row.upto6 {k : IntKind} {w : World} {B : Nat} {a : Option Addr} {len cap : Nat} {zs : List Int} (h : Row k w B a len cap zs) (n : Nat) (hn : n ≤ len) : Row k w B a n cap (zs.take n) :=
  ⟨by simp [h.length]; omega, fun z hz => h.wf z (List.mem_of_mem_take hz), Nat.le_trans hn h.fits, h.most, fun hp => by
    obtain ⟨b, off, e, hb, hc⟩ := h.cells (by omega)
    refine ⟨b, off, e, hb, fun j hj => ?_⟩
    rw [hc j (by omega)]
    simp [List.getD, hj]⟩
structure Hold2 (W : World) (g : Nat) (cs : List Value) (h : Nat) (ds : List Value) (cur : World) : Prop where
  bel : Below W.heap.size W cur
  one : At g cs cur
  two : At h ds cur
theorem Hold2.on {W : World} {g h : Nat} {cs ds : List Value} {cur cur' : World} (x : Hold2 W g cs h ds cur) (hb : Below cur.heap.size cur cur') : Hold2 W g cs h ds cur' := ⟨btr x.bel hb, x.one.on hb, x.two.on hb⟩
theorem Hold2.setB {W : World} {g h : Nat} {cs ds : List Value} {cur : World} (x : Hold2 W g cs h ds cur) {p : Addr} (hW : W.heap.size ≤ p.block) (hg : g ≠ p.block) (hh : h ≠ p.block) (u : Value) : Hold2 W g cs h ds (cur.setCell p u) := ⟨bset x.bel hW u, x.one.setB hg u, x.two.setB hh u⟩
def heaC (n : ByteArray) (r s : Int) (r2 s2 p x y f : Int) : Int := if helF n.data.toList r s = 0 then repF r2 s2 p x y f else helF n.data.toList r s
def heaV (n : ByteArray) (r s : Int) (r2 s2 p x y f : Int) : Int := if heaC n r s r2 s2 p x y f = 0 then M.heardL [packH n r s, frontR r2 s2 p] else 0
theorem hea_hel {n : ByteArray} {r s r2 s2 p x y f : Int} (h : ¬ helF n.data.toList r s = 0) : heaC n r s r2 s2 p x y f = helF n.data.toList r s ∧ heaV n r s r2 s2 p x y f = 0 := by
  have e : heaC n r s r2 s2 p x y f = helF n.data.toList r s := by simp [heaC, h]
  exact ⟨e, by unfold heaV; rw [e, if_neg h]⟩
theorem hea_rep {n : ByteArray} {r s r2 s2 p x y f : Int} (h : helF n.data.toList r s = 0) (h2 : ¬ repF r2 s2 p x y f = 0) : heaC n r s r2 s2 p x y f = repF r2 s2 p x y f ∧ heaV n r s r2 s2 p x y f = 0 := by
  have e : heaC n r s r2 s2 p x y f = repF r2 s2 p x y f := by simp [heaC, h]
  exact ⟨e, by unfold heaV; rw [e, if_neg h2]⟩
theorem hea_yes {n : ByteArray} {r s r2 s2 p x y f : Int} (h : helF n.data.toList r s = 0) (h2 : repF r2 s2 p x y f = 0) : heaC n r s r2 s2 p x y f = 0 ∧ heaV n r s r2 s2 p x y f = M.heardL [packH n r s, frontR r2 s2 p] := by
  have e : heaC n r s r2 s2 p x y f = 0 := by simp [heaC, h, h2]
  exact ⟨e, by unfold heaV; rw [if_pos e]⟩
theorem hea_R {n : ByteArray} {r s r2 s2 p : Int} (hn : n.size ≤ 20) : M.heardR [packH n r s, frontR r2 s2 p] = (0, M.heardL [packH n r s, frontR r2 s2 p]) := by
  unfold M.heardR
  have l1 := packH_length n r s
  have l2 := frontR_length r2 s2 p
  simp [M.longB, l1, l2]
  omega

theorem frontR_byte {r s p : Int} (h1 : M.sumB r = true) (h2 : pubB s = true) (h3 : pubB p = true) : ∀ z ∈ frontR r s p, M.byteB z := by
  intro z hz
  simp only [frontR, List.mem_append] at hz
  rcases hz with ((hz | hz) | hz) | hz
  · simp only [List.mem_cons, List.not_mem_nil, or_false] at hz
    unfold M.byteB
    omega
  · exact two_byte h1 z hz
  · exact two_byte (pub_sum6 h2) z hz
  · exact two_byte (pub_sum6 h3) z hz
theorem l6Heard_any (g h : Nat) (n : ByteArray) (r s r2 s2 p x y f : Int) (w : World) (A1 : At g (HL3 r s n) w) (A2 : At h (RL6 r2 s2 p x y f) w) (hh : helF n.data.toList r s = 0) (hr : repF r2 s2 p x y f = 0) :
    Calls Tryz.prog 111 #[.pointer (some ⟨g, 0, none⟩), .pointer (some ⟨h, 0, none⟩)] w fun e w' => e = .returned (.int .i64 (M.heardL [packH n r s, frontR r2 s2 p])) ∧ Below w.heap.size w w' := by
  obtain ⟨h1, h2, h3, h4, h5⟩ := repF_zero hr
  have P1 := fun w A => l6PackHello_any g r s n w A hh
  have P2 := fun w A => l6Front_any h r2 s2 p x y f w A h1 (pub_sum6 h2) (pub_sum6 h3)
  have HW := Lib.hid (And.intro (fun z hz => byte_wf (packH_byte hh z hz)) (fun z hz => byte_wf (packR_byte hr z (List.mem_append_left _ (List.mem_append_left _ hz)))))
  generalize packH n r s = z1 at *
  generalize frontR r2 s2 p = z2 at *
  have F3 := fun a len cap B w G hB hl => l2Heard_any a len cap B [z1, z2] w G hB hl
  generalize M.heardL [z1, z2] = hv at *
  go_enter Tryz.func111, Tryz.ntmps111
  go_wp2_with fail
  refine (P1 _ A1).mono ?_
  rintro e u1 ⟨a1, n1, c1, rfl, O1, b1⟩
  go_wp2_with fail
  refine (P2 _ (A2.on b1)).mono ?_
  rintro e u2 ⟨a2, n2, c2, rfl, O2, b2⟩
  have G := grid_two 22 ((Own.row O1 HW.out.1).on b2) (Own.row O2 HW.out.2)
  have B3 := bal (btr b1 b2) (.cells #[.slice a1 n1 c1, .slice a2 n2 c2] 22)
  have hle : u2.heap.size + 1 ≤ (u2.alloc (.cells #[.slice a1 n1 c1, .slice a2 n2 c2] 22)).heap.size := by simp
  clear O1 O2 b1 b2 P1 P2
  go_wp2_with fail
  generalize u2.alloc (.cells #[.slice a1 n1 c1, .slice a2 n2 c2] 22) = v2 at *
  refine (F3 _ _ _ _ _ G hle (by omega)).mono ?_
  rintro e u3 ⟨rfl, b3⟩
  have hb := btr B3 b3
  clear G
  go_wp2_with fail
  go_ret
  exact ⟨rfl, hb⟩
theorem specHeardOf_any (n : ByteArray) (r s r2 s2 p x y f : Int) (w : World) (hn : n.size ≤ maxLen) :
    Calls Tryz.prog 29 #[H3 r s n, R6 r2 s2 p x y f] w fun e w' => e = .returned (I2 (heaC n r s r2 s2 p x y f) (heaV n r s r2 s2 p x y f)) ∧ Below w.heap.size w w' := by
  have b0 := bal (bal (bal (Below.refl _ w) (.cells #[.int .i64 r, .int .i64 s, .string n] 26)) (.cells #[.int .i64 r2, .int .i64 s2, .int .i64 p, .int .i64 x, .int .i64 y, .int .i64 f] 33)) (.cells #[.int .i64 0, .int .i64 0] 49)
  have A1 := ((At.new w (HL3 r s n) 26).alloc (.cells #[.int .i64 r2, .int .i64 s2, .int .i64 p, .int .i64 x, .int .i64 y, .int .i64 f] 33)).alloc (.cells #[.int .i64 0, .int .i64 0] 49)
  have A2 := (At.new (w.alloc (.cells #[.int .i64 r, .int .i64 s, .string n] 26)) (RL6 r2 s2 p x y f) 33).alloc (.cells #[.int .i64 0, .int .i64 0] 49)
  have A3 := At.new ((w.alloc (.cells #[.int .i64 r, .int .i64 s, .string n] 26)).alloc (.cells #[.int .i64 r2, .int .i64 s2, .int .i64 p, .int .i64 x, .int .i64 y, .int .i64 f] 33)) [.int .i64 0, .int .i64 0] 49
  simp only [World.size_alloc] at A1 A2 A3
  have F1 := fun g w A => l6Hello_any g r s n w A hn
  have F2 := fun g w A => l6Reply_any g r2 s2 p x y f w A
  by_cases h1 : helF n.data.toList r s = 0
  · by_cases h2 : repF r2 s2 p x y f = 0
    · obtain ⟨e1, e2⟩ := hea_yes (x := x) (y := y) (f := f) h1 h2
      rw [e1, e2]
      have F3 := fun g h w A1 A2 => l6Heard_any g h n r s r2 s2 p x y f w A1 A2 h1 h2
      rw [h1] at F1
      rw [h2] at F2
      generalize M.heardL [packH n r s, frontR r2 s2 p] = hv at *
      clear e1 e2 h1 h2
      go_enter Tryz.func29, Tryz.ntmps29
      go_wp2_with fail
      generalize ((w.alloc (.cells #[.int .i64 r, .int .i64 s, .string n] 26)).alloc (.cells #[.int .i64 r2, .int .i64 s2, .int .i64 p, .int .i64 x, .int .i64 y, .int .i64 f] 33)).alloc (.cells #[.int .i64 0, .int .i64 0] 49) = W0 at *
      refine (F1 _ _ A1).mono ?_
      rintro e u1 ⟨rfl, b1⟩
      go_wp2_with fail
      refine (F2 _ _ (A2.on b1)).mono ?_
      rintro e u2 ⟨rfl, rfl⟩
      go_wp2_with fail
      refine (F3 _ _ _ (A1.on b1) (A2.on b1)).mono ?_
      rintro e u3 ⟨rfl, b3⟩
      have b13 := btr b1 b3
      have B3 := btr b0 b13
      clear b1 b3 F1 F2 F3
      have q0 := (A3.on b13).cell 0 _ rfl
      have q1 := (A3.on b13).cell 1 _ rfl
      have z0 := (A3.on b13).free 0 _ rfl
      have z1 := (A3.on b13).free 1 _ rfl
      clear A1 A2 A3
      go_wp2_with fail
      refine bodyPost_ret (v := I2 0 hv) (by simp [results, Tryz.results29, go_sem, q0, q1]) rfl ⟨rfl, ?_⟩
      exact (by (iterate 2 (refine bset ?_ (by dsimp only; omega) _)); exact B3)
    · obtain ⟨e1, e2⟩ := hea_rep (x := x) (y := y) (f := f) h1 h2
      rw [e1, e2]
      rw [h1] at F1
      generalize repF r2 s2 p x y f = cd at *
      clear e1 e2 h1
      go_enter Tryz.func29, Tryz.ntmps29
      go_wp2_with fail
      generalize ((w.alloc (.cells #[.int .i64 r, .int .i64 s, .string n] 26)).alloc (.cells #[.int .i64 r2, .int .i64 s2, .int .i64 p, .int .i64 x, .int .i64 y, .int .i64 f] 33)).alloc (.cells #[.int .i64 0, .int .i64 0] 49) = W0 at *
      refine (F1 _ _ A1).mono ?_
      rintro e u1 ⟨rfl, b1⟩
      go_wp2_with fail
      refine (F2 _ _ (A2.on b1)).mono ?_
      rintro e u2 ⟨rfl, rfl⟩
      have B3 := btr b0 b1
      clear F1 F2
      have q0 := (A3.on b1).cell 0 _ rfl
      have q1 := (A3.on b1).cell 1 _ rfl
      have z0 := (A3.on b1).free 0 _ rfl
      have z1 := (A3.on b1).free 1 _ rfl
      clear A1 A2 A3
      go_wp2_with fail
      refine bodyPost_ret (v := I2 cd 0) (by simp [results, Tryz.results29, go_sem, q0, q1]) rfl ⟨rfl, ?_⟩
      exact (by (iterate 2 (refine bset ?_ (by dsimp only; omega) _)); exact B3)
  · obtain ⟨e1, e2⟩ := hea_hel (r2 := r2) (s2 := s2) (p := p) (x := x) (y := y) (f := f) h1
    rw [e1, e2]
    generalize helF n.data.toList r s = cd at *
    clear e1 e2
    go_enter Tryz.func29, Tryz.ntmps29
    go_wp2_with fail
    generalize ((w.alloc (.cells #[.int .i64 r, .int .i64 s, .string n] 26)).alloc (.cells #[.int .i64 r2, .int .i64 s2, .int .i64 p, .int .i64 x, .int .i64 y, .int .i64 f] 33)).alloc (.cells #[.int .i64 0, .int .i64 0] 49) = W0 at *
    refine (F1 _ _ A1).mono ?_
    rintro e u1 ⟨rfl, b1⟩
    have B3 := btr b0 b1
    clear F1 F2
    have q0 := (A3.on b1).cell 0 _ rfl
    have q1 := (A3.on b1).cell 1 _ rfl
    have z0 := (A3.on b1).free 0 _ rfl
    have z1 := (A3.on b1).free 1 _ rfl
    clear A1 A2 A3
    go_wp2_with fail
    refine bodyPost_ret (v := I2 cd 0) (by simp [results, Tryz.results29, go_sem, q0, q1]) rfl ⟨rfl, ?_⟩
    exact (by (iterate 2 (refine bset ?_ (by dsimp only; omega) _)); exact B3)

theorem heardSum_any (n : ByteArray) (r s r2 s2 p x y f : Int) (w : World) (lab : Labels w) (hh : helF n.data.toList r s = 0) (h1 : M.sumB r2 = true) (h2 : pubB s2 = true) (h3 : pubB p = true) :
    Calls Tryz.prog 110 #[H3 r s n, R6 r2 s2 p x y f] w fun e w' => e = .returned (.int .i64 (M.heardL [packH n r s, frontR r2 s2 p])) ∧ Below w.heap.size w w' := by
  have b0 := bal (bal (Below.refl _ w) (.cells #[.int .i64 r, .int .i64 s, .string n] 26)) (.cells #[.int .i64 r2, .int .i64 s2, .int .i64 p, .int .i64 x, .int .i64 y, .int .i64 f] 33)
  have A1 := (At.new w (HL3 r s n) 26).alloc (.cells #[.int .i64 r2, .int .i64 s2, .int .i64 p, .int .i64 x, .int .i64 y, .int .i64 f] 33)
  have A2 := At.new (w.alloc (.cells #[.int .i64 r, .int .i64 s, .string n] 26)) (RL6 r2 s2 p x y f) 33
  simp only [World.size_alloc] at A1 A2
  have f1 := fld1
  have P1 := fun w => wordBytes_hello r s n w hh
  have P2 := fun w => replyHeadOf_any r2 s2 p x y f w h1 (pub_sum6 h2) (pub_sum6 h3)
  have hR := hea_R (r := r) (s := s) (r2 := r2) (s2 := s2) (p := p) (hel_size hh)
  have HW := Lib.hid (And.intro (fun z hz => byte_wf (packH_byte hh z hz)) (fun z hz => byte_wf (frontR_byte h1 h2 h3 z hz)))
  have L0 := lab.on b0
  generalize M.heardL [packH n r s, frontR r2 s2 p] = hv at *
  generalize packH n r s = z1 at *
  generalize frontR r2 s2 p = z2 at *
  have F3 := fun a len cap B w L G hB => implTranscript_any a len cap B [z1, z2] w L G hB
  rw [hR] at F3
  clear lab hh h1 h2 h3 hR
  go_enter Tryz.func110, Tryz.ntmps110
  go_wp2_with fail
  generalize (w.alloc (.cells #[.int .i64 r, .int .i64 s, .string n] 26)).alloc (.cells #[.int .i64 r2, .int .i64 s2, .int .i64 p, .int .i64 x, .int .i64 y, .int .i64 f] 33) = W0 at *
  have d0 := A1.cell 0 _ rfl
  have d1 := A1.cell 1 _ rfl
  have d2 := A1.cell 2 _ rfl
  have k0 := A2.cell 0 _ rfl
  have k1 := A2.cell 1 _ rfl
  have k2 := A2.cell 2 _ rfl
  have k3 := A2.cell 3 _ rfl
  have k4 := A2.cell 4 _ rfl
  have k5 := A2.cell 5 _ rfl
  refine wp_region_line (Bel W0) [(0, true), (3, true), (1, false), (2, false), (4, false), (5, false), (6, false), (7, true), (8, true)] (by kernel_rfl) (by kernel_rfl) (fun _ _ d _ _ h => by cases d <;> exact h) (Bel.drew W0) ?_
  have hst := Bel.drew W0
  have inst : Nonempty (Of (Bel W0)) := ⟨⟨_, hst⟩⟩
  have u0 := bel_cell d0
  have u1 := bel_cell d1
  have u2 := bel_cell d2
  have v0 := bel_cell k0
  have v1 := bel_cell k1
  have v2 := bel_cell k2
  have v3 := bel_cell k3
  have v4 := bel_cell k4
  have v5 := bel_cell k5
  iterate 2 (refine line_read rfl (by kernel_rfl) (fun K hK => ?_); go_big_quiet_op; refine hK _ ?_; clear hK K)
  clear u0 u1 u2 v0 v1 v2 v3 v4 v5 d0 d1 d2 k0 k1 k2 k3 k4 k5
  refine line_value (v := .iface 26 (H3 r s n)) rfl (by kernel_rfl) (by kernel_rfl) hst ?_
  simp only [Act.put, List.setIfInBounds_toArray, List.set_cons_zero, List.set_cons_succ]
  refine line_alone rfl (by kernel_rfl) (fun K hK => ?_)
  refine call_any (args := #[.iface 26 (H3 r s n)]) rfl (by kernel_rfl) (by kernel_rfl) (P1 _) ?_
  rintro e V3 ⟨a1, n1, c1, rfl, O1, b3⟩
  have st3 := hst.on b3
  refine ⟨_, rfl, hK _ _ st3 ?_⟩
  clear hK K
  simp only [Act.put, List.setIfInBounds_toArray, List.set_cons_zero, List.set_cons_succ]
  refine line_alone rfl (by kernel_rfl) (fun K hK => ?_)
  refine call_any (args := #[R6 r2 s2 p x y f]) rfl (by kernel_rfl) (by kernel_rfl) (P2 _) ?_
  rintro e V4 ⟨a2, n2, c2, rfl, O2, b4⟩
  have st4 := st3.on b4
  refine ⟨_, rfl, hK _ _ st4 ?_⟩
  clear hK K
  simp only [Act.put, List.setIfInBounds_toArray, List.set_cons_zero, List.set_cons_succ]
  have G := grid_two 22 ((Own.row O1 HW.out.1).on b4) (Own.row O2 HW.out.2)
  have L4 := L0.on st4.out
  have st5 := st4.on (bal (Below.refl _ V4) (.cells #[.slice a1 n1 c1, .slice a2 n2 c2] 22))
  have L5 := L4.on (bal (Below.refl _ V4) (.cells #[.slice a1 n1 c1, .slice a2 n2 c2] 22))
  refine line_alone rfl (by kernel_rfl) (fun K hK => ?_)
  go_big_op
  refine hK _ _ (st5) ?_
  clear hK K
  have hle : V4.heap.size + 1 ≤ (V4.alloc (.cells #[.slice a1 n1 c1, .slice a2 n2 c2] 22)).heap.size := by simp
  generalize V4.alloc (.cells #[.slice a1 n1 c1, .slice a2 n2 c2] 22) = V5 at *
  refine line_alone rfl (by kernel_rfl) (fun K hK => ?_)
  refine call_any (args := #[.slice (some ⟨V4.heap.size, 0, none⟩) 2 2]) rfl (by kernel_rfl) (by kernel_rfl) (F3 _ _ _ _ _ L5 G hle) ?_
  rintro e V6 ⟨rfl, b6⟩
  have st6 := st5.on b6
  refine ⟨_, rfl, hK _ _ st6 ?_⟩
  clear hK K
  simp only [Act.put, List.setIfInBounds_toArray, List.set_cons_zero, List.set_cons_succ]
  iterate 2 (refine line_read rfl (by kernel_rfl) (fun K hK => ?_); go_big_quiet_op; refine hK _ ?_; clear hK K)
  refine line_nil ?_
  have hb := btr b0 st6.out
  clear hst st3 st4 st5 st6 G O1 O2 b3 b4 b6 L4 L5 L0 A1 A2 b0
  go_wp2_with fail
  go_ret
  exact ⟨rfl, hb⟩
theorem implHeardOf_any (n : ByteArray) (r s r2 s2 p x y f : Int) (w : World) (lab : Labels w) (ert : ErrT w) (hn : n.size ≤ maxLen) :
    Calls Tryz.prog 28 #[H3 r s n, R6 r2 s2 p x y f] w fun e w' => e = .returned (I2 (heaC n r s r2 s2 p x y f) (heaV n r s r2 s2 p x y f)) ∧ Below w.heap.size w w' := by
  have b0 := bal (bal (bal (Below.refl _ w) (.cells #[.int .i64 r, .int .i64 s, .string n] 26)) (.cells #[.int .i64 r2, .int .i64 s2, .int .i64 p, .int .i64 x, .int .i64 y, .int .i64 f] 33)) (.cells #[.int .i64 0, .int .i64 0] 49)
  have A1 := ((At.new w (HL3 r s n) 26).alloc (.cells #[.int .i64 r2, .int .i64 s2, .int .i64 p, .int .i64 x, .int .i64 y, .int .i64 f] 33)).alloc (.cells #[.int .i64 0, .int .i64 0] 49)
  have A2 := (At.new (w.alloc (.cells #[.int .i64 r, .int .i64 s, .string n] 26)) (RL6 r2 s2 p x y f) 33).alloc (.cells #[.int .i64 0, .int .i64 0] 49)
  have A3 := At.new ((w.alloc (.cells #[.int .i64 r, .int .i64 s, .string n] 26)).alloc (.cells #[.int .i64 r2, .int .i64 s2, .int .i64 p, .int .i64 x, .int .i64 y, .int .i64 f] 33)) [.int .i64 0, .int .i64 0] 49
  simp only [World.size_alloc] at A1 A2 A3
  have F1 := fun w => implHelloFault_any r s n w hn
  have F2 := fun w E => implReplyFault_any r2 s2 p x y f w E
  have L0 := lab.on b0
  have E0 := ert.on b0
  clear lab ert
  by_cases h1 : helF n.data.toList r s = 0
  · rw [h1] at F1
    by_cases h2 : repF r2 s2 p x y f = 0
    · obtain ⟨e1, e2⟩ := hea_yes (x := x) (y := y) (f := f) h1 h2
      rw [e1, e2]
      rw [h2] at F2
      obtain ⟨q1, q2, q3, -, -⟩ := repF_zero h2
      have F3 := fun w L => heardSum_any n r s r2 s2 p x y f w L h1 q1 q2 q3
      generalize M.heardL [packH n r s, frontR r2 s2 p] = hv at *
      clear e1 e2 h1 h2 q1 q2 q3
      go_enter Tryz.func28, Tryz.ntmps28
      go_wp2_with fail
      generalize ((w.alloc (.cells #[.int .i64 r, .int .i64 s, .string n] 26)).alloc (.cells #[.int .i64 r2, .int .i64 s2, .int .i64 p, .int .i64 x, .int .i64 y, .int .i64 f] 33)).alloc (.cells #[.int .i64 0, .int .i64 0] 49) = W0 at *
      refine (F1 _).mono ?_
      rintro e u1 ⟨rfl, b1⟩
      have d0 := (A1.on b1).cell 0 _ rfl
      have d1 := (A1.on b1).cell 1 _ rfl
      have d2 := (A1.on b1).cell 2 _ rfl
      have k0 := (A2.on b1).cell 0 _ rfl
      have k1 := (A2.on b1).cell 1 _ rfl
      have k2 := (A2.on b1).cell 2 _ rfl
      have k3 := (A2.on b1).cell 3 _ rfl
      have k4 := (A2.on b1).cell 4 _ rfl
      have k5 := (A2.on b1).cell 5 _ rfl
      go_wp2_with fail
      refine (F2 _ (E0.on b1)).mono ?_
      rintro e u2 ⟨rfl, b2⟩
      have b12 := btr b1 b2
      clear d0 d1 d2 k0 k1 k2 k3 k4 k5
      have d0 := (A1.on b12).cell 0 _ rfl
      have d1 := (A1.on b12).cell 1 _ rfl
      have d2 := (A1.on b12).cell 2 _ rfl
      have k0 := (A2.on b12).cell 0 _ rfl
      have k1 := (A2.on b12).cell 1 _ rfl
      have k2 := (A2.on b12).cell 2 _ rfl
      have k3 := (A2.on b12).cell 3 _ rfl
      have k4 := (A2.on b12).cell 4 _ rfl
      have k5 := (A2.on b12).cell 5 _ rfl
      go_wp2_with fail
      refine (F3 _ (L0.on b12)).mono ?_
      rintro e u3 ⟨rfl, b3⟩
      have b13 := btr b12 b3
      have B3 := btr b0 b13
      clear b1 b2 b3 b12 F1 F2 F3 L0 E0 d0 d1 d2 k0 k1 k2 k3 k4 k5
      have q0 := (A3.on b13).cell 0 _ rfl
      have q1 := (A3.on b13).cell 1 _ rfl
      have z0 := (A3.on b13).free 0 _ rfl
      have z1 := (A3.on b13).free 1 _ rfl
      clear A1 A2 A3
      go_wp2_with fail
      refine bodyPost_ret (v := I2 0 hv) (by simp [results, Tryz.results28, go_sem, q0, q1]) rfl ⟨rfl, ?_⟩
      exact (by (iterate 2 (refine bset ?_ (by dsimp only; omega) _)); exact B3)
    · obtain ⟨e1, e2⟩ := hea_rep (x := x) (y := y) (f := f) h1 h2
      rw [e1, e2]
      generalize repF r2 s2 p x y f = cd at *
      clear e1 e2 h1
      go_enter Tryz.func28, Tryz.ntmps28
      go_wp2_with fail
      generalize ((w.alloc (.cells #[.int .i64 r, .int .i64 s, .string n] 26)).alloc (.cells #[.int .i64 r2, .int .i64 s2, .int .i64 p, .int .i64 x, .int .i64 y, .int .i64 f] 33)).alloc (.cells #[.int .i64 0, .int .i64 0] 49) = W0 at *
      refine (F1 _).mono ?_
      rintro e u1 ⟨rfl, b1⟩
      have d0 := (A1.on b1).cell 0 _ rfl
      have d1 := (A1.on b1).cell 1 _ rfl
      have d2 := (A1.on b1).cell 2 _ rfl
      have k0 := (A2.on b1).cell 0 _ rfl
      have k1 := (A2.on b1).cell 1 _ rfl
      have k2 := (A2.on b1).cell 2 _ rfl
      have k3 := (A2.on b1).cell 3 _ rfl
      have k4 := (A2.on b1).cell 4 _ rfl
      have k5 := (A2.on b1).cell 5 _ rfl
      go_wp2_with fail
      refine (F2 _ (E0.on b1)).mono ?_
      rintro e u2 ⟨rfl, b2⟩
      have b12 := btr b1 b2
      have B3 := btr b0 b12
      clear d0 d1 d2 k0 k1 k2 k3 k4 k5 b1 b2 F1 F2 L0 E0
      have q0 := (A3.on b12).cell 0 _ rfl
      have q1 := (A3.on b12).cell 1 _ rfl
      have z0 := (A3.on b12).free 0 _ rfl
      have z1 := (A3.on b12).free 1 _ rfl
      clear A1 A2 A3
      go_wp2_with fail
      refine bodyPost_ret (v := I2 cd 0) (by simp [results, Tryz.results28, go_sem, q0, q1]) rfl ⟨rfl, ?_⟩
      exact (by (iterate 2 (refine bset ?_ (by dsimp only; omega) _)); exact B3)
  · obtain ⟨e1, e2⟩ := hea_hel (r2 := r2) (s2 := s2) (p := p) (x := x) (y := y) (f := f) h1
    rw [e1, e2]
    generalize helF n.data.toList r s = cd at *
    clear e1 e2
    go_enter Tryz.func28, Tryz.ntmps28
    go_wp2_with fail
    generalize ((w.alloc (.cells #[.int .i64 r, .int .i64 s, .string n] 26)).alloc (.cells #[.int .i64 r2, .int .i64 s2, .int .i64 p, .int .i64 x, .int .i64 y, .int .i64 f] 33)).alloc (.cells #[.int .i64 0, .int .i64 0] 49) = W0 at *
    refine (F1 _).mono ?_
    rintro e u1 ⟨rfl, b1⟩
    have d0 := (A1.on b1).cell 0 _ rfl
    have d1 := (A1.on b1).cell 1 _ rfl
    have d2 := (A1.on b1).cell 2 _ rfl
    have k0 := (A2.on b1).cell 0 _ rfl
    have k1 := (A2.on b1).cell 1 _ rfl
    have k2 := (A2.on b1).cell 2 _ rfl
    have k3 := (A2.on b1).cell 3 _ rfl
    have k4 := (A2.on b1).cell 4 _ rfl
    have k5 := (A2.on b1).cell 5 _ rfl
    have B3 := btr b0 b1
    clear d0 d1 d2 k0 k1 k2 k3 k4 k5 F1 F2 L0 E0
    have q0 := (A3.on b1).cell 0 _ rfl
    have q1 := (A3.on b1).cell 1 _ rfl
    have z0 := (A3.on b1).free 0 _ rfl
    have z1 := (A3.on b1).free 1 _ rfl
    clear A1 A2 A3
    go_wp2_with fail
    refine bodyPost_ret (v := I2 cd 0) (by simp [results, Tryz.results28, go_sem, q0, q1]) rfl ⟨rfl, ?_⟩
    exact (by (iterate 2 (refine bset ?_ (by dsimp only; omega) _)); exact B3)
end Go.Proofs.YtlodhleihnlchaaGreatDoor
namespace Go.Proofs.YtlodhleihnlchaaGreatDoor
open Go.RowKit
set_option maxRecDepth 100000
set_option linter.unusedVariables false

def DrawnD (w : World) (r : Ending) (w' : World) : Prop := ∃ a n c zs, r = .returned (.slice a n c) ∧ n ≤ 100 ∧ Row .u8 w' w'.heap.size a n c zs ∧ Below w.heap.size w w'
def DrawnH (w : World) (e : Ending) (w' : World) : Prop := ∃ (r s : Int) (n : ByteArray), e = .returned (H3 r s n) ∧ n.size ≤ 21 ∧ Below w.heap.size w w'
def DrawnR (w : World) (e : Ending) (w' : World) : Prop := ∃ (r s t x y f : Int), e = .returned (R6 r s t x y f) ∧ Below w.heap.size w w'
def DrawnHR (w : World) (e : Ending) (w' : World) : Prop := ∃ (r s : Int) (n : ByteArray) (r2 s2 t x y f : Int), e = .returned (.tuple #[H3 r s n, R6 r2 s2 t x y f]) ∧ n.size ≤ 21 ∧ Below w.heap.size w w'

set_option maxHeartbeats 1000000 in
theorem DrawReadHello_any {a : Option Addr} {len cap : Nat} {zs : List Int} {w : World} (hR : Row .u8 w w.heap.size a len cap zs) :
    Calls Tryz.prog 12 #[.slice a len cap] w (DrawnD w) := by
  go_enter Tryz.func12, Tryz.ntmps12
  go_wp2_with fail
  refine (dsource hR).mono ?_
  rintro r w1 ⟨rfl, D1⟩
  go_wp2_with fail
  refine (dl6DrawHello D1).mono ?_
  rintro r w5 ⟨u, v, n, p, hf, hp, rfl, D4, g4⟩
  have D5 := D4.alloc (.cells #[.int .i64 u, .int .i64 v, .string n] 26)
  have A5 := At.new w5 (HL3 u v n) 26
  have P1 := fun g w hA => l6PackHello_any g u v n w hA hf
  obtain ⟨m, hm⟩ : ∃ m, m = n.size := ⟨_, rfl⟩
  have hm20 : m ≤ 20 := by rw [hm]; exact hel_size hf
  have hpl : (packH n u v).length = m + 5 := by rw [packH_length]; omega
  have hpw := fun z hz => byte_wf (packH_byte hf z hz)
  generalize packH n u v = ps at *
  have HPL := Lib.hid hpl
  have HPW := Lib.hid hpw
  clear D1 D4 g4 hpl hpw hf hm
  go_wp2_with fail
  generalize w5.alloc (.cells #[.int .i64 u, .int .i64 v, .string n] 26) = v5 at *
  refine (P1 _ _ A5).mono ?_
  rintro r w6 ⟨a6, n6, c6, rfl, O6, b6⟩
  have l6 : n6 = m + 5 := O6.len.trans HPL.out
  subst l6
  have D6 := D5.below b6
  have lt5 := D5.src.lt
  obtain ⟨g, rfl⟩ : ∃ g, a6 = some ⟨g, 0, none⟩ := by
    rcases O6.2 with ⟨e, hz⟩ | ⟨g, cp, e, _⟩
    · rw [HPL.out] at hz; omega
    · injection e with e1; exact ⟨g, e1⟩
  have hgw : w.heap.size < g := by have := (O6.lt g rfl).1; omega
  have hc6 : m + 5 ≤ c6 ∧ c6 ≤ maxLen := by
    rcases O6.2 with ⟨e, hz⟩ | ⟨g', cp, e, _, _, h1, h2, _⟩
    · cases e
    · injection e with e1 e2 e3; exact ⟨by rw [← e3] at h1; omega, by rw [e3]; exact h2⟩
  obtain ⟨hc1, hc2⟩ := hc6
  unfold maxLen at hc2
  have Q6 : OwnK .u8 w6 (w.heap.size + 1) (.slice (some ⟨g, 0, none⟩) (m + 5) c6) ps := O6.less (by omega)
  clear P1 A5 D5 O6 b6
  go_wp2_with fail
  refine (dnext 5 D6 (by omega)).mono ?_
  rintro r w7 ⟨sw, t0, t1, rfl, D7, O7⟩
  have Q7 : OwnK .u8 w7 (w.heap.size + 1) (.slice (some ⟨g, 0, none⟩) (m + 5) c6) ps := Own.only Q6 O7 (by omega)
  clear D6 Q6 O7 t1
  by_cases e0 : sw = 0
  · subst e0
    go_wp2_with fail
    refine (dnext _ D7 (by omega)).mono ?_
    rintro r w8 ⟨i, i0, i1, rfl, D8, O8⟩
    have i2 : i < m + 5 := by omega
    obtain ⟨i, rfl⟩ := Int.eq_ofNat_of_zero_le i0
    have i3 : i < m + 5 := by omega
    have Q8 : OwnK .u8 w8 (w.heap.size + 1) (.slice (some ⟨g, 0, none⟩) (m + 5) c6) ps := Own.only Q7 O8 (by omega)
    clear D7 Q7 O8 i0 i1
    go_wp2_with fail
    refine (dpick [0, 255, 65, 46] 4 D8 (by omega) (by omega) (by omega) rfl 2).mono ?_
    rintro r w9 ⟨x, hx, rfl, D9, O9⟩
    have hx' : 0 ≤ x ∧ x ≤ 255 := by simp at hx; omega
    obtain ⟨x0, x1⟩ := hx'
    have Q9 : OwnK .u8 w9 (w.heap.size + 1) (.slice (some ⟨g, 0, none⟩) (m + 5) c6) ps := Own.only (Own.alloc Q8 (.cells #[.int .i64 0, .int .i64 255, .int .i64 65, .int .i64 46] 2)) O9 (by omega)
    rcases Q9.2 with ⟨e, h0⟩ | ⟨g', c', e, hB8, hg8, hn8, hm8, hcell, hroom⟩
    · cases e
    injection e with e1 e2 e3
    injection e1 with e1
    injection e1 with e1 _ _
    subst e1
    subst e3
    obtain ⟨y, hy⟩ := Option.isSome_iff_exists.1 (hroom i (by omega)).1
    have hf := (hroom i (by omega)).2
    have Q10 := Q9.put (i := i) (m := x) (by rw [HPL.out]; exact i3)
    have b10 := bset D9.bel (p := ⟨g, i, none⟩) (by show w.heap.size ≤ g; omega) (.int .u8 x)
    have hw10 : ∀ z ∈ ps.set i x, (Lit.int .u8 z).wf = true := fun z hz => by
      rcases List.mem_or_eq_of_mem_set hz with h | h
      · exact HPW.out z h
      · subst h; exact u8_wf x0 (by omega)
    have F := Lib.hid (And.intro (Own.row Q10 hw10) b10)
    clear hx D8 D9 Q8 Q9 O9 hcell hroom e2 Q10 b10 hw10
    go_wp2_with fail
    go_ret
    exact ⟨_, _, _, _, rfl, by omega, F.out.1, F.out.2⟩
  by_cases e1 : sw = 1
  · subst e1
    go_wp2_with fail
    refine (dnext _ D7 (by omega)).mono ?_
    rintro r w8 ⟨i, i0, i1, rfl, D8, O8⟩
    obtain ⟨i, rfl⟩ := Int.eq_ofNat_of_zero_le i0
    have i3 : i < m + 5 := by omega
    have Q8 : OwnK .u8 w8 (w.heap.size + 1) (.slice (some ⟨g, 0, none⟩) (m + 5) c6) ps := Own.only Q7 O8 (by omega)
    have F := Lib.hid (And.intro ((Own.row Q8 HPW.out).upto6 i (by omega)) D8.bel)
    clear D7 Q7 O8 D8 Q8 i1
    go_wp2_with fail
    go_ret
    exact ⟨_, _, _, _, rfl, by omega, F.out.1, F.out.2⟩
  · have n0 : (sw == 0) = false := by rw [beq_eq_false_iff_ne]; exact e0
    have n1 : (sw == 1) = false := by rw [beq_eq_false_iff_ne]; exact e1
    have F := Lib.hid (And.intro (Own.row Q7 HPW.out) D7.bel)
    clear D7 Q7 e0 e1
    go_wp2_with fail
    go_ret
    exact ⟨_, _, _, _, rfl, by omega, F.out.1, F.out.2⟩

set_option maxHeartbeats 1000000 in
theorem DrawReadReply_any {a : Option Addr} {len cap : Nat} {zs : List Int} {w : World} (hR : Row .u8 w w.heap.size a len cap zs) :
    Calls Tryz.prog 14 #[.slice a len cap] w (DrawnD w) := by
  go_enter Tryz.func14, Tryz.ntmps14
  go_wp2_with fail
  refine (dsource hR).mono ?_
  rintro r w1 ⟨rfl, D1⟩
  go_wp2_with fail
  refine (dl6DrawReply D1 (by omega)).mono ?_
  rintro r w5 ⟨r1, s1, t1, x1, y1, f1, p, hf, hp, rfl, D4, g4⟩
  have D5 := D4.alloc (.cells #[.int .i64 r1, .int .i64 s1, .int .i64 t1, .int .i64 x1, .int .i64 y1, .int .i64 f1] 33)
  have A5 := At.new w5 (RL6 r1 s1 t1 x1 y1 f1) 33
  have P1 := fun g w hA => l6PackReply_any g r1 s1 t1 x1 y1 f1 w hA hf
  have hpl : (packR r1 s1 t1 x1 y1 f1).length = 13 := rfl
  have hpw := fun z hz => byte_wf (packR_byte hf z hz)
  generalize packR r1 s1 t1 x1 y1 f1 = ps at *
  have HPL := Lib.hid hpl
  have HPW := Lib.hid hpw
  clear D1 D4 g4 hpl hpw hf
  go_wp2_with fail
  generalize w5.alloc (.cells #[.int .i64 r1, .int .i64 s1, .int .i64 t1, .int .i64 x1, .int .i64 y1, .int .i64 f1] 33) = v5 at *
  refine (P1 _ _ A5).mono ?_
  rintro r w6 ⟨a6, n6, c6, rfl, O6, b6⟩
  have l6 : n6 = 13 := O6.len.trans HPL.out
  subst l6
  have D6 := D5.below b6
  have lt5 := D5.src.lt
  obtain ⟨g, rfl⟩ : ∃ g, a6 = some ⟨g, 0, none⟩ := by
    rcases O6.2 with ⟨e, hz⟩ | ⟨g, cp, e, _⟩
    · rw [HPL.out] at hz; omega
    · injection e with e1; exact ⟨g, e1⟩
  have hgw : w.heap.size < g := by have := (O6.lt g rfl).1; omega
  have hc6 : 13 ≤ c6 ∧ c6 ≤ maxLen := by
    rcases O6.2 with ⟨e, hz⟩ | ⟨g', cp, e, _, _, h1, h2, _⟩
    · cases e
    · injection e with e1 e2 e3; exact ⟨by rw [← e3] at h1; omega, by rw [e3]; exact h2⟩
  obtain ⟨hc1, hc2⟩ := hc6
  unfold maxLen at hc2
  have Q6 : OwnK .u8 w6 (w.heap.size + 1) (.slice (some ⟨g, 0, none⟩) (13) c6) ps := O6.less (by omega)
  clear P1 A5 D5 O6 b6
  go_wp2_with fail
  refine (dnext 5 D6 (by omega)).mono ?_
  rintro r w7 ⟨sw, t0, t9, rfl, D7, O7⟩
  have Q7 : OwnK .u8 w7 (w.heap.size + 1) (.slice (some ⟨g, 0, none⟩) (13) c6) ps := Own.only Q6 O7 (by omega)
  clear D6 Q6 O7 t9
  by_cases e0 : sw = 0
  · subst e0
    go_wp2_with fail
    refine (dnext _ D7 (by omega)).mono ?_
    rintro r w8 ⟨i, i0, i1, rfl, D8, O8⟩
    have i2 : i < 13 := by omega
    obtain ⟨i, rfl⟩ := Int.eq_ofNat_of_zero_le i0
    have i3 : i < 13 := by omega
    have Q8 : OwnK .u8 w8 (w.heap.size + 1) (.slice (some ⟨g, 0, none⟩) (13) c6) ps := Own.only Q7 O8 (by omega)
    clear D7 Q7 O8 i0 i1
    go_wp2_with fail
    refine (dpick [0, 255, 11] 3 D8 (by omega) (by omega) (by omega) rfl 2).mono ?_
    rintro r w9 ⟨x, hx, rfl, D9, O9⟩
    have hx' : 0 ≤ x ∧ x ≤ 255 := by simp at hx; omega
    obtain ⟨x0, x1⟩ := hx'
    have Q9 : OwnK .u8 w9 (w.heap.size + 1) (.slice (some ⟨g, 0, none⟩) (13) c6) ps := Own.only (Own.alloc Q8 (.cells #[.int .i64 0, .int .i64 255, .int .i64 11] 2)) O9 (by omega)
    rcases Q9.2 with ⟨e, h0⟩ | ⟨g', c', e, hB8, hg8, hn8, hm8, hcell, hroom⟩
    · cases e
    injection e with e1 e2 e3
    injection e1 with e1
    injection e1 with e1 _ _
    subst e1
    subst e3
    obtain ⟨y, hy⟩ := Option.isSome_iff_exists.1 (hroom i (by omega)).1
    have hf := (hroom i (by omega)).2
    have Q10 := Q9.put (i := i) (m := x) (by rw [HPL.out]; exact i3)
    have b10 := bset D9.bel (p := ⟨g, i, none⟩) (by show w.heap.size ≤ g; omega) (.int .u8 x)
    have hw10 : ∀ z ∈ ps.set i x, (Lit.int .u8 z).wf = true := fun z hz => by
      rcases List.mem_or_eq_of_mem_set hz with h | h
      · exact HPW.out z h
      · subst h; exact u8_wf x0 (by omega)
    have F := Lib.hid (And.intro (Own.row Q10 hw10) b10)
    clear hx D8 D9 Q8 Q9 O9 hcell hroom e2 Q10 b10 hw10
    go_wp2_with fail
    go_ret
    exact ⟨_, _, _, _, rfl, by omega, F.out.1, F.out.2⟩
  by_cases e1 : sw = 1
  · subst e1
    obtain ⟨i0, hi0, hz0, hz1, hz2⟩ := info_parts u8_info
    have Q8 := Own.alloc Q7 (.cells #[.int .u8 1] 5)
    have hle : w.heap.size + 1 ≤ (w7.alloc (.cells #[.int .u8 1] 5)).heap.size := by have := D7.src.lt; simp; omega
    have b8 := bal D7.bel (.cells #[.int .u8 1] 5)
    have hsrc := src_new (P := Tryz.prog) w7 [.int .u8 1] 1 1 5 22 5 Tryz.underlying22 rfl (ints_oneCell .u8 [1])
    have hps : ps.length = 13 := HPL.out
    go_wp2_with (at_builtin; refine wpList_append_src _ rfl (.tmp 25) (.tmp 26) 22 22 rfl (w.heap.size + 1) 5 i0 (.int .u8 0) 1 1 Tryz.underlying22 hi0 hz0 hz1 hz2 rfl _ _ _ rfl Q8 _ 1 _ rfl hsrc (by rw [hps]; simp only [maxLen]; omega) (by rw [hps]; omega) hle ?_; intro v9 w9 hown hgrow hat)
    have b9 : Below w.heap.size w w9 := b8.grown hgrow (by omega) (fun k e => by have := (Own.lt Q8 k e).1; omega)
    have O9 : OwnK .u8 w9 (w.heap.size + 1) v9 (ps ++ [1]) := by
      unfold OwnK
      rw [List.length_append, List.map_append]
      exact hown
    obtain ⟨a9, c9, hv9, -⟩ := O9.form
    have hl9 : (ps ++ [1]).length = 14 := by simp [hps]
    rw [hl9] at hv9
    subst hv9
    have F := Lib.hid (And.intro (Own.row O9 (fun z hz => by
      rcases List.mem_append.1 hz with h | h
      · exact HPW.out z h
      · simp at h; subst h; exact u8_wf (by omega) (by omega))) b9)
    clear hown hgrow hat O9 b9 Q8 b8 hsrc D7 Q7
    go_wp2_with fail
    go_ret
    exact ⟨_, _, _, _, rfl, by omega, F.out.1, F.out.2⟩
  · have n0 : (sw == 0) = false := by rw [beq_eq_false_iff_ne]; exact e0
    have n1 : (sw == 1) = false := by rw [beq_eq_false_iff_ne]; exact e1
    have F := Lib.hid (And.intro (Own.row Q7 HPW.out) D7.bel)
    clear D7 Q7 e0 e1
    go_wp2_with fail
    go_ret
    exact ⟨_, _, _, _, rfl, by omega, F.out.1, F.out.2⟩

theorem DrawPackHello_any {a : Option Addr} {len cap : Nat} {zs : List Int} {w : World} (hR : Row .u8 w w.heap.size a len cap zs) :
    Calls Tryz.prog 16 #[.slice a len cap] w (DrawnH w) := by
  have A0 := At.new w (HL3 0 0 { data := #[] }) 26
  have b0 := bal (Below.refl _ w) (.cells #[.int .i64 0, .int .i64 0, .string { data := #[] }] 26)
  have R0 := hR.on b0
  clear hR
  go_enter Tryz.func16, Tryz.ntmps16
  go_wp2_with fail
  generalize w.alloc (.cells #[.int .i64 0, .int .i64 0, .string { data := #[] }] 26) = W0 at *
  refine (dsource R0).mono ?_
  rintro e w1 ⟨rfl, D⟩
  go_wp2_with fail
  refine (dl6BentHello D).mono ?_
  rintro e w2 ⟨r, s, n, p, hn, hp, rfl, D2, g2⟩
  have q0 := (A0.on D2.bel).cell 0 _ rfl
  have q1 := (A0.on D2.bel).cell 1 _ rfl
  have q2 := (A0.on D2.bel).cell 2 _ rfl
  have z0 := (A0.on D2.bel).free 0 _ rfl
  have z1 := (A0.on D2.bel).free 1 _ rfl
  have z2 := (A0.on D2.bel).free 2 _ rfl
  have HB := Lib.hid (btr b0 D2.bel)
  clear D D2 g2 A0 R0 b0
  go_wp2_with fail
  refine bodyPost_ret (v := H3 r s n) (by simp [results, Tryz.results16, go_sem, q0, q1, q2]) rfl ?_
  exact ⟨r, s, n, rfl, hn, (by (iterate 3 (refine bset ?_ (by dsimp only; omega) _)); exact HB.out)⟩
theorem DrawPackReply_any {a : Option Addr} {len cap : Nat} {zs : List Int} {w : World} (hR : Row .u8 w w.heap.size a len cap zs) :
    Calls Tryz.prog 18 #[.slice a len cap] w (DrawnR w) := by
  have A0 := At.new w (RL6 0 0 0 0 0 0) 33
  have b0 := bal (Below.refl _ w) (.cells #[.int .i64 0, .int .i64 0, .int .i64 0, .int .i64 0, .int .i64 0, .int .i64 0] 33)
  have R0 := hR.on b0
  clear hR
  go_enter Tryz.func18, Tryz.ntmps18
  go_wp2_with fail
  generalize w.alloc (.cells #[.int .i64 0, .int .i64 0, .int .i64 0, .int .i64 0, .int .i64 0, .int .i64 0] 33) = W0 at *
  refine (dsource R0).mono ?_
  rintro e w1 ⟨rfl, D⟩
  go_wp2_with fail
  refine (dl6BentReply D (by omega)).mono ?_
  rintro e w2 ⟨r, s, t, x, y, f, p, -, hp, rfl, D2, g2⟩
  have q0 := (A0.on D2.bel).cell 0 _ rfl
  have q1 := (A0.on D2.bel).cell 1 _ rfl
  have q2 := (A0.on D2.bel).cell 2 _ rfl
  have q3 := (A0.on D2.bel).cell 3 _ rfl
  have q4 := (A0.on D2.bel).cell 4 _ rfl
  have q5 := (A0.on D2.bel).cell 5 _ rfl
  have z0 := (A0.on D2.bel).free 0 _ rfl
  have z1 := (A0.on D2.bel).free 1 _ rfl
  have z2 := (A0.on D2.bel).free 2 _ rfl
  have z3 := (A0.on D2.bel).free 3 _ rfl
  have z4 := (A0.on D2.bel).free 4 _ rfl
  have z5 := (A0.on D2.bel).free 5 _ rfl
  have HB := Lib.hid (btr b0 D2.bel)
  clear D D2 g2 A0 R0 b0
  go_wp2_with fail
  refine bodyPost_ret (v := R6 r s t x y f) (by simp [results, Tryz.results18, go_sem, q0, q1, q2, q3, q4, q5]) rfl ?_
  exact ⟨r, s, t, x, y, f, rfl, (by (iterate 6 (refine bset ?_ (by dsimp only; omega) _)); exact HB.out)⟩
theorem DrawHeardOf_any {a : Option Addr} {len cap : Nat} {zs : List Int} {w : World} (hR : Row .u8 w w.heap.size a len cap zs) :
    Calls Tryz.prog 27 #[.slice a len cap] w (DrawnHR w) := by
  have A0 := (At.new w (HL3 0 0 { data := #[] }) 26).alloc (.cells #[.int .i64 0, .int .i64 0, .int .i64 0, .int .i64 0, .int .i64 0, .int .i64 0] 33)
  have A1 := At.new (w.alloc (.cells #[.int .i64 0, .int .i64 0, .string { data := #[] }] 26)) (RL6 0 0 0 0 0 0) 33
  have b0 := bal (bal (Below.refl _ w) (.cells #[.int .i64 0, .int .i64 0, .string { data := #[] }] 26)) (.cells #[.int .i64 0, .int .i64 0, .int .i64 0, .int .i64 0, .int .i64 0, .int .i64 0] 33)
  simp only [World.size_alloc] at A0 A1
  have R0 := hR.on b0
  clear hR
  go_enter Tryz.func27, Tryz.ntmps27
  go_wp2_with fail
  generalize (w.alloc (.cells #[.int .i64 0, .int .i64 0, .string { data := #[] }] 26)).alloc (.cells #[.int .i64 0, .int .i64 0, .int .i64 0, .int .i64 0, .int .i64 0, .int .i64 0] 33) = W0 at *
  refine (dsource R0).mono ?_
  rintro e w1 ⟨rfl, D⟩
  go_wp2_with fail
  refine (dl6BentHello D).mono ?_
  rintro e w2 ⟨r, s, n, p, hn, hp, rfl, D2, g2⟩
  clear D g2
  go_wp2_with fail
  refine (dl6BentReply D2 (by omega)).mono ?_
  rintro e w3 ⟨r2, s2, t, x, y, f, p2, -, hp2, rfl, D3, g3⟩
  have q0 := (A0.on D3.bel).cell 0 _ rfl
  have q1 := (A0.on D3.bel).cell 1 _ rfl
  have q2 := (A0.on D3.bel).cell 2 _ rfl
  have z0 := (A0.on D3.bel).free 0 _ rfl
  have z1 := (A0.on D3.bel).free 1 _ rfl
  have z2 := (A0.on D3.bel).free 2 _ rfl
  have k0 := (A1.on D3.bel).cell 0 _ rfl
  have k1 := (A1.on D3.bel).cell 1 _ rfl
  have k2 := (A1.on D3.bel).cell 2 _ rfl
  have k3 := (A1.on D3.bel).cell 3 _ rfl
  have k4 := (A1.on D3.bel).cell 4 _ rfl
  have k5 := (A1.on D3.bel).cell 5 _ rfl
  have v0 := (A1.on D3.bel).free 0 _ rfl
  have v1 := (A1.on D3.bel).free 1 _ rfl
  have v2 := (A1.on D3.bel).free 2 _ rfl
  have v3 := (A1.on D3.bel).free 3 _ rfl
  have v4 := (A1.on D3.bel).free 4 _ rfl
  have v5 := (A1.on D3.bel).free 5 _ rfl
  have HB := Lib.hid (btr b0 D3.bel)
  clear D2 D3 g3 A0 A1 R0 b0
  go_wp2_with fail
  refine bodyPost_ret (v := .tuple #[H3 r s n, R6 r2 s2 t x y f]) (by simp [results, Tryz.results27, go_sem, q0, q1, q2, k0, k1, k2, k3, k4, k5]) rfl ?_
  exact ⟨r, s, n, r2, s2, t, x, y, f, rfl, hn, (by (iterate 9 (refine bset ?_ (by dsimp only; omega) _)); exact HB.out)⟩
theorem hea_cases (n : ByteArray) (r s r2 s2 p x y f : Int) : ¬ heaC n r s r2 s2 p x y f = 0 ∨ (heaC n r s r2 s2 p x y f = 0 ∧ (helF n.data.toList r s = 0 ∧ packHL n r s = packH n r s) ∧ (repF r2 s2 p x y f = 0 ∧ packRL r2 s2 p x y f = packR r2 s2 p x y f) ∧
    ((∀ z ∈ packH n r s, (Lit.int .u8 z).wf = true) ∧ (∀ z ∈ packR r2 s2 p x y f, (Lit.int .u8 z).wf = true)) ∧ M.heardR [packH n r s, frontR r2 s2 p] = (0, heaV n r s r2 s2 p x y f)) := by
  by_cases h1 : helF n.data.toList r s = 0
  · by_cases h2 : repF r2 s2 p x y f = 0
    · obtain ⟨e1, e2⟩ := hea_yes (x := x) (y := y) (f := f) h1 h2
      exact .inr ⟨e1, ⟨h1, by simp [packHL, h1]⟩, ⟨h2, by simp [packRL, h2]⟩, ⟨fun z hz => byte_wf (packH_byte h1 z hz), fun z hz => byte_wf (packR_byte h2 z hz)⟩, by rw [e2]; exact hea_R (hel_size h1)⟩
    · exact .inl (by rw [(hea_rep (x := x) (y := y) (f := f) h1 h2).1]; exact h2)
  · exact .inl (by rw [(hea_hel (r2 := r2) (s2 := s2) (p := p) (x := x) (y := y) (f := f) h1).1]; exact h1)
end Go.Proofs.YtlodhleihnlchaaGreatDoor
namespace Go.Proofs.YtlodhleihnlchaaGreatDoor
open Go.RowKit
set_option maxRecDepth 100000
set_option linter.unusedVariables false

structure ErrV (u : TypeId) (v : Value) (w : World) : Prop where
  cell : w.cell? ⟨0, 0, none⟩ = some (.iface u v)
theorem ErrV.on {u : TypeId} {v : Value} {w w' : World} (h : ErrV u v w) (hb : Below w.heap.size w w') : ErrV u v w' := ⟨cell_keep hb h.cell⟩
def ErrU (w : World) : Prop := ∃ u v, ErrV u v w
theorem ErrU.on {w w' : World} (h : ErrU w) (hb : Below w.heap.size w w') : ErrU w' := by
  obtain ⟨u, v, h⟩ := h
  exact ⟨u, v, h.on hb⟩
abbrev unread (u : TypeId) (v : Value) : Ending := .panicked [{ v := .iface u v, recovered := false }]

theorem needs_yes (w : World) : Calls Tryz.prog 189 #[.bool true] w fun e w' => e = .returned (.tuple #[]) ∧ w = w' := by
  go_enter Tryz.func189, Tryz.ntmps189
  go_wp2_with fail
  go_end0
  exact ⟨rfl, rfl⟩
theorem needs_no {u : TypeId} {v : Value} (w : World) (h : ErrV u v w) : Calls Tryz.prog 189 #[.bool false] w fun e w' => e = unread u v ∧ w = w' := by
  have hc := h.cell
  go_enter Tryz.func189, Tryz.ntmps189
  go_wp2_with fail
  exact ⟨rfl, rfl, rfl⟩
end Go.Proofs.YtlodhleihnlchaaGreatDoor
namespace Go.Proofs.YtlodhleihnlchaaGreatDoor
open Go.RowKit
set_option maxRecDepth 100000
set_option linter.unusedVariables false

theorem row_four {w : World} {B : Nat} {a : Option Addr} {cap : Nat} {zs : List Int} (hR : Row .u8 w B a 4 cap zs) :
    ∃ b off, ∃ x y u v : Int, a = some ⟨b, off, none⟩ ∧ zs = [x, y, u, v] ∧ w.cell? ⟨b, off, none⟩ = some (.int .u8 x) ∧ w.cell? ⟨b, off + 1, none⟩ = some (.int .u8 y) ∧ w.cell? ⟨b, off + 2, none⟩ = some (.int .u8 u) ∧ w.cell? ⟨b, off + 3, none⟩ = some (.int .u8 v) ∧
      0 ≤ x ∧ x ≤ 255 ∧ 0 ≤ y ∧ y ≤ 255 ∧ 0 ≤ u ∧ u ≤ 255 ∧ 0 ≤ v ∧ v ≤ 255 := by
  obtain ⟨b, off, ha, _, hc⟩ := hR.cells (by omega)
  have b0 := hR.byte 0
  have b1 := hR.byte 1
  have b2 := hR.byte 2
  have b3 := hR.byte 3
  have h0 := hc 0 (by omega)
  have h1 := hc 1 (by omega)
  have h2 := hc 2 (by omega)
  have h3 := hc 3 (by omega)
  have hl := hR.length
  match zs, hl with
  | [x, y, u, v], _ =>
    refine ⟨b, off, x, y, u, v, ha, rfl, h0, h1, h2, h3, b0.1, b0.2, b1.1, b1.2, b2.1, b2.2, b3.1, b3.2⟩

theorem readR_no {zs : List Int} (h : M.readB zs = false) : M.readR zs = (5, 0, 0) := by simp [M.readR, h]
theorem readR_yes {zs : List Int} (h : M.readB zs = true) : M.readR zs = (0, M.readP zs, M.readQ zs) := by simp [M.readR, h]

theorem implReadSign_any (a : Option Addr) (len cap B : Nat) (zs : List Int) (w : World) (hR : Row .u8 w B a len cap zs) (hB : B ≤ w.heap.size) :
    Calls Tryz.prog 257 #[.slice a len cap] w fun r w' => r = .returned (I3 (M.readR zs).1 (M.readR zs).2.1 (M.readR zs).2.2) ∧ Below w.heap.size w w' := by
  have hlen := hR.fits
  have hmost := hR.most
  by_cases h4 : len = 4
  · subst h4
    obtain ⟨b, off, x, y, u, v, rfl, rfl, d0', d1', d2', d3', x0, x1, y0, y1, u0, u1, v0, v1⟩ := row_four hR
    have eP : M.readP [x, y, u, v] = 256 * x + y := by simp [M.readP]
    have eQ : M.readQ [x, y, u, v] = 256 * u + v := by simp [M.readQ]
    have T1 := fun (w' : World) d0 d1 => readTwo_any b off 4 cap x y w' (by omega) hlen hmost d0 d1 x0 x1 y0 y1
    have T2 := fun (w' : World) d2 d3 => readTwo_any b (off + 2) 2 (cap - 2) u v w' (by omega) (by omega) (by omega) d2 d3 u0 u1 v0 v1
    have hb0 := bal (Below.refl _ w) (.cells #[.int .i64 0, .int .i64 0, .int .i64 0] 233)
    have hR0 := Res3.new w 233
    have d0 := cell_keep hb0 d0'
    have d1 := cell_keep hb0 d1'
    have d2 := cell_keep hb0 d2'
    have d3 := cell_keep hb0 d3'
    have hm2 := hmost
    unfold maxLen at hm2
    clear hR d0' d1' d2' d3'
    cases hS : M.sigB (256 * x + y) (256 * u + v)
    · have E : M.readR [x, y, u, v] = (5, 0, 0) := readR_no (by simp only [M.readB, eP, eQ, hS, Bool.and_false])
      rw [E]; clear E eP eQ
      go_enter Tryz.func257, Tryz.ntmps257
      go_wp2_with fail
      generalize w.alloc (.cells #[.int .i64 0, .int .i64 0, .int .i64 0] 233) = W0 at *
      refine wp_region_line (Bel W0) [(0, true), (2, true), (3, true), (1, false), (4, false), (5, false), (6, false), (7, true), (8, true), (9, true), (10, true), (11, true)] (by kernel_rfl) (by kernel_rfl) (fun _ _ d _ _ h => by cases d <;> exact h) (Bel.drew W0) ?_
      have hst := Bel.drew W0
      have inst : Nonempty (Of (Bel W0)) := ⟨⟨_, hst⟩⟩
      iterate 3 (refine line_read rfl (by kernel_rfl) (fun K hK => ?_); go_big_quiet_op; refine hK _ ?_; clear hK K)
      refine line_alone rfl (by kernel_rfl) (fun K hK => ?_)
      refine call_wp (args := #[.slice (some ⟨b, off, none⟩) 4 cap]) rfl (by kernel_rfl) (by kernel_rfl) (T1 _ (cell_keep hst.out d0) (cell_keep hst.out d1)) (fun wn hbn => ?_)
      have hst2 := hst.on hbn
      refine hK _ _ hst2 ?_
      clear hK K hst hbn
      have hst := hst2
      clear hst2
      simp only [Act.put, List.setIfInBounds_toArray, List.set_cons_zero, List.set_cons_succ]
      refine line_alone rfl (by kernel_rfl) (fun K hK => ?_)
      refine call_wp (args := #[.slice (some ⟨b, off + 2, none⟩) 2 (cap - 2)]) rfl (by kernel_rfl) (by kernel_rfl) (T2 _ (cell_keep hst.out d2) (cell_keep hst.out d3)) (fun wn hbn => ?_)
      have hst2 := hst.on hbn
      refine hK _ _ hst2 ?_
      clear hK K hst hbn
      have hst := hst2
      clear hst2
      simp only [Act.put, List.setIfInBounds_toArray, List.set_cons_zero, List.set_cons_succ]
      refine line_value (v := I2 (256 * x + y) (256 * u + v)) rfl (by kernel_rfl) (by kernel_rfl) hst ?_
      simp only [Act.put, List.setIfInBounds_toArray, List.set_cons_zero, List.set_cons_succ]
      refine line_alone rfl (by kernel_rfl) (fun K hK => ?_)
      refine call_any (args := #[I2 (256 * x + y) (256 * u + v)]) rfl (by kernel_rfl) (by kernel_rfl) (pairOf_no _ _ _ hS) ?_
      rintro e wn ⟨m, pv, rfl, hbn⟩
      have hst2 := hst.on hbn
      refine ⟨_, rfl, hK _ _ hst2 ?_⟩
      clear hK K hst hbn
      simp only [Act.put, List.setIfInBounds_toArray, List.set_cons_zero, List.set_cons_succ]
      iterate 5 (refine line_read rfl (by kernel_rfl) (fun K hK => ?_); go_big_quiet_op; refine hK _ ?_; clear hK K)
      refine line_nil ?_
      have hbel := hst2.out
      obtain ⟨q0, q1, q2, z0, z1, z2⟩ := hR0.on hbel
      go_wp2_with fail
      exact bodyPost_ret (v := I3 5 0 0) (by simp [results, Tryz.results257, go_sem, q0, q1, q2]) rfl ⟨rfl, bset (bset (bset (btr hb0 hbel) (Nat.le_refl _) _) (Nat.le_refl _) _) (Nat.le_refl _) _⟩
    · have E : M.readR [x, y, u, v] = (0, 256 * x + y, 256 * u + v) := by rw [readR_yes (by simp only [M.readB, eP, eQ, hS]; rfl), eP, eQ]
      rw [E]; clear E eP eQ
      obtain ⟨p0, p1, q0', q1'⟩ := M.sigB_bd hS
      have Y1 := fun w => pairOf_yes (256 * x + y) (256 * u + v) w hS
      have P1 := fun w => point_any (256 * x + y) (256 * u + v) w (by omega) (by omega)
      have P2 := fun w => proof_any (256 * x + y) (256 * u + v) w (by omega) (by omega)
      generalize pairV (256 * x + y) (256 * u + v) = V at *
      go_enter Tryz.func257, Tryz.ntmps257
      go_wp2_with fail
      generalize w.alloc (.cells #[.int .i64 0, .int .i64 0, .int .i64 0] 233) = W0 at *
      refine wp_region_line (Bel W0) [(0, true), (2, true), (3, true), (1, false), (4, false), (5, false), (6, false), (7, true), (8, true), (9, true), (10, true), (11, true)] (by kernel_rfl) (by kernel_rfl) (fun _ _ d _ _ h => by cases d <;> exact h) (Bel.drew W0) ?_
      have hst := Bel.drew W0
      have inst : Nonempty (Of (Bel W0)) := ⟨⟨_, hst⟩⟩
      iterate 3 (refine line_read rfl (by kernel_rfl) (fun K hK => ?_); go_big_quiet_op; refine hK _ ?_; clear hK K)
      refine line_alone rfl (by kernel_rfl) (fun K hK => ?_)
      refine call_wp (args := #[.slice (some ⟨b, off, none⟩) 4 cap]) rfl (by kernel_rfl) (by kernel_rfl) (T1 _ (cell_keep hst.out d0) (cell_keep hst.out d1)) (fun wn hbn => ?_)
      have hst2 := hst.on hbn
      refine hK _ _ hst2 ?_
      clear hK K hst hbn
      have hst := hst2
      clear hst2
      simp only [Act.put, List.setIfInBounds_toArray, List.set_cons_zero, List.set_cons_succ]
      refine line_alone rfl (by kernel_rfl) (fun K hK => ?_)
      refine call_wp (args := #[.slice (some ⟨b, off + 2, none⟩) 2 (cap - 2)]) rfl (by kernel_rfl) (by kernel_rfl) (T2 _ (cell_keep hst.out d2) (cell_keep hst.out d3)) (fun wn hbn => ?_)
      have hst2 := hst.on hbn
      refine hK _ _ hst2 ?_
      clear hK K hst hbn
      have hst := hst2
      clear hst2
      simp only [Act.put, List.setIfInBounds_toArray, List.set_cons_zero, List.set_cons_succ]
      refine line_value (v := I2 (256 * x + y) (256 * u + v)) rfl (by kernel_rfl) (by kernel_rfl) hst ?_
      simp only [Act.put, List.setIfInBounds_toArray, List.set_cons_zero, List.set_cons_succ]
      refine line_alone rfl (by kernel_rfl) (fun K hK => ?_)
      refine call_wp (args := #[I2 (256 * x + y) (256 * u + v)]) rfl (by kernel_rfl) (by kernel_rfl) (Y1 _) (fun wn hbn => ?_)
      have hst2 := hst.on hbn
      refine hK _ _ hst2 ?_
      clear hK K hst hbn
      have hst := hst2
      clear hst2
      simp only [Act.put, List.setIfInBounds_toArray, List.set_cons_zero, List.set_cons_succ]
      iterate 5 (refine line_read rfl (by kernel_rfl) (fun K hK => ?_); go_big_quiet_op; refine hK _ ?_; clear hK K)
      refine line_nil ?_
      have hbel := hst.out
      go_wp2_with fail
      refine (P1 _).mono ?_
      rintro r w' ⟨rfl, rfl⟩
      go_wp2_with fail
      refine (P2 _).mono ?_
      rintro r w' ⟨rfl, rfl⟩
      obtain ⟨q0, q1, q2, z0, z1, z2⟩ := hR0.on hbel
      go_wp2_with fail
      exact bodyPost_ret (v := I3 0 (256 * x + y) (256 * u + v)) (by simp [results, Tryz.results257, go_sem, q0, q1, q2]) rfl ⟨rfl, bset (bset (bset (btr hb0 hbel) (Nat.le_refl _) _) (Nat.le_refl _) _) (Nat.le_refl _) _⟩
  · have E : M.readR zs = (5, 0, 0) := readR_no (by simp only [M.readB, hR.length, h4, decide_false, Bool.false_and])
    rw [E]; clear E
    have e4 : ((len : Int) == 4) = false := by rw [beq_eq_false_iff_ne]; omega
    unfold maxLen at hmost
    clear h4
    go_enter Tryz.func257, Tryz.ntmps257
    go_wp2_with fail
    exact bodyPost_ret (v := I3 5 0 0) (by simp [results, Tryz.results257, go_sem]) rfl ⟨rfl, bal (Below.refl _ _) _⟩
end Go.Proofs.YtlodhleihnlchaaGreatDoor
