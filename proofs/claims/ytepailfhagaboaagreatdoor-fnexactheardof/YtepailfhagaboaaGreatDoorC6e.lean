/- Contracts of how a hello is laid into bytes, by the model. Conditions: as each theorem states. -/
import Derived.Test.YtepailfhagaboaaGreatDoorC6d
namespace Go.Proofs.YtepailfhagaboaaGreatDoor
open Go.RowKit
set_option maxRecDepth 100000
set_option linter.unusedVariables false

/-- What is appended are the numbers of a slice that the call made. -/
theorem OwnK.src6 {w : World} {B : Nat} {a : Option Addr} {len cap : Nat} {zs : List Int} (h : OwnK .u8 w B (.slice a len cap) zs) (hz : ∀ z ∈ zs, M.byteB z) : Src Tryz.prog 1 22 (.slice a len cap) len (zs.map (Value.int .u8)) w :=
  (Own.row h (fun z hm => byte_wf (hz z hm))).src Tryz.underlying22
theorem OwnK.kept6 {w w' : World} {B : Nat} {v : Value} {zs : List Int} {row : Option Nat} (h : OwnK .u8 w B v zs) (hg : w.grownBy w' row) (hne : ∀ k, row = some k → k < B) : OwnK .u8 w' B v zs :=
  Own.kept h hg (by
    cases hv : v.ownBlock with
    | none => exact .inl rfl
    | some k =>
      refine .inr fun e => ?_
      have h1 := (Own.lt h k hv).1
      have h2 := hne k e.symm
      omega)
theorem two_own (w : World) (s : Int) : OwnK .u8 (w.alloc (.cells #[.int .u8 (s / 256), .int .u8 (s % 256)] 5)) w.heap.size (.slice (some ⟨w.heap.size, 0, none⟩) 2 2) (M.two s) := own_lit (k := .u8) w (M.two s) 2 5 (Nat.le_refl _) rfl (by simp only [maxLen]; omega)
theorem text_own (w : World) (n : ByteArray) (hn : n.size ≤ maxLen) : OwnK .u8 (w.alloc (textObj w n 5)).drew w.heap.size (.slice (some ⟨w.heap.size, 0, none⟩) n.size (grownCap w n.size 0 5)) (M.textL n) := by
  have := (own_text w n 5 hn).drew
  unfold OwnK
  rw [M.textL_length]
  exact this

set_option maxHeartbeats 1000000 in
theorem l6PackHello_any (g : Nat) (r s : Int) (n : ByteArray) (w : World) (hA : At g (HL3 r s n) w) (h : helF n.data.toList r s = 0) :
    Calls Tryz.prog 31 #[.pointer (some ⟨g, 0, none⟩)] w (Made (packH n r s) w) := by
  obtain ⟨hr, hs, -⟩ := helF_zero h
  have hn := hel_size h
  have hnm : n.size ≤ maxLen := size_max hn
  have hss := pub_sum6 hs
  obtain ⟨i0, hi0, hz0, hz1, hz2⟩ := info_parts u8_info
  have hcv := fun (W : World) => run_bytes_of_string (P := Tryz.prog) W 9 22 5 n Tryz.underlying9 Tryz.underlying22 Tryz.underlying5
  have ltg := hA.lt (by simp)
  have d0 := hA.cell 0 _ rfl
  have d1 := hA.cell 1 _ rfl
  have d2 := hA.cell 2 _ rfl
  have b1 := bal (Below.refl _ w) (.cells #[.int .u8 1] 5)
  have O1 : OwnK .u8 (w.alloc (.cells #[.int .u8 1] 5)) w.heap.size (.slice (some ⟨w.heap.size, 0, none⟩) 1 1) [1] := own_lit (k := .u8) w [1] 1 5 (Nat.le_refl _) rfl (by simp only [maxLen]; omega)
  clear h
  go_enter Tryz.func31, Tryz.ntmps31
  go_wp2_with fail
  generalize w.alloc (.cells #[.int .u8 1] 5) = W1 at *
  refine (l1Two_any r _ hr).mono ?_
  rintro e w2 ⟨rfl, rfl⟩
  have O2 := Own.alloc O1 (.cells #[.int .u8 (r / 256), .int .u8 (r % 256)] 5)
  have b2 := bal b1 (.cells #[.int .u8 (r / 256), .int .u8 (r % 256)] 5)
  have hle := b2.size
  have hsrc := src_new (P := Tryz.prog) W1 [.int .u8 (r / 256), .int .u8 (r % 256)] 2 2 5 22 5 Tryz.underlying22 rfl (ints_oneCell .u8 [r / 256, r % 256])
  go_wp2_with (at_builtin; refine wpList_append_src _ rfl (.tmp 4) (.tmp 9) 22 22 rfl w.heap.size 5 i0 (.int .u8 0) 1 1 Tryz.underlying22 hi0 hz0 hz1 hz2 rfl _ 1 [.int .u8 1] rfl O2 _ 2 _ rfl hsrc (by simp only [maxLen]; omega) (by omega) hle ?_; intro v3 w3 hown hgrow hat)
  have b3 : Below w.heap.size w w3 := Own.grown O2 b2 hle hgrow
  have O3 : OwnK .u8 w3.drew w.heap.size v3 ([1] ++ M.two r) := by unfold OwnK; simpa [M.two] using hown.drew
  clear O1 O2 b1 b2 hle hsrc hown hgrow hat
  refine wp_region_fork (Bel w) (by kernel_rfl) (Bel.mk b3.drew) ?_
  have hst : (Bel w) _ := (Bel.mk b3.drew)
  have inst : Nonempty (Of (Bel w)) := ⟨⟨_, hst⟩⟩
  have u1 := bel_cell d1
  have u2 := bel_cell d2
  clear b3 d0 d1 d2
  generalize w3.drew = V1 at *
  refine any_seg 5 [(0, true), (1, true), (2, true), (3, true), (4, true), (7, true), (8, true), (9, true), (10, true)] (by kernel_rfl) (fun _ _ d _ _ h => by cases d <;> exact h) ?_
  iterate 9 (refine line_read rfl (by kernel_rfl) (fun K hK => ?_); go_big_quiet_op; refine hK _ ?_; clear hK K)
  refine line_nil ?_
  clear u1 u2
  refine any_fork 5 11 (by kernel_rfl) rfl rfl (by kernel_rfl) (by kernel_rfl) (fun K hK => ?_) (fun K hK => ?_)
  · refine call_any (args := #[.int .i64 s]) rfl (by kernel_rfl) (by kernel_rfl) (l1Two_any s _ hss) ?_
    rintro e w4 ⟨rfl, rfl⟩
    have st4 := hst.on (bal (Below.refl _ V1) (.cells #[.int .u8 (s / 256), .int .u8 (s % 256)] 5))
    have O4 : OwnK .u8 _ w.heap.size v3 ([1] ++ M.two r) := Own.alloc O3 (.cells #[.int .u8 (s / 256), .int .u8 (s % 256)] 5)
    have T4 := two_own V1 s
    refine ⟨_, rfl, hK _ _ st4 ?_⟩
    clear hK K
    simp only [Act.put, List.setIfInBounds_toArray, List.set_cons_zero, List.set_cons_succ]
    generalize V1.alloc (.cells #[.int .u8 (s / 256), .int .u8 (s % 256)] 5) = V4 at *
    refine any_fork 6 11 (by kernel_rfl) rfl rfl (by kernel_rfl) (by kernel_rfl) (fun K hK => ?_) (fun K hK => ?_)
    · refine wp_append_src _ (.tmp 11) (.tmp 16) 22 22 rfl w.heap.size 5 i0 (.int .u8 0) 1 1 Tryz.underlying22 hi0 hz0 hz1 hz2 rfl _ _ _ rfl O4 _ 2 _ rfl (T4.src6 (two_byte hss)) (by simp only [maxLen, M.two, List.length_append, List.length_cons, List.length_nil]; omega) (by simp only [M.two, List.length_append, List.length_cons, List.length_nil]; omega) st4.out.size (fun v5 w5 hown hgrow hat => ?_)
      have b5 : Below w.heap.size w w5 := Own.grown O4 st4.out st4.out.size hgrow
      have O5 : OwnK .u8 w5 w.heap.size v5 (helHead r s) := by unfold OwnK helHead; simpa [M.two] using hown
      refine hK _ _ ⟨b5⟩ ?_
      clear hK K hown hgrow hat O3 O4 T4 st4 hst
      simp only [Act.put, List.setIfInBounds_toArray, List.set_cons_zero, List.set_cons_succ]
      refine any_rest [(11, false), (12, false), (13, true)] (by kernel_rfl) (fun _ _ d _ _ h => by cases d <;> exact h) ?_
      refine line_alone rfl (by kernel_rfl) (fun K hK => ?_)
      have st5 : Bel w w5 := ⟨b5⟩
      go_big_op
      have st6 := st5.on (bal (Below.refl _ w5) (textObj w5 n 5)).drew
      have X6 := text_own w5 n hnm
      refine hK _ _ st6 ?_
      clear hK K
      have O6 : OwnK .u8 (w5.alloc (textObj w5 n 5)).drew w.heap.size v5 (helHead r s) := (Own.alloc O5 _).drew
      have hsrc := X6.src6 (M.textL_byte n)
      clear b5 O5 X6 st5
      refine line_alone rfl (by kernel_rfl) (fun K hK => ?_)
      refine wp_append_src _ (.tmp 17) (.tmp 22) 22 22 rfl w.heap.size 5 i0 (.int .u8 0) 1 1 Tryz.underlying22 hi0 hz0 hz1 hz2 rfl _ _ _ rfl O6 _ n.size _ rfl hsrc (by rw [helHead_length]; simp only [maxLen]; omega) (by rw [helHead_length]; omega) st6.out.size (fun v7 w7 hown hgrow hat => ?_)
      have b7 : Below w.heap.size w w7 := Own.grown O6 st6.out st6.out.size hgrow
      have O7 : OwnK .u8 w7 w.heap.size v7 (packH n r s) := by
        unfold OwnK packH
        rw [List.length_append, M.textL_length, List.map_append]
        exact hown
      refine hK _ _ ⟨b7⟩ ?_
      obtain ⟨a7, c7, hv7, -⟩ := O7.form
      have HT := Lib.hid (And.intro O7 b7)
      clear hK K hown hgrow hat O7 b7 O6 st6 hsrc
      subst hv7
      simp only [Act.put, List.setIfInBounds_toArray, List.set_cons_zero, List.set_cons_succ]
      iterate 1 (refine line_read rfl (by kernel_rfl) (fun K hK => ?_); go_big_quiet_op; refine hK _ ?_; clear hK K)
      refine line_nil ?_
      go_wp2_with fail
      go_ret
      exact ⟨_, _, _, rfl, HT.out.1, HT.out.2⟩
    · go_big_op
      have st5 := st4.on (bal (Below.refl _ V4) (textObj V4 n 5)).drew
      have X5 := text_own V4 n hnm
      refine hK _ _ st5 ?_
      clear hK K
      have O5' : OwnK .u8 (V4.alloc (textObj V4 n 5)).drew w.heap.size v3 ([1] ++ M.two r) := (Own.alloc O4 _).drew
      have T5 : OwnK .u8 (V4.alloc (textObj V4 n 5)).drew V1.heap.size (.slice (some ⟨V1.heap.size, 0, none⟩) 2 2) (M.two s) := (Own.alloc T4 _).drew
      have hk3 : ∀ k, v3.ownBlock = some k → k < V4.heap.size := fun k hk => (Own.lt O4 k hk).2
      refine any_rest [(6, false), (12, false), (13, true)] (by kernel_rfl) (fun _ _ d _ _ h => by cases d <;> exact h) ?_
      refine line_alone rfl (by kernel_rfl) (fun K hK => ?_)
      refine wp_append_src _ (.tmp 11) (.tmp 16) 22 22 rfl w.heap.size 5 i0 (.int .u8 0) 1 1 Tryz.underlying22 hi0 hz0 hz1 hz2 rfl _ _ _ rfl O5' _ 2 _ rfl (T5.src6 (two_byte hss)) (by simp only [maxLen, M.two, List.length_append, List.length_cons, List.length_nil]; omega) (by simp only [M.two, List.length_append, List.length_cons, List.length_nil]; omega) st5.out.size (fun v5 w5 hown hgrow hat => ?_)
      have b5 : Below w.heap.size w w5 := Own.grown O5' st5.out st5.out.size hgrow
      have O5 : OwnK .u8 w5 w.heap.size v5 (helHead r s) := by unfold OwnK helHead; simpa [M.two] using hown
      have X6 := X5.kept6 hgrow hk3
      refine hK _ _ ⟨b5⟩ ?_
      clear hK K hown hgrow hat O3 O4 T4 st4 hst O5' T5 st5 X5
      simp only [Act.put, List.setIfInBounds_toArray, List.set_cons_zero, List.set_cons_succ]
      have st6 : Bel w w5 := ⟨b5⟩
      have O6 := O5
      have hsrc := X6.src6 (M.textL_byte n)
      clear b5 O5 X6
      refine line_alone rfl (by kernel_rfl) (fun K hK => ?_)
      refine wp_append_src _ (.tmp 17) (.tmp 22) 22 22 rfl w.heap.size 5 i0 (.int .u8 0) 1 1 Tryz.underlying22 hi0 hz0 hz1 hz2 rfl _ _ _ rfl O6 _ n.size _ rfl hsrc (by rw [helHead_length]; simp only [maxLen]; omega) (by rw [helHead_length]; omega) st6.out.size (fun v7 w7 hown hgrow hat => ?_)
      have b7 : Below w.heap.size w w7 := Own.grown O6 st6.out st6.out.size hgrow
      have O7 : OwnK .u8 w7 w.heap.size v7 (packH n r s) := by
        unfold OwnK packH
        rw [List.length_append, M.textL_length, List.map_append]
        exact hown
      refine hK _ _ ⟨b7⟩ ?_
      obtain ⟨a7, c7, hv7, -⟩ := O7.form
      have HT := Lib.hid (And.intro O7 b7)
      clear hK K hown hgrow hat O7 b7 O6 st6 hsrc
      subst hv7
      simp only [Act.put, List.setIfInBounds_toArray, List.set_cons_zero, List.set_cons_succ]
      iterate 1 (refine line_read rfl (by kernel_rfl) (fun K hK => ?_); go_big_quiet_op; refine hK _ ?_; clear hK K)
      refine line_nil ?_
      go_wp2_with fail
      go_ret
      exact ⟨_, _, _, rfl, HT.out.1, HT.out.2⟩
  · go_big_op
    have st4 := hst.on (bal (Below.refl _ V1) (textObj V1 n 5)).drew
    have X4 := text_own V1 n hnm
    refine hK _ _ st4 ?_
    clear hK K
    have O4' : OwnK .u8 (V1.alloc (textObj V1 n 5)).drew w.heap.size v3 ([1] ++ M.two r) := (Own.alloc O3 _).drew
    have hk3 : ∀ k, v3.ownBlock = some k → k < V1.heap.size := fun k hk => (Own.lt O3 k hk).2
    have lt4 : V1.heap.size < (V1.alloc (textObj V1 n 5)).drew.heap.size := by simp
    generalize (V1.alloc (textObj V1 n 5)).drew = V4 at *
    refine any_rest [(5, false), (6, false), (12, false), (13, true)] (by kernel_rfl) (fun _ _ d _ _ h => by cases d <;> exact h) ?_
    refine line_alone rfl (by kernel_rfl) (fun K hK => ?_)
    have st4' := st4
    clear st4
    refine call_any (args := #[.int .i64 s]) rfl (by kernel_rfl) (by kernel_rfl) (l1Two_any s _ hss) ?_
    rintro e w4 ⟨rfl, rfl⟩
    have st4 := st4'.on (bal (Below.refl _ V4) (.cells #[.int .u8 (s / 256), .int .u8 (s % 256)] 5))
    have O4 : OwnK .u8 _ w.heap.size v3 ([1] ++ M.two r) := Own.alloc O4' (.cells #[.int .u8 (s / 256), .int .u8 (s % 256)] 5)
    have T4 := two_own V4 s
    refine ⟨_, rfl, hK _ _ st4 ?_⟩
    clear hK K
    simp only [Act.put, List.setIfInBounds_toArray, List.set_cons_zero, List.set_cons_succ]
    have X5 : OwnK .u8 (V4.alloc (.cells #[.int .u8 (s / 256), .int .u8 (s % 256)] 5)) V1.heap.size (.slice (some ⟨V1.heap.size, 0, none⟩) n.size (grownCap V1 n.size 0 5)) (M.textL n) := Own.alloc X4 _
    refine line_alone rfl (by kernel_rfl) (fun K hK => ?_)
    refine wp_append_src _ (.tmp 11) (.tmp 16) 22 22 rfl w.heap.size 5 i0 (.int .u8 0) 1 1 Tryz.underlying22 hi0 hz0 hz1 hz2 rfl _ _ _ rfl O4 _ 2 _ rfl (T4.src6 (two_byte hss)) (by simp only [maxLen, M.two, List.length_append, List.length_cons, List.length_nil]; omega) (by simp only [M.two, List.length_append, List.length_cons, List.length_nil]; omega) st4.out.size (fun v5 w5 hown hgrow hat => ?_)
    have b5 : Below w.heap.size w w5 := Own.grown O4 st4.out st4.out.size hgrow
    have O5 : OwnK .u8 w5 w.heap.size v5 (helHead r s) := by unfold OwnK helHead; simpa [M.two] using hown
    have X6 := X5.kept6 hgrow hk3
    refine hK _ _ ⟨b5⟩ ?_
    clear hK K hown hgrow hat O3 O4 T4 st4 hst O4' st4' X4 X5
    simp only [Act.put, List.setIfInBounds_toArray, List.set_cons_zero, List.set_cons_succ]
    have st6 : Bel w w5 := ⟨b5⟩
    have O6 := O5
    have hsrc := X6.src6 (M.textL_byte n)
    clear b5 O5 X6
    refine line_alone rfl (by kernel_rfl) (fun K hK => ?_)
    refine wp_append_src _ (.tmp 17) (.tmp 22) 22 22 rfl w.heap.size 5 i0 (.int .u8 0) 1 1 Tryz.underlying22 hi0 hz0 hz1 hz2 rfl _ _ _ rfl O6 _ n.size _ rfl hsrc (by rw [helHead_length]; simp only [maxLen]; omega) (by rw [helHead_length]; omega) st6.out.size (fun v7 w7 hown hgrow hat => ?_)
    have b7 : Below w.heap.size w w7 := Own.grown O6 st6.out st6.out.size hgrow
    have O7 : OwnK .u8 w7 w.heap.size v7 (packH n r s) := by
      unfold OwnK packH
      rw [List.length_append, M.textL_length, List.map_append]
      exact hown
    refine hK _ _ ⟨b7⟩ ?_
    obtain ⟨a7, c7, hv7, -⟩ := O7.form
    have HT := Lib.hid (And.intro O7 b7)
    clear hK K hown hgrow hat O7 b7 O6 st6 hsrc
    subst hv7
    simp only [Act.put, List.setIfInBounds_toArray, List.set_cons_zero, List.set_cons_succ]
    iterate 1 (refine line_read rfl (by kernel_rfl) (fun K hK => ?_); go_big_quiet_op; refine hK _ ?_; clear hK K)
    refine line_nil ?_
    go_wp2_with fail
    go_ret
    exact ⟨_, _, _, rfl, HT.out.1, HT.out.2⟩

end Go.Proofs.YtepailfhagaboaaGreatDoor
