/- Texts of this seat that several laws rest on, laid into one. Conditions: as each theorem states. -/
import Derived.Test.YtlodhleihnlchaaGreatDoorH1
import Derived.Test.YtlodhleihnlchaaGreatDoorH6
import Derived.Test.YtlodhleihnlchaaGreatDoorH8
import Derived.Test.YtlodhleihnlchaaGreatDoorH9
namespace Go.Proofs.YtlodhleihnlchaaGreatDoor
open Go.RowKit
set_option maxRecDepth 100000
set_option linter.unusedVariables false

set_option maxHeartbeats 1000000 in
theorem l6PackHello1_any (g : Nat) (q r s : Int) (n : ByteArray) (w : World) (hA : At g (HL4 q r s n) w) (h : helF n.data.toList r s = 0) :
    Calls Tryz.prog 91 #[.pointer (some ⟨g, 1, none⟩)] w (Made (packH n r s) w) := by
  obtain ⟨hr, hs, -⟩ := helF_zero h
  have hn := hel_size h
  have hnm : n.size ≤ maxLen := size_max hn
  have hss := pub_sum6 hs
  obtain ⟨i0, hi0, hz0, hz1, hz2⟩ := info_parts u8_info
  have hcv := fun (W : World) => run_bytes_of_string (P := Tryz.prog) W 9 22 5 n Tryz.underlying9 Tryz.underlying22 Tryz.underlying5
  have ltg := hA.lt (by simp)
  have d0 := hA.cell 0 _ rfl
  have d1 := hA.cell 1 _ rfl
  have d2 := hA.cell 2 _ rfl
  have d3 := hA.cell 3 _ rfl
  have b1 := bal (Below.refl _ w) (.cells #[.int .u8 1] 5)
  have O1 : OwnK .u8 (w.alloc (.cells #[.int .u8 1] 5)) w.heap.size (.slice (some ⟨w.heap.size, 0, none⟩) 1 1) [1] := own_lit (k := .u8) w [1] 1 5 (Nat.le_refl _) rfl (by simp only [maxLen]; omega)
  clear h
  go_enter Tryz.func91, Tryz.ntmps91
  go_wp2_with fail
  generalize w.alloc (.cells #[.int .u8 1] 5) = W1 at *
  refine (l1Two_any r _ hr).mono ?_
  rintro e w2 ⟨rfl, rfl⟩
  have O2 := Own.alloc O1 (.cells #[.int .u8 (r / 256), .int .u8 (r % 256)] 5)
  have b2 := bal b1 (.cells #[.int .u8 (r / 256), .int .u8 (r % 256)] 5)
  have hle := b2.size
  have hsrc := src_new (P := Tryz.prog) W1 [.int .u8 (r / 256), .int .u8 (r % 256)] 2 2 5 22 5 Tryz.underlying22 rfl (ints_oneCell .u8 [r / 256, r % 256])
  go_wp2_with (at_builtin; refine wpList_append_src _ rfl (.tmp 4) (.tmp 9) 22 22 rfl w.heap.size 5 i0 (.int .u8 0) 1 1 Tryz.underlying22 hi0 hz0 hz1 hz2 rfl _ 1 [.int .u8 1] rfl O2 _ 2 _ rfl hsrc (by simp only [maxLen]; omega) (by omega) hle ?_; intro v3 w3 hown hgrow hat)
  have b3 : Below w.heap.size w w3 := Own.grown O2 b2 hle hgrow
  have O3 : OwnK .u8 w3.drew w.heap.size v3 ([1] ++ M.two r) := by unfold OwnK; simpa [M.two] using hown.drew
  clear O1 O2 b1 b2 hle hsrc hown hgrow hat
  refine wp_region_fork (Bel w) (by kernel_rfl) (Bel.mk b3.drew) ?_
  have hst : (Bel w) _ := (Bel.mk b3.drew)
  have inst : Nonempty (Of (Bel w)) := ⟨⟨_, hst⟩⟩
  have u1 := bel_cell d2
  have u2 := bel_cell d3
  clear b3 d0 d1 d2 d3
  generalize w3.drew = V1 at *
  refine any_seg 5 [(0, true), (1, true), (2, true), (3, true), (4, true), (7, true), (8, true), (9, true), (10, true)] (by kernel_rfl) (fun _ _ d _ _ h => by cases d <;> exact h) ?_
  iterate 9 (refine line_read rfl (by kernel_rfl) (fun K hK => ?_); go_big_quiet_op; refine hK _ ?_; clear hK K)
  refine line_nil ?_
  clear u1 u2
  refine any_fork 5 11 (by kernel_rfl) rfl rfl (by kernel_rfl) (by kernel_rfl) (fun K hK => ?_) (fun K hK => ?_)
  · refine call_any (args := #[.int .i64 s]) rfl (by kernel_rfl) (by kernel_rfl) (l1Two_any s _ hss) ?_
    rintro e w4 ⟨rfl, rfl⟩
    have st4 := hst.on (bal (Below.refl _ V1) (.cells #[.int .u8 (s / 256), .int .u8 (s % 256)] 5))
    have O4 : OwnK .u8 _ w.heap.size v3 ([1] ++ M.two r) := Own.alloc O3 (.cells #[.int .u8 (s / 256), .int .u8 (s % 256)] 5)
    have T4 := two_own V1 s
    refine ⟨_, rfl, hK _ _ st4 ?_⟩
    clear hK K
    simp only [Act.put, List.setIfInBounds_toArray, List.set_cons_zero, List.set_cons_succ]
    generalize V1.alloc (.cells #[.int .u8 (s / 256), .int .u8 (s % 256)] 5) = V4 at *
    refine any_fork 6 11 (by kernel_rfl) rfl rfl (by kernel_rfl) (by kernel_rfl) (fun K hK => ?_) (fun K hK => ?_)
    · refine wp_append_src _ (.tmp 11) (.tmp 16) 22 22 rfl w.heap.size 5 i0 (.int .u8 0) 1 1 Tryz.underlying22 hi0 hz0 hz1 hz2 rfl _ _ _ rfl O4 _ 2 _ rfl (T4.src6 (two_byte hss)) (by simp only [maxLen, M.two, List.length_append, List.length_cons, List.length_nil]; omega) (by simp only [M.two, List.length_append, List.length_cons, List.length_nil]; omega) st4.out.size (fun v5 w5 hown hgrow hat => ?_)
      have b5 : Below w.heap.size w w5 := Own.grown O4 st4.out st4.out.size hgrow
      have O5 : OwnK .u8 w5 w.heap.size v5 (helHead r s) := by unfold OwnK helHead; simpa [M.two] using hown
      refine hK _ _ ⟨b5⟩ ?_
      clear hK K hown hgrow hat O3 O4 T4 st4 hst
      simp only [Act.put, List.setIfInBounds_toArray, List.set_cons_zero, List.set_cons_succ]
      refine any_rest [(11, false), (12, false), (13, true)] (by kernel_rfl) (fun _ _ d _ _ h => by cases d <;> exact h) ?_
      refine line_alone rfl (by kernel_rfl) (fun K hK => ?_)
      have st5 : Bel w w5 := ⟨b5⟩
      go_big_op
      have st6 := st5.on (bal (Below.refl _ w5) (textObj w5 n 5)).drew
      have X6 := text_own w5 n hnm
      refine hK _ _ st6 ?_
      clear hK K
      have O6 : OwnK .u8 (w5.alloc (textObj w5 n 5)).drew w.heap.size v5 (helHead r s) := (Own.alloc O5 _).drew
      have hsrc := X6.src6 (M.textL_byte n)
      clear b5 O5 X6 st5
      refine line_alone rfl (by kernel_rfl) (fun K hK => ?_)
      refine wp_append_src _ (.tmp 17) (.tmp 22) 22 22 rfl w.heap.size 5 i0 (.int .u8 0) 1 1 Tryz.underlying22 hi0 hz0 hz1 hz2 rfl _ _ _ rfl O6 _ n.size _ rfl hsrc (by rw [helHead_length]; simp only [maxLen]; omega) (by rw [helHead_length]; omega) st6.out.size (fun v7 w7 hown hgrow hat => ?_)
      have b7 : Below w.heap.size w w7 := Own.grown O6 st6.out st6.out.size hgrow
      have O7 : OwnK .u8 w7 w.heap.size v7 (packH n r s) := by
        unfold OwnK packH
        rw [List.length_append, M.textL_length, List.map_append]
        exact hown
      refine hK _ _ ⟨b7⟩ ?_
      obtain ⟨a7, c7, hv7, -⟩ := O7.form
      have HT := Lib.hid (And.intro O7 b7)
      clear hK K hown hgrow hat O7 b7 O6 st6 hsrc
      subst hv7
      simp only [Act.put, List.setIfInBounds_toArray, List.set_cons_zero, List.set_cons_succ]
      iterate 1 (refine line_read rfl (by kernel_rfl) (fun K hK => ?_); go_big_quiet_op; refine hK _ ?_; clear hK K)
      refine line_nil ?_
      go_wp2_with fail
      go_ret
      exact ⟨_, _, _, rfl, HT.out.1, HT.out.2⟩
    · go_big_op
      have st5 := st4.on (bal (Below.refl _ V4) (textObj V4 n 5)).drew
      have X5 := text_own V4 n hnm
      refine hK _ _ st5 ?_
      clear hK K
      have O5' : OwnK .u8 (V4.alloc (textObj V4 n 5)).drew w.heap.size v3 ([1] ++ M.two r) := (Own.alloc O4 _).drew
      have T5 : OwnK .u8 (V4.alloc (textObj V4 n 5)).drew V1.heap.size (.slice (some ⟨V1.heap.size, 0, none⟩) 2 2) (M.two s) := (Own.alloc T4 _).drew
      have hk3 : ∀ k, v3.ownBlock = some k → k < V4.heap.size := fun k hk => (Own.lt O4 k hk).2
      refine any_rest [(6, false), (12, false), (13, true)] (by kernel_rfl) (fun _ _ d _ _ h => by cases d <;> exact h) ?_
      refine line_alone rfl (by kernel_rfl) (fun K hK => ?_)
      refine wp_append_src _ (.tmp 11) (.tmp 16) 22 22 rfl w.heap.size 5 i0 (.int .u8 0) 1 1 Tryz.underlying22 hi0 hz0 hz1 hz2 rfl _ _ _ rfl O5' _ 2 _ rfl (T5.src6 (two_byte hss)) (by simp only [maxLen, M.two, List.length_append, List.length_cons, List.length_nil]; omega) (by simp only [M.two, List.length_append, List.length_cons, List.length_nil]; omega) st5.out.size (fun v5 w5 hown hgrow hat => ?_)
      have b5 : Below w.heap.size w w5 := Own.grown O5' st5.out st5.out.size hgrow
      have O5 : OwnK .u8 w5 w.heap.size v5 (helHead r s) := by unfold OwnK helHead; simpa [M.two] using hown
      have X6 := X5.kept6 hgrow hk3
      refine hK _ _ ⟨b5⟩ ?_
      clear hK K hown hgrow hat O3 O4 T4 st4 hst O5' T5 st5 X5
      simp only [Act.put, List.setIfInBounds_toArray, List.set_cons_zero, List.set_cons_succ]
      have st6 : Bel w w5 := ⟨b5⟩
      have O6 := O5
      have hsrc := X6.src6 (M.textL_byte n)
      clear b5 O5 X6
      refine line_alone rfl (by kernel_rfl) (fun K hK => ?_)
      refine wp_append_src _ (.tmp 17) (.tmp 22) 22 22 rfl w.heap.size 5 i0 (.int .u8 0) 1 1 Tryz.underlying22 hi0 hz0 hz1 hz2 rfl _ _ _ rfl O6 _ n.size _ rfl hsrc (by rw [helHead_length]; simp only [maxLen]; omega) (by rw [helHead_length]; omega) st6.out.size (fun v7 w7 hown hgrow hat => ?_)
      have b7 : Below w.heap.size w w7 := Own.grown O6 st6.out st6.out.size hgrow
      have O7 : OwnK .u8 w7 w.heap.size v7 (packH n r s) := by
        unfold OwnK packH
        rw [List.length_append, M.textL_length, List.map_append]
        exact hown
      refine hK _ _ ⟨b7⟩ ?_
      obtain ⟨a7, c7, hv7, -⟩ := O7.form
      have HT := Lib.hid (And.intro O7 b7)
      clear hK K hown hgrow hat O7 b7 O6 st6 hsrc
      subst hv7
      simp only [Act.put, List.setIfInBounds_toArray, List.set_cons_zero, List.set_cons_succ]
      iterate 1 (refine line_read rfl (by kernel_rfl) (fun K hK => ?_); go_big_quiet_op; refine hK _ ?_; clear hK K)
      refine line_nil ?_
      go_wp2_with fail
      go_ret
      exact ⟨_, _, _, rfl, HT.out.1, HT.out.2⟩
  · go_big_op
    have st4 := hst.on (bal (Below.refl _ V1) (textObj V1 n 5)).drew
    have X4 := text_own V1 n hnm
    refine hK _ _ st4 ?_
    clear hK K
    have O4' : OwnK .u8 (V1.alloc (textObj V1 n 5)).drew w.heap.size v3 ([1] ++ M.two r) := (Own.alloc O3 _).drew
    have hk3 : ∀ k, v3.ownBlock = some k → k < V1.heap.size := fun k hk => (Own.lt O3 k hk).2
    have lt4 : V1.heap.size < (V1.alloc (textObj V1 n 5)).drew.heap.size := by simp
    generalize (V1.alloc (textObj V1 n 5)).drew = V4 at *
    refine any_rest [(5, false), (6, false), (12, false), (13, true)] (by kernel_rfl) (fun _ _ d _ _ h => by cases d <;> exact h) ?_
    refine line_alone rfl (by kernel_rfl) (fun K hK => ?_)
    have st4' := st4
    clear st4
    refine call_any (args := #[.int .i64 s]) rfl (by kernel_rfl) (by kernel_rfl) (l1Two_any s _ hss) ?_
    rintro e w4 ⟨rfl, rfl⟩
    have st4 := st4'.on (bal (Below.refl _ V4) (.cells #[.int .u8 (s / 256), .int .u8 (s % 256)] 5))
    have O4 : OwnK .u8 _ w.heap.size v3 ([1] ++ M.two r) := Own.alloc O4' (.cells #[.int .u8 (s / 256), .int .u8 (s % 256)] 5)
    have T4 := two_own V4 s
    refine ⟨_, rfl, hK _ _ st4 ?_⟩
    clear hK K
    simp only [Act.put, List.setIfInBounds_toArray, List.set_cons_zero, List.set_cons_succ]
    have X5 : OwnK .u8 (V4.alloc (.cells #[.int .u8 (s / 256), .int .u8 (s % 256)] 5)) V1.heap.size (.slice (some ⟨V1.heap.size, 0, none⟩) n.size (grownCap V1 n.size 0 5)) (M.textL n) := Own.alloc X4 _
    refine line_alone rfl (by kernel_rfl) (fun K hK => ?_)
    refine wp_append_src _ (.tmp 11) (.tmp 16) 22 22 rfl w.heap.size 5 i0 (.int .u8 0) 1 1 Tryz.underlying22 hi0 hz0 hz1 hz2 rfl _ _ _ rfl O4 _ 2 _ rfl (T4.src6 (two_byte hss)) (by simp only [maxLen, M.two, List.length_append, List.length_cons, List.length_nil]; omega) (by simp only [M.two, List.length_append, List.length_cons, List.length_nil]; omega) st4.out.size (fun v5 w5 hown hgrow hat => ?_)
    have b5 : Below w.heap.size w w5 := Own.grown O4 st4.out st4.out.size hgrow
    have O5 : OwnK .u8 w5 w.heap.size v5 (helHead r s) := by unfold OwnK helHead; simpa [M.two] using hown
    have X6 := X5.kept6 hgrow hk3
    refine hK _ _ ⟨b5⟩ ?_
    clear hK K hown hgrow hat O3 O4 T4 st4 hst O4' st4' X4 X5
    simp only [Act.put, List.setIfInBounds_toArray, List.set_cons_zero, List.set_cons_succ]
    have st6 : Bel w w5 := ⟨b5⟩
    have O6 := O5
    have hsrc := X6.src6 (M.textL_byte n)
    clear b5 O5 X6
    refine line_alone rfl (by kernel_rfl) (fun K hK => ?_)
    refine wp_append_src _ (.tmp 17) (.tmp 22) 22 22 rfl w.heap.size 5 i0 (.int .u8 0) 1 1 Tryz.underlying22 hi0 hz0 hz1 hz2 rfl _ _ _ rfl O6 _ n.size _ rfl hsrc (by rw [helHead_length]; simp only [maxLen]; omega) (by rw [helHead_length]; omega) st6.out.size (fun v7 w7 hown hgrow hat => ?_)
    have b7 : Below w.heap.size w w7 := Own.grown O6 st6.out st6.out.size hgrow
    have O7 : OwnK .u8 w7 w.heap.size v7 (packH n r s) := by
      unfold OwnK packH
      rw [List.length_append, M.textL_length, List.map_append]
      exact hown
    refine hK _ _ ⟨b7⟩ ?_
    obtain ⟨a7, c7, hv7, -⟩ := O7.form
    have HT := Lib.hid (And.intro O7 b7)
    clear hK K hown hgrow hat O7 b7 O6 st6 hsrc
    subst hv7
    simp only [Act.put, List.setIfInBounds_toArray, List.set_cons_zero, List.set_cons_succ]
    iterate 1 (refine line_read rfl (by kernel_rfl) (fun K hK => ?_); go_big_quiet_op; refine hK _ ?_; clear hK K)
    refine line_nil ?_
    go_wp2_with fail
    go_ret
    exact ⟨_, _, _, rfl, HT.out.1, HT.out.2⟩
theorem l6HeardW_any (g h : Nat) (n : ByteArray) (r s r2 s2 p x y f : Int) (w : World) (A1 : At g (HL3 r s n) w) (A2 : At h (RL6 r2 s2 p x y f) w) (hh : helF n.data.toList r s = 0) (h1 : M.sumB r2 = true) (h2 : pubB s2 = true) (h3 : pubB p = true) :
    Calls Tryz.prog 111 #[.pointer (some ⟨g, 0, none⟩), .pointer (some ⟨h, 0, none⟩)] w fun e w' => e = .returned (.int .i64 (M.heardL [packH n r s, frontR r2 s2 p])) ∧ Below w.heap.size w w' := by
  have P1 := fun w A => l6PackHello_any g r s n w A hh
  have P2 := fun w A => l6Front_any h r2 s2 p x y f w A h1 (pub_sum6 h2) (pub_sum6 h3)
  have HW := Lib.hid (And.intro (fun z hz => byte_wf (packH_byte hh z hz)) (fun z hz => byte_wf (frontR_byte h1 h2 h3 z hz)))
  generalize packH n r s = z1 at *
  generalize frontR r2 s2 p = z2 at *
  have F3 := fun a len cap B w G hB hl => l2Heard_any a len cap B [z1, z2] w G hB hl
  generalize M.heardL [z1, z2] = hv at *
  go_enter Tryz.func111, Tryz.ntmps111
  go_wp2_with fail
  refine (P1 _ A1).mono ?_
  rintro e u1 ⟨a1, n1, c1, rfl, O1, b1⟩
  go_wp2_with fail
  refine (P2 _ (A2.on b1)).mono ?_
  rintro e u2 ⟨a2, n2, c2, rfl, O2, b2⟩
  have G := grid_two 22 ((Own.row O1 HW.out.1).on b2) (Own.row O2 HW.out.2)
  have B3 := bal (btr b1 b2) (.cells #[.slice a1 n1 c1, .slice a2 n2 c2] 22)
  have hle : u2.heap.size + 1 ≤ (u2.alloc (.cells #[.slice a1 n1 c1, .slice a2 n2 c2] 22)).heap.size := by simp
  clear O1 O2 b1 b2 P1 P2
  go_wp2_with fail
  generalize u2.alloc (.cells #[.slice a1 n1 c1, .slice a2 n2 c2] 22) = v2 at *
  refine (F3 _ _ _ _ _ G hle (by omega)).mono ?_
  rintro e u3 ⟨rfl, b3⟩
  have hb := btr B3 b3
  clear G
  go_wp2_with fail
  go_ret
  exact ⟨rfl, hb⟩
theorem l6Heard1_any (g h : Nat) (q : Int) (n : ByteArray) (r s r2 s2 p x y f : Int) (w : World) (A1 : At g (HL4 q r s n) w) (A2 : At h (RL6 r2 s2 p x y f) w) (hh : helF n.data.toList r s = 0) (h1 : M.sumB r2 = true) (h2 : pubB s2 = true) (h3 : pubB p = true) :
    Calls Tryz.prog 111 #[.pointer (some ⟨g, 1, none⟩), .pointer (some ⟨h, 0, none⟩)] w fun e w' => e = .returned (.int .i64 (M.heardL [packH n r s, frontR r2 s2 p])) ∧ Below w.heap.size w w' := by
  have P1 := fun w A => l6PackHello1_any g q r s n w A hh
  have P2 := fun w A => l6Front_any h r2 s2 p x y f w A h1 (pub_sum6 h2) (pub_sum6 h3)
  have HW := Lib.hid (And.intro (fun z hz => byte_wf (packH_byte hh z hz)) (fun z hz => byte_wf (frontR_byte h1 h2 h3 z hz)))
  generalize packH n r s = z1 at *
  generalize frontR r2 s2 p = z2 at *
  have F3 := fun a len cap B w G hB hl => l2Heard_any a len cap B [z1, z2] w G hB hl
  generalize M.heardL [z1, z2] = hv at *
  go_enter Tryz.func111, Tryz.ntmps111
  go_wp2_with fail
  refine (P1 _ A1).mono ?_
  rintro e u1 ⟨a1, n1, c1, rfl, O1, b1⟩
  go_wp2_with fail
  refine (P2 _ (A2.on b1)).mono ?_
  rintro e u2 ⟨a2, n2, c2, rfl, O2, b2⟩
  have G := grid_two 22 ((Own.row O1 HW.out.1).on b2) (Own.row O2 HW.out.2)
  have B3 := bal (btr b1 b2) (.cells #[.slice a1 n1 c1, .slice a2 n2 c2] 22)
  have hle : u2.heap.size + 1 ≤ (u2.alloc (.cells #[.slice a1 n1 c1, .slice a2 n2 c2] 22)).heap.size := by simp
  clear O1 O2 b1 b2 P1 P2
  go_wp2_with fail
  generalize u2.alloc (.cells #[.slice a1 n1 c1, .slice a2 n2 c2] 22) = v2 at *
  refine (F3 _ _ _ _ _ G hle (by omega)).mono ?_
  rintro e u3 ⟨rfl, b3⟩
  have hb := btr B3 b3
  clear G
  go_wp2_with fail
  go_ret
  exact ⟨rfl, hb⟩
end Go.Proofs.YtlodhleihnlchaaGreatDoor
namespace Go.Proofs.YtlodhleihnlchaaGreatDoor
open Go.RowKit
set_option maxRecDepth 100000
set_option linter.unusedVariables false

set_option maxHeartbeats 2000000 in
theorem l11Answer0_any (g : Nat) (i s rd : Int) (n : ByteArray) (r0 s0 : Int) (w : World) (A0 : At g (HL3 r0 s0 n) w) (hi : inB i 1 1438 = true) (hs : inB s 1 1438 = true) (hr : M.sumB rd = true) (hh : helF n.data.toList r0 s0 = 0) :
    Calls Tryz.prog 167 #[.int .i64 i, .int .i64 s, .int .i64 rd, .pointer (some ⟨g, 0, none⟩)] w fun e w' => e = .returned (T11 (ansD i s rd n r0 s0)) ∧ Below w.heap.size w w' := by
  have g1 := kf11
  have hi' := hi
  have hs' := hs
  simp only [inB, decide_eq_true_eq] at hi' hs'
  obtain ⟨-, h0s, -⟩ := helF_zero hh
  have hsb := pub_bd h0s
  have K1 : ∀ w, Calls Tryz.prog 187 #[.int .i64 s] w fun r w' => r = .returned (I2 s (M.pubN s)) ∧ Below w.heap.size w w' := fun w => l1Key_any s w (by omega) (by omega)
  have K2 : ∀ w, Calls Tryz.prog 187 #[.int .i64 i] w fun r w' => r = .returned (I2 i (M.pubN i)) ∧ Below w.heap.size w w' := fun w => l1Key_any i w (by omega) (by omega)
  have H := fun h w A1 A2 => l6HeardW_any g h n r0 s0 rd (M.pubN s) (M.pubN i) 0 0 0 w A1 A2 hh hr (pub_of hs) (pub_of hi)
  have hhe := heardL_sum [packH n r0 s0, frontR rd (M.pubN s) (M.pubN i)]
  have R1 := fun w => l1Raise_int s0 s w (by omega) (by omega) (by omega) (by omega)
  have hsh : M.sumB (M.pw s0 s.toNat 2879) = true := M.pow_sum _
  unfold ansD ansH heN shN
  generalize M.heardL [packH n r0 s0, frontR rd (M.pubN s) (M.pubN i)] = he at *
  generalize M.pw s0 s.toNat 2879 = sh at *
  have V := fun w => l11Verify_any he w hhe
  have G := fun w => l3Sign_any i (verN he) w hi (verN_sum he)
  have F := fun w => l11Finish_any sh he w hsh hhe
  have Y := fun w => l11Keys_any sh he (M.pubN i) w hsh hhe
  generalize M.sigPt i (verN he) = x at *
  generalize M.sigPr i (verN he) = y at *
  generalize verN he = vh at *
  generalize finN sh he = f at *
  generalize upN sh he = u at *
  generalize downN sh he = d at *
  generalize M.pubN s = p1 at *
  generalize M.pubN i = p2 at *
  have b0 := bal (Below.refl _ w) (.cells #[.int .i64 0, .int .i64 0, .int .i64 0, .int .i64 0, .int .i64 0, .int .i64 0, .int .i64 0, .int .i64 0, .int .i64 0, .int .i64 0, .int .i64 0] 112)
  have Z0 := At.new w [.int .i64 0, .int .i64 0, .int .i64 0, .int .i64 0, .int .i64 0, .int .i64 0, .int .i64 0, .int .i64 0, .int .i64 0, .int .i64 0, .int .i64 0] 112
  have A1 := A0.alloc (.cells #[.int .i64 0, .int .i64 0, .int .i64 0, .int .i64 0, .int .i64 0, .int .i64 0, .int .i64 0, .int .i64 0, .int .i64 0, .int .i64 0, .int .i64 0] 112)
  clear A0 hi hs hi' hs' hr hh h0s hsb hhe hsh
  go_enter Tryz.func167, Tryz.ntmps167
  go_wp2_with fail
  generalize w.alloc (.cells #[.int .i64 0, .int .i64 0, .int .i64 0, .int .i64 0, .int .i64 0, .int .i64 0, .int .i64 0, .int .i64 0, .int .i64 0, .int .i64 0, .int .i64 0] 112) = W0 at *
  refine (K1 _).mono ?_
  rintro e u1 ⟨rfl, b1⟩
  go_wp2_with fail
  refine (K2 _).mono ?_
  rintro e u2 ⟨rfl, b2⟩
  have b12 := btr b1 b2
  have ltz : w.heap.size < u2.heap.size := (Z0.on b12).lt (by simp)
  have ltg : g < u2.heap.size := (A1.on b12).lt (by simp)
  have b3 := bal b12 (.cells #[.int .i64 rd, .int .i64 p1, .int .i64 p2, .int .i64 0, .int .i64 0, .int .i64 0] 33)
  have X3 := At.new u2 [.int .i64 rd, .int .i64 p1, .int .i64 p2, .int .i64 0, .int .i64 0, .int .i64 0] 33
  have A3 := A1.on b3
  have Z3 := Z0.on b3
  have B3 := btr b0 b3
  clear b0 b1 b2 b12 b3 Z0 A1 K1 K2
  go_wp2_with fail
  generalize u2.alloc (.cells #[.int .i64 rd, .int .i64 p1, .int .i64 p2, .int .i64 0, .int .i64 0, .int .i64 0] 33) = W1 at *
  refine (H _ _ A3 X3).mono ?_
  rintro e u3 ⟨rfl, b4⟩
  have A4 := A3.on b4
  have X4 := X3.on b4
  have Z4 := Z3.on b4
  have B4 := btr B3 b4
  have aa0 := A4.cell 0 _ rfl
  have aa1 := A4.cell 1 _ rfl
  have aa2 := A4.cell 2 _ rfl
  clear b4 A3 X3 Z3 B3 H
  go_wp2_with fail
  refine (R1 _).mono ?_
  rintro e u3' ⟨rfl, rfl⟩
  go_wp2_with fail
  refine (V _).mono ?_
  rintro e u4 ⟨rfl, b5⟩
  go_wp2_with fail
  refine (G _).mono ?_
  rintro e u5 ⟨rfl, b6⟩
  have b56 := btr b5 b6
  have X6 := X4.on b56
  have Z6 := Z4.on b56
  have B6 := btr B4 b56
  have kk0 := X6.cell 0 _ rfl
  have kk1 := X6.cell 1 _ rfl
  have kk2 := X6.cell 2 _ rfl
  have kk3 := X6.cell 3 _ rfl
  have kk4 := X6.cell 4 _ rfl
  have kk5 := X6.cell 5 _ rfl
  have ff0 := X6.free 0 _ rfl
  have ff1 := X6.free 1 _ rfl
  have ff2 := X6.free 2 _ rfl
  have ff3 := X6.free 3 _ rfl
  have ff4 := X6.free 4 _ rfl
  have ff5 := X6.free 5 _ rfl
  have X7 : At u2.heap.size [.int .i64 rd, .int .i64 p1, .int .i64 p2, .int .i64 x, .int .i64 y, .int .i64 0] ((u5.setCell ⟨u2.heap.size, 3, none⟩ (.int .i64 x)).setCell ⟨u2.heap.size, 4, none⟩ (.int .i64 y)) := (X6.set 3 (.int .i64 x)).set 4 (.int .i64 y)
  have Z7 := (Z6.setB (p := ⟨u2.heap.size, 3, none⟩) (by dsimp only; omega) (.int .i64 x)).setB (p := ⟨u2.heap.size, 4, none⟩) (by dsimp only; omega) (.int .i64 y)
  have B7 := bset (bset B6 (p := ⟨u2.heap.size, 3, none⟩) (by dsimp only; omega) (.int .i64 x)) (p := ⟨u2.heap.size, 4, none⟩) (by dsimp only; omega) (.int .i64 y)
  clear b5 b6 b56 A4 X4 Z4 B4 X6 Z6 B6 V G R1 aa0 aa1 aa2
  go_wp2_with fail
  generalize (u5.setCell ⟨u2.heap.size, 3, none⟩ (.int .i64 x)).setCell ⟨u2.heap.size, 4, none⟩ (.int .i64 y) = W7 at *
  clear kk0 kk1 kk2 kk3 kk4 kk5 ff0 ff1 ff2 ff3 ff4 ff5
  refine (F _).mono ?_
  rintro e u6 ⟨rfl, b8⟩
  have X8 := X7.on b8
  have Z8 := Z7.on b8
  have B8 := btr B7 b8
  have kk0 := X8.cell 0 _ rfl
  have kk1 := X8.cell 1 _ rfl
  have kk2 := X8.cell 2 _ rfl
  have kk3 := X8.cell 3 _ rfl
  have kk4 := X8.cell 4 _ rfl
  have kk5 := X8.cell 5 _ rfl
  have ff0 := X8.free 0 _ rfl
  have ff1 := X8.free 1 _ rfl
  have ff2 := X8.free 2 _ rfl
  have ff3 := X8.free 3 _ rfl
  have ff4 := X8.free 4 _ rfl
  have ff5 := X8.free 5 _ rfl
  have XX : At u2.heap.size [.int .i64 rd, .int .i64 p1, .int .i64 p2, .int .i64 x, .int .i64 y, .int .i64 f] (u6.setCell ⟨u2.heap.size, 5, none⟩ (.int .i64 f)) := X8.set 5 (.int .i64 f)
  have Z9 := Z8.setB (p := ⟨u2.heap.size, 5, none⟩) (by dsimp only; omega) (.int .i64 f)
  have B9 := bset B8 (p := ⟨u2.heap.size, 5, none⟩) (by dsimp only; omega) (.int .i64 f)
  clear b8 X7 X8 Z7 Z8 B7 B8 F
  go_wp2_with fail
  generalize u6.setCell ⟨u2.heap.size, 5, none⟩ (.int .i64 f) = W9 at *
  have S0 : Hold w (u2.heap.size) [.int .i64 rd, .int .i64 p1, .int .i64 p2, .int .i64 x, .int .i64 y, .int .i64 f] W9.drew := ⟨B9.drew, XX.on (bdrew _)⟩
  have ZZ := Z9.on (bdrew W9)
  refine wp_region_line (Hold w (u2.heap.size) [.int .i64 rd, .int .i64 p1, .int .i64 p2, .int .i64 x, .int .i64 y, .int .i64 f]) [(0, true), (1, true), (2, true), (3, true), (4, true), (5, false), (6, true), (7, false)] (by kernel_rfl) (by kernel_rfl) (fun _ _ d _ _ h => by cases d <;> exact h) S0 ?_
  have hst := S0
  have inst : Nonempty (Of (Hold w (u2.heap.size) [.int .i64 rd, .int .i64 p1, .int .i64 p2, .int .i64 x, .int .i64 y, .int .i64 f])) := ⟨⟨_, hst⟩⟩
  have qh0 := hold_cell (W := w) (g := u2.heap.size) (cs := [.int .i64 rd, .int .i64 p1, .int .i64 p2, .int .i64 x, .int .i64 y, .int .i64 f]) 0 _ rfl
  have qh1 := hold_cell (W := w) (g := u2.heap.size) (cs := [.int .i64 rd, .int .i64 p1, .int .i64 p2, .int .i64 x, .int .i64 y, .int .i64 f]) 1 _ rfl
  have qh2 := hold_cell (W := w) (g := u2.heap.size) (cs := [.int .i64 rd, .int .i64 p1, .int .i64 p2, .int .i64 x, .int .i64 y, .int .i64 f]) 2 _ rfl
  have qh3 := hold_cell (W := w) (g := u2.heap.size) (cs := [.int .i64 rd, .int .i64 p1, .int .i64 p2, .int .i64 x, .int .i64 y, .int .i64 f]) 3 _ rfl
  have qh4 := hold_cell (W := w) (g := u2.heap.size) (cs := [.int .i64 rd, .int .i64 p1, .int .i64 p2, .int .i64 x, .int .i64 y, .int .i64 f]) 4 _ rfl
  have qh5 := hold_cell (W := w) (g := u2.heap.size) (cs := [.int .i64 rd, .int .i64 p1, .int .i64 p2, .int .i64 x, .int .i64 y, .int .i64 f]) 5 _ rfl
  clear S0 XX Z9 B9 kk0 kk1 kk2 kk3 kk4 kk5 ff0 ff1 ff2 ff3 ff4 ff5
  generalize W9.drew = V1 at *
  iterate 5 (refine line_read rfl (by kernel_rfl) (fun K hK => ?_); go_big_quiet_op; refine hK _ ?_; clear hK K)
  refine line_alone rfl (by kernel_rfl) (fun K hK => ?_)
  refine call_any (args := #[.int .i64 sh, .int .i64 he, .int .i64 p2]) rfl (by kernel_rfl) (by kernel_rfl) (Y _) ?_
  rintro e wn ⟨rfl, hbn⟩
  have hst2 := hst.on hbn
  have Z2 := ZZ.on hbn
  refine ⟨_, rfl, hK _ _ hst2 ?_⟩
  clear hK K hst hbn ZZ
  simp only [Act.put, List.setIfInBounds_toArray, List.set_cons_zero, List.set_cons_succ]
  refine line_readv (v := .agg #[.int .i64 0, .int .i64 rd, .int .i64 p1, .int .i64 p2, .int .i64 x, .int .i64 y, .int .i64 f, .int .i64 u, .int .i64 d, .int .i64 he, .int .i64 p2]) rfl (by kernel_rfl) (fun _ => by kernel_rfl) ?_
  simp only [Act.put, List.setIfInBounds_toArray, List.set_cons_zero, List.set_cons_succ]
  have zz0 := Z2.cell 0 _ rfl
  have zz1 := Z2.cell 1 _ rfl
  have zz2 := Z2.cell 2 _ rfl
  have zz3 := Z2.cell 3 _ rfl
  have zz4 := Z2.cell 4 _ rfl
  have zz5 := Z2.cell 5 _ rfl
  have zz6 := Z2.cell 6 _ rfl
  have zz7 := Z2.cell 7 _ rfl
  have zz8 := Z2.cell 8 _ rfl
  have zz9 := Z2.cell 9 _ rfl
  have zz10 := Z2.cell 10 _ rfl
  have hh0 := Z2.free 0 _ rfl
  have hh1 := Z2.free 1 _ rfl
  have hh2 := Z2.free 2 _ rfl
  have hh3 := Z2.free 3 _ rfl
  have hh4 := Z2.free 4 _ rfl
  have hh5 := Z2.free 5 _ rfl
  have hh6 := Z2.free 6 _ rfl
  have hh7 := Z2.free 7 _ rfl
  have hh8 := Z2.free 8 _ rfl
  have hh9 := Z2.free 9 _ rfl
  have hh10 := Z2.free 10 _ rfl
  have S9 : Hold w (u2.heap.size) [.int .i64 rd, .int .i64 p1, .int .i64 p2, .int .i64 x, .int .i64 y, .int .i64 f] (((((((((((wn.setCell ⟨w.heap.size, 0, none⟩ (.int .i64 0)).setCell ⟨w.heap.size, 1, none⟩ (.int .i64 rd)).setCell ⟨w.heap.size, 2, none⟩ (.int .i64 p1)).setCell ⟨w.heap.size, 3, none⟩ (.int .i64 p2)).setCell ⟨w.heap.size, 4, none⟩ (.int .i64 x)).setCell ⟨w.heap.size, 5, none⟩ (.int .i64 y)).setCell ⟨w.heap.size, 6, none⟩ (.int .i64 f)).setCell ⟨w.heap.size, 7, none⟩ (.int .i64 u)).setCell ⟨w.heap.size, 8, none⟩ (.int .i64 d)).setCell ⟨w.heap.size, 9, none⟩ (.int .i64 he)).setCell ⟨w.heap.size, 10, none⟩ (.int .i64 p2)) := by
    iterate 11 (refine Hold.setB ?_ (by dsimp only; omega) (by dsimp only; omega) _)
    exact hst2
  have HB9 := Lib.hid S9.bel
  clear hst2
  refine line_alone rfl (by kernel_rfl) (fun K hK => ?_)
  go_big_op
  refine hK _ _ (S9) ?_
  clear hK K
  refine line_nil ?_
  clear inst qh0 qh1 qh2 qh3 qh4 qh5 Z2 S9
  go_wp2_with fail
  exact bodyPost_ret (v := .agg #[.int .i64 0, .int .i64 rd, .int .i64 p1, .int .i64 p2, .int .i64 x, .int .i64 y, .int .i64 f, .int .i64 u, .int .i64 d, .int .i64 he, .int .i64 p2]) (by simp [results, Tryz.results167, go_sem, zz0, zz1, zz2, zz3, zz4, zz5, zz6, zz7, zz8, zz9, zz10]) rfl ⟨rfl, HB9.out⟩
set_option maxHeartbeats 2000000 in
theorem l11Answer1_any (g : Nat) (q : Int) (i s rd : Int) (n : ByteArray) (r0 s0 : Int) (w : World) (A0 : At g (HL4 q r0 s0 n) w) (hi : inB i 1 1438 = true) (hs : inB s 1 1438 = true) (hr : M.sumB rd = true) (hh : helF n.data.toList r0 s0 = 0) :
    Calls Tryz.prog 167 #[.int .i64 i, .int .i64 s, .int .i64 rd, .pointer (some ⟨g, 1, none⟩)] w fun e w' => e = .returned (T11 (ansD i s rd n r0 s0)) ∧ Below w.heap.size w w' := by
  have g1 := kf11
  have hi' := hi
  have hs' := hs
  simp only [inB, decide_eq_true_eq] at hi' hs'
  obtain ⟨-, h0s, -⟩ := helF_zero hh
  have hsb := pub_bd h0s
  have K1 : ∀ w, Calls Tryz.prog 187 #[.int .i64 s] w fun r w' => r = .returned (I2 s (M.pubN s)) ∧ Below w.heap.size w w' := fun w => l1Key_any s w (by omega) (by omega)
  have K2 : ∀ w, Calls Tryz.prog 187 #[.int .i64 i] w fun r w' => r = .returned (I2 i (M.pubN i)) ∧ Below w.heap.size w w' := fun w => l1Key_any i w (by omega) (by omega)
  have H := fun h w A1 A2 => l6Heard1_any g h q n r0 s0 rd (M.pubN s) (M.pubN i) 0 0 0 w A1 A2 hh hr (pub_of hs) (pub_of hi)
  have hhe := heardL_sum [packH n r0 s0, frontR rd (M.pubN s) (M.pubN i)]
  have R1 := fun w => l1Raise_int s0 s w (by omega) (by omega) (by omega) (by omega)
  have hsh : M.sumB (M.pw s0 s.toNat 2879) = true := M.pow_sum _
  unfold ansD ansH heN shN
  generalize M.heardL [packH n r0 s0, frontR rd (M.pubN s) (M.pubN i)] = he at *
  generalize M.pw s0 s.toNat 2879 = sh at *
  have V := fun w => l11Verify_any he w hhe
  have G := fun w => l3Sign_any i (verN he) w hi (verN_sum he)
  have F := fun w => l11Finish_any sh he w hsh hhe
  have Y := fun w => l11Keys_any sh he (M.pubN i) w hsh hhe
  generalize M.sigPt i (verN he) = x at *
  generalize M.sigPr i (verN he) = y at *
  generalize verN he = vh at *
  generalize finN sh he = f at *
  generalize upN sh he = u at *
  generalize downN sh he = d at *
  generalize M.pubN s = p1 at *
  generalize M.pubN i = p2 at *
  have b0 := bal (Below.refl _ w) (.cells #[.int .i64 0, .int .i64 0, .int .i64 0, .int .i64 0, .int .i64 0, .int .i64 0, .int .i64 0, .int .i64 0, .int .i64 0, .int .i64 0, .int .i64 0] 112)
  have Z0 := At.new w [.int .i64 0, .int .i64 0, .int .i64 0, .int .i64 0, .int .i64 0, .int .i64 0, .int .i64 0, .int .i64 0, .int .i64 0, .int .i64 0, .int .i64 0] 112
  have A1 := A0.alloc (.cells #[.int .i64 0, .int .i64 0, .int .i64 0, .int .i64 0, .int .i64 0, .int .i64 0, .int .i64 0, .int .i64 0, .int .i64 0, .int .i64 0, .int .i64 0] 112)
  clear A0 hi hs hi' hs' hr hh h0s hsb hhe hsh
  go_enter Tryz.func167, Tryz.ntmps167
  go_wp2_with fail
  generalize w.alloc (.cells #[.int .i64 0, .int .i64 0, .int .i64 0, .int .i64 0, .int .i64 0, .int .i64 0, .int .i64 0, .int .i64 0, .int .i64 0, .int .i64 0, .int .i64 0] 112) = W0 at *
  refine (K1 _).mono ?_
  rintro e u1 ⟨rfl, b1⟩
  go_wp2_with fail
  refine (K2 _).mono ?_
  rintro e u2 ⟨rfl, b2⟩
  have b12 := btr b1 b2
  have ltz : w.heap.size < u2.heap.size := (Z0.on b12).lt (by simp)
  have ltg : g < u2.heap.size := (A1.on b12).lt (by simp)
  have b3 := bal b12 (.cells #[.int .i64 rd, .int .i64 p1, .int .i64 p2, .int .i64 0, .int .i64 0, .int .i64 0] 33)
  have X3 := At.new u2 [.int .i64 rd, .int .i64 p1, .int .i64 p2, .int .i64 0, .int .i64 0, .int .i64 0] 33
  have A3 := A1.on b3
  have Z3 := Z0.on b3
  have B3 := btr b0 b3
  clear b0 b1 b2 b12 b3 Z0 A1 K1 K2
  go_wp2_with fail
  generalize u2.alloc (.cells #[.int .i64 rd, .int .i64 p1, .int .i64 p2, .int .i64 0, .int .i64 0, .int .i64 0] 33) = W1 at *
  refine (H _ _ A3 X3).mono ?_
  rintro e u3 ⟨rfl, b4⟩
  have A4 := A3.on b4
  have X4 := X3.on b4
  have Z4 := Z3.on b4
  have B4 := btr B3 b4
  have aa0 := A4.cell 0 _ rfl
  have aa1 := A4.cell 1 _ rfl
  have aa2 := A4.cell 2 _ rfl
  have aa3 := A4.cell 3 _ rfl
  clear b4 A3 X3 Z3 B3 H
  go_wp2_with fail
  refine (R1 _).mono ?_
  rintro e u3' ⟨rfl, rfl⟩
  go_wp2_with fail
  refine (V _).mono ?_
  rintro e u4 ⟨rfl, b5⟩
  go_wp2_with fail
  refine (G _).mono ?_
  rintro e u5 ⟨rfl, b6⟩
  have b56 := btr b5 b6
  have X6 := X4.on b56
  have Z6 := Z4.on b56
  have B6 := btr B4 b56
  have kk0 := X6.cell 0 _ rfl
  have kk1 := X6.cell 1 _ rfl
  have kk2 := X6.cell 2 _ rfl
  have kk3 := X6.cell 3 _ rfl
  have kk4 := X6.cell 4 _ rfl
  have kk5 := X6.cell 5 _ rfl
  have ff0 := X6.free 0 _ rfl
  have ff1 := X6.free 1 _ rfl
  have ff2 := X6.free 2 _ rfl
  have ff3 := X6.free 3 _ rfl
  have ff4 := X6.free 4 _ rfl
  have ff5 := X6.free 5 _ rfl
  have X7 : At u2.heap.size [.int .i64 rd, .int .i64 p1, .int .i64 p2, .int .i64 x, .int .i64 y, .int .i64 0] ((u5.setCell ⟨u2.heap.size, 3, none⟩ (.int .i64 x)).setCell ⟨u2.heap.size, 4, none⟩ (.int .i64 y)) := (X6.set 3 (.int .i64 x)).set 4 (.int .i64 y)
  have Z7 := (Z6.setB (p := ⟨u2.heap.size, 3, none⟩) (by dsimp only; omega) (.int .i64 x)).setB (p := ⟨u2.heap.size, 4, none⟩) (by dsimp only; omega) (.int .i64 y)
  have B7 := bset (bset B6 (p := ⟨u2.heap.size, 3, none⟩) (by dsimp only; omega) (.int .i64 x)) (p := ⟨u2.heap.size, 4, none⟩) (by dsimp only; omega) (.int .i64 y)
  clear b5 b6 b56 A4 X4 Z4 B4 X6 Z6 B6 V G R1 aa0 aa1 aa2 aa3
  go_wp2_with fail
  generalize (u5.setCell ⟨u2.heap.size, 3, none⟩ (.int .i64 x)).setCell ⟨u2.heap.size, 4, none⟩ (.int .i64 y) = W7 at *
  clear kk0 kk1 kk2 kk3 kk4 kk5 ff0 ff1 ff2 ff3 ff4 ff5
  refine (F _).mono ?_
  rintro e u6 ⟨rfl, b8⟩
  have X8 := X7.on b8
  have Z8 := Z7.on b8
  have B8 := btr B7 b8
  have kk0 := X8.cell 0 _ rfl
  have kk1 := X8.cell 1 _ rfl
  have kk2 := X8.cell 2 _ rfl
  have kk3 := X8.cell 3 _ rfl
  have kk4 := X8.cell 4 _ rfl
  have kk5 := X8.cell 5 _ rfl
  have ff0 := X8.free 0 _ rfl
  have ff1 := X8.free 1 _ rfl
  have ff2 := X8.free 2 _ rfl
  have ff3 := X8.free 3 _ rfl
  have ff4 := X8.free 4 _ rfl
  have ff5 := X8.free 5 _ rfl
  have XX : At u2.heap.size [.int .i64 rd, .int .i64 p1, .int .i64 p2, .int .i64 x, .int .i64 y, .int .i64 f] (u6.setCell ⟨u2.heap.size, 5, none⟩ (.int .i64 f)) := X8.set 5 (.int .i64 f)
  have Z9 := Z8.setB (p := ⟨u2.heap.size, 5, none⟩) (by dsimp only; omega) (.int .i64 f)
  have B9 := bset B8 (p := ⟨u2.heap.size, 5, none⟩) (by dsimp only; omega) (.int .i64 f)
  clear b8 X7 X8 Z7 Z8 B7 B8 F
  go_wp2_with fail
  generalize u6.setCell ⟨u2.heap.size, 5, none⟩ (.int .i64 f) = W9 at *
  have S0 : Hold w (u2.heap.size) [.int .i64 rd, .int .i64 p1, .int .i64 p2, .int .i64 x, .int .i64 y, .int .i64 f] W9.drew := ⟨B9.drew, XX.on (bdrew _)⟩
  have ZZ := Z9.on (bdrew W9)
  refine wp_region_line (Hold w (u2.heap.size) [.int .i64 rd, .int .i64 p1, .int .i64 p2, .int .i64 x, .int .i64 y, .int .i64 f]) [(0, true), (1, true), (2, true), (3, true), (4, true), (5, false), (6, true), (7, false)] (by kernel_rfl) (by kernel_rfl) (fun _ _ d _ _ h => by cases d <;> exact h) S0 ?_
  have hst := S0
  have inst : Nonempty (Of (Hold w (u2.heap.size) [.int .i64 rd, .int .i64 p1, .int .i64 p2, .int .i64 x, .int .i64 y, .int .i64 f])) := ⟨⟨_, hst⟩⟩
  have qh0 := hold_cell (W := w) (g := u2.heap.size) (cs := [.int .i64 rd, .int .i64 p1, .int .i64 p2, .int .i64 x, .int .i64 y, .int .i64 f]) 0 _ rfl
  have qh1 := hold_cell (W := w) (g := u2.heap.size) (cs := [.int .i64 rd, .int .i64 p1, .int .i64 p2, .int .i64 x, .int .i64 y, .int .i64 f]) 1 _ rfl
  have qh2 := hold_cell (W := w) (g := u2.heap.size) (cs := [.int .i64 rd, .int .i64 p1, .int .i64 p2, .int .i64 x, .int .i64 y, .int .i64 f]) 2 _ rfl
  have qh3 := hold_cell (W := w) (g := u2.heap.size) (cs := [.int .i64 rd, .int .i64 p1, .int .i64 p2, .int .i64 x, .int .i64 y, .int .i64 f]) 3 _ rfl
  have qh4 := hold_cell (W := w) (g := u2.heap.size) (cs := [.int .i64 rd, .int .i64 p1, .int .i64 p2, .int .i64 x, .int .i64 y, .int .i64 f]) 4 _ rfl
  have qh5 := hold_cell (W := w) (g := u2.heap.size) (cs := [.int .i64 rd, .int .i64 p1, .int .i64 p2, .int .i64 x, .int .i64 y, .int .i64 f]) 5 _ rfl
  clear S0 XX Z9 B9 kk0 kk1 kk2 kk3 kk4 kk5 ff0 ff1 ff2 ff3 ff4 ff5
  generalize W9.drew = V1 at *
  iterate 5 (refine line_read rfl (by kernel_rfl) (fun K hK => ?_); go_big_quiet_op; refine hK _ ?_; clear hK K)
  refine line_alone rfl (by kernel_rfl) (fun K hK => ?_)
  refine call_any (args := #[.int .i64 sh, .int .i64 he, .int .i64 p2]) rfl (by kernel_rfl) (by kernel_rfl) (Y _) ?_
  rintro e wn ⟨rfl, hbn⟩
  have hst2 := hst.on hbn
  have Z2 := ZZ.on hbn
  refine ⟨_, rfl, hK _ _ hst2 ?_⟩
  clear hK K hst hbn ZZ
  simp only [Act.put, List.setIfInBounds_toArray, List.set_cons_zero, List.set_cons_succ]
  refine line_readv (v := .agg #[.int .i64 0, .int .i64 rd, .int .i64 p1, .int .i64 p2, .int .i64 x, .int .i64 y, .int .i64 f, .int .i64 u, .int .i64 d, .int .i64 he, .int .i64 p2]) rfl (by kernel_rfl) (fun _ => by kernel_rfl) ?_
  simp only [Act.put, List.setIfInBounds_toArray, List.set_cons_zero, List.set_cons_succ]
  have zz0 := Z2.cell 0 _ rfl
  have zz1 := Z2.cell 1 _ rfl
  have zz2 := Z2.cell 2 _ rfl
  have zz3 := Z2.cell 3 _ rfl
  have zz4 := Z2.cell 4 _ rfl
  have zz5 := Z2.cell 5 _ rfl
  have zz6 := Z2.cell 6 _ rfl
  have zz7 := Z2.cell 7 _ rfl
  have zz8 := Z2.cell 8 _ rfl
  have zz9 := Z2.cell 9 _ rfl
  have zz10 := Z2.cell 10 _ rfl
  have hh0 := Z2.free 0 _ rfl
  have hh1 := Z2.free 1 _ rfl
  have hh2 := Z2.free 2 _ rfl
  have hh3 := Z2.free 3 _ rfl
  have hh4 := Z2.free 4 _ rfl
  have hh5 := Z2.free 5 _ rfl
  have hh6 := Z2.free 6 _ rfl
  have hh7 := Z2.free 7 _ rfl
  have hh8 := Z2.free 8 _ rfl
  have hh9 := Z2.free 9 _ rfl
  have hh10 := Z2.free 10 _ rfl
  have S9 : Hold w (u2.heap.size) [.int .i64 rd, .int .i64 p1, .int .i64 p2, .int .i64 x, .int .i64 y, .int .i64 f] (((((((((((wn.setCell ⟨w.heap.size, 0, none⟩ (.int .i64 0)).setCell ⟨w.heap.size, 1, none⟩ (.int .i64 rd)).setCell ⟨w.heap.size, 2, none⟩ (.int .i64 p1)).setCell ⟨w.heap.size, 3, none⟩ (.int .i64 p2)).setCell ⟨w.heap.size, 4, none⟩ (.int .i64 x)).setCell ⟨w.heap.size, 5, none⟩ (.int .i64 y)).setCell ⟨w.heap.size, 6, none⟩ (.int .i64 f)).setCell ⟨w.heap.size, 7, none⟩ (.int .i64 u)).setCell ⟨w.heap.size, 8, none⟩ (.int .i64 d)).setCell ⟨w.heap.size, 9, none⟩ (.int .i64 he)).setCell ⟨w.heap.size, 10, none⟩ (.int .i64 p2)) := by
    iterate 11 (refine Hold.setB ?_ (by dsimp only; omega) (by dsimp only; omega) _)
    exact hst2
  have HB9 := Lib.hid S9.bel
  clear hst2
  refine line_alone rfl (by kernel_rfl) (fun K hK => ?_)
  go_big_op
  refine hK _ _ (S9) ?_
  clear hK K
  refine line_nil ?_
  clear inst qh0 qh1 qh2 qh3 qh4 qh5 Z2 S9
  go_wp2_with fail
  exact bodyPost_ret (v := .agg #[.int .i64 0, .int .i64 rd, .int .i64 p1, .int .i64 p2, .int .i64 x, .int .i64 y, .int .i64 f, .int .i64 u, .int .i64 d, .int .i64 he, .int .i64 p2]) (by simp [results, Tryz.results167, go_sem, zz0, zz1, zz2, zz3, zz4, zz5, zz6, zz7, zz8, zz9, zz10]) rfl ⟨rfl, HB9.out⟩
theorem specAnswerHello_any (i s rd r0 s0 : Int) (n : ByteArray) (w : World) (hn : n.size ≤ maxLen) :
    Calls Tryz.prog 63 #[.int .i64 i, .int .i64 s, .int .i64 rd, H3 r0 s0 n] w fun e w' => e = .returned (T11 (ansT i s rd n r0 s0)) ∧ Below w.heap.size w w' := by
  have b0 := bal (bal (Below.refl _ w) (.cells #[.int .i64 r0, .int .i64 s0, .string n] 26)) (.cells #[.int .i64 0, .int .i64 0, .int .i64 0, .int .i64 0, .int .i64 0, .int .i64 0, .int .i64 0, .int .i64 0, .int .i64 0, .int .i64 0, .int .i64 0] 112)
  have A0 := (At.new w (HL3 r0 s0 n) 26).alloc (.cells #[.int .i64 0, .int .i64 0, .int .i64 0, .int .i64 0, .int .i64 0, .int .i64 0, .int .i64 0, .int .i64 0, .int .i64 0, .int .i64 0, .int .i64 0] 112)
  have Z0 := At.new (w.alloc (.cells #[.int .i64 r0, .int .i64 s0, .string n] 26)) [.int .i64 0, .int .i64 0, .int .i64 0, .int .i64 0, .int .i64 0, .int .i64 0, .int .i64 0, .int .i64 0, .int .i64 0, .int .i64 0, .int .i64 0] 112
  simp only [World.size_alloc] at A0 Z0
  have F := fun g w A => l6Hello_any g r0 s0 n w A hn
  cases hi : inB i 1 1438
  · rw [ansT_no (show ansB i s rd = false by simp [ansB, hi])]
    go_enter Tryz.func63, Tryz.ntmps63
    go_wp2_with fail
    generalize (w.alloc (.cells #[.int .i64 r0, .int .i64 s0, .string n] 26)).alloc (.cells #[.int .i64 0, .int .i64 0, .int .i64 0, .int .i64 0, .int .i64 0, .int .i64 0, .int .i64 0, .int .i64 0, .int .i64 0, .int .i64 0, .int .i64 0] 112) = W0 at *
    refine (l1Secret_any _ _).mono ?_
    rintro e w' ⟨rfl, rfl⟩
    have q0 := (Z0).cell 0 _ rfl
    have q1 := (Z0).cell 1 _ rfl
    have q2 := (Z0).cell 2 _ rfl
    have q3 := (Z0).cell 3 _ rfl
    have q4 := (Z0).cell 4 _ rfl
    have q5 := (Z0).cell 5 _ rfl
    have q6 := (Z0).cell 6 _ rfl
    have q7 := (Z0).cell 7 _ rfl
    have q8 := (Z0).cell 8 _ rfl
    have q9 := (Z0).cell 9 _ rfl
    have q10 := (Z0).cell 10 _ rfl
    have z0 := (Z0).free 0 _ rfl
    have z1 := (Z0).free 1 _ rfl
    have z2 := (Z0).free 2 _ rfl
    have z3 := (Z0).free 3 _ rfl
    have z4 := (Z0).free 4 _ rfl
    have z5 := (Z0).free 5 _ rfl
    have z6 := (Z0).free 6 _ rfl
    have z7 := (Z0).free 7 _ rfl
    have z8 := (Z0).free 8 _ rfl
    have z9 := (Z0).free 9 _ rfl
    have z10 := (Z0).free 10 _ rfl
    have HB := Lib.hid (b0)
    clear A0 Z0 b0 F
    go_wp2_with fail
    refine bodyPost_ret (v := .agg #[.int .i64 3, .int .i64 0, .int .i64 0, .int .i64 0, .int .i64 0, .int .i64 0, .int .i64 0, .int .i64 0, .int .i64 0, .int .i64 0, .int .i64 0]) (by simp [results, Tryz.results63, go_sem, q0, q1, q2, q3, q4, q5, q6, q7, q8, q9, q10]) rfl ⟨rfl, ?_⟩
    exact (by (iterate 11 (refine bset ?_ (by dsimp only; omega) _)); exact HB.out)
  cases hs : inB s 1 1438
  · rw [ansT_no (show ansB i s rd = false by simp [ansB, hs])]
    go_enter Tryz.func63, Tryz.ntmps63
    go_wp2_with fail
    generalize (w.alloc (.cells #[.int .i64 r0, .int .i64 s0, .string n] 26)).alloc (.cells #[.int .i64 0, .int .i64 0, .int .i64 0, .int .i64 0, .int .i64 0, .int .i64 0, .int .i64 0, .int .i64 0, .int .i64 0, .int .i64 0, .int .i64 0] 112) = W0 at *
    refine (l1Secret_any _ _).mono ?_
    rintro e w' ⟨rfl, rfl⟩
    go_wp2_with fail
    refine (l1Secret_any _ _).mono ?_
    rintro r w' ⟨rfl, rfl⟩
    have q0 := (Z0).cell 0 _ rfl
    have q1 := (Z0).cell 1 _ rfl
    have q2 := (Z0).cell 2 _ rfl
    have q3 := (Z0).cell 3 _ rfl
    have q4 := (Z0).cell 4 _ rfl
    have q5 := (Z0).cell 5 _ rfl
    have q6 := (Z0).cell 6 _ rfl
    have q7 := (Z0).cell 7 _ rfl
    have q8 := (Z0).cell 8 _ rfl
    have q9 := (Z0).cell 9 _ rfl
    have q10 := (Z0).cell 10 _ rfl
    have z0 := (Z0).free 0 _ rfl
    have z1 := (Z0).free 1 _ rfl
    have z2 := (Z0).free 2 _ rfl
    have z3 := (Z0).free 3 _ rfl
    have z4 := (Z0).free 4 _ rfl
    have z5 := (Z0).free 5 _ rfl
    have z6 := (Z0).free 6 _ rfl
    have z7 := (Z0).free 7 _ rfl
    have z8 := (Z0).free 8 _ rfl
    have z9 := (Z0).free 9 _ rfl
    have z10 := (Z0).free 10 _ rfl
    have HB := Lib.hid (b0)
    clear A0 Z0 b0 F
    go_wp2_with fail
    refine bodyPost_ret (v := .agg #[.int .i64 3, .int .i64 0, .int .i64 0, .int .i64 0, .int .i64 0, .int .i64 0, .int .i64 0, .int .i64 0, .int .i64 0, .int .i64 0, .int .i64 0]) (by simp [results, Tryz.results63, go_sem, q0, q1, q2, q3, q4, q5, q6, q7, q8, q9, q10]) rfl ⟨rfl, ?_⟩
    exact (by (iterate 11 (refine bset ?_ (by dsimp only; omega) _)); exact HB.out)
  cases hr : M.sumB rd
  · rw [ansT_no (show ansB i s rd = false by simp [ansB, hr])]
    go_enter Tryz.func63, Tryz.ntmps63
    go_wp2_with fail
    generalize (w.alloc (.cells #[.int .i64 r0, .int .i64 s0, .string n] 26)).alloc (.cells #[.int .i64 0, .int .i64 0, .int .i64 0, .int .i64 0, .int .i64 0, .int .i64 0, .int .i64 0, .int .i64 0, .int .i64 0, .int .i64 0, .int .i64 0] 112) = W0 at *
    refine (l1Secret_any _ _).mono ?_
    rintro e w' ⟨rfl, rfl⟩
    go_wp2_with fail
    refine (l1Secret_any _ _).mono ?_
    rintro r w' ⟨rfl, rfl⟩
    go_wp2_with fail
    refine (l2Is_any _ _).mono ?_
    rintro r w' ⟨rfl, rfl⟩
    have q0 := (Z0).cell 0 _ rfl
    have q1 := (Z0).cell 1 _ rfl
    have q2 := (Z0).cell 2 _ rfl
    have q3 := (Z0).cell 3 _ rfl
    have q4 := (Z0).cell 4 _ rfl
    have q5 := (Z0).cell 5 _ rfl
    have q6 := (Z0).cell 6 _ rfl
    have q7 := (Z0).cell 7 _ rfl
    have q8 := (Z0).cell 8 _ rfl
    have q9 := (Z0).cell 9 _ rfl
    have q10 := (Z0).cell 10 _ rfl
    have z0 := (Z0).free 0 _ rfl
    have z1 := (Z0).free 1 _ rfl
    have z2 := (Z0).free 2 _ rfl
    have z3 := (Z0).free 3 _ rfl
    have z4 := (Z0).free 4 _ rfl
    have z5 := (Z0).free 5 _ rfl
    have z6 := (Z0).free 6 _ rfl
    have z7 := (Z0).free 7 _ rfl
    have z8 := (Z0).free 8 _ rfl
    have z9 := (Z0).free 9 _ rfl
    have z10 := (Z0).free 10 _ rfl
    have HB := Lib.hid (b0)
    clear A0 Z0 b0 F
    go_wp2_with fail
    refine bodyPost_ret (v := .agg #[.int .i64 3, .int .i64 0, .int .i64 0, .int .i64 0, .int .i64 0, .int .i64 0, .int .i64 0, .int .i64 0, .int .i64 0, .int .i64 0, .int .i64 0]) (by simp [results, Tryz.results63, go_sem, q0, q1, q2, q3, q4, q5, q6, q7, q8, q9, q10]) rfl ⟨rfl, ?_⟩
    exact (by (iterate 11 (refine bset ?_ (by dsimp only; omega) _)); exact HB.out)
  have hB : ansB i s rd = true := by simp [ansB, hi, hs, hr]
  by_cases h0 : helF n.data.toList r0 s0 = 0
  · rw [ansT_yes hB h0]
    have AN := fun g w A => l11Answer0_any g i s rd n r0 s0 w A hi hs hr h0
    rw [h0] at F
    generalize ansD i s rd n r0 s0 = t at *
    obtain ⟨tc, tr, ts, tp, tx, ty, tf, tu, td, th, tk⟩ := t
    clear hB h0
    go_enter Tryz.func63, Tryz.ntmps63
    go_wp2_with fail
    generalize (w.alloc (.cells #[.int .i64 r0, .int .i64 s0, .string n] 26)).alloc (.cells #[.int .i64 0, .int .i64 0, .int .i64 0, .int .i64 0, .int .i64 0, .int .i64 0, .int .i64 0, .int .i64 0, .int .i64 0, .int .i64 0, .int .i64 0] 112) = W0 at *
    refine (l1Secret_any _ _).mono ?_
    rintro e w' ⟨rfl, rfl⟩
    go_wp2_with fail
    refine (l1Secret_any _ _).mono ?_
    rintro r w' ⟨rfl, rfl⟩
    go_wp2_with fail
    refine (l2Is_any _ _).mono ?_
    rintro r w' ⟨rfl, rfl⟩
    go_wp2_with fail
    refine (F _ _ A0).mono ?_
    rintro e u1 ⟨rfl, b1⟩
    go_wp2_with fail
    refine (AN _ _ (A0.on b1)).mono ?_
    rintro e u2 ⟨rfl, b2⟩
    have b12 := btr b1 b2
    have q0 := (Z0.on b12).cell 0 _ rfl
    have q1 := (Z0.on b12).cell 1 _ rfl
    have q2 := (Z0.on b12).cell 2 _ rfl
    have q3 := (Z0.on b12).cell 3 _ rfl
    have q4 := (Z0.on b12).cell 4 _ rfl
    have q5 := (Z0.on b12).cell 5 _ rfl
    have q6 := (Z0.on b12).cell 6 _ rfl
    have q7 := (Z0.on b12).cell 7 _ rfl
    have q8 := (Z0.on b12).cell 8 _ rfl
    have q9 := (Z0.on b12).cell 9 _ rfl
    have q10 := (Z0.on b12).cell 10 _ rfl
    have z0 := (Z0.on b12).free 0 _ rfl
    have z1 := (Z0.on b12).free 1 _ rfl
    have z2 := (Z0.on b12).free 2 _ rfl
    have z3 := (Z0.on b12).free 3 _ rfl
    have z4 := (Z0.on b12).free 4 _ rfl
    have z5 := (Z0.on b12).free 5 _ rfl
    have z6 := (Z0.on b12).free 6 _ rfl
    have z7 := (Z0.on b12).free 7 _ rfl
    have z8 := (Z0.on b12).free 8 _ rfl
    have z9 := (Z0.on b12).free 9 _ rfl
    have z10 := (Z0.on b12).free 10 _ rfl
    have HB := Lib.hid (btr b0 b12)
    clear A0 Z0 b0 b1 b2 b12 F AN
    go_wp2_with fail
    refine bodyPost_ret (v := .agg #[.int .i64 tc, .int .i64 tr, .int .i64 ts, .int .i64 tp, .int .i64 tx, .int .i64 ty, .int .i64 tf, .int .i64 tu, .int .i64 td, .int .i64 th, .int .i64 tk]) (by simp [results, Tryz.results63, go_sem, q0, q1, q2, q3, q4, q5, q6, q7, q8, q9, q10]) rfl ⟨rfl, ?_⟩
    exact (by (iterate 11 (refine bset ?_ (by dsimp only; omega) _)); exact HB.out)
  · rw [ansT_hel hB h0]
    have e3 : (helF n.data.toList r0 s0 != 0) = true := by simpa using h0
    generalize helF n.data.toList r0 s0 = c at *
    clear hB
    go_enter Tryz.func63, Tryz.ntmps63
    go_wp2_with fail
    generalize (w.alloc (.cells #[.int .i64 r0, .int .i64 s0, .string n] 26)).alloc (.cells #[.int .i64 0, .int .i64 0, .int .i64 0, .int .i64 0, .int .i64 0, .int .i64 0, .int .i64 0, .int .i64 0, .int .i64 0, .int .i64 0, .int .i64 0] 112) = W0 at *
    refine (l1Secret_any _ _).mono ?_
    rintro e w' ⟨rfl, rfl⟩
    go_wp2_with fail
    refine (l1Secret_any _ _).mono ?_
    rintro r w' ⟨rfl, rfl⟩
    go_wp2_with fail
    refine (l2Is_any _ _).mono ?_
    rintro r w' ⟨rfl, rfl⟩
    go_wp2_with fail
    refine (F _ _ A0).mono ?_
    rintro e u1 ⟨rfl, b1⟩
    have q0 := (Z0.on b1).cell 0 _ rfl
    have q1 := (Z0.on b1).cell 1 _ rfl
    have q2 := (Z0.on b1).cell 2 _ rfl
    have q3 := (Z0.on b1).cell 3 _ rfl
    have q4 := (Z0.on b1).cell 4 _ rfl
    have q5 := (Z0.on b1).cell 5 _ rfl
    have q6 := (Z0.on b1).cell 6 _ rfl
    have q7 := (Z0.on b1).cell 7 _ rfl
    have q8 := (Z0.on b1).cell 8 _ rfl
    have q9 := (Z0.on b1).cell 9 _ rfl
    have q10 := (Z0.on b1).cell 10 _ rfl
    have z0 := (Z0.on b1).free 0 _ rfl
    have z1 := (Z0.on b1).free 1 _ rfl
    have z2 := (Z0.on b1).free 2 _ rfl
    have z3 := (Z0.on b1).free 3 _ rfl
    have z4 := (Z0.on b1).free 4 _ rfl
    have z5 := (Z0.on b1).free 5 _ rfl
    have z6 := (Z0.on b1).free 6 _ rfl
    have z7 := (Z0.on b1).free 7 _ rfl
    have z8 := (Z0.on b1).free 8 _ rfl
    have z9 := (Z0.on b1).free 9 _ rfl
    have z10 := (Z0.on b1).free 10 _ rfl
    have HB := Lib.hid (btr b0 b1)
    clear A0 Z0 b0 b1 F
    go_wp2_with fail
    refine bodyPost_ret (v := .agg #[.int .i64 c, .int .i64 0, .int .i64 0, .int .i64 0, .int .i64 0, .int .i64 0, .int .i64 0, .int .i64 0, .int .i64 0, .int .i64 0, .int .i64 0]) (by simp [results, Tryz.results63, go_sem, q0, q1, q2, q3, q4, q5, q6, q7, q8, q9, q10]) rfl ⟨rfl, ?_⟩
    exact (by (iterate 11 (refine bset ?_ (by dsimp only; omega) _)); exact HB.out)
set_option maxHeartbeats 2000000 in
theorem l11Take_any (g h : Nat) (k r0 s0 : Int) (n : ByteArray) (r s p x y f : Int) (w : World) (A0 : At g (HL4 k r0 s0 n) w) (C0 : At h (RL6 r s p x y f) w) (hc : cliF k r0 s0 n = 0) (hr : repF r s p x y f = 0) :
    Calls Tryz.prog 178 #[.pointer (some ⟨g, 0, none⟩), .pointer (some ⟨h, 0, none⟩)] w fun e w' => e = .returned (T11 (takT k r0 s0 n r s p x y f)) ∧ Below w.heap.size w w' := by
  obtain ⟨c1, c2, -⟩ := cliF_zero hc
  obtain ⟨q1, q2, q3, -, -⟩ := repF_zero hr
  have hk' := c1
  simp only [inB, decide_eq_true_eq] at hk'
  have hsb := pub_bd q2
  have H := fun g h w A1 A2 => l6Heard1_any g h k n r0 s0 r s p x y f w A1 A2 c2 q1 q2 q3
  have hhe : M.sumB (heN n r0 s0 r s p) = true := heardL_sum _
  have R1 : ∀ w, Calls Tryz.prog 251 #[.int .i64 s, .int .i64 k] w fun e w' => e = .returned (.int .i64 (shN k s)) ∧ w = w' := fun w => l1Raise_int s k w (by omega) (by omega) (by omega) (by omega)
  have hsh : M.sumB (shN k s) = true := M.pow_sum _
  rw [show M.heardL [packH n r0 s0, frontR r s p] = heN n r0 s0 r s p from rfl] at H
  have T0 := takC_sign (x := x) (y := y) (f := f) hc hr
  have T1 := takC_fin (x := x) (y := y) (f := f) hc hr
  have T2 := takC_yes (x := x) (y := y) (f := f) hc hr
  have T3 := takT_no (k := k) (r0 := r0) (s0 := s0) (n := n) (r := r) (s := s) (p := p) (x := x) (y := y) (f := f)
  have T4 := takT_yes (k := k) (r0 := r0) (s0 := s0) (n := n) (r := r) (s := s) (p := p) (x := x) (y := y) (f := f)
  unfold takK at T4
  generalize takT k r0 s0 n r s p x y f = tt at *
  generalize takC k r0 s0 n r s p x y f = tc at *
  generalize heN n r0 s0 r s p = he at *
  generalize shN k s = sh at *
  have V := fun w => l11Verify_any he w hhe
  have G := fun w d3 d4 => l3Check_at p (verN he) h 3 x y w d3 d4
  have F := fun w => l11Finish_any sh he w hsh hhe
  have Y := fun w => l11Keys_any sh he p w hsh hhe
  generalize hck : M.checkB p (verN he) x y = ck at *
  generalize verN he = vh at *
  generalize finN sh he = fv at *
  generalize upN sh he = u at *
  generalize downN sh he = d at *
  have b0 := bal (Below.refl _ w) (.cells #[.int .i64 0, .int .i64 0, .int .i64 0, .int .i64 0, .int .i64 0, .int .i64 0, .int .i64 0, .int .i64 0, .int .i64 0, .int .i64 0, .int .i64 0] 112)
  have Z0 := At.new w [.int .i64 0, .int .i64 0, .int .i64 0, .int .i64 0, .int .i64 0, .int .i64 0, .int .i64 0, .int .i64 0, .int .i64 0, .int .i64 0, .int .i64 0] 112
  have A1 := A0.alloc (.cells #[.int .i64 0, .int .i64 0, .int .i64 0, .int .i64 0, .int .i64 0, .int .i64 0, .int .i64 0, .int .i64 0, .int .i64 0, .int .i64 0, .int .i64 0] 112)
  have C1 := C0.alloc (.cells #[.int .i64 0, .int .i64 0, .int .i64 0, .int .i64 0, .int .i64 0, .int .i64 0, .int .i64 0, .int .i64 0, .int .i64 0, .int .i64 0, .int .i64 0] 112)
  have ltg := A0.lt (by simp)
  have lth := C0.lt (by simp)
  clear A0 C0 c1 c2 q1 q2 q3 hk' hsb hhe hsh hck hc hr
  cases ck
  · have e0 := T0 rfl
    have e1 := T3 (by rw [e0]; omega)
    rw [e1, e0]
    clear T0 T1 T2 T3 T4 e0 e1
    go_enter Tryz.func178, Tryz.ntmps178
    go_wp2_with fail
    generalize w.alloc (.cells #[.int .i64 0, .int .i64 0, .int .i64 0, .int .i64 0, .int .i64 0, .int .i64 0, .int .i64 0, .int .i64 0, .int .i64 0, .int .i64 0, .int .i64 0] 112) = W0 at *
    refine (H _ _ _ A1 C1).mono ?_
    rintro e u1 ⟨rfl, b1⟩
    have A2 := A1.on b1
    have C2 := C1.on b1
    have Z2 := Z0.on b1
    have B2 := btr b0 b1
    clear b0 b1 A1 C1 Z0 H
    have cc0 := C2.cell 0 _ rfl
    have cc1 := C2.cell 1 _ rfl
    have cc2 := C2.cell 2 _ rfl
    have cc3 := C2.cell 3 _ rfl
    have cc4 := C2.cell 4 _ rfl
    have cc5 := C2.cell 5 _ rfl
    go_wp2_with fail
    refine wp_region_line (Bel u1) [(0, true), (1, true), (2, true), (3, true), (4, true), (6, true), (7, true), (8, true), (5, false), (9, false), (10, true)] (by kernel_rfl) (by kernel_rfl) (fun _ _ d _ _ h => by cases d <;> exact h) (Bel.drew u1) ?_
    have hst := Bel.drew u1
    have inst : Nonempty (Of (Bel u1)) := ⟨⟨_, hst⟩⟩
    have qc2 := bel_cell cc2
    have C3 := C2.on (bdrew u1)
    have Z3 := Z2.on (bdrew u1)
    have A3 := A2.on (bdrew u1)
    have B3 := btr B2 (bdrew u1)
    clear A2 C2 Z2 B2 cc0 cc1 cc2 cc3 cc4 cc5
    generalize u1.drew = V0 at *
    iterate 8 (refine line_read rfl (by kernel_rfl) (fun K hK => ?_); go_big_quiet_op; refine hK _ ?_; clear hK K)
    refine line_alone rfl (by kernel_rfl) (fun K hK => ?_)
    refine call_any (args := #[.int .i64 he]) rfl (by kernel_rfl) (by kernel_rfl) (V _) ?_
    rintro e u2 ⟨rfl, be⟩
    have hst2 := hst.on be
    have A4 := A3.on be
    have C4 := C3.on be
    have Z4 := Z3.on be
    have B4 := btr B3 be
    refine ⟨_, rfl, hK _ _ hst2 ?_⟩
    clear hK K hst be A3 C3 Z3 B3 V
    simp only [Act.put, List.setIfInBounds_toArray, List.set_cons_zero, List.set_cons_succ]
    refine line_alone rfl (by kernel_rfl) (fun K hK => ?_)
    refine call_any (args := #[.int .i64 p, .int .i64 vh, .pointer (some ⟨h, 3, none⟩)]) rfl (by kernel_rfl) (by kernel_rfl) (G _ (C4.cell 3 _ rfl) (C4.cell 4 _ rfl)) ?_
    rintro e u3 ⟨rfl, be⟩
    have hst3 := hst2.on be
    have A5 := A4.on be
    have C5 := C4.on be
    have Z5 := Z4.on be
    have B5 := btr B4 be
    refine ⟨_, rfl, hK _ _ hst3 ?_⟩
    clear hK K hst2 be A4 C4 Z4 B4 G
    simp only [Act.put, List.setIfInBounds_toArray, List.set_cons_zero, List.set_cons_succ]
    iterate 1 (refine line_read rfl (by kernel_rfl) (fun K hK => ?_); go_big_quiet_op; refine hK _ ?_; clear hK K)
    refine line_nil ?_
    clear hst3 inst
    have q0 := (Z5).cell 0 _ rfl
    have q1 := (Z5).cell 1 _ rfl
    have q2 := (Z5).cell 2 _ rfl
    have q3 := (Z5).cell 3 _ rfl
    have q4 := (Z5).cell 4 _ rfl
    have q5 := (Z5).cell 5 _ rfl
    have q6 := (Z5).cell 6 _ rfl
    have q7 := (Z5).cell 7 _ rfl
    have q8 := (Z5).cell 8 _ rfl
    have q9 := (Z5).cell 9 _ rfl
    have q10 := (Z5).cell 10 _ rfl
    have z0 := (Z5).free 0 _ rfl
    have z1 := (Z5).free 1 _ rfl
    have z2 := (Z5).free 2 _ rfl
    have z3 := (Z5).free 3 _ rfl
    have z4 := (Z5).free 4 _ rfl
    have z5 := (Z5).free 5 _ rfl
    have z6 := (Z5).free 6 _ rfl
    have z7 := (Z5).free 7 _ rfl
    have z8 := (Z5).free 8 _ rfl
    have z9 := (Z5).free 9 _ rfl
    have z10 := (Z5).free 10 _ rfl
    have HB := Lib.hid (B5)
    clear A5 C5 Z5 B5 R1 F Y
    go_wp2_with fail
    refine bodyPost_ret (v := .agg #[.int .i64 9, .int .i64 0, .int .i64 0, .int .i64 0, .int .i64 0, .int .i64 0, .int .i64 0, .int .i64 0, .int .i64 0, .int .i64 0, .int .i64 0]) (by simp [results, Tryz.results178, go_sem, q0, q1, q2, q3, q4, q5, q6, q7, q8, q9, q10]) rfl ⟨rfl, ?_⟩
    exact (by (iterate 11 (refine bset ?_ (by dsimp only; omega) _)); exact HB.out)
  by_cases h4 : f = fv
  · have e0 := T2 rfl h4
    rw [T4 e0]
    have e3 : (f != fv) = false := by simpa using h4
    have e4 : decide (f = fv) = true := by simpa using h4
    have e5 : (f == fv) = true := by simpa using h4
    clear T0 T1 T2 T3 T4 e0 h4
    go_enter Tryz.func178, Tryz.ntmps178
    go_wp2_with fail
    generalize w.alloc (.cells #[.int .i64 0, .int .i64 0, .int .i64 0, .int .i64 0, .int .i64 0, .int .i64 0, .int .i64 0, .int .i64 0, .int .i64 0, .int .i64 0, .int .i64 0] 112) = W0 at *
    refine (H _ _ _ A1 C1).mono ?_
    rintro e u1 ⟨rfl, b1⟩
    have A2 := A1.on b1
    have C2 := C1.on b1
    have Z2 := Z0.on b1
    have B2 := btr b0 b1
    clear b0 b1 A1 C1 Z0 H
    have cc0 := C2.cell 0 _ rfl
    have cc1 := C2.cell 1 _ rfl
    have cc2 := C2.cell 2 _ rfl
    have cc3 := C2.cell 3 _ rfl
    have cc4 := C2.cell 4 _ rfl
    have cc5 := C2.cell 5 _ rfl
    go_wp2_with fail
    refine wp_region_line (Bel u1) [(0, true), (1, true), (2, true), (3, true), (4, true), (6, true), (7, true), (8, true), (5, false), (9, false), (10, true)] (by kernel_rfl) (by kernel_rfl) (fun _ _ d _ _ h => by cases d <;> exact h) (Bel.drew u1) ?_
    have hst := Bel.drew u1
    have inst : Nonempty (Of (Bel u1)) := ⟨⟨_, hst⟩⟩
    have qc2 := bel_cell cc2
    have C3 := C2.on (bdrew u1)
    have Z3 := Z2.on (bdrew u1)
    have A3 := A2.on (bdrew u1)
    have B3 := btr B2 (bdrew u1)
    clear A2 C2 Z2 B2 cc0 cc1 cc2 cc3 cc4 cc5
    generalize u1.drew = V0 at *
    iterate 8 (refine line_read rfl (by kernel_rfl) (fun K hK => ?_); go_big_quiet_op; refine hK _ ?_; clear hK K)
    refine line_alone rfl (by kernel_rfl) (fun K hK => ?_)
    refine call_any (args := #[.int .i64 he]) rfl (by kernel_rfl) (by kernel_rfl) (V _) ?_
    rintro e u2 ⟨rfl, be⟩
    have hst2 := hst.on be
    have A4 := A3.on be
    have C4 := C3.on be
    have Z4 := Z3.on be
    have B4 := btr B3 be
    refine ⟨_, rfl, hK _ _ hst2 ?_⟩
    clear hK K hst be A3 C3 Z3 B3 V
    simp only [Act.put, List.setIfInBounds_toArray, List.set_cons_zero, List.set_cons_succ]
    refine line_alone rfl (by kernel_rfl) (fun K hK => ?_)
    refine call_any (args := #[.int .i64 p, .int .i64 vh, .pointer (some ⟨h, 3, none⟩)]) rfl (by kernel_rfl) (by kernel_rfl) (G _ (C4.cell 3 _ rfl) (C4.cell 4 _ rfl)) ?_
    rintro e u3 ⟨rfl, be⟩
    have hst3 := hst2.on be
    have A5 := A4.on be
    have C5 := C4.on be
    have Z5 := Z4.on be
    have B5 := btr B4 be
    refine ⟨_, rfl, hK _ _ hst3 ?_⟩
    clear hK K hst2 be A4 C4 Z4 B4 G
    simp only [Act.put, List.setIfInBounds_toArray, List.set_cons_zero, List.set_cons_succ]
    iterate 1 (refine line_read rfl (by kernel_rfl) (fun K hK => ?_); go_big_quiet_op; refine hK _ ?_; clear hK K)
    refine line_nil ?_
    clear hst3 inst
    have aa0 := A5.cell 0 _ rfl
    have aa1 := A5.cell 1 _ rfl
    have aa2 := A5.cell 2 _ rfl
    have aa3 := A5.cell 3 _ rfl
    have cc0 := C5.cell 0 _ rfl
    have cc1 := C5.cell 1 _ rfl
    have cc2 := C5.cell 2 _ rfl
    have cc3 := C5.cell 3 _ rfl
    have cc4 := C5.cell 4 _ rfl
    have cc5 := C5.cell 5 _ rfl
    go_wp2_with fail
    refine wp_region_line (Bel u3) [(0, true), (1, true), (2, true), (3, true), (4, true), (5, true), (6, true), (7, true), (8, false), (9, true)] (by kernel_rfl) (by kernel_rfl) (fun _ _ d _ _ h => by cases d <;> exact h) (Bel.drew u3) ?_
    have hst := Bel.drew u3
    have inst : Nonempty (Of (Bel u3)) := ⟨⟨_, hst⟩⟩
    have qa0 := bel_cell aa0
    have qc1 := bel_cell cc1
    have C6 := C5.on (bdrew u3)
    have Z6 := Z5.on (bdrew u3)
    have B6 := btr B5 (bdrew u3)
    clear A5 C5 Z5 B5 aa0 aa1 aa2 aa3 cc0 cc1 cc2 cc3 cc4 cc5
    generalize u3.drew = V2 at *
    iterate 8 (refine line_read rfl (by kernel_rfl) (fun K hK => ?_); go_big_quiet_op; refine hK _ ?_; clear hK K)
    refine line_alone rfl (by kernel_rfl) (fun K hK => ?_)
    refine call_wp (args := #[.int .i64 s, .int .i64 k]) rfl (by kernel_rfl) (by kernel_rfl) (R1 _) (fun wn hbn => ?_)
    subst hbn
    refine hK _ _ hst ?_
    clear hK K
    simp only [Act.put, List.setIfInBounds_toArray, List.set_cons_zero, List.set_cons_succ]
    iterate 1 (refine line_read rfl (by kernel_rfl) (fun K hK => ?_); go_big_quiet_op; refine hK _ ?_; clear hK K)
    refine line_nil ?_
    clear hst inst
    have cc0 := C6.cell 0 _ rfl
    have cc1 := C6.cell 1 _ rfl
    have cc2 := C6.cell 2 _ rfl
    have cc3 := C6.cell 3 _ rfl
    have cc4 := C6.cell 4 _ rfl
    have cc5 := C6.cell 5 _ rfl
    go_wp2_with fail
    refine wp_region_line (Bel V2) [(0, true), (1, true), (2, true), (3, true), (4, true), (5, true), (6, false), (7, true)] (by kernel_rfl) (by kernel_rfl) (fun _ _ d _ _ h => by cases d <;> exact h) (Bel.drew V2) ?_
    have hst := Bel.drew V2
    have inst : Nonempty (Of (Bel V2)) := ⟨⟨_, hst⟩⟩
    have qc5 := bel_cell cc5
    have C7 := C6.on (bdrew V2)
    have Z7 := Z6.on (bdrew V2)
    have B7 := btr B6 (bdrew V2)
    clear C6 Z6 B6 cc0 cc1 cc2 cc3 cc4 cc5
    generalize V2.drew = V3 at *
    iterate 6 (refine line_read rfl (by kernel_rfl) (fun K hK => ?_); go_big_quiet_op; refine hK _ ?_; clear hK K)
    refine line_alone rfl (by kernel_rfl) (fun K hK => ?_)
    refine call_any (args := #[.int .i64 sh, .int .i64 he]) rfl (by kernel_rfl) (by kernel_rfl) (F _) ?_
    rintro e u4 ⟨rfl, be⟩
    have hst2 := hst.on be
    have XX := C7.on be
    have Z8 := Z7.on be
    have B8 := btr B7 be
    refine ⟨_, rfl, hK _ _ hst2 ?_⟩
    clear hK K hst be C7 Z7 B7 F
    simp only [Act.put, List.setIfInBounds_toArray, List.set_cons_zero, List.set_cons_succ]
    iterate 1 (refine line_read rfl (by kernel_rfl) (fun K hK => ?_); go_big_quiet_op; refine hK _ ?_; clear hK K)
    refine line_nil ?_
    clear hst2 inst
    have cc0 := XX.cell 0 _ rfl
    have cc1 := XX.cell 1 _ rfl
    have cc2 := XX.cell 2 _ rfl
    have cc3 := XX.cell 3 _ rfl
    have cc4 := XX.cell 4 _ rfl
    have cc5 := XX.cell 5 _ rfl
    go_wp2_with fail
    have S0 : Hold w (h) [.int .i64 r, .int .i64 s, .int .i64 p, .int .i64 x, .int .i64 y, .int .i64 f] u4.drew := ⟨B8.drew, XX.on (bdrew _)⟩
    have ZZ := Z8.on (bdrew u4)
    refine wp_region_line (Hold w (h) [.int .i64 r, .int .i64 s, .int .i64 p, .int .i64 x, .int .i64 y, .int .i64 f]) [(0, true), (1, true), (2, true), (3, true), (4, true), (5, true), (6, true), (7, true), (8, true), (9, false), (10, true), (11, false)] (by kernel_rfl) (by kernel_rfl) (fun _ _ d _ _ h => by cases d <;> exact h) S0 ?_
    have hst := S0
    have inst : Nonempty (Of (Hold w (h) [.int .i64 r, .int .i64 s, .int .i64 p, .int .i64 x, .int .i64 y, .int .i64 f])) := ⟨⟨_, hst⟩⟩
    have qh0 := hold_cell (W := w) (g := h) (cs := [.int .i64 r, .int .i64 s, .int .i64 p, .int .i64 x, .int .i64 y, .int .i64 f]) 0 _ rfl
    have qh1 := hold_cell (W := w) (g := h) (cs := [.int .i64 r, .int .i64 s, .int .i64 p, .int .i64 x, .int .i64 y, .int .i64 f]) 1 _ rfl
    have qh2 := hold_cell (W := w) (g := h) (cs := [.int .i64 r, .int .i64 s, .int .i64 p, .int .i64 x, .int .i64 y, .int .i64 f]) 2 _ rfl
    have qh3 := hold_cell (W := w) (g := h) (cs := [.int .i64 r, .int .i64 s, .int .i64 p, .int .i64 x, .int .i64 y, .int .i64 f]) 3 _ rfl
    have qh4 := hold_cell (W := w) (g := h) (cs := [.int .i64 r, .int .i64 s, .int .i64 p, .int .i64 x, .int .i64 y, .int .i64 f]) 4 _ rfl
    have qh5 := hold_cell (W := w) (g := h) (cs := [.int .i64 r, .int .i64 s, .int .i64 p, .int .i64 x, .int .i64 y, .int .i64 f]) 5 _ rfl
    clear S0 XX Z8 B8 cc0 cc1 cc2 cc3 cc4 cc5 e3 e4 e5
    generalize u4.drew = V1 at *
    iterate 9 (refine line_read rfl (by kernel_rfl) (fun K hK => ?_); go_big_quiet_op; refine hK _ ?_; clear hK K)
    refine line_alone rfl (by kernel_rfl) (fun K hK => ?_)
    refine call_any (args := #[.int .i64 sh, .int .i64 he, .int .i64 p]) rfl (by kernel_rfl) (by kernel_rfl) (Y _) ?_
    rintro e wn ⟨rfl, hbn⟩
    have hst2 := hst.on hbn
    have Z2 := ZZ.on hbn
    refine ⟨_, rfl, hK _ _ hst2 ?_⟩
    clear hK K hst hbn ZZ
    simp only [Act.put, List.setIfInBounds_toArray, List.set_cons_zero, List.set_cons_succ]
    refine line_readv (v := .agg #[.int .i64 0, .int .i64 r, .int .i64 s, .int .i64 p, .int .i64 x, .int .i64 y, .int .i64 f, .int .i64 u, .int .i64 d, .int .i64 he, .int .i64 p]) rfl (by kernel_rfl) (fun _ => by kernel_rfl) ?_
    simp only [Act.put, List.setIfInBounds_toArray, List.set_cons_zero, List.set_cons_succ]
    have zz0 := Z2.cell 0 _ rfl
    have zz1 := Z2.cell 1 _ rfl
    have zz2 := Z2.cell 2 _ rfl
    have zz3 := Z2.cell 3 _ rfl
    have zz4 := Z2.cell 4 _ rfl
    have zz5 := Z2.cell 5 _ rfl
    have zz6 := Z2.cell 6 _ rfl
    have zz7 := Z2.cell 7 _ rfl
    have zz8 := Z2.cell 8 _ rfl
    have zz9 := Z2.cell 9 _ rfl
    have zz10 := Z2.cell 10 _ rfl
    have hh0 := Z2.free 0 _ rfl
    have hh1 := Z2.free 1 _ rfl
    have hh2 := Z2.free 2 _ rfl
    have hh3 := Z2.free 3 _ rfl
    have hh4 := Z2.free 4 _ rfl
    have hh5 := Z2.free 5 _ rfl
    have hh6 := Z2.free 6 _ rfl
    have hh7 := Z2.free 7 _ rfl
    have hh8 := Z2.free 8 _ rfl
    have hh9 := Z2.free 9 _ rfl
    have hh10 := Z2.free 10 _ rfl
    have S9 : Hold w (h) [.int .i64 r, .int .i64 s, .int .i64 p, .int .i64 x, .int .i64 y, .int .i64 f] (((((((((((wn.setCell ⟨w.heap.size, 0, none⟩ (.int .i64 0)).setCell ⟨w.heap.size, 1, none⟩ (.int .i64 r)).setCell ⟨w.heap.size, 2, none⟩ (.int .i64 s)).setCell ⟨w.heap.size, 3, none⟩ (.int .i64 p)).setCell ⟨w.heap.size, 4, none⟩ (.int .i64 x)).setCell ⟨w.heap.size, 5, none⟩ (.int .i64 y)).setCell ⟨w.heap.size, 6, none⟩ (.int .i64 f)).setCell ⟨w.heap.size, 7, none⟩ (.int .i64 u)).setCell ⟨w.heap.size, 8, none⟩ (.int .i64 d)).setCell ⟨w.heap.size, 9, none⟩ (.int .i64 he)).setCell ⟨w.heap.size, 10, none⟩ (.int .i64 p)) := by
      iterate 11 (refine Hold.setB ?_ (by dsimp only; omega) (by dsimp only; omega) _)
      exact hst2
    have HB9 := Lib.hid S9.bel
    clear hst2
    refine line_alone rfl (by kernel_rfl) (fun K hK => ?_)
    go_big_op
    refine hK _ _ (S9) ?_
    clear hK K
    refine line_nil ?_
    clear inst qh0 qh1 qh2 qh3 qh4 qh5 Z2 S9
    go_wp2_with fail
    exact bodyPost_ret (v := .agg #[.int .i64 0, .int .i64 r, .int .i64 s, .int .i64 p, .int .i64 x, .int .i64 y, .int .i64 f, .int .i64 u, .int .i64 d, .int .i64 he, .int .i64 p]) (by simp [results, Tryz.results178, go_sem, zz0, zz1, zz2, zz3, zz4, zz5, zz6, zz7, zz8, zz9, zz10]) rfl ⟨rfl, HB9.out⟩
  · have e0 := T1 rfl h4
    have e1 := T3 (by rw [e0]; omega)
    rw [e1, e0]
    have e3 : (f != fv) = true := by simpa using h4
    have e4 : decide (f = fv) = false := by simpa using h4
    have e5 : (f == fv) = false := by simpa using h4
    clear T0 T1 T2 T3 T4 e0 e1 h4
    go_enter Tryz.func178, Tryz.ntmps178
    go_wp2_with fail
    generalize w.alloc (.cells #[.int .i64 0, .int .i64 0, .int .i64 0, .int .i64 0, .int .i64 0, .int .i64 0, .int .i64 0, .int .i64 0, .int .i64 0, .int .i64 0, .int .i64 0] 112) = W0 at *
    refine (H _ _ _ A1 C1).mono ?_
    rintro e u1 ⟨rfl, b1⟩
    have A2 := A1.on b1
    have C2 := C1.on b1
    have Z2 := Z0.on b1
    have B2 := btr b0 b1
    clear b0 b1 A1 C1 Z0 H
    have cc0 := C2.cell 0 _ rfl
    have cc1 := C2.cell 1 _ rfl
    have cc2 := C2.cell 2 _ rfl
    have cc3 := C2.cell 3 _ rfl
    have cc4 := C2.cell 4 _ rfl
    have cc5 := C2.cell 5 _ rfl
    go_wp2_with fail
    refine wp_region_line (Bel u1) [(0, true), (1, true), (2, true), (3, true), (4, true), (6, true), (7, true), (8, true), (5, false), (9, false), (10, true)] (by kernel_rfl) (by kernel_rfl) (fun _ _ d _ _ h => by cases d <;> exact h) (Bel.drew u1) ?_
    have hst := Bel.drew u1
    have inst : Nonempty (Of (Bel u1)) := ⟨⟨_, hst⟩⟩
    have qc2 := bel_cell cc2
    have C3 := C2.on (bdrew u1)
    have Z3 := Z2.on (bdrew u1)
    have A3 := A2.on (bdrew u1)
    have B3 := btr B2 (bdrew u1)
    clear A2 C2 Z2 B2 cc0 cc1 cc2 cc3 cc4 cc5
    generalize u1.drew = V0 at *
    iterate 8 (refine line_read rfl (by kernel_rfl) (fun K hK => ?_); go_big_quiet_op; refine hK _ ?_; clear hK K)
    refine line_alone rfl (by kernel_rfl) (fun K hK => ?_)
    refine call_any (args := #[.int .i64 he]) rfl (by kernel_rfl) (by kernel_rfl) (V _) ?_
    rintro e u2 ⟨rfl, be⟩
    have hst2 := hst.on be
    have A4 := A3.on be
    have C4 := C3.on be
    have Z4 := Z3.on be
    have B4 := btr B3 be
    refine ⟨_, rfl, hK _ _ hst2 ?_⟩
    clear hK K hst be A3 C3 Z3 B3 V
    simp only [Act.put, List.setIfInBounds_toArray, List.set_cons_zero, List.set_cons_succ]
    refine line_alone rfl (by kernel_rfl) (fun K hK => ?_)
    refine call_any (args := #[.int .i64 p, .int .i64 vh, .pointer (some ⟨h, 3, none⟩)]) rfl (by kernel_rfl) (by kernel_rfl) (G _ (C4.cell 3 _ rfl) (C4.cell 4 _ rfl)) ?_
    rintro e u3 ⟨rfl, be⟩
    have hst3 := hst2.on be
    have A5 := A4.on be
    have C5 := C4.on be
    have Z5 := Z4.on be
    have B5 := btr B4 be
    refine ⟨_, rfl, hK _ _ hst3 ?_⟩
    clear hK K hst2 be A4 C4 Z4 B4 G
    simp only [Act.put, List.setIfInBounds_toArray, List.set_cons_zero, List.set_cons_succ]
    iterate 1 (refine line_read rfl (by kernel_rfl) (fun K hK => ?_); go_big_quiet_op; refine hK _ ?_; clear hK K)
    refine line_nil ?_
    clear hst3 inst
    have aa0 := A5.cell 0 _ rfl
    have aa1 := A5.cell 1 _ rfl
    have aa2 := A5.cell 2 _ rfl
    have aa3 := A5.cell 3 _ rfl
    have cc0 := C5.cell 0 _ rfl
    have cc1 := C5.cell 1 _ rfl
    have cc2 := C5.cell 2 _ rfl
    have cc3 := C5.cell 3 _ rfl
    have cc4 := C5.cell 4 _ rfl
    have cc5 := C5.cell 5 _ rfl
    go_wp2_with fail
    refine wp_region_line (Bel u3) [(0, true), (1, true), (2, true), (3, true), (4, true), (5, true), (6, true), (7, true), (8, false), (9, true)] (by kernel_rfl) (by kernel_rfl) (fun _ _ d _ _ h => by cases d <;> exact h) (Bel.drew u3) ?_
    have hst := Bel.drew u3
    have inst : Nonempty (Of (Bel u3)) := ⟨⟨_, hst⟩⟩
    have qa0 := bel_cell aa0
    have qc1 := bel_cell cc1
    have C6 := C5.on (bdrew u3)
    have Z6 := Z5.on (bdrew u3)
    have B6 := btr B5 (bdrew u3)
    clear A5 C5 Z5 B5 aa0 aa1 aa2 aa3 cc0 cc1 cc2 cc3 cc4 cc5
    generalize u3.drew = V2 at *
    iterate 8 (refine line_read rfl (by kernel_rfl) (fun K hK => ?_); go_big_quiet_op; refine hK _ ?_; clear hK K)
    refine line_alone rfl (by kernel_rfl) (fun K hK => ?_)
    refine call_wp (args := #[.int .i64 s, .int .i64 k]) rfl (by kernel_rfl) (by kernel_rfl) (R1 _) (fun wn hbn => ?_)
    subst hbn
    refine hK _ _ hst ?_
    clear hK K
    simp only [Act.put, List.setIfInBounds_toArray, List.set_cons_zero, List.set_cons_succ]
    iterate 1 (refine line_read rfl (by kernel_rfl) (fun K hK => ?_); go_big_quiet_op; refine hK _ ?_; clear hK K)
    refine line_nil ?_
    clear hst inst
    have cc0 := C6.cell 0 _ rfl
    have cc1 := C6.cell 1 _ rfl
    have cc2 := C6.cell 2 _ rfl
    have cc3 := C6.cell 3 _ rfl
    have cc4 := C6.cell 4 _ rfl
    have cc5 := C6.cell 5 _ rfl
    go_wp2_with fail
    refine wp_region_line (Bel V2) [(0, true), (1, true), (2, true), (3, true), (4, true), (5, true), (6, false), (7, true)] (by kernel_rfl) (by kernel_rfl) (fun _ _ d _ _ h => by cases d <;> exact h) (Bel.drew V2) ?_
    have hst := Bel.drew V2
    have inst : Nonempty (Of (Bel V2)) := ⟨⟨_, hst⟩⟩
    have qc5 := bel_cell cc5
    have C7 := C6.on (bdrew V2)
    have Z7 := Z6.on (bdrew V2)
    have B7 := btr B6 (bdrew V2)
    clear C6 Z6 B6 cc0 cc1 cc2 cc3 cc4 cc5
    generalize V2.drew = V3 at *
    iterate 6 (refine line_read rfl (by kernel_rfl) (fun K hK => ?_); go_big_quiet_op; refine hK _ ?_; clear hK K)
    refine line_alone rfl (by kernel_rfl) (fun K hK => ?_)
    refine call_any (args := #[.int .i64 sh, .int .i64 he]) rfl (by kernel_rfl) (by kernel_rfl) (F _) ?_
    rintro e u4 ⟨rfl, be⟩
    have hst2 := hst.on be
    have XX := C7.on be
    have Z8 := Z7.on be
    have B8 := btr B7 be
    refine ⟨_, rfl, hK _ _ hst2 ?_⟩
    clear hK K hst be C7 Z7 B7 F
    simp only [Act.put, List.setIfInBounds_toArray, List.set_cons_zero, List.set_cons_succ]
    iterate 1 (refine line_read rfl (by kernel_rfl) (fun K hK => ?_); go_big_quiet_op; refine hK _ ?_; clear hK K)
    refine line_nil ?_
    clear hst2 inst
    have q0 := (Z8).cell 0 _ rfl
    have q1 := (Z8).cell 1 _ rfl
    have q2 := (Z8).cell 2 _ rfl
    have q3 := (Z8).cell 3 _ rfl
    have q4 := (Z8).cell 4 _ rfl
    have q5 := (Z8).cell 5 _ rfl
    have q6 := (Z8).cell 6 _ rfl
    have q7 := (Z8).cell 7 _ rfl
    have q8 := (Z8).cell 8 _ rfl
    have q9 := (Z8).cell 9 _ rfl
    have q10 := (Z8).cell 10 _ rfl
    have z0 := (Z8).free 0 _ rfl
    have z1 := (Z8).free 1 _ rfl
    have z2 := (Z8).free 2 _ rfl
    have z3 := (Z8).free 3 _ rfl
    have z4 := (Z8).free 4 _ rfl
    have z5 := (Z8).free 5 _ rfl
    have z6 := (Z8).free 6 _ rfl
    have z7 := (Z8).free 7 _ rfl
    have z8 := (Z8).free 8 _ rfl
    have z9 := (Z8).free 9 _ rfl
    have z10 := (Z8).free 10 _ rfl
    have HB := Lib.hid (B8)
    clear XX Z8 B8 Y
    go_wp2_with fail
    refine bodyPost_ret (v := .agg #[.int .i64 8, .int .i64 0, .int .i64 0, .int .i64 0, .int .i64 0, .int .i64 0, .int .i64 0, .int .i64 0, .int .i64 0, .int .i64 0, .int .i64 0]) (by simp [results, Tryz.results178, go_sem, q0, q1, q2, q3, q4, q5, q6, q7, q8, q9, q10]) rfl ⟨rfl, ?_⟩
    exact (by (iterate 11 (refine bset ?_ (by dsimp only; omega) _)); exact HB.out)
theorem specTakeReply_any (k r0 s0 : Int) (n : ByteArray) (r s p x y f : Int) (w : World) (hn : n.size ≤ maxLen) :
    Calls Tryz.prog 77 #[H4 k r0 s0 n, R6 r s p x y f] w fun e w' => e = .returned (T11 (takT k r0 s0 n r s p x y f)) ∧ Below w.heap.size w w' := by
  have b0 := bal (bal (bal (Below.refl _ w) (.cells #[.int .i64 k, .int .i64 r0, .int .i64 s0, .string n] 103)) (.cells #[.int .i64 r, .int .i64 s, .int .i64 p, .int .i64 x, .int .i64 y, .int .i64 f] 33)) (.cells #[.int .i64 0, .int .i64 0, .int .i64 0, .int .i64 0, .int .i64 0, .int .i64 0, .int .i64 0, .int .i64 0, .int .i64 0, .int .i64 0, .int .i64 0] 112)
  have A0 := ((At.new w (HL4 k r0 s0 n) 103).alloc (.cells #[.int .i64 r, .int .i64 s, .int .i64 p, .int .i64 x, .int .i64 y, .int .i64 f] 33)).alloc (.cells #[.int .i64 0, .int .i64 0, .int .i64 0, .int .i64 0, .int .i64 0, .int .i64 0, .int .i64 0, .int .i64 0, .int .i64 0, .int .i64 0, .int .i64 0] 112)
  have C0 := (At.new (w.alloc (.cells #[.int .i64 k, .int .i64 r0, .int .i64 s0, .string n] 103)) (RL6 r s p x y f) 33).alloc (.cells #[.int .i64 0, .int .i64 0, .int .i64 0, .int .i64 0, .int .i64 0, .int .i64 0, .int .i64 0, .int .i64 0, .int .i64 0, .int .i64 0, .int .i64 0] 112)
  have Z0 := At.new ((w.alloc (.cells #[.int .i64 k, .int .i64 r0, .int .i64 s0, .string n] 103)).alloc (.cells #[.int .i64 r, .int .i64 s, .int .i64 p, .int .i64 x, .int .i64 y, .int .i64 f] 33)) [.int .i64 0, .int .i64 0, .int .i64 0, .int .i64 0, .int .i64 0, .int .i64 0, .int .i64 0, .int .i64 0, .int .i64 0, .int .i64 0, .int .i64 0] 112
  simp only [World.size_alloc] at A0 C0 Z0
  have F1 := fun g w A => l11Fault_any g k r0 s0 n w A hn
  have F2 := fun g w A => l6Reply_any g r s p x y f w A
  by_cases h1 : cliF k r0 s0 n = 0
  · by_cases h2 : repF r s p x y f = 0
    · have TK := fun g h w A C => l11Take_any g h k r0 s0 n r s p x y f w A C h1 h2
      rw [h1] at F1
      rw [h2] at F2
      generalize takT k r0 s0 n r s p x y f = t at *
      obtain ⟨tc, tr, ts, tp, tx, ty, tf, tu, td, th, tk⟩ := t
      clear h1 h2
      go_enter Tryz.func77, Tryz.ntmps77
      go_wp2_with fail
      generalize ((w.alloc (.cells #[.int .i64 k, .int .i64 r0, .int .i64 s0, .string n] 103)).alloc (.cells #[.int .i64 r, .int .i64 s, .int .i64 p, .int .i64 x, .int .i64 y, .int .i64 f] 33)).alloc (.cells #[.int .i64 0, .int .i64 0, .int .i64 0, .int .i64 0, .int .i64 0, .int .i64 0, .int .i64 0, .int .i64 0, .int .i64 0, .int .i64 0, .int .i64 0] 112) = W0 at *
      refine (F1 _ _ A0).mono ?_
      rintro e u1 ⟨rfl, b1⟩
      go_wp2_with fail
      refine (F2 _ _ (C0.on b1)).mono ?_
      rintro e w' ⟨rfl, rfl⟩
      go_wp2_with fail
      refine (TK _ _ _ (A0.on b1) (C0.on b1)).mono ?_
      rintro e u2 ⟨rfl, b2⟩
      have b12 := btr b1 b2
      have q0 := (Z0.on b12).cell 0 _ rfl
      have q1 := (Z0.on b12).cell 1 _ rfl
      have q2 := (Z0.on b12).cell 2 _ rfl
      have q3 := (Z0.on b12).cell 3 _ rfl
      have q4 := (Z0.on b12).cell 4 _ rfl
      have q5 := (Z0.on b12).cell 5 _ rfl
      have q6 := (Z0.on b12).cell 6 _ rfl
      have q7 := (Z0.on b12).cell 7 _ rfl
      have q8 := (Z0.on b12).cell 8 _ rfl
      have q9 := (Z0.on b12).cell 9 _ rfl
      have q10 := (Z0.on b12).cell 10 _ rfl
      have z0 := (Z0.on b12).free 0 _ rfl
      have z1 := (Z0.on b12).free 1 _ rfl
      have z2 := (Z0.on b12).free 2 _ rfl
      have z3 := (Z0.on b12).free 3 _ rfl
      have z4 := (Z0.on b12).free 4 _ rfl
      have z5 := (Z0.on b12).free 5 _ rfl
      have z6 := (Z0.on b12).free 6 _ rfl
      have z7 := (Z0.on b12).free 7 _ rfl
      have z8 := (Z0.on b12).free 8 _ rfl
      have z9 := (Z0.on b12).free 9 _ rfl
      have z10 := (Z0.on b12).free 10 _ rfl
      have HB := Lib.hid (btr b0 b12)
      clear A0 C0 Z0 b0 b1 b2 b12 F1 F2 TK
      go_wp2_with fail
      refine bodyPost_ret (v := .agg #[.int .i64 tc, .int .i64 tr, .int .i64 ts, .int .i64 tp, .int .i64 tx, .int .i64 ty, .int .i64 tf, .int .i64 tu, .int .i64 td, .int .i64 th, .int .i64 tk]) (by simp [results, Tryz.results77, go_sem, q0, q1, q2, q3, q4, q5, q6, q7, q8, q9, q10]) rfl ⟨rfl, ?_⟩
      exact (by (iterate 11 (refine bset ?_ (by dsimp only; omega) _)); exact HB.out)
    · have e0 := takC_rep (x := x) (y := y) (f := f) h1 h2
      rw [takT_no (by rw [e0]; exact h2), e0]
      have e3 : (repF r s p x y f != 0) = true := by simpa using h2
      rw [h1] at F1
      generalize repF r s p x y f = c at *
      clear h1 h2 e0
      go_enter Tryz.func77, Tryz.ntmps77
      go_wp2_with fail
      generalize ((w.alloc (.cells #[.int .i64 k, .int .i64 r0, .int .i64 s0, .string n] 103)).alloc (.cells #[.int .i64 r, .int .i64 s, .int .i64 p, .int .i64 x, .int .i64 y, .int .i64 f] 33)).alloc (.cells #[.int .i64 0, .int .i64 0, .int .i64 0, .int .i64 0, .int .i64 0, .int .i64 0, .int .i64 0, .int .i64 0, .int .i64 0, .int .i64 0, .int .i64 0] 112) = W0 at *
      refine (F1 _ _ A0).mono ?_
      rintro e u1 ⟨rfl, b1⟩
      go_wp2_with fail
      refine (F2 _ _ (C0.on b1)).mono ?_
      rintro e w' ⟨rfl, rfl⟩
      have q0 := (Z0.on b1).cell 0 _ rfl
      have q1 := (Z0.on b1).cell 1 _ rfl
      have q2 := (Z0.on b1).cell 2 _ rfl
      have q3 := (Z0.on b1).cell 3 _ rfl
      have q4 := (Z0.on b1).cell 4 _ rfl
      have q5 := (Z0.on b1).cell 5 _ rfl
      have q6 := (Z0.on b1).cell 6 _ rfl
      have q7 := (Z0.on b1).cell 7 _ rfl
      have q8 := (Z0.on b1).cell 8 _ rfl
      have q9 := (Z0.on b1).cell 9 _ rfl
      have q10 := (Z0.on b1).cell 10 _ rfl
      have z0 := (Z0.on b1).free 0 _ rfl
      have z1 := (Z0.on b1).free 1 _ rfl
      have z2 := (Z0.on b1).free 2 _ rfl
      have z3 := (Z0.on b1).free 3 _ rfl
      have z4 := (Z0.on b1).free 4 _ rfl
      have z5 := (Z0.on b1).free 5 _ rfl
      have z6 := (Z0.on b1).free 6 _ rfl
      have z7 := (Z0.on b1).free 7 _ rfl
      have z8 := (Z0.on b1).free 8 _ rfl
      have z9 := (Z0.on b1).free 9 _ rfl
      have z10 := (Z0.on b1).free 10 _ rfl
      have HB := Lib.hid (btr b0 b1)
      clear A0 C0 Z0 b0 b1 F1 F2
      go_wp2_with fail
      refine bodyPost_ret (v := .agg #[.int .i64 c, .int .i64 0, .int .i64 0, .int .i64 0, .int .i64 0, .int .i64 0, .int .i64 0, .int .i64 0, .int .i64 0, .int .i64 0, .int .i64 0]) (by simp [results, Tryz.results77, go_sem, q0, q1, q2, q3, q4, q5, q6, q7, q8, q9, q10]) rfl ⟨rfl, ?_⟩
      exact (by (iterate 11 (refine bset ?_ (by dsimp only; omega) _)); exact HB.out)
  · have e0 := takC_cli (r := r) (s := s) (p := p) (x := x) (y := y) (f := f) h1
    rw [takT_no (by rw [e0]; exact h1), e0]
    have e3 : (cliF k r0 s0 n != 0) = true := by simpa using h1
    generalize cliF k r0 s0 n = c at *
    clear h1 e0
    go_enter Tryz.func77, Tryz.ntmps77
    go_wp2_with fail
    generalize ((w.alloc (.cells #[.int .i64 k, .int .i64 r0, .int .i64 s0, .string n] 103)).alloc (.cells #[.int .i64 r, .int .i64 s, .int .i64 p, .int .i64 x, .int .i64 y, .int .i64 f] 33)).alloc (.cells #[.int .i64 0, .int .i64 0, .int .i64 0, .int .i64 0, .int .i64 0, .int .i64 0, .int .i64 0, .int .i64 0, .int .i64 0, .int .i64 0, .int .i64 0] 112) = W0 at *
    refine (F1 _ _ A0).mono ?_
    rintro e u1 ⟨rfl, b1⟩
    have q0 := (Z0.on b1).cell 0 _ rfl
    have q1 := (Z0.on b1).cell 1 _ rfl
    have q2 := (Z0.on b1).cell 2 _ rfl
    have q3 := (Z0.on b1).cell 3 _ rfl
    have q4 := (Z0.on b1).cell 4 _ rfl
    have q5 := (Z0.on b1).cell 5 _ rfl
    have q6 := (Z0.on b1).cell 6 _ rfl
    have q7 := (Z0.on b1).cell 7 _ rfl
    have q8 := (Z0.on b1).cell 8 _ rfl
    have q9 := (Z0.on b1).cell 9 _ rfl
    have q10 := (Z0.on b1).cell 10 _ rfl
    have z0 := (Z0.on b1).free 0 _ rfl
    have z1 := (Z0.on b1).free 1 _ rfl
    have z2 := (Z0.on b1).free 2 _ rfl
    have z3 := (Z0.on b1).free 3 _ rfl
    have z4 := (Z0.on b1).free 4 _ rfl
    have z5 := (Z0.on b1).free 5 _ rfl
    have z6 := (Z0.on b1).free 6 _ rfl
    have z7 := (Z0.on b1).free 7 _ rfl
    have z8 := (Z0.on b1).free 8 _ rfl
    have z9 := (Z0.on b1).free 9 _ rfl
    have z10 := (Z0.on b1).free 10 _ rfl
    have HB := Lib.hid (btr b0 b1)
    clear A0 C0 Z0 b0 b1 F1 F2
    go_wp2_with fail
    refine bodyPost_ret (v := .agg #[.int .i64 c, .int .i64 0, .int .i64 0, .int .i64 0, .int .i64 0, .int .i64 0, .int .i64 0, .int .i64 0, .int .i64 0, .int .i64 0, .int .i64 0]) (by simp [results, Tryz.results77, go_sem, q0, q1, q2, q3, q4, q5, q6, q7, q8, q9, q10]) rfl ⟨rfl, ?_⟩
    exact (by (iterate 11 (refine bset ?_ (by dsimp only; omega) _)); exact HB.out)
end Go.Proofs.YtlodhleihnlchaaGreatDoor
