/- Contracts of how a reply is laid into bytes, by the program and by its model. Conditions: as each theorem states. -/
import Derived.Test.YtepailfhagaboaaGreatDoorC6e
import Derived.Test.YtepailfhagaboaaGreatDoorC6b
import Derived.Test.YtepailfhagaboaaGreatDoorC3h
namespace Go.Proofs.YtepailfhagaboaaGreatDoor
open Go.RowKit
set_option maxRecDepth 100000
set_option linter.unusedVariables false

theorem by6 (c : Int) (a : Option Addr) (n k : Nat) (w : World) : Sem.run Tryz.prog (Instr.field 39 (.agg #[.int .i64 c, .slice a n k]) 1) w = .ok (.slice a n k) w := by kernel_rfl
theorem wordBytes_reply (r s p x y f : Int) (w : World) (h : repF r s p x y f = 0) :
    Calls Tryz.prog 65 #[.iface 33 (R6 r s p x y f)] w (Made (packR r s p x y f) w) := by
  obtain ⟨hr, hs, hp, hf, hg⟩ := repF_zero h
  have hss := pub_sum6 hs
  have hps := pub_sum6 hp
  obtain ⟨hxs, hys⟩ := sig_sums hg
  obtain ⟨i0, hi0, hz0, hz1, hz2⟩ := info_parts u8_info
  have g1 := by6
  have ta : ∀ W : World, (Instr.typeAssert (.iface 33 (R6 r s p x y f)) 70 26 true).run Tryz.prog W = .ok (.tuple #[.agg #[.int .i64 0, .int .i64 0, .string { data := #[] }], .bool false]) W := fun _ => by kernel_rfl
  have tb : ∀ W : World, (Instr.typeAssert (.iface 33 (R6 r s p x y f)) 70 33 true).run Tryz.prog W = .ok (.tuple #[R6 r s p x y f, .bool true]) W := fun _ => by kernel_rfl
  have A0 := At.new w (RL6 r s p x y f) 33
  have b0 := bal (Below.refl _ w) (.cells #[.int .i64 r, .int .i64 s, .int .i64 p, .int .i64 x, .int .i64 y, .int .i64 f] 33)
  have hall : [r, s, p].all M.sumB = true := by simp [hr, hss, hps]
  have hby : ∀ z ∈ M.two x ++ M.two y, M.byteB z := fun z hz => by
    rcases List.mem_append.1 hz with h | h
    · exact two_byte hxs z h
    · exact two_byte hys z h
  clear h
  go_enter Tryz.func65, Tryz.ntmps65
  go_wp2_with fail
  generalize w.alloc (.cells #[.int .i64 r, .int .i64 s, .int .i64 p, .int .i64 x, .int .i64 y, .int .i64 f] 33) = W0 at *
  have d0 := A0.cell 0 _ rfl
  have d1 := A0.cell 1 _ rfl
  have d2 := A0.cell 2 _ rfl
  have d3 := A0.cell 3 _ rfl
  have d4 := A0.cell 4 _ rfl
  have d5 := A0.cell 5 _ rfl
  refine wp_region_line (Bel W0) [(0, true), (1, true), (2, true), (3, true), (4, true), (5, true), (8, true), (9, true), (6, false), (7, false), (10, false), (11, true), (12, false), (13, true)] (by kernel_rfl) (by kernel_rfl) (fun _ _ d _ _ h => by cases d <;> exact h) (Bel.drew W0) ?_
  have hst := Bel.drew W0
  have inst : Nonempty (Of (Bel W0)) := ⟨⟨_, hst⟩⟩
  have u0 := bel_cell d0
  have u1 := bel_cell d1
  have u2 := bel_cell d2
  have u3 := bel_cell d3
  have u4 := bel_cell d4
  generalize W0.drew = V1 at *
  iterate 8 (refine line_read rfl (by kernel_rfl) (fun K hK => ?_); go_big_quiet_op; refine hK _ ?_; clear hK K)
  clear u0 u1 u2 u3 u4 d0 d1 d2 d3 d4 d5
  refine line_alone rfl (by kernel_rfl) (fun K hK => ?_)
  go_big_op
  refine hK _ _ (hst.on (bal (Below.refl _ V1) _)) ?_
  clear hK K
  have st2 := hst.on (bal (Below.refl _ V1) (.cells #[.int .i64 r, .int .i64 s, .int .i64 p] 2))
  have R2 := row_three (w := V1) r s p 2 hr hss hps
  have lt2 : V1.heap.size + 1 ≤ (V1.alloc (.cells #[.int .i64 r, .int .i64 s, .int .i64 p] 2)).heap.size := by simp
  generalize V1.alloc (.cells #[.int .i64 r, .int .i64 s, .int .i64 p] 2) = V2 at *
  refine line_alone rfl (by kernel_rfl) (fun K hK => ?_)
  refine call_any (args := #[.int .u8 2, .slice (some ⟨V1.heap.size, 0, none⟩) 3 3]) rfl (by kernel_rfl) (by kernel_rfl) (wordHead_any 2 _ 3 3 _ [r, s, p] V2 R2 lt2 hall (by omega)) ?_
  rintro e V3 ⟨a3, n3, c3, rfl, O3', b3⟩
  have O3 : OwnK .u8 V3 V2.heap.size (.slice a3 n3 c3) (frontR r s p) := O3'
  have l3 : n3 = 7 := O3.len
  subst l3
  have st3 := st2.on b3
  refine ⟨_, rfl, hK _ _ st3 ?_⟩
  clear hK K O3'
  simp only [Act.put, List.setIfInBounds_toArray, List.set_cons_zero, List.set_cons_succ]
  refine line_alone rfl (by kernel_rfl) (fun K hK => ?_)
  refine call_any (args := #[I2 x y]) rfl (by kernel_rfl) (by kernel_rfl) (implPackSign_yes x y V3 hg) ?_
  rintro e V4 ⟨a4, n4, c4, rfl, O4, b4⟩
  have l4 : n4 = 4 := O4.len
  subst l4
  have st4 := st3.on b4
  have b34 := btr b3 b4
  have O5 : OwnK .u8 V4 V2.heap.size (.slice a3 7 c3) (frontR r s p) := Own.below O3 b4
  refine ⟨_, rfl, hK _ _ st4 ?_⟩
  clear hK K O3 b3
  simp only [Act.put, List.setIfInBounds_toArray, List.set_cons_zero, List.set_cons_succ]
  iterate 1 (refine line_read rfl (by kernel_rfl) (fun K hK => ?_); go_big_quiet_op; refine hK _ ?_; clear hK K)
  refine line_alone rfl (by kernel_rfl) (fun K hK => ?_)
  refine wp_append_src _ (.tmp 29) (.tmp 33) 22 22 rfl V2.heap.size 5 i0 (.int .u8 0) 1 1 Tryz.underlying22 hi0 hz0 hz1 hz2 rfl _ _ _ rfl O5 _ 4 _ rfl (O4.src6 hby) (by rw [frontR_length]; simp only [maxLen]; omega) (by rw [frontR_length]; omega) b34.size (fun v6 w6 hown hgrow hat => ?_)
  have b6 : Below V2.heap.size V2 w6 := Own.grown O5 b34 b34.size hgrow
  have O6 : OwnK .u8 w6 V2.heap.size v6 (frontR r s p ++ (M.two x ++ M.two y)) := by
    unfold OwnK
    rw [List.length_append, List.map_append]
    exact hown
  have st6 := st2.on b6
  refine hK _ _ st6 ?_
  have A6 := A0.on st6.out
  have b7 := btr b0 st6.out
  have hle : w.heap.size ≤ V2.heap.size := (btr b0 st2.out).size
  have O7 : OwnK .u8 w6 w.heap.size v6 (frontR r s p ++ (M.two x ++ M.two y)) := O6.less hle
  clear hK K hown hgrow hat O4 O5 O6 b4 b34 b6 st2 st3 st4 st6 A0 b0
  simp only [Act.put, List.setIfInBounds_toArray, List.set_cons_zero, List.set_cons_succ]
  iterate 1 (refine line_read rfl (by kernel_rfl) (fun K hK => ?_); go_big_quiet_op; refine hK _ ?_; clear hK K)
  refine line_nil ?_
  have d5 := A6.cell 5 _ rfl
  have HF := Lib.hid hf
  go_wp2_with fail
  refine (appendTwo_any _ f w.heap.size _ _ O7 b7.size HF.out (by simp only [frontR, M.two, List.length_append, List.length_cons, List.length_nil]; omega)).mono ?_
  rintro e w8 ⟨v8, rfl, O8, g8⟩
  have b8 := O7.grown b7 b7.size g8
  obtain ⟨a8, c8, hv8, -⟩ := O8.form
  have HT := Lib.hid (And.intro (show OwnK .u8 w8 w.heap.size v8 (packR r s p x y f) from O8) b8)
  clear O8 b8 g8 O7 b7 A6
  subst hv8
  go_wp2_with fail
  go_ret
  exact ⟨_, _, _, rfl, HT.out.1, HT.out.2⟩
theorem replyFault_method (r s p x y f : Int) (w : World) (hg : ErrT w) :
    Calls Tryz.prog 154 #[R6 r s p x y f] w fun e w' => e = .returned (.int .i64 (repF r s p x y f)) ∧ Below w.heap.size w w' := by
  have b0 := bal (Below.refl _ w) (.cells #[.int .i64 r, .int .i64 s, .int .i64 p, .int .i64 x, .int .i64 y, .int .i64 f] 33)
  have F := fun w hg => implReplyFault_any r s p x y f w hg
  have E0 := hg.on b0
  go_enter Tryz.func154, Tryz.ntmps154
  go_wp2_with fail
  refine (F _ E0).mono ?_
  rintro e u1 ⟨rfl, b1⟩
  have hb := btr b0 b1
  go_wp2_with fail
  go_ret
  exact ⟨rfl, hb⟩
theorem packWord_reply (r s p x y f : Int) (w : World) (hg : ErrT w) :
    Calls Tryz.prog 40 #[.iface 33 (R6 r s p x y f)] w (BytesRes (repF r s p x y f) (packRL r s p x y f) w) := by
  have hm : ∀ w : World, (method 337 33 (R6 r s p x y f) "loop.example/g00618/impl.fault").run Tryz.prog w = .ok (154, R6 r s p x y f) w := fun _ => by kernel_rfl
  have F := fun w hg => replyFault_method r s p x y f w hg
  have A0 := At.new w [.int .i64 0, .slice none 0 0] 39
  have b0 := bal (Below.refl _ w) (.cells #[.int .i64 0, .slice none 0 0] 39)
  have E0 := hg.on b0
  by_cases h : repF r s p x y f = 0
  · have e : packRL r s p x y f = packR r s p x y f := by simp [packRL, h]
    rw [e]
    have P1 := fun w => wordBytes_reply r s p x y f w h
    simp only [h] at F ⊢
    clear e h
    go_enter Tryz.func40, Tryz.ntmps40
    go_wp2_with fail
    generalize w.alloc (.cells #[.int .i64 0, .slice none 0 0] 39) = W0 at *
    refine (F _ E0).mono ?_
    rintro e u1 ⟨rfl, b1⟩
    go_wp2_with fail
    refine (P1 _).mono ?_
    rintro e u2 ⟨a2, n2, c2, rfl, O2, b2⟩
    have lt1 : w.heap.size < u1.heap.size := (A0.on b1).lt (by simp)
    have q0 := ((A0.on b1).on b2).cell 0 _ rfl
    have q1 := ((A0.on b1).on b2).cell 1 _ rfl
    have z0 := ((A0.on b1).on b2).free 0 _ rfl
    have z1 := ((A0.on b1).on b2).free 1 _ rfl
    have HT := Lib.hid (And.intro O2 (btr b0 (btr b1 b2)))
    have hzs := (btr b0 b1).size
    clear A0 O2 b2 b1 b0
    go_wp2_with fail
    refine bodyPost_ret (v := .agg #[.int .i64 0, .slice a2 n2 c2]) (by simp [results, Tryz.results40, go_sem, q0, q1]) rfl ?_
    exact ⟨_, _, _, rfl, (by (iterate 2 (refine Own.setCell ?_ (fun g hg => by have := (HT.out.1.lt g hg).1; dsimp only; omega) _)); exact HT.out.1.less (by omega)), (by (iterate 2 (refine bset ?_ (by dsimp only; omega) _)); exact HT.out.2)⟩
  · have e : packRL r s p x y f = [] := by simp [packRL, h]
    rw [e]
    generalize repF r s p x y f = cd at *
    clear e
    go_enter Tryz.func40, Tryz.ntmps40
    go_wp2_with fail
    generalize w.alloc (.cells #[.int .i64 0, .slice none 0 0] 39) = W0 at *
    refine (F _ E0).mono ?_
    rintro e u1 ⟨rfl, b1⟩
    have q0 := (A0.on b1).cell 0 _ rfl
    have q1 := (A0.on b1).cell 1 _ rfl
    have z0 := (A0.on b1).free 0 _ rfl
    have z1 := (A0.on b1).free 1 _ rfl
    have hb := btr b0 b1
    clear A0 b0 b1 F
    go_wp2_with fail
    refine bodyPost_ret (v := .agg #[.int .i64 cd, .slice none 0 0]) (by simp [results, Tryz.results40, go_sem, q0, q1]) rfl ?_
    exact ⟨_, _, _, rfl, Own.nil _ _ _, (by (iterate 2 (refine bset ?_ (by dsimp only; omega) _)); exact hb)⟩
theorem implPackReply_any (r s p x y f : Int) (w : World) (hg : ErrT w) :
    Calls Tryz.prog 13 #[R6 r s p x y f] w (BytesRes (repF r s p x y f) (packRL r s p x y f) w) := by
  have F := fun w hg => packWord_reply r s p x y f w hg
  have b0 := bal (bal (Below.refl _ w) (.cells #[.int .i64 r, .int .i64 s, .int .i64 p, .int .i64 x, .int .i64 y, .int .i64 f] 33)) (.cells #[.int .i64 0, .slice none 0 0] 39)
  have A2 := At.new (w.alloc (.cells #[.int .i64 r, .int .i64 s, .int .i64 p, .int .i64 x, .int .i64 y, .int .i64 f] 33)) [.int .i64 0, .slice none 0 0] 39
  simp only [World.size_alloc] at A2
  have E0 := hg.on b0
  generalize repF r s p x y f = cd at *
  generalize packRL r s p x y f = zs at *
  go_enter Tryz.func13, Tryz.ntmps13
  go_wp2_with fail
  generalize (w.alloc (.cells #[.int .i64 r, .int .i64 s, .int .i64 p, .int .i64 x, .int .i64 y, .int .i64 f] 33)).alloc (.cells #[.int .i64 0, .slice none 0 0] 39) = W0 at *
  refine (F _ E0).mono ?_
  rintro e u1 ⟨a2, n2, c2, rfl, O2, b2⟩
  have lt1 : w.heap.size + 1 < W0.heap.size := A2.lt (by simp)
  have q0 := (A2.on b2).cell 0 _ rfl
  have q1 := (A2.on b2).cell 1 _ rfl
  have z0 := (A2.on b2).free 0 _ rfl
  have z1 := (A2.on b2).free 1 _ rfl
  have HT := Lib.hid (And.intro O2 (btr b0 b2))
  clear A2 O2 b2 b0
  go_wp2_with fail
  refine bodyPost_ret (v := .agg #[.int .i64 cd, .slice a2 n2 c2]) (by simp [results, Tryz.results13, go_sem, q0, q1]) rfl ?_
  exact ⟨_, _, _, rfl, (by (iterate 2 (refine Own.setCell ?_ (fun g hg => by have := (HT.out.1.lt g hg).1; dsimp only; omega) _)); exact HT.out.1.less (by omega)), (by (iterate 2 (refine bset ?_ (by dsimp only; omega) _)); exact HT.out.2)⟩

theorem l3Pack3_any (g : Nat) (p q : Int) (w : World) (d0 : w.cell? ⟨g, 3, none⟩ = some (.int .i64 p)) (d1 : w.cell? ⟨g, 4, none⟩ = some (.int .i64 q)) (hp : M.sumB p = true) (hq : M.sumB q = true) :
    Calls Tryz.prog 63 #[.pointer (some ⟨g, 3, none⟩)] w (Made (M.two p ++ M.two q) w) := by
  obtain ⟨i0, hi0, hz0, hz1, hz2⟩ := info_parts u8_info
  go_enter Tryz.func63, Tryz.ntmps63
  go_wp2_with fail
  refine wp_region_line (Bel w) [(0, true), (1, true), (2, true), (3, true), (5, true), (6, true), (7, true), (8, true), (4, false), (9, false), (10, false), (11, true)] (by kernel_rfl) (by kernel_rfl) (fun _ _ d _ _ h => by cases d <;> exact h) (Bel.drew w) ?_
  have hst := Bel.drew w
  have inst : Nonempty (Of (Bel w)) := ⟨⟨_, hst⟩⟩
  have u0 := bel_cell d0
  have u1 := bel_cell d1
  have eV := Lib.hid (show w.drew.heap.size = w.heap.size from rfl)
  generalize w.drew = V at *
  iterate 8 (refine line_read rfl (by kernel_rfl) (fun K hK => ?_); go_big_quiet_op; refine hK _ ?_; clear hK K)
  clear u0 u1 d0 d1
  refine line_alone rfl (by kernel_rfl) (fun K hK => ?_)
  refine call_any (args := #[.int .i64 p]) rfl (by kernel_rfl) (by kernel_rfl) (l1Two_any p _ hp) ?_
  rintro e w1 ⟨rfl, rfl⟩
  have O1 := (two_own V p).less (Nat.le_of_eq eV.out.symm)
  have st1 := hst.on (bal (Below.refl _ V) (.cells #[.int .u8 (p / 256), .int .u8 (p % 256)] 5))
  refine ⟨_, rfl, hK _ _ st1 ?_⟩
  clear hK K hst
  simp only [Act.put, List.setIfInBounds_toArray, List.set_cons_zero, List.set_cons_succ]
  generalize V.alloc (.cells #[.int .u8 (p / 256), .int .u8 (p % 256)] 5) = V1 at *
  refine line_alone rfl (by kernel_rfl) (fun K hK => ?_)
  refine call_any (args := #[.int .i64 q]) rfl (by kernel_rfl) (by kernel_rfl) (l1Two_any q _ hq) ?_
  rintro e w2 ⟨rfl, rfl⟩
  have O2 : OwnK .u8 (V1.alloc (.cells #[.int .u8 (q / 256), .int .u8 (q % 256)] 5)) w.heap.size (.slice (some ⟨V.heap.size, 0, none⟩) 2 2) (M.two p) := Own.alloc O1 _
  have T2 := two_own V1 q
  have st2 := st1.on (bal (Below.refl _ V1) (.cells #[.int .u8 (q / 256), .int .u8 (q % 256)] 5))
  refine ⟨_, rfl, hK _ _ st2 ?_⟩
  clear hK K st1 O1
  simp only [Act.put, List.setIfInBounds_toArray, List.set_cons_zero, List.set_cons_succ]
  refine line_alone rfl (by kernel_rfl) (fun K hK => ?_)
  refine wp_append_src _ (.tmp 7) (.tmp 12) 22 22 rfl w.heap.size 5 i0 (.int .u8 0) 1 1 Tryz.underlying22 hi0 hz0 hz1 hz2 rfl _ _ _ rfl O2 _ 2 _ rfl (T2.src6 (two_byte hq)) (by simp only [maxLen, M.two, List.length_cons, List.length_nil]; omega) (by simp only [M.two, List.length_cons, List.length_nil]; omega) st2.out.size (fun v3 w3 hown hgrow hat => ?_)
  have b3 : Below w.heap.size w w3 := Own.grown O2 st2.out st2.out.size hgrow
  have O3 : OwnK .u8 w3 w.heap.size v3 (M.two p ++ M.two q) := by
    unfold OwnK
    rw [List.length_append, List.map_append]
    exact hown
  refine hK _ _ ⟨b3⟩ ?_
  obtain ⟨a3, c3, hv3, -⟩ := O3.form
  have HT := Lib.hid (And.intro O3 b3)
  clear hK K hown hgrow hat O2 T2 st2 O3 b3
  subst hv3
  simp only [Act.put, List.setIfInBounds_toArray, List.set_cons_zero, List.set_cons_succ]
  iterate 1 (refine line_read rfl (by kernel_rfl) (fun K hK => ?_); go_big_quiet_op; refine hK _ ?_; clear hK K)
  refine line_nil ?_
  go_wp2_with fail
  go_ret
  exact ⟨_, _, _, rfl, HT.out.1, HT.out.2⟩

theorem l6Front_any (g : Nat) (r s p x y f : Int) (w : World) (hA : At g (RL6 r s p x y f) w) (hr : M.sumB r = true) (hs : M.sumB s = true) (hp : M.sumB p = true) :
    Calls Tryz.prog 62 #[.pointer (some ⟨g, 0, none⟩)] w (Made (frontR r s p) w) := by
  obtain ⟨i0, hi0, hz0, hz1, hz2⟩ := info_parts u8_info
  have d0 := hA.cell 0 _ rfl
  have d1 := hA.cell 1 _ rfl
  have d2 := hA.cell 2 _ rfl
  have d3 := hA.cell 3 _ rfl
  have d4 := hA.cell 4 _ rfl
  have d5 := hA.cell 5 _ rfl
  have b1 := bal (Below.refl _ w) (.cells #[.int .u8 2] 5)
  have ltg := hA.lt (by simp)
  have O1 : OwnK .u8 (w.alloc (.cells #[.int .u8 2] 5)) w.heap.size (.slice (some ⟨w.heap.size, 0, none⟩) 1 1) [2] := own_lit (k := .u8) w [2] 1 5 (Nat.le_refl _) rfl (by simp only [maxLen]; omega)
  go_enter Tryz.func62, Tryz.ntmps62
  go_wp2_with fail
  generalize w.alloc (.cells #[.int .u8 2] 5) = W1 at *
  refine (l1Two_any r _ hr).mono ?_
  rintro e w2 ⟨rfl, rfl⟩
  have O2 := Own.alloc O1 (.cells #[.int .u8 (r / 256), .int .u8 (r % 256)] 5)
  have b2 := bal b1 (.cells #[.int .u8 (r / 256), .int .u8 (r % 256)] 5)
  have hle := b2.size
  have hsrc := src_new (P := Tryz.prog) W1 [.int .u8 (r / 256), .int .u8 (r % 256)] 2 2 5 22 5 Tryz.underlying22 rfl (ints_oneCell .u8 [r / 256, r % 256])
  go_wp2_with (at_builtin; refine wpList_append_src _ rfl (.tmp 4) (.tmp 9) 22 22 rfl w.heap.size 5 i0 (.int .u8 0) 1 1 Tryz.underlying22 hi0 hz0 hz1 hz2 rfl _ 1 [.int .u8 2] rfl O2 _ 2 _ rfl hsrc (by simp only [maxLen]; omega) (by omega) hle ?_; intro v3 w3 hown hgrow hat)
  have b3 : Below w.heap.size w w3 := Own.grown O2 b2 hle hgrow
  have O3 : OwnK .u8 w3.drew w.heap.size v3 ([2] ++ M.two r) := by unfold OwnK; simpa [M.two] using hown.drew
  clear O1 O2 b1 b2 hle hsrc hown hgrow hat
  have S0 : Bel w w3.drew := ⟨b3.drew⟩
  refine wp_region_line (Bel w) [(0, true), (1, true), (2, true), (3, true), (4, true), (7, true), (8, true), (9, true), (10, true), (5, false), (6, false), (11, false), (12, false), (13, true)] (by kernel_rfl) (by kernel_rfl) (fun _ _ d _ _ h => by cases d <;> exact h) S0 ?_
  have inst : Nonempty (Of (Bel w)) := ⟨⟨_, S0⟩⟩
  have u1 := bel_cell d1
  have u2 := bel_cell d2
  clear b3 d0 d1 d2 d3 d4 d5
  generalize w3.drew = V1 at *
  iterate 9 (refine line_read rfl (by kernel_rfl) (fun K hK => ?_); go_big_quiet_op; refine hK _ ?_; clear hK K)
  clear u1 u2
  refine line_alone rfl (by kernel_rfl) (fun K hK => ?_)
  refine call_any (args := #[.int .i64 s]) rfl (by kernel_rfl) (by kernel_rfl) (l1Two_any s _ hs) ?_
  rintro e _ ⟨rfl, rfl⟩
  have st5 := S0.on (bal (Below.refl _ V1) (.cells #[.int .u8 (s / 256), .int .u8 (s % 256)] 5))
  have O5 : OwnK .u8 (V1.alloc (.cells #[.int .u8 (s / 256), .int .u8 (s % 256)] 5)) w.heap.size v3 ([2] ++ M.two r) := Own.alloc O3 _
  have T5 := two_own V1 s
  refine ⟨_, rfl, hK _ _ st5 ?_⟩
  clear hK K
  simp only [Act.put, List.setIfInBounds_toArray, List.set_cons_zero, List.set_cons_succ]
  refine line_alone rfl (by kernel_rfl) (fun K hK => ?_)
  refine wp_append_src _ (.tmp 11) (.tmp 16) 22 22 rfl w.heap.size 5 i0 (.int .u8 0) 1 1 Tryz.underlying22 hi0 hz0 hz1 hz2 rfl _ _ _ rfl O5 _ 2 _ rfl (T5.src6 (two_byte hs)) (by simp only [maxLen, M.two, List.length_append, List.length_cons, List.length_nil]; omega) (by simp only [M.two, List.length_append, List.length_cons, List.length_nil]; omega) st5.out.size (fun v5 w5 hown hgrow hat => ?_)
  have b5 : Below w.heap.size w w5 := Own.grown O5 st5.out st5.out.size hgrow
  have P5 : OwnK .u8 w5 w.heap.size v5 ([2] ++ M.two r ++ M.two s) := by
    unfold OwnK
    rw [List.length_append, List.map_append]
    exact hown
  have S5 : Bel w w5 := ⟨b5⟩
  refine hK _ _ S5 ?_
  clear hK K hown hgrow hat O5 T5 st5 O3 S0 b5
  simp only [Act.put, List.setIfInBounds_toArray, List.set_cons_zero, List.set_cons_succ]
  refine line_alone rfl (by kernel_rfl) (fun K hK => ?_)
  refine call_any (args := #[.int .i64 p]) rfl (by kernel_rfl) (by kernel_rfl) (l1Two_any p _ hp) ?_
  rintro e _ ⟨rfl, rfl⟩
  have st6 := S5.on (bal (Below.refl _ w5) (.cells #[.int .u8 (p / 256), .int .u8 (p % 256)] 5))
  have O6 : OwnK .u8 (w5.alloc (.cells #[.int .u8 (p / 256), .int .u8 (p % 256)] 5)) w.heap.size v5 ([2] ++ M.two r ++ M.two s) := Own.alloc P5 _
  have T6 := two_own w5 p
  refine ⟨_, rfl, hK _ _ st6 ?_⟩
  clear hK K
  simp only [Act.put, List.setIfInBounds_toArray, List.set_cons_zero, List.set_cons_succ]
  refine line_alone rfl (by kernel_rfl) (fun K hK => ?_)
  refine wp_append_src _ (.tmp 17) (.tmp 22) 22 22 rfl w.heap.size 5 i0 (.int .u8 0) 1 1 Tryz.underlying22 hi0 hz0 hz1 hz2 rfl _ _ _ rfl O6 _ 2 _ rfl (T6.src6 (two_byte hp)) (by simp only [maxLen, M.two, List.length_append, List.length_cons, List.length_nil]; omega) (by simp only [M.two, List.length_append, List.length_cons, List.length_nil]; omega) st6.out.size (fun v6 w6 hown hgrow hat => ?_)
  have b6 : Below w.heap.size w w6 := Own.grown O6 st6.out st6.out.size hgrow
  have P6 : OwnK .u8 w6 w.heap.size v6 ([2] ++ M.two r ++ M.two s ++ M.two p) := by
    unfold OwnK
    rw [List.length_append, List.map_append]
    exact hown
  have S6 : Bel w w6 := ⟨b6⟩
  refine hK _ _ S6 ?_
  clear hK K hown hgrow hat O6 T6 st6 P5 S5 b6
  simp only [Act.put, List.setIfInBounds_toArray, List.set_cons_zero, List.set_cons_succ]
  obtain ⟨a7, c7, hv7, -⟩ := P6.form
  have HT := Lib.hid (And.intro (show OwnK .u8 w6 w.heap.size v6 (frontR r s p) from P6) S6.out)
  clear P6 S6
  subst hv7
  iterate 1 (refine line_read rfl (by kernel_rfl) (fun K hK => ?_); go_big_quiet_op; refine hK _ ?_; clear hK K)
  refine line_nil ?_
  go_wp2_with fail
  go_ret
  exact ⟨_, _, _, rfl, HT.out.1, HT.out.2⟩

theorem l6PackReply_any (g : Nat) (r s p x y f : Int) (w : World) (hA : At g (RL6 r s p x y f) w) (h : repF r s p x y f = 0) :
    Calls Tryz.prog 37 #[.pointer (some ⟨g, 0, none⟩)] w (Made (packR r s p x y f) w) := by
  obtain ⟨hr, hs, hp, hf, hg⟩ := repF_zero h
  obtain ⟨hxs, hys⟩ := sig_sums hg
  obtain ⟨i0, hi0, hz0, hz1, hz2⟩ := info_parts u8_info
  have P1 := fun w hA => l6Front_any g r s p x y f w hA hr (pub_sum6 hs) (pub_sum6 hp)
  have P2 := fun w d3 d4 => l3Pack3_any g x y w d3 d4 hxs hys
  have hby : ∀ z ∈ M.two x ++ M.two y, M.byteB z := fun z hz => by
    rcases List.mem_append.1 hz with h | h
    · exact two_byte hxs z h
    · exact two_byte hys z h
  clear h
  go_enter Tryz.func37, Tryz.ntmps37
  go_wp2_with fail
  refine wp_region_line (Bel w) [(0, true), (2, true), (3, true), (4, true), (1, false), (5, false), (6, false), (7, true)] (by kernel_rfl) (by kernel_rfl) (fun _ _ d _ _ h => by cases d <;> exact h) (Bel.drew w) ?_
  have hst := Bel.drew w
  have inst : Nonempty (Of (Bel w)) := ⟨⟨_, hst⟩⟩
  have eV := Lib.hid (show w.drew.heap.size = w.heap.size from rfl)
  generalize w.drew = V at *
  iterate 4 (refine line_read rfl (by kernel_rfl) (fun K hK => ?_); go_big_quiet_op; refine hK _ ?_; clear hK K)
  refine line_alone rfl (by kernel_rfl) (fun K hK => ?_)
  refine call_any (args := #[.pointer (some ⟨g, 0, none⟩)]) rfl (by kernel_rfl) (by kernel_rfl) (P1 _ (hA.on hst.out)) ?_
  rintro e w1 ⟨a1, n1, c1, rfl, O1, b1⟩
  have l1 : n1 = 7 := O1.len
  subst l1
  have st1 := hst.on b1
  refine ⟨_, rfl, hK _ _ st1 ?_⟩
  clear hK K
  simp only [Act.put, List.setIfInBounds_toArray, List.set_cons_zero, List.set_cons_succ]
  have A1 := hA.on st1.out
  refine line_alone rfl (by kernel_rfl) (fun K hK => ?_)
  refine call_any (args := #[.pointer (some ⟨g, 3, none⟩)]) rfl (by kernel_rfl) (by kernel_rfl) (P2 _ (A1.cell 3 _ rfl) (A1.cell 4 _ rfl)) ?_
  rintro e w2 ⟨a2, n2, c2, rfl, O2, b2⟩
  have l2 : n2 = 4 := O2.len
  subst l2
  have st2 := st1.on b2
  have O1' : OwnK .u8 w2 w.heap.size (.slice a1 7 c1) (frontR r s p) := (Own.below O1 b2).less (Nat.le_of_eq eV.out.symm)
  refine ⟨_, rfl, hK _ _ st2 ?_⟩
  clear hK K
  simp only [Act.put, List.setIfInBounds_toArray, List.set_cons_zero, List.set_cons_succ]
  refine line_alone rfl (by kernel_rfl) (fun K hK => ?_)
  refine wp_append_src _ (.tmp 5) (.tmp 9) 22 22 rfl w.heap.size 5 i0 (.int .u8 0) 1 1 Tryz.underlying22 hi0 hz0 hz1 hz2 rfl _ _ _ rfl O1' _ 4 _ rfl (O2.src6 hby) (by rw [frontR_length]; simp only [maxLen]; omega) (by rw [frontR_length]; omega) st2.out.size (fun v3 w3 hown hgrow hat => ?_)
  have b3 : Below w.heap.size w w3 := Own.grown O1' st2.out st2.out.size hgrow
  have O3 : OwnK .u8 w3 w.heap.size v3 (frontR r s p ++ (M.two x ++ M.two y)) := by
    unfold OwnK
    rw [List.length_append, List.map_append]
    exact hown
  refine hK _ _ ⟨b3⟩ ?_
  clear hK K hown hgrow hat O1' O1 O2 st1 st2 hst b1 b2 P1 P2 A1
  simp only [Act.put, List.setIfInBounds_toArray, List.set_cons_zero, List.set_cons_succ]
  iterate 1 (refine line_read rfl (by kernel_rfl) (fun K hK => ?_); go_big_quiet_op; refine hK _ ?_; clear hK K)
  refine line_nil ?_
  have d5 := (hA.on b3).cell 5 _ rfl
  clear inst
  go_wp2_with fail
  refine (l1Two_any f _ hf).mono ?_
  rintro e w4 ⟨rfl, rfl⟩
  have O4 : OwnK .u8 (w3.alloc (.cells #[.int .u8 (f / 256), .int .u8 (f % 256)] 5)) w.heap.size v3 (frontR r s p ++ (M.two x ++ M.two y)) := Own.alloc O3 _
  have T4 := (two_own w3 f).src6 (two_byte hf)
  have b4 := bal b3 (.cells #[.int .u8 (f / 256), .int .u8 (f % 256)] 5)
  have hle := b4.size
  have hlen : (frontR r s p ++ (M.two x ++ M.two y)).length = 11 := rfl
  go_wp2_with (at_builtin; refine wpList_append_src _ rfl (.tmp 11) (.tmp 16) 22 22 rfl w.heap.size 5 i0 (.int .u8 0) 1 1 Tryz.underlying22 hi0 hz0 hz1 hz2 rfl _ _ _ rfl O4 _ 2 _ rfl T4 (by rw [hlen]; simp only [maxLen]; omega) (by rw [hlen]; omega) hle ?_; intro v5 w5 hown hgrow hat)
  have b5 : Below w.heap.size w w5 := Own.grown O4 b4 hle hgrow
  have O5 : OwnK .u8 w5 w.heap.size v5 (packR r s p x y f) := by
    unfold OwnK packR
    generalize frontR r s p ++ (M.two x ++ M.two y) = L at hown ⊢
    rw [List.length_append, List.map_append]
    exact hown
  obtain ⟨a5, c5, hv5, -⟩ := O5.form
  have HT := Lib.hid (And.intro O5 b5)
  clear hown hgrow hat O4 T4 b4 O5 b5 O3 b3
  subst hv5
  go_wp2_with fail
  go_ret
  exact ⟨_, _, _, rfl, HT.out.1, HT.out.2⟩
end Go.Proofs.YtepailfhagaboaaGreatDoor
