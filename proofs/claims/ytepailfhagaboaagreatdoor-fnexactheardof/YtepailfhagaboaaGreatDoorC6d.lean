/- Contracts of how a hello is laid into bytes, by the program and by its model. Conditions: as each theorem states. -/
import Derived.Test.YtepailfhagaboaaGreatDoorC6a
import Derived.Test.YtepailfhagaboaaGreatDoorC5j
import Derived.Test.YtepailfhagaboaaGreatDoorL0
namespace Go.Proofs.YtepailfhagaboaaGreatDoor
open Go.RowKit
set_option maxRecDepth 100000
set_option linter.unusedVariables false

/-- A mark, and numbers in two bytes each. -/
def headL (m : Int) (zs : List Int) : List Int := m :: zs.flatMap M.two
def HeadRel (w : World) (m : Int) (zs : List Int) (k : Nat) (v : Value) (wr : World) : Prop := OwnK .u8 wr w.heap.size v (headL m (zs.take k)) ∧ Below w.heap.size w wr
theorem headL_take (m : Int) (zs : List Int) (k : Nat) (hk : k < zs.length) : headL m (zs.take k) ++ M.two (zs[k]?.getD 0) = headL m (zs.take (k + 1)) := by
  have e : zs.take (k + 1) = zs.take k ++ [zs[k]] := List.take_succ_eq_append_getElem hk
  rw [e, List.getElem?_eq_getElem hk]
  simp only [headL, List.flatMap_append, List.flatMap_cons, List.flatMap_nil, List.append_nil, List.cons_append, Option.getD_some]
theorem headL_length (m : Int) : ∀ zs : List Int, (headL m zs).length = 1 + 2 * zs.length
  | [] => rfl
  | z :: r => by
    have := headL_length m r
    simp only [headL, List.length_cons, List.flatMap_cons, List.length_append, M.two, List.length_nil] at *
    omega
theorem HeadRel.step {w w1 w2 : World} {m : Int} {zs : List Int} {k : Nat} {v v' : Value} (h : HeadRel w m zs k v w1) (hk : k < zs.length) (ho : OwnK .u8 w2 w.heap.size v' (headL m (zs.take k) ++ M.two (zs[k]?.getD 0))) (hg : w1.grownBy w2 v.ownBlock) : HeadRel w m zs (k + 1) v' w2 :=
  ⟨by rw [← headL_take m zs k hk]; exact ho, h.1.grown h.2 h.2.size hg⟩
theorem wordHead_any (m : Int) (a : Option Addr) (len cap B : Nat) (zs : List Int) (w : World) (hR : Row .i64 w B a len cap zs) (hB : B ≤ w.heap.size) (hz : zs.all M.sumB = true) (hl : len ≤ 10) :
    Calls Tryz.prog 87 #[.int .u8 m, .slice a len cap] w (Made (headL m zs) w) := by
  have hL := Lib.hid hR.length
  have HZ := Lib.hid hz
  have O0 : OwnK .u8 (w.alloc (.cells #[.int .u8 m] 5)) w.heap.size (.slice (some ⟨w.heap.size, 0, none⟩) 1 1) [m] := own_lit (k := .u8) w [m] 1 5 (Nat.le_refl _) rfl (by simp only [maxLen]; omega)
  have T1 : HeadRel w m zs 0 (.slice (some ⟨w.heap.size, 0, none⟩) 1 1) (w.alloc (.cells #[.int .u8 m] 5)) := ⟨by simpa [headL] using O0, bal (Below.refl _ _) _⟩
  clear hz O0
  go_enter Tryz.func87, Tryz.ntmps87
  go_wp2_with fail
  generalize w.alloc (.cells #[.int .u8 m] 5) = W0 at *
  go_loopw [5, 12] (fun v i wr => ∃ k : Nat, k ≤ len ∧ i = .int .i64 k ∧ HeadRel w m zs k v wr) (fun _ i _ => len - (intOf i).toNat)
  case atStart => exact ⟨0, Nat.zero_le _, rfl, T1⟩
  case round =>
    obtain ⟨k, hk, rfl, hT⟩ := hrel
    by_cases hlt : k < len
    · obtain ⟨b, off, ha, hb, hc⟩ := hR.cells (by omega)
      have hcell := (hT.2.cell (p := ⟨b, off + k, none⟩) (by show b < _; omega)).trans (hc k hlt)
      simp only [List.getD_eq_getElem?_getD] at hcell
      clear hc
      have hzk : M.sumB (zs[k]?.getD 0) = true := List.all_eq_true.1 HZ.out _ (by simp [show k < zs.length by rw [hL.out]; exact hlt])
      have HK := Lib.hid hzk
      have hlen : (headL m (zs.take k)).length ≤ 1000000 := by rw [headL_length]; simp; omega
      subst ha
      clear hzk
      go_wp2_with fail
      refine (appendTwo_any _ _ _ _ _ hT.1 hT.2.size HK.out hlen).mono ?_
      rintro r w2 ⟨v2, rfl, ho2, hg2⟩
      have T2 := hT.step (by rw [hL.out]; exact hlt) ho2 hg2
      clear ho2 hg2 hT hcell HK hlen
      go_wp2_with fail
      go_roundw
      case rel => exact ⟨k + 1, by omega, by go_num, T2⟩
      case measure => simp [intOf]; omega
    · obtain rfl : k = len := by omega
      have hT' := hT
      rw [← hL.out] at hT'
      obtain ⟨ho, hb⟩ := hT'
      rw [List.take_length] at ho
      obtain ⟨a', c', hv, -⟩ := ho.form
      have HB := Lib.hid (And.intro ho hb)
      clear hT ho hb
      subst hv
      go_wp2_with fail
      go_ret
      exact ⟨_, _, _, rfl, HB.out.1, HB.out.2⟩

theorem bytes_cells (n : ByteArray) : (M.textL n).map (Value.int .u8) = byteCells n := by simp [M.textL, byteCells, List.map_map, Function.comp_def]
theorem wordBytes_hello (r s : Int) (n : ByteArray) (w : World) (h : helF n.data.toList r s = 0) :
    Calls Tryz.prog 65 #[.iface 26 (H3 r s n)] w (Made (packH n r s) w) := by
  obtain ⟨hr, hs, -⟩ := helF_zero h
  have hn := hel_size h
  have hss := pub_sum6 hs
  obtain ⟨i0, hi0, hz0, hz1, hz2⟩ := info_parts u8_info
  have ta : ∀ W : World, (Instr.typeAssert (.iface 26 (H3 r s n)) 70 26 true).run Tryz.prog W = .ok (.tuple #[H3 r s n, .bool true]) W := fun _ => by kernel_rfl
  have A0 := At.new w (HL3 r s n) 26
  have b0 := bal (Below.refl _ w) (.cells #[.int .i64 r, .int .i64 s, .string n] 26)
  have hall : [r, s].all M.sumB = true := by simp [hr, hss]
  clear h
  go_enter Tryz.func65, Tryz.ntmps65
  go_wp2_with fail
  generalize w.alloc (.cells #[.int .i64 r, .int .i64 s, .string n] 26) = W0 at *
  have d0 := A0.cell 0 _ rfl
  have d1 := A0.cell 1 _ rfl
  have d2 := A0.cell 2 _ rfl
  refine wp_region_line (Bel W0) [(0, true), (1, true), (2, true), (3, true), (6, true), (7, true), (4, false), (5, false), (8, false), (9, true)] (by kernel_rfl) (by kernel_rfl) (fun _ _ d _ _ h => by cases d <;> exact h) (Bel.drew W0) ?_
  have hst := Bel.drew W0
  have inst : Nonempty (Of (Bel W0)) := ⟨⟨_, hst⟩⟩
  have u0 := bel_cell d0
  have u1 := bel_cell d1
  have u2 := bel_cell d2
  generalize W0.drew = V1 at *
  iterate 6 (refine line_read rfl (by kernel_rfl) (fun K hK => ?_); go_big_quiet_op; refine hK _ ?_; clear hK K)
  refine line_alone rfl (by kernel_rfl) (fun K hK => ?_)
  go_big_op
  refine hK _ _ (hst.on (bal (Below.refl _ V1) _)) ?_
  clear hK K
  have st2 := hst.on (bal (Below.refl _ V1) (.cells #[.int .i64 r, .int .i64 s] 2))
  have R2 := row_two (w := V1) r s 2 hr hss
  have lt2 : V1.heap.size + 1 ≤ (V1.alloc (.cells #[.int .i64 r, .int .i64 s] 2)).heap.size := by simp
  generalize V1.alloc (.cells #[.int .i64 r, .int .i64 s] 2) = V2 at *
  refine line_alone rfl (by kernel_rfl) (fun K hK => ?_)
  refine call_any (args := #[.int .u8 1, .slice (some ⟨V1.heap.size, 0, none⟩) 2 2]) rfl (by kernel_rfl) (by kernel_rfl) (wordHead_any 1 _ 2 2 _ [r, s] V2 R2 lt2 hall (by omega)) ?_
  rintro e V3 ⟨a3, n3, c3, rfl, O3, b3⟩
  have l3 : n3 = 5 := O3.len
  subst l3
  have st3 := st2.on b3
  refine ⟨_, rfl, hK _ _ st3 ?_⟩
  clear hK K
  simp only [Act.put, List.setIfInBounds_toArray, List.set_cons_zero, List.set_cons_succ]
  have hz3 := b3.size
  refine line_alone rfl (by kernel_rfl) (fun K hK => ?_)
  refine wp_append_src _ (.tmp 15) (.tmp 17) 22 9 rfl V2.heap.size 5 i0 (.int .u8 0) 1 1 Tryz.underlying22 hi0 hz0 hz1 hz2 rfl _ _ _ rfl O3 _ n.size _ rfl (Src.ofString (P := Tryz.prog) V3 (tx := 9) Tryz.underlying9 n) (by rw [headL_length]; simp only [maxLen, List.length_cons, List.length_nil]; omega) (by rw [headL_length]; simp only [List.length_cons, List.length_nil]; omega) hz3 (fun v4 w4 hown hgrow hat => ?_)
  have b4 : Below V2.heap.size V2 w4 := Own.grown O3 b3 hz3 hgrow
  have O4 : OwnK .u8 w4 V2.heap.size v4 (packH n r s) := by
    have e : packH n r s = headL 1 [r, s] ++ M.textL n := by simp [packH, helHead, headL]
    unfold OwnK
    rw [e, List.length_append, M.textL_length, List.map_append, bytes_cells]
    exact hown
  have st4 := st2.on b4
  refine hK _ _ st4 ?_
  have B4 := btr b0 st4.out
  obtain ⟨a4, c4, hv4, -⟩ := O4.form
  have hle : w.heap.size ≤ V2.heap.size := (btr b0 st2.out).size
  have HT := Lib.hid (And.intro (O4.less hle) B4)
  clear hK K hown hgrow hat O3 O4 b3 b4 B4 st3 st4 st2
  subst hv4
  simp only [Act.put, List.setIfInBounds_toArray, List.set_cons_zero, List.set_cons_succ]
  iterate 1 (refine line_read rfl (by kernel_rfl) (fun K hK => ?_); go_big_quiet_op; refine hK _ ?_; clear hK K)
  refine line_nil ?_
  go_wp2_with fail
  go_ret
  exact ⟨_, _, _, rfl, HT.out.1, HT.out.2⟩
theorem helloFault_method (r s : Int) (n : ByteArray) (w : World) (hn : n.size ≤ maxLen) :
    Calls Tryz.prog 153 #[H3 r s n] w fun e w' => e = .returned (.int .i64 (helF n.data.toList r s)) ∧ Below w.heap.size w w' := by
  have b0 := bal (Below.refl _ w) (.cells #[.int .i64 r, .int .i64 s, .string n] 26)
  have F := fun w => implHelloFault_any r s n w hn
  go_enter Tryz.func153, Tryz.ntmps153
  go_wp2_with fail
  refine (F _).mono ?_
  rintro e u1 ⟨rfl, b1⟩
  have hb := btr b0 b1
  go_wp2_with fail
  go_ret
  exact ⟨rfl, hb⟩
theorem packWord_hello (r s : Int) (n : ByteArray) (w : World) (hn : n.size ≤ maxLen) :
    Calls Tryz.prog 40 #[.iface 26 (H3 r s n)] w (BytesRes (helF n.data.toList r s) (packHL n r s) w) := by
  have hm : ∀ w : World, (method 337 26 (H3 r s n) "loop.example/g00618/impl.fault").run Tryz.prog w = .ok (153, H3 r s n) w := fun _ => by kernel_rfl
  have F := fun w => helloFault_method r s n w hn
  have A0 := At.new w [.int .i64 0, .slice none 0 0] 39
  have b0 := bal (Below.refl _ w) (.cells #[.int .i64 0, .slice none 0 0] 39)
  by_cases h : helF n.data.toList r s = 0
  · have e : packHL n r s = packH n r s := by simp [packHL, h]
    rw [e]
    have P1 := fun w => wordBytes_hello r s n w h
    simp only [h] at F ⊢
    clear e h
    go_enter Tryz.func40, Tryz.ntmps40
    go_wp2_with fail
    generalize w.alloc (.cells #[.int .i64 0, .slice none 0 0] 39) = W0 at *
    refine (F _).mono ?_
    rintro e u1 ⟨rfl, b1⟩
    go_wp2_with fail
    refine (P1 _).mono ?_
    rintro e u2 ⟨a2, n2, c2, rfl, O2, b2⟩
    have lt1 : w.heap.size < u1.heap.size := (A0.on b1).lt (by simp)
    have p0 := ((A0.on b1).on b2).cell 0 _ rfl
    have p1 := ((A0.on b1).on b2).cell 1 _ rfl
    have z0 := ((A0.on b1).on b2).free 0 _ rfl
    have z1 := ((A0.on b1).on b2).free 1 _ rfl
    have HT := Lib.hid (And.intro O2 (btr b0 (btr b1 b2)))
    have hzs := (btr b0 b1).size
    clear A0 O2 b2 b1 b0
    go_wp2_with fail
    refine bodyPost_ret (v := .agg #[.int .i64 0, .slice a2 n2 c2]) (by simp [results, Tryz.results40, go_sem, p0, p1]) rfl ?_
    exact ⟨_, _, _, rfl, (by (iterate 2 (refine Own.setCell ?_ (fun g hg => by have := (HT.out.1.lt g hg).1; dsimp only; omega) _)); exact HT.out.1.less (by omega)), (by (iterate 2 (refine bset ?_ (by dsimp only; omega) _)); exact HT.out.2)⟩
  · have e : packHL n r s = [] := by simp [packHL, h]
    rw [e]
    generalize helF n.data.toList r s = cd at *
    clear e
    go_enter Tryz.func40, Tryz.ntmps40
    go_wp2_with fail
    generalize w.alloc (.cells #[.int .i64 0, .slice none 0 0] 39) = W0 at *
    refine (F _).mono ?_
    rintro e u1 ⟨rfl, b1⟩
    have q0 := (A0.on b1).cell 0 _ rfl
    have q1 := (A0.on b1).cell 1 _ rfl
    have z0 := (A0.on b1).free 0 _ rfl
    have z1 := (A0.on b1).free 1 _ rfl
    have hb := btr b0 b1
    clear A0 b0 b1 F
    go_wp2_with fail
    refine bodyPost_ret (v := .agg #[.int .i64 cd, .slice none 0 0]) (by simp [results, Tryz.results40, go_sem, q0, q1]) rfl ?_
    exact ⟨_, _, _, rfl, Own.nil _ _ _, (by (iterate 2 (refine bset ?_ (by dsimp only; omega) _)); exact hb)⟩
theorem implPackHello_any (r s : Int) (n : ByteArray) (w : World) (hn : n.size ≤ maxLen) :
    Calls Tryz.prog 11 #[H3 r s n] w (BytesRes (helF n.data.toList r s) (packHL n r s) w) := by
  have F := fun w => packWord_hello r s n w hn
  have b0 := bal (bal (Below.refl _ w) (.cells #[.int .i64 r, .int .i64 s, .string n] 26)) (.cells #[.int .i64 0, .slice none 0 0] 39)
  have A2 := At.new (w.alloc (.cells #[.int .i64 r, .int .i64 s, .string n] 26)) [.int .i64 0, .slice none 0 0] 39
  simp only [World.size_alloc] at A2
  generalize helF n.data.toList r s = cd at *
  generalize packHL n r s = zs at *
  go_enter Tryz.func11, Tryz.ntmps11
  go_wp2_with fail
  generalize (w.alloc (.cells #[.int .i64 r, .int .i64 s, .string n] 26)).alloc (.cells #[.int .i64 0, .slice none 0 0] 39) = W0 at *
  refine (F _).mono ?_
  rintro e u1 ⟨a2, n2, c2, rfl, O2, b2⟩
  have lt1 : w.heap.size + 1 < W0.heap.size := A2.lt (by simp)
  have p0 := (A2.on b2).cell 0 _ rfl
  have p1 := (A2.on b2).cell 1 _ rfl
  have z0 := (A2.on b2).free 0 _ rfl
  have z1 := (A2.on b2).free 1 _ rfl
  have HT := Lib.hid (And.intro O2 (btr b0 b2))
  clear A2 O2 b2 b0
  go_wp2_with fail
  refine bodyPost_ret (v := .agg #[.int .i64 cd, .slice a2 n2 c2]) (by simp [results, Tryz.results11, go_sem, p0, p1]) rfl ?_
  exact ⟨_, _, _, rfl, (by (iterate 2 (refine Own.setCell ?_ (fun g hg => by have := (HT.out.1.lt g hg).1; dsimp only; omega) _)); exact HT.out.1.less (by omega)), (by (iterate 2 (refine bset ?_ (by dsimp only; omega) _)); exact HT.out.2)⟩
end Go.Proofs.YtepailfhagaboaaGreatDoor
