/- Contracts of how data is turned by a stream and how records are tagged, by the model. Conditions: as each theorem states. -/
import Derived.Test.YtjlhldndomaknaaDoorC4b
import Derived.Test.YtjlhldndomaknaaDoorL4
import Derived.Test.YtjlhldndomaknaaDoorMath4b
import Derived.BigRegion
namespace Go.Proofs.YtjlhldndomaknaaDoor
open Go.RowKit
set_option maxRecDepth 100000
set_option linter.unusedVariables false

theorem xor_two {x y : Int} (hx : M.byteB x) (hy : M.byteB y) : bits .xor .u8 x y = M.xorB x y := by
  unfold M.byteB at hx hy
  obtain ⟨a, rfl⟩ := Int.eq_ofNat_of_zero_le hx.1
  obtain ⟨b, rfl⟩ := Int.eq_ofNat_of_zero_le hy.1
  have e1 : BitVec.ofInt 8 (a : Int) = BitVec.ofNat 8 a := BitVec.ofInt_natCast ..
  have e2 : BitVec.ofInt 8 (b : Int) = BitVec.ofNat 8 b := BitVec.ofInt_natCast ..
  show IntKind.u8.wrap ((BitVec.ofInt 8 (a : Int) ^^^ BitVec.ofInt 8 (b : Int)).toNat : Nat) = _
  rw [e1, e2, BitVec.toNat_xor, BitVec.toNat_ofNat, BitVec.toNat_ofNat, Nat.mod_eq_of_lt (by omega), Nat.mod_eq_of_lt (by omega)]
  have h : a ^^^ b < 2 ^ 8 := Nat.xor_lt_two_pow (by omega) (by omega)
  unfold M.xorB
  rw [Int.toNat_natCast, Int.toNat_natCast]
  simp only [IntKind.wrap, IntKind.signed, IntKind.bits]
  simp
  omega

structure MixRel (w : World) (key seq : Int) (zs : List Int) (n : Nat) (g c k : Nat) (wr : World) : Prop where
  own : OwnK .u8 wr w.heap.size (.slice (some ⟨g, 0, none⟩) n c) (M.mixL (M.turnB key seq) (fun i => M.xorB (zs.getD i 0) (M.turnB key seq i)) n k)
  bel : Below w.heap.size w wr

theorem l4Turn_pos (key seq : Int) (a : Option Addr) (n c B : Nat) (zs : List Int) (w : World) (hR : Row .u8 w B a n c zs) (hB : B ≤ w.heap.size) (hk : M.sumB key = true) (hs : M.sumB seq = true) (hn : n ≤ 200) (h0 : 0 < n) :
    Calls Tryd.prog 140 #[.int .i64 key, .int .i64 seq, .slice a n c] w (Made (M.turnL key seq zs) w) := by
  obtain ⟨b, off, rfl, hb, hc⟩ := hR.cells h0
  have hmost := hR.most
  have hfits := hR.fits
  unfold maxLen at hmost
  have HZ := Lib.hid hR.length
  have HC := Lib.hid hc
  have HBy := Lib.hid hR.byte
  have R1 := row_one0 (w := w) key 2 hk
  have b0 := bal (Below.refl _ w) (.cells #[.int .i64 key] 2)
  clear hc hR
  go_enter Tryd.func140, Tryd.ntmps140
  go_wp2_with fail
  refine (l2Tag_any M.streamS _ _ _ _ _ _ (by decide) R1 (by simp) (by simp [hk]) (by omega)).mono ?_
  rintro r w1 ⟨rfl, b1⟩
  have hks := M.tag_sum M.streamS [key]
  have S1 := fun w => l2Stream_any (M.tagL M.streamS [key]) seq n w hks hs hn
  have HE := Lib.hid (show M.streamL (M.tagL M.streamS [key]) seq n = M.mixL (M.turnB key seq) (fun i => M.xorB (zs.getD i 0) (M.turnB key seq i)) n 0 by rw [M.mixL_zero]; rfl)
  generalize M.tagL M.streamS [key] = K1 at *
  have b01 := btr b0 b1
  clear b0 b1 R1
  go_wp2_with fail
  refine (S1 _).mono ?_
  rintro r w2 ⟨a2, n2, c2, rfl, O2, b2⟩
  have l2 : n2 = n := O2.len.trans (M.streamL_length _ _ _)
  subst l2
  rw [HE.out] at O2
  have O2' := O2.less (B' := w.heap.size) b01.size
  have b02 := btr b01 b2
  obtain ⟨g, rfl⟩ : ∃ g, a2 = some ⟨g, 0, none⟩ := by
    rcases O2'.2 with ⟨e, hz⟩ | ⟨g, cap, e, _⟩
    · rw [M.mixL_length] at hz; omega
    · injection e with e1; exact ⟨g, e1⟩
  have T0 : MixRel w key seq zs n2 g c2 0 w2 := ⟨O2', b02⟩
  clear O2 O2' b2 b01 b02 S1 HE
  go_wp2_with fail
  go_loopw [8] (fun i wr => ∃ k : Nat, k ≤ n2 ∧ i = .int .i64 k ∧ MixRel w key seq zs n2 g c2 k wr) (fun i _ => n2 - (intOf i).toNat)
  case atStart => exact ⟨0, Nat.zero_le _, rfl, T0⟩
  case round =>
    obtain ⟨k, hkn, rfl, hT⟩ := hrel
    by_cases hlt : k < n2
    · have e1 := (hT.bel.cell (p := ⟨b, off + k, none⟩) (by show b < _; omega)).trans (HC.out k hlt)
      obtain ⟨x0, x1⟩ := HBy.out k
      have hl := M.mixL_length (M.turnB key seq) (fun i => M.xorB (zs.getD i 0) (M.turnB key seq i)) n2 k
      rcases hT.own.2 with ⟨e, hz⟩ | ⟨g', c', e, hBg, hg, hn1, hm1, hcell, hroom⟩
      · cases e
      injection e with ea eb ec
      injection ea with ea
      injection ea with ea
      subst ea
      subst ec
      have e2 := hcell k (.int .u8 (M.turnB key seq k)) (by simp [M.mixL, hlt])
      have f2 := (hroom k (by omega)).2
      unfold maxLen at hm1
      have hn1' : n2 ≤ c2 := by omega
      obtain ⟨t0, t1⟩ := M.turnB_byte key seq k
      simp only [List.getD_eq_getElem?_getD] at e1 x0 x1
      have hxor := xor_two (x := M.turnB key seq k) (y := zs[k]?.getD 0) ⟨t0, t1⟩ ⟨x0, x1⟩
      rw [M.xorB_comm] at hxor
      have T2 : MixRel w key seq zs n2 g c2 (k + 1) (wr.setCell ⟨g, k, none⟩ (.int .u8 (M.xorB (zs[k]?.getD 0) (M.turnB key seq k)))).drew := by
        have hp := hT.own.put (i := k) (m := M.xorB (zs[k]?.getD 0) (M.turnB key seq k)) (by rw [hl]; exact hlt)
        have es := M.mixL_set (M.turnB key seq) (fun i => M.xorB (zs.getD i 0) (M.turnB key seq i)) n2 k
        simp only [List.getD_eq_getElem?_getD] at es hp ⊢
        rw [es] at hp
        exact ⟨by unfold OwnK; simpa only [List.getD_eq_getElem?_getD] using hp.drew, (bset hT.bel hBg _).drew⟩
      clear hT hcell hroom hl eb hn1
      go_wp2_with fail
      go_region
      go_wp2_with fail
      go_roundw
      case rel => exact ⟨k + 1, by omega, by go_num, T2⟩
      case measure => simp [intOf]; omega
    · obtain rfl : k = n2 := by omega
      have hO := hT.own
      rw [M.mixL_all] at hO
      have HT := Lib.hid (And.intro hO hT.bel)
      clear hT hO
      go_wp2_with fail
      go_ret
      refine ⟨_, _, _, rfl, ?_, HT.out.2⟩
      unfold M.turnL
      rw [HZ.out]
      exact HT.out.1
theorem l4Turn_any (key seq : Int) (a : Option Addr) (n c B : Nat) (zs : List Int) (w : World) (hR : Row .u8 w B a n c zs) (hB : B ≤ w.heap.size) (hk : M.sumB key = true) (hs : M.sumB seq = true) (hn : n ≤ 200) :
    Calls Tryd.prog 140 #[.int .i64 key, .int .i64 seq, .slice a n c] w (Made (M.turnL key seq zs) w) := by
  rcases Nat.eq_zero_or_pos n with h0 | h0
  · subst h0
    obtain rfl : zs = [] := List.eq_nil_of_length_eq_zero hR.length
    have R1 := row_one0 (w := w) key 2 hk
    have b0 := bal (Below.refl _ w) (.cells #[.int .i64 key] 2)
    clear hR
    go_enter Tryd.func140, Tryd.ntmps140
    go_wp2_with fail
    refine (l2Tag_any M.streamS _ _ _ _ _ _ (by decide) R1 (by simp) (by simp [hk]) (by omega)).mono ?_
    rintro r w1 ⟨rfl, b1⟩
    have hks := M.tag_sum M.streamS [key]
    have S1 := fun w => l2Stream_any (M.tagL M.streamS [key]) seq 0 w hks hs (by omega)
    generalize M.tagL M.streamS [key] = K1 at *
    have b01 := btr b0 b1
    clear b0 b1 R1
    go_wp2_with fail
    refine (S1 _).mono ?_
    rintro r w2 ⟨a2, n2, c2, rfl, O2, b2⟩
    have HT := Lib.hid (And.intro (O2.less (B' := w.heap.size) b01.size) (btr b01 b2))
    clear O2 b01 b2 S1
    go_wp2_with fail
    refine wp_loop_rounds 1 ?_
    rw [rounds_succ]; go_wp2_with fail
    go_ret
    exact ⟨_, _, _, rfl, HT.out.1, HT.out.2⟩
  · exact l4Turn_pos key seq a n c B zs w hR hB hk hs hn h0

theorem row_quad {w : World} (x y z v : Int) (t : TypeId) (hx : M.sumB x = true) (hy : M.sumB y = true) (hz : M.sumB z = true) (hv : M.sumB v = true) : Row .i64 (w.alloc (.cells #[.int .i64 x, .int .i64 y, .int .i64 z, .int .i64 v] t)) (w.heap.size + 1) (some ⟨w.heap.size, 0, none⟩) 4 4 [x, y, z, v] :=
  row_at w.heap.size 4 [x, y, z, v] t (MapKept.heap_alloc w _).1 rfl (by simp only [maxLen]; omega) (fun u hu => by
    simp at hu
    rcases hu with rfl | rfl | rfl | rfl
    · exact sum_wf hx
    · exact sum_wf hy
    · exact sum_wf hz
    · exact sum_wf hv)

set_option maxHeartbeats 2000000 in
theorem l4Tag_any (g : Nat) (key s k : Int) (a : Option Addr) (n c : Nat) (t : Int) (B : Nat) (zs : List Int) (w : World) (hA : At g (L4 s k a n c t) w) (hR : Row .u8 w B a n c zs) (hB : B ≤ w.heap.size) (hk : M.sumB key = true) (hs : M.sumB s = true) (hd : M.sumB k = true) :
    Calls Tryd.prog 141 #[.int .i64 key, .pointer (some ⟨g, 0, none⟩)] w fun r w' => r = .returned (.int .i64 (M.recT key s k zs)) ∧ Below w.heap.size w w' := by
  have d0 := hA.cell 0 _ rfl
  have d1 := hA.cell 1 _ rfl
  have d2 := hA.cell 2 _ rfl
  have d3 := hA.cell 3 _ rfl
  have hm := M.tag_sum M.macS [key]
  have hq := M.sumL_sum zs
  unfold M.recT
  go_enter Tryd.func141, Tryd.ntmps141
  go_wp2_with fail
  refine wp_region_line (Bel w) [(0, true), (3, true), (4, true), (5, true), (6, true), (7, true), (8, true), (9, true), (10, true), (11, true), (12, true), (13, true), (14, true), (1, false), (2, false), (15, false), (16, false), (17, false), (18, true)] (by kernel_rfl) (by kernel_rfl) (fun _ _ d _ _ h => by cases d <;> exact h) (Bel.drew w) ?_
  have hst := Bel.drew w
  have inst : Nonempty (Of (Bel w)) := ⟨⟨_, hst⟩⟩
  have u0 := bel_cell d0
  have u1 := bel_cell d1
  have u2 := bel_cell d2
  generalize w.drew = V at *
  iterate 13 (refine line_read rfl (by kernel_rfl) (fun K hK => ?_); go_big_quiet_op; refine hK _ ?_; clear hK K)
  refine line_alone rfl (by kernel_rfl) (fun K hK => ?_)
  go_big_op
  refine hK _ _ (hst.on (bal (Below.refl _ V) _)) ?_
  clear hK K
  have st1 := hst.on (bal (Below.refl _ V) (.cells #[.int .i64 key] 2))
  have R1 := row_one0 (w := V) key 2 hk
  refine line_alone rfl (by kernel_rfl) (fun K hK => ?_)
  refine call_wp (args := #[.string M.macS, .slice (some ⟨V.heap.size, 0, none⟩) 1 1]) rfl (by kernel_rfl) (by kernel_rfl) (l2Tag_any M.macS _ _ _ _ [key] _ (by decide) R1 (by simp) (by simp [hk]) (by omega)) (fun w2 b2 => ?_)
  have st2 := st1.on b2
  refine hK _ _ st2 ?_
  clear hK K st1 b2 R1 hst
  simp only [Act.put, List.setIfInBounds_toArray, List.set_cons_zero, List.set_cons_succ]
  refine line_alone rfl (by kernel_rfl) (fun K hK => ?_)
  refine call_wp (args := #[.slice a n c]) rfl (by kernel_rfl) (by kernel_rfl) (l2Sum_any _ _ _ _ zs _ (hR.below (st2.out.mono hB))) (fun w3 b3 => ?_)
  subst b3
  refine hK _ _ st2 ?_
  clear hK K
  simp only [Act.put, List.setIfInBounds_toArray, List.set_cons_zero, List.set_cons_succ]
  refine line_alone rfl (by kernel_rfl) (fun K hK => ?_)
  go_big_op
  refine hK _ _ (st2.on (bal (Below.refl _ w2) _)) ?_
  clear hK K
  have st3 := st2.on (bal (Below.refl _ w2) (.cells #[.int .i64 (M.tagL M.macS [key]), .int .i64 s, .int .i64 k, .int .i64 (M.sumL zs)] 2))
  have R3 := row_quad (w := w2) (M.tagL M.macS [key]) s k (M.sumL zs) 2 hm hs hd hq
  refine line_alone rfl (by kernel_rfl) (fun K hK => ?_)
  refine call_wp (args := #[.string M.sealS, .slice (some ⟨w2.heap.size, 0, none⟩) 4 4]) rfl (by kernel_rfl) (by kernel_rfl) (l2Tag_any M.sealS _ _ _ _ [(M.tagL M.macS [key]), s, k, (M.sumL zs)] _ (by decide) R3 (by simp) (by simp [hm, hs, hd, hq]) (by omega)) (fun w4 b4 => ?_)
  have st4 := st3.on b4
  refine hK _ _ st4 ?_
  clear hK K st3 b4 R3 st2
  simp only [Act.put, List.setIfInBounds_toArray, List.set_cons_zero, List.set_cons_succ]
  iterate 1 (refine line_read rfl (by kernel_rfl) (fun K hK => ?_); go_big_quiet_op; refine hK _ ?_; clear hK K)
  refine line_nil ?_
  have hb := st4.out
  go_wp2_with fail
  go_ret
  exact ⟨rfl, hb⟩

set_option maxHeartbeats 1000000 in
theorem l4Seal_any (key s k : Int) (a : Option Addr) (n c B : Nat) (zs : List Int) (w : World) (hR : Row .u8 w B a n c zs) (hB : B ≤ w.heap.size) (hk : M.sumB key = true) (hs : M.sumB s = true) (hd : M.sumB k = true) (hn : n ≤ 200) :
    Calls Tryd.prog 118 #[.int .i64 key, .int .i64 s, .int .i64 k, .slice a n c] w (RecMade s k n (M.turnL key s zs) (M.recT key s k (M.turnL key s zs)) w) := by
  have b0 := bal (Below.refl _ w) (.cells #[.int .i64 0, .int .i64 0, .slice none 0 0, .int .i64 0] 66)
  have A0 := At.new w (L4 0 0 none 0 0 0) 66
  have R0 := hR.below (b0.mono hB)
  have HL := Lib.hid ((M.turnL_length key s zs).trans hR.length)
  have HW := Lib.hid (fun z hz => byte_wf (M.turnL_byte (key := key) (seq := s) hR.bytes z hz))
  have T1 := l4Turn_any key s a n c B zs _ R0 (by have := b0.size; omega) hk hs hn
  have T2 := fun g a n c t B w hA hR hB => l4Tag_any g key s k a n c t B (M.turnL key s zs) w hA hR hB hk hs hd
  generalize M.turnL key s zs = ys at *
  generalize M.recT key s k ys = tg at *
  clear R0 hR
  go_enter Tryd.func118, Tryd.ntmps118
  go_wp2_with fail
  generalize w.alloc (.cells #[.int .i64 0, .int .i64 0, .slice none 0 0, .int .i64 0] 66) = W0 at *
  refine T1.mono ?_
  rintro r w1 ⟨a1, n1, c1, rfl, O1, b1⟩
  have l1 : n1 = n := O1.len.trans HL.out
  subst l1
  have bb := bal b1 (.cells #[.int .i64 s, .int .i64 k, .slice a1 n1 c1, .int .i64 0] 66)
  have A1 := At.new w1 (L4 s k a1 n1 c1 0) 66
  have O1a := O1.alloc (.cells #[.int .i64 s, .int .i64 k, .slice a1 n1 c1, .int .i64 0] 66)
  have A0a := A0.on bb
  have lt0 : w.heap.size < w1.heap.size := (A0.on b1).lt (by simp)
  have off1 := O1.offHi (Nat.le_refl _)
  have off0 := O1.offLo (g := w.heap.size) (A0.lt (by simp))
  have leW : w.heap.size ≤ W0.heap.size := b0.size
  have B1 := btr b0 bb
  clear T1 O1 b1 bb A0 b0
  go_wp2_with fail
  generalize w1.alloc (.cells #[.int .i64 s, .int .i64 k, .slice a1 n1 c1, .int .i64 0] 66) = v1 at *
  refine (T2 _ _ _ _ _ _ _ A1 (Own.row O1a HW.out) (Nat.le_refl _)).mono ?_
  rintro r w2 ⟨rfl, b2⟩
  have p0 := (A1.on b2).cell 0 _ rfl
  have p1 := (A1.on b2).cell 1 _ rfl
  have p2 := (A1.on b2).cell 2 _ rfl
  have p3 := (A1.on b2).cell 3 _ rfl
  have f0 := (A1.on b2).free 0 _ rfl
  have f1 := (A1.on b2).free 1 _ rfl
  have f2 := (A1.on b2).free 2 _ rfl
  have f3 := (A1.on b2).free 3 _ rfl
  have q0 := (A0a.on b2).cell 0 _ rfl
  have q1 := (A0a.on b2).cell 1 _ rfl
  have q2 := (A0a.on b2).cell 2 _ rfl
  have q3 := (A0a.on b2).cell 3 _ rfl
  have z0 := (A0a.on b2).free 0 _ rfl
  have z1 := (A0a.on b2).free 1 _ rfl
  have z2 := (A0a.on b2).free 2 _ rfl
  have z3 := (A0a.on b2).free 3 _ rfl
  have O2 := Own.below O1a b2
  have HT := Lib.hid (And.intro O2 (And.intro (btr B1 b2) (And.intro off0 off1)))
  clear A1 A0a O1a b2 T2 B1 O2 off0 off1
  go_wp2_with fail
  refine bodyPost_ret (v := R4 s k a1 n1 c1 tg) (by simp [results, Tryd.results118, go_sem, q0, q1, q2, q3]) rfl ?_
  refine ⟨_, _, rfl, ?_, ?_⟩
  · iterate 4 (refine Own.setCell ?_ (fun k hk => HT.out.2.2.1 k hk) _)
    refine Own.setCell ?_ (fun k hk => HT.out.2.2.2 k hk) _
    exact HT.out.1.less leW
  · exact (by (iterate 5 (refine bset ?_ (by dsimp only; omega) _)); exact HT.out.2.1)
end Go.Proofs.YtjlhldndomaknaaDoor
