/- Contracts of the transcripts of chapter 2, and of their model's; slices of slices of bytes. Conditions: as each theorem states. -/
import Derived.Test.YtepailfhagaboaaGreatDoorC2e
namespace Go.Proofs.YtepailfhagaboaaGreatDoor
open Go.RowKit
set_option maxRecDepth 100000

/-- A slice of slices of bytes that is read: 'zss' are its elements; all of it lies below block B. -/
structure Grid (w : World) (B : Nat) (a : Option Addr) (len cap : Nat) (zss : List (List Int)) : Prop where
  length : zss.length = len
  fits : len ≤ cap
  most : cap ≤ maxLen
  cells : 0 < len → ∃ b off, a = some ⟨b, off, none⟩ ∧ b < B ∧ ∀ j, j < len → ∃ a' n' c', w.cell? ⟨b, off + j, none⟩ = some (.slice a' n' c') ∧ Row .u8 w B a' n' c' (zss[j]?.getD [])
section
variable {w w' : World} {B B' : Nat} {a : Option Addr} {len cap : Nat} {zss : List (List Int)}
theorem Grid.keep (h : Grid w B a len cap zss) (hk : ∀ i, i < B → w'.heap[i]? = w.heap[i]?) : Grid w' B a len cap zss :=
  ⟨h.length, h.fits, h.most, fun hp => by
    obtain ⟨b, off, e, hb, hc⟩ := h.cells hp
    refine ⟨b, off, e, hb, fun j hj => ?_⟩
    obtain ⟨a', n', c', h1, h2⟩ := hc j hj
    exact ⟨a', n', c', (World.cell?_of_block (w := w) (hk b hb)).trans h1, h2.keep hk⟩⟩
theorem Grid.below (h : Grid w B a len cap zss) (hb : Below B w w') : Grid w' B a len cap zss := h.keep hb.block
theorem Grid.more (h : Grid w B a len cap zss) (hB : B ≤ B') : Grid w B' a len cap zss :=
  ⟨h.length, h.fits, h.most, fun hp => by
    obtain ⟨b, off, e, hb, hc⟩ := h.cells hp
    refine ⟨b, off, e, by omega, fun j hj => ?_⟩
    obtain ⟨a', n', c', h1, h2⟩ := hc j hj
    exact ⟨a', n', c', h1, h2.more hB⟩⟩
theorem Grid.on (h : Grid w w.heap.size a len cap zss) (hb : Below w.heap.size w w') : Grid w' w'.heap.size a len cap zss := (h.below hb).more hb.size
theorem Grid.alloc (h : Grid w B a len cap zss) (hB : B ≤ w.heap.size) (o : Obj) : Grid (w.alloc o) B a len cap zss := h.below ((Below.refl B w).alloc hB o)
theorem Grid.nil (w : World) (B : Nat) : Grid w B none 0 0 [] := ⟨rfl, Nat.le_refl _, Nat.zero_le _, fun h => absurd h (by omega)⟩
end

def HeardRel (W : World) (zss : List (List Int)) (k : Nat) (v : Value) (wr : World) : Prop := OwnK .i64 wr W.heap.size v ((zss.take k).map M.sumL) ∧ Below W.heap.size W wr
theorem HeardRel.step {W wr w1 w2 : World} {zss : List (List Int)} {k : Nat} {v v' : Value} {o : Obj} (h : HeardRel W zss k v wr) (hk : k < zss.length) (hb : Below wr.heap.size wr w1)
    (ho : Own w2 W.heap.size 1 v' (((zss.take k).map M.sumL).length + 1) (((zss.take k).map M.sumL).map (Value.int .i64) ++ [.int .i64 (M.sumL (zss[k]?.getD []))])) (hg : (w1.alloc o).grownBy w2 v.ownBlock) : HeardRel W zss (k + 1) v' w2 := by
  refine ⟨?_, ?_⟩
  · unfold OwnK
    rw [← M.map_take_snoc M.sumL zss [] k hk]
    simpa using ho
  · have h1 : Below W.heap.size W (w1.alloc o) := bal (btr h.2 hb) o
    have h2 : Own (w1.alloc o) W.heap.size 1 v _ _ := (h.1.below hb).alloc o
    exact h2.grown h1 h1.size hg
theorem HeardRel.row {W wr : World} {zss : List (List Int)} {v : Value} (h : HeardRel W zss zss.length v wr) : ∃ a n c, v = .slice a n c ∧ n = zss.length ∧ Row .i64 wr wr.heap.size a n c (zss.map M.sumL) := by
  obtain ⟨ho, _⟩ := h
  rw [List.take_length] at ho
  obtain ⟨a, c, rfl, _⟩ := ho.form
  exact ⟨a, _, c, rfl, by simp, Own.row ho fun b hb => by
    obtain ⟨zs, _, rfl⟩ := List.mem_map.1 hb
    have := M.sumL_bd zs
    exact sum_wf (by simp [M.sumB]; omega)⟩

theorem l2Heard_any (a : Option Addr) (len cap B : Nat) (zss : List (List Int)) (w : World) (hG : Grid w B a len cap zss) (hB : B ≤ w.heap.size) (hl : len ≤ 10) :
    Calls Tryz.prog 78 #[.slice a len cap] w fun r w' => r = .returned (.int .i64 (M.heardL zss)) ∧ Below w.heap.size w w' := by
  obtain ⟨i0, hi0, hz0, hz1, hz2⟩ := info_parts i64_info
  have T0 : HeardRel w zss 0 (.slice (some ⟨w.heap.size, 0, none⟩) 0 0) (w.alloc (.cells #[] 2)) := ⟨own_empty w 2, bal (Below.refl _ _) _⟩
  have hL := Lib.hid hG.length
  go_enter Tryz.func78, Tryz.ntmps78
  go_wp2_with fail
  generalize w.alloc (.cells #[] 2) = W1 at *
  go_loopw [3, 4] (fun v i wr => ∃ k : Nat, k ≤ len ∧ i = .int .i64 k ∧ HeardRel w zss k v wr) (fun _ i _ => len - (intOf i).toNat)
  case atStart => exact ⟨0, Nat.zero_le _, rfl, T0⟩
  case round =>
    obtain ⟨k, hk, rfl, hT⟩ := hrel
    by_cases hlt : k < len
    · obtain ⟨b, off, ha, hb, hc⟩ := (hG.below (hT.2.mono hB)).cells (by omega)
      obtain ⟨a', n', c', hcell, hrow⟩ := hc k hlt
      clear hc
      subst ha
      have hlen : ((zss.take k).map M.sumL).length ≤ 10 := by simp; omega
      have hsz := hT.2.size
      go_wp2_with fail
      refine (l2Sum_any _ _ _ _ _ _ hrow).mono ?_
      rintro r w2 ⟨rfl, rfl⟩
      go_wp2_with (at_builtin; refine wpList_append_src _ rfl (.tmp 12) (.tmp 18) 88 88 rfl w.heap.size 2 i0 (.int .i64 0) 1 8 Tryz.underlying88 hi0 hz0 hz1 hz2 rfl _ _ _ rfl (hT.1.alloc _) _ 1 [.int .i64 (M.sumL (zss[k]?.getD []))] rfl (src_new wr _ 1 1 _ _ _ Tryz.underlying88 rfl (ints_oneCell .i64 [M.sumL (zss[k]?.getD [])])) (by simp only [maxLen]; omega) (by omega) (by simp; omega) ?_; intro v3 w3 hown hgrow hat)
      have T2 := hT.step (by rw [hL.out]; exact hlt) (Below.refl _ _) hown hgrow
      clear hown hgrow hat hT hcell hrow hlen
      go_wp2_with fail
      go_roundw
      case rel => exact ⟨k + 1, by omega, by go_num, T2⟩
      case measure => simp [intOf]; omega
    · obtain rfl : k = len := by omega
      have hT' := hT
      rw [← hL.out] at hT'
      obtain ⟨a', n', c', hv, hn, hrow⟩ := hT'.row
      have hb := Lib.hid hT.2
      have HN := Lib.hid hn
      clear hT hT' hn
      subst hv
      go_wp2_with fail
      refine (l2Tag_any M.heardS _ _ _ _ _ _ (by decide) hrow (Nat.le_refl _) (M.sums_ok _) (by rw [HN.out, hL.out]; omega)).mono ?_
      rintro r w' ⟨rfl, hb2⟩
      have hbb := btr hb.out hb2
      clear hrow hb2
      go_wp2_with fail
      go_ret
      exact ⟨rfl, hbb⟩

theorem src_new2 {P : Program} (w : World) (o : Obj) (vs : List Value) (m c : Nat) (t tx e' : TypeId) (hk : P.underlying tx = some (.slice e')) (hm : vs.length = m) (h1 : ∀ u ∈ vs, u.oneCell' = true) :
    Src P 1 tx (.slice (some ⟨w.heap.size + 1, 0, none⟩) m c) m vs ((w.alloc o).alloc (.cells vs.toArray t)) := by
  have := src_new (P := P) (w.alloc o) vs m c t tx e' hk hm h1
  rwa [show (w.alloc o).heap.size = w.heap.size + 1 by simp] at this

theorem implTranscript_any (a : Option Addr) (len cap B : Nat) (zss : List (List Int)) (w : World) (lab : Labels w) (hG : Grid w B a len cap zss) (hB : B ≤ w.heap.size) :
    Calls Tryz.prog 24 #[.slice a len cap] w fun r w' => r = .returned (I2 (M.heardR zss).1 (M.heardR zss).2) ∧ Below w.heap.size w w' := by
  have hlen := hG.fits
  have hmost := hG.most
  unfold maxLen at hmost
  have hL := Lib.hid hG.length
  by_cases h : 10 < len
  · have E : M.heardR zss = (2, 0) := by simp [M.heardR, hL.out, h]
    rw [E]; clear E
    go_enter Tryz.func24, Tryz.ntmps24
    go_wp2_with fail
    exact bodyPost_ret (v := I2 2 0) (by simp [results, Tryz.results24, go_sem]) rfl ⟨rfl, bal (Below.refl _ _) _⟩
  obtain ⟨i0, hi0, hz0, hz1, hz2⟩ := info_parts i64_info
  have hmk : ∀ W : World, (Instr.makeSlice 88 (.int .i64 0) (.int .i64 (len : Int))).run Tryz.prog W = .ok (.slice (some ⟨W.heap.size, 0, none⟩) 0 len) (W.alloc (.cells (madeCells #[.int .i64 0] len) 2)) := by
    intro W
    have := run_make (P := Tryz.prog) W 88 2 i0 (.int .i64 0) Tryz.underlying88 hi0 hz0 .i64 .i64 0 len (by omega) (by omega) (by rw [hz2]; omega) (by omega)
    simpa [hz1, Value.cells] using this
  have T0 : HeardRel (w.alloc (.cells #[.int .i64 0, .int .i64 0] 49)) zss 0 (.slice (some ⟨w.heap.size + 1, 0, none⟩) 0 len) ((w.alloc (.cells #[.int .i64 0, .int .i64 0] 49)).alloc (.cells (madeCells #[.int .i64 0] len) 2)) := by
    refine ⟨?_, bal (Below.refl _ _) _⟩
    have := Own.made (size := 1) (B := w.heap.size + 1) (w.alloc (.cells #[.int .i64 0, .int .i64 0] 49)) (madeCells #[.int .i64 0] len) 2 len (by simp) (by simp only [maxLen]; omega) (by rw [size_madeCells]; omega)
    simpa [OwnK] using this
  have hG1 := (hG.alloc hB (.cells #[.int .i64 0, .int .i64 0] 49))
  have hL1 := lab.on (bal (Below.refl _ _) (.cells #[.int .i64 0, .int .i64 0] 49))
  have r0 : (w.alloc (.cells #[.int .i64 0, .int .i64 0] 49)).cell? ⟨w.heap.size, 0, none⟩ = some (.int .i64 0) := by go_simp
  have r1 : (w.alloc (.cells #[.int .i64 0, .int .i64 0] 49)).cell? ⟨w.heap.size, 1, none⟩ = some (.int .i64 0) := by go_simp
  have f0 : (w.alloc (.cells #[.int .i64 0, .int .i64 0] 49)).frozen? ⟨w.heap.size, 0, none⟩ = false := by go_simp
  have f1 : (w.alloc (.cells #[.int .i64 0, .int .i64 0] 49)).frozen? ⟨w.heap.size, 1, none⟩ = false := by go_simp
  have hb0 := bal (Below.refl _ w) (.cells #[.int .i64 0, .int .i64 0] 49)
  have hltW : w.heap.size < (w.alloc (.cells #[.int .i64 0, .int .i64 0] 49)).heap.size := by simp
  cases hA : zss.any M.longB
  · have E := M.heardR_tag zss (by rw [hL.out]; omega) hA
    have HE := Lib.hid E
    have HA := Lib.hid hA
    clear hA E hG lab
    go_enter Tryz.func24, Tryz.ntmps24
    go_wp2_with fail
    generalize w.alloc (.cells #[.int .i64 0, .int .i64 0] 49) = W at *
    generalize W.alloc (.cells (madeCells #[.int .i64 0] len) 2) = W1 at *
    go_loopw [3, 16] (fun v i wr => ∃ k : Nat, k ≤ len ∧ i = .int .i64 k ∧ HeardRel W zss k v wr) (fun _ i _ => len - (intOf i).toNat)
    case atStart => exact ⟨0, Nat.zero_le _, rfl, T0⟩
    case round =>
      obtain ⟨k, hk, rfl, hT⟩ := hrel
      by_cases hlt : k < len
      · obtain ⟨b, off, ha, hb, hc⟩ := (hG1.below (hT.2.mono (by omega))).cells (by omega)
        obtain ⟨a', n', c', hcell, hrow⟩ := hc k hlt
        have hl2 : k < zss.length := by rw [hL.out]; exact hlt
        have hsum : M.sumR (zss[k]?.getD []) = (0, M.sumL (zss[k]?.getD [])) := by
          have := List.any_eq_false.1 HA.out (zss[k]?.getD []) (by simp [hl2])
          simp only [M.longB, decide_eq_true_eq] at this
          simp only [M.sumR, this, if_false]
        have HL2 := Lib.hid hl2
        clear hc hl2
        subst ha
        have hlen : ((zss.take k).map M.sumL).length ≤ 10 := by simp; omega
        have hsz := hT.2.size
        go_wp2_with fail
        refine (implSumOf_any _ _ _ _ _ _ hrow (by omega)).mono ?_
        rintro r w2 ⟨rfl, hb2⟩
        have hsz2 := hb2.size
        have hO2 := (hT.1.below hb2).alloc (.cells #[.int .i64 0, .int .i64 (M.sumL (zss[k]?.getD []))] 49)
        have HB2 := Lib.hid (bal hb2 (.cells #[.int .i64 0, .int .i64 (M.sumL (zss[k]?.getD []))] 49))
        clear hb2 hrow hcell
        go_wp2_with (at_builtin; refine wpList_append_src _ rfl (.tmp 26) (.tmp 29) 88 88 rfl W.heap.size 2 i0 (.int .i64 0) 1 8 Tryz.underlying88 hi0 hz0 hz1 hz2 rfl _ _ _ rfl (hO2.alloc _) _ 1 [.int .i64 (M.sumL (zss[k]?.getD []))] rfl (src_new2 w2 _ _ 1 1 _ _ _ Tryz.underlying88 rfl (ints_oneCell .i64 [M.sumL (zss[k]?.getD [])])) (by simp only [maxLen]; omega) (by omega) (by simp; omega) ?_; intro v3 w3 hown hgrow hat)
        have T2 := hT.step HL2.out HB2.out hown hgrow
        clear hown hgrow hat hT hlen hO2 HB2 HL2 hsum
        go_wp2_with fail
        go_roundw
        case rel => exact ⟨k + 1, by omega, by go_num, T2⟩
        case measure => simp [intOf]; omega
      · obtain rfl : k = len := by omega
        have hT' := hT
        rw [← hL.out] at hT'
        obtain ⟨a', n', c', hv, hn, hrow⟩ := hT'.row
        have hlab := (hL1.on hT.2).heardW
        have hb := Lib.hid hT.2
        clear hT hT' hn
        subst hv
        go_wp2_with fail
        refine (implTagSum_any M.heardS _ _ _ _ _ _ (by decide) hrow (Nat.le_refl _)).mono ?_
        rintro r w1 ⟨rfl, hb2⟩
        have hbb := btr hb.out hb2
        have q0 := hbb.cell (p := ⟨w.heap.size, 0, none⟩) hltW |>.trans r0
        have q1 := hbb.cell (p := ⟨w.heap.size, 1, none⟩) hltW |>.trans r1
        have p0 := hbb.frozen (p := ⟨w.heap.size, 0, none⟩) hltW |>.trans f0
        have p1 := hbb.frozen (p := ⟨w.heap.size, 1, none⟩) hltW |>.trans f1
        have HBB := Lib.hid (hb0.trans (hbb.mono (by omega)))
        clear hrow hb2 hbb hlab
        go_wp2_with fail
        refine bodyPost_ret (v := I2 (M.tagR M.heardS (zss.map M.sumL)).1 (M.tagR M.heardS (zss.map M.sumL)).2) (by simp [results, Tryz.results24, go_sem, q0, q1]) rfl ?_
        rw [HE.out]
        exact ⟨rfl, bset (bset HBB.out (Nat.le_refl _) _) (Nat.le_refl _) _⟩
  · have E : M.heardR zss = (2, 0) := by simp only [M.heardR, hA, if_true]; split <;> rfl
    rw [E]; clear E
    have HA := Lib.hid hA
    clear hA hG lab
    go_enter Tryz.func24, Tryz.ntmps24
    go_wp2_with fail
    generalize w.alloc (.cells #[.int .i64 0, .int .i64 0] 49) = W at *
    generalize W.alloc (.cells (madeCells #[.int .i64 0] len) 2) = W1 at *
    go_loopw [3, 16] (fun v i wr => ∃ k : Nat, k ≤ len ∧ i = .int .i64 k ∧ HeardRel W zss k v wr ∧ Hid ((zss.take k).any M.longB = false)) (fun _ i _ => len - (intOf i).toNat)
    case atStart => exact ⟨0, Nat.zero_le _, rfl, T0, Lib.hid (by simp)⟩
    case round =>
      obtain ⟨k, hk, rfl, hT, hN⟩ := hrel
      by_cases hlt : k < len
      · obtain ⟨b, off, ha, hb, hc⟩ := (hG1.below (hT.2.mono (by omega))).cells (by omega)
        obtain ⟨a', n', c', hcell, hrow⟩ := hc k hlt
        have hl2 : k < zss.length := by rw [hL.out]; exact hlt
        have HL2 := Lib.hid hl2
        clear hc hl2
        subst ha
        have hlen : ((zss.take k).map M.sumL).length ≤ 10 := by simp; omega
        have hsz := hT.2.size
        cases hlong : M.longB (zss[k]?.getD [])
        · have hsum : M.sumR (zss[k]?.getD []) = (0, M.sumL (zss[k]?.getD [])) := by
            simp only [M.longB, decide_eq_false_iff_not] at hlong
            simp only [M.sumR, hlong, if_false]
          have N2 := Lib.hid (M.any_take M.longB zss [] k HL2.out hN.out hlong)
          clear hlong
          go_wp2_with fail
          refine (implSumOf_any _ _ _ _ _ _ hrow (by omega)).mono ?_
          rintro r w2 ⟨rfl, hb2⟩
          have hsz2 := hb2.size
          have hO2 := (hT.1.below hb2).alloc (.cells #[.int .i64 0, .int .i64 (M.sumL (zss[k]?.getD []))] 49)
          have HB2 := Lib.hid (bal hb2 (.cells #[.int .i64 0, .int .i64 (M.sumL (zss[k]?.getD []))] 49))
          clear hb2 hrow hcell
          go_wp2_with (at_builtin; refine wpList_append_src _ rfl (.tmp 26) (.tmp 29) 88 88 rfl W.heap.size 2 i0 (.int .i64 0) 1 8 Tryz.underlying88 hi0 hz0 hz1 hz2 rfl _ _ _ rfl (hO2.alloc _) _ 1 [.int .i64 (M.sumL (zss[k]?.getD []))] rfl (src_new2 w2 _ _ 1 1 _ _ _ Tryz.underlying88 rfl (ints_oneCell .i64 [M.sumL (zss[k]?.getD [])])) (by simp only [maxLen]; omega) (by omega) (by simp; omega) ?_; intro v3 w3 hown hgrow hat)
          have T2 := hT.step HL2.out HB2.out hown hgrow
          clear hown hgrow hat hT hlen hO2 HB2 HL2 hsum
          go_wp2_with fail
          go_roundw
          case rel => exact ⟨k + 1, by omega, by go_num, T2, N2⟩
          case measure => simp [intOf]; omega
        · have hsum : M.sumR (zss[k]?.getD []) = (2, 0) := by
            simp only [M.longB, decide_eq_true_eq] at hlong
            simp only [M.sumR, hlong, if_true]
          clear hlong
          go_wp2_with fail
          refine (implSumOf_any _ _ _ _ _ _ hrow (by omega)).mono ?_
          rintro r w2 ⟨rfl, hb2⟩
          have hbb := btr hT.2 hb2
          have hlt2 : w.heap.size < w2.heap.size := by have := hbb.size; omega
          have q0 := hbb.cell (p := ⟨w.heap.size, 0, none⟩) hltW |>.trans r0
          have q1 := hbb.cell (p := ⟨w.heap.size, 1, none⟩) hltW |>.trans r1
          have p0 := hbb.frozen (p := ⟨w.heap.size, 0, none⟩) hltW |>.trans f0
          have p1 := hbb.frozen (p := ⟨w.heap.size, 1, none⟩) hltW |>.trans f1
          have HBB := Lib.hid (hb0.trans (hbb.mono (by omega)))
          clear hb2 hrow hcell hbb hT
          go_wp2_with fail
          exact bodyPost_ret (v := I2 2 0) (by simp [results, Tryz.results24, go_sem, q0, q1, hlt2]) rfl ⟨rfl, bal (bset (bset HBB.out (Nat.le_refl _) _) (Nat.le_refl _) _) _⟩
      · have e := hN.out
        rw [List.take_of_length_le (by rw [hL.out]; omega), HA.out] at e
        cases e

end Go.Proofs.YtepailfhagaboaaGreatDoor
