/- Texts of this seat that several laws rest on, laid into one. Conditions: as each theorem states. -/
import Derived.Test.YtlodhleihnlchaaGreatDoorH0
import Derived.Test.YtlodhleihnlchaaGreatDoorH1
import Derived.Test.YtlodhleihnlchaaGreatDoorH2
import Derived.Test.YtlodhleihnlchaaGreatDoorH3
import Derived.Test.YtlodhleihnlchaaGreatDoorH4
import Derived.LaidEql
import Derived.Stop.Asserts
import Derived.RowKitTokens
import Derived.Laws.IdiomCopy
namespace Go.Proofs.YtlodhleihnlchaaGreatDoor
open Go.RowKit
set_option maxRecDepth 100000

structure Grid (w : World) (B : Nat) (a : Option Addr) (len cap : Nat) (zss : List (List Int)) : Prop where
  length : zss.length = len
  fits : len ≤ cap
  most : cap ≤ maxLen
  cells : 0 < len → ∃ b off, a = some ⟨b, off, none⟩ ∧ b < B ∧ ∀ j, j < len → ∃ a' n' c', w.cell? ⟨b, off + j, none⟩ = some (.slice a' n' c') ∧ Row .u8 w B a' n' c' (zss[j]?.getD [])
section
variable {w w' : World} {B B' : Nat} {a : Option Addr} {len cap : Nat} {zss : List (List Int)}
theorem Grid.keep (h : Grid w B a len cap zss) (hk : ∀ i, i < B → w'.heap[i]? = w.heap[i]?) : Grid w' B a len cap zss :=
  ⟨h.length, h.fits, h.most, fun hp => by
    obtain ⟨b, off, e, hb, hc⟩ := h.cells hp
    refine ⟨b, off, e, hb, fun j hj => ?_⟩
    obtain ⟨a', n', c', h1, h2⟩ := hc j hj
    exact ⟨a', n', c', (World.cell?_of_block (w := w) (hk b hb)).trans h1, h2.keep hk⟩⟩
theorem Grid.below (h : Grid w B a len cap zss) (hb : Below B w w') : Grid w' B a len cap zss := h.keep hb.block
theorem Grid.more (h : Grid w B a len cap zss) (hB : B ≤ B') : Grid w B' a len cap zss :=
  ⟨h.length, h.fits, h.most, fun hp => by
    obtain ⟨b, off, e, hb, hc⟩ := h.cells hp
    refine ⟨b, off, e, by omega, fun j hj => ?_⟩
    obtain ⟨a', n', c', h1, h2⟩ := hc j hj
    exact ⟨a', n', c', h1, h2.more hB⟩⟩
theorem Grid.on (h : Grid w w.heap.size a len cap zss) (hb : Below w.heap.size w w') : Grid w' w'.heap.size a len cap zss := (h.below hb).more hb.size
theorem Grid.alloc (h : Grid w B a len cap zss) (hB : B ≤ w.heap.size) (o : Obj) : Grid (w.alloc o) B a len cap zss := h.below ((Below.refl B w).alloc hB o)
theorem Grid.nil (w : World) (B : Nat) : Grid w B none 0 0 [] := ⟨rfl, Nat.le_refl _, Nat.zero_le _, fun h => absurd h (by omega)⟩
end

def HeardRel (W : World) (zss : List (List Int)) (k : Nat) (v : Value) (wr : World) : Prop := OwnK .i64 wr W.heap.size v ((zss.take k).map M.sumL) ∧ Below W.heap.size W wr
theorem HeardRel.step {W wr w1 w2 : World} {zss : List (List Int)} {k : Nat} {v v' : Value} {o : Obj} (h : HeardRel W zss k v wr) (hk : k < zss.length) (hb : Below wr.heap.size wr w1)
    (ho : Own w2 W.heap.size 1 v' (((zss.take k).map M.sumL).length + 1) (((zss.take k).map M.sumL).map (Value.int .i64) ++ [.int .i64 (M.sumL (zss[k]?.getD []))])) (hg : (w1.alloc o).grownBy w2 v.ownBlock) : HeardRel W zss (k + 1) v' w2 := by
  refine ⟨?_, ?_⟩
  · unfold OwnK
    rw [← M.map_take_snoc M.sumL zss [] k hk]
    simpa using ho
  · have h1 : Below W.heap.size W (w1.alloc o) := bal (btr h.2 hb) o
    have h2 : Own (w1.alloc o) W.heap.size 1 v _ _ := (h.1.below hb).alloc o
    exact h2.grown h1 h1.size hg
theorem HeardRel.row {W wr : World} {zss : List (List Int)} {v : Value} (h : HeardRel W zss zss.length v wr) : ∃ a n c, v = .slice a n c ∧ n = zss.length ∧ Row .i64 wr wr.heap.size a n c (zss.map M.sumL) := by
  obtain ⟨ho, _⟩ := h
  rw [List.take_length] at ho
  obtain ⟨a, c, rfl, _⟩ := ho.form
  exact ⟨a, _, c, rfl, by simp, Own.row ho fun b hb => by
    obtain ⟨zs, _, rfl⟩ := List.mem_map.1 hb
    have := M.sumL_bd zs
    exact sum_wf (by simp [M.sumB]; omega)⟩

theorem l2Heard_any (a : Option Addr) (len cap B : Nat) (zss : List (List Int)) (w : World) (hG : Grid w B a len cap zss) (hB : B ≤ w.heap.size) (hl : len ≤ 10) :
    Calls Tryz.prog 201 #[.slice a len cap] w fun r w' => r = .returned (.int .i64 (M.heardL zss)) ∧ Below w.heap.size w w' := by
  obtain ⟨i0, hi0, hz0, hz1, hz2⟩ := info_parts i64_info
  have T0 : HeardRel w zss 0 (.slice (some ⟨w.heap.size, 0, none⟩) 0 0) (w.alloc (.cells #[] 2)) := ⟨own_empty w 2, bal (Below.refl _ _) _⟩
  have hL := Lib.hid hG.length
  go_enter Tryz.func201, Tryz.ntmps201
  go_wp2_with fail
  generalize w.alloc (.cells #[] 2) = W1 at *
  go_loopw [3, 4] (fun v i wr => ∃ k : Nat, k ≤ len ∧ i = .int .i64 k ∧ HeardRel w zss k v wr) (fun _ i _ => len - (intOf i).toNat)
  case atStart => exact ⟨0, Nat.zero_le _, rfl, T0⟩
  case round =>
    obtain ⟨k, hk, rfl, hT⟩ := hrel
    by_cases hlt : k < len
    · obtain ⟨b, off, ha, hb, hc⟩ := (hG.below (hT.2.mono hB)).cells (by omega)
      obtain ⟨a', n', c', hcell, hrow⟩ := hc k hlt
      clear hc
      subst ha
      have hlen : ((zss.take k).map M.sumL).length ≤ 10 := by simp; omega
      have hsz := hT.2.size
      go_wp2_with fail
      refine (l2Sum_any _ _ _ _ _ _ hrow).mono ?_
      rintro r w2 ⟨rfl, rfl⟩
      go_wp2_with (at_builtin; refine wpList_append_src _ rfl (.tmp 12) (.tmp 18) 175 175 rfl w.heap.size 2 i0 (.int .i64 0) 1 8 Tryz.underlying175 hi0 hz0 hz1 hz2 rfl _ _ _ rfl (hT.1.alloc _) _ 1 [.int .i64 (M.sumL (zss[k]?.getD []))] rfl (src_new wr _ 1 1 _ _ _ Tryz.underlying175 rfl (ints_oneCell .i64 [M.sumL (zss[k]?.getD [])])) (by simp only [maxLen]; omega) (by omega) (by simp; omega) ?_; intro v3 w3 hown hgrow hat)
      have T2 := hT.step (by rw [hL.out]; exact hlt) (Below.refl _ _) hown hgrow
      clear hown hgrow hat hT hcell hrow hlen
      go_wp2_with fail
      go_roundw
      case rel => exact ⟨k + 1, by omega, by go_num, T2⟩
      case measure => simp [intOf]; omega
    · obtain rfl : k = len := by omega
      have hT' := hT
      rw [← hL.out] at hT'
      obtain ⟨a', n', c', hv, hn, hrow⟩ := hT'.row
      have hb := Lib.hid hT.2
      have HN := Lib.hid hn
      clear hT hT' hn
      subst hv
      go_wp2_with fail
      refine (l2Tag_any M.heardS _ _ _ _ _ _ (by decide) hrow (Nat.le_refl _) (M.sums_ok _) (by rw [HN.out, hL.out]; omega)).mono ?_
      rintro r w' ⟨rfl, hb2⟩
      have hbb := btr hb.out hb2
      clear hrow hb2
      go_wp2_with fail
      go_ret
      exact ⟨rfl, hbb⟩

theorem src_new2 {P : Program} (w : World) (o : Obj) (vs : List Value) (m c : Nat) (t tx e' : TypeId) (hk : P.underlying tx = some (.slice e')) (hm : vs.length = m) (h1 : ∀ u ∈ vs, u.oneCell' = true) :
    Go.Src P 1 tx (.slice (some ⟨w.heap.size + 1, 0, none⟩) m c) m vs ((w.alloc o).alloc (.cells vs.toArray t)) := by
  have := src_new (P := P) (w.alloc o) vs m c t tx e' hk hm h1
  rwa [show (w.alloc o).heap.size = w.heap.size + 1 by simp] at this

theorem implTranscript_any (a : Option Addr) (len cap B : Nat) (zss : List (List Int)) (w : World) (lab : Labels w) (hG : Grid w B a len cap zss) (hB : B ≤ w.heap.size) :
    Calls Tryz.prog 30 #[.slice a len cap] w fun r w' => r = .returned (I2 (M.heardR zss).1 (M.heardR zss).2) ∧ Below w.heap.size w w' := by
  have hlen := hG.fits
  have hmost := hG.most
  unfold maxLen at hmost
  have hL := Lib.hid hG.length
  by_cases h : 10 < len
  · have E : M.heardR zss = (2, 0) := by simp [M.heardR, hL.out, h]
    rw [E]; clear E
    go_enter Tryz.func30, Tryz.ntmps30
    go_wp2_with fail
    exact bodyPost_ret (v := I2 2 0) (by simp [results, Tryz.results30, go_sem]) rfl ⟨rfl, bal (Below.refl _ _) _⟩
  obtain ⟨i0, hi0, hz0, hz1, hz2⟩ := info_parts i64_info
  have hmk : ∀ W : World, (Instr.makeSlice 175 (.int .i64 0) (.int .i64 (len : Int))).run Tryz.prog W = .ok (.slice (some ⟨W.heap.size, 0, none⟩) 0 len) (W.alloc (.cells (madeCells #[.int .i64 0] len) 2)) := by
    intro W
    have := run_make (P := Tryz.prog) W 175 2 i0 (.int .i64 0) Tryz.underlying175 hi0 hz0 .i64 .i64 0 len (by omega) (by omega) (by rw [hz2]; omega) (by omega)
    simpa [hz1, Value.cells] using this
  have T0 : HeardRel (w.alloc (.cells #[.int .i64 0, .int .i64 0] 49)) zss 0 (.slice (some ⟨w.heap.size + 1, 0, none⟩) 0 len) ((w.alloc (.cells #[.int .i64 0, .int .i64 0] 49)).alloc (.cells (madeCells #[.int .i64 0] len) 2)) := by
    refine ⟨?_, bal (Below.refl _ _) _⟩
    have := Own.made (size := 1) (B := w.heap.size + 1) (w.alloc (.cells #[.int .i64 0, .int .i64 0] 49)) (madeCells #[.int .i64 0] len) 2 len (by simp) (by simp only [maxLen]; omega) (by rw [size_madeCells]; omega)
    simpa [OwnK] using this
  have hG1 := (hG.alloc hB (.cells #[.int .i64 0, .int .i64 0] 49))
  have hL1 := lab.on (bal (Below.refl _ _) (.cells #[.int .i64 0, .int .i64 0] 49))
  have r0 : (w.alloc (.cells #[.int .i64 0, .int .i64 0] 49)).cell? ⟨w.heap.size, 0, none⟩ = some (.int .i64 0) := by go_simp
  have r1 : (w.alloc (.cells #[.int .i64 0, .int .i64 0] 49)).cell? ⟨w.heap.size, 1, none⟩ = some (.int .i64 0) := by go_simp
  have f0 : (w.alloc (.cells #[.int .i64 0, .int .i64 0] 49)).frozen? ⟨w.heap.size, 0, none⟩ = false := by go_simp
  have f1 : (w.alloc (.cells #[.int .i64 0, .int .i64 0] 49)).frozen? ⟨w.heap.size, 1, none⟩ = false := by go_simp
  have hb0 := bal (Below.refl _ w) (.cells #[.int .i64 0, .int .i64 0] 49)
  have hltW : w.heap.size < (w.alloc (.cells #[.int .i64 0, .int .i64 0] 49)).heap.size := by simp
  cases hA : zss.any M.longB
  · have E := M.heardR_tag zss (by rw [hL.out]; omega) hA
    have HE := Lib.hid E
    have HA := Lib.hid hA
    clear hA E hG lab
    go_enter Tryz.func30, Tryz.ntmps30
    go_wp2_with fail
    generalize w.alloc (.cells #[.int .i64 0, .int .i64 0] 49) = W at *
    generalize W.alloc (.cells (madeCells #[.int .i64 0] len) 2) = W1 at *
    go_loopw [3, 16] (fun v i wr => ∃ k : Nat, k ≤ len ∧ i = .int .i64 k ∧ HeardRel W zss k v wr) (fun _ i _ => len - (intOf i).toNat)
    case atStart => exact ⟨0, Nat.zero_le _, rfl, T0⟩
    case round =>
      obtain ⟨k, hk, rfl, hT⟩ := hrel
      by_cases hlt : k < len
      · obtain ⟨b, off, ha, hb, hc⟩ := (hG1.below (hT.2.mono (by omega))).cells (by omega)
        obtain ⟨a', n', c', hcell, hrow⟩ := hc k hlt
        have hl2 : k < zss.length := by rw [hL.out]; exact hlt
        have hsum : M.sumR (zss[k]?.getD []) = (0, M.sumL (zss[k]?.getD [])) := by
          have := List.any_eq_false.1 HA.out (zss[k]?.getD []) (by simp [hl2])
          simp only [M.longB, decide_eq_true_eq] at this
          simp only [M.sumR, this, if_false]
        have HL2 := Lib.hid hl2
        clear hc hl2
        subst ha
        have hlen : ((zss.take k).map M.sumL).length ≤ 10 := by simp; omega
        have hsz := hT.2.size
        go_wp2_with fail
        refine (implSumOf_any _ _ _ _ _ _ hrow (by omega)).mono ?_
        rintro r w2 ⟨rfl, hb2⟩
        have hsz2 := hb2.size
        have hO2 := (hT.1.below hb2).alloc (.cells #[.int .i64 0, .int .i64 (M.sumL (zss[k]?.getD []))] 49)
        have HB2 := Lib.hid (bal hb2 (.cells #[.int .i64 0, .int .i64 (M.sumL (zss[k]?.getD []))] 49))
        clear hb2 hrow hcell
        go_wp2_with (at_builtin; refine wpList_append_src _ rfl (.tmp 26) (.tmp 29) 175 175 rfl W.heap.size 2 i0 (.int .i64 0) 1 8 Tryz.underlying175 hi0 hz0 hz1 hz2 rfl _ _ _ rfl (hO2.alloc _) _ 1 [.int .i64 (M.sumL (zss[k]?.getD []))] rfl (src_new2 w2 _ _ 1 1 _ _ _ Tryz.underlying175 rfl (ints_oneCell .i64 [M.sumL (zss[k]?.getD [])])) (by simp only [maxLen]; omega) (by omega) (by simp; omega) ?_; intro v3 w3 hown hgrow hat)
        have T2 := hT.step HL2.out HB2.out hown hgrow
        clear hown hgrow hat hT hlen hO2 HB2 HL2 hsum
        go_wp2_with fail
        go_roundw
        case rel => exact ⟨k + 1, by omega, by go_num, T2⟩
        case measure => simp [intOf]; omega
      · obtain rfl : k = len := by omega
        have hT' := hT
        rw [← hL.out] at hT'
        obtain ⟨a', n', c', hv, hn, hrow⟩ := hT'.row
        have hlab := (hL1.on hT.2).heardW
        have hb := Lib.hid hT.2
        clear hT hT' hn
        subst hv
        go_wp2_with fail
        refine (implTagSum_any M.heardS _ _ _ _ _ _ (by decide) hrow (Nat.le_refl _)).mono ?_
        rintro r w1 ⟨rfl, hb2⟩
        have hbb := btr hb.out hb2
        have q0 := hbb.cell (p := ⟨w.heap.size, 0, none⟩) hltW |>.trans r0
        have q1 := hbb.cell (p := ⟨w.heap.size, 1, none⟩) hltW |>.trans r1
        have p0 := hbb.frozen (p := ⟨w.heap.size, 0, none⟩) hltW |>.trans f0
        have p1 := hbb.frozen (p := ⟨w.heap.size, 1, none⟩) hltW |>.trans f1
        have HBB := Lib.hid (hb0.trans (hbb.mono (by omega)))
        clear hrow hb2 hbb hlab
        go_wp2_with fail
        refine bodyPost_ret (v := I2 (M.tagR M.heardS (zss.map M.sumL)).1 (M.tagR M.heardS (zss.map M.sumL)).2) (by simp [results, Tryz.results30, go_sem, q0, q1]) rfl ?_
        rw [HE.out]
        exact ⟨rfl, bset (bset HBB.out (Nat.le_refl _) _) (Nat.le_refl _) _⟩
  · have E : M.heardR zss = (2, 0) := by simp only [M.heardR, hA, if_true]; split <;> rfl
    rw [E]; clear E
    have HA := Lib.hid hA
    clear hA hG lab
    go_enter Tryz.func30, Tryz.ntmps30
    go_wp2_with fail
    generalize w.alloc (.cells #[.int .i64 0, .int .i64 0] 49) = W at *
    generalize W.alloc (.cells (madeCells #[.int .i64 0] len) 2) = W1 at *
    go_loopw [3, 16] (fun v i wr => ∃ k : Nat, k ≤ len ∧ i = .int .i64 k ∧ HeardRel W zss k v wr ∧ Hid ((zss.take k).any M.longB = false)) (fun _ i _ => len - (intOf i).toNat)
    case atStart => exact ⟨0, Nat.zero_le _, rfl, T0, Lib.hid (by simp)⟩
    case round =>
      obtain ⟨k, hk, rfl, hT, hN⟩ := hrel
      by_cases hlt : k < len
      · obtain ⟨b, off, ha, hb, hc⟩ := (hG1.below (hT.2.mono (by omega))).cells (by omega)
        obtain ⟨a', n', c', hcell, hrow⟩ := hc k hlt
        have hl2 : k < zss.length := by rw [hL.out]; exact hlt
        have HL2 := Lib.hid hl2
        clear hc hl2
        subst ha
        have hlen : ((zss.take k).map M.sumL).length ≤ 10 := by simp; omega
        have hsz := hT.2.size
        cases hlong : M.longB (zss[k]?.getD [])
        · have hsum : M.sumR (zss[k]?.getD []) = (0, M.sumL (zss[k]?.getD [])) := by
            simp only [M.longB, decide_eq_false_iff_not] at hlong
            simp only [M.sumR, hlong, if_false]
          have N2 := Lib.hid (M.any_take M.longB zss [] k HL2.out hN.out hlong)
          clear hlong
          go_wp2_with fail
          refine (implSumOf_any _ _ _ _ _ _ hrow (by omega)).mono ?_
          rintro r w2 ⟨rfl, hb2⟩
          have hsz2 := hb2.size
          have hO2 := (hT.1.below hb2).alloc (.cells #[.int .i64 0, .int .i64 (M.sumL (zss[k]?.getD []))] 49)
          have HB2 := Lib.hid (bal hb2 (.cells #[.int .i64 0, .int .i64 (M.sumL (zss[k]?.getD []))] 49))
          clear hb2 hrow hcell
          go_wp2_with (at_builtin; refine wpList_append_src _ rfl (.tmp 26) (.tmp 29) 175 175 rfl W.heap.size 2 i0 (.int .i64 0) 1 8 Tryz.underlying175 hi0 hz0 hz1 hz2 rfl _ _ _ rfl (hO2.alloc _) _ 1 [.int .i64 (M.sumL (zss[k]?.getD []))] rfl (src_new2 w2 _ _ 1 1 _ _ _ Tryz.underlying175 rfl (ints_oneCell .i64 [M.sumL (zss[k]?.getD [])])) (by simp only [maxLen]; omega) (by omega) (by simp; omega) ?_; intro v3 w3 hown hgrow hat)
          have T2 := hT.step HL2.out HB2.out hown hgrow
          clear hown hgrow hat hT hlen hO2 HB2 HL2 hsum
          go_wp2_with fail
          go_roundw
          case rel => exact ⟨k + 1, by omega, by go_num, T2, N2⟩
          case measure => simp [intOf]; omega
        · have hsum : M.sumR (zss[k]?.getD []) = (2, 0) := by
            simp only [M.longB, decide_eq_true_eq] at hlong
            simp only [M.sumR, hlong, if_true]
          clear hlong
          go_wp2_with fail
          refine (implSumOf_any _ _ _ _ _ _ hrow (by omega)).mono ?_
          rintro r w2 ⟨rfl, hb2⟩
          have hbb := btr hT.2 hb2
          have hlt2 : w.heap.size < w2.heap.size := by have := hbb.size; omega
          have q0 := hbb.cell (p := ⟨w.heap.size, 0, none⟩) hltW |>.trans r0
          have q1 := hbb.cell (p := ⟨w.heap.size, 1, none⟩) hltW |>.trans r1
          have p0 := hbb.frozen (p := ⟨w.heap.size, 0, none⟩) hltW |>.trans f0
          have p1 := hbb.frozen (p := ⟨w.heap.size, 1, none⟩) hltW |>.trans f1
          have HBB := Lib.hid (hb0.trans (hbb.mono (by omega)))
          clear hb2 hrow hcell hbb hT
          go_wp2_with fail
          exact bodyPost_ret (v := I2 2 0) (by simp [results, Tryz.results30, go_sem, q0, q1, hlt2]) rfl ⟨rfl, bal (bset (bset HBB.out (Nat.le_refl _) _) (Nat.le_refl _) _) _⟩
      · have e := hN.out
        rw [List.take_of_length_le (by rw [hL.out]; omega), HA.out] at e
        cases e

end Go.Proofs.YtlodhleihnlchaaGreatDoor
namespace Go.Proofs.YtlodhleihnlchaaGreatDoor
open Go.RowKit
set_option maxRecDepth 100000

structure Own2 (w : World) (B : Nat) (v : Value) (rows : List (Value × List Int)) : Prop where
  own : Own w B 1 v rows.length (rows.map (·.1))
  each : ∀ x ∈ rows, ∃ a n c, x.1 = .slice a n c ∧ OwnK .u8 w B (.slice a n c) x.2 ∧ ∀ z ∈ x.2, (Lit.int .u8 z).wf = true
  apart : ∀ x ∈ rows, ∀ k, x.1.ownBlock = some k → v.ownBlock ≠ some k
section
variable {w w' : World} {B : Nat} {v : Value} {rows : List (Value × List Int)}
theorem Own2.keep (h : Own2 w B v rows) (hs : w.heap.size ≤ w'.heap.size) (hk : ∀ k, B ≤ k → k < w.heap.size → w'.heap[k]? = w.heap[k]?) : Own2 w' B v rows :=
  ⟨h.own.keep hs fun k e => hk k (h.own.lt k e).1 (h.own.lt k e).2, fun x hx => by
    obtain ⟨a, n, c, e, o, z⟩ := h.each x hx
    exact ⟨a, n, c, e, o.keep hs fun k e => hk k (o.lt k e).1 (o.lt k e).2, z⟩, h.apart⟩
theorem Own2.below (h : Own2 w B v rows) (hb : Below w.heap.size w w') : Own2 w' B v rows := h.keep hb.size fun k _ hk => hb.block k hk
theorem Own2.alloc (h : Own2 w B v rows) (o : Obj) : Own2 (w.alloc o) B v rows := h.below (bal (Below.refl _ _) o)
theorem Own2.kept {g : Nat} (h : Own2 w B v rows) (hg : w.grownBy w' (some g)) (hne : g < B) : Own2 w' B v rows :=
  h.keep hg.size fun k hB hk => hg.block k hk (fun e => by injection e with e; omega)
theorem Own2.only {g : Nat} (h : Own2 w B v rows) (hg : Only g w w') (hne : g < B) : Own2 w' B v rows :=
  h.keep (by rw [hg.size]; exact Nat.le_refl _) fun k hB _ => hg.block k (by omega)
theorem Own2.nil (w : World) (B : Nat) : Own2 w B (.slice none 0 0) [] := ⟨Own.nil _ _ _, (fun _ h => by cases h), (fun _ h => by cases h)⟩
theorem Own2.empty (h : Own w B 1 v 0 []) : Own2 w B v [] := ⟨h, (fun _ h => by cases h), (fun _ h => by cases h)⟩
theorem Own2.more {w1 w2 : World} {v' : Value} {a : Option Addr} {n c : Nat} {zs : List Int} (h : Own2 w1 B v rows) (ho : OwnK .u8 w1 B (.slice a n c) zs) (hz : ∀ z ∈ zs, (Lit.int .u8 z).wf = true)
    (hne : ∀ k, Value.ownBlock (.slice a n c) = some k → v.ownBlock ≠ some k)
    (hn : Own w2 B 1 v' (rows.length + 1) (rows.map (·.1) ++ [.slice a n c])) (hg : w1.grownBy w2 v.ownBlock) (hat : v'.ownBlock = v.ownBlock ∨ v'.ownBlock = some w1.heap.size) : Own2 w2 B v' (rows ++ [(.slice a n c, zs)]) := by
  have keepRow : ∀ {u : Value} {m : Nat} {xs : List Value}, Own w1 B 1 u m xs → (∀ k, u.ownBlock = some k → v.ownBlock ≠ some k) → Own w2 B 1 u m xs := fun {u m xs} o hne => by
    refine o.keep hg.size fun k hk => hg.block k (o.lt k hk).2 (fun e => hne k hk e.symm)
  have newApart : ∀ {u : Value} {m : Nat} {xs : List Value}, Own w1 B 1 u m xs → (∀ k, u.ownBlock = some k → v.ownBlock ≠ some k) → ∀ k, u.ownBlock = some k → v'.ownBlock ≠ some k := fun {u m xs} o hne k hk => by
    rcases hat with e | e
    · rw [e]; exact hne k hk
    · rw [e]
      intro e2
      injection e2 with e2
      have := (o.lt k hk).2
      omega
  refine ⟨by simpa using hn, fun x hx => ?_, fun x hx k hk => ?_⟩
  · rcases List.mem_append.1 hx with hx | hx
    · obtain ⟨a1, n1, c1, e1, o1, z1⟩ := h.each x hx
      exact ⟨a1, n1, c1, e1, keepRow o1 (by rw [← e1]; exact h.apart x hx), z1⟩
    · simp at hx
      subst hx
      exact ⟨a, n, c, rfl, keepRow ho hne, hz⟩
  · rcases List.mem_append.1 hx with hx | hx
    · obtain ⟨a1, n1, c1, e1, o1, z1⟩ := h.each x hx
      exact newApart o1 (by rw [← e1]; exact h.apart x hx) k (by rw [← e1]; exact hk)
    · simp at hx
      subst hx
      exact newApart ho hne k hk
end
end Go.Proofs.YtlodhleihnlchaaGreatDoor
namespace Go.Proofs.YtlodhleihnlchaaGreatDoor
open Go.RowKit
set_option maxRecDepth 100000

theorem Own.only {g : Nat} {w w' : World} {B size : Nat} {v : Value} {n : Nat} {xs : List Value} (h : Own w B size v n xs) (hO : Only g w w') (hg : g < B) : Own w' B size v n xs :=
  h.keep (by rw [hO.size]; exact Nat.le_refl _) fun k hk => hO.block k (by have := (h.lt k hk).1; omega)
theorem Only.grown {g : Nat} {w w' : World} (h : Only g w w') : w.grownBy w' (some g) := ⟨h.os, h.tape, h.output, by rw [h.size]; exact Nat.le_refl _, fun k _ hne => h.block k (fun e => hne (by rw [e]))⟩
section
variable {w0 : World} {a : Option Addr} {len cap : Nat} {zs : List Int} {p : Nat} {w w' : World}
theorem Draw.lt (h : Draw w0 a len cap zs p w) : w0.heap.size < w.heap.size := h.src.lt
theorem Draw.grown {row : Option Nat} (h : Draw w0 a len cap zs p w) (hg : w.grownBy w' row) (hr : ∀ k, row = some k → w0.heap.size < k) : Draw w0 a len cap zs p w' :=
  ⟨h.src.keep (hg.block _ h.lt (fun e => by have := hr _ e.symm; omega)),
   h.row.keep (fun i hi => hg.block i (by have := h.lt; omega) (fun e => by have := hr _ e.symm; omega)),
   h.bel.grown hg h.bel.size (fun k hk => by have := hr k hk; omega)⟩
end

end Go.Proofs.YtlodhleihnlchaaGreatDoor
namespace Go.Proofs.YtlodhleihnlchaaGreatDoor
open Go.RowKit
set_option maxRecDepth 100000
set_option linter.unusedVariables false

abbrev bentN : List ByteArray := [{ data := #[97, 46, 98] }, { data := #[65, 46, 66, 46] }, { data := #[109, 97, 105, 108, 46, 120] }, { data := #[45, 97] }, { data := #[97, 45] }, { data := #[97, 46, 46, 98] }, { data := #[46] }, { data := #[] }, { data := #[97, 95, 98] }, { data := #[97, 98, 99, 100, 101, 102, 103, 104, 105, 106, 46, 97, 98, 99, 100, 101, 102, 103, 104, 105] }, { data := #[97, 98, 99, 100, 101, 102, 103, 104, 105, 106, 46, 97, 98, 99, 100, 101, 102, 103, 104, 105, 106] }, { data := #[122, 46] }]
abbrev drawN : List ByteArray := [{ data := #[97, 46, 98] }, { data := #[109, 97, 105, 108, 46, 120] }, { data := #[104, 111, 115, 116, 45, 49] }, { data := #[122] }]
theorem bentN_size (k : Nat) : ((bentN.getD k ByteArray.empty).size) ≤ 21 := by
  rcases Nat.lt_or_ge k 12 with h | h
  · have : ∀ j : Fin 12, ((bentN.getD j.val ByteArray.empty).size) ≤ 21 := by decide
    exact this ⟨k, h⟩
  · have : bentN.getD k ByteArray.empty = ByteArray.empty := by simp [List.getD, h]
    rw [this]; decide
theorem drawN_size (k : Nat) : ((drawN.getD k ByteArray.empty).size) ≤ 20 := by
  rcases Nat.lt_or_ge k 4 with h | h
  · have : ∀ j : Fin 4, ((drawN.getD j.val ByteArray.empty).size) ≤ 20 := by decide
    exact this ⟨k, h⟩
  · have : drawN.getD k ByteArray.empty = ByteArray.empty := by simp [List.getD, h]
    rw [this]; decide
theorem drawN_norm (k : Nat) (h : k < 4) : M.normF (drawN.getD k ByteArray.empty).data.toList = 0 := by
  have : ∀ j : Fin 4, M.normF (drawN.getD j.val ByteArray.empty).data.toList = 0 := by decide +kernel
  exact this ⟨k, h⟩

theorem gtr {w w1 w2 : World} {g : Nat} (h : w.grownBy w1 (some g)) (k : w1.grownBy w2 (some g)) : w.grownBy w2 (some g) := grown_trans h k (fun _ e => .inr e) (fun _ e => .inr e)
theorem gal {w w1 : World} {g : Nat} (h : w.grownBy w1 (some g)) (o : Obj) : w.grownBy (w1.alloc o) (some g) :=
  ⟨h.os, h.tape, h.output, Nat.le_trans h.size (by simp), fun k hk hne => (Below.heap_alloc w1 o k (Nat.lt_of_lt_of_le hk h.size)).trans (h.block k hk hne)⟩
theorem gbe {w w1 w2 : World} {g : Nat} (h : w.grownBy w1 (some g)) (k : Below w1.heap.size w1 w2) : w.grownBy w2 (some g) :=
  ⟨k.os.trans h.os, k.tape.trans h.tape, k.output.trans h.output, Nat.le_trans h.size k.size, fun i hi hne => (k.block i (Nat.lt_of_lt_of_le hi h.size)).trans (h.block i hi hne)⟩
theorem gset {w w1 : World} {g : Nat} (h : w.grownBy w1 (some g)) {p : Addr} (hp : w.heap.size ≤ p.block) (v : Value) : w.grownBy (w1.setCell p v) (some g) :=
  ⟨h.os, h.tape, h.output, by simpa [World.setCell] using h.size, fun k hk hne => (Below.heap_setCell w1 p v k (by omega)).trans (h.block k hk hne)⟩

theorem Draw.put {w0 : World} {a : Option Addr} {len cap : Nat} {zs : List Int} {p : Nat} {w : World} {x : Addr} (h : Draw w0 a len cap zs p w) (hx : w0.heap.size < x.block) (u : Value) : Draw w0 a len cap zs p (w.setCell x u) :=
  h.grown (row := some x.block) ⟨rfl, rfl, rfl, by simp [World.setCell], fun k hk hne => Below.heap_setCell w x u k (fun e => hne (by rw [e]))⟩ (fun k e => by injection e with e; omega)
theorem At.only5 {g g0 : Nat} {cs : List Value} {w w' : World} (h : At g cs w) (hO : Only g0 w w') (hg : g ≠ g0) : At g cs w' := h.keep fun _ => hO.block g hg
def DText (Q : ByteArray → Prop) (w0 : World) (a : Option Addr) (len cap : Nat) (zs : List Int) (p : Nat) (w : World) (r : Ending) (w' : World) : Prop :=
  ∃ s : ByteArray, Q s ∧ r = .returned (.string s) ∧ Draw w0 a len cap zs (p + 1) w' ∧ w.grownBy w' (some w0.heap.size)
theorem dl5Bent {w0 : World} {a : Option Addr} {len cap : Nat} {zs : List Int} {p : Nat} {w : World} (D : Draw w0 a len cap zs p w) (hp : p ≤ 1000000) :
    Calls Tryz.prog 145 #[.pointer (some ⟨w0.heap.size, 0, none⟩)] w (DText (fun s => s.size ≤ 21) w0 a len cap zs p w) := by
  have hlt := D.lt
  have D1 := D.alloc (.cells (bentN.map Value.string).toArray 9)
  go_enter Tryz.func145, Tryz.ntmps145
  go_wp2_with fail
  refine (dnext _ D1 hp).mono ?_
  rintro r w2 ⟨x, x0, x1, rfl, D2, O2⟩
  obtain ⟨k, rfl⟩ := Int.eq_ofNat_of_zero_le x0
  have hk : k < 12 := by omega
  have hcell : w2.cell? ⟨w.heap.size, k, none⟩ = some (.string (bentN.getD k ByteArray.empty)) := by
    have e1 : (w.alloc (.cells (bentN.map Value.string).toArray 9)).heap[w.heap.size]? = some (.cells (bentN.map Value.string).toArray 9) := (MapKept.heap_alloc w _).1
    have e2 := O2.block w.heap.size (by omega)
    unfold World.cell?
    rw [e2, e1]
    have : k < bentN.length := hk
    simp only [Option.isSome_none, Bool.false_eq_true, if_false, List.getElem?_toArray, List.getElem?_map]
    rw [List.getElem?_eq_getElem this]
    simp [List.getD, List.getElem?_eq_getElem this]
  have hsz := bentN_size k
  generalize bentN.getD k ByteArray.empty = s at hcell hsz
  have HF := Lib.hid (And.intro D2 (grown_alloc O2.grown))
  have HS := Lib.hid hsz
  clear D D1 D2 O2 x0 x1 hsz
  go_wp2_with fail
  go_ret
  exact ⟨s, HS.out, rfl, HF.out.1, HF.out.2⟩

theorem dl5DrawName {w0 : World} {a : Option Addr} {len cap : Nat} {zs : List Int} {p : Nat} {w : World} (D : Draw w0 a len cap zs p w) (hp : p ≤ 1000000) :
    Calls Tryz.prog 146 #[.pointer (some ⟨w0.heap.size, 0, none⟩)] w (DText (fun s => s.size ≤ 20 ∧ M.normF s.data.toList = 0) w0 a len cap zs p w) := by
  have hlt := D.lt
  have D1 := D.alloc (.cells (drawN.map Value.string).toArray 9)
  go_enter Tryz.func146, Tryz.ntmps146
  go_wp2_with fail
  refine (dnext _ D1 hp).mono ?_
  rintro r w2 ⟨x, x0, x1, rfl, D2, O2⟩
  obtain ⟨k, rfl⟩ := Int.eq_ofNat_of_zero_le x0
  have hk : k < 4 := by omega
  have hcell : w2.cell? ⟨w.heap.size, k, none⟩ = some (.string (drawN.getD k ByteArray.empty)) := by
    have e1 : (w.alloc (.cells (drawN.map Value.string).toArray 9)).heap[w.heap.size]? = some (.cells (drawN.map Value.string).toArray 9) := (MapKept.heap_alloc w _).1
    have e2 := O2.block w.heap.size (by omega)
    unfold World.cell?
    rw [e2, e1]
    have : k < drawN.length := hk
    simp only [Option.isSome_none, Bool.false_eq_true, if_false, List.getElem?_toArray, List.getElem?_map]
    rw [List.getElem?_eq_getElem this]
    simp [List.getD, List.getElem?_eq_getElem this]
  have hsz := And.intro (drawN_size k) (drawN_norm k hk)
  generalize drawN.getD k ByteArray.empty = s at hcell hsz
  have HF := Lib.hid (And.intro D2 (grown_alloc O2.grown))
  have HS := Lib.hid hsz
  clear D D1 D2 O2 x0 x1 hsz
  go_wp2_with fail
  go_ret
  exact ⟨s, HS.out, rfl, HF.out.1, HF.out.2⟩

theorem key1 (a b : Int) (w : World) : Sem.run Tryz.prog (Instr.field 119 (.agg #[.int .i64 a, .int .i64 b]) 1) w = .ok (.int .i64 b) w := by kernel_rfl
end Go.Proofs.YtlodhleihnlchaaGreatDoor
namespace Go.Proofs.YtlodhleihnlchaaGreatDoor
open Go.RowKit

def Secreted (w : World) (r : Ending) (w' : World) : Prop := ∃ v : Int, 1 ≤ v ∧ v ≤ 1438 ∧ r = .returned (.int .i64 v) ∧ Below w.heap.size w w'
theorem lwSecret_any (p : Nat) {a : Option Addr} {len cap B : Nat} {zs : List Int} {w : World} (hR : Row .u8 w B a len cap zs) (hp : p ≤ 1000) :
    Calls Tryz.prog 65 #[.slice a len cap, .int .i64 p] w (Secreted w) := by
  go_enter Tryz.func65, Tryz.ntmps65
  go_wp2_with fail
  refine (lwAt_any p 1438 _ _ _ _ _ _ hR hp).mono ?_
  rintro r w1 ⟨x, x0, x1, rfl, hb⟩
  have x2 : x < 1438 := by omega
  clear x1
  go_wp2_with fail
  go_ret
  exact ⟨1 + x, by omega, by omega, rfl, hb⟩

theorem pub_base {a : Int} (a0 : 1 ≤ a) (a1 : a ≤ 1438) : pubB (M.pw 4 a.toNat 2879) = true := by
  have h := M.base_pub a.toNat (by omega) (by omega)
  simp only [pubB, inB, Bool.and_eq_true, decide_eq_true_eq, beq_iff_eq]
  exact ⟨h, M.base_raised _⟩
end Go.Proofs.YtlodhleihnlchaaGreatDoor
namespace Go.Proofs.YtlodhleihnlchaaGreatDoor
open Go.RowKit Go.Extern.Stop Go.Stop Go.Extern

structure ErrT (w : World) : Prop where
  cell : w.cell? ⟨3, 0, none⟩ = some (.iface 384 (.agg #[.pointer (some ⟨8, 160, none⟩)]))
theorem ErrT.on {w w' : World} (h : ErrT w) (hb : Below w.heap.size w w') : ErrT w' := ⟨cell_keep hb h.cell⟩
theorem ErrT.grew {w w' : World} {row : Option Nat} (h : ErrT w) (hg : w.grownBy w' row) (hr : ∀ k, row = some k → 3 < k) : ErrT w' :=
  ⟨hg.cell h.cell (fun e => by have := hr _ e.symm; exact absurd this (Nat.lt_irrefl _))⟩
theorem ErrT.lt {w : World} (h : ErrT w) : 3 < w.heap.size := cell_lt h.cell

abbrev misV (c : Int) (s : ByteArray) : Value := .iface 315 (.agg #[.int .i64 c, .string s])
abbrev hdl (t : Nat) : Value := .pointer (some ⟨8, t, none⟩)
abbrev rval (t : Nat) (a : Addr) (f : Int) : Value := .agg #[hdl t, .pointer (some a), .int .u64 f]

theorem as_nil (t : Value) (w : World) :
    Calls Tryz.prog 262 #[.nilIface, t] w fun e w' => e = .returned (.bool false) ∧ w = w' := by
  go_enter Tryz.func262, Tryz.ntmps262
  go_wp2
  go_ret
  exact ⟨rfl, rfl⟩

theorem rl_valueOfP (t : Addr) (w : World) : (ReflectliteValue.unpack (.iface 322 (.pointer (some t)))).run Tryz.prog w
    = .ok (rval 322 ⟨w.heap.size, 0, none⟩ 150) (w.alloc (.cells #[.pointer (some t)] 322)) := by kernel_rfl
theorem rl_typeP (a : Addr) (w : World) : (ReflectliteValue.methodAny (ReflectliteValue.valueError "reflectlite.Value.Type" 0) (fun t _ _ _ => ReflectliteType.toType t) #[rval 322 a 150]).run Tryz.prog w
    = .ok (.iface 384 (.agg #[hdl 322])) w := by kernel_rfl
theorem rl_mKind (h : Value) (w : World) : (Go.method 566 384 (.agg #[h]) "Kind").run Tryz.prog w = .ok (360, h) w := by kernel_rfl
theorem rl_mElem (h : Value) (w : World) : (Go.method 566 384 (.agg #[h]) "Elem").run Tryz.prog w = .ok (375, .agg #[h]) w := by kernel_rfl
theorem rl_mImpl (h : Value) (w : World) : (Go.method 566 384 (.agg #[h]) "Implements").run Tryz.prog w = .ok (376, .agg #[h]) w := by kernel_rfl
theorem rl_mAsgn (h : Value) (w : World) : (Go.method 566 384 (.agg #[h]) "AssignableTo").run Tryz.prog w = .ok (373, .agg #[h]) w := by kernel_rfl
theorem rl_kindP (w : World) : ((ReflectliteType.abiMethod fun t => (fun a : Nat => Value.int IntKind.u8 (a : Int)) <$> Rtype.kind t) #[hdl 322]).run Tryz.prog w = .ok (.int .u8 22) w := by kernel_rfl
theorem rl_kindM (w : World) : ((ReflectliteType.abiMethod fun t => (fun a : Nat => Value.int IntKind.u8 (a : Int)) <$> Rtype.kind t) #[hdl 315]).run Tryz.prog w = .ok (.int .u8 25) w := by kernel_rfl
theorem rl_elemP (w : World) : (ReflectliteType.method ReflectliteType.elem #[.agg #[hdl 322]]).run Tryz.prog w = .ok (.iface 384 (.agg #[hdl 315])) w := by kernel_rfl
theorem rl_implM (w : World) : (ReflectliteType.relation "Implements" ReflectliteType.implements_ #[.agg #[hdl 315], .iface 384 (.agg #[hdl 160])]).run Tryz.prog w = .ok (.bool true) w := by kernel_rfl
theorem rl_typeOfM (v : Value) (w : World) : (ReflectliteType.typeOf #[.iface 315 v]).run Tryz.prog w = .ok (.iface 384 (.agg #[hdl 315])) w := by kernel_rfl
theorem rl_asgnM (w : World) : (ReflectliteType.relation "AssignableTo" ReflectliteType.assignableTo #[.agg #[hdl 315], .iface 384 (.agg #[hdl 315])]).run Tryz.prog w = .ok (.bool true) w := by kernel_rfl
theorem rl_valueOfM (c : Int) (s : ByteArray) (w : World) : (ReflectliteValue.unpack (misV c s)).run Tryz.prog w
    = .ok (rval 315 ⟨w.heap.size, 0, none⟩ 153) (w.alloc (.cells #[.int .i64 c, .string s] 315)) := by kernel_rfl

theorem rl_partsP (a : Addr) (w : World) : (ReflectliteValue.parts (rval 322 a 150)).run Tryz.prog w = .ok (some (322, a, 150)) w := by kernel_rfl
theorem rl_method {P : Program} {w : World} {z : Sem Value} {f : TypeId → Addr → Nat → Nat → Sem Value} {v : Value} {t : TypeId} {a : Addr} {k : Nat} (h : (ReflectliteValue.parts v).run P w = .ok (some (t, a, k)) w) :
    (ReflectliteValue.method z f #[v]).run P w = (f t a k (k % 32)).run P w := by
  rw [show ReflectliteValue.method z f #[v] = ReflectliteValue.parts v >>= _ from rfl]
  simp only [Sem.run_bind, h, Result.andThen]
theorem rl_isNilP (a p : Addr) (W : World) (ha : W.cell? a = some (.pointer (some p))) :
    (ReflectliteValue.method (ReflectliteValue.valueError "reflectlite.Value.IsNil" 0) ReflectliteValue.isNil #[rval 322 a 150]).run Tryz.prog W = .ok (.bool false) W := by
  rw [rl_method (rl_partsP _ _)]
  simp [ReflectliteValue.isNil, loadVar, isAgg, underlying, Tryz.underlying322, ha, Result.andThen]
theorem rl_elemOfP (w : World) : (Rtype.elem? 322).run Tryz.prog w = .ok (some 315) w := by kernel_rfl
theorem rl_mkM (p : Addr) (w : World) : (ReflectliteValue.mk 315 p ReflectliteValue.flagAddr).run Tryz.prog w = .ok (rval 315 p 409) w := by kernel_rfl
theorem rl_elemV (a p : Addr) (W : World) (ha : W.cell? a = some (.pointer (some p))) :
    (ReflectliteValue.method (ReflectliteValue.valueError "reflectlite.Value.Elem" 0) ReflectliteValue.elem #[rval 322 a 150]).run Tryz.prog W = .ok (rval 315 p 409) W := by
  rw [rl_method (rl_partsP _ _)]
  simp [ReflectliteValue.elem, loadVar, isAgg, underlying, Tryz.underlying322, ha, Result.andThen, rl_elemOfP, rl_mkM]
theorem rl_partsMa (a : Addr) (w : World) : (ReflectliteValue.parts (rval 315 a 409)).run Tryz.prog w = .ok (some (315, a, 409)) w := by kernel_rfl
theorem rl_partsM (a : Addr) (w : World) : (ReflectliteValue.parts (rval 315 a 153)).run Tryz.prog w = .ok (some (315, a, 153)) w := by kernel_rfl
theorem rl_directM (w : World) : (Rtype.directlyAssignable 315 315).run Tryz.prog w = .ok true w := by kernel_rfl
theorem rl_setM (tb b : Nat) (c : Int) (s : ByteArray) (o0 o1 : Value) (W : World) (b0 : W.cell? ⟨b, 0, none⟩ = some (.int .i64 c)) (b1 : W.cell? ⟨b, 1, none⟩ = some (.string s))
    (t0 : W.cell? ⟨tb, 0, none⟩ = some o0) (t1 : W.cell? ⟨tb, 1, none⟩ = some o1) (f0 : W.frozen? ⟨tb, 0, none⟩ = false) (f1 : W.frozen? ⟨tb, 1, none⟩ = false) :
    (ReflectliteValue.set #[rval 315 ⟨tb, 0, none⟩ 409, rval 315 ⟨b, 0, none⟩ 153]).run Tryz.prog W = .ok (.tuple #[]) ((W.setCell ⟨tb, 0, none⟩ (.int .i64 c)).setCell ⟨tb, 1, none⟩ (.string s)) := by
  have hl : (loadCells ⟨b, 0, none⟩ 2).run Tryz.prog W = .ok #[.int .i64 c, .string s] W := by
    have := run_loadCells_list (P := Tryz.prog) (w := W) ⟨b, 0, none⟩ [.int .i64 c, .string s] (fun j v hj => by
      rcases j with _ | _ | j
      · simp at hj; subst hj; exact b0
      · simp at hj; subst hj; exact b1
      · first | (simp at hj; done) | (simp at hj; omega))
    exact this
  generalize hv : rval 315 ⟨tb, 0, none⟩ 409 = v
  generalize hx : rval 315 ⟨b, 0, none⟩ 153 = x
  rw [show ReflectliteValue.set #[v, x] = (ReflectliteValue.parts v >>= fun p => ReflectliteValue.parts x >>= fun q => _) from rfl]
  subst hv; subst hx
  simp only [Sem.run_bind, rl_partsMa, rl_partsM, Result.andThen]
  simp [ReflectliteValue.flagAddr, loadVar, isAgg, underlying, Tryz.underlying315, hl, Result.andThen, rl_directM, storeVar, Value.cells]
  have hst := run_storeCells_cells (P := Tryz.prog) tb 0 [.int .i64 c, .string s] 0 W
    (fun j hj => by
      rcases j with _ | _ | j
      · simp [t0]
      · simp [t1]
      · first | (simp at hj; done) | (simp at hj; omega))
    (fun j hj => by
      rcases j with _ | _ | j
      · exact f0
      · exact f1
      · first | (simp at hj; done) | (simp at hj; omega))
    (fun v hv => by
      simp at hv
      rcases hv with rfl | rfl <;> rfl)
  rw [hst]
  rfl
end Go.Proofs.YtlodhleihnlchaaGreatDoor
namespace Go.Proofs.YtlodhleihnlchaaGreatDoor
open Go.RowKit Go.Extern.Stop Go.Stop Go.Extern

set_option maxHeartbeats 4000000 in
set_option maxRecDepth 100000 in
theorem as_hit (c : Int) (s : ByteArray) (tb : Nat) (o0 o1 : Value) (w : World) (hg : ErrT w) (t0 : w.cell? ⟨tb, 0, none⟩ = some o0) (t1 : w.cell? ⟨tb, 1, none⟩ = some o1) (f0 : w.frozen? ⟨tb, 0, none⟩ = false) (f1 : w.frozen? ⟨tb, 1, none⟩ = false) :
    Calls Tryz.prog 262 #[misV c s, .iface 322 (.pointer (some ⟨tb, 0, none⟩))] w fun ev w' => ev = .returned (.bool true) ∧ w'.cell? ⟨tb, 0, none⟩ = some (.int .i64 c) ∧ Below tb w w' := by
  have hV := @run_callFunc_extern Tryz.prog 294 _ (fun args => ReflectliteValue.unpack (args.getD 0 (.tuple #[]))) Tryz.func294 (by kernel_rfl) (by kernel_rfl) (by kernel_rfl) (by kernel_rfl)
  have hT := @run_callFunc_extern Tryz.prog 295 _ (ReflectliteValue.methodAny (ReflectliteValue.valueError "reflectlite.Value.Type" 0) (fun t _ _ _ => ReflectliteType.toType t)) Tryz.func295 (by kernel_rfl) (by kernel_rfl) (by kernel_rfl) (by kernel_rfl)
  have hN := @run_callFunc_extern Tryz.prog 296 _ (ReflectliteValue.method (ReflectliteValue.valueError "reflectlite.Value.IsNil" 0) ReflectliteValue.isNil) Tryz.func296 (by kernel_rfl) (by kernel_rfl) (by kernel_rfl) (by kernel_rfl)
  have hK := @run_callFunc_extern Tryz.prog 360 _ (ReflectliteType.abiMethod fun t => do pure (.int .u8 (← Rtype.kind t))) Tryz.func360 (by kernel_rfl) (by kernel_rfl) (by kernel_rfl) (by kernel_rfl)
  have hE := @run_callFunc_extern Tryz.prog 375 _ (ReflectliteType.method ReflectliteType.elem) Tryz.func375 (by kernel_rfl) (by kernel_rfl) (by kernel_rfl) (by kernel_rfl)
  have hI := @run_callFunc_extern Tryz.prog 376 _ (ReflectliteType.relation "Implements" ReflectliteType.implements_) Tryz.func376 (by kernel_rfl) (by kernel_rfl) (by kernel_rfl) (by kernel_rfl)
  have hO := @run_callFunc_extern Tryz.prog 315 _ ReflectliteType.typeOf Tryz.func315 (by kernel_rfl) (by kernel_rfl) (by kernel_rfl) (by kernel_rfl)
  have hA := @run_callFunc_extern Tryz.prog 373 _ (ReflectliteType.relation "AssignableTo" ReflectliteType.assignableTo) Tryz.func373 (by kernel_rfl) (by kernel_rfl) (by kernel_rfl) (by kernel_rfl)
  have hL := @run_callFunc_extern Tryz.prog 316 _ (ReflectliteValue.method (ReflectliteValue.valueError "reflectlite.Value.Elem" 0) ReflectliteValue.elem) Tryz.func316 (by kernel_rfl) (by kernel_rfl) (by kernel_rfl) (by kernel_rfl)
  have hS := @run_callFunc_extern Tryz.prog 317 _ ReflectliteValue.set Tryz.func317 (by kernel_rfl) (by kernel_rfl) (by kernel_rfl) (by kernel_rfl)
  have tO := rl_typeOfM
  have mA := rl_mAsgn
  have a1 := rl_asgnM
  have v1 := rl_valueOfM
  have v2 := rl_valueOfP
  have ty := rl_typeP
  have mK := rl_mKind
  have mE := rl_mElem
  have mI := rl_mImpl
  have k1 := rl_kindP
  have k2 := rl_kindM
  have e1 := rl_elemP
  have i1 := rl_implM
  have n1 := rl_isNilP ⟨w.heap.size, 0, none⟩ ⟨tb, 0, none⟩ ((w.alloc (.cells #[.pointer (some ⟨tb, 0, none⟩)] 322)).alloc (.cells #[hdl 322, .pointer (some ⟨w.heap.size, 0, none⟩), .int .u64 150] 361)) (by simp)
  have hlt := hg.lt
  have hg2 : ((w.alloc (.cells #[.pointer (some ⟨tb, 0, none⟩)] 322)).alloc (.cells #[hdl 322, .pointer (some ⟨w.heap.size, 0, none⟩), .int .u64 150] 361)).cell? ⟨3, 0, none⟩ = some (.iface 384 (.agg #[.pointer (some ⟨8, 160, none⟩)])) :=
    ((hg.on (bal (Below.refl _ _) _)).on (bal (Below.refl _ _) _)).cell
  have htl : tb < w.heap.size := cell_lt t0
  have el := rl_elemV ⟨w.heap.size, 0, none⟩ ⟨tb, 0, none⟩ (((w.alloc (.cells #[.pointer (some ⟨tb, 0, none⟩)] 322)).alloc (.cells #[hdl 322, .pointer (some ⟨w.heap.size, 0, none⟩), .int .u64 150] 361)).alloc (.cells #[hdl 322, .pointer (some ⟨w.heap.size, 0, none⟩), .int .u64 150] 361)) (by rw [World.cell?_alloc_lt _ _ ⟨w.heap.size, 0, none⟩ (by simp; omega)]; simp)
  have hb4 : Below w.heap.size w ((((w.alloc (.cells #[.pointer (some ⟨tb, 0, none⟩)] 322)).alloc (.cells #[hdl 322, .pointer (some ⟨w.heap.size, 0, none⟩), .int .u64 150] 361)).alloc (.cells #[hdl 322, .pointer (some ⟨w.heap.size, 0, none⟩), .int .u64 150] 361)).alloc (.cells #[.int .i64 c, .string s] 315)) := bal (bal (bal (bal (Below.refl _ _) _) _) _) _
  have q0 := cell_keep hb4 t0
  have q1 := cell_keep hb4 t1
  have p0 := (hb4.frozen (p := ⟨tb, 0, none⟩) htl).trans f0
  have p1 := (hb4.frozen (p := ⟨tb, 1, none⟩) htl).trans f1
  have st := rl_setM tb (w.heap.size + 1 + 1 + 1) c s o0 o1 ((((w.alloc (.cells #[.pointer (some ⟨tb, 0, none⟩)] 322)).alloc (.cells #[hdl 322, .pointer (some ⟨w.heap.size, 0, none⟩), .int .u64 150] 361)).alloc (.cells #[hdl 322, .pointer (some ⟨w.heap.size, 0, none⟩), .int .u64 150] 361)).alloc (.cells #[.int .i64 c, .string s] 315))
    (by rw [World.cell?_alloc_at _ _ _ _ (by simp)]; rfl) (by rw [World.cell?_alloc_at _ _ _ _ (by simp)]; rfl) q0 q1 p0 p1
  have F := Lib.hid (And.intro q0 (And.intro q1 (hb4.mono (Nat.le_of_lt htl))))
  clear hb4 q0 q1 p0 p1 t0 t1 f0 f1 hg
  go_enter Tryz.func262, Tryz.ntmps262
  go_wp2
  refine wp_loop_rounds 1 ?_
  rw [rounds_succ]
  go_wp2
  go_ret
  refine ⟨rfl, ?_, ?_⟩
  · rw [World.cell?_setCell_other _ _ _ _ (fun e => by injection e with _ e2; omega), World.cell?_setCell_same _ _ _ (by rw [F.out.1])]
  · exact (F.out.2.2.setCell (Nat.le_refl _) _).setCell (Nat.le_refl _) _

theorem codeOf_nil (w : World) :
    Calls Tryz.prog 198 #[.nilIface] w fun r w' => r = .returned (.int .i64 0) ∧ Below w.heap.size w w' := by
  go_enter Tryz.func198, Tryz.ntmps198
  go_wp2_with fail
  refine (as_nil _ _).mono ?_
  rintro r w' ⟨rfl, rfl⟩
  go_wp2_with fail
  go_ret
  exact ⟨rfl, bal (Below.refl _ _) _⟩

theorem codeOf_mis (c : Int) (s : ByteArray) (w : World) (hg : ErrT w) :
    Calls Tryz.prog 198 #[misV c s] w fun r w' => r = .returned (.int .i64 c) ∧ Below w.heap.size w w' := by
  have hg1 := fun o => hg.on (bal (Below.refl _ w) o)
  clear hg
  go_enter Tryz.func198, Tryz.ntmps198
  go_wp2_with fail
  refine (as_hit c s w.heap.size (.int .i64 0) (.string { data := #[] }) _ (hg1 _) (by go_simp) (by go_simp) (by go_simp) (by go_simp)).mono ?_
  rintro r w1 ⟨rfl, q0, hb⟩
  have hb2 := Below.trans (bal (Below.refl _ w) _) hb
  clear hb hg1
  go_wp2_with fail
  go_ret
  exact ⟨rfl, hb2⟩
end Go.Proofs.YtlodhleihnlchaaGreatDoor
namespace Go.Proofs.YtlodhleihnlchaaGreatDoor
open Go.RowKit
set_option maxRecDepth 100000

/-! Whole numbers below 2879 as floats, and back. -/
def floatBackB (n : Nat) : Bool := floatToIntVal .f64 (floatOfInt .f64 (n : Int)) .i64 == some (n : Int)
theorem float_all : M.allB floatBackB 2879 = true := by decide +kernel
theorem float_back {n : Int} (h0 : 0 ≤ n) (h1 : n ≤ 2878) : floatToIntVal .f64 (floatOfInt .f64 n) .i64 = some n := by
  obtain ⟨n, rfl⟩ := Int.eq_ofNat_of_zero_le h0
  have h := M.allB_out float_all (k := n) (by omega)
  simp only [floatBackB, beq_iff_eq] at h
  exact h
def pairV (p q : Int) : Value := .complex .f64 (floatOfInt .f64 p) (floatOfInt .f64 q)

theorem point_any (p q : Int) (w : World) (h0 : 0 ≤ p) (h1 : p ≤ 2878) :
    Calls Tryz.prog 181 #[pairV p q] w fun r w' => r = .returned (.int .i64 p) ∧ w = w' := by
  have hf := float_back h0 h1
  have hc := fun (w : World) => run_convert_float_int (P := Tryz.prog) w 316 2 .f64 .i64 (floatOfInt .f64 p) p (by kernel_rfl) Tryz.underlying2 hf
  unfold pairV
  go_enter Tryz.func181, Tryz.ntmps181
  go_wp2_with fail
  go_ret
  simp
theorem proof_any (p q : Int) (w : World) (h0 : 0 ≤ q) (h1 : q ≤ 2878) :
    Calls Tryz.prog 182 #[pairV p q] w fun r w' => r = .returned (.int .i64 q) ∧ w = w' := by
  have hf := float_back h0 h1
  have hc := fun (w : World) => run_convert_float_int (P := Tryz.prog) w 316 2 .f64 .i64 (floatOfInt .f64 q) q (by kernel_rfl) Tryz.underlying2 hf
  unfold pairV
  go_enter Tryz.func182, Tryz.ntmps182
  go_wp2_with fail
  go_ret
  simp

def Misfit (w : World) (r : Ending) (w' : World) : Prop := ∃ s, r = .returned (misV 3 s) ∧ Below w.heap.size w w'
theorem fitSigner_yes (s t : Int) (w : World) (hs : inB s 1 1438 = true) (ht : M.sumB t = true) :
    Calls Tryz.prog 249 #[.int .i64 s, .int .i64 t] w fun r w' => r = .returned .nilIface ∧ w = w' := by
  go_enter Tryz.func249, Tryz.ntmps249
  go_wp2_with fail
  refine (isSecret_any _ _).mono ?_
  rintro r w' ⟨rfl, rfl⟩
  go_wp2_with fail
  refine (isSum_any _ _).mono ?_
  rintro r w' ⟨rfl, rfl⟩
  go_wp2_with fail
  go_ret
  simp
theorem fitSigner_no (s t : Int) (w : World) (h : (inB s 1 1438 && M.sumB t) = false) :
    Calls Tryz.prog 249 #[.int .i64 s, .int .i64 t] w (Misfit w) := by
  cases hs : inB s 1 1438
  · clear h
    go_enter Tryz.func249, Tryz.ntmps249
    go_wp2_with fail
    refine (isSecret_any _ _).mono ?_
    rintro r w' ⟨rfl, rfl⟩
    go_wp2_with fail
    go_ret
    exact ⟨_, rfl, Below.refl _ _⟩
  · have ht : M.sumB t = false := by simpa [hs] using h
    clear h
    go_enter Tryz.func249, Tryz.ntmps249
    go_wp2_with fail
    refine (isSecret_any _ _).mono ?_
    rintro r w' ⟨rfl, rfl⟩
    go_wp2_with fail
    refine (isSum_any _ _).mono ?_
    rintro r w' ⟨rfl, rfl⟩
    go_wp2_with fail
    go_ret
    exact ⟨_, rfl, Below.refl _ _⟩

theorem pairOf_yes (p q : Int) (w : World) (h : M.sigB p q = true) :
    Calls Tryz.prog 179 #[I2 p q] w fun r w' => r = .returned (.tuple #[pairV p q, .nilIface]) ∧ Below w.heap.size w w' := by
  obtain ⟨p0, p1, q0, q1⟩ := M.sigB_bd h
  have hp : pubB p = true := by simp only [M.sigB, Bool.and_eq_true] at h; exact h.1
  unfold pairV
  clear h
  go_enter Tryz.func179, Tryz.ntmps179
  go_wp2_with fail
  refine (implIsPublic_any _ _).mono ?_
  rintro r w1 ⟨rfl, hb_w1⟩
  obtain ⟨hc_w1, hf_w1⟩ := bcell hb_w1
  have hz_w1 := hb_w1.size
  (try simp at hz_w1)
  go_wp2_with fail
  go_ret2
  exact ⟨rfl, btr (bal (Below.refl _ _) _) hb_w1⟩
def PairNo (w : World) (r : Ending) (w' : World) : Prop := ∃ s v, r = .returned (.tuple #[v, misV 3 s]) ∧ Below w.heap.size w w'
theorem pairOf_no (p q : Int) (w : World) (h : M.sigB p q = false) :
    Calls Tryz.prog 179 #[I2 p q] w (PairNo w) := by
  cases hp : pubB p
  · clear h
    go_enter Tryz.func179, Tryz.ntmps179
    go_wp2_with fail
    refine (implIsPublic_any _ _).mono ?_
    rintro r w1 ⟨rfl, hb_w1⟩
    obtain ⟨hc_w1, hf_w1⟩ := bcell hb_w1
    have hz_w1 := hb_w1.size
    (try simp at hz_w1)
    go_wp2_with fail
    go_ret2
    exact ⟨_, _, rfl, btr (bal (Below.refl _ _) _) hb_w1⟩
  · have hq : ¬ (0 ≤ q ∧ q ≤ 1438) := by
      intro hq
      simp only [M.sigB, hp, inB, hq, and_self, decide_true, Bool.and_self] at h
      cases h
    clear h
    by_cases q0 : q < 0
    · go_enter Tryz.func179, Tryz.ntmps179
      go_wp2_with fail
      refine (implIsPublic_any _ _).mono ?_
      rintro r w1 ⟨rfl, hb_w1⟩
      obtain ⟨hc_w1, hf_w1⟩ := bcell hb_w1
      have hz_w1 := hb_w1.size
      (try simp at hz_w1)
      go_wp2_with fail
      go_ret2
      exact ⟨_, _, rfl, btr (bal (Below.refl _ _) _) hb_w1⟩
    · have q1 : 1438 < q := by omega
      clear hq
      go_enter Tryz.func179, Tryz.ntmps179
      go_wp2_with fail
      refine (implIsPublic_any _ _).mono ?_
      rintro r w1 ⟨rfl, hb_w1⟩
      obtain ⟨hc_w1, hf_w1⟩ := bcell hb_w1
      have hz_w1 := hb_w1.size
      (try simp at hz_w1)
      go_wp2_with fail
      go_ret2
      exact ⟨_, _, rfl, btr (bal (Below.refl _ _) _) hb_w1⟩

theorem nonce_any (s t : Int) (w : World) (hL : Labels w) (hs : M.sumB s = true) (ht : M.sumB t = true) :
    Calls Tryz.prog 250 #[.int .i64 s, .int .i64 t] w fun r w' => r = .returned (.int .i64 (M.nonceN s t)) ∧ Below w.heap.size w w' := by
  have hlab := hL.nonceW
  have hlt := hL.lt
  have hR := row_two (w := w) s t 2 hs ht
  have HA := Lib.hid (show [s, t].all M.sumB = true by simp [hs, ht])
  obtain ⟨t0, t1⟩ := M.tagL_bd M.nonceS [s, t]
  unfold M.nonceN
  clear hL hs ht
  go_enter Tryz.func250, Tryz.ntmps250
  go_wp2_with fail
  refine (sumTagged_any _ _ _ _ _ _ _ (by decide) hR (by simp) HA.out (by omega)).mono ?_
  rintro r w2 ⟨rfl, hb2⟩
  have hb := btr (bal (Below.refl _ _) _) hb2
  clear hb2 hR hlab HA
  go_wp2_with fail
  go_ret
  exact ⟨rfl, hb⟩
theorem challenge_any (p q t : Int) (w : World) (hL : Labels w) (hp : M.sumB p = true) (hq : M.sumB q = true) (ht : M.sumB t = true) :
    Calls Tryz.prog 180 #[.int .i64 p, .int .i64 q, .int .i64 t] w fun r w' => r = .returned (.int .i64 (M.chalN p q t)) ∧ Below w.heap.size w w' := by
  have hlab := hL.signW
  have hlt := hL.lt
  have hR := row_three (w := w) p q t 2 hp hq ht
  have HA := Lib.hid (show [p, q, t].all M.sumB = true by simp [hp, hq, ht])
  obtain ⟨t0, t1⟩ := M.tagL_bd M.signS [p, q, t]
  unfold M.chalN
  clear hL hp hq ht
  go_enter Tryz.func180, Tryz.ntmps180
  go_wp2_with fail
  refine (sumTagged_any _ _ _ _ _ _ _ (by decide) hR (by simp) HA.out (by omega)).mono ?_
  rintro r w2 ⟨rfl, hb2⟩
  have hb := btr (bal (Below.refl _ _) _) hb2
  clear hb2 hR hlab HA
  go_wp2_with fail
  go_ret
  exact ⟨rfl, hb⟩

theorem l3Nonce_any (s t : Int) (w : World) (hs : M.sumB s = true) (ht : M.sumB t = true) :
    Calls Tryz.prog 258 #[.int .i64 s, .int .i64 t] w fun r w' => r = .returned (.int .i64 (M.nonceN s t)) ∧ Below w.heap.size w w' := by
  have hR := row_two (w := w) s t 2 hs ht
  have HA := Lib.hid (show [s, t].all M.sumB = true by simp [hs, ht])
  obtain ⟨t0, t1⟩ := M.tagL_bd M.nonceS [s, t]
  unfold M.nonceN
  clear hs ht
  go_enter Tryz.func258, Tryz.ntmps258
  go_wp2_with fail
  refine (l2Tag_any M.nonceS _ _ _ _ _ _ (by decide) hR (by simp) HA.out (by omega)).mono ?_
  rintro r w2 ⟨rfl, hb2⟩
  have hb := btr (bal (Below.refl _ _) _) hb2
  clear hb2 hR HA
  go_wp2_with fail
  go_ret
  exact ⟨rfl, hb⟩
theorem l3Challenge_any (p q t : Int) (w : World) (hp : M.sumB p = true) (hq : M.sumB q = true) (ht : M.sumB t = true) :
    Calls Tryz.prog 259 #[.int .i64 p, .int .i64 q, .int .i64 t] w fun r w' => r = .returned (.int .i64 (M.chalN p q t)) ∧ Below w.heap.size w w' := by
  have hR := row_three (w := w) p q t 2 hp hq ht
  have HA := Lib.hid (show [p, q, t].all M.sumB = true by simp [hp, hq, ht])
  obtain ⟨t0, t1⟩ := M.tagL_bd M.signS [p, q, t]
  unfold M.chalN
  clear hp hq ht
  go_enter Tryz.func259, Tryz.ntmps259
  go_wp2_with fail
  refine (l2Tag_any M.signS _ _ _ _ _ _ (by decide) hR (by simp) HA.out (by omega)).mono ?_
  rintro r w2 ⟨rfl, hb2⟩
  have hb := btr (bal (Below.refl _ _) _) hb2
  clear hb2 hR HA
  go_wp2_with fail
  go_ret
  exact ⟨rfl, hb⟩

theorem l3Fault_at (g o : Nat) (p q : Int) (w : World) (c0 : w.cell? ⟨g, o, none⟩ = some (.int .i64 p)) (c1 : w.cell? ⟨g, o + 1, none⟩ = some (.int .i64 q)) :
    Calls Tryz.prog 199 #[.pointer (some ⟨g, o, none⟩)] w fun r w' => r = .returned (.int .i64 (M.sigF p q)) ∧ w = w' := by
  cases hp : pubB p
  · have E : M.sigF p q = 3 := by simp [M.sigF, M.sigB, hp]
    rw [E]; clear E
    go_enter Tryz.func199, Tryz.ntmps199
    go_wp2_with fail
    refine (l1Public_any _ _).mono ?_
    rintro r w' ⟨rfl, rfl⟩
    go_wp2_with fail
    go_ret
    simp
  cases hq : inB q 0 1438
  · have E : M.sigF p q = 3 := by simp [M.sigF, M.sigB, hq]
    rw [E]; clear E
    go_enter Tryz.func199, Tryz.ntmps199
    go_wp2_with fail
    refine (l1Public_any _ _).mono ?_
    rintro r w' ⟨rfl, rfl⟩
    go_wp2_with fail
    refine (l1In_any _ _ _ _).mono ?_
    rintro r w' ⟨rfl, rfl⟩
    go_wp2_with fail
    go_ret
    simp
  · have E : M.sigF p q = 0 := by simp [M.sigF, M.sigB, hp, hq]
    rw [E]; clear E
    go_enter Tryz.func199, Tryz.ntmps199
    go_wp2_with fail
    refine (l1Public_any _ _).mono ?_
    rintro r w' ⟨rfl, rfl⟩
    go_wp2_with fail
    refine (l1In_any _ _ _ _).mono ?_
    rintro r w' ⟨rfl, rfl⟩
    go_wp2_with fail
    go_ret
    simp
theorem implSignFault_any (p q : Int) (w : World) (hg : ErrT w) :
    Calls Tryz.prog 108 #[I2 p q] w fun r w' => r = .returned (.int .i64 (M.sigF p q)) ∧ Below w.heap.size w w' := by
  cases hB : M.sigB p q
  · have E : M.sigF p q = 3 := by simp [M.sigF, hB]
    rw [E]; clear E
    go_enter Tryz.func108, Tryz.ntmps108
    go_wp2_with fail
    refine (pairOf_no p q _ hB).mono ?_
    rintro r w1 ⟨s, v, rfl, hb0⟩
    have hb1 := btr (bal (Below.refl _ w) _) hb0
    clear hb0
    have hg1 := hg.on hb1
    go_wp2_with fail
    refine (codeOf_mis _ _ _ hg1).mono ?_
    rintro r w2 ⟨rfl, hb_w2⟩
    obtain ⟨hc_w2, hf_w2⟩ := bcell hb_w2
    have hz_w2 := hb_w2.size
    (try simp at hz_w2)
    go_wp2_with fail
    go_ret
    exact ⟨rfl, btr hb1 hb_w2⟩
  · have E : M.sigF p q = 0 := by simp [M.sigF, hB]
    rw [E]; clear E
    go_enter Tryz.func108, Tryz.ntmps108
    go_wp2_with fail
    refine (pairOf_yes p q _ hB).mono ?_
    rintro r w1 ⟨rfl, hb0⟩
    have hb1 := btr (bal (Below.refl _ w) _) hb0
    clear hb0
    go_wp2_with fail
    refine (codeOf_nil _).mono ?_
    rintro r w2 ⟨rfl, hb_w2⟩
    obtain ⟨hc_w2, hf_w2⟩ := bcell hb_w2
    have hz_w2 := hb_w2.size
    (try simp at hz_w2)
    go_wp2_with fail
    go_ret
    exact ⟨rfl, btr hb1 hb_w2⟩

end Go.Proofs.YtlodhleihnlchaaGreatDoor
