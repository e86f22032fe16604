/- Contracts of what the exact laws do with slices of slices of bytes: measure, copy, compare them. Conditions: as each theorem states. -/
import Derived.Test.YtefgimpodhjdpabC2f
import Derived.Test.YtefgimpodhjdpabL0
namespace Go.Proofs.Ytefgimpodhjdpab
open Go.RowKit
set_option maxRecDepth 100000

/-- A comparison only reads. -/
theorem eqByteS_quiet (a b : Option Addr) (len c1 c2 B : Nat) (zs : List Int) (w : World) (hR : Row .u8 w B a len c1 zs) (hQ : Row .u8 w B b len c2 zs) :
    Calls Try.prog 28 #[.slice a len c1, .slice b len c2] w fun e w' => e = .returned (.bool true) ∧ ∃ m, w' = w.drewN m := by
  have hlen := hR.fits
  have hmost := hR.most
  unfold maxLen at hmost
  have hL := Lib.hid hR.length
  go_enter Try.func28, Try.ntmps28
  go_wp2_with fail
  go_loopw [5] (fun i wr => ∃ k : Nat, k ≤ len ∧ i = .int .i64 k ∧ Hid (∃ m, wr = w.drewN m)) (fun i _ => len - (intOf i).toNat)
  case atStart => exact ⟨0, Nat.zero_le _, rfl, Lib.hid ⟨0, rfl⟩⟩
  case round =>
    obtain ⟨k, hk, rfl, hb⟩ := hrel
    have HB := Lib.hid hb.out
    by_cases hlt : k < len
    · obtain ⟨b1, o1, ha1, hb1, hc1⟩ := hR.cells (by omega)
      obtain ⟨b2, o2, ha2, hb2, hc2⟩ := hQ.cells (by omega)
      have g1 : wr.cell? ⟨b1, o1 + k, none⟩ = some (.int .u8 (zs.getD k 0)) := by obtain ⟨m, rfl⟩ := hb.out; exact hc1 k hlt
      have g2 : wr.cell? ⟨b2, o2 + k, none⟩ = some (.int .u8 (zs.getD k 0)) := by obtain ⟨m, rfl⟩ := hb.out; exact hc2 k hlt
      simp only [List.getD_eq_getElem?_getD] at g1 g2
      clear hc1 hc2 hb hR hQ
      subst ha1
      subst ha2
      go_wp2_with fail
      go_quiet (fail)
      go_wp2_with fail
      go_roundw
      case rel => exact ⟨k + 1, by omega, by go_num, Lib.hid (by obtain ⟨m, rfl⟩ := HB.out; exact ⟨m + _, World.drewN_drewN _ _ _⟩)⟩
      case measure => simp [intOf]; omega
    · go_wp2_with fail
      go_ret
      exact ⟨rfl, HB.out⟩

theorem szByteS_any (a : Option Addr) (len cap : Nat) (L : Int) (w : World) (hl : len ≤ 9223372036854775807) (h0 : 0 ≤ L) (h1 : L ≤ 1048576) :
    Calls Try.prog 26 #[.slice a len cap, .int .i64 L] w fun r w' => r = .returned (.int .i64 (if L - len < 0 then -1 else L - len)) ∧ w = w' := by
  by_cases h : L - len < 0
  · rw [if_pos h]
    go_enter Try.func26, Try.ntmps26
    go_wp2_with fail
    go_ret
    exact ⟨rfl, rfl⟩
  · rw [if_neg h]
    go_enter Try.func26, Try.ntmps26
    go_wp2_with fail
    go_ret
    exact ⟨rfl, rfl⟩

def sumLens (zss : List (List Int)) : Nat := (zss.map List.length).sum
theorem sumLens_take (zss : List (List Int)) (k : Nat) (h : k < zss.length) : sumLens (zss.take (k + 1)) = sumLens (zss.take k) + (zss[k]?.getD []).length := by
  rw [M.take_snoc zss [] k h]; simp [sumLens]
theorem sumLens_le (zss : List (List Int)) (k : Nat) : sumLens (zss.take k) ≤ sumLens zss := by
  have e : sumLens zss = sumLens (zss.take k) + sumLens (zss.drop k) := by
    unfold sumLens
    rw [← List.sum_append, ← List.map_append, List.take_append_drop]
  omega
theorem sumLens_mem (zss : List (List Int)) : ∀ zs ∈ zss, zs.length ≤ sumLens zss := by
  induction zss with
  | nil => intro zs h; cases h
  | cons a r ih =>
    intro zs h
    simp only [sumLens, List.map_cons, List.sum_cons]
    rcases List.mem_cons.1 h with rfl | h
    · omega
    · have := ih zs h
      unfold sumLens at this
      omega

/-- What is left of L behind the sizes; or -1: it was too much. -/
def szR (zss : List (List Int)) (L : Int) : Int := if (zss.length : Int) + sumLens zss ≤ L then L - zss.length - sumLens zss else -1

theorem szByteSS_any (a : Option Addr) (len cap B : Nat) (zss : List (List Int)) (L : Int) (w : World) (hG : Grid w B a len cap zss) (h0 : 0 ≤ L) (h1 : L ≤ 1048576) :
    Calls Try.prog 20 #[.slice a len cap, .int .i64 L] w fun r w' => r = .returned (.int .i64 (szR zss L)) ∧ w = w' := by
  have hlen := hG.fits
  have hmost := hG.most
  unfold maxLen at hmost
  have hL := Lib.hid hG.length
  by_cases hbig : L < len
  · have E : szR zss L = -1 := by unfold szR; rw [hL.out, if_neg (by omega)]
    rw [E]; clear E
    have hneg : L - len < 0 := by omega
    go_enter Try.func20, Try.ntmps20
    go_wp2_with fail
    go_ret
    exact ⟨rfl, rfl⟩
  by_cases ht : (len : Int) + sumLens zss ≤ L
  · have E : szR zss L = L - len - sumLens zss := by unfold szR; rw [hL.out, if_pos ht]
    rw [E]; clear E
    have hnn : 0 ≤ L - len := by omega
    go_enter Try.func20, Try.ntmps20
    go_wp2_with fail
    go_loop [1, 5] (fun q i => ∃ k : Nat, k ≤ len ∧ i = .int .i64 k ∧ q = .int .i64 (L - len - sumLens (zss.take k))) (fun _ i => len - (intOf i).toNat)
    case atStart => exact ⟨0, Nat.zero_le _, rfl, by simp [sumLens]⟩
    case round =>
      obtain ⟨k, hk, rfl, rfl⟩ := hrel
      have hle := sumLens_le zss k
      by_cases hlt : k < len
      · obtain ⟨b, off, ha, hb, hc⟩ := hG.cells (by omega)
        obtain ⟨a', n', c', hcell, hrow⟩ := hc k hlt
        have hs := sumLens_take zss k (by rw [hL.out]; exact hlt)
        rw [hrow.length] at hs
        have hle2 := sumLens_le zss (k + 1)
        have hfit := hrow.fits
        have hm := hrow.most
        unfold maxLen at hm
        have hno : ¬ (L - len - (sumLens (zss.take k) : Int) - n' < 0) := by omega
        have hge : 0 ≤ L - len - (sumLens (zss.take k) : Int) - n' := by omega
        have HS := Lib.hid hs
        clear hc hs hrow
        subst ha
        go_wp2_with fail
        refine (szByteS_any _ _ _ _ _ (by omega) (by omega) (by omega)).mono ?_
        rintro r w' ⟨rfl, rfl⟩
        rw [if_neg (by omega)]
        go_wp2_with fail
        go_round
        case rel => exact ⟨k + 1, by omega, by go_num, by have := HS.out; congr 1; omega⟩
        case measure => simp [intOf]; omega
      · obtain rfl : k = len := by omega
        have e : sumLens (zss.take k) = sumLens zss := by rw [List.take_of_length_le (by rw [hL.out]; omega)]
        have HE := Lib.hid e
        clear e
        go_wp2_with fail
        go_ret
        exact ⟨ret_int (by rw [HE.out]), rfl⟩
  · have E : szR zss L = -1 := by unfold szR; rw [hL.out, if_neg ht]
    rw [E]; clear E
    have hnn : 0 ≤ L - len := by omega
    go_enter Try.func20, Try.ntmps20
    go_wp2_with fail
    go_loop [1, 5] (fun q i => ∃ k : Nat, k ≤ len ∧ i = .int .i64 k ∧ q = .int .i64 (L - len - sumLens (zss.take k)) ∧ 0 ≤ L - len - (sumLens (zss.take k) : Int)) (fun _ i => len - (intOf i).toNat)
    case atStart => exact ⟨0, Nat.zero_le _, rfl, by simp [sumLens], by simp [sumLens]; omega⟩
    case round =>
      obtain ⟨k, hk, rfl, rfl, hq⟩ := hrel
      by_cases hlt : k < len
      · obtain ⟨b, off, ha, hb, hc⟩ := hG.cells (by omega)
        obtain ⟨a', n', c', hcell, hrow⟩ := hc k hlt
        have hs := sumLens_take zss k (by rw [hL.out]; exact hlt)
        rw [hrow.length] at hs
        have hfit := hrow.fits
        have hm := hrow.most
        unfold maxLen at hm
        have HS := Lib.hid hs
        clear hc hs hrow
        subst ha
        by_cases hno : L - len - (sumLens (zss.take k) : Int) - n' < 0
        · go_wp2_with fail
          refine (szByteS_any _ _ _ _ _ (by omega) (by omega) (by omega)).mono ?_
          rintro r w' ⟨rfl, rfl⟩
          rw [if_pos (by omega)]
          go_wp2_with fail
          go_ret
          exact ⟨rfl, rfl⟩
        · have hge : 0 ≤ L - len - (sumLens (zss.take k) : Int) - n' := by omega
          go_wp2_with fail
          refine (szByteS_any _ _ _ _ _ (by omega) (by omega) (by omega)).mono ?_
          rintro r w' ⟨rfl, rfl⟩
          rw [if_neg (by omega)]
          go_wp2_with fail
          go_round
          case rel => exact ⟨k + 1, by omega, by go_num, by have := HS.out; congr 1; omega, by have := HS.out; omega⟩
          case measure => simp [intOf]; omega
      · exfalso
        obtain rfl : k = len := by omega
        rw [List.take_of_length_le (by rw [hL.out]; omega)] at hq
        omega

/-- The first j of n cells of the block that w's next one is are told: copies of the rows. -/
structure FillG (w : World) (n : Nat) (zss : List (List Int)) (j : Nat) (wr : World) : Prop where
  bel : Below w.heap.size w wr
  lt : w.heap.size < wr.heap.size
  room : ∀ i, i < n → (∃ u, wr.cell? ⟨w.heap.size, i, none⟩ = some u) ∧ wr.frozen? ⟨w.heap.size, i, none⟩ = false
  told : ∀ i, i < j → ∃ a' n' c', wr.cell? ⟨w.heap.size, i, none⟩ = some (.slice a' n' c') ∧ OwnK .u8 wr (w.heap.size + 1) (.slice a' n' c') (zss[i]?.getD [])
theorem FillG.new (w : World) (n : Nat) (zss : List (List Int)) (cur : Array Value) (e : TypeId) (hs : cur.size = n) : FillG w n zss 0 (w.alloc (.cells cur e)) := by
  have e1 : (w.alloc (.cells cur e)).heap[w.heap.size]? = some (.cells cur e) := (MapKept.heap_alloc w _).1
  refine ⟨bal (Below.refl _ _) _, by simp, fun i hi => ?_, fun i hi => absurd hi (by omega)⟩
  unfold World.cell? World.frozen?
  rw [e1]
  simp [show i < cur.size by omega]
theorem FillG.step {w : World} {n : Nat} {zss : List (List Int)} {j : Nat} {wr w2 : World} {a' : Option Addr} {n' c' : Nat} (h : FillG w n zss j wr) (hj : j < n) (hb : Below wr.heap.size wr w2) (ho : OwnK .u8 w2 wr.heap.size (.slice a' n' c') (zss[j]?.getD [])) :
    FillG w n zss (j + 1) (w2.setCell ⟨w.heap.size, j, none⟩ (.slice a' n' c')) := by
  have hlt := h.lt
  have hsz := hb.size
  have hne : ∀ {v : Value} {m : Nat} {xs : List Value}, Own w2 (w.heap.size + 1) 1 v m xs → ∀ k, v.ownBlock = some k → k ≠ (⟨w.heap.size, j, none⟩ : Addr).block := fun o k hk => by have := (o.lt k hk).1; show k ≠ w.heap.size; omega
  refine ⟨(btr h.bel hb).setCell (Nat.le_refl _) _, by simp [World.setCell]; omega, fun i hi => ?_, fun i hi => ?_⟩
  · obtain ⟨⟨u, hu⟩, hf⟩ := h.room i hi
    have hu2 := cell_keep hb hu
    have hf2 := (hb.frozen (p := ⟨w.heap.size, i, none⟩) hlt).trans hf
    refine ⟨?_, by rw [World.frozen?_setCell]; exact hf2⟩
    obtain ⟨v, hv⟩ := cell?_setCell_some (w := w2) (p := ⟨w.heap.size, j, none⟩) (x := .slice a' n' c') (q := ⟨w.heap.size, i, none⟩) (v := u) hu2
    exact ⟨v, hv⟩
  · rcases Nat.lt_or_ge i j with hij | hge
    · obtain ⟨a1, n1, c1, q1, q2⟩ := h.told i hij
      have q3 := q2.below hb
      refine ⟨a1, n1, c1, ?_, q3.setCell (hne q3) _⟩
      rw [World.cell?_setCell_other _ _ _ _ (fun e => by injection e with _ e2; omega)]
      exact cell_keep hb q1
    · obtain rfl : i = j := by omega
      obtain ⟨⟨u, hu⟩, _⟩ := h.room i hj
      have o3 : OwnK .u8 w2 (w.heap.size + 1) (.slice a' n' c') (zss[i]?.getD []) := ho.less (by omega)
      refine ⟨a', n', c', ?_, o3.setCell (hne o3) _⟩
      rw [World.cell?_setCell_same _ _ _ (by rw [cell_keep hb hu])]
theorem FillG.grid {w : World} {n : Nat} {zss : List (List Int)} {wr : World} (h : FillG w n zss n wr) (hn : zss.length = n) (hm : n ≤ maxLen) (hw : ∀ zs ∈ zss, ∀ z ∈ zs, (Lit.int .u8 z).wf = true) : Grid wr wr.heap.size (some ⟨w.heap.size, 0, none⟩) n n zss :=
  ⟨hn, Nat.le_refl _, hm, fun _ => ⟨w.heap.size, 0, rfl, h.lt, fun j hj => by
    obtain ⟨a1, n1, c1, q1, q2⟩ := h.told j hj
    refine ⟨a1, n1, c1, by rw [Nat.zero_add]; exact q1, Own.row q2 fun z hz => ?_⟩
    have hl : j < zss.length := by omega
    exact hw (zss[j]?.getD []) (by simp [hl]) z hz⟩⟩

/-- A slice of slices was copied. -/
def Copied2 (n : Nat) (zss : List (List Int)) (w : World) (r : Ending) (w' : World) : Prop :=
  r = .returned (.slice (some ⟨w.heap.size, 0, none⟩) n n) ∧ Grid w' w'.heap.size (some ⟨w.heap.size, 0, none⟩) n n zss ∧ Below w.heap.size w w'

theorem rows_info : (Try.prog.info? 39).map (fun i => (i.zero, i.size, i.bytes)) = some (some (.slice none 0 0), 1, 24) := by kernel_rfl

theorem toByteSS_any (a : Option Addr) (len cap B : Nat) (zss : List (List Int)) (w : World) (hG : Grid w B a len cap zss) (hB : B ≤ w.heap.size) (hl : len ≤ 1048576) (hr : ∀ zs ∈ zss, zs.length ≤ 1048576) (hw : ∀ zs ∈ zss, ∀ z ∈ zs, (Lit.int .u8 z).wf = true) :
    Calls Try.prog 22 #[.slice a len cap] w (Copied2 len zss w) := by
  obtain ⟨i0, hi0, hz0, hz1, hz2⟩ := info_parts rows_info
  have hmk : ∀ W : World, (Instr.makeSlice 23 (.int .i64 (len : Int)) (.int .i64 (len : Int))).run Try.prog W = .ok (.slice (some ⟨W.heap.size, 0, none⟩) len len) (W.alloc (.cells (madeCells #[.slice none 0 0] len) 39)) := by
    intro W
    have := run_make (P := Try.prog) W 23 39 i0 (.slice none 0 0) Try.underlying23 hi0 hz0 .i64 .i64 len len (by omega) (by omega) (by rw [hz2]; omega) (by omega)
    simpa [hz1, Value.cells] using this
  have hL := Lib.hid hG.length
  have HR := Lib.hid hr
  have HW := Lib.hid hw
  clear hi0 hz0 hz1 hz2 hr hw
  have T0 := FillG.new w len zss (madeCells #[.slice none 0 0] len) 39 (size_madeCells _ _)
  go_enter Try.func22, Try.ntmps22
  go_wp2_with fail
  generalize w.alloc (.cells (madeCells #[.slice none 0 0] len) 39) = w1 at *
  go_loopw [4] (fun i wr => ∃ k : Nat, k ≤ len ∧ i = .int .i64 k ∧ FillG w len zss k wr) (fun i _ => len - (intOf i).toNat)
  case atStart => exact ⟨0, Nat.zero_le _, rfl, T0⟩
  case round =>
    obtain ⟨k, hk, rfl, hT⟩ := hrel
    by_cases hlt : k < len
    · obtain ⟨b, off, ha, hb, hc⟩ := (hG.below (hT.bel.mono hB)).cells (by omega)
      obtain ⟨a', n', c', hcell, hrow⟩ := hc k hlt
      have hl2 : k < zss.length := by rw [hL.out]; exact hlt
      have hn' : n' ≤ 1048576 := by rw [← hrow.length]; exact HR.out _ (by simp [hl2])
      obtain ⟨⟨u, hu⟩, hf⟩ := hT.room k hlt
      have hlt3 := hT.lt
      have hsz := hT.bel.size
      clear hc hl2
      subst ha
      go_wp2_with fail
      refine (toByteS_any _ _ _ _ _ _ hrow (by omega) hn').mono ?_
      rintro r w2 ⟨rfl, O2, hb2⟩
      have hu2 := cell_keep hb2 hu
      have hf2 := (hb2.frozen (p := ⟨w.heap.size, k, none⟩) hlt3).trans hf
      have T2 := hT.step hlt hb2 O2
      clear O2 hb2 hT hrow hcell hu hf
      go_wp2_with fail
      go_roundw
      case rel => exact ⟨k + 1, by omega, by go_num, T2⟩
      case measure => simp [intOf]; omega
    · obtain rfl : k = len := by omega
      have T2 := hT.grid hL.out (by simp only [maxLen]; omega) HW.out
      have hb := Lib.hid hT.bel
      clear hT
      go_wp2_with fail
      go_ret
      exact ⟨rfl, T2, hb.out⟩

theorem eqByteSS_any (a b : Option Addr) (len c1 c2 B : Nat) (zss : List (List Int)) (w : World) (hR : Grid w B a len c1 zss) (hQ : Grid w B b len c2 zss) (hB : B ≤ w.heap.size) :
    Calls Try.prog 25 #[.slice a len c1, .slice b len c2] w fun e w' => e = .returned (.bool true) ∧ Below w.heap.size w w' := by
  have hlen := hR.fits
  have hmost := hR.most
  unfold maxLen at hmost
  have hL := Lib.hid hR.length
  go_enter Try.func25, Try.ntmps25
  go_wp2_with fail
  go_loopw [5] (fun i wr => ∃ k : Nat, k ≤ len ∧ i = .int .i64 k ∧ Below w.heap.size w wr) (fun i _ => len - (intOf i).toNat)
  case atStart => exact ⟨0, Nat.zero_le _, rfl, Below.refl _ _⟩
  case round =>
    obtain ⟨k, hk, rfl, hb⟩ := hrel
    by_cases hlt : k < len
    · obtain ⟨b1, o1, ha1, hb1, hc1⟩ := (hR.below (hb.mono hB)).cells (by omega)
      obtain ⟨b2, o2, ha2, hb2, hc2⟩ := (hQ.below (hb.mono hB)).cells (by omega)
      obtain ⟨r1, m1, d1, g1, R1⟩ := hc1 k hlt
      obtain ⟨r2, m2, d2, g2, R2⟩ := hc2 k hlt
      have hm2 : m2 = m1 := by rw [← R1.length, ← R2.length]
      subst hm2
      have HB := Lib.hid hb
      have H1 := Lib.hid R1
      have H2 := Lib.hid R2
      clear hc1 hc2 hb hR hQ R1 R2
      subst ha1
      subst ha2
      go_wp2_with fail
      go_quiet ((go_at_call 28; exact Calls.quiet_of (eqByteS_quiet _ _ _ _ _ _ _ _ (H1.out.keep (fun _ _ => rfl)) (H2.out.keep (fun _ _ => rfl)))))
      go_wp2_with fail
      go_roundw
      case rel => exact ⟨k + 1, by omega, by go_num, bdrewN HB.out _⟩
      case measure => simp [intOf]; omega
    · go_wp2_with fail
      go_ret
      exact ⟨rfl, hb⟩

end Go.Proofs.Ytefgimpodhjdpab
