/- Contracts of what the laws do with disks and stores: copies, marks. Conditions: as each theorem states. -/
import Derived.Test.YtefgimpodhjdpabG9a
import Derived.Test.YtefgimpodhjdpabL1
namespace Go.Proofs.Ytefgimpodhjdpab
open Go.RowKit
set_option maxRecDepth 100000
set_option linter.unusedVariables false

/-- The first cells of a new block are told: slices of new memory. -/
structure FillH (w : World) (n : Nat) (zss : List (List Int)) (xs : List Value) (wr : World) : Prop where
  bel : Below w.heap.size w wr
  lt : w.heap.size < wr.heap.size
  room : ∀ i, i < n → (∃ u, wr.cell? ⟨w.heap.size, i, none⟩ = some u) ∧ wr.frozen? ⟨w.heap.size, i, none⟩ = false
  cell : ∀ (i : Nat) (u : Value), xs[i]? = some u → wr.cell? ⟨w.heap.size, i, none⟩ = some u
  row : ∀ (i : Nat) (u : Value), xs[i]? = some u → OwnK .u8 wr (w.heap.size + 1) u (zss[i]?.getD [])
  sep : ∀ (i j : Nat) (u1 u2 : Value), i ≠ j → xs[i]? = some u1 → xs[j]? = some u2 → ApartV u1 u2
theorem FillH.new (w : World) (n : Nat) (zss : List (List Int)) (cur : Array Value) (e : TypeId) (hs : cur.size = n) : FillH w n zss [] (w.alloc (.cells cur e)) := by
  have h := FillG.new w n zss cur e hs
  exact ⟨h.bel, h.lt, h.room, fun i u hu => by simp at hu, fun i u hu => by simp at hu, fun i j u1 u2 _ hu => by simp at hu⟩
theorem snoc_cases {xs : List Value} {u x : Value} {i : Nat} (h : (xs ++ [u])[i]? = some x) : (i < xs.length ∧ xs[i]? = some x) ∨ (i = xs.length ∧ x = u) := by
  rcases Nat.lt_or_ge i xs.length with hi | hi
  · rw [List.getElem?_append_left hi] at h
    exact .inl ⟨hi, h⟩
  · rw [List.getElem?_append_right hi] at h
    have h0 := (List.getElem?_eq_some_iff.1 h).1
    simp at h0
    rw [h0] at h
    simp at h
    exact .inr ⟨by omega, h.symm⟩
theorem FillH.step {w : World} {n : Nat} {zss : List (List Int)} {xs : List Value} {wr w2 : World} {u : Value} (h : FillH w n zss xs wr) (hj : xs.length < n) (hb : Below wr.heap.size wr w2) (ho : OwnK .u8 w2 wr.heap.size u (zss[xs.length]?.getD [])) :
    FillH w n zss (xs ++ [u]) (w2.setCell ⟨w.heap.size, xs.length, none⟩ u) := by
  have hlt := h.lt
  have hsz := hb.size
  have hne : ∀ {v : Value} {m : Nat} {ys : List Value} {B : Nat}, w.heap.size + 1 ≤ B → Own w2 B 1 v m ys → ∀ k, v.ownBlock = some k → k ≠ (⟨w.heap.size, xs.length, none⟩ : Addr).block := fun hB o k hk => by have := (o.lt k hk).1; show k ≠ w.heap.size; omega
  refine ⟨(btr h.bel hb).setCell (Nat.le_refl _) _, by simp [World.setCell]; omega, fun i hi => ?_, fun i x hx => ?_, fun i x hx => ?_, fun i j u1 u2 hij h1 h2 => ?_⟩
  · obtain ⟨⟨u0, hu⟩, hf⟩ := h.room i hi
    have hu2 := cell_keep hb hu
    have hf2 := (hb.frozen (p := ⟨w.heap.size, i, none⟩) hlt).trans hf
    refine ⟨?_, by rw [World.frozen?_setCell]; exact hf2⟩
    obtain ⟨v, hv⟩ := cell?_setCell_some (w := w2) (p := ⟨w.heap.size, xs.length, none⟩) (x := u) (q := ⟨w.heap.size, i, none⟩) (v := u0) hu2
    exact ⟨v, hv⟩
  · rcases snoc_cases hx with ⟨h1, h2⟩ | ⟨rfl, rfl⟩
    · rw [World.cell?_setCell_other _ _ _ _ (fun e => by injection e with _ e2; omega)]
      exact cell_keep hb (h.cell i x h2)
    · obtain ⟨⟨u0, hu⟩, _⟩ := h.room _ hj
      rw [World.cell?_setCell_same _ _ _ (by rw [cell_keep hb hu])]
  · rcases snoc_cases hx with ⟨h1, h2⟩ | ⟨rfl, rfl⟩
    · have q3 : OwnK .u8 w2 (w.heap.size + 1) x _ := Own.below (h.row i x h2) hb
      exact Own.setCell q3 (hne (Nat.le_refl _) q3) _
    · have o3 : OwnK .u8 w2 (w.heap.size + 1) x _ := Own.less ho (by omega)
      exact Own.setCell o3 (hne (Nat.le_refl _) o3) _
  · rcases snoc_cases h1 with ⟨a1, a2⟩ | ⟨a1, a2⟩ <;> rcases snoc_cases h2 with ⟨b1, b2⟩ | ⟨b1, b2⟩
    · exact h.sep i j u1 u2 hij a2 b2
    · subst b2
      intro k e e2
      have := (Own.lt (h.row i u1 a2) k e).2
      have := (Own.lt ho k e2).1
      omega
    · subst a2
      intro k e e2
      have := (Own.lt (h.row j u2 b2) k e2).2
      have := (Own.lt ho k e).1
      omega
    · omega
theorem FillH.own {w : World} {n : Nat} {zss : List (List Int)} {xs : List Value} {wr : World} (h : FillH w n zss xs wr) (hx : xs.length = n) (hn : zss.length = n) (hm : n ≤ maxLen) : OwnG wr w.heap.size wr.heap.size (.slice (some ⟨w.heap.size, 0, none⟩) n n) zss xs := by
  refine ⟨⟨by omega, .inr ⟨w.heap.size, n, by rw [hn], Nat.le_refl _, h.lt, by omega, hm, h.cell, fun j hj => ?_⟩⟩, Nat.le_refl _, fun k e => ?_, fun j u hu => ?_, h.sep⟩
  · obtain ⟨⟨u, hu⟩, hf⟩ := h.room j (by omega)
    exact ⟨by rw [hu]; rfl, hf⟩
  · simp [Value.ownBlock] at e
    have := h.lt
    omega
  · have hr := h.row j u hu
    refine ⟨Own.less hr (by omega), fun k e => (Own.lt hr k e).2, fun k e e2 => ?_⟩
    simp [Value.ownBlock] at e2
    have := (Own.lt hr k e).1
    omega
set_option maxHeartbeats 1000000 in
theorem toByteSSG_any (a : Option Addr) (len cap B : Nat) (zss : List (List Int)) (w : World) (hG : Grid w B a len cap zss) (hB : B ≤ w.heap.size) (hl : len ≤ 1048576) (hr : ∀ zs ∈ zss, zs.length ≤ 1048576) :
    Calls Try.prog 22 #[.slice a len cap] w fun r w' => r = .returned (.slice (some ⟨w.heap.size, 0, none⟩) len len) ∧ (∃ xs, OwnG w' w.heap.size w'.heap.size (.slice (some ⟨w.heap.size, 0, none⟩) len len) zss xs) ∧ Below w.heap.size w w' := by
  obtain ⟨i0, hi0, hz0, hz1, hz2⟩ := info_parts rows_info
  have hmk : ∀ W : World, (Instr.makeSlice 23 (.int .i64 (len : Int)) (.int .i64 (len : Int))).run Try.prog W = .ok (.slice (some ⟨W.heap.size, 0, none⟩) len len) (W.alloc (.cells (madeCells #[.slice none 0 0] len) 39)) := by
    intro W
    have := run_make (P := Try.prog) W 23 39 i0 (.slice none 0 0) Try.underlying23 hi0 hz0 .i64 .i64 len len (by omega) (by omega) (by rw [hz2]; omega) (by omega)
    simpa [hz1, Value.cells] using this
  have hL := Lib.hid hG.length
  have HR := Lib.hid hr
  clear hi0 hz0 hz1 hz2 hr
  have T0 := FillH.new w len zss (madeCells #[.slice none 0 0] len) 39 (size_madeCells _ _)
  go_enter Try.func22, Try.ntmps22
  go_wp2_with fail
  generalize w.alloc (.cells (madeCells #[.slice none 0 0] len) 39) = w1 at *
  go_loopw [4] (fun i wr => ∃ (k : Nat) (xs : List Value), k ≤ len ∧ i = .int .i64 k ∧ Hid (xs.length = k) ∧ FillH w len zss xs wr) (fun i _ => len - (intOf i).toNat)
  case atStart => exact ⟨0, [], Nat.zero_le _, rfl, Lib.hid rfl, T0⟩
  case round =>
    obtain ⟨k, xs, hk, rfl, hxl, hT⟩ := hrel
    by_cases hlt : k < len
    · obtain ⟨b, off, ha, hb, hc⟩ := (hG.below (hT.bel.mono hB)).cells (by omega)
      obtain ⟨a', n', c', hcell, hrow⟩ := hc k hlt
      have hl2 : k < zss.length := by rw [hL.out]; exact hlt
      have hn' : n' ≤ 1048576 := by rw [← hrow.length]; exact HR.out _ (by simp [hl2])
      obtain ⟨⟨u, hu⟩, hf⟩ := hT.room k hlt
      have hlt3 := hT.lt
      have hsz := hT.bel.size
      clear hc hl2
      subst ha
      go_wp2_with fail
      refine (toByteS_any _ _ _ _ _ _ hrow (by omega) hn').mono ?_
      rintro r w2 ⟨rfl, O2, hb2⟩
      have hu2 := cell_keep hb2 hu
      have hf2 := (hb2.frozen (p := ⟨w.heap.size, k, none⟩) hlt3).trans hf
      have T2 := hT.step (u := .slice (some ⟨wr.heap.size, 0, none⟩) n' n') (by rw [hxl.out]; exact hlt) hb2 (by rw [hxl.out]; exact O2)
      rw [hxl.out] at T2
      have HX := Lib.hid (show (xs ++ [Value.slice (some ⟨wr.heap.size, 0, none⟩) n' n']).length = k + 1 by rw [List.length_append, hxl.out]; rfl)
      have HT2 := Lib.hid T2
      clear O2 hb2 hT hrow hcell hu hf T2 hxl
      go_wp2_with fail
      go_roundw
      case rel => exact ⟨k + 1, _, by omega, by go_num, HX, HT2.out⟩
      case measure => simp [intOf]; omega
    · obtain rfl : k = len := by omega
      have T2 := hT.own hxl.out hL.out (by simp only [maxLen]; omega)
      have hb := Lib.hid hT.bel
      have HT2 := Lib.hid T2
      clear hT T2
      go_wp2_with fail
      go_ret
      exact ⟨rfl, ⟨xs, HT2.out⟩, hb.out⟩
theorem szDisk_any (a : Option Addr) (len cap B : Nat) (zss : List (List Int)) (x L : Int) (w : World) (hG : Grid w B a len cap zss) (hB : B ≤ w.heap.size) (h0 : 0 ≤ L) (h1 : L ≤ 1048576) :
    Calls Try.prog 10 #[.agg #[.slice a len cap, .int .i64 x], .int .i64 L] w fun r w' => r = .returned (.int .i64 (szR zss L)) ∧ Below w.heap.size w w' := by
  have b0 := bal (Below.refl _ w) (.cells #[.slice a len cap, .int .i64 x] 25)
  have S := szByteSS_any a len cap B zss L _ (hG.below (b0.mono hB)) h0 h1
  have hc : szR zss L = -1 ∨ 0 ≤ szR zss L := by unfold szR; split <;> omega
  generalize szR zss L = t at *
  clear hG
  rcases hc with rfl | hc
  · go_enter Try.func10, Try.ntmps10
    go_wp2_with fail
    refine S.mono ?_
    rintro r w2 ⟨rfl, rfl⟩
    go_wp2_with fail
    go_ret
    exact ⟨rfl, b0⟩
  · have hn : ¬ t < 0 := by omega
    go_enter Try.func10, Try.ntmps10
    go_wp2_with fail
    refine S.mono ?_
    rintro r w2 ⟨rfl, rfl⟩
    go_wp2_with fail
    go_ret
    exact ⟨rfl, b0⟩
/-- A disk was copied. -/
def DiskCopied (n : Nat) (rs : List (List Int)) (x : Int) (w : World) (e : Ending) (w' : World) : Prop :=
  ∃ a xs, e = .returned (.agg #[.slice a n n, .int .i64 x]) ∧ OwnG w' w.heap.size w'.heap.size (.slice a n n) rs xs ∧ Below w.heap.size w w'
theorem toDisk_any (a : Option Addr) (len cap B : Nat) (zss : List (List Int)) (x : Int) (w : World) (hG : Grid w B a len cap zss) (hB : B ≤ w.heap.size) (hl : len ≤ 1048576) (hr : ∀ zs ∈ zss, zs.length ≤ 1048576) :
    Calls Try.prog 13 #[.agg #[.slice a len cap, .int .i64 x]] w (DiskCopied len zss x w) := by
  have b0 := bal (bal (bal (Below.refl _ w) (.cells #[.slice a len cap, .int .i64 x] 25)) (.cells #[.slice none 0 0, .int .i64 0] 31)) (.cells #[.slice none 0 0, .int .i64 0] 31)
  have A0 : At w.heap.size [.slice a len cap, .int .i64 x] (((w.alloc (.cells #[.slice a len cap, .int .i64 x] 25)).alloc (.cells #[.slice none 0 0, .int .i64 0] 31)).alloc (.cells #[.slice none 0 0, .int .i64 0] 31)) := ((At.new w [.slice a len cap, .int .i64 x] 25).alloc _).alloc _
  have R0 := (At.new (w.alloc (.cells #[.slice a len cap, .int .i64 x] 25)) [.slice none 0 0, .int .i64 0] 31).alloc (.cells #[.slice none 0 0, .int .i64 0] 31)
  have D0 := At.new ((w.alloc (.cells #[.slice a len cap, .int .i64 x] 25)).alloc (.cells #[.slice none 0 0, .int .i64 0] 31)) [.slice none 0 0, .int .i64 0] 31
  have T := toByteSSG_any a len cap B zss _ (hG.below (b0.mono hB)) (Nat.le_trans hB b0.size) hl hr
  have sz0 : (((w.alloc (.cells #[.slice a len cap, .int .i64 x] 25)).alloc (.cells #[.slice none 0 0, .int .i64 0] 31)).alloc (.cells #[.slice none 0 0, .int .i64 0] 31)).heap.size = w.heap.size + 1 + 1 + 1 := by simp
  rw [World.size_alloc] at R0
  rw [World.size_alloc, World.size_alloc] at D0
  have HR0 := Lib.hid (show At (w.heap.size + 1) [.slice none 0 0, .int .i64 0] (((w.alloc (.cells #[.slice a len cap, .int .i64 x] 25)).alloc (.cells #[.slice none 0 0, .int .i64 0] 31)).alloc (.cells #[.slice none 0 0, .int .i64 0] 31)) from R0)
  have HD0 := Lib.hid (show At (w.heap.size + 1 + 1) [.slice none 0 0, .int .i64 0] (((w.alloc (.cells #[.slice a len cap, .int .i64 x] 25)).alloc (.cells #[.slice none 0 0, .int .i64 0] 31)).alloc (.cells #[.slice none 0 0, .int .i64 0] 31)) from D0)
  have HB0 := Lib.hid b0
  have HZ0 := Lib.hid sz0
  have HA0 := Lib.hid A0
  have d0 := A0.cell 0 _ rfl
  have d1 := A0.cell 1 _ rfl
  clear hG A0 R0 D0 b0 sz0
  go_enter Try.func13, Try.ntmps13
  go_wp2_with fail
  generalize ((w.alloc (.cells #[.slice a len cap, .int .i64 x] 25)).alloc (.cells #[.slice none 0 0, .int .i64 0] 31)).alloc (.cells #[.slice none 0 0, .int .i64 0] 31) = W0 at *
  refine T.mono ?_
  rintro r u1 ⟨rfl, ⟨xs, G1⟩, b1⟩
  have R1 := HR0.out.on b1
  have D1 := HD0.out.on b1
  have A1 := HA0.out.on b1
  have HB1 := Lib.hid (btr HB0.out b1)
  have HG1 := Lib.hid G1
  have hz0 := HZ0.out
  clear d0 d1
  have d0 := A1.cell 0 _ rfl
  have d1 := A1.cell 1 _ rfl
  have q0 := R1.cell 0 _ rfl
  have q1 := R1.cell 1 _ rfl
  have f0 := R1.free 0 _ rfl
  have f1 := R1.free 1 _ rfl
  have p0 := D1.cell 0 _ rfl
  have p1 := D1.cell 1 _ rfl
  have z0 := D1.free 0 _ rfl
  have z1 := D1.free 1 _ rfl
  have hne : w.heap.size + 1 ≠ w.heap.size + 1 + 1 := by omega
  have hne2 : w.heap.size ≠ w.heap.size + 1 + 1 := by omega
  have hS := (((HG1.out.setCell (p := ⟨w.heap.size + 1 + 1, 0, none⟩) (.inl (by show w.heap.size + 1 + 1 < W0.heap.size; omega)) (.slice (some ⟨W0.heap.size, 0, none⟩) len len)).setCell (p := ⟨w.heap.size + 1 + 1, 1, none⟩) (.inl (by show w.heap.size + 1 + 1 < W0.heap.size; omega)) (.int .i64 x)).setCell (p := ⟨w.heap.size + 1, 0, none⟩) (.inl (by show w.heap.size + 1 < W0.heap.size; omega)) (.slice (some ⟨W0.heap.size, 0, none⟩) len len)).setCell (p := ⟨w.heap.size + 1, 1, none⟩) (.inl (by show w.heap.size + 1 < W0.heap.size; omega)) (.int .i64 x)
  have hS2 := Lib.hid ((hS.less (show w.heap.size ≤ W0.heap.size by omega)).more hS.top (Nat.le_refl _))
  clear G1 b1 A1 R1 D1 hS T HR0 HD0 HA0 HB0 HG1 hz0
  go_wp2_with fail
  refine bodyPost_ret (v := .agg #[.slice (some ⟨W0.heap.size, 0, none⟩) len len, .int .i64 x]) (by simp [results, Try.results13, go_sem, q0, q1]) rfl ⟨_, xs, rfl, hS2.out, ?_⟩
  exact (by (iterate 4 (refine bset ?_ (by dsimp only; omega) _)); exact HB1.out)
theorem eqDisk_any (a b : Option Addr) (len c1 c2 B : Nat) (zss : List (List Int)) (x : Int) (w : World) (hR : Grid w B a len c1 zss) (hQ : Grid w B b len c2 zss) (hB : B ≤ w.heap.size) :
    Calls Try.prog 18 #[.agg #[.slice a len c1, .int .i64 x], .agg #[.slice b len c2, .int .i64 x]] w fun e w' => e = .returned (.bool true) ∧ Below w.heap.size w w' := by
  have b0 := bal (bal (Below.refl _ w) (.cells #[.slice a len c1, .int .i64 x] 31)) (.cells #[.slice b len c2, .int .i64 x] 31)
  have E := eqByteSS_any a b len c1 c2 B zss _ (hR.below (b0.mono hB)) (hQ.below (b0.mono hB)) (Nat.le_trans hB b0.size)
  have A1 : At w.heap.size [.slice a len c1, .int .i64 x] ((w.alloc (.cells #[.slice a len c1, .int .i64 x] 31)).alloc (.cells #[.slice b len c2, .int .i64 x] 31)) := (At.new w [.slice a len c1, .int .i64 x] 31).alloc _
  have A2 := At.new (w.alloc (.cells #[.slice a len c1, .int .i64 x] 31)) [.slice b len c2, .int .i64 x] 31
  rw [World.size_alloc] at A2
  have HA1 := Lib.hid A1
  have HA2 := Lib.hid (show At (w.heap.size + 1) [.slice b len c2, .int .i64 x] ((w.alloc (.cells #[.slice a len c1, .int .i64 x] 31)).alloc (.cells #[.slice b len c2, .int .i64 x] 31)) from A2)
  clear hR hQ A1 A2
  go_enter Try.func18, Try.ntmps18
  go_wp2_with fail
  generalize (w.alloc (.cells #[.slice a len c1, .int .i64 x] 31)).alloc (.cells #[.slice b len c2, .int .i64 x] 31) = W0 at *
  refine E.mono ?_
  rintro r u1 ⟨rfl, b1⟩
  have B1 := btr b0 b1
  have X1 := HA1.out.on b1
  have X2 := HA2.out.on b1
  have d0 := X1.cell 0 _ rfl
  have d1 := X1.cell 1 _ rfl
  have e0 := X2.cell 0 _ rfl
  have e1 := X2.cell 1 _ rfl
  clear X1 X2 b1 E HA1 HA2 b0
  go_wp2_with fail
  go_ret
  exact ⟨rfl, B1⟩
end Go.Proofs.Ytefgimpodhjdpab
