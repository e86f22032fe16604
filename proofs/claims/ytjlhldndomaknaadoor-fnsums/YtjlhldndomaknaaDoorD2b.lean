/- Contracts of the draws of lists of numbers and of lists of pieces, and of the comparison of bytes as texts. Conditions: as each theorem states. -/
import Derived.Test.YtjlhldndomaknaaDoorD2
import Derived.Test.YtjlhldndomaknaaDoorG2
namespace Go.Proofs.YtjlhldndomaknaaDoor
open Go.RowKit
set_option maxRecDepth 100000

/-- A list of numbers that was drawn so far. -/
structure LRel (w0 : World) (a : Option Addr) (len cap : Nat) (zs : List Int) (p b : Nat) (v : Value) (wr : World) : Prop where
  own : ∃ zs', zs'.length ≤ b ∧ OwnK .i64 wr (w0.heap.size + 1) v zs' ∧ ∀ z ∈ zs', (Lit.int .i64 z).wf = true
  draw : Draw w0 a len cap zs p wr
section
variable {w0 : World} {a : Option Addr} {len cap : Nat} {zs : List Int} {p p' b : Nat} {v : Value} {w w' : World}
theorem LRel.only (h : LRel w0 a len cap zs p b v w) (hO : Only w0.heap.size w w') (D : Draw w0 a len cap zs p' w') : LRel w0 a len cap zs p' b v w' := by
  obtain ⟨zs', h1, h2, h3⟩ := h.own
  exact ⟨⟨zs', h1, h2.only hO (by omega), h3⟩, D⟩
theorem LRel.alloc (h : LRel w0 a len cap zs p b v w) (o : Obj) : LRel w0 a len cap zs p b v (w.alloc o) := by
  obtain ⟨zs', h1, h2, h3⟩ := h.own
  exact ⟨⟨zs', h1, h2.alloc o, h3⟩, h.draw.alloc o⟩
theorem LRel.kept (h : LRel w0 a len cap zs p b v w) (hg : w.grownBy w' (some w0.heap.size)) (D : Draw w0 a len cap zs p' w') : LRel w0 a len cap zs p' b v w' := by
  obtain ⟨zs', h1, h2, h3⟩ := h.own
  exact ⟨⟨zs', h1, h2.kept hg (.inr (fun e => by have := (h2.lt _ e).1; omega)), h3⟩, D⟩
end
theorem i64_wf {x : Int} (h0 : -9223372036854775808 ≤ x) (h1 : x ≤ 9223372036854775807) : (Lit.int .i64 x).wf = true := by
  simp [Lit.wf, IntKind.min, IntKind.max, IntKind.signed, IntKind.bits]; omega

set_option maxHeartbeats 1000000 in
theorem DrawTagSum_any {a : Option Addr} {len cap : Nat} {zs : List Int} {w : World} (hR : Row .u8 w w.heap.size a len cap zs) :
    Calls Tryd.prog 17 #[.slice a len cap] w (DrawnSI w) := by
  obtain ⟨i0, hi0, hz0, hz1, hz2⟩ := info_parts i64_info
  have hmk : ∀ (n : Nat), n ≤ 100 → ∀ W : World, (Instr.makeSlice 29 (.int .i64 (n : Int)) (.int .i64 (n : Int))).run Tryd.prog W = .ok (.slice (some ⟨W.heap.size, 0, none⟩) n n) (W.alloc (.cells (madeCells #[.int .i64 0] n) 2)) := by
    intro n hn W
    have := run_make (P := Tryd.prog) W 29 2 i0 (.int .i64 0) Tryd.underlying29 hi0 hz0 .i64 .i64 n n (by omega) (by omega) (by rw [hz2]; omega) (by omega)
    simpa [hz1, Value.cells] using this
  have HMK := Lib.hid hmk
  clear hmk
  go_enter Tryd.func17, Tryd.ntmps17
  go_wp2_with fail
  refine (dsource hR).mono ?_
  rintro r w1 ⟨rfl, D⟩
  have T0 : LRel w a len cap zs 0 0 (.slice (some ⟨w1.heap.size, 0, none⟩) 0 0) (w1.alloc (.cells #[] 2)) :=
    ⟨⟨[], Nat.le_refl _, Own.made w1 #[] 2 0 (by have := D.lt; omega) (Nat.zero_le _) rfl, (fun _ h => by cases h)⟩, D.alloc _⟩
  clear D
  go_wp2_with fail
  generalize w1.alloc (.cells #[] 2) = W1 at *
  refine (dnext _ T0.draw (by omega)).mono ?_
  rintro r w2 ⟨x, x0, x1, rfl, D2, O2⟩
  have T2 := T0.only O2 D2
  obtain ⟨q, rfl⟩ := Int.eq_ofNat_of_zero_le x0
  have hq : q ≤ 4 := by omega
  clear T0 D2 O2 x0 x1
  go_wp2_with fail
  go_loopw [5, 6] (fun v i wr => ∃ k p : Nat, k ≤ 4 ∧ k + p ≤ 10 ∧ i = .int .i64 k ∧ LRel w a len cap zs p p v wr) (fun _ i _ => (intOf i).toNat)
  case atStart =>
    obtain ⟨zs', h1, h2, h3⟩ := T2.own
    exact ⟨q, 1, hq, by omega, rfl, ⟨zs', by omega, h2, h3⟩, T2.draw⟩
  case round =>
    obtain ⟨k, p, hk, hkp, rfl, hT⟩ := hrel
    by_cases hpos : 0 < k
    · have hposI : (0 : Int) < k := by omega
      go_wp2_with fail
      refine (dnext _ hT.draw (by omega)).mono ?_
      rintro r w3 ⟨y, y0, y1, rfl, D3, O3⟩
      have T3 := hT.only O3 D3
      have y2 : y < 65521 := by omega
      obtain ⟨zs', h1, h2, h3⟩ := T3.own
      have H3 := Lib.hid h3
      have hltw := D3.lt
      clear hT O3 y1 h3
      go_wp2_with (at_builtin; refine wpList_append_src _ rfl (.tmp 16) (.tmp 19) 29 29 rfl (w.heap.size + 1) 2 i0 (.int .i64 0) 1 8 Tryd.underlying29 hi0 hz0 hz1 hz2 rfl _ _ _ rfl (h2.alloc _) _ 1 [.int .i64 y] rfl (src_new w3 _ 1 1 _ _ _ Tryd.underlying29 rfl (ints_oneCell .i64 [y])) (by simp only [maxLen]; omega) (by omega) (by simp; omega) ?_; intro v4 w4 hown hgrow hat)
      have T4 : LRel w a len cap zs (p + 1) (p + 1) v4 w4 := by
        refine ⟨⟨zs' ++ [y], by simp; omega, by unfold OwnK; simpa using hown, fun z hz => ?_⟩, ?_⟩
        · rcases List.mem_append.1 hz with hz | hz
          · exact H3.out z hz
          · simp at hz; subst hz; exact i64_wf (by omega) (by omega)
        · exact (D3.alloc _).grown hgrow (fun g hg => by have := (h2.lt g hg).1; omega)
      clear hown hgrow hat h2 D3 T3
      go_wp2_with fail
      go_roundw
      case rel => exact ⟨k - 1, p + 1, by omega, by omega, by go_num, T4⟩
      case measure => simp [intOf]; omega
    · obtain rfl : k = 0 := by omega
      go_wp2_with fail
      refine (dnext _ hT.draw (by omega)).mono ?_
      rintro r w3 ⟨y, y0, y1, rfl, D3, O3⟩
      have T3 := hT.only O3 D3
      clear hT O3 D3
      cases hy0 : (y == 0)
      · cases hy1 : (y == 1)
        · go_wp2_with fail
          refine (dlabel T3.draw (by omega)).mono ?_
          rintro r w5 ⟨s, hs, rfl, D5, G5⟩
          obtain ⟨zs', h1, h2, h3⟩ := (T3.kept G5 D5).own
          obtain ⟨a', c', hv, -⟩ := h2.form
          subst hv
          have HR := Lib.hid (Own.row h2 h3)
          have HD := Lib.hid D5.bel
          clear T3 D5 G5 h1 h2 h3
          go_wp2_with fail
          go_ret2
          exact ⟨s, a', _, c', zs', rfl, hs, HR.out, HD.out⟩
        · go_wp2_with fail
          refine (dpick [40, 41] 2 T3.draw (by omega) (by omega) (by omega) rfl 2).mono ?_
          rintro r w4 ⟨m, hm, rfl, D4, O4⟩
          have hm2 : 0 ≤ m ∧ m ≤ 100 := by simp at hm; omega
          obtain ⟨m0, m1⟩ := hm2
          obtain ⟨n, rfl⟩ := Int.eq_ofNat_of_zero_le m0
          have hmk := HMK.out n (by omega)
          have hlt4 := D4.lt
          have T5 : LRel w a len cap zs (p + 1 + 1) 100 (.slice (some ⟨w4.heap.size, 0, none⟩) n n) (w4.alloc (.cells (madeCells #[.int .i64 0] n) 2)) :=
            ⟨⟨List.replicate n 0, by simp; omega, OwnK.made .i64 w4 n 2 (by omega) (by simp only [maxLen]; omega), zeros_wf .i64 n⟩, D4.alloc _⟩
          clear hm T3 D4 O4
          go_wp2_with fail
          generalize w4.alloc (.cells (madeCells #[.int .i64 0] n) 2) = W4 at *
          refine (dlabel T5.draw (by omega)).mono ?_
          rintro r w5 ⟨s, hs, rfl, D5, G5⟩
          obtain ⟨zs', h1, h2, h3⟩ := (T5.kept G5 D5).own
          have HR := Lib.hid (Own.row h2 h3)
          have HD := Lib.hid D5.bel
          clear T5 D5 G5 h1 h2 h3 hmk
          go_wp2_with fail
          go_ret2
          exact ⟨s, _, _, _, zs', rfl, hs, HR.out, HD.out⟩
      · go_wp2_with fail
        refine (dpick [-1, 65521] 2 T3.draw (by omega) (by omega) (by omega) rfl 2).mono ?_
        rintro r w4 ⟨m, hm, rfl, D4, O4⟩
        have hm2 : -1 ≤ m ∧ m ≤ 65521 := by simp at hm; omega
        obtain ⟨m0, m1⟩ := hm2
        have T4 := (T3.alloc (.cells #[.int .i64 (-1), .int .i64 65521] 2)).only O4 D4
        obtain ⟨zs', h1, h2, h3⟩ := T4.own
        have H3 := Lib.hid h3
        have hltw := D4.lt
        clear T3 hm O4 h3
        go_wp2_with (at_builtin; refine wpList_append_src _ rfl (.tmp 25) (.tmp 29) 29 29 rfl (w.heap.size + 1) 2 i0 (.int .i64 0) 1 8 Tryd.underlying29 hi0 hz0 hz1 hz2 rfl _ _ _ rfl (h2.alloc _) _ 1 [.int .i64 m] rfl (src_new w4 _ 1 1 _ _ _ Tryd.underlying29 rfl (ints_oneCell .i64 [m])) (by simp only [maxLen]; omega) (by omega) (by simp; omega) ?_; intro v4 w6 hown hgrow hat)
        have T6 : LRel w a len cap zs (p + 1 + 1) 100 v4 w6 := by
          refine ⟨⟨zs' ++ [m], by simp; omega, by unfold OwnK; simpa using hown, fun z hz => ?_⟩, ?_⟩
          · rcases List.mem_append.1 hz with hz | hz
            · exact H3.out z hz
            · simp at hz; subst hz; exact i64_wf (by omega) (by omega)
          · exact (D4.alloc _).grown hgrow (fun g hg => by have := (h2.lt g hg).1; omega)
        clear hown hgrow hat h2 D4 T4
        go_wp2_with fail
        refine (dlabel T6.draw (by omega)).mono ?_
        rintro r w5 ⟨s, hs, rfl, D5, G5⟩
        obtain ⟨zs2, h1', h2, h3⟩ := (T6.kept G5 D5).own
        obtain ⟨a', c', hv, -⟩ := h2.form
        subst hv
        have HR := Lib.hid (Own.row h2 h3)
        have HD := Lib.hid D5.bel
        clear T6 D5 G5 h1 h1' h2 h3
        go_wp2_with fail
        go_ret2
        exact ⟨s, a', _, c', zs2, rfl, hs, HR.out, HD.out⟩

theorem rows_info2 : (Tryd.prog.info? 22).map (fun i => (i.zero, i.size, i.bytes)) = some (some (.slice none 0 0), 1, 24) := by kernel_rfl
/-- A list of pieces that was drawn so far. -/
structure GRel (w0 : World) (a : Option Addr) (len cap : Nat) (zs : List Int) (p b : Nat) (v : Value) (wr : World) : Prop where
  own : ∃ rows, rows.length ≤ b ∧ Own2 wr (w0.heap.size + 1) v rows
  draw : Draw w0 a len cap zs p wr
section
variable {w0 : World} {a : Option Addr} {len cap : Nat} {zs : List Int} {p p' b : Nat} {v : Value} {w w' : World}
theorem GRel.only (h : GRel w0 a len cap zs p b v w) (hO : Only w0.heap.size w w') (D : Draw w0 a len cap zs p' w') : GRel w0 a len cap zs p' b v w' := by
  obtain ⟨rows, h1, h2⟩ := h.own
  exact ⟨⟨rows, h1, h2.only hO (by omega)⟩, D⟩
theorem GRel.alloc (h : GRel w0 a len cap zs p b v w) (o : Obj) : GRel w0 a len cap zs p b v (w.alloc o) := by
  obtain ⟨rows, h1, h2⟩ := h.own
  exact ⟨⟨rows, h1, h2.alloc o⟩, h.draw.alloc o⟩
theorem GRel.kept (h : GRel w0 a len cap zs p b v w) (hg : w.grownBy w' (some w0.heap.size)) (D : Draw w0 a len cap zs p' w') : GRel w0 a len cap zs p' b v w' := by
  obtain ⟨rows, h1, h2⟩ := h.own
  exact ⟨⟨rows, h1, h2.kept hg (by omega)⟩, D⟩
end
theorem slice_oneCell (a : Option Addr) (n c : Nat) : ∀ u ∈ [Value.slice a n c], u.oneCell' = true := by
  intro u hu
  simp at hu
  subst hu
  rfl
theorem step_row {w0 w1 w2 wb : World} {a : Option Addr} {len cap : Nat} {zs : List Int} {p b : Nat} {v v' : Value} {rows : List (Value × List Int)} {a' : Option Addr} {n' c' : Nat} {zs' : List Int}
    (h : Own2 w1 (w0.heap.size + 1) v rows) (hb : rows.length ≤ b) (hlt : ∀ k, v.ownBlock = some k → k < wb.heap.size) (hB : w0.heap.size < wb.heap.size) (ho : OwnK .u8 w1 wb.heap.size (.slice a' n' c') zs') (hz : ∀ z ∈ zs', (Lit.int .u8 z).wf = true)
    (hn : Own w2 (w0.heap.size + 1) 1 v' (rows.length + 1) (rows.map (·.1) ++ [.slice a' n' c'])) (hg : w1.grownBy w2 v.ownBlock) (hat : v'.ownBlock = v.ownBlock ∨ v'.ownBlock = some w1.heap.size) (D : Draw w0 a len cap zs p w1) :
    GRel w0 a len cap zs p (b + 1) v' w2 := by
  refine ⟨⟨rows ++ [(.slice a' n' c', zs')], by simp; omega, h.more (ho.less (by omega)) hz (fun k hk e => ?_) hn hg hat⟩, D.grown hg (fun k hk => by have := (h.own.lt k hk).1; omega)⟩
  have h1 := (ho.lt k hk).1
  have h2 := hlt k e
  omega

set_option maxHeartbeats 1000000 in
theorem DrawTranscript_any {a : Option Addr} {len cap : Nat} {zs : List Int} {w : World} (hR : Row .u8 w w.heap.size a len cap zs) :
    Calls Tryd.prog 19 #[.slice a len cap] w (DrawnGrid w) := by
  obtain ⟨i0, hi0, hz0, hz1, hz2⟩ := info_parts rows_info2
  obtain ⟨j0, hj0, hy0, hy1, hy2⟩ := info_parts u8_info
  have hmk : ∀ (n : Nat), n ≤ 100 → ∀ W : World, (Instr.makeSlice 33 (.int .i64 (n : Int)) (.int .i64 (n : Int))).run Tryd.prog W = .ok (.slice (some ⟨W.heap.size, 0, none⟩) n n) (W.alloc (.cells (madeCells #[.slice none 0 0] n) 22)) := by
    intro n hn W
    have := run_make (P := Tryd.prog) W 33 22 i0 (.slice none 0 0) Tryd.underlying33 hi0 hz0 .i64 .i64 n n (by omega) (by omega) (by rw [hz2]; omega) (by omega)
    simpa [hz1, Value.cells] using this
  have hmb : ∀ (n : Nat), n ≤ 2000 → ∀ W : World, (Instr.makeSlice 22 (.int .i64 (n : Int)) (.int .i64 (n : Int))).run Tryd.prog W = .ok (.slice (some ⟨W.heap.size, 0, none⟩) n n) (W.alloc (.cells (madeCells #[.int .u8 0] n) 5)) := by
    intro n hn W
    have := run_make (P := Tryd.prog) W 22 5 j0 (.int .u8 0) Tryd.underlying22 hj0 hy0 .i64 .i64 n n (by omega) (by omega) (by rw [hy2]; omega) (by omega)
    simpa [hy1, Value.cells] using this
  have HMK := Lib.hid hmk
  have HMB := Lib.hid hmb
  clear hmk hmb hj0 hy0 hy1 hy2
  go_enter Tryd.func19, Tryd.ntmps19
  go_wp2_with fail
  refine (dsource hR).mono ?_
  rintro r w1 ⟨rfl, D⟩
  have T0 : GRel w a len cap zs 0 0 (.slice (some ⟨w1.heap.size, 0, none⟩) 0 0) (w1.alloc (.cells #[] 22)) :=
    ⟨⟨[], Nat.le_refl _, Own2.empty (Own.made w1 #[] 22 0 (by have := D.lt; omega) (Nat.zero_le _) rfl)⟩, D.alloc _⟩
  clear D
  go_wp2_with fail
  generalize w1.alloc (.cells #[] 22) = W1 at *
  refine (dnext _ T0.draw (by omega)).mono ?_
  rintro r w2 ⟨x, x0, x1, rfl, D2, O2⟩
  have T2 := T0.only O2 D2
  obtain ⟨q, rfl⟩ := Int.eq_ofNat_of_zero_le x0
  have hq : q ≤ 3 := by omega
  clear T0 D2 O2 x0 x1
  go_wp2_with fail
  go_loopw [4, 5] (fun v i wr => ∃ k p b : Nat, k ≤ 3 ∧ 6 * k + p ≤ 100 ∧ k + b ≤ 10 ∧ i = .int .i64 k ∧ GRel w a len cap zs p b v wr) (fun _ i _ => (intOf i).toNat)
  case atStart => exact ⟨q, 1, 0, hq, by omega, by omega, rfl, T2⟩
  case round =>
    obtain ⟨k, p, b, hk, hkp, hkb, rfl, hT⟩ := hrel
    by_cases hpos : 0 < k
    · have hposI : (0 : Int) < k := by omega
      go_wp2_with fail
      refine (dnext _ hT.draw (by omega)).mono ?_
      rintro r w3 ⟨y, y0, y1, rfl, D3, O3⟩
      have T3 := hT.only O3 D3
      obtain ⟨m, rfl⟩ := Int.eq_ofNat_of_zero_le y0
      have hm : m ≤ 4 := by omega
      clear hT O3 y1 y0 D3
      go_wp2_with fail
      refine (dsome m T3.draw (by omega) (by omega)).mono ?_
      rintro r w4 ⟨a', c', zs', rfl, hO4, hwf4, D4, G4⟩
      obtain ⟨rows, h1, h2⟩ := T3.own
      have hlt3 : ∀ g, _ = some g → g < w3.heap.size := fun g hg => (h2.own.lt g hg).2
      have h4 := h2.kept G4 (by omega)
      have hltw := T3.draw.lt
      have hltw4 := D4.lt
      have HF := Lib.hid (And.intro hO4 (And.intro hwf4 (And.intro D4 hlt3)))
      clear T3 hO4 hwf4 D4 G4 h2 hlt3
      go_wp2_with (at_builtin; refine wpList_append_src _ rfl (.tmp 15) (.tmp 20) 33 33 rfl (w.heap.size + 1) 22 i0 (.slice none 0 0) 1 24 Tryd.underlying33 hi0 hz0 hz1 hz2 rfl _ _ _ rfl (h4.own.alloc _) _ 1 [.slice a' m c'] rfl (src_new w4 _ 1 1 _ _ _ Tryd.underlying33 rfl (slice_oneCell a' m c')) (by simp only [maxLen]; omega) (by omega) (by simp; omega) ?_; intro v5 w5 hown hgrow hat)
      have T5 : GRel w a len cap zs (p + 1 + m) (b + 1) v5 w5 := step_row (h4.alloc _) h1 HF.out.2.2.2 hltw (HF.out.1.alloc _) HF.out.2.1 hown hgrow hat (HF.out.2.2.1.alloc _)
      clear hown hgrow hat h4 HF
      go_wp2_with fail
      go_roundw
      case rel => exact ⟨k - 1, p + 1 + m, b + 1, by omega, by omega, by omega, by go_num, T5⟩
      case measure => simp [intOf]; omega
    · obtain rfl : k = 0 := by omega
      go_wp2_with fail
      refine (dnext _ hT.draw (by omega)).mono ?_
      rintro r w3 ⟨y, y0, y1, rfl, D3, O3⟩
      have T3 := hT.only O3 D3
      clear hT O3 D3
      cases hy0 : (y == 0)
      · cases hy1 : (y == 1)
        · obtain ⟨rows, h1, h2⟩ := T3.own
          obtain ⟨a', n', c', hv, hn, hG⟩ := h2.grid
          have HG := Lib.hid hG
          have HD := Lib.hid T3.draw.bel
          clear T3 h1 h2 hn hG
          subst hv
          go_wp2_with fail
          go_ret
          exact ⟨a', n', c', _, rfl, HG.out, HD.out⟩
        · go_wp2_with fail
          refine (dpick [10, 11] 2 T3.draw (by omega) (by omega) (by omega) rfl 2).mono ?_
          rintro r w4 ⟨m, hm, rfl, D4, O4⟩
          have hm2 : 0 ≤ m ∧ m ≤ 100 := by simp at hm; omega
          obtain ⟨m0, m1⟩ := hm2
          obtain ⟨n, rfl⟩ := Int.eq_ofNat_of_zero_le m0
          have hmk := HMK.out n (by omega)
          have hlt4 := D4.lt
          obtain ⟨a', n', c', hv, hn, hG⟩ := (Own2.made (B := w.heap.size + 1) w4 n 22 (by omega) (by simp only [maxLen]; omega)).grid
          injection hv with e1 e2 e3
          subst e1; subst e2; subst e3
          have HG := Lib.hid hG
          have HD := Lib.hid (D4.alloc (.cells (madeCells #[.slice none 0 0] n) 22)).bel
          clear hm T3 D4 O4 hn hG
          go_wp2_with fail
          go_ret
          exact ⟨_, _, _, _, rfl, HG.out, HD.out⟩
      · go_wp2_with fail
        refine (dpick [1000, 1001] 2 T3.draw (by omega) (by omega) (by omega) rfl 2).mono ?_
        rintro r w4 ⟨m, hm, rfl, D4, O4⟩
        have hm2 : 0 ≤ m ∧ m ≤ 2000 := by simp at hm; omega
        obtain ⟨m0, m1⟩ := hm2
        obtain ⟨n, rfl⟩ := Int.eq_ofNat_of_zero_le m0
        have hmb := HMB.out n (by omega)
        have T4 := (T3.alloc (.cells #[.int .i64 1000, .int .i64 1001] 2)).only O4 D4
        obtain ⟨rows, h1, h2⟩ := T4.own
        have hlt3 : ∀ g, _ = some g → g < w4.heap.size := fun g hg => (h2.own.lt g hg).2
        have hltw := D4.lt
        have hO5 := OwnK.made .u8 w4 n 5 (Nat.le_refl _) (by simp only [maxLen]; omega)
        have h5 := h2.alloc (.cells (madeCells #[.int .u8 0] n) 5)
        have D5 := D4.alloc (.cells (madeCells #[.int .u8 0] n) 5)
        have HF := Lib.hid (And.intro hO5 (And.intro D5 hlt3))
        have hsz5 : (w4.alloc (.cells (madeCells #[.int .u8 0] n) 5)).heap.size = w4.heap.size + 1 := by simp
        have HZ5 := Lib.hid hsz5
        clear T3 T4 hm O4 hO5 D4 D5 h2 hlt3 hsz5
        go_wp2_with (at_builtin; refine wpList_append_src _ rfl (.tmp 26) (.tmp 31) 33 33 rfl (w.heap.size + 1) 22 i0 (.slice none 0 0) 1 24 Tryd.underlying33 hi0 hz0 hz1 hz2 rfl _ _ _ rfl (h5.own.alloc _) _ 1 [.slice (some ⟨w4.heap.size, 0, none⟩) n n] rfl (src_new2 w4 _ _ 1 1 _ _ _ Tryd.underlying33 rfl (slice_oneCell _ _ _)) (by simp only [maxLen]; omega) (by omega) (by simp; omega) ?_; intro v6 w6 hown hgrow hat)
        have T6 : GRel w a len cap zs (p + 1 + 1) (b + 1) v6 w6 := step_row (h5.alloc _) h1 HF.out.2.2 hltw (HF.out.1.alloc _) (zeros_wf .u8 n) hown hgrow hat (HF.out.2.1.alloc _)
        obtain ⟨rows2, g1, g2⟩ := T6.own
        obtain ⟨a', n', c', hv, hn, hG⟩ := g2.grid
        have HG := Lib.hid hG
        have HD := Lib.hid T6.draw.bel
        clear hown hgrow hat h5 HF T6 g1 g2 hn hG
        subst hv
        go_wp2_with fail
        go_ret
        exact ⟨a', n', c', _, rfl, HG.out, HD.out⟩

/-- Two slices of bytes that read alike. -/
theorem lwBytes_any {B : Nat} {a b : Option Addr} {n1 n2 c1 c2 : Nat} {zs : List Int} {w : World} (hR : Row .u8 w B a n1 c1 zs) (hQ : Row .u8 w B b n2 c2 zs) :
    Calls Tryd.prog 34 #[.slice a n1 c1, .slice b n2 c2] w fun r w' => r = .returned (.bool true) ∧ w = w' := by
  have k1 := conv_row hR
  have k2 := conv_row hQ
  clear hR hQ
  generalize strOf zs = S at k1 k2
  go_enter Tryd.func34, Tryd.ntmps34
  go_wp2_with fail
  go_ret
  simp

end Go.Proofs.YtjlhldndomaknaaDoor
