/- Contracts of the draws that the laws of chapter 4 choose their inputs by. Conditions: as each theorem states. -/
import Derived.Test.YtjlhldndomaknaaDoorC4e
import Derived.Test.YtjlhldndomaknaaDoorC4c
import Derived.Test.YtjlhldndomaknaaDoorC4d
import Derived.Test.YtjlhldndomaknaaDoorD2
namespace Go.Proofs.YtjlhldndomaknaaDoor
open Go.RowKit
set_option maxRecDepth 100000
set_option linter.unusedVariables false

theorem At.only {g g0 : Nat} {cs : List Value} {w w' : World} (h : At g cs w) (hO : Only g0 w w') (hg : g ≠ g0) : At g cs w' := h.keep fun _ => hO.block g hg

/-- Numbers and bytes for a record to be sealed. -/
def DrawnSeal (w : World) (r : Ending) (w' : World) : Prop := ∃ (x y z : Int) (a : Option Addr) (n c : Nat) (zs : List Int), r = .returned (.tuple #[.int .i64 x, .int .i64 y, .int .i64 z, .slice a n c]) ∧ Row .u8 w' w'.heap.size a n c zs ∧ Below w.heap.size w w'
theorem DrawSealData_any {a : Option Addr} {len cap : Nat} {zs : List Int} {w : World} (hR : Row .u8 w w.heap.size a len cap zs) :
    Calls Tryd.prog 46 #[.slice a len cap] w (DrawnSeal w) := by
  go_enter Tryd.func46, Tryd.ntmps46
  go_wp2_with fail
  refine (dsource hR).mono ?_
  rintro r w1 ⟨rfl, D⟩
  go_wp2_with fail
  refine (dnext _ D (by omega)).mono ?_
  rintro r w2 ⟨x, x0, x1, rfl, D2, O2⟩
  go_wp2_with fail
  refine (dpick [x, 65521] 2 D2 (by omega) (by omega) (by omega) rfl 2).mono ?_
  rintro r w3 ⟨k, hk, rfl, D3, O3⟩
  clear hk D D2 O2 O3 x0 x1
  go_wp2_with fail
  refine (dpick [0, 1, 65520, 65521] 4 D3 (by omega) (by omega) (by omega) rfl 2).mono ?_
  rintro r w4 ⟨y, hy, rfl, D4, O4⟩
  clear hy D3 O4
  go_wp2_with fail
  refine (dpick [1, 9, 10, 0, 5] 5 D4 (by omega) (by omega) (by omega) rfl 2).mono ?_
  rintro r w5 ⟨z, hz, rfl, D5, O5⟩
  clear hz D4 O5
  go_wp2_with fail
  refine (dpick [0, 3, 60, 61] 4 D5 (by omega) (by omega) (by omega) rfl 2).mono ?_
  rintro r w6 ⟨m, hm, rfl, D6, O6⟩
  have hm2 : 0 ≤ m ∧ m ≤ 2000 := by simp at hm; omega
  obtain ⟨m0, m1⟩ := hm2
  obtain ⟨q, rfl⟩ := Int.eq_ofNat_of_zero_le m0
  clear hm D5 O6
  go_wp2_with fail
  refine (dsome q D6 (by omega) (by omega)).mono ?_
  rintro r w7 ⟨a', c', zs', rfl, hO, hwf, D7, G7⟩
  have HR := Lib.hid (Own.row hO hwf)
  have HD := Lib.hid D7.bel
  clear D6 D7 G7 hO hwf
  go_wp2_with fail
  refine bodyPost_ret (v := .tuple #[.int .i64 k, .int .i64 y, .int .i64 z, .slice a' q c']) (by simp [results, Tryd.results46, go_sem]) rfl ?_
  exact ⟨_, _, _, _, _, _, _, rfl, HR.out, HD.out⟩

/-- What stays so while a record is bent: the result at block rb, the record at block gb. -/
structure BentR (w0 : World) (a : Option Addr) (len cap : Nat) (zs : List Int) (p rb gb : Nat) (s k : Int) (a1 : Option Addr) (n1 c1 : Nat) (t : Int) (xs : List Int) (w : World) : Prop where
  draw : Draw w0 a len cap zs p w
  res : At rb (L4 0 0 none 0 0 0) w
  one : At gb (L4 s k a1 n1 c1 t) w
  own : OwnK .u8 w (w0.heap.size + 1) (.slice a1 n1 c1) xs
  wf : ∀ z ∈ xs, (Lit.int .u8 z).wf = true
  rlt : rb ≠ w0.heap.size
  glt : w0.heap.size < gb
  ne : rb ≠ gb
  offR : Off rb (.slice a1 n1 c1)
  offG : Off gb (.slice a1 n1 c1)
section
variable {w0 : World} {a : Option Addr} {len cap : Nat} {zs : List Int} {p p' rb gb : Nat} {s k : Int} {a1 : Option Addr} {n1 c1 : Nat} {t : Int} {xs : List Int} {w w' : World}
theorem BentR.only (h : BentR w0 a len cap zs p rb gb s k a1 n1 c1 t xs w) (hO : Only w0.heap.size w w') (D : Draw w0 a len cap zs p' w') : BentR w0 a len cap zs p' rb gb s k a1 n1 c1 t xs w' :=
  ⟨D, h.res.only hO h.rlt, h.one.only hO (by have := h.glt; omega), Own.only h.own hO (by omega), h.wf, h.rlt, h.glt, h.ne, h.offR, h.offG⟩
theorem BentR.alloc (h : BentR w0 a len cap zs p rb gb s k a1 n1 c1 t xs w) (o : Obj) : BentR w0 a len cap zs p rb gb s k a1 n1 c1 t xs (w.alloc o) :=
  ⟨h.draw.alloc o, h.res.alloc o, h.one.alloc o, Own.alloc h.own o, h.wf, h.rlt, h.glt, h.ne, h.offR, h.offG⟩
theorem Draw.setCell {x : Addr} {u : Value} (h : Draw w0 a len cap zs p w) (hx : w0.heap.size < x.block) : Draw w0 a len cap zs p (w.setCell x u) := by
  have hb : Below w0.heap.size w (w.setCell x u) := (Below.refl _ w).setCell (by omega) u
  exact ⟨h.src.keep (Below.heap_setCell w x u _ (by omega)), h.row.below hb, h.bel.trans hb⟩
theorem BentR.drew (h : BentR w0 a len cap zs p rb gb s k a1 n1 c1 t xs w) : BentR w0 a len cap zs p rb gb s k a1 n1 c1 t xs w.drew :=
  ⟨h.draw.below (bdrew _), h.res.on (bdrew _), h.one.on (bdrew _), Own.drew h.own, h.wf, h.rlt, h.glt, h.ne, h.offR, h.offG⟩
/-- One cell of the record is turned. -/
theorem BentR.put {s' k' : Int} {t' : Int} (i : Nat) (u : Value) (h : BentR w0 a len cap zs p rb gb s k a1 n1 c1 t xs w) (he : (L4 s k a1 n1 c1 t).set i u = L4 s' k' a1 n1 c1 t') : BentR w0 a len cap zs p rb gb s' k' a1 n1 c1 t' xs (w.setCell ⟨gb, i, none⟩ u) :=
  ⟨h.draw.setCell h.glt, h.res.setB h.ne u, he ▸ h.one.set i u, Own.setCell h.own (fun q hq => h.offG q hq) u, h.wf, h.rlt, h.glt, h.ne, h.offR, h.offG⟩
end

/-- A record that was drawn, with its key. -/
def DBent (w0 : World) (a : Option Addr) (len cap : Nat) (zs : List Int) (r : Ending) (w' : World) : Prop :=
  ∃ (x s k : Int) (a1 : Option Addr) (n1 c1 : Nat) (t : Int) (xs : List Int) (p : Nat), r = .returned (.tuple #[.int .i64 x, R4 s k a1 n1 c1 t]) ∧ p ≤ 100 ∧ Draw w0 a len cap zs p w' ∧ OwnK .u8 w' (w0.heap.size + 1) (.slice a1 n1 c1) xs ∧ (∀ z ∈ xs, (Lit.int .u8 z).wf = true)


set_option maxHeartbeats 4000000 in
theorem l4Bent_any {w0 : World} {a : Option Addr} {len cap : Nat} {zs : List Int} {w : World} (D : Draw w0 a len cap zs 0 w) :
    Calls Tryd.prog 117 #[.pointer (some ⟨w0.heap.size, 0, none⟩)] w (DBent w0 a len cap zs) := by
  have hlt := D.src.lt
  have A0 := At.new w (L4 0 0 none 0 0 0) 66
  have D0 := D.alloc (.cells #[.int .i64 0, .int .i64 0, .slice none 0 0, .int .i64 0] 66)
  obtain ⟨i0, hi0, hz0, hz1, hz2⟩ := info_parts u8_info
  have hmk : ∀ (n : Nat), n ≤ 100 → ∀ W : World, (Instr.makeSlice 22 (.int .i64 (n : Int)) (.int .i64 (n : Int))).run Tryd.prog W = .ok (.slice (some ⟨W.heap.size, 0, none⟩) n n) (W.alloc (.cells (madeCells #[.int .u8 0] n) 5)) := by
    intro n hn W
    have := run_make (P := Tryd.prog) W 22 5 i0 (.int .u8 0) Tryd.underlying22 hi0 hz0 .i64 .i64 n n (by omega) (by omega) (by rw [hz2]; omega) (by omega)
    simpa [hz1, Value.cells] using this
  have HMK := Lib.hid hmk
  clear D hmk hi0 hz0 hz1 hz2
  go_enter Tryd.func117, Tryd.ntmps117
  go_wp2_with fail
  generalize w.alloc (.cells #[.int .i64 0, .int .i64 0, .slice none 0 0, .int .i64 0] 66) = W0 at *
  refine (dnext 65521 D0 (by omega)).mono ?_
  rintro r w1 ⟨key, k0, k1, rfl, D1, O1⟩
  have A1 := A0.only O1 (by omega)
  have hkey : M.sumB key = true := by simp only [M.sumB, decide_eq_true_eq]; omega
  clear A0 D0 O1 k1
  go_wp2_with fail
  refine (dnext 4 D1 (by omega)).mono ?_
  rintro r w2 ⟨s, s0, s1, rfl, D2, O2⟩
  have A2 := A1.only O2 (by omega)
  have s2 : s < 4 := by omega
  clear A1 D1 O2 s1
  go_wp2_with fail
  refine (dnext 9 D2 (by omega)).mono ?_
  rintro r w3 ⟨kd, d0, d1, rfl, D3, O3⟩
  have A3 := A2.only O3 (by omega)
  have d2 : kd < 9 := by omega
  clear A2 D2 O3 d1
  go_wp2_with fail
  refine (dnext 6 D3 (by omega)).mono ?_
  rintro r w4 ⟨m, m0, m1, rfl, D4, O4⟩
  have A4 := A3.only O4 (by omega)
  obtain ⟨m, rfl⟩ := Int.eq_ofNat_of_zero_le m0
  have m2 : m < 6 := by omega
  clear A3 D3 O4 m1
  go_wp2_with fail
  refine (dsome m D4 (by omega) (by omega)).mono ?_
  rintro r w5 ⟨a5, c5, z5, rfl, O5, wf5, D5, G5⟩
  have A5 := A4.kept G5 (fun e => by injection e with e; omega)
  have ltA := A5.lt (by simp)
  have hs : M.sumB s = true := by simp only [M.sumB, decide_eq_true_eq]; omega
  have hk : M.sumB (1 + kd) = true := by simp only [M.sumB, decide_eq_true_eq]; omega
  have R5 := Own.row O5 wf5
  have T1 := fun w hR hB => l4Seal_any key s (1 + kd) a5 m c5 w5.heap.size z5 w hR hB hkey hs hk (by omega)
  have HW := Lib.hid (fun z hz => byte_wf (M.turnL_byte (key := key) (seq := s) R5.bytes z hz))
  generalize M.turnL key s z5 = xs at *
  generalize M.recT key s (1 + kd) xs = tg at *
  clear A4 D4 O5 G5 wf5
  go_wp2_with fail
  refine (T1 _ R5 (Nat.le_refl _)).mono ?_
  rintro r w6 ⟨a6, c6, rfl, O6, b6⟩
  have D6 := D5.below b6
  have A6 := A5.on b6
  have lt6 := D6.src.lt
  have ltR := A6.lt (by simp)
  obtain ⟨gb, hgb⟩ : ∃ gb, gb = w6.heap.size := ⟨_, rfl⟩
  have B6 : BentR w0 a len cap zs (0 + 1 + 1 + 1 + 1 + m) w.heap.size w6.heap.size s (1 + kd) a6 m c6 tg xs (w6.alloc (.cells #[.int .i64 s, .int .i64 (1 + kd), .slice a6 m c6, .int .i64 tg] 66)) :=
    ⟨D6.alloc _, A6.alloc _, At.new w6 (L4 s (1 + kd) a6 m c6 tg) 66, Own.alloc (O6.less (by have := D5.src.lt; omega)) _, HW.out, by omega, lt6, by omega, O6.offLo ltA, O6.offHi (Nat.le_refl _)⟩
  clear T1 A5 D5 O6 b6 D6 A6 R5
  go_wp2_with fail
  generalize w6.alloc (.cells #[.int .i64 s, .int .i64 (1 + kd), .slice a6 m c6, .int .i64 tg] 66) = v6 at *
  rw [← hgb] at B6 ⊢
  clear hgb
  refine (dnext 10 B6.draw (by omega)).mono ?_
  rintro r w7 ⟨sw, t0, t1, rfl, D7, O7⟩
  have B7 := B6.only O7 D7
  clear B6 D7 O7 t1
  by_cases e0 : sw = 0
  · subst e0
    go_wp2_with fail
    refine (dpick [0, 65521, -1] 3 B7.draw (by omega) (by omega) (by omega) rfl 2).mono ?_
    rintro r w8 ⟨x, hx, rfl, D8, O8⟩
    have B8 := (B7.alloc (.cells #[.int .i64 0, .int .i64 65521, .int .i64 (-1)] 2)).only O8 D8
    have c3 := B8.one.cell 3 _ rfl
    have f3 := B8.one.free 3 _ rfl
    have B9 := B8.put (s' := s) (k' := 1 + kd) (t' := x) 3 (.int .i64 x) rfl
    clear hx B7 B8 D8 O8
    go_wp2_with fail
    generalize w8.setCell ⟨gb, 3, none⟩ (.int .i64 x) = V9 at *
    have hrl := hlt
    have hgl := B9.glt
    have hnn := B9.ne
    have B10 := B9.drew
    have S0 : Hold w0 gb (L4 s (1 + kd) a6 m c6 x) V9.drew := ⟨B10.draw.bel, B10.one⟩
    have HB9 := Lib.hid B10
    have AR := B10.res
    clear B9 B10
    go_wp2_with fail
    refine wp_region_line (Hold w0 gb (L4 s (1 + kd) a6 m c6 x)) [(0, true), (1, true), (2, true), (3, false)] (by kernel_rfl) (by kernel_rfl) (fun _ _ d _ _ h => by cases d <;> exact h) S0 ?_
    have hst := S0
    clear S0
    generalize V9.drew = V at *
    have inst : Nonempty (Of (Hold w0 gb (L4 s (1 + kd) a6 m c6 x))) := ⟨⟨_, hst⟩⟩
    have v0 := hold_cell (W := w0) (g := gb) (cs := L4 s (1 + kd) a6 m c6 x) 0 _ rfl
    have v1 := hold_cell (W := w0) (g := gb) (cs := L4 s (1 + kd) a6 m c6 x) 1 _ rfl
    have v2 := hold_cell (W := w0) (g := gb) (cs := L4 s (1 + kd) a6 m c6 x) 2 _ rfl
    have v3 := hold_cell (W := w0) (g := gb) (cs := L4 s (1 + kd) a6 m c6 x) 3 _ rfl
    iterate 3 (refine line_read rfl (by kernel_rfl) (fun K hK => ?_); go_big_quiet_op; refine hK _ ?_; clear hK K)
    have q0 := AR.cell 0 _ rfl
    have q1 := AR.cell 1 _ rfl
    have q2 := AR.cell 2 _ rfl
    have q3 := AR.cell 3 _ rfl
    have z0 := AR.free 0 _ rfl
    have z1 := AR.free 1 _ rfl
    have z2 := AR.free 2 _ rfl
    have z3 := AR.free 3 _ rfl
    clear v0 v1 v2 v3 inst
    refine line_alone rfl (by kernel_rfl) (fun K hK => ?_)
    go_big_op
    refine hK _ _ ((by (iterate 4 (refine Hold.setB ?_ (by dsimp only; omega) (by dsimp only; omega) _)); exact hst)) ?_
    clear hK K
    refine line_nil ?_
    clear hst AR
    go_wp2_with fail
    refine bodyPost_ret (v := .tuple #[.int .i64 key, R4 s (1 + kd) a6 m c6 x]) (by simp [results, Tryd.results117, go_sem, q0, q1, q2, q3]) rfl ?_
    refine ⟨_, _, _, _, _, _, _, _, _, rfl, ?_, (((HB9.out.draw.setCell hrl).setCell hrl).setCell hrl).setCell hrl, ?_, HB9.out.wf⟩
    · omega
    · iterate 4 (refine Own.setCell ?_ (fun q hq => HB9.out.offR q hq) _)
      exact HB9.out.own
  by_cases e1 : sw = 1
  · subst e1
    go_wp2_with fail
    refine (dpick [0, 1, 10] 3 B7.draw (by omega) (by omega) (by omega) rfl 2).mono ?_
    rintro r w8 ⟨x, hx, rfl, D8, O8⟩
    have B8 := (B7.alloc (.cells #[.int .i64 0, .int .i64 1, .int .i64 10] 2)).only O8 D8
    have c3 := B8.one.cell 1 _ rfl
    have f3 := B8.one.free 1 _ rfl
    have B9 := B8.put (s' := s) (k' := x) (t' := tg) 1 (.int .i64 x) rfl
    clear hx B7 B8 D8 O8
    go_wp2_with fail
    generalize w8.setCell ⟨gb, 1, none⟩ (.int .i64 x) = V9 at *
    have hrl := hlt
    have hgl := B9.glt
    have hnn := B9.ne
    have B10 := B9.drew
    have S0 : Hold w0 gb (L4 s x a6 m c6 tg) V9.drew := ⟨B10.draw.bel, B10.one⟩
    have HB9 := Lib.hid B10
    have AR := B10.res
    clear B9 B10
    go_wp2_with fail
    refine wp_region_line (Hold w0 gb (L4 s x a6 m c6 tg)) [(0, true), (1, true), (2, true), (3, false)] (by kernel_rfl) (by kernel_rfl) (fun _ _ d _ _ h => by cases d <;> exact h) S0 ?_
    have hst := S0
    clear S0
    generalize V9.drew = V at *
    have inst : Nonempty (Of (Hold w0 gb (L4 s x a6 m c6 tg))) := ⟨⟨_, hst⟩⟩
    have v0 := hold_cell (W := w0) (g := gb) (cs := L4 s x a6 m c6 tg) 0 _ rfl
    have v1 := hold_cell (W := w0) (g := gb) (cs := L4 s x a6 m c6 tg) 1 _ rfl
    have v2 := hold_cell (W := w0) (g := gb) (cs := L4 s x a6 m c6 tg) 2 _ rfl
    have v3 := hold_cell (W := w0) (g := gb) (cs := L4 s x a6 m c6 tg) 3 _ rfl
    iterate 3 (refine line_read rfl (by kernel_rfl) (fun K hK => ?_); go_big_quiet_op; refine hK _ ?_; clear hK K)
    have q0 := AR.cell 0 _ rfl
    have q1 := AR.cell 1 _ rfl
    have q2 := AR.cell 2 _ rfl
    have q3 := AR.cell 3 _ rfl
    have z0 := AR.free 0 _ rfl
    have z1 := AR.free 1 _ rfl
    have z2 := AR.free 2 _ rfl
    have z3 := AR.free 3 _ rfl
    clear v0 v1 v2 v3 inst
    refine line_alone rfl (by kernel_rfl) (fun K hK => ?_)
    go_big_op
    refine hK _ _ ((by (iterate 4 (refine Hold.setB ?_ (by dsimp only; omega) (by dsimp only; omega) _)); exact hst)) ?_
    clear hK K
    refine line_nil ?_
    clear hst AR
    go_wp2_with fail
    refine bodyPost_ret (v := .tuple #[.int .i64 key, R4 s x a6 m c6 tg]) (by simp [results, Tryd.results117, go_sem, q0, q1, q2, q3]) rfl ?_
    refine ⟨_, _, _, _, _, _, _, _, _, rfl, ?_, (((HB9.out.draw.setCell hrl).setCell hrl).setCell hrl).setCell hrl, ?_, HB9.out.wf⟩
    · omega
    · iterate 4 (refine Own.setCell ?_ (fun q hq => HB9.out.offR q hq) _)
      exact HB9.out.own
  by_cases e2 : sw = 2
  · subst e2
    go_wp2_with fail
    refine (dpick [0, 60, 61] 3 B7.draw (by omega) (by omega) (by omega) rfl 2).mono ?_
    rintro r w8 ⟨x, hx, rfl, D8, O8⟩
    have B8 := (B7.alloc (.cells #[.int .i64 0, .int .i64 60, .int .i64 61] 2)).only O8 D8
    have hx' : 0 ≤ x ∧ x ≤ 100 := by simp at hx; omega
    obtain ⟨x0, x1⟩ := hx'
    obtain ⟨x, rfl⟩ := Int.eq_ofNat_of_zero_le x0
    have hmk := HMK.out x (by omega)
    have hgl8 : gb < w8.heap.size := B8.one.lt (by simp)
    have hrl8 : w.heap.size < w8.heap.size := B8.res.lt (by simp)
    have hne8 := B8.ne
    have c3 := B8.one.cell 2 _ rfl
    have f3 := B8.one.free 2 _ rfl
    have eS : (w8.setCell ⟨gb, 2, none⟩ (.slice (some ⟨w8.heap.size, 0, none⟩) x x)).heap.size = w8.heap.size := by simp [World.setCell]
    have OA := OwnK.made .u8 (B := w0.heap.size + 1) (w8.setCell ⟨gb, 2, none⟩ (.slice (some ⟨w8.heap.size, 0, none⟩) x x)) x 5 (by rw [eS]; have := B8.glt; omega) (by simp only [maxLen]; omega)
    rw [eS] at OA
    have B9 : BentR w0 a len cap zs (0 + 1 + 1 + 1 + 1 + m + 1 + 1) w.heap.size gb s (1 + kd) (some ⟨w8.heap.size, 0, none⟩) x x tg (List.replicate x 0) ((w8.setCell ⟨gb, 2, none⟩ (.slice (some ⟨w8.heap.size, 0, none⟩) x x)).alloc (.cells (madeCells #[.int .u8 0] x) 5)) :=
      ⟨(B8.draw.setCell B8.glt).alloc _, (B8.res.setB B8.ne _).alloc _, (B8.one.set 2 _).alloc _, OA, zeros_wf .u8 x, B8.rlt, B8.glt, B8.ne, (fun q hq => by simp [Value.ownBlock] at hq; omega), (fun q hq => by simp [Value.ownBlock] at hq; omega)⟩
    clear hx B7 B8 D8 O8 OA eS
    go_wp2_with fail
    generalize (w8.setCell ⟨gb, 2, none⟩ (.slice (some ⟨w8.heap.size, 0, none⟩) x x)).alloc (.cells (madeCells #[.int .u8 0] x) 5) = V9 at *
    have hrl := hlt
    have hgl := B9.glt
    have hnn := B9.ne
    have B10 := B9.drew
    have S0 : Hold w0 gb (L4 s (1 + kd) (some ⟨w8.heap.size, 0, none⟩) x x tg) V9.drew := ⟨B10.draw.bel, B10.one⟩
    have HB9 := Lib.hid B10
    have AR := B10.res
    clear B9 B10
    go_wp2_with fail
    refine wp_region_line (Hold w0 gb (L4 s (1 + kd) (some ⟨w8.heap.size, 0, none⟩) x x tg)) [(0, true), (1, true), (2, true), (3, false)] (by kernel_rfl) (by kernel_rfl) (fun _ _ d _ _ h => by cases d <;> exact h) S0 ?_
    have hst := S0
    clear S0
    generalize V9.drew = V at *
    have inst : Nonempty (Of (Hold w0 gb (L4 s (1 + kd) (some ⟨w8.heap.size, 0, none⟩) x x tg))) := ⟨⟨_, hst⟩⟩
    have v0 := hold_cell (W := w0) (g := gb) (cs := L4 s (1 + kd) (some ⟨w8.heap.size, 0, none⟩) x x tg) 0 _ rfl
    have v1 := hold_cell (W := w0) (g := gb) (cs := L4 s (1 + kd) (some ⟨w8.heap.size, 0, none⟩) x x tg) 1 _ rfl
    have v2 := hold_cell (W := w0) (g := gb) (cs := L4 s (1 + kd) (some ⟨w8.heap.size, 0, none⟩) x x tg) 2 _ rfl
    have v3 := hold_cell (W := w0) (g := gb) (cs := L4 s (1 + kd) (some ⟨w8.heap.size, 0, none⟩) x x tg) 3 _ rfl
    iterate 3 (refine line_read rfl (by kernel_rfl) (fun K hK => ?_); go_big_quiet_op; refine hK _ ?_; clear hK K)
    have q0 := AR.cell 0 _ rfl
    have q1 := AR.cell 1 _ rfl
    have q2 := AR.cell 2 _ rfl
    have q3 := AR.cell 3 _ rfl
    have z0 := AR.free 0 _ rfl
    have z1 := AR.free 1 _ rfl
    have z2 := AR.free 2 _ rfl
    have z3 := AR.free 3 _ rfl
    clear v0 v1 v2 v3 inst
    refine line_alone rfl (by kernel_rfl) (fun K hK => ?_)
    go_big_op
    refine hK _ _ ((by (iterate 4 (refine Hold.setB ?_ (by dsimp only; omega) (by dsimp only; omega) _)); exact hst)) ?_
    clear hK K
    refine line_nil ?_
    clear hst AR
    go_wp2_with fail
    refine bodyPost_ret (v := .tuple #[.int .i64 key, R4 s (1 + kd) (some ⟨w8.heap.size, 0, none⟩) x x tg]) (by simp [results, Tryd.results117, go_sem, q0, q1, q2, q3]) rfl ?_
    refine ⟨_, _, _, _, _, _, _, _, _, rfl, ?_, (((HB9.out.draw.setCell hrl).setCell hrl).setCell hrl).setCell hrl, ?_, HB9.out.wf⟩
    · omega
    · iterate 4 (refine Own.setCell ?_ (fun q hq => HB9.out.offR q hq) _)
      exact HB9.out.own
  by_cases e3 : sw = 3
  · subst e3
    go_wp2_with fail
    refine (dpick [1, 65521] 2 B7.draw (by omega) (by omega) (by omega) rfl 2).mono ?_
    rintro r w8 ⟨x, hx, rfl, D8, O8⟩
    have B8 := (B7.alloc (.cells #[.int .i64 1, .int .i64 65521] 2)).only O8 D8
    have c3 := B8.one.cell 0 _ rfl
    have f3 := B8.one.free 0 _ rfl
    have B9 := B8.put (s' := x) (k' := 1 + kd) (t' := tg) 0 (.int .i64 x) rfl
    clear hx B7 B8 D8 O8
    go_wp2_with fail
    generalize w8.setCell ⟨gb, 0, none⟩ (.int .i64 x) = V9 at *
    have hrl := hlt
    have hgl := B9.glt
    have hnn := B9.ne
    have B10 := B9.drew
    have S0 : Hold w0 gb (L4 x (1 + kd) a6 m c6 tg) V9.drew := ⟨B10.draw.bel, B10.one⟩
    have HB9 := Lib.hid B10
    have AR := B10.res
    clear B9 B10
    go_wp2_with fail
    refine wp_region_line (Hold w0 gb (L4 x (1 + kd) a6 m c6 tg)) [(0, true), (1, true), (2, true), (3, false)] (by kernel_rfl) (by kernel_rfl) (fun _ _ d _ _ h => by cases d <;> exact h) S0 ?_
    have hst := S0
    clear S0
    generalize V9.drew = V at *
    have inst : Nonempty (Of (Hold w0 gb (L4 x (1 + kd) a6 m c6 tg))) := ⟨⟨_, hst⟩⟩
    have v0 := hold_cell (W := w0) (g := gb) (cs := L4 x (1 + kd) a6 m c6 tg) 0 _ rfl
    have v1 := hold_cell (W := w0) (g := gb) (cs := L4 x (1 + kd) a6 m c6 tg) 1 _ rfl
    have v2 := hold_cell (W := w0) (g := gb) (cs := L4 x (1 + kd) a6 m c6 tg) 2 _ rfl
    have v3 := hold_cell (W := w0) (g := gb) (cs := L4 x (1 + kd) a6 m c6 tg) 3 _ rfl
    iterate 3 (refine line_read rfl (by kernel_rfl) (fun K hK => ?_); go_big_quiet_op; refine hK _ ?_; clear hK K)
    have q0 := AR.cell 0 _ rfl
    have q1 := AR.cell 1 _ rfl
    have q2 := AR.cell 2 _ rfl
    have q3 := AR.cell 3 _ rfl
    have z0 := AR.free 0 _ rfl
    have z1 := AR.free 1 _ rfl
    have z2 := AR.free 2 _ rfl
    have z3 := AR.free 3 _ rfl
    clear v0 v1 v2 v3 inst
    refine line_alone rfl (by kernel_rfl) (fun K hK => ?_)
    go_big_op
    refine hK _ _ ((by (iterate 4 (refine Hold.setB ?_ (by dsimp only; omega) (by dsimp only; omega) _)); exact hst)) ?_
    clear hK K
    refine line_nil ?_
    clear hst AR
    go_wp2_with fail
    refine bodyPost_ret (v := .tuple #[.int .i64 key, R4 x (1 + kd) a6 m c6 tg]) (by simp [results, Tryd.results117, go_sem, q0, q1, q2, q3]) rfl ?_
    refine ⟨_, _, _, _, _, _, _, _, _, rfl, ?_, (((HB9.out.draw.setCell hrl).setCell hrl).setCell hrl).setCell hrl, ?_, HB9.out.wf⟩
    · omega
    · iterate 4 (refine Own.setCell ?_ (fun q hq => HB9.out.offR q hq) _)
      exact HB9.out.own
  · have n0 : (sw == 0) = false := by rw [beq_eq_false_iff_ne]; exact e0
    have n1 : (sw == 1) = false := by rw [beq_eq_false_iff_ne]; exact e1
    have n2 : (sw == 2) = false := by rw [beq_eq_false_iff_ne]; exact e2
    have n3 : (sw == 3) = false := by rw [beq_eq_false_iff_ne]; exact e3
    have B9 := B7
    clear B7 e0 e1 e2 e3
    go_wp2_with fail
    generalize w7 = V9 at *
    have hrl := hlt
    have hgl := B9.glt
    have hnn := B9.ne
    have B10 := B9.drew
    have S0 : Hold w0 gb (L4 s (1 + kd) a6 m c6 tg) V9.drew := ⟨B10.draw.bel, B10.one⟩
    have HB9 := Lib.hid B10
    have AR := B10.res
    clear B9 B10
    go_wp2_with fail
    refine wp_region_line (Hold w0 gb (L4 s (1 + kd) a6 m c6 tg)) [(0, true), (1, true), (2, true), (3, false)] (by kernel_rfl) (by kernel_rfl) (fun _ _ d _ _ h => by cases d <;> exact h) S0 ?_
    have hst := S0
    clear S0
    generalize V9.drew = V at *
    have inst : Nonempty (Of (Hold w0 gb (L4 s (1 + kd) a6 m c6 tg))) := ⟨⟨_, hst⟩⟩
    have v0 := hold_cell (W := w0) (g := gb) (cs := L4 s (1 + kd) a6 m c6 tg) 0 _ rfl
    have v1 := hold_cell (W := w0) (g := gb) (cs := L4 s (1 + kd) a6 m c6 tg) 1 _ rfl
    have v2 := hold_cell (W := w0) (g := gb) (cs := L4 s (1 + kd) a6 m c6 tg) 2 _ rfl
    have v3 := hold_cell (W := w0) (g := gb) (cs := L4 s (1 + kd) a6 m c6 tg) 3 _ rfl
    iterate 3 (refine line_read rfl (by kernel_rfl) (fun K hK => ?_); go_big_quiet_op; refine hK _ ?_; clear hK K)
    have q0 := AR.cell 0 _ rfl
    have q1 := AR.cell 1 _ rfl
    have q2 := AR.cell 2 _ rfl
    have q3 := AR.cell 3 _ rfl
    have z0 := AR.free 0 _ rfl
    have z1 := AR.free 1 _ rfl
    have z2 := AR.free 2 _ rfl
    have z3 := AR.free 3 _ rfl
    clear v0 v1 v2 v3 inst
    refine line_alone rfl (by kernel_rfl) (fun K hK => ?_)
    go_big_op
    refine hK _ _ ((by (iterate 4 (refine Hold.setB ?_ (by dsimp only; omega) (by dsimp only; omega) _)); exact hst)) ?_
    clear hK K
    refine line_nil ?_
    clear hst AR
    go_wp2_with fail
    refine bodyPost_ret (v := .tuple #[.int .i64 key, R4 s (1 + kd) a6 m c6 tg]) (by simp [results, Tryd.results117, go_sem, q0, q1, q2, q3]) rfl ?_
    refine ⟨_, _, _, _, _, _, _, _, _, rfl, ?_, (((HB9.out.draw.setCell hrl).setCell hrl).setCell hrl).setCell hrl, ?_, HB9.out.wf⟩
    · omega
    · iterate 4 (refine Own.setCell ?_ (fun q hq => HB9.out.offR q hq) _)
      exact HB9.out.own
end Go.Proofs.YtjlhldndomaknaaDoor
