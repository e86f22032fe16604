/- Contracts of the draws of records and of their bytes. Conditions: as each theorem states. -/
import Derived.Test.YtjlhldndomaknaaDoorD4
namespace Go.Proofs.YtjlhldndomaknaaDoor
open Go.RowKit
set_option maxRecDepth 100000
set_option linter.unusedVariables false

def DrawnRec (w : World) (r : Ending) (w' : World) : Prop := ∃ (s k : Int) (a : Option Addr) (n c : Nat) (t : Int) (zs : List Int), r = .returned (R4 s k a n c t) ∧ OwnK .u8 w' w.heap.size (.slice a n c) zs ∧ (∀ z ∈ zs, (Lit.int .u8 z).wf = true) ∧ Below w.heap.size w w'
def DrawnOpen (w : World) (r : Ending) (w' : World) : Prop := ∃ (x y s k : Int) (a : Option Addr) (n c : Nat) (t : Int) (zs : List Int), r = .returned (.tuple #[.int .i64 x, .int .i64 y, R4 s k a n c t]) ∧ Row .u8 w' w'.heap.size a n c zs ∧ Below w.heap.size w w'
def DrawnBytes (w : World) (r : Ending) (w' : World) : Prop := ∃ a n c zs, r = .returned (.slice a n c) ∧ n ≤ 100 ∧ Row .u8 w' w'.heap.size a n c zs ∧ Below w.heap.size w w'

theorem DrawRecordFault_any {a : Option Addr} {len cap : Nat} {zs : List Int} {w : World} (hR : Row .u8 w w.heap.size a len cap zs) :
    Calls Tryd.prog 122 #[.slice a len cap] w (DrawnRec w) := by
  have A0 := At.new w (L4 0 0 none 0 0 0) 66
  have b0 := bal (Below.refl _ w) (.cells #[.int .i64 0, .int .i64 0, .slice none 0 0, .int .i64 0] 66)
  have R0 := hR.on b0
  clear hR
  go_enter Tryd.func122, Tryd.ntmps122
  go_wp2_with fail
  generalize w.alloc (.cells #[.int .i64 0, .int .i64 0, .slice none 0 0, .int .i64 0] 66) = W0 at *
  refine (dsource R0).mono ?_
  rintro r w1 ⟨rfl, D⟩
  go_wp2_with fail
  refine (l4Bent_any D).mono ?_
  rintro r w2 ⟨x, s, k, a1, n1, c1, t, xs, p, rfl, hp, D2, O2, wf2⟩
  have A2 := A0.on D2.bel
  have lt0 : w.heap.size < W0.heap.size := A0.lt (by simp)
  have off := O2.offLo (g := w.heap.size) (by omega)
  have q0 := (A2.alloc (.cells #[.int .i64 s, .int .i64 k, .slice a1 n1 c1, .int .i64 t] 66)).cell 0 _ rfl
  have q1 := (A2.alloc (.cells #[.int .i64 s, .int .i64 k, .slice a1 n1 c1, .int .i64 t] 66)).cell 1 _ rfl
  have q2 := (A2.alloc (.cells #[.int .i64 s, .int .i64 k, .slice a1 n1 c1, .int .i64 t] 66)).cell 2 _ rfl
  have q3 := (A2.alloc (.cells #[.int .i64 s, .int .i64 k, .slice a1 n1 c1, .int .i64 t] 66)).cell 3 _ rfl
  have z0 := (A2.alloc (.cells #[.int .i64 s, .int .i64 k, .slice a1 n1 c1, .int .i64 t] 66)).free 0 _ rfl
  have z1 := (A2.alloc (.cells #[.int .i64 s, .int .i64 k, .slice a1 n1 c1, .int .i64 t] 66)).free 1 _ rfl
  have z2 := (A2.alloc (.cells #[.int .i64 s, .int .i64 k, .slice a1 n1 c1, .int .i64 t] 66)).free 2 _ rfl
  have z3 := (A2.alloc (.cells #[.int .i64 s, .int .i64 k, .slice a1 n1 c1, .int .i64 t] 66)).free 3 _ rfl
  have O3 := O2.alloc (.cells #[.int .i64 s, .int .i64 k, .slice a1 n1 c1, .int .i64 t] 66)
  have b3 := bal (btr b0 D2.bel) (.cells #[.int .i64 s, .int .i64 k, .slice a1 n1 c1, .int .i64 t] 66)
  have HT := Lib.hid (And.intro O3 (And.intro b3 off))
  have HW := Lib.hid wf2
  clear A0 A2 b0 b3 D D2 O2 O3 R0 off wf2
  go_wp2_with fail
  refine bodyPost_ret (v := R4 s k a1 n1 c1 t) (by simp [results, Tryd.results122, go_sem, q0, q1, q2, q3]) rfl ?_
  refine ⟨_, _, _, _, _, _, xs, rfl, ?_, HW.out, (by (iterate 4 (refine bset ?_ (by dsimp only; omega) _)); exact HT.out.2.1)⟩
  iterate 4 (refine Own.setCell ?_ (fun q hq => HT.out.2.2 q hq) _)
  exact HT.out.1.less (by omega)

theorem DrawPackRecord_any {a : Option Addr} {len cap : Nat} {zs : List Int} {w : World} (hR : Row .u8 w w.heap.size a len cap zs) :
    Calls Tryd.prog 52 #[.slice a len cap] w (DrawnRec w) := by
  have A0 := At.new w (L4 0 0 none 0 0 0) 66
  have b0 := bal (Below.refl _ w) (.cells #[.int .i64 0, .int .i64 0, .slice none 0 0, .int .i64 0] 66)
  have R0 := hR.on b0
  clear hR
  go_enter Tryd.func52, Tryd.ntmps52
  go_wp2_with fail
  generalize w.alloc (.cells #[.int .i64 0, .int .i64 0, .slice none 0 0, .int .i64 0] 66) = W0 at *
  refine (DrawRecordFault_any R0).mono ?_
  rintro r w2 ⟨s, k, a1, n1, c1, t, xs, rfl, O2, wf2, b2⟩
  have A2 := A0.on b2
  have lt0 : w.heap.size < W0.heap.size := A0.lt (by simp)
  have q0 := A2.cell 0 _ rfl
  have q1 := A2.cell 1 _ rfl
  have q2 := A2.cell 2 _ rfl
  have q3 := A2.cell 3 _ rfl
  have z0 := A2.free 0 _ rfl
  have z1 := A2.free 1 _ rfl
  have z2 := A2.free 2 _ rfl
  have z3 := A2.free 3 _ rfl
  have HT := Lib.hid (And.intro O2 (btr b0 b2))
  have HW := Lib.hid wf2
  clear A0 A2 b0 b2 O2 R0 wf2
  go_wp2_with fail
  refine bodyPost_ret (v := R4 s k a1 n1 c1 t) (by simp [results, Tryd.results52, go_sem, q0, q1, q2, q3]) rfl ?_
  exact ⟨_, _, _, _, _, _, xs, rfl, (by (iterate 4 (refine Own.setCell ?_ (fun g hg => by have := (HT.out.1.lt g hg).1; dsimp only; omega) _)); exact HT.out.1.less (by omega)), HW.out, (by (iterate 4 (refine bset ?_ (by dsimp only; omega) _)); exact HT.out.2)⟩

/-- The first k of a slice. -/
theorem Row.front {k : IntKind} {w : World} {B : Nat} {a : Option Addr} {len cap : Nat} {zs : List Int} (h : Row k w B a len cap zs) (n : Nat) (hn : n ≤ len) : Row k w B a n cap (zs.take n) :=
  ⟨by simp [h.length]; omega, fun z hz => h.wf z (List.mem_of_mem_take hz), Nat.le_trans hn h.fits, h.most, fun hp => by
    obtain ⟨b, off, e, hb, hc⟩ := h.cells (by omega)
    refine ⟨b, off, e, hb, fun j hj => ?_⟩
    rw [hc j (by omega)]
    simp [List.getD, hj]⟩

set_option maxHeartbeats 2000000 in
theorem DrawReadRecord_any {a : Option Addr} {len cap : Nat} {zs : List Int} {w : World} (hR : Row .u8 w w.heap.size a len cap zs) :
    Calls Tryd.prog 50 #[.slice a len cap] w (DrawnBytes w) := by
  go_enter Tryd.func50, Tryd.ntmps50
  go_wp2_with fail
  refine (dsource hR).mono ?_
  rintro r w1 ⟨rfl, D1⟩
  go_wp2_with fail
  refine (dnext 65521 D1 (by omega)).mono ?_
  rintro r w2 ⟨key, k0, k1, rfl, D2, O2⟩
  have hkey : M.sumB key = true := by simp only [M.sumB, decide_eq_true_eq]; omega
  clear D1 O2 k1
  go_wp2_with fail
  refine (dnext 5 D2 (by omega)).mono ?_
  rintro r w3 ⟨m, m0, m1, rfl, D3, O3⟩
  obtain ⟨m, rfl⟩ := Int.eq_ofNat_of_zero_le m0
  have m2 : m < 5 := by omega
  clear D2 O3 m1
  go_wp2_with fail
  refine (dsome m D3 (by omega) (by omega)).mono ?_
  rintro r w4 ⟨a4, c4, z4, rfl, O4, wf4, D4, G4⟩
  have R4 := Own.row O4 wf4
  have hs1 : M.sumB 1 = true := by decide
  have hs2 : M.sumB 2 = true := by decide
  have hk2 : M.kindB 2 = true := by decide
  have T1 := fun w hR hB => l4Seal_any key 1 2 a4 m c4 w4.heap.size z4 w hR hB hkey hs1 hs2 (by omega)
  have hby := M.turnL_byte (key := key) (seq := 1) R4.bytes
  have hlen : (M.turnL key 1 z4).length = m := (M.turnL_length _ _ _).trans R4.length
  have hf : M.recF 1 2 (M.recT key 1 2 (M.turnL key 1 z4)) m = 0 := M.recF_ok hs1 hk2 (M.recT_sum _ _ _ _) (by omega)
  generalize M.recT key 1 2 (M.turnL key 1 z4) = tg at *
  generalize M.turnL key 1 z4 = ys at *
  have HB := Lib.hid hby
  have HL := Lib.hid hlen
  clear D3 O4 G4 wf4 hby hlen
  go_wp2_with fail
  refine (T1 _ R4 (Nat.le_refl _)).mono ?_
  rintro r w5 ⟨a5, c5, rfl, O5, b5⟩
  have D5 := (D4.below b5).alloc (.cells #[.int .i64 1, .int .i64 2, .slice a5 m c5, .int .i64 tg] 66)
  have A5 := At.new w5 (L4 1 2 a5 m c5 tg) 66
  have R5 := (Own.row O5 (fun z hz => byte_wf (HB.out z hz))).on (bal (Below.refl _ w5) (.cells #[.int .i64 1, .int .i64 2, .slice a5 m c5, .int .i64 tg] 66))
  have P1 := fun g w hA hR hB => l4Pack_any g 1 2 a5 m c5 tg w.heap.size ys w hA hR hB hf
  have hpl : (M.packR 1 2 ys tg).length = m + 6 := by rw [M.packR_length, HL.out]
  have hpw := fun z hz => byte_wf (M.packR_byte (s := 1) (k := 2) (zs := ys) (t := tg) HB.out (by rw [HL.out]; exact hf) z hz)
  generalize M.packR 1 2 ys tg = ps at *
  have HPL := Lib.hid hpl
  have HPW := Lib.hid hpw
  clear T1 D4 O5 b5 R4 hf hpl hpw
  go_wp2_with fail
  generalize w5.alloc (.cells #[.int .i64 1, .int .i64 2, .slice a5 m c5, .int .i64 tg] 66) = v5 at *
  refine (P1 _ _ A5 R5 (Nat.le_refl _)).mono ?_
  rintro r w6 ⟨a6, n6, c6, rfl, O6, b6⟩
  have l6 : n6 = m + 6 := O6.len.trans HPL.out
  subst l6
  have D6 := D5.below b6
  have lt5 := D5.src.lt
  obtain ⟨g, rfl⟩ : ∃ g, a6 = some ⟨g, 0, none⟩ := by
    rcases O6.2 with ⟨e, hz⟩ | ⟨g, cp, e, _⟩
    · rw [HPL.out] at hz; omega
    · injection e with e1; exact ⟨g, e1⟩
  have hgw : w.heap.size < g := by have := (O6.lt g rfl).1; omega
  have hc6 : m + 6 ≤ c6 ∧ c6 ≤ maxLen := by
    rcases O6.2 with ⟨e, hz⟩ | ⟨g', cp, e, _, _, h1, h2, _⟩
    · cases e
    · injection e with e1 e2 e3; exact ⟨by rw [← e3] at h1; omega, by rw [e3]; exact h2⟩
  obtain ⟨hc1, hc2⟩ := hc6
  unfold maxLen at hc2
  have Q6 : OwnK .u8 w6 (w.heap.size + 1) (.slice (some ⟨g, 0, none⟩) (m + 6) c6) ps := O6.less (by omega)
  clear P1 A5 R5 D5 O6 b6
  go_wp2_with fail
  refine (dnext 5 D6 (by omega)).mono ?_
  rintro r w7 ⟨sw, t0, t1, rfl, D7, O7⟩
  have Q7 : OwnK .u8 w7 (w.heap.size + 1) (.slice (some ⟨g, 0, none⟩) (m + 6) c6) ps := Own.only Q6 O7 (by omega)
  clear D6 Q6 O7 t1
  by_cases e0 : sw = 0
  · subst e0
    go_wp2_with fail
    refine (dnext _ D7 (by omega)).mono ?_
    rintro r w8 ⟨i, i0, i1, rfl, D8, O8⟩
    have i2 : i < m + 6 := by omega
    obtain ⟨i, rfl⟩ := Int.eq_ofNat_of_zero_le i0
    have i3 : i < m + 6 := by omega
    have Q8 : OwnK .u8 w8 (w.heap.size + 1) (.slice (some ⟨g, 0, none⟩) (m + 6) c6) ps := Own.only Q7 O8 (by omega)
    clear D7 Q7 O8 i0 i1
    go_wp2_with fail
    refine (dpick [0, 255, 10] 3 D8 (by omega) (by omega) (by omega) rfl 2).mono ?_
    rintro r w9 ⟨x, hx, rfl, D9, O9⟩
    have hx' : 0 ≤ x ∧ x ≤ 255 := by simp at hx; omega
    obtain ⟨x0, x1⟩ := hx'
    have Q9 : OwnK .u8 w9 (w.heap.size + 1) (.slice (some ⟨g, 0, none⟩) (m + 6) c6) ps := Own.only (Own.alloc Q8 (.cells #[.int .i64 0, .int .i64 255, .int .i64 10] 2)) O9 (by omega)
    rcases Q9.2 with ⟨e, h0⟩ | ⟨g', c', e, hB8, hg8, hn8, hm8, hcell, hroom⟩
    · cases e
    injection e with e1 e2 e3
    injection e1 with e1
    injection e1 with e1 _ _
    subst e1
    subst e3
    obtain ⟨u, hu⟩ := Option.isSome_iff_exists.1 (hroom i (by omega)).1
    have hf := (hroom i (by omega)).2
    have Q10 := Q9.put (i := i) (m := x) (by rw [HPL.out]; exact i3)
    have b10 := bset D9.bel (p := ⟨g, i, none⟩) (by show w.heap.size ≤ g; omega) (.int .u8 x)
    have hw10 : ∀ z ∈ ps.set i x, (Lit.int .u8 z).wf = true := fun z hz => by
      rcases List.mem_or_eq_of_mem_set hz with h | h
      · exact HPW.out z h
      · subst h; exact u8_wf x0 (by omega)
    have F := Lib.hid (And.intro (Own.row Q10 hw10) b10)
    clear hx D8 D9 Q8 Q9 O9 hcell hroom e2 Q10 b10 hw10
    go_wp2_with fail
    go_ret
    exact ⟨_, _, _, _, rfl, by omega, F.out.1, F.out.2⟩
  by_cases e1 : sw = 1
  · subst e1
    go_wp2_with fail
    refine (dnext _ D7 (by omega)).mono ?_
    rintro r w8 ⟨i, i0, i1, rfl, D8, O8⟩
    obtain ⟨i, rfl⟩ := Int.eq_ofNat_of_zero_le i0
    have i3 : i < m + 6 := by omega
    have Q8 : OwnK .u8 w8 (w.heap.size + 1) (.slice (some ⟨g, 0, none⟩) (m + 6) c6) ps := Own.only Q7 O8 (by omega)
    have F := Lib.hid (And.intro ((Own.row Q8 HPW.out).front i (by omega)) D8.bel)
    clear D7 Q7 O8 D8 Q8 i1
    go_wp2_with fail
    go_ret
    exact ⟨_, _, _, _, rfl, by omega, F.out.1, F.out.2⟩
  · have n0 : (sw == 0) = false := by rw [beq_eq_false_iff_ne]; exact e0
    have n1 : (sw == 1) = false := by rw [beq_eq_false_iff_ne]; exact e1
    have F := Lib.hid (And.intro (Own.row Q7 HPW.out) D7.bel)
    clear D7 Q7 e0 e1
    go_wp2_with fail
    go_ret
    exact ⟨_, _, _, _, rfl, by omega, F.out.1, F.out.2⟩

theorem At.ints {g : Nat} {vs : List Int} {w : World} (h : At g (vs.map (Value.int .i64)) w) (j : Nat) (hj : j < vs.length) : w.cell? ⟨g, j, none⟩ = some (.int .i64 (vs.getD j 0)) :=
  h.cell j _ (by simp [List.getD, hj])
set_option maxHeartbeats 4000000 in
theorem DrawOpenRecord_any {a : Option Addr} {len cap : Nat} {zs : List Int} {w : World} (hR : Row .u8 w w.heap.size a len cap zs) :
    Calls Tryd.prog 48 #[.slice a len cap] w (DrawnOpen w) := by
  have A0 := At.new w (L4 0 0 none 0 0 0) 66
  have b0 := bal (Below.refl _ w) (.cells #[.int .i64 0, .int .i64 0, .slice none 0 0, .int .i64 0] 66)
  have R0 := hR.on b0
  clear hR
  go_enter Tryd.func48, Tryd.ntmps48
  go_wp2_with fail
  generalize w.alloc (.cells #[.int .i64 0, .int .i64 0, .slice none 0 0, .int .i64 0] 66) = W0 at *
  refine (dsource R0).mono ?_
  rintro r w1 ⟨rfl, D⟩
  go_wp2_with fail
  refine (l4Bent_any D).mono ?_
  rintro r w2 ⟨x, s, k, a1, n1, c1, t, xs, p, rfl, hp, D2, O2, wf2⟩
  have lt0 : w.heap.size < W0.heap.size := A0.lt (by simp)
  have lt2 := D2.src.lt
  have B0 : BentR W0 a len cap zs p w.heap.size w2.heap.size s k a1 n1 c1 t xs (w2.alloc (.cells #[.int .i64 s, .int .i64 k, .slice a1 n1 c1, .int .i64 t] 66)) :=
    ⟨D2.alloc _, (A0.on D2.bel).alloc _, At.new w2 (L4 s k a1 n1 c1 t) 66, Own.alloc O2 _, wf2, by omega, lt2, by omega, O2.offLo (by omega), O2.offHi (Nat.le_refl _)⟩
  clear A0 R0 D D2 O2 wf2
  go_wp2_with fail
  generalize w2.alloc (.cells #[.int .i64 s, .int .i64 k, .slice a1 n1 c1, .int .i64 t] 66) = v2 at *
  have B := B0.drew
  clear B0
  have S0 : Hold w w2.heap.size (L4 s k a1 n1 c1 t) v2.drew := ⟨btr b0 B.draw.bel, B.one⟩
  refine wp_region_fork (Hold w w2.heap.size (L4 s k a1 n1 c1 t)) (by kernel_rfl) S0 ?_
  generalize v2.drew = V at *
  have inst : Nonempty (Of (Hold w w2.heap.size (L4 s k a1 n1 c1 t))) := ⟨⟨_, S0⟩⟩
  clear S0
  have v0 := hold_cell (W := w) (g := w2.heap.size) (cs := L4 s k a1 n1 c1 t) 0 _ rfl
  have v1 := hold_cell (W := w) (g := w2.heap.size) (cs := L4 s k a1 n1 c1 t) 1 _ rfl
  have v2 := hold_cell (W := w) (g := w2.heap.size) (cs := L4 s k a1 n1 c1 t) 2 _ rfl
  have v3 := hold_cell (W := w) (g := w2.heap.size) (cs := L4 s k a1 n1 c1 t) 3 _ rfl
  refine any_seg 7 [(0, true), (1, true), (2, true), (3, true), (6, true), (7, true), (8, true), (9, true), (10, true), (11, true), (12, true), (15, true)] (by kernel_rfl) (fun _ _ d _ _ h => by cases d <;> exact h) ?_
  iterate 12 (refine line_read rfl (by kernel_rfl) (fun K hK => ?_); go_big_quiet_op; refine hK _ ?_; clear hK K)
  clear v0 v1 v2 v3
  refine line_nil ?_
  refine any_fork 4 13 (by kernel_rfl) rfl rfl (by kernel_rfl) (by kernel_rfl) (fun K hK => ?_) (fun K hK => ?_)
  · go_big_op
    have LA : At V.heap.size ([x, x, x, 5, 65521].map (Value.int .i64)) (V.alloc (.cells #[.int .i64 x, .int .i64 x, .int .i64 x, .int .i64 5, .int .i64 65521] 2)) := At.new V _ _
    have ltLA : W0.heap.size < V.heap.size := B.draw.src.lt
    have B2 := B.alloc (.cells #[.int .i64 x, .int .i64 x, .int .i64 x, .int .i64 5, .int .i64 65521] 2)
    clear B
    have B := B2
    clear B2
    refine hK _ _ ⟨btr b0 B.draw.bel, B.one⟩ ?_
    clear hK K
    generalize V.alloc (.cells #[.int .i64 x, .int .i64 x, .int .i64 x, .int .i64 5, .int .i64 65521] 2) = x4 at *
    refine any_fork 5 13 (by kernel_rfl) rfl rfl (by kernel_rfl) (by kernel_rfl) (fun K hK => ?_) (fun K hK => ?_)
    · refine call_any (args := #[.pointer (some ⟨W0.heap.size, 0, none⟩), .slice (some ⟨V.heap.size, 0, none⟩) 5 5]) rfl (by kernel_rfl) (by kernel_rfl) (l1Pick_any W0.heap.size V.heap.size 5 [x, x, x, 5, 65521] a len cap p W0.heap.size zs _ B.draw.src B.draw.row (Nat.le_refl _) (by omega) (by omega) rfl (by omega) (by omega) (fun j hj => LA.ints j hj)) ?_
      rintro e x5 ⟨y1, hv, rfl, hS, hO⟩
      have B2 := B.only hO (B.draw.only hS hO)
      clear B
      have B := B2
      clear B2
      refine ⟨_, rfl, hK _ _ ⟨btr b0 B.draw.bel, B.one⟩ ?_⟩
      clear hK K hv hS hO
      simp only [Act.put, List.setIfInBounds_toArray, List.set_cons_zero, List.set_cons_succ]
      refine any_rest [(13, false), (14, false), (16, true), (17, true), (18, false)] (by kernel_rfl) (fun _ _ d _ _ h => by cases d <;> exact h) ?_
      refine line_alone rfl (by kernel_rfl) (fun K hK => ?_)
      go_big_op
      have LB : At x5.heap.size ([s, s, s, 1, -1].map (Value.int .i64)) (x5.alloc (.cells #[.int .i64 s, .int .i64 s, .int .i64 s, .int .i64 1, .int .i64 (-1)] 2)) := At.new x5 _ _
      have ltLB : W0.heap.size < x5.heap.size := B.draw.src.lt
      have B2 := B.alloc (.cells #[.int .i64 s, .int .i64 s, .int .i64 s, .int .i64 1, .int .i64 (-1)] 2)
      clear B
      have B := B2
      clear B2
      refine hK _ _ ⟨btr b0 B.draw.bel, B.one⟩ ?_
      clear hK K
      generalize x5.alloc (.cells #[.int .i64 s, .int .i64 s, .int .i64 s, .int .i64 1, .int .i64 (-1)] 2) = x13 at *
      refine line_alone rfl (by kernel_rfl) (fun K hK => ?_)
      refine call_any (args := #[.pointer (some ⟨W0.heap.size, 0, none⟩), .slice (some ⟨x5.heap.size, 0, none⟩) 5 5]) rfl (by kernel_rfl) (by kernel_rfl) (l1Pick_any W0.heap.size x5.heap.size 5 [s, s, s, 1, -1] a len cap (p + 1) W0.heap.size zs _ B.draw.src B.draw.row (Nat.le_refl _) (by omega) (by omega) rfl (by omega) (by omega) (fun j hj => LB.ints j hj)) ?_
      rintro e x14 ⟨y2, hv, rfl, hS, hO⟩
      have B2 := B.only hO (B.draw.only hS hO)
      clear B
      have B := B2
      clear B2
      refine ⟨_, rfl, hK _ _ ⟨btr b0 B.draw.bel, B.one⟩ ?_⟩
      clear hK K hv hS hO
      simp only [Act.put, List.setIfInBounds_toArray, List.set_cons_zero, List.set_cons_succ]
      clear LA LB
      iterate 2 (refine line_read rfl (by kernel_rfl) (fun K hK => ?_); go_big_quiet_op; refine hK _ ?_; clear hK K)
      have hrb : w.heap.size ≠ w2.heap.size := by omega
      have q0 := B.res.cell 0 _ rfl
      have q1 := B.res.cell 1 _ rfl
      have q2 := B.res.cell 2 _ rfl
      have q3 := B.res.cell 3 _ rfl
      have z0 := B.res.free 0 _ rfl
      have z1 := B.res.free 1 _ rfl
      have z2 := B.res.free 2 _ rfl
      have z3 := B.res.free 3 _ rfl
      have hst : Hold w w2.heap.size (L4 s k a1 n1 c1 t) x14 := ⟨btr b0 B.draw.bel, B.one⟩
      have HB := Lib.hid B
      clear B inst
      refine line_alone rfl (by kernel_rfl) (fun K hK => ?_)
      go_big_op
      refine hK _ _ ((by (iterate 4 (refine Hold.setB ?_ (by dsimp only; omega) (by dsimp only; omega) _)); exact hst)) ?_
      clear hK K
      refine line_nil ?_
      clear hst
      go_wp2_with fail
      refine bodyPost_ret (v := .tuple #[.int .i64 y1, .int .i64 y2, R4 s k a1 n1 c1 t]) (by simp [results, Tryd.results48, go_sem, q0, q1, q2, q3]) rfl ?_
      refine ⟨_, _, _, _, _, _, _, _, xs, rfl, ?_, (by (iterate 4 (refine bset ?_ (by dsimp only; omega) _)); exact (btr b0 HB.out.draw.bel))⟩
      refine Own.row (B := W0.heap.size + 1) (n := xs.length) ?_ HB.out.wf
      iterate 4 (refine Own.setCell ?_ (fun q hq => HB.out.offR q hq) _)
      exact HB.out.own
    · go_big_op
      have LB : At x4.heap.size ([s, s, s, 1, -1].map (Value.int .i64)) (x4.alloc (.cells #[.int .i64 s, .int .i64 s, .int .i64 s, .int .i64 1, .int .i64 (-1)] 2)) := At.new x4 _ _
      have ltLB : W0.heap.size < x4.heap.size := B.draw.src.lt
      have B2 := B.alloc (.cells #[.int .i64 s, .int .i64 s, .int .i64 s, .int .i64 1, .int .i64 (-1)] 2)
      clear B
      have B := B2
      clear B2
      have LA2 := LA.alloc (.cells #[.int .i64 s, .int .i64 s, .int .i64 s, .int .i64 1, .int .i64 (-1)] 2)
      refine hK _ _ ⟨btr b0 B.draw.bel, B.one⟩ ?_
      clear hK K
      generalize x4.alloc (.cells #[.int .i64 s, .int .i64 s, .int .i64 s, .int .i64 1, .int .i64 (-1)] 2) = x13 at *
      refine any_rest [(5, false), (14, false), (16, true), (17, true), (18, false)] (by kernel_rfl) (fun _ _ d _ _ h => by cases d <;> exact h) ?_
      refine line_alone rfl (by kernel_rfl) (fun K hK => ?_)
      refine call_any (args := #[.pointer (some ⟨W0.heap.size, 0, none⟩), .slice (some ⟨V.heap.size, 0, none⟩) 5 5]) rfl (by kernel_rfl) (by kernel_rfl) (l1Pick_any W0.heap.size V.heap.size 5 [x, x, x, 5, 65521] a len cap p W0.heap.size zs _ B.draw.src B.draw.row (Nat.le_refl _) (by omega) (by omega) rfl (by omega) (by omega) (fun j hj => LA2.ints j hj)) ?_
      rintro e x5 ⟨y1, hv, rfl, hS, hO⟩
      have B2 := B.only hO (B.draw.only hS hO)
      clear B
      have B := B2
      clear B2
      have LB2 := LB.only hO (by omega)
      refine ⟨_, rfl, hK _ _ ⟨btr b0 B.draw.bel, B.one⟩ ?_⟩
      clear hK K hv hS hO
      simp only [Act.put, List.setIfInBounds_toArray, List.set_cons_zero, List.set_cons_succ]
      refine line_alone rfl (by kernel_rfl) (fun K hK => ?_)
      refine call_any (args := #[.pointer (some ⟨W0.heap.size, 0, none⟩), .slice (some ⟨x4.heap.size, 0, none⟩) 5 5]) rfl (by kernel_rfl) (by kernel_rfl) (l1Pick_any W0.heap.size x4.heap.size 5 [s, s, s, 1, -1] a len cap (p + 1) W0.heap.size zs _ B.draw.src B.draw.row (Nat.le_refl _) (by omega) (by omega) rfl (by omega) (by omega) (fun j hj => LB2.ints j hj)) ?_
      rintro e x14 ⟨y2, hv, rfl, hS, hO⟩
      have B2 := B.only hO (B.draw.only hS hO)
      clear B
      have B := B2
      clear B2
      refine ⟨_, rfl, hK _ _ ⟨btr b0 B.draw.bel, B.one⟩ ?_⟩
      clear hK K hv hS hO
      simp only [Act.put, List.setIfInBounds_toArray, List.set_cons_zero, List.set_cons_succ]
      clear LA LB LA2 LB2
      iterate 2 (refine line_read rfl (by kernel_rfl) (fun K hK => ?_); go_big_quiet_op; refine hK _ ?_; clear hK K)
      have hrb : w.heap.size ≠ w2.heap.size := by omega
      have q0 := B.res.cell 0 _ rfl
      have q1 := B.res.cell 1 _ rfl
      have q2 := B.res.cell 2 _ rfl
      have q3 := B.res.cell 3 _ rfl
      have z0 := B.res.free 0 _ rfl
      have z1 := B.res.free 1 _ rfl
      have z2 := B.res.free 2 _ rfl
      have z3 := B.res.free 3 _ rfl
      have hst : Hold w w2.heap.size (L4 s k a1 n1 c1 t) x14 := ⟨btr b0 B.draw.bel, B.one⟩
      have HB := Lib.hid B
      clear B inst
      refine line_alone rfl (by kernel_rfl) (fun K hK => ?_)
      go_big_op
      refine hK _ _ ((by (iterate 4 (refine Hold.setB ?_ (by dsimp only; omega) (by dsimp only; omega) _)); exact hst)) ?_
      clear hK K
      refine line_nil ?_
      clear hst
      go_wp2_with fail
      refine bodyPost_ret (v := .tuple #[.int .i64 y1, .int .i64 y2, R4 s k a1 n1 c1 t]) (by simp [results, Tryd.results48, go_sem, q0, q1, q2, q3]) rfl ?_
      refine ⟨_, _, _, _, _, _, _, _, xs, rfl, ?_, (by (iterate 4 (refine bset ?_ (by dsimp only; omega) _)); exact (btr b0 HB.out.draw.bel))⟩
      refine Own.row (B := W0.heap.size + 1) (n := xs.length) ?_ HB.out.wf
      iterate 4 (refine Own.setCell ?_ (fun q hq => HB.out.offR q hq) _)
      exact HB.out.own
  · go_big_op
    have LB : At V.heap.size ([s, s, s, 1, -1].map (Value.int .i64)) (V.alloc (.cells #[.int .i64 s, .int .i64 s, .int .i64 s, .int .i64 1, .int .i64 (-1)] 2)) := At.new V _ _
    have ltLB : W0.heap.size < V.heap.size := B.draw.src.lt
    have B2 := B.alloc (.cells #[.int .i64 s, .int .i64 s, .int .i64 s, .int .i64 1, .int .i64 (-1)] 2)
    clear B
    have B := B2
    clear B2
    refine hK _ _ ⟨btr b0 B.draw.bel, B.one⟩ ?_
    clear hK K
    generalize V.alloc (.cells #[.int .i64 s, .int .i64 s, .int .i64 s, .int .i64 1, .int .i64 (-1)] 2) = x13 at *
    refine any_rest [(4, false), (5, false), (14, false), (16, true), (17, true), (18, false)] (by kernel_rfl) (fun _ _ d _ _ h => by cases d <;> exact h) ?_
    refine line_alone rfl (by kernel_rfl) (fun K hK => ?_)
    go_big_op
    have LA : At x13.heap.size ([x, x, x, 5, 65521].map (Value.int .i64)) (x13.alloc (.cells #[.int .i64 x, .int .i64 x, .int .i64 x, .int .i64 5, .int .i64 65521] 2)) := At.new x13 _ _
    have ltLA : W0.heap.size < x13.heap.size := B.draw.src.lt
    have B2 := B.alloc (.cells #[.int .i64 x, .int .i64 x, .int .i64 x, .int .i64 5, .int .i64 65521] 2)
    clear B
    have B := B2
    clear B2
    have LB2 := LB.alloc (.cells #[.int .i64 x, .int .i64 x, .int .i64 x, .int .i64 5, .int .i64 65521] 2)
    refine hK _ _ ⟨btr b0 B.draw.bel, B.one⟩ ?_
    clear hK K
    generalize x13.alloc (.cells #[.int .i64 x, .int .i64 x, .int .i64 x, .int .i64 5, .int .i64 65521] 2) = x4 at *
    refine line_alone rfl (by kernel_rfl) (fun K hK => ?_)
    refine call_any (args := #[.pointer (some ⟨W0.heap.size, 0, none⟩), .slice (some ⟨x13.heap.size, 0, none⟩) 5 5]) rfl (by kernel_rfl) (by kernel_rfl) (l1Pick_any W0.heap.size x13.heap.size 5 [x, x, x, 5, 65521] a len cap p W0.heap.size zs _ B.draw.src B.draw.row (Nat.le_refl _) (by omega) (by omega) rfl (by omega) (by omega) (fun j hj => LA.ints j hj)) ?_
    rintro e x5 ⟨y1, hv, rfl, hS, hO⟩
    have B2 := B.only hO (B.draw.only hS hO)
    clear B
    have B := B2
    clear B2
    have LB3 := LB2.only hO (by omega)
    refine ⟨_, rfl, hK _ _ ⟨btr b0 B.draw.bel, B.one⟩ ?_⟩
    clear hK K hv hS hO
    simp only [Act.put, List.setIfInBounds_toArray, List.set_cons_zero, List.set_cons_succ]
    refine line_alone rfl (by kernel_rfl) (fun K hK => ?_)
    refine call_any (args := #[.pointer (some ⟨W0.heap.size, 0, none⟩), .slice (some ⟨V.heap.size, 0, none⟩) 5 5]) rfl (by kernel_rfl) (by kernel_rfl) (l1Pick_any W0.heap.size V.heap.size 5 [s, s, s, 1, -1] a len cap (p + 1) W0.heap.size zs _ B.draw.src B.draw.row (Nat.le_refl _) (by omega) (by omega) rfl (by omega) (by omega) (fun j hj => LB3.ints j hj)) ?_
    rintro e x14 ⟨y2, hv, rfl, hS, hO⟩
    have B2 := B.only hO (B.draw.only hS hO)
    clear B
    have B := B2
    clear B2
    refine ⟨_, rfl, hK _ _ ⟨btr b0 B.draw.bel, B.one⟩ ?_⟩
    clear hK K hv hS hO
    simp only [Act.put, List.setIfInBounds_toArray, List.set_cons_zero, List.set_cons_succ]
    clear LA LB LB2 LB3
    iterate 2 (refine line_read rfl (by kernel_rfl) (fun K hK => ?_); go_big_quiet_op; refine hK _ ?_; clear hK K)
    have hrb : w.heap.size ≠ w2.heap.size := by omega
    have q0 := B.res.cell 0 _ rfl
    have q1 := B.res.cell 1 _ rfl
    have q2 := B.res.cell 2 _ rfl
    have q3 := B.res.cell 3 _ rfl
    have z0 := B.res.free 0 _ rfl
    have z1 := B.res.free 1 _ rfl
    have z2 := B.res.free 2 _ rfl
    have z3 := B.res.free 3 _ rfl
    have hst : Hold w w2.heap.size (L4 s k a1 n1 c1 t) x14 := ⟨btr b0 B.draw.bel, B.one⟩
    have HB := Lib.hid B
    clear B inst
    refine line_alone rfl (by kernel_rfl) (fun K hK => ?_)
    go_big_op
    refine hK _ _ ((by (iterate 4 (refine Hold.setB ?_ (by dsimp only; omega) (by dsimp only; omega) _)); exact hst)) ?_
    clear hK K
    refine line_nil ?_
    clear hst
    go_wp2_with fail
    refine bodyPost_ret (v := .tuple #[.int .i64 y1, .int .i64 y2, R4 s k a1 n1 c1 t]) (by simp [results, Tryd.results48, go_sem, q0, q1, q2, q3]) rfl ?_
    refine ⟨_, _, _, _, _, _, _, _, xs, rfl, ?_, (by (iterate 4 (refine bset ?_ (by dsimp only; omega) _)); exact (btr b0 HB.out.draw.bel))⟩
    refine Own.row (B := W0.heap.size + 1) (n := xs.length) ?_ HB.out.wf
    iterate 4 (refine Own.setCell ?_ (fun q hq => HB.out.offR q hq) _)
    exact HB.out.own
end Go.Proofs.YtjlhldndomaknaaDoor
