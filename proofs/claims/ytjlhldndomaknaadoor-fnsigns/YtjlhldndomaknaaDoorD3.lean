/- Contracts of the draws that the laws of chapter 3 choose their inputs by. Conditions: as each theorem states. -/
import Derived.Test.YtjlhldndomaknaaDoorD1b
import Derived.Test.YtjlhldndomaknaaDoorC3g
import Derived.Test.YtjlhldndomaknaaDoorC3h
namespace Go.Proofs.YtjlhldndomaknaaDoor
open Go.RowKit
set_option maxRecDepth 100000
set_option linter.unusedVariables false

theorem DrawNonceOf_any {a : Option Addr} {len cap : Nat} {zs : List Int} {w : World} (hR : Row .u8 w w.heap.size a len cap zs) :
    Calls Tryd.prog 38 #[.slice a len cap] w (Drawn2 w) := by
  go_enter Tryd.func38, Tryd.ntmps38
  go_wp2_with fail
  refine (dsource hR).mono ?_
  rintro r w1 ⟨rfl, D⟩
  go_wp2_with fail
  refine (dsecret D (by omega)).mono ?_
  rintro r w2 ⟨x, x0, x1, rfl, D2⟩
  go_wp2_with fail
  refine (dpick [x, 0, 1439] 3 D2 (by omega) (by omega) (by omega) rfl 2).mono ?_
  rintro r w3 ⟨m, hm, rfl, D3, O3⟩
  clear hm O3
  go_wp2_with fail
  refine (dnext _ D3 (by omega)).mono ?_
  rintro r w4 ⟨y, y0, y1, rfl, D4, O4⟩
  go_wp2_with fail
  refine (dpick [y, 65521] 2 D4 (by omega) (by omega) (by omega) rfl 2).mono ?_
  rintro r w5 ⟨k, hk, rfl, D5, O5⟩
  have HD := Lib.hid D5.bel
  clear hk D D2 D3 D4 D5 O4 O5 x0 x1 y0 y1
  go_wp2_with fail
  go_ret2
  exact ⟨_, _, rfl, HD.out⟩
theorem DrawSignSum_any {a : Option Addr} {len cap : Nat} {zs : List Int} {w : World} (hR : Row .u8 w w.heap.size a len cap zs) :
    Calls Tryd.prog 35 #[.slice a len cap] w (Drawn2 w) := by
  go_enter Tryd.func35, Tryd.ntmps35
  go_wp2_with fail
  refine (DrawNonceOf_any hR).mono ?_
  rintro r w1 ⟨x, y, rfl, hb⟩
  go_wp2_with fail
  go_ret2
  exact ⟨_, _, rfl, hb⟩

/-- A signature that was drawn, with the numbers beside it. -/
def DrawnSig (w0 : World) (r : Ending) (w' : World) : Prop := ∃ x y p q : Int, r = .returned (.tuple #[.int .i64 x, .int .i64 y, I2 p q]) ∧ Below w0.heap.size w0 w'
structure Bent (w0 : World) (a : Option Addr) (len cap : Nat) (zs : List Int) (p rb gb : Nat) (P R : Int) (w : World) : Prop where
  draw : Draw w0 a len cap zs p w
  res : w.heap[rb]? = some (.cells #[.int .i64 0, .int .i64 0] 49)
  sig : w.heap[gb]? = some (.cells #[.int .i64 P, .int .i64 R] 49)
  rlt : w0.heap.size < rb
  glt : w0.heap.size < gb
  ne : rb < gb
section
variable {w0 : World} {a : Option Addr} {len cap : Nat} {zs : List Int} {p p' rb gb : Nat} {P R : Int} {w w' : World}
theorem Bent.only (h : Bent w0 a len cap zs p rb gb P R w) (hO : Only w0.heap.size w w') (D : Draw w0 a len cap zs p' w') : Bent w0 a len cap zs p' rb gb P R w' :=
  ⟨D, (hO.block rb (by have := h.rlt; omega)).trans h.res, (hO.block gb (by have := h.glt; omega)).trans h.sig, h.rlt, h.glt, h.ne⟩
theorem Bent.alloc (h : Bent w0 a len cap zs p rb gb P R w) (o : Obj) : Bent w0 a len cap zs p rb gb P R (w.alloc o) :=
  ⟨h.draw.alloc o, (Below.heap_alloc w o rb (blk_lt h.res)).trans h.res, (Below.heap_alloc w o gb (blk_lt h.sig)).trans h.sig, h.rlt, h.glt, h.ne⟩
theorem Bent.below (h : Bent w0 a len cap zs p rb gb P R w) (hb : Below w.heap.size w w') : Bent w0 a len cap zs p rb gb P R w' :=
  ⟨h.draw.below hb, (hb.block _ (blk_lt h.res)).trans h.res, (hb.block _ (blk_lt h.sig)).trans h.sig, h.rlt, h.glt, h.ne⟩
theorem Bent.put (h : Bent w0 a len cap zs p rb gb P R w) {P' R' : Int} {x : Addr} {u : Value} (hx : x.block = gb) (hw : (w.setCell x u).heap[gb]? = some (.cells #[.int .i64 P', .int .i64 R'] 49)) : Bent w0 a len cap zs p rb gb P' R' (w.setCell x u) := by
  subst hx
  have hn := h.ne
  have hg := h.glt
  have hb : Below w0.heap.size w (w.setCell x u) := (Below.refl _ w).setCell (by omega) u
  exact ⟨⟨h.draw.src.keep (Below.heap_setCell w x u _ (by omega)), h.draw.row.below hb, h.draw.bel.trans hb⟩, (Below.heap_setCell w x u _ (by omega)).trans h.res, hw, h.rlt, h.glt, h.ne⟩
theorem Bent.set0 (h : Bent w0 a len cap zs p rb gb P R w) (m : Int) : Bent w0 a len cap zs p rb gb m R (w.setCell ⟨gb, 0, none⟩ (.int .i64 m)) :=
  h.put rfl (by have := h.sig; simp [World.setCell, Array.getElem?_modify, this])
theorem Bent.set1 (h : Bent w0 a len cap zs p rb gb P R w) (m : Int) : Bent w0 a len cap zs p rb gb P m (w.setCell ⟨gb, 1, none⟩ (.int .i64 m)) :=
  h.put rfl (by have := h.sig; simp [World.setCell, Array.getElem?_modify, this])
end
theorem SigAt.setB {w : World} {g b : Nat} {p q : Int} {cur : World} (h : SigAt w g p q cur) (hb : w.heap.size ≤ b) (hg : b ≠ g) {x y : Value} : SigAt w g p q ((cur.setCell ⟨b, 0, none⟩ x).setCell ⟨b, 1, none⟩ y) := by
  have ne : ∀ i j, (⟨b, i, none⟩ : Addr) ≠ ⟨g, j, none⟩ := fun i j e => by injection e with e1; omega
  refine ⟨bset (bset h.bel hb _) hb _, ?_, ?_⟩
  · rw [World.cell?_setCell_other _ _ _ _ (ne 1 0), World.cell?_setCell_other _ _ _ _ (ne 0 0)]; exact h.c0
  · rw [World.cell?_setCell_other _ _ _ _ (ne 1 1), World.cell?_setCell_other _ _ _ _ (ne 0 1)]; exact h.c1
theorem Bent.at {w0 : World} {a : Option Addr} {len cap : Nat} {zs : List Int} {p rb gb : Nat} {P R : Int} {w : World} (h : Bent w0 a len cap zs p rb gb P R w) : SigAt w0 gb P R w.drew ∧ Res2 rb w.drew :=
  ⟨⟨h.draw.bel.drew, blk_cell h.sig 0, blk_cell h.sig 1⟩, ⟨blk_cell h.res 0, blk_cell h.res 1, blk_free h.res 0, blk_free h.res 1⟩⟩
def DSec (w0 : World) (a : Option Addr) (len cap : Nat) (zs : List Int) (p : Nat) (w : World) (r : Ending) (w' : World) : Prop :=
  ∃ v : Int, 1 ≤ v ∧ v ≤ 1438 ∧ r = .returned (.int .i64 v) ∧ Draw w0 a len cap zs (p + 1) w' ∧ Only w0.heap.size w w'
theorem dnextS {w0 : World} {a : Option Addr} {len cap : Nat} {zs : List Int} {p : Nat} {w : World} (D : Draw w0 a len cap zs p w) (hp : p ≤ 1000000) :
    Calls Tryd.prog 103 #[.pointer (some ⟨w0.heap.size, 0, none⟩)] w (DSec w0 a len cap zs p w) := by
  go_enter Tryd.func103, Tryd.ntmps103
  go_wp2_with fail
  refine (dnext _ D hp).mono ?_
  rintro r w2 ⟨x, x0, x1, rfl, D2, O2⟩
  have x2 : x < 1438 := by omega
  clear x1 D
  go_wp2_with fail
  go_ret
  exact ⟨1 + x, by omega, by omega, rfl, D2, O2⟩

theorem l3Bent_any {w0 : World} {a : Option Addr} {len cap : Nat} {zs : List Int} {w : World} (D : Draw w0 a len cap zs 0 w) :
    Calls Tryd.prog 102 #[.pointer (some ⟨w0.heap.size, 0, none⟩)] w (DrawnSig w0) := by
  have g1 := kf1
  have hlt := D.src.lt
  have hres : (w.alloc (.cells #[.int .i64 0, .int .i64 0] 49)).heap[w.heap.size]? = some (.cells #[.int .i64 0, .int .i64 0] 49) := (MapKept.heap_alloc w _).1
  have D0 := D.alloc (.cells #[.int .i64 0, .int .i64 0] 49)
  clear D
  go_enter Tryd.func102, Tryd.ntmps102
  go_wp2_with fail
  generalize w.alloc (.cells #[.int .i64 0, .int .i64 0] 49) = W0 at *
  refine (dnextS D0 (by omega)).mono ?_
  rintro r w1 ⟨x, x0, x1, rfl, D1, O1⟩
  have r1 := (O1.block w.heap.size (by omega)).trans hres
  clear hres D0 O1
  go_wp2_with fail
  refine (dnext 65521 D1 (by omega)).mono ?_
  rintro r w2 ⟨t, t0, t1, rfl, D2, O2⟩
  have r2 := (O2.block w.heap.size (by omega)).trans r1
  have hx : inB x 1 1438 = true := by simp only [inB, decide_eq_true_eq]; omega
  have ht : M.sumB t = true := by simp only [M.sumB, decide_eq_true_eq]; omega
  have t2 : t < 65521 := by omega
  obtain ⟨R0, R1⟩ := M.sigPr_bd x t
  have S1 := fun w => l3Sign_any x t w hx ht
  generalize M.sigPt x t = P at *
  generalize M.sigPr x t = R at *
  clear D1 O2 r1 t1 hx ht
  go_wp2_with fail
  refine (S1 _).mono ?_
  rintro r w3 ⟨rfl, h3⟩
  have D3 := D2.below h3
  have r3 := (h3.block _ (blk_lt r2)).trans r2
  have B3 : Bent w0 a len cap zs 2 w.heap.size w3.heap.size P R (w3.alloc (.cells #[.int .i64 P, .int .i64 R] 49)) :=
    ⟨D3.alloc _, (Below.heap_alloc w3 _ _ (blk_lt r3)).trans r3, (MapKept.heap_alloc w3 _).1, hlt, by have := D3.src.lt; omega, blk_lt r3⟩
  clear S1 D2 D3 h3 r2 r3
  go_wp2_with fail
  generalize w3.alloc (.cells #[.int .i64 P, .int .i64 R] 49) = v3 at *
  refine (l1Key_any x _ (by omega) (by omega)).mono ?_
  rintro r w4 ⟨rfl, h4⟩
  have B4 := B3.below h4
  generalize M.pw 4 x.toNat 2879 = U at *
  clear B3 h4
  go_wp2_with fail
  refine (dnext 8 B4.draw (by omega)).mono ?_
  rintro r w5 ⟨k, k0, k1, rfl, D5, O5⟩
  have B5 := B4.only O5 D5
  clear B4 D5 O5 k1
  by_cases e0 : k = 0
  · subst e0
    have c1 := blk_cell B5.sig 1
    have f1 := blk_free B5.sig 1
    simp at c1
    go_wp2_with fail
    refine (dpick [0, 1439, R + 1] 3 B5.draw (by omega) (by omega) (by omega) rfl 2).mono ?_
    rintro r w6 ⟨m, hm, rfl, D6, O6⟩
    have B6 := (B5.alloc (.cells #[.int .i64 0, .int .i64 1439, .int .i64 (R + 1)] 2)).only O6 D6
    have B9 := B6.set1 m
    have c1 := blk_cell B6.sig 1
    have f1 := blk_free B6.sig 1
    simp at c1
    clear hm B5 B6 D6 O6
    go_wp2_with fail
    obtain ⟨T0, T1⟩ := B9.at
    have hn9 := B9.ne
    have hr9 := B9.rlt
    clear B9
    generalize w6.setCell ⟨w3.heap.size, 1, none⟩ (.int .i64 m) = V9 at *
    refine wp_region_line (SigAt w0 w3.heap.size (P) (m)) [(0, true), (1, true), (2, true), (3, true), (4, true), (5, false)] (by kernel_rfl) (by kernel_rfl) (fun _ _ d _ _ h => by cases d <;> exact h) T0 ?_
    have hst := T0
    clear T0
    generalize V9.drew = V at *
    have inst : Nonempty (Of (SigAt w0 w3.heap.size (P) (m))) := ⟨⟨_, hst⟩⟩
    have q8 : ∀ z : Of (SigAt w0 w3.heap.size (P) (m)), z.val.cell? ⟨w3.heap.size, 0, none⟩ = some (.int .i64 (P)) := fun z => z.prop.c0
    have q9 : ∀ z : Of (SigAt w0 w3.heap.size (P) (m)), z.val.cell? ⟨w3.heap.size, 1, none⟩ = some (.int .i64 (m)) := fun z => z.prop.c1
    iterate 5 (refine line_read rfl (by kernel_rfl) (fun K hK => ?_); go_big_quiet_op; refine hK _ ?_; clear hK K)
    obtain ⟨q0, q1, z0, z1⟩ := T1
    refine line_alone rfl (by kernel_rfl) (fun K hK => ?_)
    go_big_op
    refine hK _ _ (hst.setB (by omega) (by omega)) ?_
    clear hK K
    refine line_nil ?_
    go_wp2_with fail
    exact bodyPost_ret (v := .tuple #[.int .i64 (U), .int .i64 (t), I2 (P) (m)]) (by simp [results, Tryd.results102, go_sem, q0, q1]) rfl ⟨_, _, _, _, rfl, bset (bset hst.bel (by show w0.heap.size ≤ w.heap.size; omega) _) (by show w0.heap.size ≤ w.heap.size; omega) _⟩
  by_cases e1 : k = 1
  · subst e1
    go_wp2_with fail
    refine (dpick [4, 1, 5] 3 B5.draw (by omega) (by omega) (by omega) rfl 2).mono ?_
    rintro r w6 ⟨m, hm, rfl, D6, O6⟩
    have B6 := (B5.alloc (.cells #[.int .i64 4, .int .i64 1, .int .i64 5] 2)).only O6 D6
    have B9 := B6.set0 m
    have c1 := blk_cell B6.sig 0
    have f1 := blk_free B6.sig 0
    simp at c1
    clear hm B5 B6 D6 O6
    go_wp2_with fail
    obtain ⟨T0, T1⟩ := B9.at
    have hn9 := B9.ne
    have hr9 := B9.rlt
    clear B9
    generalize w6.setCell ⟨w3.heap.size, 0, none⟩ (.int .i64 m) = V9 at *
    refine wp_region_line (SigAt w0 w3.heap.size (m) (R)) [(0, true), (1, true), (2, true), (3, true), (4, true), (5, false)] (by kernel_rfl) (by kernel_rfl) (fun _ _ d _ _ h => by cases d <;> exact h) T0 ?_
    have hst := T0
    clear T0
    generalize V9.drew = V at *
    have inst : Nonempty (Of (SigAt w0 w3.heap.size (m) (R))) := ⟨⟨_, hst⟩⟩
    have q8 : ∀ z : Of (SigAt w0 w3.heap.size (m) (R)), z.val.cell? ⟨w3.heap.size, 0, none⟩ = some (.int .i64 (m)) := fun z => z.prop.c0
    have q9 : ∀ z : Of (SigAt w0 w3.heap.size (m) (R)), z.val.cell? ⟨w3.heap.size, 1, none⟩ = some (.int .i64 (R)) := fun z => z.prop.c1
    iterate 5 (refine line_read rfl (by kernel_rfl) (fun K hK => ?_); go_big_quiet_op; refine hK _ ?_; clear hK K)
    obtain ⟨q0, q1, z0, z1⟩ := T1
    refine line_alone rfl (by kernel_rfl) (fun K hK => ?_)
    go_big_op
    refine hK _ _ (hst.setB (by omega) (by omega)) ?_
    clear hK K
    refine line_nil ?_
    go_wp2_with fail
    exact bodyPost_ret (v := .tuple #[.int .i64 (U), .int .i64 (t), I2 (m) (R)]) (by simp [results, Tryd.results102, go_sem, q0, q1]) rfl ⟨_, _, _, _, rfl, bset (bset hst.bel (by show w0.heap.size ≤ w.heap.size; omega) _) (by show w0.heap.size ≤ w.heap.size; omega) _⟩
  by_cases e2 : k = 2
  · subst e2
    go_wp2_with fail
    refine (dpick [t / 2, 65521] 2 B5.draw (by omega) (by omega) (by omega) rfl 2).mono ?_
    rintro r w6 ⟨m, hm, rfl, D6, O6⟩
    have B9 := (B5.alloc (.cells #[.int .i64 (t / 2), .int .i64 65521] 2)).only O6 D6
    clear hm B5 D6 O6
    go_wp2_with fail
    obtain ⟨T0, T1⟩ := B9.at
    have hn9 := B9.ne
    have hr9 := B9.rlt
    clear B9
    generalize w6 = V9 at *
    refine wp_region_line (SigAt w0 w3.heap.size (P) (R)) [(0, true), (1, true), (2, true), (3, true), (4, true), (5, false)] (by kernel_rfl) (by kernel_rfl) (fun _ _ d _ _ h => by cases d <;> exact h) T0 ?_
    have hst := T0
    clear T0
    generalize V9.drew = V at *
    have inst : Nonempty (Of (SigAt w0 w3.heap.size (P) (R))) := ⟨⟨_, hst⟩⟩
    have q8 : ∀ z : Of (SigAt w0 w3.heap.size (P) (R)), z.val.cell? ⟨w3.heap.size, 0, none⟩ = some (.int .i64 (P)) := fun z => z.prop.c0
    have q9 : ∀ z : Of (SigAt w0 w3.heap.size (P) (R)), z.val.cell? ⟨w3.heap.size, 1, none⟩ = some (.int .i64 (R)) := fun z => z.prop.c1
    iterate 5 (refine line_read rfl (by kernel_rfl) (fun K hK => ?_); go_big_quiet_op; refine hK _ ?_; clear hK K)
    obtain ⟨q0, q1, z0, z1⟩ := T1
    refine line_alone rfl (by kernel_rfl) (fun K hK => ?_)
    go_big_op
    refine hK _ _ (hst.setB (by omega) (by omega)) ?_
    clear hK K
    refine line_nil ?_
    go_wp2_with fail
    exact bodyPost_ret (v := .tuple #[.int .i64 (U), .int .i64 (m), I2 (P) (R)]) (by simp [results, Tryd.results102, go_sem, q0, q1]) rfl ⟨_, _, _, _, rfl, bset (bset hst.bel (by show w0.heap.size ≤ w.heap.size; omega) _) (by show w0.heap.size ≤ w.heap.size; omega) _⟩
  by_cases e3 : k = 3
  · subst e3
    go_wp2_with fail
    refine (dpick [4, 2878, 0] 3 B5.draw (by omega) (by omega) (by omega) rfl 2).mono ?_
    rintro r w6 ⟨m, hm, rfl, D6, O6⟩
    have B9 := (B5.alloc (.cells #[.int .i64 4, .int .i64 2878, .int .i64 0] 2)).only O6 D6
    clear hm B5 D6 O6
    go_wp2_with fail
    obtain ⟨T0, T1⟩ := B9.at
    have hn9 := B9.ne
    have hr9 := B9.rlt
    clear B9
    generalize w6 = V9 at *
    refine wp_region_line (SigAt w0 w3.heap.size (P) (R)) [(0, true), (1, true), (2, true), (3, true), (4, true), (5, false)] (by kernel_rfl) (by kernel_rfl) (fun _ _ d _ _ h => by cases d <;> exact h) T0 ?_
    have hst := T0
    clear T0
    generalize V9.drew = V at *
    have inst : Nonempty (Of (SigAt w0 w3.heap.size (P) (R))) := ⟨⟨_, hst⟩⟩
    have q8 : ∀ z : Of (SigAt w0 w3.heap.size (P) (R)), z.val.cell? ⟨w3.heap.size, 0, none⟩ = some (.int .i64 (P)) := fun z => z.prop.c0
    have q9 : ∀ z : Of (SigAt w0 w3.heap.size (P) (R)), z.val.cell? ⟨w3.heap.size, 1, none⟩ = some (.int .i64 (R)) := fun z => z.prop.c1
    iterate 5 (refine line_read rfl (by kernel_rfl) (fun K hK => ?_); go_big_quiet_op; refine hK _ ?_; clear hK K)
    obtain ⟨q0, q1, z0, z1⟩ := T1
    refine line_alone rfl (by kernel_rfl) (fun K hK => ?_)
    go_big_op
    refine hK _ _ (hst.setB (by omega) (by omega)) ?_
    clear hK K
    refine line_nil ?_
    go_wp2_with fail
    exact bodyPost_ret (v := .tuple #[.int .i64 (m), .int .i64 (t), I2 (P) (R)]) (by simp [results, Tryd.results102, go_sem, q0, q1]) rfl ⟨_, _, _, _, rfl, bset (bset hst.bel (by show w0.heap.size ≤ w.heap.size; omega) _) (by show w0.heap.size ≤ w.heap.size; omega) _⟩
  · have B9 := B5
    have n0 : (k == 0) = false := by rw [beq_eq_false_iff_ne]; exact e0
    have n1 : (k == 1) = false := by rw [beq_eq_false_iff_ne]; exact e1
    have n2 : (k == 2) = false := by rw [beq_eq_false_iff_ne]; exact e2
    have n3 : (k == 3) = false := by rw [beq_eq_false_iff_ne]; exact e3
    clear B5
    go_wp2_with fail
    obtain ⟨T0, T1⟩ := B9.at
    have hn9 := B9.ne
    have hr9 := B9.rlt
    clear B9
    generalize w5 = V9 at *
    refine wp_region_line (SigAt w0 w3.heap.size (P) (R)) [(0, true), (1, true), (2, true), (3, true), (4, true), (5, false)] (by kernel_rfl) (by kernel_rfl) (fun _ _ d _ _ h => by cases d <;> exact h) T0 ?_
    have hst := T0
    clear T0
    generalize V9.drew = V at *
    have inst : Nonempty (Of (SigAt w0 w3.heap.size (P) (R))) := ⟨⟨_, hst⟩⟩
    have q8 : ∀ z : Of (SigAt w0 w3.heap.size (P) (R)), z.val.cell? ⟨w3.heap.size, 0, none⟩ = some (.int .i64 (P)) := fun z => z.prop.c0
    have q9 : ∀ z : Of (SigAt w0 w3.heap.size (P) (R)), z.val.cell? ⟨w3.heap.size, 1, none⟩ = some (.int .i64 (R)) := fun z => z.prop.c1
    iterate 5 (refine line_read rfl (by kernel_rfl) (fun K hK => ?_); go_big_quiet_op; refine hK _ ?_; clear hK K)
    obtain ⟨q0, q1, z0, z1⟩ := T1
    refine line_alone rfl (by kernel_rfl) (fun K hK => ?_)
    go_big_op
    refine hK _ _ (hst.setB (by omega) (by omega)) ?_
    clear hK K
    refine line_nil ?_
    go_wp2_with fail
    exact bodyPost_ret (v := .tuple #[.int .i64 (U), .int .i64 (t), I2 (P) (R)]) (by simp [results, Tryd.results102, go_sem, q0, q1]) rfl ⟨_, _, _, _, rfl, bset (bset hst.bel (by show w0.heap.size ≤ w.heap.size; omega) _) (by show w0.heap.size ≤ w.heap.size; omega) _⟩
end Go.Proofs.YtjlhldndomaknaaDoor
