/- Draws of names and supplied keys, as the laws ask for them. Conditions: as each theorem states. -/
import Derived.Test.YtdkgiiikcapjcaaDoorD5
namespace Go.Proofs.YtdkgiiikcapjcaaDoor
open Go.RowKit
set_option maxRecDepth 100000
set_option linter.unusedVariables false

/-- While a drawn supplied key is bent: the result's block, and that of the key. -/
structure BentT (w0 : World) (a : Option Addr) (len cap : Nat) (zs : List Int) (p : Nat) (w : World) (rb tb : Nat) (n : ByteArray) (u m v : Int) (cur : World) : Prop where
  draw : Draw w0 a len cap zs p cur
  grew : w.grownBy cur (some w0.heap.size)
  res : At rb (TL4 { data := #[] } 0 0 0) cur
  one : At tb (TL4 n u m v) cur
  size : n.size ≤ 21
  few : p ≤ 10
section
variable {w0 : World} {a : Option Addr} {len cap : Nat} {zs : List Int} {p p' : Nat} {w : World} {rb tb : Nat} {n : ByteArray} {u m v : Int} {cur cur' : World}
theorem BentT.only (h : BentT w0 a len cap zs p w rb tb n u m v cur) (hO : Only w0.heap.size cur cur') (D : Draw w0 a len cap zs p' cur') (h1 : rb ≠ w0.heap.size) (h2 : tb ≠ w0.heap.size) (hp : p' ≤ 10) : BentT w0 a len cap zs p' w rb tb n u m v cur' :=
  ⟨D, gtr h.grew hO.grown, h.res.only5 hO h1, h.one.only5 hO h2, h.size, hp⟩
theorem BentT.kept (h : BentT w0 a len cap zs p w rb tb n u m v cur) (hO : cur.grownBy cur' (some w0.heap.size)) (D : Draw w0 a len cap zs p' cur') (h1 : rb ≠ w0.heap.size) (h2 : tb ≠ w0.heap.size) (hp : p' ≤ 10) : BentT w0 a len cap zs p' w rb tb n u m v cur' :=
  ⟨D, gtr h.grew hO, h.res.kept hO (fun e => by injection e with e; exact h1 e), h.one.kept hO (fun e => by injection e with e; exact h2 e), h.size, hp⟩
theorem BentT.alloc (h : BentT w0 a len cap zs p w rb tb n u m v cur) (o : Obj) : BentT w0 a len cap zs p w rb tb n u m v (cur.alloc o) :=
  ⟨h.draw.alloc o, gal h.grew o, h.res.alloc o, h.one.alloc o, h.size, h.few⟩
theorem BentT.put {n' : ByteArray} {u' m' v' : Int} (i : Nat) (x : Value) (h : BentT w0 a len cap zs p w rb tb n u m v cur) (he : (TL4 n u m v).set i x = TL4 n' u' m' v') (hs : n'.size ≤ 21) (h1 : rb ≠ tb) (h2 : w0.heap.size < tb) (h3 : w.heap.size ≤ tb) : BentT w0 a len cap zs p w rb tb n' u' m' v' (cur.setCell ⟨tb, i, none⟩ x) :=
  ⟨h.draw.put h2 x, gset h.grew h3 x, h.res.setB (p := ⟨tb, i, none⟩) h1 x, by have := h.one.set i x; rwa [he] at this, hs, h.few⟩
end
theorem dl5BentTlsa {w0 : World} {a : Option Addr} {len cap : Nat} {zs : List Int} {w : World} (D : Draw w0 a len cap zs 0 w) :
    Calls Tryd.prog 48 #[.pointer (some ⟨w0.heap.size, 0, none⟩)] w (DTlsa 10 (fun n u m v => n.size ≤ 21) w0 a len cap zs w) := by
  have hlt := D.lt
  have D0 := D.alloc (.cells #[.string { data := #[] }, .int .i64 0, .int .i64 0, .int .i64 0] 30)
  have A0 := At.new w (TL4 { data := #[] } 0 0 0) 30
  have G0 := gal (World.grownBy.refl w (some w0.heap.size)) (.cells #[.string { data := #[] }, .int .i64 0, .int .i64 0, .int .i64 0] 30)
  have lt0 : w.heap.size < (w.alloc (.cells #[.string { data := #[] }, .int .i64 0, .int .i64 0, .int .i64 0] 30)).heap.size := by simp
  go_enter Tryd.func48, Tryd.ntmps48
  go_wp2_with fail
  generalize w.alloc (.cells #[.string { data := #[] }, .int .i64 0, .int .i64 0, .int .i64 0] 30) = W0 at *
  refine (dl5DrawTlsa D0).mono ?_
  rintro r w1 ⟨n, u, m, v, p, hf, hp, rfl, D1, g1⟩
  have hn := (tlsa_bounds hf).1
  have lt1 : W0.heap.size ≤ w1.heap.size := g1.size
  have B1 : BentT w0 a len cap zs p w w.heap.size w1.heap.size n u m v (w1.alloc (.cells #[.string n, .int .i64 u, .int .i64 m, .int .i64 v] 30)) :=
    ⟨D1.alloc _, gal (gtr G0 g1) _, (A0.kept g1 (fun e => by injection e with e; omega)).alloc _, At.new w1 (TL4 n u m v) 30, by omega, by omega⟩
  clear D D0 A0 G0 D1 g1 hf hn
  go_wp2_with fail
  generalize w1.alloc (.cells #[.string n, .int .i64 u, .int .i64 m, .int .i64 v] 30) = v1 at *
  refine (dnext 8 B1.draw (by omega)).mono ?_
  rintro r w2 ⟨sw, t0, t1, rfl, D2, O2⟩
  have B2 := B1.only O2 D2 (by omega) (by omega) (by omega)
  clear B1 D2 O2 t1
  by_cases e0 : sw = 0
  · subst e0
    go_wp2_with fail
    refine (dl5Bent B2.draw (by omega)).mono ?_
    rintro r w3 ⟨s, hs, rfl, D3, g3⟩
    have B3 := B2.kept g3 D3 (by omega) (by omega) (by omega)
    have B4 := B3.put (n' := s) (u' := u) (m' := m) (v' := v) 0 (.string s) rfl hs (by omega) (by omega) (by omega)
    clear B2 D3 g3
    have q0 := B3.res.cell 0 _ rfl
    have q1 := B3.res.cell 1 _ rfl
    have q2 := B3.res.cell 2 _ rfl
    have q3 := B3.res.cell 3 _ rfl
    have z0 := B3.res.free 0 _ rfl
    have z1 := B3.res.free 1 _ rfl
    have z2 := B3.res.free 2 _ rfl
    have z3 := B3.res.free 3 _ rfl
    have x0 := B3.one.cell 0 _ rfl
    have x1 := B3.one.cell 1 _ rfl
    have x2 := B3.one.cell 2 _ rfl
    have x3 := B3.one.cell 3 _ rfl
    have f0 := B3.one.free 0 _ rfl
    have f1 := B3.one.free 1 _ rfl
    have f2 := B3.one.free 2 _ rfl
    have f3 := B3.one.free 3 _ rfl
    have hrb : w.heap.size ≠ w1.heap.size := by omega
    have HB := Lib.hid B4
    clear B3 B4
    go_wp2_with fail
    refine bodyPost_ret (v := T4 s u m v) (by simp [results, Tryd.results48, go_sem, q0, q1, q2, q3]) rfl ?_
    refine ⟨_, _, _, _, _, HB.out.size, HB.out.few, rfl, ?_, ?_⟩
    · iterate 4 (refine Draw.put ?_ (by dsimp only; omega) _)
      exact HB.out.draw
    · iterate 4 (refine gset ?_ (Nat.le_refl _) _)
      exact HB.out.grew
  by_cases e1 : sw = 1
  · subst e1
    go_wp2_with fail
    refine (dpick [4, -1, 2] 3 B2.draw (by omega) (by omega) (by omega) rfl 2).mono ?_
    rintro r w3 ⟨x, hx, rfl, D3, O3⟩
    have B3 := (B2.alloc (.cells #[.int .i64 4, .int .i64 (-1), .int .i64 2] 2)).only O3 D3 (by omega) (by omega) (by omega)
    have B4 := B3.put (n' := n) (u' := x) (m' := m) (v' := v) 1 (.int .i64 x) rfl B3.size (by omega) (by omega) (by omega)
    clear B2 D3 O3 hx
    have q0 := B3.res.cell 0 _ rfl
    have q1 := B3.res.cell 1 _ rfl
    have q2 := B3.res.cell 2 _ rfl
    have q3 := B3.res.cell 3 _ rfl
    have z0 := B3.res.free 0 _ rfl
    have z1 := B3.res.free 1 _ rfl
    have z2 := B3.res.free 2 _ rfl
    have z3 := B3.res.free 3 _ rfl
    have x0 := B3.one.cell 0 _ rfl
    have x1 := B3.one.cell 1 _ rfl
    have x2 := B3.one.cell 2 _ rfl
    have x3 := B3.one.cell 3 _ rfl
    have f0 := B3.one.free 0 _ rfl
    have f1 := B3.one.free 1 _ rfl
    have f2 := B3.one.free 2 _ rfl
    have f3 := B3.one.free 3 _ rfl
    have hrb : w.heap.size ≠ w1.heap.size := by omega
    have HB := Lib.hid B4
    clear B3 B4
    go_wp2_with fail
    refine bodyPost_ret (v := T4 n x m v) (by simp [results, Tryd.results48, go_sem, q0, q1, q2, q3]) rfl ?_
    refine ⟨_, _, _, _, _, HB.out.size, HB.out.few, rfl, ?_, ?_⟩
    · iterate 4 (refine Draw.put ?_ (by dsimp only; omega) _)
      exact HB.out.draw
    · iterate 4 (refine gset ?_ (Nat.le_refl _) _)
      exact HB.out.grew
  by_cases e2 : sw = 2
  · subst e2
    go_wp2_with fail
    refine (dpick [5, 65521] 2 B2.draw (by omega) (by omega) (by omega) rfl 2).mono ?_
    rintro r w3 ⟨x, hx, rfl, D3, O3⟩
    have B3 := (B2.alloc (.cells #[.int .i64 5, .int .i64 65521] 2)).only O3 D3 (by omega) (by omega) (by omega)
    have B4 := B3.put (n' := n) (u' := u) (m' := m) (v' := x) 3 (.int .i64 x) rfl B3.size (by omega) (by omega) (by omega)
    clear B2 D3 O3 hx
    have q0 := B3.res.cell 0 _ rfl
    have q1 := B3.res.cell 1 _ rfl
    have q2 := B3.res.cell 2 _ rfl
    have q3 := B3.res.cell 3 _ rfl
    have z0 := B3.res.free 0 _ rfl
    have z1 := B3.res.free 1 _ rfl
    have z2 := B3.res.free 2 _ rfl
    have z3 := B3.res.free 3 _ rfl
    have x0 := B3.one.cell 0 _ rfl
    have x1 := B3.one.cell 1 _ rfl
    have x2 := B3.one.cell 2 _ rfl
    have x3 := B3.one.cell 3 _ rfl
    have f0 := B3.one.free 0 _ rfl
    have f1 := B3.one.free 1 _ rfl
    have f2 := B3.one.free 2 _ rfl
    have f3 := B3.one.free 3 _ rfl
    have hrb : w.heap.size ≠ w1.heap.size := by omega
    have HB := Lib.hid B4
    clear B3 B4
    go_wp2_with fail
    refine bodyPost_ret (v := T4 n u m x) (by simp [results, Tryd.results48, go_sem, q0, q1, q2, q3]) rfl ?_
    refine ⟨_, _, _, _, _, HB.out.size, HB.out.few, rfl, ?_, ?_⟩
    · iterate 4 (refine Draw.put ?_ (by dsimp only; omega) _)
      exact HB.out.draw
    · iterate 4 (refine gset ?_ (Nat.le_refl _) _)
      exact HB.out.grew
  · have n0 : (sw == 0) = false := by rw [beq_eq_false_iff_ne]; exact e0
    have n1 : (sw == 1) = false := by rw [beq_eq_false_iff_ne]; exact e1
    have n2 : (sw == 2) = false := by rw [beq_eq_false_iff_ne]; exact e2
    have B4 := B2
    have q0 := B2.res.cell 0 _ rfl
    have q1 := B2.res.cell 1 _ rfl
    have q2 := B2.res.cell 2 _ rfl
    have q3 := B2.res.cell 3 _ rfl
    have z0 := B2.res.free 0 _ rfl
    have z1 := B2.res.free 1 _ rfl
    have z2 := B2.res.free 2 _ rfl
    have z3 := B2.res.free 3 _ rfl
    have x0 := B2.one.cell 0 _ rfl
    have x1 := B2.one.cell 1 _ rfl
    have x2 := B2.one.cell 2 _ rfl
    have x3 := B2.one.cell 3 _ rfl
    have f0 := B2.one.free 0 _ rfl
    have f1 := B2.one.free 1 _ rfl
    have f2 := B2.one.free 2 _ rfl
    have f3 := B2.one.free 3 _ rfl
    have hrb : w.heap.size ≠ w1.heap.size := by omega
    have HB := Lib.hid B4
    clear B2 B4
    go_wp2_with fail
    refine bodyPost_ret (v := T4 n u m v) (by simp [results, Tryd.results48, go_sem, q0, q1, q2, q3]) rfl ?_
    refine ⟨_, _, _, _, _, HB.out.size, HB.out.few, rfl, ?_, ?_⟩
    · iterate 4 (refine Draw.put ?_ (by dsimp only; omega) _)
      exact HB.out.draw
    · iterate 4 (refine gset ?_ (Nat.le_refl _) _)
      exact HB.out.grew

def DrawnText (w : World) (r : Ending) (w' : World) : Prop := ∃ s : ByteArray, r = .returned (.string s) ∧ s.size ≤ 21 ∧ Below w.heap.size w w'
theorem DrawNormalName_any {a : Option Addr} {len cap : Nat} {zs : List Int} {w : World} (hR : Row .u8 w w.heap.size a len cap zs) :
    Calls Tryd.prog 11 #[.slice a len cap] w (DrawnText w) := by
  go_enter Tryd.func11, Tryd.ntmps11
  go_wp2_with fail
  refine (dsource hR).mono ?_
  rintro r w1 ⟨rfl, D⟩
  go_wp2_with fail
  refine (dl5Bent D (by omega)).mono ?_
  rintro r w2 ⟨s, hs, rfl, D2, g2⟩
  have HD := Lib.hid D2.bel
  clear D D2 g2
  go_wp2_with fail
  go_ret
  exact ⟨s, rfl, hs, HD.out⟩
def DrawnTlsa (w : World) (r : Ending) (w' : World) : Prop := ∃ (n : ByteArray) (u m v : Int), r = .returned (T4 n u m v) ∧ n.size ≤ 21 ∧ Below w.heap.size w w'
theorem DrawPackTlsa_any {a : Option Addr} {len cap : Nat} {zs : List Int} {w : World} (hR : Row .u8 w w.heap.size a len cap zs) :
    Calls Tryd.prog 15 #[.slice a len cap] w (DrawnTlsa w) := by
  have A0 := At.new w (TL4 { data := #[] } 0 0 0) 30
  have b0 := bal (Below.refl _ w) (.cells #[.string { data := #[] }, .int .i64 0, .int .i64 0, .int .i64 0] 30)
  have R0 := hR.on b0
  clear hR
  go_enter Tryd.func15, Tryd.ntmps15
  go_wp2_with fail
  generalize w.alloc (.cells #[.string { data := #[] }, .int .i64 0, .int .i64 0, .int .i64 0] 30) = W0 at *
  refine (dsource R0).mono ?_
  rintro r w1 ⟨rfl, D⟩
  go_wp2_with fail
  refine (dl5BentTlsa D).mono ?_
  rintro r w2 ⟨n, u, m, v, p, hn, hp, rfl, D2, g2⟩
  have q0 := (A0.on D2.bel).cell 0 _ rfl
  have q1 := (A0.on D2.bel).cell 1 _ rfl
  have q2 := (A0.on D2.bel).cell 2 _ rfl
  have q3 := (A0.on D2.bel).cell 3 _ rfl
  have z0 := (A0.on D2.bel).free 0 _ rfl
  have z1 := (A0.on D2.bel).free 1 _ rfl
  have z2 := (A0.on D2.bel).free 2 _ rfl
  have z3 := (A0.on D2.bel).free 3 _ rfl
  have HB := Lib.hid (btr b0 D2.bel)
  clear D D2 g2 A0 R0 b0
  go_wp2_with fail
  refine bodyPost_ret (v := T4 n u m v) (by simp [results, Tryd.results15, go_sem, q0, q1, q2, q3]) rfl ?_
  exact ⟨n, u, m, v, rfl, hn, (by (iterate 4 (refine bset ?_ (by dsimp only; omega) _)); exact HB.out)⟩
def DrawnFor (w : World) (r : Ending) (w' : World) : Prop := ∃ (s : ByteArray) (x y : Int), r = .returned (.tuple #[.string s, .int .i64 x, .int .i64 y]) ∧ s.size ≤ 21 ∧ Below w.heap.size w w'
theorem DrawTlsaFor_any {a : Option Addr} {len cap : Nat} {zs : List Int} {w : World} (hR : Row .u8 w w.heap.size a len cap zs) :
    Calls Tryd.prog 27 #[.slice a len cap] w (DrawnFor w) := by
  have g1 := key1
  go_enter Tryd.func27, Tryd.ntmps27
  go_wp2_with fail
  refine (dsource hR).mono ?_
  rintro r w1 ⟨rfl, D⟩
  go_wp2_with fail
  refine (dl5Bent D (by omega)).mono ?_
  rintro r w2 ⟨s, hs, rfl, D2, g2⟩
  clear D g2
  go_wp2_with fail
  refine (dnext 3 D2 (by omega)).mono ?_
  rintro r w3 ⟨x, x0, x1, rfl, D3, O3⟩
  have hx : x < 3 := by omega
  clear D2 O3 x1
  go_wp2_with fail
  refine (l1Key_any _ _ (by omega) (by omega)).mono ?_
  rintro r w4 ⟨rfl, b4⟩
  have D4 := D3.below b4
  generalize M.pw 4 (1 + x).toNat 2879 = pp at *
  clear D3 b4
  go_wp2_with fail
  refine (dpick [pp, 5, 1] 3 D4 (by omega) (by omega) (by omega) rfl 2).mono ?_
  rintro r w5 ⟨y, hy, rfl, D5, O5⟩
  clear hy O5 D4
  go_wp2_with fail
  refine (dpick [0, 1, 2] 3 D5 (by omega) (by omega) (by omega) rfl 2).mono ?_
  rintro r w6 ⟨t, ht, rfl, D6, O6⟩
  have HD := Lib.hid D6.bel
  clear ht O6 D5 D6
  go_wp2_with fail
  go_ret3
  exact ⟨s, _, _, rfl, hs, HD.out⟩
end Go.Proofs.YtdkgiiikcapjcaaDoor
