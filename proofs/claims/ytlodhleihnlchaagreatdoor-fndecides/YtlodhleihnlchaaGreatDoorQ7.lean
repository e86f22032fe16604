/- Texts of this seat that several laws rest on, laid into one. Conditions: as each theorem states. -/
import Derived.Test.YtlodhleihnlchaaGreatDoorQ3
import Derived.Test.YtlodhleihnlchaaGreatDoorQ4
import Derived.Test.YtlodhleihnlchaaGreatDoorQ5
import Derived.Test.YtlodhleihnlchaaGreatDoorQ6
namespace Go.Proofs.YtlodhleihnlchaaGreatDoor
open Go.RowKit
set_option maxRecDepth 100000
set_option linter.unusedVariables false

structure DrwP (w0 : World) (a : Option Addr) (len cap : Nat) (zs : List Int) (p : Nat) (w : World) (rb : Nat) (rs : List Value) (cur : World) : Prop where
  draw : Draw w0 a len cap zs p cur
  grew : w.grownBy cur (some w0.heap.size)
  res : At rb rs cur
section
variable {w0 : World} {a : Option Addr} {len cap : Nat} {zs : List Int} {p p' : Nat} {w : World} {rb tb : Nat} {rs cs : List Value} {cur cur' : World}
theorem DrwP.only (h : DrwP w0 a len cap zs p w rb rs cur) (hO : Only w0.heap.size cur cur') (D : Draw w0 a len cap zs p' cur') (h1 : rb ≠ w0.heap.size) : DrwP w0 a len cap zs p' w rb rs cur' :=
  ⟨D, gtr h.grew hO.grown, h.res.only5 hO h1⟩
theorem DrwP.kept (h : DrwP w0 a len cap zs p w rb rs cur) (hO : cur.grownBy cur' (some w0.heap.size)) (D : Draw w0 a len cap zs p' cur') (h1 : rb ≠ w0.heap.size) : DrwP w0 a len cap zs p' w rb rs cur' :=
  ⟨D, gtr h.grew hO, h.res.kept hO (fun e => by injection e with e; exact h1 e)⟩
theorem DrwP.on (h : DrwP w0 a len cap zs p w rb rs cur) (hb : Below cur.heap.size cur cur') : DrwP w0 a len cap zs p w rb rs cur' := ⟨h.draw.below hb, gbe h.grew hb, h.res.on hb⟩
theorem DrwP.alloc (h : DrwP w0 a len cap zs p w rb rs cur) (o : Obj) : DrwP w0 a len cap zs p w rb rs (cur.alloc o) := ⟨h.draw.alloc o, gal h.grew o, h.res.alloc o⟩
structure BentP (w0 : World) (a : Option Addr) (len cap : Nat) (zs : List Int) (p : Nat) (w : World) (rb : Nat) (rs : List Value) (tb : Nat) (cs : List Value) (cur : World) : Prop where
  drw : DrwP w0 a len cap zs p w rb rs cur
  one : At tb cs cur
theorem BentP.only (h : BentP w0 a len cap zs p w rb rs tb cs cur) (hO : Only w0.heap.size cur cur') (D : Draw w0 a len cap zs p' cur') (h1 : rb ≠ w0.heap.size) (h2 : tb ≠ w0.heap.size) : BentP w0 a len cap zs p' w rb rs tb cs cur' :=
  ⟨h.drw.only hO D h1, h.one.only5 hO h2⟩
theorem BentP.kept (h : BentP w0 a len cap zs p w rb rs tb cs cur) (hO : cur.grownBy cur' (some w0.heap.size)) (D : Draw w0 a len cap zs p' cur') (h1 : rb ≠ w0.heap.size) (h2 : tb ≠ w0.heap.size) : BentP w0 a len cap zs p' w rb rs tb cs cur' :=
  ⟨h.drw.kept hO D h1, h.one.kept hO (fun e => by injection e with e; exact h2 e)⟩
theorem BentP.alloc (h : BentP w0 a len cap zs p w rb rs tb cs cur) (o : Obj) : BentP w0 a len cap zs p w rb rs tb cs (cur.alloc o) := ⟨h.drw.alloc o, h.one.alloc o⟩
theorem BentP.put (i : Nat) (x : Value) (h : BentP w0 a len cap zs p w rb rs tb cs cur) (h1 : rb ≠ tb) (h2 : w0.heap.size < tb) (h3 : w.heap.size ≤ tb) : BentP w0 a len cap zs p w rb rs tb (cs.set i x) (cur.setCell ⟨tb, i, none⟩ x) :=
  ⟨⟨h.drw.draw.put h2 x, gset h.drw.grew h3 x, h.drw.res.setB (p := ⟨tb, i, none⟩) h1 x⟩, h.one.set i x⟩
end
def DPin (K : Nat) (Q : PinD → Prop) (w0 : World) (a : Option Addr) (len cap : Nat) (zs : List Int) (w : World) (e : Ending) (w' : World) : Prop :=
  ∃ (q : PinD) (p : Nat), Q q ∧ p ≤ K ∧ e = .returned (P5 q) ∧ Draw w0 a len cap zs p w' ∧ w.grownBy w' (some w0.heap.size)
theorem dl7Public {w0 : World} {a : Option Addr} {len cap : Nat} {zs : List Int} {p : Nat} {w : World} (D : Draw w0 a len cap zs p w) (hp : p ≤ 1000) :
    Calls Tryz.prog 172 #[.pointer (some ⟨w0.heap.size, 0, none⟩)] w fun r w' => ∃ v : Int, pubB v = true ∧ r = .returned (.int .i64 v) ∧ Draw w0 a len cap zs (p + 1) w' ∧ w.grownBy w' (some w0.heap.size) := by
  have g1 := key1
  go_enter Tryz.func172, Tryz.ntmps172
  go_wp2_with fail
  refine (dnext 4 D (by omega)).mono ?_
  rintro r w1 ⟨x, x0, x1, rfl, D1, O1⟩
  have hx : x < 4 := by omega
  have hpub := pub_base (a := 1 + x) (by omega) (by omega)
  clear x1 D
  go_wp2_with fail
  refine (l1Key_any _ _ (by omega) (by omega)).mono ?_
  rintro r w2 ⟨rfl, b2⟩
  generalize M.pw 4 (1 + x).toNat 2879 = v at *
  have HD := Lib.hid (And.intro (D1.below b2) (gbe O1.grown b2))
  clear D1 O1 b2
  go_wp2_with fail
  go_ret
  exact ⟨v, hpub, rfl, HD.out.1, HD.out.2⟩

theorem pub_two {v : Int} (h : pubB v = true) : 2 ≤ v := by
  simp only [pubB, inB, Bool.and_eq_true, decide_eq_true_eq] at h
  omega
theorem drawn_ok {n : ByteArray} {a b e u : Int} (hn : n.size ≤ 20 ∧ M.normF n.data.toList = 0) (ha : pubB a = true) (hb : b = 0 ∨ pubB b = true) (hba : b ≠ a) (he : 1 ≤ e ∧ e ≤ 200) (hu : 0 ≤ u ∧ u ≤ 9999) : (PinD.mk n a b e u).f = 0 := by
  refine pinF_yes hn.2 ?_ hba
  have h1 : bakB b = true := by
    unfold bakB
    rcases hb with hb | hb <;> simp [hb]
  have h2 : epB e = true := by simp [epB]; omega
  have h3 : timB u = true := by simp [timB]; omega
  simp [pinB, ha, h1, h2, h3]
abbrev pinZero : List Value := [.string { data := #[] }, .int .i64 0, .int .i64 0, .int .i64 0, .int .i64 0]
set_option maxHeartbeats 1000000 in
theorem dl7Draw {w0 : World} {a : Option Addr} {len cap : Nat} {zs : List Int} {p0 : Nat} {w : World} (D : Draw w0 a len cap zs p0 w) (hp0 : p0 ≤ 500) :
    Calls Tryz.prog 122 #[.pointer (some ⟨w0.heap.size, 0, none⟩)] w (DPin (p0 + 6) (fun q => q.f = 0) w0 a len cap zs w) := by
  have hlt := D.lt
  have R0 : DrwP w0 a len cap zs p0 w w.heap.size pinZero (w.alloc (.cells #[.string { data := #[] }, .int .i64 0, .int .i64 0, .int .i64 0, .int .i64 0] 59)) :=
    ⟨D.alloc _, gal (World.grownBy.refl w (some w0.heap.size)) _, At.new w pinZero 59⟩
  go_enter Tryz.func122, Tryz.ntmps122
  go_wp2_with fail
  generalize w.alloc (.cells #[.string { data := #[] }, .int .i64 0, .int .i64 0, .int .i64 0, .int .i64 0] 59) = W0 at *
  refine (dl5DrawName R0.draw (by omega)).mono ?_
  rintro r w1 ⟨n, hn, rfl, D1, g1⟩
  have HN := Lib.hid hn
  have R1 := R0.kept g1 D1 (by omega)
  clear D R0 D1 g1 hn
  go_wp2_with fail
  refine (dl7Public R1.draw (by omega)).mono ?_
  rintro r w2 ⟨ac, hac, rfl, D2, g2⟩
  have HAC := Lib.hid hac
  have R2 := R1.kept g2 D2 (by omega)
  clear R1 D2 g2 hac
  go_wp2_with fail
  refine (dnext 3 R2.draw (by omega)).mono ?_
  rintro r w3 ⟨e, e0, e1, rfl, D3, O3⟩
  have he : e < 3 := by omega
  have R3 := R2.only O3 D3 (by omega)
  clear R2 D3 O3 e1
  go_wp2_with fail
  refine (dpick [0, 50, 9999] 3 R3.draw (by omega) (by omega) (by omega) rfl 2).mono ?_
  rintro r w4 ⟨u, hu, rfl, D4, O4⟩
  have HU := Lib.hid (show 0 ≤ u ∧ u ≤ 9999 by simp at hu; omega)
  have R4 := (R3.alloc (.cells #[.int .i64 0, .int .i64 50, .int .i64 9999] 2)).only O4 D4 (by omega)
  have lt4 := R4.res.lt (by simp)
  have B4 : BentP w0 a len cap zs (p0 + 1 + 1 + 1 + 1) w w.heap.size pinZero w4.heap.size [.string n, .int .i64 ac, .int .i64 0, .int .i64 (1 + e), .int .i64 u] (w4.alloc (.cells #[.string n, .int .i64 ac, .int .i64 0, .int .i64 (1 + e), .int .i64 u] 59)) :=
    ⟨R4.alloc _, At.new w4 [.string n, .int .i64 ac, .int .i64 0, .int .i64 (1 + e), .int .i64 u] 59⟩
  clear R3 R4 D4 O4 hu
  go_wp2_with fail
  generalize w4.alloc (.cells #[.string n, .int .i64 ac, .int .i64 0, .int .i64 (1 + e), .int .i64 u] 59) = v4 at *
  refine (dl7Public B4.drw.draw (by omega)).mono ?_
  rintro r w5 ⟨b, hb, rfl, D5, g5⟩
  have HBB := Lib.hid hb
  have B5 := B4.kept g5 D5 (by omega) (by omega)
  have hac2 := pub_two HAC.out
  clear B4 D5 g5 hb
  by_cases hba : b = ac
  · subst hba
    have x0 := B5.one.cell 0 _ rfl
    have x1 := B5.one.cell 1 _ rfl
    have x2 := B5.one.cell 2 _ rfl
    have x3 := B5.one.cell 3 _ rfl
    have x4 := B5.one.cell 4 _ rfl
    have B6 := B5
    have q0 := B5.drw.res.cell 0 _ rfl
    have q1 := B5.drw.res.cell 1 _ rfl
    have q2 := B5.drw.res.cell 2 _ rfl
    have q3 := B5.drw.res.cell 3 _ rfl
    have q4 := B5.drw.res.cell 4 _ rfl
    have z0 := B5.drw.res.free 0 _ rfl
    have z1 := B5.drw.res.free 1 _ rfl
    have z2 := B5.drw.res.free 2 _ rfl
    have z3 := B5.drw.res.free 3 _ rfl
    have z4 := B5.drw.res.free 4 _ rfl
    have x0 := B5.one.cell 0 _ rfl
    have x1 := B5.one.cell 1 _ rfl
    have x2 := B5.one.cell 2 _ rfl
    have x3 := B5.one.cell 3 _ rfl
    have x4 := B5.one.cell 4 _ rfl
    have f0 := B5.one.free 0 _ rfl
    have f1 := B5.one.free 1 _ rfl
    have f2 := B5.one.free 2 _ rfl
    have f3 := B5.one.free 3 _ rfl
    have f4 := B5.one.free 4 _ rfl
    have hrb : w.heap.size ≠ w4.heap.size := by omega
    have HB := Lib.hid B6
    clear B5 B6
    go_wp2_with fail
    refine bodyPost_ret (v := P5 ⟨n, b, 0, 1 + e, u⟩) (by simp [results, Tryz.results122, go_sem, q0, q1, q2, q3, q4]) rfl ?_
    refine ⟨_, p0 + 1 + 1 + 1 + 1 + 1, drawn_ok HN.out HAC.out (.inl rfl) (by omega) (by omega) HU.out, by omega, rfl, ?hd, ?hg⟩
    case hd =>
      iterate 5 (refine Draw.put ?_ (by dsimp only; omega) _)
      exact HB.out.drw.draw
    case hg =>
      iterate 5 (refine gset ?_ (Nat.le_refl _) _)
      exact HB.out.drw.grew
  · have nba : (b == ac) = false := by rw [beq_eq_false_iff_ne]; exact hba
    have x0 := B5.one.cell 0 _ rfl
    have x1 := B5.one.cell 1 _ rfl
    have x2 := B5.one.cell 2 _ rfl
    have x3 := B5.one.cell 3 _ rfl
    have x4 := B5.one.cell 4 _ rfl
    go_wp2_with fail
    refine (l1Chance_any 2 B5.drw.draw (by omega)).mono ?_
    rintro r w6 ⟨c, rfl, D6, O6⟩
    have B6 := B5.only O6 D6 (by omega) (by omega)
    clear B5 D6 O6 x0 x1 x2 x3 x4
    cases c
    · have B7 := B6
      have q0 := B6.drw.res.cell 0 _ rfl
      have q1 := B6.drw.res.cell 1 _ rfl
      have q2 := B6.drw.res.cell 2 _ rfl
      have q3 := B6.drw.res.cell 3 _ rfl
      have q4 := B6.drw.res.cell 4 _ rfl
      have z0 := B6.drw.res.free 0 _ rfl
      have z1 := B6.drw.res.free 1 _ rfl
      have z2 := B6.drw.res.free 2 _ rfl
      have z3 := B6.drw.res.free 3 _ rfl
      have z4 := B6.drw.res.free 4 _ rfl
      have x0 := B6.one.cell 0 _ rfl
      have x1 := B6.one.cell 1 _ rfl
      have x2 := B6.one.cell 2 _ rfl
      have x3 := B6.one.cell 3 _ rfl
      have x4 := B6.one.cell 4 _ rfl
      have f0 := B6.one.free 0 _ rfl
      have f1 := B6.one.free 1 _ rfl
      have f2 := B6.one.free 2 _ rfl
      have f3 := B6.one.free 3 _ rfl
      have f4 := B6.one.free 4 _ rfl
      have hrb : w.heap.size ≠ w4.heap.size := by omega
      have HB := Lib.hid B7
      clear B6 B7
      go_wp2_with fail
      refine bodyPost_ret (v := P5 ⟨n, ac, 0, 1 + e, u⟩) (by simp [results, Tryz.results122, go_sem, q0, q1, q2, q3, q4]) rfl ?_
      refine ⟨_, p0 + 1 + 1 + 1 + 1 + 1 + 1, drawn_ok HN.out HAC.out (.inl rfl) (by omega) (by omega) HU.out, by omega, rfl, ?hd, ?hg⟩
      case hd =>
        iterate 5 (refine Draw.put ?_ (by dsimp only; omega) _)
        exact HB.out.drw.draw
      case hg =>
        iterate 5 (refine gset ?_ (Nat.le_refl _) _)
        exact HB.out.drw.grew
    · have B7 := B6.put 2 (.int .i64 b) (by omega) (by omega) (by omega)
      have q0 := B6.drw.res.cell 0 _ rfl
      have q1 := B6.drw.res.cell 1 _ rfl
      have q2 := B6.drw.res.cell 2 _ rfl
      have q3 := B6.drw.res.cell 3 _ rfl
      have q4 := B6.drw.res.cell 4 _ rfl
      have z0 := B6.drw.res.free 0 _ rfl
      have z1 := B6.drw.res.free 1 _ rfl
      have z2 := B6.drw.res.free 2 _ rfl
      have z3 := B6.drw.res.free 3 _ rfl
      have z4 := B6.drw.res.free 4 _ rfl
      have x0 := B6.one.cell 0 _ rfl
      have x1 := B6.one.cell 1 _ rfl
      have x2 := B6.one.cell 2 _ rfl
      have x3 := B6.one.cell 3 _ rfl
      have x4 := B6.one.cell 4 _ rfl
      have f0 := B6.one.free 0 _ rfl
      have f1 := B6.one.free 1 _ rfl
      have f2 := B6.one.free 2 _ rfl
      have f3 := B6.one.free 3 _ rfl
      have f4 := B6.one.free 4 _ rfl
      have hrb : w.heap.size ≠ w4.heap.size := by omega
      have HB := Lib.hid B7
      clear B6 B7
      go_wp2_with fail
      refine bodyPost_ret (v := P5 ⟨n, ac, b, 1 + e, u⟩) (by simp [results, Tryz.results122, go_sem, q0, q1, q2, q3, q4]) rfl ?_
      refine ⟨_, p0 + 1 + 1 + 1 + 1 + 1 + 1, drawn_ok HN.out HAC.out (.inr HBB.out) hba (by omega) HU.out, by omega, rfl, ?hd, ?hg⟩
      case hd =>
        iterate 5 (refine Draw.put ?_ (by dsimp only; omega) _)
        exact HB.out.drw.draw
      case hg =>
        iterate 5 (refine gset ?_ (Nat.le_refl _) _)
        exact HB.out.drw.grew

set_option maxHeartbeats 1000000 in
theorem dl7Bent {w0 : World} {a : Option Addr} {len cap : Nat} {zs : List Int} {p0 : Nat} {w : World} (D : Draw w0 a len cap zs p0 w) (hp0 : p0 ≤ 500) :
    Calls Tryz.prog 115 #[.pointer (some ⟨w0.heap.size, 0, none⟩)] w (DPin (p0 + 8) (fun q => q.n.size ≤ 21) w0 a len cap zs w) := by
  have hlt := D.lt
  have R0 : DrwP w0 a len cap zs p0 w w.heap.size pinZero (w.alloc (.cells #[.string { data := #[] }, .int .i64 0, .int .i64 0, .int .i64 0, .int .i64 0] 59)) :=
    ⟨D.alloc _, gal (World.grownBy.refl w (some w0.heap.size)) _, At.new w pinZero 59⟩
  go_enter Tryz.func115, Tryz.ntmps115
  go_wp2_with fail
  generalize w.alloc (.cells #[.string { data := #[] }, .int .i64 0, .int .i64 0, .int .i64 0, .int .i64 0] 59) = W0 at *
  refine (dl7Draw R0.draw hp0).mono ?_
  rintro r w4 ⟨⟨n, ac, bk, e, u⟩, p, hf, hp, rfl, D1, g1⟩
  have hn : n.size ≤ 21 := by have := pin_size hf; dsimp only at this; omega
  have R1 := R0.kept g1 D1 (by omega)
  have lt4 := R1.res.lt (by simp)
  have B1 : BentP w0 a len cap zs p w w.heap.size pinZero w4.heap.size [.string n, .int .i64 ac, .int .i64 bk, .int .i64 e, .int .i64 u] (w4.alloc (.cells #[.string n, .int .i64 ac, .int .i64 bk, .int .i64 e, .int .i64 u] 59)) :=
    ⟨R1.alloc _, At.new w4 [.string n, .int .i64 ac, .int .i64 bk, .int .i64 e, .int .i64 u] 59⟩
  clear D R0 R1 D1 g1 hf
  go_wp2_with fail
  generalize w4.alloc (.cells #[.string n, .int .i64 ac, .int .i64 bk, .int .i64 e, .int .i64 u] 59) = v4 at *
  refine (dnext 10 B1.drw.draw (by omega)).mono ?_
  rintro r w5 ⟨sw, t0, t1, rfl, D2, O2⟩
  have B2 := B1.only O2 D2 (by omega) (by omega)
  clear B1 D2 O2 t1
  by_cases e0 : sw = 0
  · subst e0
    go_wp2_with fail
    refine (dl5Bent B2.drw.draw (by omega)).mono ?_
    rintro r w6 ⟨m, hs, rfl, D3, g3⟩
    have B3 := B2.kept g3 D3 (by omega) (by omega)
    have B4 := B3.put 0 (.string m) (by omega) (by omega) (by omega)
    clear B2 D3 g3
    have q0 := B3.drw.res.cell 0 _ rfl
    have q1 := B3.drw.res.cell 1 _ rfl
    have q2 := B3.drw.res.cell 2 _ rfl
    have q3 := B3.drw.res.cell 3 _ rfl
    have q4 := B3.drw.res.cell 4 _ rfl
    have z0 := B3.drw.res.free 0 _ rfl
    have z1 := B3.drw.res.free 1 _ rfl
    have z2 := B3.drw.res.free 2 _ rfl
    have z3 := B3.drw.res.free 3 _ rfl
    have z4 := B3.drw.res.free 4 _ rfl
    have x0 := B3.one.cell 0 _ rfl
    have x1 := B3.one.cell 1 _ rfl
    have x2 := B3.one.cell 2 _ rfl
    have x3 := B3.one.cell 3 _ rfl
    have x4 := B3.one.cell 4 _ rfl
    have f0 := B3.one.free 0 _ rfl
    have f1 := B3.one.free 1 _ rfl
    have f2 := B3.one.free 2 _ rfl
    have f3 := B3.one.free 3 _ rfl
    have f4 := B3.one.free 4 _ rfl
    have hrb : w.heap.size ≠ w4.heap.size := by omega
    have HB := Lib.hid B4
    clear B3 B4
    go_wp2_with fail
    refine bodyPost_ret (v := P5 ⟨m, ac, bk, e, u⟩) (by simp [results, Tryz.results115, go_sem, q0, q1, q2, q3, q4]) rfl ?_
    refine ⟨_, p + 1 + 1, hs, by omega, rfl, ?hd, ?hg⟩
    case hd =>
      iterate 5 (refine Draw.put ?_ (by dsimp only; omega) _)
      exact HB.out.drw.draw
    case hg =>
      iterate 5 (refine gset ?_ (Nat.le_refl _) _)
      exact HB.out.drw.grew
  by_cases e1 : sw = 1
  · subst e1
    have y0 := B2.one.cell 0 _ rfl
    have y1 := B2.one.cell 1 _ rfl
    have y2 := B2.one.cell 2 _ rfl
    have y3 := B2.one.cell 3 _ rfl
    have y4 := B2.one.cell 4 _ rfl
    go_wp2_with fail
    refine (dpick [ac, 5] 2 B2.drw.draw (by omega) (by omega) (by omega) rfl 2).mono ?_
    rintro r w6 ⟨y, hy, rfl, D3, O3⟩
    have B3 := (B2.alloc (.cells #[.int .i64 ac, .int .i64 5] 2)).only O3 D3 (by omega) (by omega)
    have B4 := B3.put 2 (.int .i64 y) (by omega) (by omega) (by omega)
    clear B2 D3 O3 hy y0 y1 y2 y3 y4
    have q0 := B3.drw.res.cell 0 _ rfl
    have q1 := B3.drw.res.cell 1 _ rfl
    have q2 := B3.drw.res.cell 2 _ rfl
    have q3 := B3.drw.res.cell 3 _ rfl
    have q4 := B3.drw.res.cell 4 _ rfl
    have z0 := B3.drw.res.free 0 _ rfl
    have z1 := B3.drw.res.free 1 _ rfl
    have z2 := B3.drw.res.free 2 _ rfl
    have z3 := B3.drw.res.free 3 _ rfl
    have z4 := B3.drw.res.free 4 _ rfl
    have x0 := B3.one.cell 0 _ rfl
    have x1 := B3.one.cell 1 _ rfl
    have x2 := B3.one.cell 2 _ rfl
    have x3 := B3.one.cell 3 _ rfl
    have x4 := B3.one.cell 4 _ rfl
    have f0 := B3.one.free 0 _ rfl
    have f1 := B3.one.free 1 _ rfl
    have f2 := B3.one.free 2 _ rfl
    have f3 := B3.one.free 3 _ rfl
    have f4 := B3.one.free 4 _ rfl
    have hrb : w.heap.size ≠ w4.heap.size := by omega
    have HB := Lib.hid B4
    clear B3 B4
    go_wp2_with fail
    refine bodyPost_ret (v := P5 ⟨n, ac, y, e, u⟩) (by simp [results, Tryz.results115, go_sem, q0, q1, q2, q3, q4]) rfl ?_
    refine ⟨_, p + 1 + 1, hn, by omega, rfl, ?hd, ?hg⟩
    case hd =>
      iterate 5 (refine Draw.put ?_ (by dsimp only; omega) _)
      exact HB.out.drw.draw
    case hg =>
      iterate 5 (refine gset ?_ (Nat.le_refl _) _)
      exact HB.out.drw.grew
  by_cases e2 : sw = 2
  · subst e2
    go_wp2_with fail
    refine (dpick [0, 200, 201] 3 B2.drw.draw (by omega) (by omega) (by omega) rfl 2).mono ?_
    rintro r w6 ⟨y, hy, rfl, D3, O3⟩
    have B3 := (B2.alloc (.cells #[.int .i64 0, .int .i64 200, .int .i64 201] 2)).only O3 D3 (by omega) (by omega)
    have B4 := B3.put 3 (.int .i64 y) (by omega) (by omega) (by omega)
    clear B2 D3 O3 hy
    have q0 := B3.drw.res.cell 0 _ rfl
    have q1 := B3.drw.res.cell 1 _ rfl
    have q2 := B3.drw.res.cell 2 _ rfl
    have q3 := B3.drw.res.cell 3 _ rfl
    have q4 := B3.drw.res.cell 4 _ rfl
    have z0 := B3.drw.res.free 0 _ rfl
    have z1 := B3.drw.res.free 1 _ rfl
    have z2 := B3.drw.res.free 2 _ rfl
    have z3 := B3.drw.res.free 3 _ rfl
    have z4 := B3.drw.res.free 4 _ rfl
    have x0 := B3.one.cell 0 _ rfl
    have x1 := B3.one.cell 1 _ rfl
    have x2 := B3.one.cell 2 _ rfl
    have x3 := B3.one.cell 3 _ rfl
    have x4 := B3.one.cell 4 _ rfl
    have f0 := B3.one.free 0 _ rfl
    have f1 := B3.one.free 1 _ rfl
    have f2 := B3.one.free 2 _ rfl
    have f3 := B3.one.free 3 _ rfl
    have f4 := B3.one.free 4 _ rfl
    have hrb : w.heap.size ≠ w4.heap.size := by omega
    have HB := Lib.hid B4
    clear B3 B4
    go_wp2_with fail
    refine bodyPost_ret (v := P5 ⟨n, ac, bk, y, u⟩) (by simp [results, Tryz.results115, go_sem, q0, q1, q2, q3, q4]) rfl ?_
    refine ⟨_, p + 1 + 1, hn, by omega, rfl, ?hd, ?hg⟩
    case hd =>
      iterate 5 (refine Draw.put ?_ (by dsimp only; omega) _)
      exact HB.out.drw.draw
    case hg =>
      iterate 5 (refine gset ?_ (Nat.le_refl _) _)
      exact HB.out.drw.grew
  by_cases e3 : sw = 3
  · subst e3
    go_wp2_with fail
    refine (dpick [-1, 10000] 2 B2.drw.draw (by omega) (by omega) (by omega) rfl 2).mono ?_
    rintro r w6 ⟨y, hy, rfl, D3, O3⟩
    have B3 := (B2.alloc (.cells #[.int .i64 (-1), .int .i64 10000] 2)).only O3 D3 (by omega) (by omega)
    have B4 := B3.put 4 (.int .i64 y) (by omega) (by omega) (by omega)
    clear B2 D3 O3 hy
    have q0 := B3.drw.res.cell 0 _ rfl
    have q1 := B3.drw.res.cell 1 _ rfl
    have q2 := B3.drw.res.cell 2 _ rfl
    have q3 := B3.drw.res.cell 3 _ rfl
    have q4 := B3.drw.res.cell 4 _ rfl
    have z0 := B3.drw.res.free 0 _ rfl
    have z1 := B3.drw.res.free 1 _ rfl
    have z2 := B3.drw.res.free 2 _ rfl
    have z3 := B3.drw.res.free 3 _ rfl
    have z4 := B3.drw.res.free 4 _ rfl
    have x0 := B3.one.cell 0 _ rfl
    have x1 := B3.one.cell 1 _ rfl
    have x2 := B3.one.cell 2 _ rfl
    have x3 := B3.one.cell 3 _ rfl
    have x4 := B3.one.cell 4 _ rfl
    have f0 := B3.one.free 0 _ rfl
    have f1 := B3.one.free 1 _ rfl
    have f2 := B3.one.free 2 _ rfl
    have f3 := B3.one.free 3 _ rfl
    have f4 := B3.one.free 4 _ rfl
    have hrb : w.heap.size ≠ w4.heap.size := by omega
    have HB := Lib.hid B4
    clear B3 B4
    go_wp2_with fail
    refine bodyPost_ret (v := P5 ⟨n, ac, bk, e, y⟩) (by simp [results, Tryz.results115, go_sem, q0, q1, q2, q3, q4]) rfl ?_
    refine ⟨_, p + 1 + 1, hn, by omega, rfl, ?hd, ?hg⟩
    case hd =>
      iterate 5 (refine Draw.put ?_ (by dsimp only; omega) _)
      exact HB.out.drw.draw
    case hg =>
      iterate 5 (refine gset ?_ (Nat.le_refl _) _)
      exact HB.out.drw.grew
  · have n0 : (sw == 0) = false := by rw [beq_eq_false_iff_ne]; exact e0
    have n1 : (sw == 1) = false := by rw [beq_eq_false_iff_ne]; exact e1
    have n2 : (sw == 2) = false := by rw [beq_eq_false_iff_ne]; exact e2
    have n3 : (sw == 3) = false := by rw [beq_eq_false_iff_ne]; exact e3
    have B4 := B2
    have q0 := B2.drw.res.cell 0 _ rfl
    have q1 := B2.drw.res.cell 1 _ rfl
    have q2 := B2.drw.res.cell 2 _ rfl
    have q3 := B2.drw.res.cell 3 _ rfl
    have q4 := B2.drw.res.cell 4 _ rfl
    have z0 := B2.drw.res.free 0 _ rfl
    have z1 := B2.drw.res.free 1 _ rfl
    have z2 := B2.drw.res.free 2 _ rfl
    have z3 := B2.drw.res.free 3 _ rfl
    have z4 := B2.drw.res.free 4 _ rfl
    have x0 := B2.one.cell 0 _ rfl
    have x1 := B2.one.cell 1 _ rfl
    have x2 := B2.one.cell 2 _ rfl
    have x3 := B2.one.cell 3 _ rfl
    have x4 := B2.one.cell 4 _ rfl
    have f0 := B2.one.free 0 _ rfl
    have f1 := B2.one.free 1 _ rfl
    have f2 := B2.one.free 2 _ rfl
    have f3 := B2.one.free 3 _ rfl
    have f4 := B2.one.free 4 _ rfl
    have hrb : w.heap.size ≠ w4.heap.size := by omega
    have HB := Lib.hid B4
    clear B2 B4
    go_wp2_with fail
    refine bodyPost_ret (v := P5 ⟨n, ac, bk, e, u⟩) (by simp [results, Tryz.results115, go_sem, q0, q1, q2, q3, q4]) rfl ?_
    refine ⟨_, p + 1, hn, by omega, rfl, ?hd, ?hg⟩
    case hd =>
      iterate 5 (refine Draw.put ?_ (by dsimp only; omega) _)
      exact HB.out.drw.draw
    case hg =>
      iterate 5 (refine gset ?_ (Nat.le_refl _) _)
      exact HB.out.drw.grew
end Go.Proofs.YtlodhleihnlchaaGreatDoor
namespace Go.Proofs.YtlodhleihnlchaaGreatDoor
open Go.RowKit
set_option maxRecDepth 100000
set_option linter.unusedVariables false

theorem l1Digits_any (k : Nat) (w : World) (hk : k < 10) : Calls Tryz.prog 265 #[.int .i64 k] w fun e w' => ∃ t : ByteArray, t.size = 1 ∧ e = .returned (.string t) ∧ Below w.heap.size w w' := by
  have hO := own_lit (k := .u8) w [48 + (k : Int)] 1 5 (B := w.heap.size) (Nat.le_refl _) rfl (by simp only [maxLen]; omega)
  have hrow := Own.row hO (by intro z hz; simp at hz; subst hz; exact byte_wf (show M.byteB _ by unfold M.byteB; omega))
  have cv : (convert 22 9 (.slice (some ⟨w.heap.size, 0, none⟩) 1 1)).run Tryz.prog (w.alloc (.cells #[.int .u8 (48 + (k : Int))] 5)) = .ok (.string (strOf [48 + (k : Int)])) (w.alloc (.cells #[.int .u8 (48 + (k : Int))] 5)) := conv_row hrow
  have hs : (strOf [48 + (k : Int)]).size = 1 := rfl
  have hb := bal (Below.refl _ w) (.cells #[.int .u8 (48 + (k : Int))] 5)
  have HS := Lib.hid hs
  generalize strOf [48 + (k : Int)] = tx at *
  clear hO hrow hs
  have hk2 : (k : Int) < 10 := by omega
  go_enter Tryz.func265, Tryz.ntmps265
  go_wp2_with fail
  go_ret
  exact ⟨tx, HS.out, rfl, hb⟩

def DPins (K : Nat) (Q : List PinD → Prop) (w0 : World) (a : Option Addr) (len cap : Nat) (zs : List Int) (w : World) (e : Ending) (w' : World) : Prop :=
  ∃ (x : Option Addr) (n c : Nat) (ps : List PinD) (p : Nat), Q ps ∧ p ≤ K ∧ e = .returned (.slice x n c) ∧ OwnP w' w.heap.size (.slice x n c) ps ∧ Draw w0 a len cap zs p w' ∧ w.grownBy w' (some w0.heap.size)
theorem put1_ok {ps : List PinD} {q : PinD} (h : ∀ p ∈ ps, p.f = 0) (hq : q.f = 0) : (∀ p ∈ put1 ps q, p.f = 0) ∧ (put1 ps q).length ≤ ps.length + 1 := by
  unfold put1
  split
  · refine ⟨fun p hp => ?_, ?_⟩
    · rcases putL_mem hp with rfl | hp
      · exact hq
      · exact h p hp
    · have h2 := (putG_perm q ps).length_eq
      have h3 := List.length_filter_le (fun x => !decide (x.nm = q.nm)) ps
      unfold putL
      simp only [List.length_cons] at h2
      omega
  · exact ⟨by simp, by simp⟩
structure DLoop (w0 : World) (a : Option Addr) (len cap : Nat) (zs : List Int) (p0 : Nat) (w : World) (k : Nat) (x : Option Addr) (n c : Nat) (ps : List PinD) (cur : World) : Prop where
  draw : ∃ p, p + 6 * k ≤ p0 + 25 ∧ Draw w0 a len cap zs p cur
  grew : w.grownBy cur (some w0.heap.size)
  own : OwnP cur w.heap.size (.slice x n c) ps
  ok : ∀ p ∈ ps, p.f = 0
  few : ps.length + k ≤ 4
set_option maxHeartbeats 1000000 in
theorem dl7DrawPins {w0 : World} {a : Option Addr} {len cap : Nat} {zs : List Int} {p0 : Nat} {w : World} (D : Draw w0 a len cap zs p0 w) (hp0 : p0 ≤ 400) :
    Calls Tryz.prog 234 #[.pointer (some ⟨w0.heap.size, 0, none⟩)] w (DPins (p0 + 25) (fun ps => (∀ p ∈ ps, p.f = 0) ∧ ps.length ≤ 4) w0 a len cap zs w) := by
  have hlt := D.lt
  go_enter Tryz.func234, Tryz.ntmps234
  have O0 : OwnP (w.alloc (.cells #[] 59)) w.heap.size (.slice (some ⟨w.heap.size, 0, none⟩) 0 0) [] := Own.made w #[] 59 0 (Nat.le_refl _) (by simp) rfl
  go_wp2_with fail
  refine (dnext 5 (D.alloc _) (by omega)).mono ?_
  rintro r w1 ⟨v, v0, v1, rfl, D1, O1⟩
  have hv : v < 5 := by omega
  obtain ⟨v, rfl⟩ := Int.eq_ofNat_of_zero_le v0
  have T0 : DLoop w0 a len cap zs p0 w v (some ⟨w.heap.size, 0, none⟩) 0 0 [] w1 := ⟨⟨_, by omega, D1⟩, gtr (gal (World.grownBy.refl w _) _) O1.grown, Own.only O0 O1 (by omega), by simp, by simp; omega⟩
  clear O0 D D1 O1 v0 v1
  go_wp2_with fail
  go_loopw [3, 4] (fun x i wr => ∃ (k : Nat) (b : Option Addr) (n c : Nat) (ps : List PinD), k ≤ 4 ∧ i = .int .i64 k ∧ x = .slice b n c ∧ DLoop w0 a len cap zs p0 w k b n c ps wr) (fun _ i _ => (intOf i).toNat)
  case atStart => exact ⟨v, _, _, _, _, by omega, rfl, rfl, T0⟩
  case round =>
    obtain ⟨k, b, n, c, ps, hk, rfl, rfl, hT⟩ := hrel
    clear T0
    by_cases h0 : k = 0
    · subst h0
      obtain ⟨p, hp, DD⟩ := hT.draw
      have F := Lib.hid (show DPins (p0 + 25) (fun ps => (∀ p ∈ ps, p.f = 0) ∧ ps.length ≤ 4) w0 a len cap zs w (.returned (.slice b n c)) wr from ⟨b, n, c, ps, p, ⟨hT.ok, hT.few⟩, by omega, rfl, hT.own, DD, hT.grew⟩)
      clear hT DD
      go_wp2_with fail
      go_ret
      exact F.out
    · have hk0 : (0 : Int) < k := by omega
      obtain ⟨p, hp, DD⟩ := hT.draw
      have hgt : ∀ {u1 u2 : World} {v : Value} {qs : List PinD}, OwnP u1 w.heap.size v qs → u1.grownBy u2 (some w0.heap.size) → OwnP u2 w.heap.size v qs := fun h g => Own.keep h g.size fun k hk => g.block k (Own.lt h k hk).2 (fun e => by injection e with e; have := (Own.lt h k hk).1; omega)
      go_wp2_with fail
      refine (dl7Draw DD (by omega)).mono ?_
      rintro r w2 ⟨q, p2, hq, hp2, rfl, D2, g2⟩
      have Q2 := hgt hT.own g2
      have G2 := gtr hT.grew g2
      have hok := hT.ok
      have hfew := hT.few
      have R2 := Q2.row (fun x hx => by have := pin_size (hok x hx); simp only [maxLen]; omega)
      have hnl : n ≤ 1000 := by have := R2.length; omega
      have PT := l7Put_any b n c _ ps q w2 R2 (Nat.le_refl _) hnl
      have h1 := put1_ok hok hq
      clear DD g2 hT
      go_wp2_with fail
      refine PT.mono ?_
      rintro r w3 ⟨x3, n3, c3, rfl, O3, b3⟩
      clear PT R2
      by_cases hc : put0 ps q = 0
      · have T3 : DLoop w0 a len cap zs p0 w (k - 1) x3 n3 c3 (put1 ps q) w3 := ⟨⟨_, by omega, D2.below b3⟩, gbe G2 b3, O3.less G2.size, h1.1, by omega⟩
        clear D2 G2 Q2 b3 O3 h1
        rw [hc]
        go_wp2_with fail
        go_roundw
        case rel => exact ⟨k - 1, _, _, _, _, by omega, by go_num, rfl, T3⟩
        case measure => simp [intOf]; omega
      · have T3 : DLoop w0 a len cap zs p0 w (k - 1) b n c ps w3 := ⟨⟨_, by omega, D2.below b3⟩, gbe G2 b3, Q2.below b3, hok, by omega⟩
        have hc2 : (put0 ps q == 0) = false := by rw [beq_eq_false_iff_ne]; exact hc
        generalize put0 ps q = pc at *
        clear D2 G2 Q2 b3 O3 h1
        go_wp2_with fail
        go_roundw
        case rel => exact ⟨k - 1, _, _, _, _, by omega, by go_num, rfl, T3⟩
        case measure => simp [intOf]; omega
theorem gown {w u u' : World} {g : Nat} {row : Option Nat} (h : w.grownBy u (some g)) (k : u.grownBy u' row) (hr : ∀ i, row = some i → w.heap.size ≤ i) : w.grownBy u' (some g) :=
  ⟨k.os.trans h.os, k.tape.trans h.tape, k.output.trans h.output, Nat.le_trans h.size k.size, fun i hi hne => (k.block i (Nat.lt_of_lt_of_le hi h.size) (fun e => by have := hr i e.symm; omega)).trans (h.block i hi hne)⟩
structure DList (w0 : World) (a : Option Addr) (len cap : Nat) (zs : List Int) (p : Nat) (w : World) (v : Value) (ps : List PinD) (cur : World) : Prop where
  draw : Draw w0 a len cap zs p cur
  grew : w.grownBy cur (some w0.heap.size)
  own : OwnP cur w.heap.size v ps
theorem DList.app {w0 : World} {a : Option Addr} {len cap : Nat} {zs : List Int} {p : Nat} {w : World} {v v3 : Value} {ps : List PinD} {cur w3 : World} {o : Obj} {q : PinD} (h : DList w0 a len cap zs p w v ps cur) (hw : w0.heap.size < w.heap.size)
    (hown : Own w3 w.heap.size 5 v3 (ps.length + 1) (flat ps ++ q.vals)) (hg : (cur.alloc o).grownBy w3 v.ownBlock) : DList w0 a len cap zs p w v3 (ps ++ [q]) w3 := by
  have hl := fun k hk => (Own.lt h.own k hk).1
  refine ⟨(h.draw.alloc o).grown hg (fun k hk => by have := hl k hk; omega), gown (gal h.grew o) hg hl, ?_⟩
  unfold OwnP
  rw [flat_append, List.length_append]
  simpa [flat] using hown
theorem own_cells (w : World) (xs : List Value) (n s : Nat) (t : TypeId) (hl : xs.length = n * s) (hm : n ≤ maxLen) : Own (w.alloc (.cells xs.toArray t)) w.heap.size s (.slice (some ⟨w.heap.size, 0, none⟩) n n) n xs :=
  ⟨hl, .inr ⟨w.heap.size, n, rfl, Nat.le_refl _, by simp, Nat.le_refl _, hm, fun j u hu => (At.new w xs t).cell j u hu, fun j hj => by
    have h1 := (At.new w xs t).cell j (xs[j]'(by omega)) (by simp [show j < xs.length by omega])
    exact ⟨by rw [h1]; rfl, (At.new w xs t).free j (xs[j]'(by omega)) (by simp [show j < xs.length by omega])⟩⟩⟩
set_option maxHeartbeats 2000000 in
theorem dl7BentPins {w0 : World} {a : Option Addr} {len cap : Nat} {zs : List Int} {p0 : Nat} {w : World} (D : Draw w0 a len cap zs p0 w) (hp0 : p0 ≤ 400) :
    Calls Tryz.prog 206 #[.pointer (some ⟨w0.heap.size, 0, none⟩)] w (DPins (p0 + 40) (fun ps => (∀ p ∈ ps, p.n.size ≤ 21) ∧ ps.length ≤ 5) w0 a len cap zs w) := by
  have hlt := D.lt
  have hgt : ∀ {u1 u2 : World} {v : Value} {qs : List PinD}, OwnP u1 w.heap.size v qs → u1.grownBy u2 (some w0.heap.size) → OwnP u2 w.heap.size v qs := fun h g => Own.keep h g.size fun k hk => g.block k (Own.lt h k hk).2 (fun e => by injection e with e; have := (Own.lt h k hk).1; omega)
  obtain ⟨i0, hi0, hz0, hz1, hz2⟩ := info_parts pin_info
  go_enter Tryz.func206, Tryz.ntmps206
  go_wp2_with fail
  refine (dl7DrawPins D hp0).mono ?_
  rintro r w1 ⟨x, n, c, ps, p, ⟨hok, hfew⟩, hp, rfl, O1, D1, g1⟩
  have hsz : ∀ q ∈ ps, q.n.size ≤ 21 := fun q hq => by have := pin_size (hok q hq); omega
  have HSZ := Lib.hid hsz
  clear D hok hsz
  go_wp2_with fail
  refine (dnext 12 D1 (by omega)).mono ?_
  rintro r w2 ⟨sw, t0, t1, rfl, D2, O2⟩
  have Q2 := hgt O1 O2.grown
  have G2 := gtr g1 O2.grown
  clear O1 D1 g1 O2 t1
  by_cases e0 : sw = 0
  · subst e0
    go_wp2_with fail
    refine (dl7Bent D2 (by omega)).mono ?_
    rintro r w3' ⟨q, p3, hq, hp3, rfl, D3, g3⟩
    have L3 : DList w0 a len cap zs p3 w (.slice x n c) ps w3' := ⟨D3, gtr G2 g3, hgt Q2 g3⟩
    have sz3 := L3.grew.size
    have HQ := Lib.hid hq
    clear D3 g3 Q2 G2 D2 hq
    go_wp2_with (at_builtin; refine wpList_append_src _ rfl (.tmp 11) (.tmp 14) 53 53 rfl w.heap.size 59 i0 (P5 pin0) 5 48 Tryz.underlying53 hi0 hz0 hz1 hz2 rfl _ _ _ rfl (Own.alloc L3.own _) _ 1 (PinD.vals q) rfl (src_new5 _ q _ _ _ Tryz.underlying53) (by simp only [maxLen]; omega) (by omega) (by simp; omega) ?_; intro v3 w3 hown hgrow hat)
    have L4 := L3.app hlt hown hgrow
    obtain ⟨x4, c4, e4, -⟩ := L4.own.form
    subst e4
    clear hown hgrow hat L3 hi0 hz0 hz1 hz2
    go_wp2_with fail
    go_ret
    exact ⟨_, _, _, ps ++ [q], _, ⟨fun y hy => by rcases List.mem_append.1 hy with hy | hy; exact HSZ.out y hy; simp at hy; subst hy; exact HQ.out, by simp; omega⟩, by omega, rfl, L4.own, L4.draw, L4.grew⟩
  by_cases e1 : sw = 1
  · subst e1
    have hmk : (Instr.makeSlice 53 (.int .i64 5) (.int .i64 5)).run Tryz.prog w2 = .ok (.slice (some ⟨w2.heap.size, 0, none⟩) 5 5) (w2.alloc (.cells (flat (List.replicate 5 pin0)).toArray 59)) := by
      have := run_make (P := Tryz.prog) w2 53 59 i0 (P5 pin0) Tryz.underlying53 hi0 hz0 .i64 .i64 5 5 (by omega) (by omega) (by rw [hz2]; omega) (by omega)
      rw [hz1] at this
      have e5 : madeCells (P5 pin0).cells (Int.toNat 5 * 5) = (flat (List.replicate 5 pin0)).toArray := by kernel_rfl
      rw [e5] at this
      exact this
    have O5 : OwnP (w2.alloc (.cells (flat (List.replicate 5 pin0)).toArray 59)) w2.heap.size (.slice (some ⟨w2.heap.size, 0, none⟩) 5 5) (List.replicate 5 pin0) := own_cells w2 (flat (List.replicate 5 pin0)) 5 5 59 rfl (by simp only [maxLen]; omega)
    have F : DPins (p0 + 40) (fun ps => (∀ p ∈ ps, p.n.size ≤ 21) ∧ ps.length ≤ 5) w0 a len cap zs w (.returned (.slice (some ⟨w2.heap.size, 0, none⟩) 5 5)) (w2.alloc (.cells (flat (List.replicate 5 pin0)).toArray 59)) :=
      ⟨_, _, _, List.replicate 5 pin0, _, ⟨fun y hy => by rw [List.eq_of_mem_replicate hy]; exact Nat.zero_le _, by simp⟩, by omega, rfl, O5.less G2.size, D2.alloc _, gal G2 _⟩
    have HF := Lib.hid F
    generalize w2.alloc (.cells (flat (List.replicate 5 pin0)).toArray 59) = w5 at *
    clear F O5 hi0 hz0 hz1 hz2 Q2 G2 D2
    go_wp2_with fail
    go_ret
    exact HF.out
  by_cases e2 : sw = 2
  · subst e2
    have T0 : DList w0 a len cap zs (p + 1) w (.slice none 0 0) [] w2 := ⟨D2, G2, OwnP.nil _ _⟩
    clear Q2 D2 G2
    go_wp2_with fail
    go_loopw [3, 4] (fun v i wr => ∃ (k : Nat) (qs : List PinD), k ≤ 4 ∧ i = .int .i64 k ∧ qs.length = k ∧ (∀ q ∈ qs, q.n.size ≤ 21) ∧ DList w0 a len cap zs (p + 1) w v qs wr) (fun _ i _ => 4 - (intOf i).toNat)
    case atStart => exact ⟨0, [], by omega, rfl, rfl, by simp, T0⟩
    case round =>
      obtain ⟨k, qs, hk, rfl, hql, hqs, hT⟩ := hrel
      clear T0
      obtain ⟨vx, vc, hv, -⟩ := hT.own.form
      subst hv
      by_cases hk4 : k < 4
      · have hk4' : (k : Int) < 4 := by omega
        have HQ := Lib.hid hqs
        have HQL := Lib.hid hql
        clear hqs
        have DG := l1Digits_any k wr (by omega)
        go_wp2_with fail
        refine DG.mono ?_
        rintro r u1 ⟨tx, htx, rfl, b1⟩
        have hT1 : DList w0 a len cap zs (p + 1) w (.slice vx qs.length vc) qs u1 := ⟨hT.draw.below b1, gbe hT.grew b1, hT.own.below b1⟩
        have hsum : (⟨#[110]⟩ : ByteArray).size + tx.size ≤ 9223372036854775807 := by show 1 + tx.size ≤ _; omega
        have hadd := run_string_add_sum (P := Tryz.prog) u1 ⟨#[110]⟩ tx hsum
        have hns : ((⟨#[110]⟩ : ByteArray) ++ tx).size ≤ 21 := by
          have : ((⟨#[110]⟩ : ByteArray) ++ tx).size = 1 + tx.size := by simp [ByteArray.size_append]; rfl
          omega
        have HNS := Lib.hid hns
        have sz1 := hT1.grew.size
        clear hT DG b1 hns hql htx hsum
        generalize (⟨#[110]⟩ : ByteArray) ++ tx = nm at *
        have hqn : qs.length ≤ 4 := by have := HQL.out; omega
        go_wp2_with (at_builtin; refine wpList_append_src _ rfl (.tmp 25) (.tmp 30) 53 53 rfl w.heap.size 59 i0 (P5 pin0) 5 48 Tryz.underlying53 hi0 hz0 hz1 hz2 rfl _ _ _ rfl (Own.alloc hT1.own _) _ 1 (PinD.vals (PinD.mk nm 4 0 1 0)) rfl (src_new5 _ (PinD.mk nm 4 0 1 0) _ _ _ Tryz.underlying53) (by simp only [maxLen]; omega) (by omega) (by simp; omega) ?_; intro v3 w3 hown hgrow hat)
        have L4 := hT1.app hlt hown hgrow
        clear hown hgrow hat hT1
        go_wp2_with fail
        go_roundw
        case rel => exact ⟨k + 1, _, by omega, by go_num, by rw [List.length_append, HQL.out]; rfl, fun y hy => by rcases List.mem_append.1 hy with hy | hy; exact HQ.out y hy; simp at hy; subst hy; exact HNS.out, L4⟩
        case measure => simp [intOf]; omega
      · obtain rfl : k = 4 := by omega
        clear hi0 hz0 hz1 hz2
        have F := Lib.hid (show DPins (p0 + 40) (fun ps => (∀ p ∈ ps, p.n.size ≤ 21) ∧ ps.length ≤ 5) w0 a len cap zs w (.returned (.slice vx qs.length vc)) wr from ⟨_, _, _, qs, _, ⟨hqs, by omega⟩, by omega, rfl, hT.own, hT.draw, hT.grew⟩)
        clear hT hqs hql
        go_wp2_with fail
        go_ret
        exact F.out
  · have n0 : (sw == 0) = false := by rw [beq_eq_false_iff_ne]; exact e0
    have n1 : (sw == 1) = false := by rw [beq_eq_false_iff_ne]; exact e1
    have n2 : (sw == 2) = false := by rw [beq_eq_false_iff_ne]; exact e2
    clear hi0 hz0 hz1 hz2
    go_wp2_with fail
    go_ret
    exact ⟨_, _, _, ps, _, ⟨HSZ.out, by omega⟩, by omega, rfl, Q2, D2, G2⟩
end Go.Proofs.YtlodhleihnlchaaGreatDoor
namespace Go.Proofs.YtlodhleihnlchaaGreatDoor
open Go.RowKit
set_option linter.unusedVariables false

structure TlsaD where
  n : ByteArray
  u : Int
  m : Int
  v : Int
def TlsaD.nm (p : TlsaD) : List UInt8 := p.n.data.toList
def TlsaD.f (p : TlsaD) : Int := M.tlsaF p.nm p.u p.m p.v
def tls0 : TlsaD := ⟨{ data := #[] }, 0, 0, 0⟩
instance : Inhabited TlsaD := ⟨tls0⟩
abbrev TV (p : TlsaD) : Value := .agg #[.string p.n, .int .i64 p.u, .int .i64 p.m, .int .i64 p.v]
def TlsaD.vals (p : TlsaD) : List Value := [.string p.n, .int .i64 p.u, .int .i64 p.m, .int .i64 p.v]
theorem TlsaD.vals_length (p : TlsaD) : p.vals.length = 4 := rfl
def flatT (ps : List TlsaD) : List Value := ps.flatMap TlsaD.vals
theorem flatT_cons (p : TlsaD) (ps : List TlsaD) : flatT (p :: ps) = p.vals ++ flatT ps := by simp [flatT]
theorem flatT_append (ps qs : List TlsaD) : flatT (ps ++ qs) = flatT ps ++ flatT qs := by simp [flatT]
theorem flatT_length : ∀ ps : List TlsaD, (flatT ps).length = ps.length * 4
  | [] => rfl
  | p :: r => by rw [flatT_cons, List.length_append, flatT_length r, TlsaD.vals_length, List.length_cons]; omega
theorem flatT_get : ∀ (ps : List TlsaD) (j i : Nat) (v : Value), j < ps.length → (ps[j]?.getD tls0).vals[i]? = some v → (flatT ps)[j * 4 + i]? = some v
  | [], j, i, v, hj, _ => by simp at hj
  | p :: r, 0, i, v, _, h => by
    have hi : i < 4 := by have := (List.getElem?_eq_some_iff.1 h).1; simpa [TlsaD.vals_length] using this
    rw [flatT_cons, Nat.zero_mul, Nat.zero_add, List.getElem?_append_left (by rw [TlsaD.vals_length]; exact hi)]
    simpa using h
  | p :: r, j + 1, i, v, hj, h => by
    have := flatT_get r j i v (by simpa using hj) (by simpa using h)
    rw [flatT_cons, List.getElem?_append_right (by rw [TlsaD.vals_length]; omega), TlsaD.vals_length, show (j + 1) * 4 + i - 4 = j * 4 + i by omega]
    exact this
theorem flatT_set : ∀ (ps : List TlsaD) (j : Nat) (p : TlsaD), j < ps.length → flatT (ps.set j p) = (((((flatT ps).set (j * 4) (.string p.n)).set (j * 4 + 1) (.int .i64 p.u)).set (j * 4 + 2) (.int .i64 p.m)).set (j * 4 + 3) (.int .i64 p.v))
  | [], j, p, hj => by simp at hj
  | q :: r, 0, p, _ => by simp [flatT_cons, TlsaD.vals]
  | q :: r, j + 1, p, hj => by
    rw [List.set_cons_succ, flatT_cons, flatT_set r j p (by simpa using hj), flatT_cons]
    simp only [TlsaD.vals, List.cons_append, List.nil_append, show (j + 1) * 4 = j * 4 + 1 + 1 + 1 + 1 by omega, show j * 4 + 1 + 1 + 1 + 1 + 1 = (j * 4 + 1) + 1 + 1 + 1 + 1 by omega, show j * 4 + 1 + 1 + 1 + 1 + 2 = (j * 4 + 2) + 1 + 1 + 1 + 1 by omega, show j * 4 + 1 + 1 + 1 + 1 + 3 = (j * 4 + 3) + 1 + 1 + 1 + 1 by omega, List.set_cons_succ]

def useT (l : List UInt8) (t : TlsaD) : Bool := decide (t.f = 0) && (decide (t.u = 3) && decide (t.nm = l))
def usable (l : List UInt8) (ts : List TlsaD) : List TlsaD := ts.filter (useT l)
theorem usable_mem {l : List UInt8} {ts : List TlsaD} {t : TlsaD} (h : t ∈ usable l ts) : t ∈ ts ∧ t.f = 0 ∧ t.u = 3 ∧ t.nm = l := by
  obtain ⟨h1, h2⟩ := List.mem_filter.1 h
  simp only [useT, Bool.and_eq_true, decide_eq_true_eq] at h2
  exact ⟨h1, h2.1, h2.2.1, h2.2.2⟩
theorem usable_le (l : List UInt8) (ts : List TlsaD) : (usable l ts).length ≤ ts.length := List.length_filter_le _ _
theorem usable_next {l : List UInt8} {ts : List TlsaD} {k : Nat} (hk : k < ts.length) : usable l (ts.take (k + 1)) = usable l (ts.take k) ++ (if useT l (ts[k]?.getD tls0) then [ts[k]?.getD tls0] else []) := by
  unfold usable
  rw [List.take_succ_eq_append_getElem hk, List.filter_append, List.getElem?_eq_getElem hk]
  congr 1
  cases h : useT l ts[k] <;> simp [h]
def usableC (ts : List TlsaD) (l : List UInt8) : Int := if 8 < ts.length then 2 else M.nameF l
def usableR (ts : List TlsaD) (l : List UInt8) : List TlsaD := if usableC ts l = 0 then usable (M.nrm l) ts else []
theorem usableC_many {ts : List TlsaD} {l : List UInt8} (h : 8 < ts.length) : usableC ts l = 2 := by unfold usableC; rw [if_pos h]
theorem usableC_name {ts : List TlsaD} {l : List UInt8} (h : ¬ 8 < ts.length) : usableC ts l = M.nameF l := by unfold usableC; rw [if_neg h]
theorem usableR_no {ts : List TlsaD} {l : List UInt8} (h : usableC ts l ≠ 0) : usableR ts l = [] := by unfold usableR; rw [if_neg h]
theorem usableR_yes {ts : List TlsaD} {l : List UInt8} (h : usableC ts l = 0) : usableR ts l = usable (M.nrm l) ts := by unfold usableR; rw [if_pos h]
theorem usableC_zero {ts : List TlsaD} {l : List UInt8} (h : usableC ts l = 0) : ts.length ≤ 8 ∧ M.nameF l = 0 := by
  by_cases h1 : 8 < ts.length
  · rw [usableC_many h1] at h; cases h
  · rw [usableC_name h1] at h; exact ⟨by omega, h⟩
theorem usableR_len {ts : List TlsaD} {l : List UInt8} : (usableR ts l).length ≤ 8 := by
  unfold usableR
  split
  · rename_i h
    have := (usableC_zero h).1
    have := usable_le (M.nrm l) ts
    omega
  · simp
structure AskD where
  first : Bool
  ps : List PinD
  ts : List TlsaD
  n : ByteArray
  p : Int
  t : Int
def AskD.nm (a : AskD) : List UInt8 := a.n.data.toList
def askF (a : AskD) : Int := if pinsF a.ps = 0 then (if 8 < a.ts.length then 2 else if M.nameF a.nm = 0 then (if pubB a.p && timB a.t then 0 else 3) else M.nameF a.nm) else pinsF a.ps
theorem askF_pins {a : AskD} (h : pinsF a.ps ≠ 0) : askF a = pinsF a.ps := by unfold askF; rw [if_neg h]
theorem askF_many {a : AskD} (h : pinsF a.ps = 0) (h1 : 8 < a.ts.length) : askF a = 2 := by unfold askF; rw [if_pos h, if_pos h1]
theorem askF_name {a : AskD} (h : pinsF a.ps = 0) (h1 : ¬ 8 < a.ts.length) (h2 : M.nameF a.nm ≠ 0) : askF a = M.nameF a.nm := by unfold askF; rw [if_pos h, if_neg h1, if_neg h2]
theorem askF_range {a : AskD} (h : pinsF a.ps = 0) (h1 : ¬ 8 < a.ts.length) (h2 : M.nameF a.nm = 0) (h3 : (pubB a.p && timB a.t) = false) : askF a = 3 := by unfold askF; rw [if_pos h, if_neg h1, if_pos h2, h3]; rfl
theorem askF_yes {a : AskD} (h : pinsF a.ps = 0) (h1 : ¬ 8 < a.ts.length) (h2 : M.nameF a.nm = 0) (h3 : (pubB a.p && timB a.t) = true) : askF a = 0 := by unfold askF; rw [if_pos h, if_neg h1, if_pos h2, h3]; rfl
theorem askF_zero {a : AskD} (h : askF a = 0) : pinsF a.ps = 0 ∧ a.ts.length ≤ 8 ∧ M.nameF a.nm = 0 ∧ pubB a.p = true ∧ timB a.t = true := by
  by_cases h0 : pinsF a.ps = 0
  · by_cases h1 : 8 < a.ts.length
    · rw [askF_many h0 h1] at h; cases h
    · by_cases h2 : M.nameF a.nm = 0
      · cases h3 : (pubB a.p && timB a.t)
        · rw [askF_range h0 h1 h2 h3] at h; cases h
        · simp only [Bool.and_eq_true] at h3
          exact ⟨h0, by omega, h2, h3.1, h3.2⟩
      · rw [askF_name h0 h1 h2] at h; exact absurd h h2
  · rw [askF_pins h0] at h; exact absurd h h0
def daneB (ts : List TlsaD) (p : Int) : Bool := ts.any fun t => decide (t.v = M.valM p t.m)
theorem dane_match {l : List UInt8} {ts : List TlsaD} {p : Int} (hn : M.nameF l = 0) : ∀ t ∈ usable (M.nrm l) ts, M.matchB t.nm t.u t.m t.v l true p = decide (t.v = M.valM p t.m) := by
  intro t ht
  obtain ⟨_, h1, h2, h3⟩ := usable_mem ht
  unfold TlsaD.f at h1
  unfold M.matchB
  rw [decide_eq_true h1, decide_eq_true hn, decide_eq_true h2, decide_eq_true h3]
  simp
def pinReason (q : PinD) (p t : Int) : Int := if t ≤ q.u then (if q.a = p then 3 else if q.b = p then 4 else 5) else 6
def reason (a : AskD) : Int :=
  if (usable (M.nrm a.nm) a.ts).length = 0 then
    match findP a.ps (M.nrm a.nm) with
    | some q => pinReason q a.p a.t
    | none => if a.first then 7 else 8
  else if daneB (usable (M.nrm a.nm) a.ts) a.p then 1 else 2
def acceptB (r : Int) : Bool := decide (r = 1) || (decide (r = 3) || (decide (r = 4) || decide (r = 7)))
theorem reason_dane {a : AskD} (h : (usable (M.nrm a.nm) a.ts).length ≠ 0) : reason a = if daneB (usable (M.nrm a.nm) a.ts) a.p then 1 else 2 := by unfold reason; rw [if_neg h]
theorem reason_pin {a : AskD} {q : PinD} (h : (usable (M.nrm a.nm) a.ts).length = 0) (h1 : findP a.ps (M.nrm a.nm) = some q) : reason a = pinReason q a.p a.t := by unfold reason; rw [if_pos h, h1]
theorem reason_none {a : AskD} (h : (usable (M.nrm a.nm) a.ts).length = 0) (h1 : findP a.ps (M.nrm a.nm) = none) : reason a = if a.first then 7 else 8 := by unfold reason; rw [if_pos h, h1]
def decA (a : AskD) : Bool := if askF a = 0 then acceptB (reason a) else false
def decR (a : AskD) : Int := if askF a = 0 then reason a else 0
theorem decA_no {a : AskD} (h : askF a ≠ 0) : decA a = false := by unfold decA; rw [if_neg h]
theorem decR_no {a : AskD} (h : askF a ≠ 0) : decR a = 0 := by unfold decR; rw [if_neg h]
theorem decA_yes {a : AskD} (h : askF a = 0) : decA a = acceptB (reason a) := by unfold decA; rw [if_pos h]
theorem decR_yes {a : AskD} (h : askF a = 0) : decR a = reason a := by unfold decR; rw [if_pos h]
def claimsL (ps : List PinD) : List ((ByteArray × Int) × Int) := ps.flatMap fun p => [((p.n, p.a), 3), ((p.n, p.b), 4)]
theorem claimsL_cons (p : PinD) (ps : List PinD) : claimsL (p :: ps) = ((p.n, p.a), 3) :: ((p.n, p.b), 4) :: claimsL ps := rfl
theorem claimsL_append (ps qs : List PinD) : claimsL (ps ++ qs) = claimsL ps ++ claimsL qs := by simp [claimsL]
theorem claimsL_length : ∀ ps : List PinD, (claimsL ps).length = 2 * ps.length
  | [] => rfl
  | p :: r => by rw [claimsL_cons, List.length_cons, List.length_cons, claimsL_length r, List.length_cons]; omega
theorem claimsL_name {ps : List PinD} {e : (ByteArray × Int) × Int} (h : e ∈ claimsL ps) : ∃ p ∈ ps, e.1.1 = p.n := by
  obtain ⟨p, hp, he⟩ := List.mem_flatMap.1 h
  simp at he
  rcases he with rfl | rfl <;> exact ⟨p, hp, rfl⟩
def lookL (es : List ((ByteArray × Int) × Int)) (n : ByteArray) (x : Int) : Option Int := (es.find? fun e => decide (e.1 = (n, x))).map (·.2)
theorem lookL_none {ps : List PinD} {n : ByteArray} {x : Int} (h : ∀ p ∈ ps, p.n ≠ n) : lookL (claimsL ps) n x = none := by
  unfold lookL
  rw [Option.map_eq_none_iff, List.find?_eq_none]
  intro e he
  obtain ⟨p, hp, h1⟩ := claimsL_name he
  have := h p hp
  simp only [decide_eq_true_eq]
  intro h2
  rw [h2] at h1
  exact this h1.symm
theorem lookL_claims : ∀ {ps : List PinD}, Rise ps → ∀ {q : PinD} (x : Int), q ∈ ps → lookL (claimsL ps) q.n x = if q.a = x then some 3 else if q.b = x then some 4 else none
  | [], _, q, x, h => by cases h
  | p :: r, hr, q, x, h => by
    obtain ⟨h1, h2⟩ := List.pairwise_cons.1 hr
    have key : ∀ (e : (ByteArray × Int) × Int) (es : List ((ByteArray × Int) × Int)) (n : ByteArray), lookL (e :: es) n x = if e.1 = (n, x) then some e.2 else lookL es n x := fun e es n => by
      unfold lookL
      rw [List.find?_cons]
      by_cases he : e.1 = (n, x) <;> simp [he]
    rw [claimsL_cons, key, key]
    rcases List.mem_cons.1 h with rfl | hq
    · have hn : lookL (claimsL r) q.n x = none := lookL_none fun p hp e => nlt_ne (h1 p hp) (by unfold PinD.nm; rw [e])
      rw [hn]
      simp
    · have hne : p.n ≠ q.n := fun e => nlt_ne (h1 q hq) (by unfold PinD.nm; rw [e])
      rw [if_neg (by simp [hne]), if_neg (by simp [hne])]
      exact lookL_claims h2 x hq
theorem find_pin {ps : List PinD} {l : List UInt8} {q : PinD} (h : pinsF ps = 0) (h1 : findP ps l = some q) : q ∈ ps ∧ q.nm = l ∧ q.f = 0 := by
  obtain ⟨a, b⟩ := findP_mem h1
  exact ⟨a, b, (pinsF_zero h).2.1 q a⟩
end Go.Proofs.YtlodhleihnlchaaGreatDoor
namespace Go.Proofs.YtlodhleihnlchaaGreatDoor
open Go.RowKit
set_option maxRecDepth 100000
set_option linter.unusedVariables false

structure TRow (w : World) (B : Nat) (a : Option Addr) (len cap : Nat) (ps : List TlsaD) : Prop where
  length : ps.length = len
  fits : len ≤ cap
  most : cap ≤ maxLen
  names : ∀ p ∈ ps, p.n.size ≤ maxLen
  cells : 0 < len → ∃ b off, a = some ⟨b, off, none⟩ ∧ b < B ∧ ∀ j, j < len → ∀ i v, (ps[j]?.getD tls0).vals[i]? = some v → w.cell? ⟨b, off + j * 4 + i, none⟩ = some v
section
variable {w w' : World} {B B' : Nat} {a : Option Addr} {len cap : Nat} {ps : List TlsaD}
theorem TRow.keep (h : TRow w B a len cap ps) (hk : ∀ i, i < B → w'.heap[i]? = w.heap[i]?) : TRow w' B a len cap ps :=
  ⟨h.length, h.fits, h.most, h.names, fun hp => by
    obtain ⟨b, off, e, hb, hc⟩ := h.cells hp
    exact ⟨b, off, e, hb, fun j hj i v hv => (World.cell?_of_block (w := w) (hk b hb)).trans (hc j hj i v hv)⟩⟩
theorem TRow.below (h : TRow w B a len cap ps) (hb : Below B w w') : TRow w' B a len cap ps := h.keep hb.block
theorem TRow.more (h : TRow w B a len cap ps) (hB : B ≤ B') : TRow w B' a len cap ps :=
  ⟨h.length, h.fits, h.most, h.names, fun hp => by
    obtain ⟨b, off, e, hb, hc⟩ := h.cells hp
    exact ⟨b, off, e, by omega, hc⟩⟩
theorem TRow.on (h : TRow w w.heap.size a len cap ps) (hb : Below w.heap.size w w') : TRow w' w'.heap.size a len cap ps := (h.below hb).more hb.size
theorem TRow.alloc (h : TRow w B a len cap ps) (hB : B ≤ w.heap.size) (o : Obj) : TRow (w.alloc o) B a len cap ps := h.below ((Below.refl B w).alloc hB o)
theorem TRow.nil (w : World) (B : Nat) : TRow w B none 0 0 [] := ⟨rfl, Nat.le_refl _, Nat.zero_le _, by simp, fun h => absurd h (by omega)⟩
theorem TRow.at' (h : TRow w B a len cap ps) {k : Nat} (hk : k < len) : ∃ b off, a = some ⟨b, off, none⟩ ∧ b < B ∧
    w.cell? ⟨b, off + k * 4, none⟩ = some (.string (ps[k]?.getD tls0).n) ∧ w.cell? ⟨b, off + k * 4 + 1, none⟩ = some (.int .i64 (ps[k]?.getD tls0).u) ∧ w.cell? ⟨b, off + k * 4 + 2, none⟩ = some (.int .i64 (ps[k]?.getD tls0).m) ∧ w.cell? ⟨b, off + k * 4 + 3, none⟩ = some (.int .i64 (ps[k]?.getD tls0).v) := by
  obtain ⟨b, off, e, hb, hc⟩ := h.cells (by omega)
  exact ⟨b, off, e, hb, hc k hk 0 _ rfl, hc k hk 1 _ rfl, hc k hk 2 _ rfl, hc k hk 3 _ rfl⟩
theorem TRow.mem (h : TRow w B a len cap ps) {k : Nat} (hk : k < len) : (ps[k]?.getD tls0) ∈ ps := by
  have := h.length
  rw [List.getElem?_eq_getElem (by omega)]
  exact List.getElem_mem _
theorem TRow.name (h : TRow w B a len cap ps) {k : Nat} (hk : k < len) : (ps[k]?.getD tls0).n.size ≤ maxLen := h.names _ (h.mem hk)
end

def OwnT (w : World) (B : Nat) (v : Value) (ps : List TlsaD) : Prop := Own w B 4 v ps.length (flatT ps)
section
variable {w w' : World} {B : Nat} {v : Value} {ps : List TlsaD}
theorem OwnT.row {a : Option Addr} {len cap : Nat} (h : OwnT w B (.slice a len cap) ps) (hs : ∀ p ∈ ps, p.n.size ≤ maxLen) : TRow w w.heap.size a len cap ps := by
  rcases h.2 with ⟨e, h0⟩ | ⟨g, c, e, hb, hg, h1, h2, hc, _⟩
  · injection e with e1 e2 e3
    subst e1; subst e2; subst e3
    obtain rfl : ps = [] := List.eq_nil_of_length_eq_zero h0
    exact TRow.nil _ _
  · injection e with e1 e2 e3
    subst e1; subst e2; subst e3
    exact ⟨rfl, h1, h2, hs, fun hp => ⟨g, 0, rfl, hg, fun j hj i v hv => by
      rw [Nat.zero_add]
      exact hc _ v (flatT_get ps j i v hj hv)⟩⟩
theorem OwnT.nil (w : World) (B : Nat) : OwnT w B (.slice none 0 0) [] := Own.nil w B 4
theorem OwnT.alloc (h : OwnT w B v ps) (o : Obj) : OwnT (w.alloc o) B v ps := Own.alloc h o
theorem OwnT.below (h : OwnT w B v ps) (hb : Below w.heap.size w w') : OwnT w' B v ps := Own.below h hb
theorem OwnT.form (h : OwnT w B v ps) : ∃ a cap, v = .slice a ps.length cap ∧ ps.length ≤ cap ∧ cap ≤ maxLen ∧ (a = none → ps.length = 0 ∧ cap = 0) := Own.form h
theorem OwnT.less {B' : Nat} (h : OwnT w B v ps) (hB : B' ≤ B) : OwnT w B' v ps := Own.less h hB
theorem OwnT.lt (h : OwnT w B v ps) : ∀ k, v.ownBlock = some k → B ≤ k ∧ k < w.heap.size := Own.lt h
theorem OwnT.len {a : Option Addr} {len cap : Nat} (h : OwnT w B (.slice a len cap) ps) : len = ps.length := by
  obtain ⟨a', c', e, -⟩ := h.form
  injection e
theorem OwnT.grown {g : Option Nat} (h : OwnT w B v ps) (hg : w.grownBy w' g) (hne : ∀ k, v.ownBlock = some k → some k ≠ g) : OwnT w' B v ps := Own.keep h hg.size fun k hk => hg.block k (Own.lt h k hk).2 (hne k hk)
end
theorem OwnT.put {w : World} {B g n c : Nat} {ps : List TlsaD} {k : Nat} {p : TlsaD} (h : OwnT w B (.slice (some ⟨g, 0, none⟩) n c) ps) (hk : k < ps.length) :
    OwnT ((((w.setCell ⟨g, k * 4, none⟩ (.string p.n)).setCell ⟨g, k * 4 + 1, none⟩ (.int .i64 p.u)).setCell ⟨g, k * 4 + 2, none⟩ (.int .i64 p.m)).setCell ⟨g, k * 4 + 3, none⟩ (.int .i64 p.v)) B (.slice (some ⟨g, 0, none⟩) n c) (ps.set k p) := by
  have hn : n = ps.length := by
    obtain ⟨a, cap, e, _⟩ := h.form
    injection e
  subst hn
  have hl := flatT_length ps
  unfold OwnT
  rw [flatT_set ps k p hk, List.length_set]
  refine Own.putCell (Own.putCell (Own.putCell (Own.putCell h ?_) ?_) ?_) ?_ <;> (try simp only [List.length_set]) <;> omega
theorem OwnT.cell {w : World} {B g n c : Nat} {ps : List TlsaD} (h : OwnT w B (.slice (some ⟨g, 0, none⟩) n c) ps) {k i : Nat} (hk : k < ps.length) {u : Value} (hu : (ps[k]?.getD tls0).vals[i]? = some u) :
    w.cell? ⟨g, k * 4 + i, none⟩ = some u ∧ w.frozen? ⟨g, k * 4 + i, none⟩ = false := by
  rcases h.2 with ⟨e, h0⟩ | ⟨g', c', e, hB, hg, hn, hm, hcell, hroom⟩
  · cases e
  injection e with e1 e2 e3
  injection e1 with e1
  injection e1 with e1 _ _
  subst e1
  subst e3
  have hi : i < 4 := by have := (List.getElem?_eq_some_iff.1 hu).1; simpa [TlsaD.vals_length] using this
  have : (k + 1) * 4 ≤ c * 4 := Nat.mul_le_mul_right _ (by omega)
  exact ⟨hcell _ _ (flatT_get ps k i u hk hu), (hroom _ (by omega)).2⟩
theorem TlsaD.oneCell (p : TlsaD) : ∀ v ∈ p.vals, v.oneCell' = true := by
  intro v hv
  simp only [TlsaD.vals, List.mem_cons, List.not_mem_nil, or_false] at hv
  rcases hv with rfl | rfl | rfl | rfl <;> rfl
end Go.Proofs.YtlodhleihnlchaaGreatDoor
namespace Go.Proofs.YtlodhleihnlchaaGreatDoor
open Go.RowKit
set_option maxRecDepth 100000
set_option linter.unusedVariables false

end Go.Proofs.YtlodhleihnlchaaGreatDoor
namespace Go.Proofs.YtlodhleihnlchaaGreatDoor
open Go.RowKit
set_option maxRecDepth 100000
set_option linter.unusedVariables false

structure FillT (w : World) (n : Nat) (ps : List TlsaD) (k : Nat) (wr : World) : Prop where
  told : ∀ j, j < k → ∀ i v, (ps[j]?.getD tls0).vals[i]? = some v → wr.cell? ⟨w.heap.size, j * 4 + i, none⟩ = some v
  room : ∀ j, j < n * 4 → (∃ u, wr.cell? ⟨w.heap.size, j, none⟩ = some u) ∧ wr.frozen? ⟨w.heap.size, j, none⟩ = false
  lt : w.heap.size < wr.heap.size
  bel : Below w.heap.size w wr
theorem FillT.new (w : World) (n : Nat) (ps : List TlsaD) (cs : Array Value) (t : TypeId) (hs : cs.size = n * 4) : FillT w n ps 0 (w.alloc (.cells cs t)) := by
  have e1 : (w.alloc (.cells cs t)).heap[w.heap.size]? = some (.cells cs t) := (MapKept.heap_alloc w _).1
  refine ⟨fun j hj => absurd hj (by omega), fun j hj => ?_, by simp, bal (Below.refl _ _) _⟩
  unfold World.cell? World.frozen?
  rw [e1]
  exact ⟨⟨cs[j], by simp [show j < cs.size by omega]⟩, by simp⟩
theorem FillT.on {w wr wr' : World} {n : Nat} {ps : List TlsaD} {k : Nat} (h : FillT w n ps k wr) (hb : Below wr.heap.size wr wr') : FillT w n ps k wr' := by
  have e := hb.block w.heap.size h.lt
  refine ⟨fun j hj i v hv => cell_keep hb (h.told j hj i v hv), fun j hj => ?_, Nat.lt_of_lt_of_le h.lt hb.size, btr h.bel hb⟩
  rw [World.cell?_of_block (w := wr) (a := ⟨w.heap.size, j, none⟩) e, World.frozen?_of_block (w := wr) (a := ⟨w.heap.size, j, none⟩) e]
  exact h.room j hj
theorem FillT.one {w wr : World} {n : Nat} {ps : List TlsaD} {k : Nat} (h : FillT w n ps k wr) {j : Nat} (hj : k * 4 ≤ j) (v : Value) : FillT w n ps k (wr.setCell ⟨w.heap.size, j, none⟩ v) := by
  refine ⟨fun i hi c u hu => ?_, fun i hi => ?_, by simpa [World.setCell] using h.lt, bset h.bel (Nat.le_refl _) v⟩
  · have hc : c < 4 := by have := (List.getElem?_eq_some_iff.1 hu).1; simpa [TlsaD.vals_length] using this
    rw [World.cell?_setCell_other _ _ _ _ (fun e => by injection e with _ e2; omega)]
    exact h.told i hi c u hu
  · obtain ⟨⟨u, hu⟩, hf⟩ := h.room i hi
    exact ⟨cell?_setCell_some (w := wr) (p := ⟨w.heap.size, j, none⟩) (x := v) (q := ⟨w.heap.size, i, none⟩) (v := u) hu, by rw [World.frozen?_setCell]; exact hf⟩
theorem FillT.own {w wr : World} {n : Nat} {ps : List TlsaD} (h : FillT w n ps n wr) (hl : ps.length = n) (hm : n ≤ maxLen) : OwnT wr w.heap.size (.slice (some ⟨w.heap.size, 0, none⟩) n n) ps := by
  subst hl
  refine ⟨flatT_length ps, .inr ⟨w.heap.size, _, rfl, Nat.le_refl _, h.lt, Nat.le_refl _, hm, fun j u hu => ?_, fun j hj => ?_⟩⟩
  · have hj := (List.getElem?_eq_some_iff.1 hu).1
    rw [flatT_length] at hj
    have hjk : j / 4 < ps.length := by omega
    have hjj : j / 4 * 4 + j % 4 = j := by omega
    have h5 : j % 4 < 4 := Nat.mod_lt _ (by omega)
    have hv : (ps[j / 4]?.getD tls0).vals[j % 4]? = some ((ps[j / 4]?.getD tls0).vals[j % 4]'(by rw [TlsaD.vals_length]; exact h5)) := List.getElem?_eq_getElem _
    have q1 := flatT_get ps (j / 4) (j % 4) _ hjk hv
    have q2 := h.told (j / 4) hjk (j % 4) _ hv
    rw [hjj] at q1 q2
    rw [hu] at q1
    injection q1 with q1
    rw [q1]
    exact q2
  · obtain ⟨⟨u, hu⟩, hf⟩ := h.room j hj
    exact ⟨by rw [hu]; rfl, hf⟩

theorem tlsa_info : (Tryz.prog.info? 98).map (fun i => (i.zero, i.size, i.bytes)) = some (some (TV tls0), 4, 40) := by kernel_rfl
end Go.Proofs.YtlodhleihnlchaaGreatDoor
namespace Go.Proofs.YtlodhleihnlchaaGreatDoor
open Go.RowKit
set_option maxRecDepth 100000
set_option linter.unusedVariables false

theorem l5Tlsa_cells (g o : Nat) (n : ByteArray) (u m v : Int) (w : World) (hn : n.size ≤ maxLen)
    (d0 : w.cell? ⟨g, o, none⟩ = some (.string n)) (d1 : w.cell? ⟨g, o + 1, none⟩ = some (.int .i64 u)) (d2 : w.cell? ⟨g, o + 2, none⟩ = some (.int .i64 m)) (d3 : w.cell? ⟨g, o + 3, none⟩ = some (.int .i64 v)) :
    Calls Tryz.prog 242 #[.pointer (some ⟨g, o, none⟩)] w fun e w' => e = .returned (.int .i64 (M.tlsaF n.data.toList u m v)) ∧ Below w.heap.size w w' := by
  have hL : n.data.toList.length = n.size := by simp
  have F := fun w => l5Fault_any n w hn
  by_cases h0 : M.nameF n.data.toList = 0
  · obtain ⟨h20, hm⟩ := M.nameF_zero h0
    rw [hL] at h20
    have N := fun w : World => l5Normal_any n w h20
    have Q := text_beq (M.bs (M.nrm n.data.toList)) n
    rw [M.bs_list] at Q
    rw [h0] at F
    by_cases hq : M.nrm n.data.toList = n.data.toList
    · have h1 := M.normF_yes h0 hq
      rw [decide_eq_true hq] at Q
      generalize M.bs (M.nrm n.data.toList) = R at *
      clear h0 hm hq hL
      cases hu : M.useB u
      · rw [M.tlsaF_no h1 (by rw [M.tlsaB_eq, hu]; rfl)]
        go_enter Tryz.func242, Tryz.ntmps242
        go_wp2_with fail
        refine (F _).mono ?_
        rintro r u1 ⟨rfl, b1⟩
        have p0 := cell_keep b1 d0
        go_wp2_with fail
        refine wp_region_line (Bel u1) [(0, true), (1, true), (2, true), (3, true), (5, true), (6, true), (7, true), (8, true), (4, false), (9, true)] (by kernel_rfl) (by kernel_rfl) (fun _ _ d _ _ h => by cases d <;> exact h) (Bel.drew u1) ?_
        have hst := Bel.drew u1
        have inst : Nonempty (Of (Bel u1)) := ⟨⟨_, hst⟩⟩
        have q0 := bel_cell p0
        iterate 8 (refine line_read rfl (by kernel_rfl) (fun K hK => ?_); go_big_quiet_op; refine hK _ ?_; clear hK K)
        refine line_alone rfl (by kernel_rfl) (fun K hK => ?_)
        refine call_wp (args := #[.string n]) rfl (by kernel_rfl) (by kernel_rfl) (N _) (fun wn hbn => ?_)
        have hst2 := hst.on hbn
        refine hK _ _ hst2 ?_
        clear hK K hst hbn
        have hst := hst2
        clear hst2
        simp only [Act.put, List.setIfInBounds_toArray, List.set_cons_zero, List.set_cons_succ]
        iterate 1 (refine line_read rfl (by kernel_rfl) (fun K hK => ?_); go_big_quiet_op; refine hK _ ?_; clear hK K)
        refine line_nil ?_
        have bb := btr b1 hst.out
        have y1 := cell_keep bb d1
        have y2 := cell_keep bb d2
        have y3 := cell_keep bb d3
        clear hst inst q0 p0 b1 F N d0 d1 d2 d3
        go_wp2_with fail
        refine (l1In_use _ _).mono ?_
        rintro r w' ⟨rfl, rfl⟩
        go_wp2_with fail
        go_ret
        exact ⟨rfl, bb⟩
      cases hm : M.matB m
      · rw [M.tlsaF_no h1 (by rw [M.tlsaB_eq, hm]; simp)]
        go_enter Tryz.func242, Tryz.ntmps242
        go_wp2_with fail
        refine (F _).mono ?_
        rintro r u1 ⟨rfl, b1⟩
        have p0 := cell_keep b1 d0
        go_wp2_with fail
        refine wp_region_line (Bel u1) [(0, true), (1, true), (2, true), (3, true), (5, true), (6, true), (7, true), (8, true), (4, false), (9, true)] (by kernel_rfl) (by kernel_rfl) (fun _ _ d _ _ h => by cases d <;> exact h) (Bel.drew u1) ?_
        have hst := Bel.drew u1
        have inst : Nonempty (Of (Bel u1)) := ⟨⟨_, hst⟩⟩
        have q0 := bel_cell p0
        iterate 8 (refine line_read rfl (by kernel_rfl) (fun K hK => ?_); go_big_quiet_op; refine hK _ ?_; clear hK K)
        refine line_alone rfl (by kernel_rfl) (fun K hK => ?_)
        refine call_wp (args := #[.string n]) rfl (by kernel_rfl) (by kernel_rfl) (N _) (fun wn hbn => ?_)
        have hst2 := hst.on hbn
        refine hK _ _ hst2 ?_
        clear hK K hst hbn
        have hst := hst2
        clear hst2
        simp only [Act.put, List.setIfInBounds_toArray, List.set_cons_zero, List.set_cons_succ]
        iterate 1 (refine line_read rfl (by kernel_rfl) (fun K hK => ?_); go_big_quiet_op; refine hK _ ?_; clear hK K)
        refine line_nil ?_
        have bb := btr b1 hst.out
        have y1 := cell_keep bb d1
        have y2 := cell_keep bb d2
        have y3 := cell_keep bb d3
        clear hst inst q0 p0 b1 F N d0 d1 d2 d3
        go_wp2_with fail
        refine (l1In_use _ _).mono ?_
        rintro r w' ⟨rfl, rfl⟩
        go_wp2_with fail
        refine (l1In_mat _ _).mono ?_
        rintro r w' ⟨rfl, rfl⟩
        go_wp2_with fail
        go_ret
        exact ⟨rfl, bb⟩
      cases hv : M.sumB v
      · rw [M.tlsaF_no h1 (by rw [M.tlsaB_eq, hv]; simp)]
        go_enter Tryz.func242, Tryz.ntmps242
        go_wp2_with fail
        refine (F _).mono ?_
        rintro r u1 ⟨rfl, b1⟩
        have p0 := cell_keep b1 d0
        go_wp2_with fail
        refine wp_region_line (Bel u1) [(0, true), (1, true), (2, true), (3, true), (5, true), (6, true), (7, true), (8, true), (4, false), (9, true)] (by kernel_rfl) (by kernel_rfl) (fun _ _ d _ _ h => by cases d <;> exact h) (Bel.drew u1) ?_
        have hst := Bel.drew u1
        have inst : Nonempty (Of (Bel u1)) := ⟨⟨_, hst⟩⟩
        have q0 := bel_cell p0
        iterate 8 (refine line_read rfl (by kernel_rfl) (fun K hK => ?_); go_big_quiet_op; refine hK _ ?_; clear hK K)
        refine line_alone rfl (by kernel_rfl) (fun K hK => ?_)
        refine call_wp (args := #[.string n]) rfl (by kernel_rfl) (by kernel_rfl) (N _) (fun wn hbn => ?_)
        have hst2 := hst.on hbn
        refine hK _ _ hst2 ?_
        clear hK K hst hbn
        have hst := hst2
        clear hst2
        simp only [Act.put, List.setIfInBounds_toArray, List.set_cons_zero, List.set_cons_succ]
        iterate 1 (refine line_read rfl (by kernel_rfl) (fun K hK => ?_); go_big_quiet_op; refine hK _ ?_; clear hK K)
        refine line_nil ?_
        have bb := btr b1 hst.out
        have y1 := cell_keep bb d1
        have y2 := cell_keep bb d2
        have y3 := cell_keep bb d3
        clear hst inst q0 p0 b1 F N d0 d1 d2 d3
        go_wp2_with fail
        refine (l1In_use _ _).mono ?_
        rintro r w' ⟨rfl, rfl⟩
        go_wp2_with fail
        refine (l1In_mat _ _).mono ?_
        rintro r w' ⟨rfl, rfl⟩
        go_wp2_with fail
        refine (l2Is_any _ _).mono ?_
        rintro r w' ⟨rfl, rfl⟩
        go_wp2_with fail
        go_ret
        exact ⟨rfl, bb⟩
      · rw [M.tlsaF_yes h1 (by rw [M.tlsaB_eq, hu, hm, hv]; rfl)]
        go_enter Tryz.func242, Tryz.ntmps242
        go_wp2_with fail
        refine (F _).mono ?_
        rintro r u1 ⟨rfl, b1⟩
        have p0 := cell_keep b1 d0
        go_wp2_with fail
        refine wp_region_line (Bel u1) [(0, true), (1, true), (2, true), (3, true), (5, true), (6, true), (7, true), (8, true), (4, false), (9, true)] (by kernel_rfl) (by kernel_rfl) (fun _ _ d _ _ h => by cases d <;> exact h) (Bel.drew u1) ?_
        have hst := Bel.drew u1
        have inst : Nonempty (Of (Bel u1)) := ⟨⟨_, hst⟩⟩
        have q0 := bel_cell p0
        iterate 8 (refine line_read rfl (by kernel_rfl) (fun K hK => ?_); go_big_quiet_op; refine hK _ ?_; clear hK K)
        refine line_alone rfl (by kernel_rfl) (fun K hK => ?_)
        refine call_wp (args := #[.string n]) rfl (by kernel_rfl) (by kernel_rfl) (N _) (fun wn hbn => ?_)
        have hst2 := hst.on hbn
        refine hK _ _ hst2 ?_
        clear hK K hst hbn
        have hst := hst2
        clear hst2
        simp only [Act.put, List.setIfInBounds_toArray, List.set_cons_zero, List.set_cons_succ]
        iterate 1 (refine line_read rfl (by kernel_rfl) (fun K hK => ?_); go_big_quiet_op; refine hK _ ?_; clear hK K)
        refine line_nil ?_
        have bb := btr b1 hst.out
        have y1 := cell_keep bb d1
        have y2 := cell_keep bb d2
        have y3 := cell_keep bb d3
        clear hst inst q0 p0 b1 F N d0 d1 d2 d3
        go_wp2_with fail
        refine (l1In_use _ _).mono ?_
        rintro r w' ⟨rfl, rfl⟩
        go_wp2_with fail
        refine (l1In_mat _ _).mono ?_
        rintro r w' ⟨rfl, rfl⟩
        go_wp2_with fail
        refine (l2Is_any _ _).mono ?_
        rintro r w' ⟨rfl, rfl⟩
        go_wp2_with fail
        go_ret
        exact ⟨rfl, bb⟩
    · have h1 := M.normF_form h0 hq
      rw [decide_eq_false hq] at Q
      rw [M.tlsaF_norm (by rw [h1]; omega), h1]
      generalize M.bs (M.nrm n.data.toList) = R at *
      clear h0 hm hq hL h1
      go_enter Tryz.func242, Tryz.ntmps242
      go_wp2_with fail
      refine (F _).mono ?_
      rintro r u1 ⟨rfl, b1⟩
      have p0 := cell_keep b1 d0
      go_wp2_with fail
      refine wp_region_line (Bel u1) [(0, true), (1, true), (2, true), (3, true), (5, true), (6, true), (7, true), (8, true), (4, false), (9, true)] (by kernel_rfl) (by kernel_rfl) (fun _ _ d _ _ h => by cases d <;> exact h) (Bel.drew u1) ?_
      have hst := Bel.drew u1
      have inst : Nonempty (Of (Bel u1)) := ⟨⟨_, hst⟩⟩
      have q0 := bel_cell p0
      iterate 8 (refine line_read rfl (by kernel_rfl) (fun K hK => ?_); go_big_quiet_op; refine hK _ ?_; clear hK K)
      refine line_alone rfl (by kernel_rfl) (fun K hK => ?_)
      refine call_wp (args := #[.string n]) rfl (by kernel_rfl) (by kernel_rfl) (N _) (fun wn hbn => ?_)
      have hst2 := hst.on hbn
      refine hK _ _ hst2 ?_
      clear hK K hst hbn
      have hst := hst2
      clear hst2
      simp only [Act.put, List.setIfInBounds_toArray, List.set_cons_zero, List.set_cons_succ]
      iterate 1 (refine line_read rfl (by kernel_rfl) (fun K hK => ?_); go_big_quiet_op; refine hK _ ?_; clear hK K)
      refine line_nil ?_
      have bb := btr b1 hst.out
      have y1 := cell_keep bb d1
      have y2 := cell_keep bb d2
      have y3 := cell_keep bb d3
      clear hst inst q0 p0 b1 F N d0 d1 d2 d3
      go_wp2_with fail
      go_ret
      exact ⟨rfl, bb⟩
  · have h1 := M.normF_no h0
    rw [M.tlsaF_norm (by rw [h1]; exact h0), h1]
    clear h1
    generalize M.nameF n.data.toList = c at *
    go_enter Tryz.func242, Tryz.ntmps242
    go_wp2_with fail
    refine (F _).mono ?_
    rintro r u1 ⟨rfl, b1⟩
    go_wp2_with fail
    go_ret
    exact ⟨rfl, b1⟩
theorem l5Tlsa_at (g o : Nat) (q : TlsaD) (w : World) (hn : q.n.size ≤ maxLen)
    (d0 : w.cell? ⟨g, o, none⟩ = some (.string q.n)) (d1 : w.cell? ⟨g, o + 1, none⟩ = some (.int .i64 q.u)) (d2 : w.cell? ⟨g, o + 2, none⟩ = some (.int .i64 q.m)) (d3 : w.cell? ⟨g, o + 3, none⟩ = some (.int .i64 q.v)) :
    Calls Tryz.prog 242 #[.pointer (some ⟨g, o, none⟩)] w fun e w' => e = .returned (.int .i64 q.f) ∧ Below w.heap.size w w' := l5Tlsa_cells g o q.n q.u q.m q.v w hn d0 d1 d2 d3
theorem src_new4 {P : Program} (w : World) (p : TlsaD) (t tx e' : TypeId) (hk : P.underlying tx = some (.slice e')) :
    Go.Src P 4 tx (.slice (some ⟨w.heap.size, 0, none⟩) 1 1) 1 p.vals (w.alloc (.cells #[.string p.n, .int .i64 p.u, .int .i64 p.m, .int .i64 p.v] t)) := by
  refine Go.Src.ofSlice _ hk _ _ _ _ rfl (fun j u hu => ?_) p.oneCell
  have A : At w.heap.size p.vals (w.alloc (.cells #[.string p.n, .int .i64 p.u, .int .i64 p.m, .int .i64 p.v] t)) := At.new w p.vals t
  rw [Addr.add_lit, Nat.zero_add]
  exact A.cell j u hu
theorem usable_skip {l : List UInt8} {ts : List TlsaD} {k : Nat} (hk : k < ts.length) (h : useT l (ts[k]?.getD tls0) = false) : usable l (ts.take (k + 1)) = usable l (ts.take k) := by rw [usable_next hk, h]; simp
theorem usable_take {l : List UInt8} {ts : List TlsaD} {k : Nat} (hk : k < ts.length) (h : useT l (ts[k]?.getD tls0) = true) : usable l (ts.take (k + 1)) = usable l (ts.take k) ++ [ts[k]?.getD tls0] := by rw [usable_next hk, h]; rfl
theorem useT_f {l : List UInt8} {q : TlsaD} (h : q.f ≠ 0) : useT l q = false := by unfold useT; rw [decide_eq_false h]; rfl
theorem useT_u {l : List UInt8} {q : TlsaD} (h : q.u ≠ 3) : useT l q = false := by unfold useT; rw [decide_eq_false h]; simp
theorem useT_n {l : List UInt8} {q : TlsaD} (h : q.nm ≠ l) : useT l q = false := by unfold useT; rw [decide_eq_false h]; simp
theorem useT_yes {l : List UInt8} {q : TlsaD} (h : q.f = 0) (h1 : q.u = 3) (h2 : q.nm = l) : useT l q = true := by unfold useT; rw [decide_eq_true h, decide_eq_true h1, decide_eq_true h2]; rfl
structure UseR (W : World) (lo : Nat) (Z : Option Nat) (us : List TlsaD) (v : Value) (wr : World) : Prop where
  own : OwnT wr lo v us
  bel : Below W.heap.size W wr
  res : ∀ g, Z = some g → At g [.int .i64 0, .slice none 0 0] wr ∧ g < lo
theorem UseR.on {W wr wn : World} {lo : Nat} {Z : Option Nat} {us : List TlsaD} {v : Value} (h : UseR W lo Z us v wr) (hb : Below wr.heap.size wr wn) : UseR W lo Z us v wn := ⟨h.own.below hb, btr h.bel hb, fun g e => ⟨(h.res g e).1.on hb, (h.res g e).2⟩⟩
theorem UseR.cast {W wr : World} {lo : Nat} {Z : Option Nat} {us vs : List TlsaD} {v : Value} (h : UseR W lo Z us v wr) (e : vs = us) : UseR W lo Z vs v wr := e ▸ h
theorem UseR.alloc {W wr : World} {lo : Nat} {Z : Option Nat} {us : List TlsaD} {v : Value} (h : UseR W lo Z us v wr) (o : Obj) : UseR W lo Z us v (wr.alloc o) := h.on (bal (Below.refl _ _) o)
theorem UseR.app {W wr w3 : World} {lo : Nat} {Z : Option Nat} {us : List TlsaD} {v v3 : Value} {o : Obj} {q : TlsaD} (h : UseR W lo Z us v wr) (hl : W.heap.size ≤ lo) (hown : Own w3 lo 4 v3 (us.length + 1) (flatT us ++ q.vals)) (hg : (wr.alloc o).grownBy w3 v.ownBlock) : UseR W lo Z (us ++ [q]) v3 w3 := by
  refine ⟨?_, (bal h.bel o).grown hg (bal h.bel o).size (fun k e => ?_), fun g e => ⟨((h.res g e).1.alloc o).kept hg (fun e2 => ?_), (h.res g e).2⟩⟩
  · unfold OwnT
    rw [flatT_append, List.length_append]
    simpa [flatT] using hown
  · have := (Own.lt h.own k e).1
    omega
  · have := (Own.lt h.own _ e2.symm).1
    have := (h.res g e).2
    omega
def TlsasIn (us : List TlsaD) (w : World) (e : Ending) (w' : World) : Prop := ∃ x n c, e = .returned (.slice x n c) ∧ OwnT w' w.heap.size (.slice x n c) us ∧ Below w.heap.size w w'
def TlsasRes (C : Int) (us : List TlsaD) (w : World) (e : Ending) (w' : World) : Prop := ∃ x n c, e = .returned (.agg #[.int .i64 C, .slice x n c]) ∧ OwnT w' w.heap.size (.slice x n c) us ∧ Below w.heap.size w w'
set_option maxHeartbeats 4000000 in
theorem l10Usable_any (a : Option Addr) (len cap B : Nat) (ts : List TlsaD) (s : ByteArray) (w : World) (hR : TRow w B a len cap ts) (hB : B ≤ w.heap.size) (hl8 : len ≤ 8) :
    Calls Tryz.prog 149 #[.slice a len cap, .string s] w (TlsasIn (usable s.data.toList ts) w) := by
  have hL := Lib.hid hR.length
  have hm := hR.most
  have hfit := hR.fits
  unfold maxLen at hm
  obtain ⟨i0, hi0, hz0, hz1, hz2⟩ := info_parts tlsa_info
  have HR := Lib.hid hR
  clear hR
  generalize hl : s.data.toList = l at *
  have T0 : UseR w w.heap.size none (usable l (ts.take 0)) (.slice (some ⟨w.heap.size, 0, none⟩) 0 0) (w.alloc (.cells #[] 98)) := ⟨Own.made w #[] 98 0 (by omega) (by simp) rfl, bal (Below.refl _ _) _, fun _ e => by cases e⟩
  go_enter Tryz.func149, Tryz.ntmps149
  go_wp2_with fail
  generalize w.alloc (.cells #[] 98) = W1 at *
  go_loopw [5, 6] (fun v i wr => ∃ k : Nat, k ≤ len ∧ i = .int .i64 k ∧ UseR w w.heap.size none (usable l (ts.take k)) v wr) (fun _ i => fun _ => len - (intOf i).toNat)
  case atStart => exact ⟨0, Nat.zero_le _, rfl, T0⟩
  case round =>
    obtain ⟨k, hk, rfl, hT⟩ := hrel
    clear T0
    have hlo := usable_le l (ts.take k)
    have htk : (ts.take k).length ≤ 8 := by rw [List.length_take]; omega
    have hus : (usable l (ts.take k)).length ≤ 8 := by omega
    have hbs := hT.bel.size
    obtain ⟨va, vc, hva, -⟩ := hT.own.form
    subst hva
    by_cases hlt : k < len
    · have hkt : k < ts.length := by rw [hL.out]; exact hlt
      obtain ⟨b, off, ha, hbB, c0, c1, c2, c3⟩ := (HR.out.below (hT.bel.mono hB)).at' hlt
      first | subst ha | (injection ha with ha; injection ha with ea eb; subst ea; subst eb)
      have hqn := HR.out.name hlt
      have SK := Lib.hid (usable_skip (l := l) hkt)
      have TK := Lib.hid (usable_take (l := l) hkt)
      generalize usable l (ts.take k) = us at *
      generalize ts[k]?.getD tls0 = q at *
      have Q := text_beq q.n s
      clear hlo htk hkt
      have F := l5Tlsa_at b (off + k * 4) q wr hqn c0 c1 c2 c3
      by_cases h1 : q.f = 0
      case neg =>
        have E := Lib.hid (SK.out (useT_f h1))
        have g0 : (q.f == 0) = false := by simpa using h1
        generalize q.f = qf at *
        clear Q SK TK
        go_wp2_with fail
        refine F.mono ?_
        rintro r u1 ⟨rfl, b1⟩
        have d0 := cell_keep b1 c0
        have d1 := cell_keep b1 c1
        have d2 := cell_keep b1 c2
        have d3 := cell_keep b1 c3
        have T1 := hT.on b1
        have hsz := T1.bel.size
        clear c0 c1 c2 c3 hT b1 F
        have T2 := Lib.hid ((T1).cast E.out)
        clear d0
        go_wp2_with fail
        go_roundw
        case rel => exact ⟨k + 1, by omega, by go_num, T2.out⟩
        case measure => simp [intOf]; omega
      rw [h1] at F
      by_cases h2 : q.u = 3
      case neg =>
        have E := Lib.hid (SK.out (useT_u h2))
        have g1 : (q.u == 3) = false := by simpa using h2
        clear Q SK TK
        go_wp2_with fail
        refine F.mono ?_
        rintro r u1 ⟨rfl, b1⟩
        have d0 := cell_keep b1 c0
        have d1 := cell_keep b1 c1
        have d2 := cell_keep b1 c2
        have d3 := cell_keep b1 c3
        have T1 := hT.on b1
        have hsz := T1.bel.size
        clear c0 c1 c2 c3 hT b1 F
        have T2 := Lib.hid ((T1).cast E.out)
        go_wp2_with fail
        go_roundw
        case rel => exact ⟨k + 1, by omega, by go_num, T2.out⟩
        case measure => simp [intOf]; omega
      have g1 : (q.u == 3) = true := by simpa using h2
      by_cases h3 : q.n.data.toList = s.data.toList
      case neg =>
        have E := Lib.hid (SK.out (useT_n (fun e => h3 (e.trans hl.symm))))
        rw [decide_eq_false h3] at Q
        clear SK TK h2
        go_wp2_with fail
        refine F.mono ?_
        rintro r u1 ⟨rfl, b1⟩
        have d0 := cell_keep b1 c0
        have d1 := cell_keep b1 c1
        have d2 := cell_keep b1 c2
        have d3 := cell_keep b1 c3
        have T1 := hT.on b1
        have hsz := T1.bel.size
        clear c0 c1 c2 c3 hT b1 F
        have T2 := Lib.hid ((T1).cast E.out)
        go_wp2_with fail
        go_roundw
        case rel => exact ⟨k + 1, by omega, by go_num, T2.out⟩
        case measure => simp [intOf]; omega
      have E := Lib.hid (TK.out (useT_yes h1 h2 (h3.trans hl)))
      rw [decide_eq_true h3] at Q
      clear SK TK h1 g1 h3
      obtain ⟨qn, qu, qm, qv⟩ := q
      (try dsimp only at c0 c1 c2 c3 F Q h2)
      subst h2
      go_wp2_with fail
      refine F.mono ?_
      rintro r u1 ⟨rfl, b1⟩
      have d0 := cell_keep b1 c0
      have d1 := cell_keep b1 c1
      have d2 := cell_keep b1 c2
      have d3 := cell_keep b1 c3
      have T1 := hT.on b1
      have hsz := T1.bel.size
      clear c0 c1 c2 c3 hT b1 F
      have hO := (T1).own
      go_wp2_with (at_builtin; refine wpList_append_src _ rfl (.tmp 36) (.tmp 41) 78 78 rfl w.heap.size 98 i0 (TV tls0) 4 40 Tryz.underlying78 hi0 hz0 hz1 hz2 rfl _ _ _ rfl (Own.alloc hO _) _ 1 (TlsaD.mk qn 3 qm qv).vals rfl (src_new4 _ (TlsaD.mk qn 3 qm qv) _ _ _ Tryz.underlying78) (by simp only [maxLen]; omega) (by omega) (by simp; omega) ?_; intro v3 w3 hown hgrow hat)
      have T2 := Lib.hid (((T1).app (Nat.le_refl _) hown hgrow).cast E.out)
      clear hown hgrow hat
      go_wp2_with fail
      go_roundw
      case rel => exact ⟨k + 1, by omega, by go_num, T2.out⟩
      case measure => simp [intOf]; omega
    · obtain rfl : k = len := by omega
      have e : ts.take k = ts := List.take_of_length_le (by rw [hL.out]; omega)
      have hO := hT.own
      have hb := hT.bel
      rw [e] at hO
      have H := Lib.hid (show TlsasIn (usable l ts) w (.returned (.slice va (usable l (ts.take k)).length vc)) wr from ⟨va, (usable l ts).length, vc, by rw [e], hO, hb⟩)
      clear hT hO hb
      go_wp2_with fail
      go_ret
      exact H.out
theorem specUsableOf_any (a : Option Addr) (len cap B : Nat) (ts : List TlsaD) (s : ByteArray) (w : World) (hR : TRow w B a len cap ts) (hB : B ≤ w.heap.size) (hs : s.size ≤ maxLen) :
    Calls Tryz.prog 50 #[.slice a len cap, .string s] w (TlsasRes (usableC ts s.data.toList) (usableR ts s.data.toList) w) := by
  have hl := hR.length
  have hm := hR.most
  have hfit := hR.fits
  unfold maxLen at hm
  have b0 := bal (Below.refl _ w) (.cells #[.int .i64 0, .slice none 0 0] 88)
  have A0 := At.new w [.int .i64 0, .slice none 0 0] 88
  have N0 := fun w => l5Fault_any s w hs
  by_cases h1 : 8 < len
  · have e := usableC_many (ts := ts) (l := s.data.toList) (by omega)
    rw [usableR_no (by rw [e]; omega), e]
    have h1' : (8 : Int) < len := by omega
    clear hR hl e N0
    go_enter Tryz.func50, Tryz.ntmps50
    go_wp2_with fail
    refine bodyPost_ret (v := .agg #[.int .i64 2, .slice none 0 0]) (by simp [results, Tryz.results50, go_sem]) rfl ⟨none, 0, 0, rfl, OwnT.nil _ _, ?_⟩
    exact bal (Below.refl _ _) _
  have h1' : ¬ (8 : Int) < len := by omega
  have h1t : ¬ 8 < ts.length := by omega
  by_cases h2 : M.nameF s.data.toList = 0
  case neg =>
    have e := usableC_name (l := s.data.toList) h1t
    rw [usableR_no (by rw [e]; exact h2), e]
    generalize M.nameF s.data.toList = c at *
    have g0 : (c == 0) = false := by simpa using h2
    have g1 : (c != 0) = true := by simp [h2]
    clear hR hl e h1t
    go_enter Tryz.func50, Tryz.ntmps50
    go_wp2_with fail
    generalize w.alloc (.cells #[.int .i64 0, .slice none 0 0] 88) = W0 at *
    refine (N0 _).mono ?_
    rintro r u1 ⟨rfl, b1⟩
    have A1 := A0.on b1
    have q0 := A1.cell 0 _ rfl
    have q1 := A1.cell 1 _ rfl
    have z0 := A1.free 0 _ rfl
    have z1 := A1.free 1 _ rfl
    have B1 := btr b0 b1
    go_wp2_with fail
    refine bodyPost_ret (v := .agg #[.int .i64 c, .slice none 0 0]) (by simp [results, Tryz.results50, go_sem, q0, q1]) rfl ⟨none, 0, 0, rfl, OwnT.nil _ _, ?_⟩
    exact (by (iterate 2 (refine bset ?_ (by dsimp only; omega) _)); exact B1)
  have e : usableC ts s.data.toList = 0 := (usableC_name h1t).trans h2
  rw [usableR_yes e, e]
  rw [h2] at N0
  obtain ⟨h20, -⟩ := M.nameF_zero h2
  have hsz : s.data.toList.length = s.size := by simp
  have NT := fun w => l5Normal_any s w (by omega)
  have US := Lib.hid (fun (w1 : World) (h : Below w.heap.size w w1) => l10Usable_any a len cap B ts (M.bs (M.nrm s.data.toList)) w1 (hR.below (h.mono hB)) (Nat.le_trans hB h.size) (by omega))
  rw [M.bs_list] at US
  generalize M.bs (M.nrm s.data.toList) = S2 at *
  generalize usable (M.nrm s.data.toList) ts = us at *
  have lt0 := A0.lt (by simp)
  clear hR hl e h1t h2 h20 hsz
  go_enter Tryz.func50, Tryz.ntmps50
  go_wp2_with fail
  generalize w.alloc (.cells #[.int .i64 0, .slice none 0 0] 88) = W0 at *
  refine (N0 _).mono ?_
  rintro r u1 ⟨rfl, b1⟩
  go_wp2_with fail
  refine (NT _).mono ?_
  rintro r u2 ⟨rfl, b2⟩
  have B2 := btr b0 (btr b1 b2)
  have lt2 : w.heap.size < u2.heap.size := Nat.lt_of_lt_of_le lt0 (btr b1 b2).size
  go_wp2_with fail
  refine (US.out _ B2).mono ?_
  rintro r u3 ⟨xa, xn, xc, rfl, O3, b3⟩
  have A3 := A0.on (btr b1 (btr b2 b3))
  have q0 := A3.cell 0 _ rfl
  have q1 := A3.cell 1 _ rfl
  have z0 := A3.free 0 _ rfl
  have z1 := A3.free 1 _ rfl
  have HB := Lib.hid (btr B2 b3)
  have HO := Lib.hid O3
  clear A0 A3 b0 b1 b2 b3 B2 O3 N0 NT US
  go_wp2_with fail
  refine bodyPost_ret (v := .agg #[.int .i64 0, .slice xa xn xc]) (by simp [results, Tryz.results50, go_sem, q0, q1]) rfl ⟨_, _, xc, rfl, ?_, (by (iterate 2 (refine bset ?_ (by dsimp only; omega) _)); exact HB.out)⟩
  refine Own.setCell (Own.setCell (OwnT.less HO.out (by omega)) (fun k hk e => ?_) _) (fun k hk e => ?_) _
  · have := (OwnT.lt HO.out k hk).1; dsimp only at e; omega
  · have := (OwnT.lt HO.out k hk).1; dsimp only at e; omega
set_option maxHeartbeats 4000000 in
theorem implUsableOf_any (a : Option Addr) (len cap B : Nat) (ts : List TlsaD) (s : ByteArray) (w : World) (hR : TRow w B a len cap ts) (hB : B ≤ w.heap.size) (hs : s.size ≤ maxLen) :
    Calls Tryz.prog 48 #[.slice a len cap, .string s] w (TlsasRes (usableC ts s.data.toList) (usableR ts s.data.toList) w) := by
  have hL := Lib.hid hR.length
  have hm := hR.most
  have hfit := hR.fits
  unfold maxLen at hm
  have b0 := bal (Below.refl _ w) (.cells #[.int .i64 0, .slice none 0 0] 88)
  have A0 := At.new w [.int .i64 0, .slice none 0 0] 88
  have N0 := fun w => implNameFault_any s w hs
  by_cases h1 : 8 < len
  · have e := usableC_many (ts := ts) (l := s.data.toList) (by rw [hL.out]; omega)
    rw [usableR_no (by rw [e]; omega), e]
    have h1' : (8 : Int) < len := by omega
    clear hR e N0
    go_enter Tryz.func48, Tryz.ntmps48
    go_wp2_with fail
    refine bodyPost_ret (v := .agg #[.int .i64 2, .slice none 0 0]) (by simp [results, Tryz.results48, go_sem]) rfl ⟨none, 0, 0, rfl, OwnT.nil _ _, ?_⟩
    exact bal (Below.refl _ _) _
  have h1' : ¬ (8 : Int) < len := by omega
  have h1t : ¬ 8 < ts.length := by rw [hL.out]; omega
  by_cases h2 : M.nameF s.data.toList = 0
  case neg =>
    have e := usableC_name (l := s.data.toList) h1t
    rw [usableR_no (by rw [e]; exact h2), e]
    generalize M.nameF s.data.toList = c at *
    have g0 : (c == 0) = false := by simpa using h2
    have g1 : (c != 0) = true := by simp [h2]
    clear hR e h1t
    go_enter Tryz.func48, Tryz.ntmps48
    go_wp2_with fail
    generalize w.alloc (.cells #[.int .i64 0, .slice none 0 0] 88) = W0 at *
    refine (N0 _).mono ?_
    rintro r u1 ⟨rfl, rfl⟩
    have q0 := A0.cell 0 _ rfl
    have q1 := A0.cell 1 _ rfl
    have z0 := A0.free 0 _ rfl
    have z1 := A0.free 1 _ rfl
    have B1 := b0
    go_wp2_with fail
    refine bodyPost_ret (v := .agg #[.int .i64 c, .slice none 0 0]) (by simp [results, Tryz.results48, go_sem, q0, q1]) rfl ⟨none, 0, 0, rfl, OwnT.nil _ _, ?_⟩
    exact (by (iterate 2 (refine bset ?_ (by dsimp only; omega) _)); exact B1)
  have e : usableC ts s.data.toList = 0 := (usableC_name h1t).trans h2
  rw [usableR_yes e, e]
  rw [h2] at N0
  obtain ⟨h20, hmd⟩ := M.nameF_zero h2
  have hsz : s.data.toList.length = s.size := by simp
  have NT := fun w => normalText_any s w (by omega) hmd
  have HS2 : (M.bs (M.nrm s.data.toList)).data.toList = M.nrm s.data.toList := M.bs_list _
  generalize M.bs (M.nrm s.data.toList) = S2 at *
  generalize hl : M.nrm s.data.toList = l at *
  have lt0 := A0.lt (by simp)
  have hl8 : len ≤ 8 := by omega
  have HR := Lib.hid hR
  clear hR e h1t h2 h20 hsz hl hmd
  obtain ⟨i0, hi0, hz0, hz1, hz2⟩ := info_parts tlsa_info
  have hmk : ∀ W : World, (Instr.makeSlice 78 (.int .i64 0) (.int .i64 (len : Int))).run Tryz.prog W = .ok (.slice (some ⟨W.heap.size, 0, none⟩) 0 len) (W.alloc (.cells (madeCells (TV tls0).cells (len * 4)) 98)) := by
    intro W
    have := run_make (P := Tryz.prog) W 78 98 i0 (TV tls0) Tryz.underlying78 hi0 hz0 .i64 .i64 0 len (by omega) (by omega) (by rw [hz2]; omega) (by omega)
    simpa [hz1] using this
  have hms := size_madeCells (TV tls0).cells (len * 4)
  generalize madeCells (TV tls0).cells (len * 4) = mc at *
  have T00 : ∀ u : World, Below w.heap.size w u → At w.heap.size [.int .i64 0, .slice none 0 0] u → UseR w (w.heap.size + 1) (some w.heap.size) (usable l (ts.take 0)) (.slice (some ⟨u.heap.size, 0, none⟩) 0 len) (u.alloc (.cells mc 98)) := fun u hb hA => ⟨Own.made u mc 98 len (hA.lt (by simp)) (by simp only [maxLen]; omega) hms, bal hb _, fun g e => by injection e with e; subst e; exact ⟨hA.alloc _, by omega⟩⟩
  go_enter Tryz.func48, Tryz.ntmps48
  go_wp2_with fail
  generalize w.alloc (.cells #[.int .i64 0, .slice none 0 0] 88) = W0 at *
  refine (N0 _).mono ?_
  rintro r u1 ⟨rfl, rfl⟩
  go_wp2_with fail
  refine (NT _).mono ?_
  rintro r u2 ⟨rfl, b2⟩
  have T0 := T00 u2 (btr b0 b2) (A0.on b2)
  clear T00 A0 b0 b2 N0 NT hms
  go_wp2_with fail
  generalize u2.alloc (.cells mc 98) = W1 at *
  go_loopw [7, 27] (fun v i wr => ∃ k : Nat, k ≤ len ∧ i = .int .i64 k ∧ UseR w (w.heap.size + 1) (some w.heap.size) (usable l (ts.take k)) v wr) (fun _ i => fun _ => len - (intOf i).toNat)
  case atStart => exact ⟨0, Nat.zero_le _, rfl, T0⟩
  case round =>
    obtain ⟨k, hk, rfl, hT⟩ := hrel
    clear T0
    have hlo := usable_le l (ts.take k)
    have htk : (ts.take k).length ≤ 8 := by rw [List.length_take]; omega
    have hus : (usable l (ts.take k)).length ≤ 8 := by omega
    have hbs := hT.bel.size
    obtain ⟨va, vc, hva, -⟩ := hT.own.form
    subst hva
    by_cases hlt : k < len
    · have hkt : k < ts.length := by rw [hL.out]; exact hlt
      obtain ⟨b, off, ha, hbB, c0, c1, c2, c3⟩ := (HR.out.below (hT.bel.mono hB)).at' hlt
      first | subst ha | (injection ha with ha; injection ha with ea eb; subst ea; subst eb)
      have hqn := HR.out.name hlt
      have SK := Lib.hid (usable_skip (l := l) hkt)
      have TK := Lib.hid (usable_take (l := l) hkt)
      generalize usable l (ts.take k) = us at *
      generalize ts[k]?.getD tls0 = q at *
      have Q := text_beq q.n S2
      clear hlo htk hkt
      have F := fun w' : World => (show Calls Tryz.prog 147 #[TV q] w' fun e w'' => e = .returned (.int .i64 q.f) ∧ Below w'.heap.size w' w'' from implTlsaFault_any q.n q.u q.m q.v w' hqn)
      by_cases h1 : q.f = 0
      case neg =>
        have E := Lib.hid (SK.out (useT_f h1))
        have g0 : (q.f == 0) = false := by simpa using h1
        generalize q.f = qf at *
        clear Q SK TK
        have A1 : At wr.heap.size (TlsaD.vals q) (wr.alloc (.cells #[.string q.n, .int .i64 q.u, .int .i64 q.m, .int .i64 q.v] 98)) := At.new wr (TlsaD.vals q) 98
        have TA := hT.alloc (.cells #[.string q.n, .int .i64 q.u, .int .i64 q.m, .int .i64 q.v] 98)
        clear hT
        go_wp2_with fail
        generalize wr.alloc (.cells #[.string q.n, .int .i64 q.u, .int .i64 q.m, .int .i64 q.v] 98) = v0 at *
        generalize wr.heap.size = gb at *
        refine (F _).mono ?_
        rintro r u1 ⟨rfl, b1⟩
        have A2 := A1.on b1
        have d0 := A2.cell 0 _ rfl
        have d1 := A2.cell 1 _ rfl
        have d2 := A2.cell 2 _ rfl
        have d3 := A2.cell 3 _ rfl
        have T1 := TA.on b1
        have hsz : w.heap.size + 1 ≤ u1.heap.size := (T1.res _ rfl).1.lt (by simp)
        clear c0 c1 c2 c3 A1 A2 TA b1 F
        have T2 := Lib.hid ((T1).cast E.out)
        clear d0
        go_wp2_with fail
        go_roundw
        case rel => exact ⟨k + 1, by omega, by go_num, T2.out⟩
        case measure => simp [intOf]; omega
      rw [h1] at F
      by_cases h2 : q.u = 3
      case neg =>
        have E := Lib.hid (SK.out (useT_u h2))
        have g1 : (q.u == 3) = false := by simpa using h2
        clear Q SK TK
        have A1 : At wr.heap.size (TlsaD.vals q) (wr.alloc (.cells #[.string q.n, .int .i64 q.u, .int .i64 q.m, .int .i64 q.v] 98)) := At.new wr (TlsaD.vals q) 98
        have TA := hT.alloc (.cells #[.string q.n, .int .i64 q.u, .int .i64 q.m, .int .i64 q.v] 98)
        clear hT
        go_wp2_with fail
        generalize wr.alloc (.cells #[.string q.n, .int .i64 q.u, .int .i64 q.m, .int .i64 q.v] 98) = v0 at *
        generalize wr.heap.size = gb at *
        refine (F _).mono ?_
        rintro r u1 ⟨rfl, b1⟩
        have A2 := A1.on b1
        have d0 := A2.cell 0 _ rfl
        have d1 := A2.cell 1 _ rfl
        have d2 := A2.cell 2 _ rfl
        have d3 := A2.cell 3 _ rfl
        have T1 := TA.on b1
        have hsz : w.heap.size + 1 ≤ u1.heap.size := (T1.res _ rfl).1.lt (by simp)
        clear c0 c1 c2 c3 A1 A2 TA b1 F
        have T2 := Lib.hid ((T1).cast E.out)
        go_wp2_with fail
        go_roundw
        case rel => exact ⟨k + 1, by omega, by go_num, T2.out⟩
        case measure => simp [intOf]; omega
      have g1 : (q.u == 3) = true := by simpa using h2
      by_cases h3 : q.n.data.toList = S2.data.toList
      case neg =>
        have E := Lib.hid (SK.out (useT_n (fun e => h3 (e.trans HS2.symm))))
        rw [decide_eq_false h3] at Q
        clear SK TK h2
        have A1 : At wr.heap.size (TlsaD.vals q) (wr.alloc (.cells #[.string q.n, .int .i64 q.u, .int .i64 q.m, .int .i64 q.v] 98)) := At.new wr (TlsaD.vals q) 98
        have TA := hT.alloc (.cells #[.string q.n, .int .i64 q.u, .int .i64 q.m, .int .i64 q.v] 98)
        clear hT
        go_wp2_with fail
        generalize wr.alloc (.cells #[.string q.n, .int .i64 q.u, .int .i64 q.m, .int .i64 q.v] 98) = v0 at *
        generalize wr.heap.size = gb at *
        refine (F _).mono ?_
        rintro r u1 ⟨rfl, b1⟩
        have A2 := A1.on b1
        have d0 := A2.cell 0 _ rfl
        have d1 := A2.cell 1 _ rfl
        have d2 := A2.cell 2 _ rfl
        have d3 := A2.cell 3 _ rfl
        have T1 := TA.on b1
        have hsz : w.heap.size + 1 ≤ u1.heap.size := (T1.res _ rfl).1.lt (by simp)
        clear c0 c1 c2 c3 A1 A2 TA b1 F
        have T2 := Lib.hid ((T1).cast E.out)
        go_wp2_with fail
        go_roundw
        case rel => exact ⟨k + 1, by omega, by go_num, T2.out⟩
        case measure => simp [intOf]; omega
      have E := Lib.hid (TK.out (useT_yes h1 h2 (h3.trans HS2)))
      rw [decide_eq_true h3] at Q
      clear SK TK h1 g1 h3
      obtain ⟨qn, qu, qm, qv⟩ := q
      (try dsimp only at c0 c1 c2 c3 F Q h2)
      subst h2
      have A1 : At wr.heap.size (TlsaD.vals ⟨qn, 3, qm, qv⟩) (wr.alloc (.cells #[.string qn, .int .i64 3, .int .i64 qm, .int .i64 qv] 98)) := At.new wr (TlsaD.vals ⟨qn, 3, qm, qv⟩) 98
      have TA := hT.alloc (.cells #[.string qn, .int .i64 3, .int .i64 qm, .int .i64 qv] 98)
      clear hT
      go_wp2_with fail
      generalize wr.alloc (.cells #[.string qn, .int .i64 3, .int .i64 qm, .int .i64 qv] 98) = v0 at *
      generalize wr.heap.size = gb at *
      refine (F _).mono ?_
      rintro r u1 ⟨rfl, b1⟩
      have A2 := A1.on b1
      have d0 := A2.cell 0 _ rfl
      have d1 := A2.cell 1 _ rfl
      have d2 := A2.cell 2 _ rfl
      have d3 := A2.cell 3 _ rfl
      have T1 := TA.on b1
      have hsz : w.heap.size + 1 ≤ u1.heap.size := (T1.res _ rfl).1.lt (by simp)
      clear c0 c1 c2 c3 A1 A2 TA b1 F
      have hO := (T1).own
      go_wp2_with (at_builtin; refine wpList_append_src _ rfl (.tmp 45) (.tmp 47) 78 78 rfl (w.heap.size + 1) 98 i0 (TV tls0) 4 40 Tryz.underlying78 hi0 hz0 hz1 hz2 rfl _ _ _ rfl (Own.alloc hO _) _ 1 (TlsaD.mk qn 3 qm qv).vals rfl (src_new4 _ (TlsaD.mk qn 3 qm qv) _ _ _ Tryz.underlying78) (by simp only [maxLen]; omega) (by omega) (by simp; omega) ?_; intro v3 w3 hown hgrow hat)
      have T2 := Lib.hid (((T1).app (Nat.le_succ _) hown hgrow).cast E.out)
      clear hown hgrow hat
      go_wp2_with fail
      go_roundw
      case rel => exact ⟨k + 1, by omega, by go_num, T2.out⟩
      case measure => simp [intOf]; omega
    · obtain rfl : k = len := by omega
      have e : ts.take k = ts := List.take_of_length_le (by rw [hL.out]; omega)
      have hO := hT.own
      have hb := hT.bel
      have hr := (hT.res _ rfl).1
      rw [e] at hO
      have hn : (usable l (ts.take k)).length = (usable l ts).length := by rw [e]
      have q0 := hr.cell 0 _ rfl
      have q1 := hr.cell 1 _ rfl
      have z0 := hr.free 0 _ rfl
      have z1 := hr.free 1 _ rfl
      clear hT hr hlo hus
      generalize (usable l (ts.take k)).length = nn at *
      subst hn
      generalize usable l ts = us at *
      have HB := Lib.hid hb
      have HO := Lib.hid hO
      clear hO hb
      go_wp2_with fail
      refine bodyPost_ret (v := .agg #[.int .i64 0, .slice va us.length vc]) (by simp [results, Tryz.results48, go_sem, q0, q1]) rfl ⟨_, _, vc, rfl, ?_, (by (iterate 2 (refine bset ?_ (by dsimp only; omega) _)); exact HB.out)⟩
      refine Own.setCell (Own.setCell (OwnT.less HO.out (by omega)) (fun k hk e => ?_) _) (fun k hk e => ?_) _
      · have := (OwnT.lt HO.out k hk).1; dsimp only at e; omega
      · have := (OwnT.lt HO.out k hk).1; dsimp only at e; omega
end Go.Proofs.YtlodhleihnlchaaGreatDoor
namespace Go.Proofs.YtlodhleihnlchaaGreatDoor
open Go.RowKit
set_option maxRecDepth 100000
set_option linter.unusedVariables false

structure TList (w0 : World) (a : Option Addr) (len cap : Nat) (zs : List Int) (p : Nat) (w : World) (v : Value) (ts : List TlsaD) (cur : World) : Prop where
  draw : Draw w0 a len cap zs p cur
  grew : w.grownBy cur (some w0.heap.size)
  own : OwnT cur w.heap.size v ts
theorem TList.app {w0 : World} {a : Option Addr} {len cap : Nat} {zs : List Int} {p : Nat} {w : World} {v v3 : Value} {ts : List TlsaD} {cur w3 : World} {o : Obj} {q : TlsaD} (h : TList w0 a len cap zs p w v ts cur) (hw : w0.heap.size < w.heap.size)
    (hown : Own w3 w.heap.size 4 v3 (ts.length + 1) (flatT ts ++ q.vals)) (hg : (cur.alloc o).grownBy w3 v.ownBlock) : TList w0 a len cap zs p w v3 (ts ++ [q]) w3 := by
  have hl := fun k hk => (Own.lt h.own k hk).1
  refine ⟨(h.draw.alloc o).grown hg (fun k hk => by have := hl k hk; omega), gown (gal h.grew o) hg hl, ?_⟩
  unfold OwnT
  rw [flatT_append, List.length_append]
  simpa [flatT] using hown
def DTlsas (K : Nat) (w0 : World) (a : Option Addr) (len cap : Nat) (zs : List Int) (w : World) (e : Ending) (w' : World) : Prop :=
  ∃ (x : Option Addr) (n c : Nat) (ts : List TlsaD) (p : Nat), (∀ t ∈ ts, t.n.size ≤ 21) ∧ p ≤ K ∧ e = .returned (.slice x n c) ∧ OwnT w' w.heap.size (.slice x n c) ts ∧ Draw w0 a len cap zs p w' ∧ w.grownBy w' (some w0.heap.size)
theorem tlsa_info10 : (Tryz.prog.info? 98).map (fun i => (i.zero, i.size, i.bytes)) = some (some (TV tls0), 4, 40) := by kernel_rfl
set_option maxHeartbeats 2000000 in
theorem dl10Tlsas {w0 : World} {a : Option Addr} {len cap : Nat} {zs : List Int} {p0 : Nat} {w : World} (D : Draw w0 a len cap zs p0 w) (hp0 : p0 ≤ 400) :
    Calls Tryz.prog 143 #[.pointer (some ⟨w0.heap.size, 0, none⟩)] w (DTlsas (p0 + 20) w0 a len cap zs w) := by
  have hlt := D.lt
  have hgt : ∀ {u1 u2 : World} {v : Value} {qs : List TlsaD}, OwnT u1 w.heap.size v qs → u1.grownBy u2 (some w0.heap.size) → OwnT u2 w.heap.size v qs := fun h g => Own.keep h g.size fun k hk => g.block k (Own.lt h k hk).2 (fun e => by injection e with e; have := (Own.lt h k hk).1; omega)
  obtain ⟨i0, hi0, hz0, hz1, hz2⟩ := info_parts tlsa_info10
  have O0 : OwnT (w.alloc (.cells #[] 98)) w.heap.size (.slice (some ⟨w.heap.size, 0, none⟩) 0 0) [] := Own.made w #[] 98 0 (Nat.le_refl _) (by simp) rfl
  go_enter Tryz.func143, Tryz.ntmps143
  go_wp2_with fail
  refine (dnext 5 (D.alloc _) (by omega)).mono ?_
  rintro r w1 ⟨v, v0, v1, rfl, D1, O1⟩
  have hv : v < 5 := by omega
  have T0 : TList w0 a len cap zs (p0 + 1) w (.slice (some ⟨w.heap.size, 0, none⟩) 0 0) [] w1 := ⟨D1, gtr (gal (World.grownBy.refl w _) _) O1.grown, Own.only O0 O1 (by omega)⟩
  clear O0 D D1 O1 v1
  go_wp2_with fail
  go_loopw [3, 4] (fun x i wr => ∃ (k : Int) (ts : List TlsaD) (p : Nat), -2 ≤ k ∧ k ≤ 2 ∧ i = .int .i64 k ∧ (p : Int) + 8 * k ≤ p0 + 17 ∧ (ts.length : Int) + k ≤ 2 ∧ ts.length ≤ 2 ∧ p ≤ p0 + 17 ∧ (∀ t ∈ ts, t.n.size ≤ 21) ∧ TList w0 a len cap zs p w x ts wr) (fun _ i _ => (intOf i).toNat)
  case atStart => exact ⟨v - 2, [], p0 + 1, by omega, by omega, rfl, by omega, by simp; omega, by simp, by omega, by simp, T0⟩
  case round =>
    obtain ⟨k, ts, p, hk0, hk1, rfl, hpk, htk, htl, hp17, hts, hT⟩ := hrel
    clear T0
    obtain ⟨vx, vc, hv2, -⟩ := hT.own.form
    subst hv2
    have HTS := Lib.hid hts
    have HPK := Lib.hid (And.intro hpk htk)
    clear hts hpk htk
    by_cases hpos : 0 < k
    · go_wp2_with fail
      refine (dl5BentTlsaP hT.draw (by omega)).mono ?_
      rintro r w2 ⟨n, u, m, y, p2, hn, hp2, rfl, D2, g2⟩
      have L2 : TList w0 a len cap zs p2 w (.slice vx ts.length vc) ts w2 := ⟨D2, gtr hT.grew g2, hgt hT.own g2⟩
      have HN := Lib.hid hn
      have szw := L2.grew.size
      clear D2 g2 hT hn
      go_wp2_with (at_builtin; refine wpList_append_src _ rfl (.tmp 13) (.tmp 16) 78 78 rfl w.heap.size 98 i0 (TV tls0) 4 40 Tryz.underlying78 hi0 hz0 hz1 hz2 rfl _ _ _ rfl (Own.alloc L2.own _) _ 1 (TlsaD.vals ⟨n, u, m, y⟩) rfl (src_new4 _ ⟨n, u, m, y⟩ _ _ _ Tryz.underlying78) (by simp only [maxLen]; omega) (by omega) (by simp; omega) ?_; intro v3 w3 hown hgrow hat)
      have L3 := L2.app hlt hown hgrow
      obtain ⟨x4, c4, e4, -⟩ := L3.own.form
      subst e4
      clear hown hgrow hat L2
      go_wp2_with fail
      go_roundw
      case rel => exact ⟨k - 1, ts ++ [⟨n, u, m, y⟩], p2, by omega, by omega, rfl, by have := HPK.out.1; omega, by have := HPK.out.2; simp; omega, by have := HPK.out.2; simp; omega, by have := HPK.out.1; omega, fun z hz => by rcases List.mem_append.1 hz with hz | hz; exact HTS.out z hz; simp at hz; subst hz; exact HN.out, L3⟩
      case measure => simp [intOf]; omega
    · go_wp2_with fail
      refine (l1Chance_any 20 hT.draw (by omega)).mono ?_
      rintro r w2 ⟨b, rfl, D2, O2⟩
      have Q2 := hgt hT.own O2.grown
      have G2 := gtr hT.grew O2.grown
      clear hT O2
      cases b
      · have F : DTlsas (p0 + 20) w0 a len cap zs w (.returned (.slice vx ts.length vc)) w2 := ⟨_, _, _, ts, _, HTS.out, by omega, rfl, Q2, D2, G2⟩
        have HF := Lib.hid F
        clear F Q2 D2 G2 hi0 hz0 hz1 hz2
        go_wp2_with fail
        go_ret
        exact HF.out
      · have hmk : (Instr.makeSlice 78 (.int .i64 9) (.int .i64 9)).run Tryz.prog w2 = .ok (.slice (some ⟨w2.heap.size, 0, none⟩) 9 9) (w2.alloc (.cells (flatT (List.replicate 9 tls0)).toArray 98)) := by
          have := run_make (P := Tryz.prog) w2 78 98 i0 (TV tls0) Tryz.underlying78 hi0 hz0 .i64 .i64 9 9 (by omega) (by omega) (by rw [hz2]; omega) (by omega)
          rw [hz1] at this
          have e5 : madeCells (TV tls0).cells (Int.toNat 9 * 4) = (flatT (List.replicate 9 tls0)).toArray := by kernel_rfl
          rw [e5] at this
          exact this
        have O5 : OwnT (w2.alloc (.cells (flatT (List.replicate 9 tls0)).toArray 98)) w2.heap.size (.slice (some ⟨w2.heap.size, 0, none⟩) 9 9) (List.replicate 9 tls0) := own_cells w2 (flatT (List.replicate 9 tls0)) 9 4 98 rfl (by simp only [maxLen]; omega)
        have F : DTlsas (p0 + 20) w0 a len cap zs w (.returned (.slice (some ⟨w2.heap.size, 0, none⟩) 9 9)) (w2.alloc (.cells (flatT (List.replicate 9 tls0)).toArray 98)) :=
          ⟨_, _, _, List.replicate 9 tls0, _, fun y hy => by rw [List.eq_of_mem_replicate hy]; exact Nat.zero_le _, by omega, rfl, O5.less G2.size, D2.alloc _, gal G2 _⟩
        have HF := Lib.hid F
        generalize w2.alloc (.cells (flatT (List.replicate 9 tls0)).toArray 98) = w5 at *
        clear F O5 hi0 hz0 hz1 hz2 Q2 G2 D2
        go_wp2_with fail
        go_ret
        exact HF.out
end Go.Proofs.YtlodhleihnlchaaGreatDoor
