/- Texts of this seat that several laws rest on, laid into one. Conditions: as each theorem states. -/
import Derived.Test.YtmdknbgpddnplaaGreatDoorS4
import Derived.Test.YtmdknbgpddnplaaGreatDoorS7
import Derived.Test.YtmdknbgpddnplaaGreatDoorS8
import Derived.Test.YtmdknbgpddnplaaGreatDoorS11
namespace Go.Proofs.YtmdknbgpddnplaaGreatDoor
open Go.RowKit
set_option maxRecDepth 100000
set_option linter.unusedVariables false

def DrawnPut (w : World) (r : Ending) (w' : World) : Prop := ∃ (x : Option Addr) (n c : Nat) (ps : List PinD) (q : PinD), r = .returned (.tuple #[.slice x n c, P5 q]) ∧ (∀ p ∈ ps, p.n.size ≤ 21) ∧ q.n.size ≤ 21 ∧ PRow w' w'.heap.size x n c ps ∧ Below w.heap.size w w'
def DrawnFind (w : World) (r : Ending) (w' : World) : Prop := ∃ (x : Option Addr) (n c : Nat) (ps : List PinD) (q : ByteArray), r = .returned (.tuple #[.slice x n c, .string q]) ∧ (∀ p ∈ ps, p.n.size ≤ 21) ∧ q.size ≤ 21 ∧ PRow w' w'.heap.size x n c ps ∧ Below w.heap.size w w'
def DrawnLive (w : World) (r : Ending) (w' : World) : Prop := ∃ (q : PinD) (t : Int), r = .returned (.tuple #[P5 q, .int .i64 t]) ∧ q.n.size ≤ 21 ∧ Below w.heap.size w w'
theorem m21 {ps : List PinD} (h : ∀ p ∈ ps, p.n.size ≤ 21) : ∀ p ∈ ps, p.n.size ≤ maxLen := fun p hp => by have := h p hp; simp only [maxLen]; omega

theorem OwnP.grew7 {u u' : World} {B g : Nat} {v : Value} {qs : List PinD} (h : OwnP u B v qs) (k : u.grownBy u' (some g)) (hg : g < B) : OwnP u' B v qs := Own.keep h k.size fun i hi => k.block i (Own.lt h i hi).2 (fun e => by injection e with e; have := (Own.lt h i hi).1; omega)
end Go.Proofs.YtmdknbgpddnplaaGreatDoor
namespace Go.Proofs.YtmdknbgpddnplaaGreatDoor
open Go.RowKit
set_option maxRecDepth 100000
set_option linter.unusedVariables false

set_option maxHeartbeats 1000000 in
theorem dl8Next {w0 : World} {a : Option Addr} {len cap : Nat} {zs : List Int} {p0 : Nat} {w : World} (D : Draw w0 a len cap zs p0 w) (hp0 : p0 ≤ 900) (q : PinD) (hq : q.n.size ≤ 21) :
    Calls Tryz.prog 94 #[.pointer (some ⟨w0.heap.size, 0, none⟩), P5 q] w (DPin (p0 + 2) (fun q => q.n.size ≤ 21) w0 a len cap zs w) := by
  have hlt := D.lt
  have B1 : BentP w0 a len cap zs p0 w (w.heap.size + 1) pinZero w.heap.size [.string q.n, .int .i64 q.a, .int .i64 q.b, .int .i64 (wrap64 (q.e + 1)), .int .i64 q.u] ((w.alloc (.cells #[.string q.n, .int .i64 q.a, .int .i64 q.b, .int .i64 (wrap64 (q.e + 1)), .int .i64 q.u] 25)).alloc (.cells #[.string { data := #[] }, .int .i64 0, .int .i64 0, .int .i64 0, .int .i64 0] 25)) :=
    ⟨⟨(D.alloc _).alloc _, gal (gal (World.grownBy.refl w (some w0.heap.size)) _) _, At.newN (w := w.alloc (.cells #[.string q.n, .int .i64 q.a, .int .i64 q.b, .int .i64 (wrap64 (q.e + 1)), .int .i64 q.u] 25)) pinZero 25 (by simp)⟩, (At.new w [.string q.n, .int .i64 q.a, .int .i64 q.b, .int .i64 (wrap64 (q.e + 1)), .int .i64 q.u] 25).alloc _⟩
  have HQ := Lib.hid hq
  clear D hq
  go_enter Tryz.func94, Tryz.ntmps94
  go_wp2_with fail
  generalize (w.alloc (.cells #[.string q.n, .int .i64 q.a, .int .i64 q.b, .int .i64 (wrap64 (q.e + 1)), .int .i64 q.u] 25)).alloc (.cells #[.string { data := #[] }, .int .i64 0, .int .i64 0, .int .i64 0, .int .i64 0] 25) = W1 at *
  generalize wrap64 (q.e + 1) = ep at *
  refine (dl7Public B1.drw.draw (by omega)).mono ?_
  rintro r w2 ⟨ac, hac, rfl, D2, g2⟩
  have B2 := B1.kept g2 D2 (by omega) (by omega)
  clear B1 D2 g2 hac
  have B3 := (B2.put 1 (.int .i64 ac) (by omega) (by omega) (by omega)).put 2 (.int .i64 0) (by omega) (by omega) (by omega)
  have x0 := B2.one.cell 0 _ rfl
  have x1 := B2.one.cell 1 _ rfl
  have x2 := B2.one.cell 2 _ rfl
  have x3 := B2.one.cell 3 _ rfl
  have x4 := B2.one.cell 4 _ rfl
  have f0 := B2.one.free 0 _ rfl
  have f1 := B2.one.free 1 _ rfl
  have f2 := B2.one.free 2 _ rfl
  have f3 := B2.one.free 3 _ rfl
  have f4 := B2.one.free 4 _ rfl
  go_wp2_with fail
  clear B2 x0 x1 x2 x3 x4 f0 f1 f2 f3 f4
  have hsz : ((w2.setCell ⟨w.heap.size, 1, none⟩ (.int .i64 ac)).setCell ⟨w.heap.size, 2, none⟩ (.int .i64 0)).heap.size = w2.heap.size := by simp
  generalize (w2.setCell ⟨w.heap.size, 1, none⟩ (.int .i64 ac)).setCell ⟨w.heap.size, 2, none⟩ (.int .i64 0) = W3 at *
  rw [← hsz]
  clear hsz
  refine (dpick [50, 9999] 2 B3.drw.draw (by omega) (by omega) (by omega) rfl 2).mono ?_
  rintro r w4 ⟨u, hu, rfl, D4, O4⟩
  have B4 := (B3.alloc (.cells #[.int .i64 50, .int .i64 9999] 2)).only O4 D4 (by omega) (by omega)
  have B5 := B4.put 4 (.int .i64 u) (by omega) (by omega) (by omega)
  clear B3 D4 O4 hu
  have q0 := B4.drw.res.cell 0 _ rfl
  have q1 := B4.drw.res.cell 1 _ rfl
  have q2 := B4.drw.res.cell 2 _ rfl
  have q3 := B4.drw.res.cell 3 _ rfl
  have q4 := B4.drw.res.cell 4 _ rfl
  have z0 := B4.drw.res.free 0 _ rfl
  have z1 := B4.drw.res.free 1 _ rfl
  have z2 := B4.drw.res.free 2 _ rfl
  have z3 := B4.drw.res.free 3 _ rfl
  have z4 := B4.drw.res.free 4 _ rfl
  have x0 := B4.one.cell 0 _ rfl
  have x1 := B4.one.cell 1 _ rfl
  have x2 := B4.one.cell 2 _ rfl
  have x3 := B4.one.cell 3 _ rfl
  have x4 := B4.one.cell 4 _ rfl
  have f0 := B4.one.free 0 _ rfl
  have f1 := B4.one.free 1 _ rfl
  have f2 := B4.one.free 2 _ rfl
  have f3 := B4.one.free 3 _ rfl
  have f4 := B4.one.free 4 _ rfl
  have HB := Lib.hid B5
  clear B4 B5
  go_wp2_with fail
  refine bodyPost_ret (v := P5 ⟨q.n, ac, 0, ep, u⟩) (by simp [results, Tryz.results94, go_sem, q0, q1, q2, q3, q4]) rfl ?_
  refine ⟨⟨q.n, ac, 0, ep, u⟩, p0 + 1 + 1, HQ.out, by omega, rfl, ?hd, ?hg⟩
  case hd =>
    iterate 5 (refine Draw.put ?_ (by dsimp only; omega) _)
    exact HB.out.drw.draw
  case hg =>
    iterate 5 (refine gset ?_ (by dsimp only; omega) _)
    exact HB.out.drw.grew
set_option maxHeartbeats 1000000 in
theorem dl8Secret {w0 : World} {a : Option Addr} {len cap : Nat} {zs : List Int} {p0 : Nat} {w : World} (D : Draw w0 a len cap zs p0 w) (hp0 : p0 ≤ 1000) (u : Int) :
    Calls Tryz.prog 95 #[.pointer (some ⟨w0.heap.size, 0, none⟩), .int .i64 u] w fun r w' => ∃ (v : Int) (p : Nat), 1 ≤ v ∧ v ≤ 4 ∧ p ≤ p0 + 1 ∧ r = .returned (.int .i64 v) ∧ Draw w0 a len cap zs p w' ∧ w.grownBy w' (some w0.heap.size) := by
  have g1 := key1
  have T0 : Draw w0 a len cap zs p0 w ∧ w.grownBy w (some w0.heap.size) := ⟨D, World.grownBy.refl w (some w0.heap.size)⟩
  clear D
  go_enter Tryz.func95, Tryz.ntmps95
  go_wp2_with fail
  go_loopw [5] (fun i wr => ∃ k : Nat, 1 ≤ k ∧ k ≤ 5 ∧ i = .int .i64 k ∧ Draw w0 a len cap zs p0 wr ∧ w.grownBy wr (some w0.heap.size)) (fun i _ => 5 - (intOf i).toNat)
  case atStart => exact ⟨1, Nat.le_refl _, by omega, rfl, T0⟩
  case round =>
    obtain ⟨k, hk1, hk, rfl, hD, hg⟩ := hrel
    clear T0
    by_cases hlt : k < 5
    · have K := fun w => l1Key_any (k : Int) w (by omega) (by omega)
      generalize M.pw 4 (k : Int).toNat 2879 = y at *
      have HD := Lib.hid hD
      have HG := Lib.hid hg
      clear hD hg
      cases hyu : (y == u)
      · go_wp2_with fail
        refine (K _).mono ?_
        rintro e u1 ⟨rfl, b1⟩
        have D1 := Lib.hid (HD.out.below b1)
        have G1 := Lib.hid (gbe HG.out b1)
        clear b1 HD HG K
        go_wp2_with fail
        go_roundw
        case rel => exact ⟨k + 1, by omega, by omega, by go_num, D1.out, G1.out⟩
        case measure => simp [intOf]; omega
      · go_wp2_with fail
        refine (K _).mono ?_
        rintro e u1 ⟨rfl, b1⟩
        have D1 := Lib.hid (HD.out.below b1)
        have G1 := Lib.hid (gbe HG.out b1)
        clear b1 HD HG K
        go_wp2_with fail
        go_ret
        exact ⟨k, p0, by omega, by omega, by omega, rfl, D1.out, G1.out⟩
    · obtain rfl : k = 5 := by omega
      go_wp2_with fail
      refine (dnext 4 hD (by omega)).mono ?_
      rintro r w1 ⟨x, x0, x1, rfl, D1, O1⟩
      have hx : x < 4 := by omega
      have H := Lib.hid (And.intro D1 (gtr hg O1.grown))
      clear hD hg D1 O1 x1
      go_wp2_with fail
      go_ret
      exact ⟨1 + x, p0 + 1, by omega, by omega, by omega, rfl, H.out.1, H.out.2⟩

end Go.Proofs.YtmdknbgpddnplaaGreatDoor
namespace Go.Proofs.YtmdknbgpddnplaaGreatDoor
open Go.RowKit
set_option maxRecDepth 100000
set_option linter.unusedVariables false

/-- A rollover was drawn. -/
def DRoll (K : Nat) (w0 : World) (a : Option Addr) (len cap : Nat) (zs : List Int) (w : World) (e : Ending) (w' : World) : Prop :=
  ∃ (q : RollD) (p : Nat), q.p.n.size ≤ 21 ∧ p ≤ K ∧ e = .returned (R8 q) ∧ Draw w0 a len cap zs p w' ∧ w.grownBy w' (some w0.heap.size)
/-- Two blocks that are read. -/
structure Rd8 (g : Nat) (cs : List Value) (k : Nat) (ds : List Value) (x : World) : Prop where
  a : At g cs x
  b : At k ds x
/-- A rollover in a block of its own, while something is drawn. -/
def Got8 (w0 : World) (a : Option Addr) (len cap : Nat) (zs : List Int) (K : Nat) (w : World) (v : Value) (wx : World) : Prop :=
  ∃ (gb : Nat) (r : RollD) (p : Nat), v = .pointer (some ⟨gb, 0, none⟩) ∧ r.p.n.size ≤ 21 ∧ p ≤ K ∧ w.heap.size + 1 < gb ∧ BentP w0 a len cap zs p w (w.heap.size + 1) zer8 gb r.vals wx
/-- The pin that comes next, in its block, and what lies beside it. -/
def Nx8 (w0 : World) (a : Option Addr) (len cap : Nat) (zs : List Int) (K : Nat) (w : World) (nb : Nat) (q : PinD) (wx : World) : Prop :=
  ∃ (nx : PinD) (p : Nat), nx.f = 0 ∧ nx.n.size ≤ 21 ∧ p ≤ K ∧ DrwP w0 a len cap zs p w (w.heap.size + 1) zer8 wx ∧ At w.heap.size q.vals wx ∧ At nb nx.vals wx
set_option maxHeartbeats 8000000 in
theorem dl8Draw {w0 : World} {a : Option Addr} {len cap : Nat} {zs : List Int} {p0 : Nat} {w : World} (D : Draw w0 a len cap zs p0 w) (hp0 : p0 ≤ 400) (q : PinD) (hq : q.n.size ≤ 21) :
    Calls Tryz.prog 49 #[.pointer (some ⟨w0.heap.size, 0, none⟩), P5 q] w (DRoll (p0 + 12) w0 a len cap zs w) := by
  have hlt := D.lt
  have R0 : DrwP w0 a len cap zs p0 w (w.heap.size + 1) zer8 ((w.alloc (.cells #[.string q.n, .int .i64 q.a, .int .i64 q.b, .int .i64 q.e, .int .i64 q.u] 25)).alloc (.cells #[.string { data := #[] }, .int .i64 0, .int .i64 0, .int .i64 0, .int .i64 0, .int .i64 0, .int .i64 0, .int .i64 0] 29)) :=
    ⟨(D.alloc _).alloc _, gal (gal (World.grownBy.refl w (some w0.heap.size)) _) _, At.newN (w := w.alloc (.cells #[.string q.n, .int .i64 q.a, .int .i64 q.b, .int .i64 q.e, .int .i64 q.u] 25)) zer8 29 (by simp)⟩
  have A0 : At w.heap.size q.vals ((w.alloc (.cells #[.string q.n, .int .i64 q.a, .int .i64 q.b, .int .i64 q.e, .int .i64 q.u] 25)).alloc (.cells #[.string { data := #[] }, .int .i64 0, .int .i64 0, .int .i64 0, .int .i64 0, .int .i64 0, .int .i64 0, .int .i64 0] 29)) := (At.new w q.vals 25).alloc _
  clear D
  go_enter Tryz.func49, Tryz.ntmps49
  go_wp2_with fail
  generalize (w.alloc (.cells #[.string q.n, .int .i64 q.a, .int .i64 q.b, .int .i64 q.e, .int .i64 q.u] 25)).alloc (.cells #[.string { data := #[] }, .int .i64 0, .int .i64 0, .int .i64 0, .int .i64 0, .int .i64 0, .int .i64 0, .int .i64 0] 29) = W0 at *
  refine (dl8Next R0.draw (by omega) q hq).mono ?_
  rintro e u1 ⟨nx, p1, hn1, hp1, rfl, D1, g1⟩
  have R1 := (R0.kept g1 D1 (by omega)).alloc (.cells #[.string nx.n, .int .i64 nx.a, .int .i64 nx.b, .int .i64 nx.e, .int .i64 nx.u] 25)
  have A1 := (A0.kept g1 (fun e => by injection e with e; omega)).alloc (.cells #[.string nx.n, .int .i64 nx.a, .int .i64 nx.b, .int .i64 nx.e, .int .i64 nx.u] 25)
  have X1 : At u1.heap.size nx.vals (u1.alloc (.cells #[.string nx.n, .int .i64 nx.a, .int .i64 nx.b, .int .i64 nx.e, .int .i64 nx.u] 25)) := At.new u1 nx.vals 25
  have lt1 := (R0.kept g1 D1 (by omega)).res.lt (by simp [zer8])
  have F := fun g w A => l7Fault_any g nx w A (by simp only [maxLen]; omega)
  clear R0 A0 D1 g1 hq
  go_wp2_with fail
  generalize u1.alloc (.cells #[.string nx.n, .int .i64 nx.a, .int .i64 nx.b, .int .i64 nx.e, .int .i64 nx.u] 25) = W1 at *
  generalize u1.heap.size = nb at *
  refine (F _ _ X1).mono ?_
  rintro e W2 ⟨rfl, b2⟩
  have R2 := R1.on b2
  have A2 := A1.on b2
  have X2 := X1.on b2
  have hN1 := Lib.hid hn1
  generalize hfz : nx.f = fz at *
  have HFZ := Lib.hid hfz
  clear R1 A1 X1 b2 F hn1 hfz
  go_upto_if 11 with fail
  go_cut [] from 10 to 13 (fun wx => Nx8 w0 a len cap zs (p0 + 8) w nb q wx)
  case first =>
    by_cases hf : fz = 0
    · have n0 : (fz == 0) = true := by simpa using hf
      have n1 : (fz != 0) = false := by simp [hf]
      have HF := Lib.hid hf
      clear hf
      go_wp2_with fail
      go_meet
      case rel => exact ⟨nx, _, HFZ.out.trans HF.out, hN1.out, by omega, R2, A2, X2⟩
    · have n0 : (fz == 0) = false := by simpa using hf
      have n1 : (fz != 0) = true := by simp [hf]
      go_wp2_with fail
      refine (dl7Draw R2.draw (by omega)).mono ?_
      rintro e W3 ⟨ny, p3, hf3, hp3, rfl, D3, g3⟩
      have B3 : BentP _ _ _ _ _ _ _ _ _ _ _ _ := ⟨R2.kept g3 D3 (by omega), X2.kept g3 (fun e => by injection e with e; omega)⟩
      have A3 := A2.kept g3 (fun e => by injection e with e; omega)
      have A4 : At w.heap.size q.vals (((((W3.setCell ⟨nb, 0, none⟩ (.string ny.n)).setCell ⟨nb, 1, none⟩ (.int .i64 ny.a)).setCell ⟨nb, 2, none⟩ (.int .i64 ny.b)).setCell ⟨nb, 3, none⟩ (.int .i64 ny.e)).setCell ⟨nb, 4, none⟩ (.int .i64 ny.u)) := by
        iterate 5 (refine At.setB ?_ (by dsimp only; omega) _)
        exact A3
      have B4 := ((((B3.put 0 (.string ny.n) (by omega) (by omega) (by omega)).put 1 (.int .i64 ny.a) (by omega) (by omega) (by omega)).put 2 (.int .i64 ny.b) (by omega) (by omega) (by omega)).put 3 (.int .i64 ny.e) (by omega) (by omega) (by omega)).put 4 (.int .i64 ny.u) (by omega) (by omega) (by omega)
      have HH := Lib.hid (show Nx8 w0 a len cap zs (p0 + 8) w nb q (((((W3.setCell ⟨nb, 0, none⟩ (.string ny.n)).setCell ⟨nb, 1, none⟩ (.int .i64 ny.a)).setCell ⟨nb, 2, none⟩ (.int .i64 ny.b)).setCell ⟨nb, 3, none⟩ (.int .i64 ny.e)).setCell ⟨nb, 4, none⟩ (.int .i64 ny.u)) from ⟨ny, p3, hf3, by have := pin_size hf3; omega, by omega, B4.drw, A4, B4.one⟩)
      have x0 := B3.one.cell 0 _ rfl
      have x1 := B3.one.cell 1 _ rfl
      have x2 := B3.one.cell 2 _ rfl
      have x3 := B3.one.cell 3 _ rfl
      have x4 := B3.one.cell 4 _ rfl
      have f0 := B3.one.free 0 _ rfl
      have f1 := B3.one.free 1 _ rfl
      have f2 := B3.one.free 2 _ rfl
      have f3 := B3.one.free 3 _ rfl
      have f4 := B3.one.free 4 _ rfl
      clear R2 A2 X2 D3 g3 A3 A4 B3 B4 hf hf3
      go_wp2_with fail
      go_meet
      case rel => exact HH.out
  case rest =>
    obtain ⟨nx, p5, hnf, hns, hp5, R5, A5, X5⟩ := hcut
    clear R2 A2 X2 hN1 HFZ
    generalize wc = W5 at *
    go_upto_region 4 with fail
    go_cut [6] from 14 to 20 (fun v wx => Got8 w0 a len cap zs (p0 + 9) w v wx)
    case first =>
      refine wp_region_fork (Rd8 w.heap.size q.vals nb nx.vals) (by kernel_rfl) (⟨A5.on (bdrew _), X5.on (bdrew _)⟩) ?_
      have hst : (Rd8 w.heap.size q.vals nb nx.vals) _ := (⟨A5.on (bdrew _), X5.on (bdrew _)⟩)
      have inst : Nonempty (Of (Rd8 w.heap.size q.vals nb nx.vals)) := ⟨⟨_, hst⟩⟩
      have R := R5.on (bdrew _)
      have y1 : ∀ z : Of (Rd8 w.heap.size q.vals nb nx.vals), z.val.cell? ⟨w.heap.size, 1, none⟩ = some (.int .i64 q.a) := fun z => z.prop.a.cell 1 _ rfl
      have n0 : ∀ z : Of (Rd8 w.heap.size q.vals nb nx.vals), z.val.cell? ⟨nb, 0, none⟩ = some (.string nx.n) := fun z => z.prop.b.cell 0 _ rfl
      have n1 : ∀ z : Of (Rd8 w.heap.size q.vals nb nx.vals), z.val.cell? ⟨nb, 1, none⟩ = some (.int .i64 nx.a) := fun z => z.prop.b.cell 1 _ rfl
      have n2 : ∀ z : Of (Rd8 w.heap.size q.vals nb nx.vals), z.val.cell? ⟨nb, 2, none⟩ = some (.int .i64 nx.b) := fun z => z.prop.b.cell 2 _ rfl
      have n3 : ∀ z : Of (Rd8 w.heap.size q.vals nb nx.vals), z.val.cell? ⟨nb, 3, none⟩ = some (.int .i64 nx.e) := fun z => z.prop.b.cell 3 _ rfl
      have n4 : ∀ z : Of (Rd8 w.heap.size q.vals nb nx.vals), z.val.cell? ⟨nb, 4, none⟩ = some (.int .i64 nx.u) := fun z => z.prop.b.cell 4 _ rfl
      clear A5 X5 R5
      generalize W5.drew = V1 at *
      refine any_seg 4 [(0, true), (1, true), (2, true), (4, true)] (by kernel_rfl) (fun _ _ d _ _ h => by cases d <;> exact h) ?_
      iterate 4 (refine line_read rfl (by kernel_rfl) (fun K hK => ?_); go_big_quiet_op; refine hK _ ?_; clear hK K)
      refine line_nil ?_
      clear y1 n0 n1 n2 n3 n4
      refine any_fork 3 6 (by kernel_rfl) rfl rfl (by kernel_rfl) (by kernel_rfl) (fun K hK => ?_) (fun K hK => ?_)
      · refine call_any (args := #[.pointer (some ⟨w0.heap.size, 0, none⟩), .int .i64 q.a]) rfl (by kernel_rfl) (by kernel_rfl) (dl8Secret R.draw (by omega) q.a) ?_
        rintro e x1 ⟨s, ps, s0, s1, hps, rfl, D1, g1⟩
        have RN := R.kept g1 D1 (by omega)
        clear R
        have R := RN
        clear RN D1
        have hstN : Rd8 w.heap.size q.vals nb nx.vals x1 := ⟨hst.a.kept g1 (fun e => by injection e with e; omega), hst.b.kept g1 (fun e => by injection e with e; omega)⟩
        clear g1
        have hst2 := hstN
        refine ⟨_, rfl, hK _ _ hst2 ?_⟩
        clear hK K hst hstN
        have hst := hst2
        clear hst2
        simp only [Act.put, List.setIfInBounds_toArray, List.set_cons_zero, List.set_cons_succ]
        refine any_fork 5 6 (by kernel_rfl) rfl rfl (by kernel_rfl) (by kernel_rfl) (fun K hK => ?_) (fun K hK => ?_)
        · have hsb : inB s 1 1438 = true := by simp [inB]; omega
          refine call_any (args := #[.int .i64 s, P5 nx]) rfl (by kernel_rfl) (by kernel_rfl) (l8Sign_any s nx _ hsb hnf) ?_
          rintro e x2 ⟨rfl, b2⟩
          have RN := R.on b2
          clear R
          have R := RN
          clear RN
          have hstN : Rd8 w.heap.size q.vals nb nx.vals x2 := ⟨hst.a.on b2, hst.b.on b2⟩
          clear b2
          have hst2 := hstN
          refine ⟨_, rfl, hK _ _ hst2 ?_⟩
          clear hK K hst hstN
          have hst := hst2
          clear hst2
          simp only [Act.put, List.setIfInBounds_toArray, List.set_cons_zero, List.set_cons_succ]
          refine any_rest [(6, false), (7, false)] (by kernel_rfl) (fun _ _ d _ _ h => by cases d <;> exact h) ?_
          refine line_alone rfl (by kernel_rfl) (fun K hK => ?_)
          go_big_op
          have hst2 : Rd8 w.heap.size q.vals nb nx.vals (x2.alloc (.cells #[.string { data := #[] }, .int .i64 0, .int .i64 0, .int .i64 0, .int .i64 0, .int .i64 0, .int .i64 0, .int .i64 0] 29)) := ⟨hst.a.alloc _, hst.b.alloc _⟩
          have X : At x2.heap.size zer8 (x2.alloc (.cells #[.string { data := #[] }, .int .i64 0, .int .i64 0, .int .i64 0, .int .i64 0, .int .i64 0, .int .i64 0, .int .i64 0] 29)) := At.new x2 zer8 29
          have RN := R.alloc (.cells #[.string { data := #[] }, .int .i64 0, .int .i64 0, .int .i64 0, .int .i64 0, .int .i64 0, .int .i64 0, .int .i64 0] 29)
          have ltA := R.res.lt (by simp [zer8])
          have ltN := hst.b.lt (by simp [PinD.vals])
          clear R
          have R := RN
          clear RN
          refine hK _ _ hst2 ?_
          clear hK K hst
          have hst := hst2
          clear hst2
          generalize x2.alloc (.cells #[.string { data := #[] }, .int .i64 0, .int .i64 0, .int .i64 0, .int .i64 0, .int .i64 0, .int .i64 0, .int .i64 0] 29) = xa at *
          generalize x2.heap.size = ga at *
          have hrn : (signD s nx).p.n.size ≤ 21 := hns
          generalize signD s nx = r at *
          have h0 := X.cell 0 _ rfl
          have h1 := X.cell 1 _ rfl
          have h2 := X.cell 2 _ rfl
          have h3 := X.cell 3 _ rfl
          have h4 := X.cell 4 _ rfl
          have h5 := X.cell 5 _ rfl
          have h6 := X.cell 6 _ rfl
          have h7 := X.cell 7 _ rfl
          have f0 := X.free 0 _ rfl
          have f1 := X.free 1 _ rfl
          have f2 := X.free 2 _ rfl
          have f3 := X.free 3 _ rfl
          have f4 := X.free 4 _ rfl
          have f5 := X.free 5 _ rfl
          have f6 := X.free 6 _ rfl
          have f7 := X.free 7 _ rfl
          have SA : At w.heap.size q.vals ((((((((xa.setCell ⟨ga, 0, none⟩ (.string r.p.n)).setCell ⟨ga, 1, none⟩ (.int .i64 r.p.a)).setCell ⟨ga, 2, none⟩ (.int .i64 r.p.b)).setCell ⟨ga, 3, none⟩ (.int .i64 r.p.e)).setCell ⟨ga, 4, none⟩ (.int .i64 r.p.u)).setCell ⟨ga, 5, none⟩ (.int .i64 r.b)).setCell ⟨ga, 6, none⟩ (.int .i64 r.x)).setCell ⟨ga, 7, none⟩ (.int .i64 r.y)) := by
            iterate 8 (refine At.setB ?_ (by dsimp only; omega) _)
            exact hst.a
          have SB : At nb nx.vals ((((((((xa.setCell ⟨ga, 0, none⟩ (.string r.p.n)).setCell ⟨ga, 1, none⟩ (.int .i64 r.p.a)).setCell ⟨ga, 2, none⟩ (.int .i64 r.p.b)).setCell ⟨ga, 3, none⟩ (.int .i64 r.p.e)).setCell ⟨ga, 4, none⟩ (.int .i64 r.p.u)).setCell ⟨ga, 5, none⟩ (.int .i64 r.b)).setCell ⟨ga, 6, none⟩ (.int .i64 r.x)).setCell ⟨ga, 7, none⟩ (.int .i64 r.y)) := by
            iterate 8 (refine At.setB ?_ (by dsimp only; omega) _)
            exact hst.b
          have S8 : Rd8 w.heap.size q.vals nb nx.vals ((((((((xa.setCell ⟨ga, 0, none⟩ (.string r.p.n)).setCell ⟨ga, 1, none⟩ (.int .i64 r.p.a)).setCell ⟨ga, 2, none⟩ (.int .i64 r.p.b)).setCell ⟨ga, 3, none⟩ (.int .i64 r.p.e)).setCell ⟨ga, 4, none⟩ (.int .i64 r.p.u)).setCell ⟨ga, 5, none⟩ (.int .i64 r.b)).setCell ⟨ga, 6, none⟩ (.int .i64 r.x)).setCell ⟨ga, 7, none⟩ (.int .i64 r.y)) := ⟨SA, SB⟩
          have B8 : BentP _ _ _ _ _ _ _ _ _ _ _ _ := ⟨R, X⟩
          have B9 := (((((((B8.put 0 (.string r.p.n) (by omega) (by omega) (by omega)).put 1 (.int .i64 r.p.a) (by omega) (by omega) (by omega)).put 2 (.int .i64 r.p.b) (by omega) (by omega) (by omega)).put 3 (.int .i64 r.p.e) (by omega) (by omega) (by omega)).put 4 (.int .i64 r.p.u) (by omega) (by omega) (by omega)).put 5 (.int .i64 r.b) (by omega) (by omega) (by omega)).put 6 (.int .i64 r.x) (by omega) (by omega) (by omega)).put 7 (.int .i64 r.y) (by omega) (by omega) (by omega)
          have H9 := Lib.hid B9
          clear B8 B9 X R SA SB
          refine line_alone rfl (by kernel_rfl) (fun K hK => ?_)
          go_big_op
          refine hK _ _ (S8) ?_
          clear hK K
          refine line_nil ?_
          clear hst S8 h0 h1 h2 h3 h4 h5 h6 h7 f0 f1 f2 f3 f4 f5 f6 f7
          go_wp2_with fail
          go_meet
          case rel => exact ⟨_, r, _, rfl, hrn, by omega, by omega, H9.out⟩
        · go_big_op
          have hst2 : Rd8 w.heap.size q.vals nb nx.vals (x1.alloc (.cells #[.string { data := #[] }, .int .i64 0, .int .i64 0, .int .i64 0, .int .i64 0, .int .i64 0, .int .i64 0, .int .i64 0] 29)) := ⟨hst.a.alloc _, hst.b.alloc _⟩
          have X : At x1.heap.size zer8 (x1.alloc (.cells #[.string { data := #[] }, .int .i64 0, .int .i64 0, .int .i64 0, .int .i64 0, .int .i64 0, .int .i64 0, .int .i64 0] 29)) := At.new x1 zer8 29
          have RN := R.alloc (.cells #[.string { data := #[] }, .int .i64 0, .int .i64 0, .int .i64 0, .int .i64 0, .int .i64 0, .int .i64 0, .int .i64 0] 29)
          have ltA := R.res.lt (by simp [zer8])
          have ltN := hst.b.lt (by simp [PinD.vals])
          clear R
          have R := RN
          clear RN
          refine hK _ _ hst2 ?_
          clear hK K hst
          have hst := hst2
          clear hst2
          generalize x1.alloc (.cells #[.string { data := #[] }, .int .i64 0, .int .i64 0, .int .i64 0, .int .i64 0, .int .i64 0, .int .i64 0, .int .i64 0] 29) = xa at *
          generalize x1.heap.size = ga at *
          refine any_rest [(5, false), (7, false)] (by kernel_rfl) (fun _ _ d _ _ h => by cases d <;> exact h) ?_
          refine line_alone rfl (by kernel_rfl) (fun K hK => ?_)
          have hsb : inB s 1 1438 = true := by simp [inB]; omega
          refine call_any (args := #[.int .i64 s, P5 nx]) rfl (by kernel_rfl) (by kernel_rfl) (l8Sign_any s nx _ hsb hnf) ?_
          rintro e x2 ⟨rfl, b2⟩
          have RN := R.on b2
          clear R
          have R := RN
          clear RN
          have hstN : Rd8 w.heap.size q.vals nb nx.vals x2 := ⟨hst.a.on b2, hst.b.on b2⟩
          have XN := X.on b2
          clear X b2
          have X := XN
          clear XN
          have hst2 := hstN
          refine ⟨_, rfl, hK _ _ hst2 ?_⟩
          clear hK K hst hstN
          have hst := hst2
          clear hst2
          simp only [Act.put, List.setIfInBounds_toArray, List.set_cons_zero, List.set_cons_succ]
          have hrn : (signD s nx).p.n.size ≤ 21 := hns
          generalize signD s nx = r at *
          have h0 := X.cell 0 _ rfl
          have h1 := X.cell 1 _ rfl
          have h2 := X.cell 2 _ rfl
          have h3 := X.cell 3 _ rfl
          have h4 := X.cell 4 _ rfl
          have h5 := X.cell 5 _ rfl
          have h6 := X.cell 6 _ rfl
          have h7 := X.cell 7 _ rfl
          have f0 := X.free 0 _ rfl
          have f1 := X.free 1 _ rfl
          have f2 := X.free 2 _ rfl
          have f3 := X.free 3 _ rfl
          have f4 := X.free 4 _ rfl
          have f5 := X.free 5 _ rfl
          have f6 := X.free 6 _ rfl
          have f7 := X.free 7 _ rfl
          have SA : At w.heap.size q.vals ((((((((x2.setCell ⟨ga, 0, none⟩ (.string r.p.n)).setCell ⟨ga, 1, none⟩ (.int .i64 r.p.a)).setCell ⟨ga, 2, none⟩ (.int .i64 r.p.b)).setCell ⟨ga, 3, none⟩ (.int .i64 r.p.e)).setCell ⟨ga, 4, none⟩ (.int .i64 r.p.u)).setCell ⟨ga, 5, none⟩ (.int .i64 r.b)).setCell ⟨ga, 6, none⟩ (.int .i64 r.x)).setCell ⟨ga, 7, none⟩ (.int .i64 r.y)) := by
            iterate 8 (refine At.setB ?_ (by dsimp only; omega) _)
            exact hst.a
          have SB : At nb nx.vals ((((((((x2.setCell ⟨ga, 0, none⟩ (.string r.p.n)).setCell ⟨ga, 1, none⟩ (.int .i64 r.p.a)).setCell ⟨ga, 2, none⟩ (.int .i64 r.p.b)).setCell ⟨ga, 3, none⟩ (.int .i64 r.p.e)).setCell ⟨ga, 4, none⟩ (.int .i64 r.p.u)).setCell ⟨ga, 5, none⟩ (.int .i64 r.b)).setCell ⟨ga, 6, none⟩ (.int .i64 r.x)).setCell ⟨ga, 7, none⟩ (.int .i64 r.y)) := by
            iterate 8 (refine At.setB ?_ (by dsimp only; omega) _)
            exact hst.b
          have S8 : Rd8 w.heap.size q.vals nb nx.vals ((((((((x2.setCell ⟨ga, 0, none⟩ (.string r.p.n)).setCell ⟨ga, 1, none⟩ (.int .i64 r.p.a)).setCell ⟨ga, 2, none⟩ (.int .i64 r.p.b)).setCell ⟨ga, 3, none⟩ (.int .i64 r.p.e)).setCell ⟨ga, 4, none⟩ (.int .i64 r.p.u)).setCell ⟨ga, 5, none⟩ (.int .i64 r.b)).setCell ⟨ga, 6, none⟩ (.int .i64 r.x)).setCell ⟨ga, 7, none⟩ (.int .i64 r.y)) := ⟨SA, SB⟩
          have B8 : BentP _ _ _ _ _ _ _ _ _ _ _ _ := ⟨R, X⟩
          have B9 := (((((((B8.put 0 (.string r.p.n) (by omega) (by omega) (by omega)).put 1 (.int .i64 r.p.a) (by omega) (by omega) (by omega)).put 2 (.int .i64 r.p.b) (by omega) (by omega) (by omega)).put 3 (.int .i64 r.p.e) (by omega) (by omega) (by omega)).put 4 (.int .i64 r.p.u) (by omega) (by omega) (by omega)).put 5 (.int .i64 r.b) (by omega) (by omega) (by omega)).put 6 (.int .i64 r.x) (by omega) (by omega) (by omega)).put 7 (.int .i64 r.y) (by omega) (by omega) (by omega)
          have H9 := Lib.hid B9
          clear B8 B9 X R SA SB
          refine line_alone rfl (by kernel_rfl) (fun K hK => ?_)
          go_big_op
          refine hK _ _ (S8) ?_
          clear hK K
          refine line_nil ?_
          clear hst S8 h0 h1 h2 h3 h4 h5 h6 h7 f0 f1 f2 f3 f4 f5 f6 f7
          go_wp2_with fail
          go_meet
          case rel => exact ⟨_, r, _, rfl, hrn, by omega, by omega, H9.out⟩
      · go_big_op
        have hst2 : Rd8 w.heap.size q.vals nb nx.vals (V1.alloc (.cells #[.string { data := #[] }, .int .i64 0, .int .i64 0, .int .i64 0, .int .i64 0, .int .i64 0, .int .i64 0, .int .i64 0] 29)) := ⟨hst.a.alloc _, hst.b.alloc _⟩
        have X : At V1.heap.size zer8 (V1.alloc (.cells #[.string { data := #[] }, .int .i64 0, .int .i64 0, .int .i64 0, .int .i64 0, .int .i64 0, .int .i64 0, .int .i64 0] 29)) := At.new V1 zer8 29
        have RN := R.alloc (.cells #[.string { data := #[] }, .int .i64 0, .int .i64 0, .int .i64 0, .int .i64 0, .int .i64 0, .int .i64 0, .int .i64 0] 29)
        have ltA := R.res.lt (by simp [zer8])
        have ltN := hst.b.lt (by simp [PinD.vals])
        clear R
        have R := RN
        clear RN
        refine hK _ _ hst2 ?_
        clear hK K hst
        have hst := hst2
        clear hst2
        generalize V1.alloc (.cells #[.string { data := #[] }, .int .i64 0, .int .i64 0, .int .i64 0, .int .i64 0, .int .i64 0, .int .i64 0, .int .i64 0] 29) = xa at *
        generalize V1.heap.size = ga at *
        refine any_rest [(3, false), (5, false), (7, false)] (by kernel_rfl) (fun _ _ d _ _ h => by cases d <;> exact h) ?_
        refine line_alone rfl (by kernel_rfl) (fun K hK => ?_)
        refine call_any (args := #[.pointer (some ⟨w0.heap.size, 0, none⟩), .int .i64 q.a]) rfl (by kernel_rfl) (by kernel_rfl) (dl8Secret R.draw (by omega) q.a) ?_
        rintro e x1 ⟨s, ps, s0, s1, hps, rfl, D1, g1⟩
        have RN := R.kept g1 D1 (by omega)
        clear R
        have R := RN
        clear RN D1
        have hstN : Rd8 w.heap.size q.vals nb nx.vals x1 := ⟨hst.a.kept g1 (fun e => by injection e with e; omega), hst.b.kept g1 (fun e => by injection e with e; omega)⟩
        have XN := X.kept g1 (fun e => by injection e with e; omega)
        clear X g1
        have X := XN
        clear XN
        have hst2 := hstN
        refine ⟨_, rfl, hK _ _ hst2 ?_⟩
        clear hK K hst hstN
        have hst := hst2
        clear hst2
        simp only [Act.put, List.setIfInBounds_toArray, List.set_cons_zero, List.set_cons_succ]
        refine line_alone rfl (by kernel_rfl) (fun K hK => ?_)
        have hsb : inB s 1 1438 = true := by simp [inB]; omega
        refine call_any (args := #[.int .i64 s, P5 nx]) rfl (by kernel_rfl) (by kernel_rfl) (l8Sign_any s nx _ hsb hnf) ?_
        rintro e x2 ⟨rfl, b2⟩
        have RN := R.on b2
        clear R
        have R := RN
        clear RN
        have hstN : Rd8 w.heap.size q.vals nb nx.vals x2 := ⟨hst.a.on b2, hst.b.on b2⟩
        have XN := X.on b2
        clear X b2
        have X := XN
        clear XN
        have hst2 := hstN
        refine ⟨_, rfl, hK _ _ hst2 ?_⟩
        clear hK K hst hstN
        have hst := hst2
        clear hst2
        simp only [Act.put, List.setIfInBounds_toArray, List.set_cons_zero, List.set_cons_succ]
        have hrn : (signD s nx).p.n.size ≤ 21 := hns
        generalize signD s nx = r at *
        have h0 := X.cell 0 _ rfl
        have h1 := X.cell 1 _ rfl
        have h2 := X.cell 2 _ rfl
        have h3 := X.cell 3 _ rfl
        have h4 := X.cell 4 _ rfl
        have h5 := X.cell 5 _ rfl
        have h6 := X.cell 6 _ rfl
        have h7 := X.cell 7 _ rfl
        have f0 := X.free 0 _ rfl
        have f1 := X.free 1 _ rfl
        have f2 := X.free 2 _ rfl
        have f3 := X.free 3 _ rfl
        have f4 := X.free 4 _ rfl
        have f5 := X.free 5 _ rfl
        have f6 := X.free 6 _ rfl
        have f7 := X.free 7 _ rfl
        have SA : At w.heap.size q.vals ((((((((x2.setCell ⟨ga, 0, none⟩ (.string r.p.n)).setCell ⟨ga, 1, none⟩ (.int .i64 r.p.a)).setCell ⟨ga, 2, none⟩ (.int .i64 r.p.b)).setCell ⟨ga, 3, none⟩ (.int .i64 r.p.e)).setCell ⟨ga, 4, none⟩ (.int .i64 r.p.u)).setCell ⟨ga, 5, none⟩ (.int .i64 r.b)).setCell ⟨ga, 6, none⟩ (.int .i64 r.x)).setCell ⟨ga, 7, none⟩ (.int .i64 r.y)) := by
          iterate 8 (refine At.setB ?_ (by dsimp only; omega) _)
          exact hst.a
        have SB : At nb nx.vals ((((((((x2.setCell ⟨ga, 0, none⟩ (.string r.p.n)).setCell ⟨ga, 1, none⟩ (.int .i64 r.p.a)).setCell ⟨ga, 2, none⟩ (.int .i64 r.p.b)).setCell ⟨ga, 3, none⟩ (.int .i64 r.p.e)).setCell ⟨ga, 4, none⟩ (.int .i64 r.p.u)).setCell ⟨ga, 5, none⟩ (.int .i64 r.b)).setCell ⟨ga, 6, none⟩ (.int .i64 r.x)).setCell ⟨ga, 7, none⟩ (.int .i64 r.y)) := by
          iterate 8 (refine At.setB ?_ (by dsimp only; omega) _)
          exact hst.b
        have S8 : Rd8 w.heap.size q.vals nb nx.vals ((((((((x2.setCell ⟨ga, 0, none⟩ (.string r.p.n)).setCell ⟨ga, 1, none⟩ (.int .i64 r.p.a)).setCell ⟨ga, 2, none⟩ (.int .i64 r.p.b)).setCell ⟨ga, 3, none⟩ (.int .i64 r.p.e)).setCell ⟨ga, 4, none⟩ (.int .i64 r.p.u)).setCell ⟨ga, 5, none⟩ (.int .i64 r.b)).setCell ⟨ga, 6, none⟩ (.int .i64 r.x)).setCell ⟨ga, 7, none⟩ (.int .i64 r.y)) := ⟨SA, SB⟩
        have B8 : BentP _ _ _ _ _ _ _ _ _ _ _ _ := ⟨R, X⟩
        have B9 := (((((((B8.put 0 (.string r.p.n) (by omega) (by omega) (by omega)).put 1 (.int .i64 r.p.a) (by omega) (by omega) (by omega)).put 2 (.int .i64 r.p.b) (by omega) (by omega) (by omega)).put 3 (.int .i64 r.p.e) (by omega) (by omega) (by omega)).put 4 (.int .i64 r.p.u) (by omega) (by omega) (by omega)).put 5 (.int .i64 r.b) (by omega) (by omega) (by omega)).put 6 (.int .i64 r.x) (by omega) (by omega) (by omega)).put 7 (.int .i64 r.y) (by omega) (by omega) (by omega)
        have H9 := Lib.hid B9
        clear B8 B9 X R SA SB
        refine line_alone rfl (by kernel_rfl) (fun K hK => ?_)
        go_big_op
        refine hK _ _ (S8) ?_
        clear hK K
        refine line_nil ?_
        clear hst S8 h0 h1 h2 h3 h4 h5 h6 h7 f0 f1 f2 f3 f4 f5 f6 f7
        go_wp2_with fail
        go_meet
        case rel => exact ⟨_, r, _, rfl, hrn, by omega, by omega, H9.out⟩
    case rest =>
      obtain ⟨gb, r, pr, rfl, hrs, hpr, hgb, B6⟩ := hcut
      clear A5 X5 R5
      go_wp2_with fail
      refine (dnext 10 B6.drw.draw (by omega)).mono ?_
      rintro e w7 ⟨sw, t0, t1, rfl, D7, O7⟩
      have B7 := B6.only O7 D7 (by omega) (by omega)
      clear B6 D7 O7 t1
      by_cases e0 : sw = 0
      · subst e0
        go_wp2_with fail
        refine (dl7Public B7.drw.draw (by omega)).mono ?_
        rintro e w8 ⟨y, hy, rfl, D8, g8⟩
        have B8 := B7.kept g8 D8 (by omega) (by omega)
        have B9 := B8.put 5 (.int .i64 y) (by omega) (by omega) (by omega)
        clear B7 D8 g8 hy
        have q0 := B8.drw.res.cell 0 _ rfl
        have q1 := B8.drw.res.cell 1 _ rfl
        have q2 := B8.drw.res.cell 2 _ rfl
        have q3 := B8.drw.res.cell 3 _ rfl
        have q4 := B8.drw.res.cell 4 _ rfl
        have q5 := B8.drw.res.cell 5 _ rfl
        have q6 := B8.drw.res.cell 6 _ rfl
        have q7 := B8.drw.res.cell 7 _ rfl
        have z0 := B8.drw.res.free 0 _ rfl
        have z1 := B8.drw.res.free 1 _ rfl
        have z2 := B8.drw.res.free 2 _ rfl
        have z3 := B8.drw.res.free 3 _ rfl
        have z4 := B8.drw.res.free 4 _ rfl
        have z5 := B8.drw.res.free 5 _ rfl
        have z6 := B8.drw.res.free 6 _ rfl
        have z7 := B8.drw.res.free 7 _ rfl
        have x0 := B8.one.cell 0 _ rfl
        have x1 := B8.one.cell 1 _ rfl
        have x2 := B8.one.cell 2 _ rfl
        have x3 := B8.one.cell 3 _ rfl
        have x4 := B8.one.cell 4 _ rfl
        have x5 := B8.one.cell 5 _ rfl
        have x6 := B8.one.cell 6 _ rfl
        have x7 := B8.one.cell 7 _ rfl
        have f0 := B8.one.free 0 _ rfl
        have f1 := B8.one.free 1 _ rfl
        have f2 := B8.one.free 2 _ rfl
        have f3 := B8.one.free 3 _ rfl
        have f4 := B8.one.free 4 _ rfl
        have f5 := B8.one.free 5 _ rfl
        have f6 := B8.one.free 6 _ rfl
        have f7 := B8.one.free 7 _ rfl
        have HB := Lib.hid B9
        clear B8 B9
        go_wp2_with fail
        refine bodyPost_ret (v := R8 ⟨r.p, y, r.x, r.y⟩) (by simp [results, Tryz.results49, go_sem, q0, q1, q2, q3, q4, q5, q6, q7]) rfl ?_
        refine ⟨⟨r.p, y, r.x, r.y⟩, pr + 1 + 1, hrs, by omega, rfl, ?hd, ?hg⟩
        case hd =>
          iterate 8 (refine Draw.put ?_ (by dsimp only; omega) _)
          exact HB.out.drw.draw
        case hg =>
          iterate 8 (refine gset ?_ (by dsimp only; omega) _)
          exact HB.out.drw.grew
      by_cases e1 : sw = 1
      · subst e1
        go_wp2_with fail
        refine (dpick [1, 2, 3, 201] 4 B7.drw.draw (by omega) (by omega) (by omega) rfl 2).mono ?_
        rintro e w8 ⟨y, hy, rfl, D8, O8⟩
        have B8 := (B7.alloc (.cells #[.int .i64 1, .int .i64 2, .int .i64 3, .int .i64 201] 2)).only O8 D8 (by omega) (by omega)
        have B9 := B8.put 3 (.int .i64 y) (by omega) (by omega) (by omega)
        clear B7 D8 O8 hy
        have q0 := B8.drw.res.cell 0 _ rfl
        have q1 := B8.drw.res.cell 1 _ rfl
        have q2 := B8.drw.res.cell 2 _ rfl
        have q3 := B8.drw.res.cell 3 _ rfl
        have q4 := B8.drw.res.cell 4 _ rfl
        have q5 := B8.drw.res.cell 5 _ rfl
        have q6 := B8.drw.res.cell 6 _ rfl
        have q7 := B8.drw.res.cell 7 _ rfl
        have z0 := B8.drw.res.free 0 _ rfl
        have z1 := B8.drw.res.free 1 _ rfl
        have z2 := B8.drw.res.free 2 _ rfl
        have z3 := B8.drw.res.free 3 _ rfl
        have z4 := B8.drw.res.free 4 _ rfl
        have z5 := B8.drw.res.free 5 _ rfl
        have z6 := B8.drw.res.free 6 _ rfl
        have z7 := B8.drw.res.free 7 _ rfl
        have x0 := B8.one.cell 0 _ rfl
        have x1 := B8.one.cell 1 _ rfl
        have x2 := B8.one.cell 2 _ rfl
        have x3 := B8.one.cell 3 _ rfl
        have x4 := B8.one.cell 4 _ rfl
        have x5 := B8.one.cell 5 _ rfl
        have x6 := B8.one.cell 6 _ rfl
        have x7 := B8.one.cell 7 _ rfl
        have f0 := B8.one.free 0 _ rfl
        have f1 := B8.one.free 1 _ rfl
        have f2 := B8.one.free 2 _ rfl
        have f3 := B8.one.free 3 _ rfl
        have f4 := B8.one.free 4 _ rfl
        have f5 := B8.one.free 5 _ rfl
        have f6 := B8.one.free 6 _ rfl
        have f7 := B8.one.free 7 _ rfl
        have HB := Lib.hid B9
        clear B8 B9
        go_wp2_with fail
        refine bodyPost_ret (v := R8 ⟨⟨r.p.n, r.p.a, r.p.b, y, r.p.u⟩, r.b, r.x, r.y⟩) (by simp [results, Tryz.results49, go_sem, q0, q1, q2, q3, q4, q5, q6, q7]) rfl ?_
        refine ⟨⟨⟨r.p.n, r.p.a, r.p.b, y, r.p.u⟩, r.b, r.x, r.y⟩, pr + 1 + 1, hrs, by omega, rfl, ?hd, ?hg⟩
        case hd =>
          iterate 8 (refine Draw.put ?_ (by dsimp only; omega) _)
          exact HB.out.drw.draw
        case hg =>
          iterate 8 (refine gset ?_ (by dsimp only; omega) _)
          exact HB.out.drw.grew
      by_cases e2 : sw = 2
      · subst e2
        go_wp2_with fail
        refine (dpick [0, 1439] 2 B7.drw.draw (by omega) (by omega) (by omega) rfl 2).mono ?_
        rintro e w8 ⟨y, hy, rfl, D8, O8⟩
        have B8 := (B7.alloc (.cells #[.int .i64 0, .int .i64 1439] 2)).only O8 D8 (by omega) (by omega)
        have B9 := B8.put 7 (.int .i64 y) (by omega) (by omega) (by omega)
        clear B7 D8 O8 hy
        have q0 := B8.drw.res.cell 0 _ rfl
        have q1 := B8.drw.res.cell 1 _ rfl
        have q2 := B8.drw.res.cell 2 _ rfl
        have q3 := B8.drw.res.cell 3 _ rfl
        have q4 := B8.drw.res.cell 4 _ rfl
        have q5 := B8.drw.res.cell 5 _ rfl
        have q6 := B8.drw.res.cell 6 _ rfl
        have q7 := B8.drw.res.cell 7 _ rfl
        have z0 := B8.drw.res.free 0 _ rfl
        have z1 := B8.drw.res.free 1 _ rfl
        have z2 := B8.drw.res.free 2 _ rfl
        have z3 := B8.drw.res.free 3 _ rfl
        have z4 := B8.drw.res.free 4 _ rfl
        have z5 := B8.drw.res.free 5 _ rfl
        have z6 := B8.drw.res.free 6 _ rfl
        have z7 := B8.drw.res.free 7 _ rfl
        have x0 := B8.one.cell 0 _ rfl
        have x1 := B8.one.cell 1 _ rfl
        have x2 := B8.one.cell 2 _ rfl
        have x3 := B8.one.cell 3 _ rfl
        have x4 := B8.one.cell 4 _ rfl
        have x5 := B8.one.cell 5 _ rfl
        have x6 := B8.one.cell 6 _ rfl
        have x7 := B8.one.cell 7 _ rfl
        have f0 := B8.one.free 0 _ rfl
        have f1 := B8.one.free 1 _ rfl
        have f2 := B8.one.free 2 _ rfl
        have f3 := B8.one.free 3 _ rfl
        have f4 := B8.one.free 4 _ rfl
        have f5 := B8.one.free 5 _ rfl
        have f6 := B8.one.free 6 _ rfl
        have f7 := B8.one.free 7 _ rfl
        have HB := Lib.hid B9
        clear B8 B9
        go_wp2_with fail
        refine bodyPost_ret (v := R8 ⟨r.p, r.b, r.x, y⟩) (by simp [results, Tryz.results49, go_sem, q0, q1, q2, q3, q4, q5, q6, q7]) rfl ?_
        refine ⟨⟨r.p, r.b, r.x, y⟩, pr + 1 + 1, hrs, by omega, rfl, ?hd, ?hg⟩
        case hd =>
          iterate 8 (refine Draw.put ?_ (by dsimp only; omega) _)
          exact HB.out.drw.draw
        case hg =>
          iterate 8 (refine gset ?_ (by dsimp only; omega) _)
          exact HB.out.drw.grew
      by_cases e3 : sw = 3
      · subst e3
        have B9 := B7.put 4 (.int .i64 60) (by omega) (by omega) (by omega)
        have q0 := B7.drw.res.cell 0 _ rfl
        have q1 := B7.drw.res.cell 1 _ rfl
        have q2 := B7.drw.res.cell 2 _ rfl
        have q3 := B7.drw.res.cell 3 _ rfl
        have q4 := B7.drw.res.cell 4 _ rfl
        have q5 := B7.drw.res.cell 5 _ rfl
        have q6 := B7.drw.res.cell 6 _ rfl
        have q7 := B7.drw.res.cell 7 _ rfl
        have z0 := B7.drw.res.free 0 _ rfl
        have z1 := B7.drw.res.free 1 _ rfl
        have z2 := B7.drw.res.free 2 _ rfl
        have z3 := B7.drw.res.free 3 _ rfl
        have z4 := B7.drw.res.free 4 _ rfl
        have z5 := B7.drw.res.free 5 _ rfl
        have z6 := B7.drw.res.free 6 _ rfl
        have z7 := B7.drw.res.free 7 _ rfl
        have x0 := B7.one.cell 0 _ rfl
        have x1 := B7.one.cell 1 _ rfl
        have x2 := B7.one.cell 2 _ rfl
        have x3 := B7.one.cell 3 _ rfl
        have x4 := B7.one.cell 4 _ rfl
        have x5 := B7.one.cell 5 _ rfl
        have x6 := B7.one.cell 6 _ rfl
        have x7 := B7.one.cell 7 _ rfl
        have f0 := B7.one.free 0 _ rfl
        have f1 := B7.one.free 1 _ rfl
        have f2 := B7.one.free 2 _ rfl
        have f3 := B7.one.free 3 _ rfl
        have f4 := B7.one.free 4 _ rfl
        have f5 := B7.one.free 5 _ rfl
        have f6 := B7.one.free 6 _ rfl
        have f7 := B7.one.free 7 _ rfl
        have HB := Lib.hid B9
        clear B7 B9
        go_wp2_with fail
        refine bodyPost_ret (v := R8 ⟨⟨r.p.n, r.p.a, r.p.b, r.p.e, 60⟩, r.b, r.x, r.y⟩) (by simp [results, Tryz.results49, go_sem, q0, q1, q2, q3, q4, q5, q6, q7]) rfl ?_
        refine ⟨⟨⟨r.p.n, r.p.a, r.p.b, r.p.e, 60⟩, r.b, r.x, r.y⟩, pr + 1, hrs, by omega, rfl, ?hd, ?hg⟩
        case hd =>
          iterate 8 (refine Draw.put ?_ (by dsimp only; omega) _)
          exact HB.out.drw.draw
        case hg =>
          iterate 8 (refine gset ?_ (by dsimp only; omega) _)
          exact HB.out.drw.grew
      · have n0 : (sw == 0) = false := by rw [beq_eq_false_iff_ne]; exact e0
        have n1 : (sw == 1) = false := by rw [beq_eq_false_iff_ne]; exact e1
        have n2 : (sw == 2) = false := by rw [beq_eq_false_iff_ne]; exact e2
        have n3 : (sw == 3) = false := by rw [beq_eq_false_iff_ne]; exact e3
        have B9 := B7
        have q0 := B7.drw.res.cell 0 _ rfl
        have q1 := B7.drw.res.cell 1 _ rfl
        have q2 := B7.drw.res.cell 2 _ rfl
        have q3 := B7.drw.res.cell 3 _ rfl
        have q4 := B7.drw.res.cell 4 _ rfl
        have q5 := B7.drw.res.cell 5 _ rfl
        have q6 := B7.drw.res.cell 6 _ rfl
        have q7 := B7.drw.res.cell 7 _ rfl
        have z0 := B7.drw.res.free 0 _ rfl
        have z1 := B7.drw.res.free 1 _ rfl
        have z2 := B7.drw.res.free 2 _ rfl
        have z3 := B7.drw.res.free 3 _ rfl
        have z4 := B7.drw.res.free 4 _ rfl
        have z5 := B7.drw.res.free 5 _ rfl
        have z6 := B7.drw.res.free 6 _ rfl
        have z7 := B7.drw.res.free 7 _ rfl
        have x0 := B7.one.cell 0 _ rfl
        have x1 := B7.one.cell 1 _ rfl
        have x2 := B7.one.cell 2 _ rfl
        have x3 := B7.one.cell 3 _ rfl
        have x4 := B7.one.cell 4 _ rfl
        have x5 := B7.one.cell 5 _ rfl
        have x6 := B7.one.cell 6 _ rfl
        have x7 := B7.one.cell 7 _ rfl
        have f0 := B7.one.free 0 _ rfl
        have f1 := B7.one.free 1 _ rfl
        have f2 := B7.one.free 2 _ rfl
        have f3 := B7.one.free 3 _ rfl
        have f4 := B7.one.free 4 _ rfl
        have f5 := B7.one.free 5 _ rfl
        have f6 := B7.one.free 6 _ rfl
        have f7 := B7.one.free 7 _ rfl
        have HB := Lib.hid B9
        clear B7 B9
        go_wp2_with fail
        refine bodyPost_ret (v := R8 r) (by simp [results, Tryz.results49, go_sem, q0, q1, q2, q3, q4, q5, q6, q7]) rfl ?_
        refine ⟨r, pr + 1, hrs, by omega, rfl, ?hd, ?hg⟩
        case hd =>
          iterate 8 (refine Draw.put ?_ (by dsimp only; omega) _)
          exact HB.out.drw.draw
        case hg =>
          iterate 8 (refine gset ?_ (by dsimp only; omega) _)
          exact HB.out.drw.grew
end Go.Proofs.YtmdknbgpddnplaaGreatDoor
namespace Go.Proofs.YtmdknbgpddnplaaGreatDoor
open Go.RowKit
set_option maxRecDepth 100000
set_option linter.unusedVariables false

def DrawnPin (w : World) (r : Ending) (w' : World) : Prop := ∃ q : PinD, r = .returned (P5 q) ∧ q.n.size ≤ 21 ∧ Below w.heap.size w w'
def DrawnSgn (w : World) (r : Ending) (w' : World) : Prop := ∃ (s : Int) (q : PinD), r = .returned (.tuple #[.int .i64 s, P5 q]) ∧ q.n.size ≤ 21 ∧ Below w.heap.size w w'
def DrawnChk (w : World) (e : Ending) (w' : World) : Prop := ∃ (q : PinD) (r : RollD) (t : Int), e = .returned (.tuple #[P5 q, R8 r, .int .i64 t]) ∧ q.n.size ≤ 21 ∧ r.p.n.size ≤ 21 ∧ Below w.heap.size w w'
def DrawnApp (w : World) (e : Ending) (w' : World) : Prop := ∃ (x : Option Addr) (n c : Nat) (ps : List PinD) (r : RollD) (t : Int), e = .returned (.tuple #[.slice x n c, R8 r, .int .i64 t]) ∧ (∀ p ∈ ps, p.n.size ≤ 21) ∧ r.p.n.size ≤ 21 ∧ PRow w' w'.heap.size x n c ps ∧ Below w.heap.size w w'
def DrawnChn (w : World) (e : Ending) (w' : World) : Prop := ∃ (q : PinD) (x : Option Addr) (n c : Nat) (rs : List RollD) (t : Int), e = .returned (.tuple #[P5 q, .slice x n c, .int .i64 t]) ∧ q.n.size ≤ 21 ∧ (∀ r ∈ rs, r.p.n.size ≤ 21) ∧ RRow w' w'.heap.size x n c rs ∧ Below w.heap.size w w'
set_option maxHeartbeats 1000000 in
theorem DrawRollSum_any {a : Option Addr} {len cap : Nat} {zs : List Int} {w : World} (hR : Row .u8 w w.heap.size a len cap zs) :
    Calls Tryz.prog 29 #[.slice a len cap] w (DrawnPin w) := by
  have A0 : At w.heap.size pinZero (w.alloc (.cells #[.string { data := #[] }, .int .i64 0, .int .i64 0, .int .i64 0, .int .i64 0] 25)) := At.new w pinZero 25
  have b0 := bal (Below.refl _ w) (.cells #[.string { data := #[] }, .int .i64 0, .int .i64 0, .int .i64 0, .int .i64 0] 25)
  have R0 := hR.on b0
  clear hR
  go_enter Tryz.func29, Tryz.ntmps29
  go_wp2_with fail
  generalize w.alloc (.cells #[.string { data := #[] }, .int .i64 0, .int .i64 0, .int .i64 0, .int .i64 0] 25) = W0 at *
  refine (dsource R0).mono ?_
  rintro r w1 ⟨rfl, D1⟩
  go_wp2_with fail
  refine (dl7Bent D1 (by omega)).mono ?_
  rintro r w2 ⟨q, p, hq, hp, rfl, D2, g2⟩
  have A3 := A0.on D2.bel
  have B3 := btr b0 D2.bel
  have q0 := A3.cell 0 _ rfl
  have q1 := A3.cell 1 _ rfl
  have q2 := A3.cell 2 _ rfl
  have q3 := A3.cell 3 _ rfl
  have q4 := A3.cell 4 _ rfl
  have z0 := A3.free 0 _ rfl
  have z1 := A3.free 1 _ rfl
  have z2 := A3.free 2 _ rfl
  have z3 := A3.free 3 _ rfl
  have z4 := A3.free 4 _ rfl
  have HO := Lib.hid (And.intro A3 B3)
  have HQ := Lib.hid hq
  clear D1 D2 g2 A3 B3 b0 A0 R0 hq
  go_wp2_with fail
  refine bodyPost_ret (v := P5 q) (by simp [results, Tryz.results29, go_sem, q0, q1, q2, q3, q4]) rfl ⟨q, rfl, HQ.out, (by (iterate 5 (refine bset ?_ (by dsimp only; omega) _)); exact HO.out.2)⟩
set_option maxHeartbeats 1000000 in
theorem DrawSignRoll_any {a : Option Addr} {len cap : Nat} {zs : List Int} {w : World} (hR : Row .u8 w w.heap.size a len cap zs) :
    Calls Tryz.prog 14 #[.slice a len cap] w (DrawnSgn w) := by
  have A0 : At w.heap.size pinZero (w.alloc (.cells #[.string { data := #[] }, .int .i64 0, .int .i64 0, .int .i64 0, .int .i64 0] 25)) := At.new w pinZero 25
  have b0 := bal (Below.refl _ w) (.cells #[.string { data := #[] }, .int .i64 0, .int .i64 0, .int .i64 0, .int .i64 0] 25)
  have R0 := hR.on b0
  clear hR
  go_enter Tryz.func14, Tryz.ntmps14
  go_wp2_with fail
  generalize w.alloc (.cells #[.string { data := #[] }, .int .i64 0, .int .i64 0, .int .i64 0, .int .i64 0] 25) = W0 at *
  refine (dsource R0).mono ?_
  rintro r w1 ⟨rfl, D1⟩
  go_wp2_with fail
  refine (dpick [1, 2, 1438, 1439, 0] 5 D1 (by omega) (by omega) (by omega) rfl 2).mono ?_
  rintro r w3 ⟨t, ht, rfl, D3, O3⟩
  clear D1 O3 ht
  go_wp2_with fail
  refine (dl7Bent D3 (by omega)).mono ?_
  rintro r w2 ⟨q, p, hq, hp, rfl, D2, g2⟩
  have A3 := A0.on D2.bel
  have B3 := btr b0 D2.bel
  have q0 := A3.cell 0 _ rfl
  have q1 := A3.cell 1 _ rfl
  have q2 := A3.cell 2 _ rfl
  have q3 := A3.cell 3 _ rfl
  have q4 := A3.cell 4 _ rfl
  have z0 := A3.free 0 _ rfl
  have z1 := A3.free 1 _ rfl
  have z2 := A3.free 2 _ rfl
  have z3 := A3.free 3 _ rfl
  have z4 := A3.free 4 _ rfl
  have HO := Lib.hid (And.intro A3 B3)
  have HQ := Lib.hid hq
  clear D3 D2 g2 A3 B3 b0 A0 R0 hq
  go_wp2_with fail
  refine bodyPost_ret (v := .tuple #[.int .i64 t, P5 q]) (by simp [results, Tryz.results14, go_sem, q0, q1, q2, q3, q4]) rfl ⟨t, q, rfl, HQ.out, (by (iterate 5 (refine bset ?_ (by dsimp only; omega) _)); exact HO.out.2)⟩
end Go.Proofs.YtmdknbgpddnplaaGreatDoor
namespace Go.Proofs.YtmdknbgpddnplaaGreatDoor
open Go.RowKit
set_option maxRecDepth 100000
set_option linter.unusedVariables false

set_option maxHeartbeats 8000000 in
theorem DrawCheckRoll_any {a : Option Addr} {len cap : Nat} {zs : List Int} {w : World} (hR : Row .u8 w w.heap.size a len cap zs) :
    Calls Tryz.prog 10 #[.slice a len cap] w (DrawnChk w) := by
  have A0 : At w.heap.size pinZero ((w.alloc (.cells #[.string { data := #[] }, .int .i64 0, .int .i64 0, .int .i64 0, .int .i64 0] 25)).alloc (.cells #[.string { data := #[] }, .int .i64 0, .int .i64 0, .int .i64 0, .int .i64 0, .int .i64 0, .int .i64 0, .int .i64 0] 29)) := (At.new w pinZero 25).alloc _
  have Z0 : At (w.heap.size + 1) zer8 ((w.alloc (.cells #[.string { data := #[] }, .int .i64 0, .int .i64 0, .int .i64 0, .int .i64 0] 25)).alloc (.cells #[.string { data := #[] }, .int .i64 0, .int .i64 0, .int .i64 0, .int .i64 0, .int .i64 0, .int .i64 0, .int .i64 0] 29)) := At.newN (w := w.alloc (.cells #[.string { data := #[] }, .int .i64 0, .int .i64 0, .int .i64 0, .int .i64 0] 25)) zer8 29 (by simp)
  have b0 := bal (bal (Below.refl _ w) (.cells #[.string { data := #[] }, .int .i64 0, .int .i64 0, .int .i64 0, .int .i64 0] 25)) (.cells #[.string { data := #[] }, .int .i64 0, .int .i64 0, .int .i64 0, .int .i64 0, .int .i64 0, .int .i64 0, .int .i64 0] 29)
  have R0 := hR.on b0
  have ltz := Z0.lt (by simp [zer8])
  clear hR
  go_enter Tryz.func10, Tryz.ntmps10
  go_wp2_with fail
  generalize (w.alloc (.cells #[.string { data := #[] }, .int .i64 0, .int .i64 0, .int .i64 0, .int .i64 0] 25)).alloc (.cells #[.string { data := #[] }, .int .i64 0, .int .i64 0, .int .i64 0, .int .i64 0, .int .i64 0, .int .i64 0, .int .i64 0] 29) = W0 at *
  refine (dsource R0).mono ?_
  rintro e w1 ⟨rfl, D1⟩
  have lt1 := D1.lt
  go_wp2_with fail
  refine (dl7Bent D1 (by omega)).mono ?_
  rintro e w2 ⟨q, p, hq, hp, rfl, D2, g2⟩
  have D3 := D2.alloc (.cells #[.string q.n, .int .i64 q.a, .int .i64 q.b, .int .i64 q.e, .int .i64 q.u] 25)
  have X3 : At w2.heap.size q.vals (w2.alloc (.cells #[.string q.n, .int .i64 q.a, .int .i64 q.b, .int .i64 q.e, .int .i64 q.u] 25)) := At.new w2 q.vals 25
  have lt2 := D2.lt
  clear D1 D2 g2 R0
  go_upto_region 3 with fail
  generalize w2.alloc (.cells #[.string q.n, .int .i64 q.a, .int .i64 q.b, .int .i64 q.e, .int .i64 q.u] 25) = W3 at *
  generalize w2.heap.size = pb at *
  refine wp_region_fork (At pb q.vals) (by kernel_rfl) (X3.on (bdrew _)) ?_
  have hst : (At pb q.vals) _ := (X3.on (bdrew _))
  have inst : Nonempty (Of (At pb q.vals)) := ⟨⟨_, hst⟩⟩
  have DD := D3.below (bdrew _)
  have y0 : ∀ z : Of (At pb q.vals), z.val.cell? ⟨pb, 0, none⟩ = some (.string q.n) := fun z => z.prop.cell 0 _ rfl
  have y1 : ∀ z : Of (At pb q.vals), z.val.cell? ⟨pb, 1, none⟩ = some (.int .i64 q.a) := fun z => z.prop.cell 1 _ rfl
  have y2 : ∀ z : Of (At pb q.vals), z.val.cell? ⟨pb, 2, none⟩ = some (.int .i64 q.b) := fun z => z.prop.cell 2 _ rfl
  have y3 : ∀ z : Of (At pb q.vals), z.val.cell? ⟨pb, 3, none⟩ = some (.int .i64 q.e) := fun z => z.prop.cell 3 _ rfl
  have y4 : ∀ z : Of (At pb q.vals), z.val.cell? ⟨pb, 4, none⟩ = some (.int .i64 q.u) := fun z => z.prop.cell 4 _ rfl
  clear X3 D3
  generalize W3.drew = V1 at *
  refine any_seg 6 [(0, true), (1, true), (2, true), (4, true)] (by kernel_rfl) (fun _ _ d _ _ h => by cases d <;> exact h) ?_
  iterate 4 (refine line_read rfl (by kernel_rfl) (fun K hK => ?_); go_big_quiet_op; refine hK _ ?_; clear hK K)
  refine line_nil ?_
  clear y0 y1 y2 y3 y4
  refine any_fork 3 5 (by kernel_rfl) rfl rfl (by kernel_rfl) (by kernel_rfl) (fun K hK => ?_) (fun K hK => ?_)
  · refine call_any (args := #[.pointer (some ⟨W0.heap.size, 0, none⟩), P5 q]) rfl (by kernel_rfl) (by kernel_rfl) (dl8Draw DD (by omega) q hq) ?_
    rintro e x1 ⟨r, pr, hr, hpr, rfl, DN, g1⟩
    have hstN : At pb q.vals x1 := hst.kept g1 (fun e => by injection e with e; omega)
    refine ⟨_, rfl, hK _ _ hstN ?_⟩
    clear hK K hst DD
    have hst := hstN
    have DD := DN
    clear hstN DN
    simp only [Act.put, List.setIfInBounds_toArray, List.set_cons_zero, List.set_cons_succ]
    refine any_rest [(5, false), (6, false), (7, false), (8, false), (9, true)] (by kernel_rfl) (fun _ _ d _ _ h => by cases d <;> exact h) ?_
    refine line_alone rfl (by kernel_rfl) (fun K hK => ?_)
    go_big_op
    have hstN : At pb q.vals (x1.alloc (.cells #[.int .i64 0, .int .i64 40, .int .i64 51, .int .i64 9999, .int .i64 10000] 2)) := hst.alloc _
    refine hK _ _ hstN ?_
    clear hK K hst g1
    have hst := hstN
    clear hstN
    refine line_alone rfl (by kernel_rfl) (fun K hK => ?_)
    refine call_any (args := #[.pointer (some ⟨W0.heap.size, 0, none⟩), .slice (some ⟨x1.heap.size, 0, none⟩) 5 5]) rfl (by kernel_rfl) (by kernel_rfl) (dpick [0, 40, 51, 9999, 10000] 5 DD (by omega) (by omega) (by omega) rfl 2) ?_
    rintro e x3 ⟨t, ht, rfl, DN, O3⟩
    have hstN : At pb q.vals x3 := hst.only5 O3 (by omega)
    refine ⟨_, rfl, hK _ _ hstN ?_⟩
    clear hK K hst DD ht O3
    have hst := hstN
    have DD := DN
    clear hstN DN
    simp only [Act.put, List.setIfInBounds_toArray, List.set_cons_zero, List.set_cons_succ]
    have A3 := A0.on DD.bel
    have Z3 := Z0.on DD.bel
    have B3 := btr b0 DD.bel
    have q0 := A3.cell 0 _ rfl
    have q1 := A3.cell 1 _ rfl
    have q2 := A3.cell 2 _ rfl
    have q3 := A3.cell 3 _ rfl
    have q4 := A3.cell 4 _ rfl
    have z0 := A3.free 0 _ rfl
    have z1 := A3.free 1 _ rfl
    have z2 := A3.free 2 _ rfl
    have z3 := A3.free 3 _ rfl
    have z4 := A3.free 4 _ rfl
    have y0 := Z3.cell 0 _ rfl
    have y1 := Z3.cell 1 _ rfl
    have y2 := Z3.cell 2 _ rfl
    have y3 := Z3.cell 3 _ rfl
    have y4 := Z3.cell 4 _ rfl
    have y5 := Z3.cell 5 _ rfl
    have y6 := Z3.cell 6 _ rfl
    have y7 := Z3.cell 7 _ rfl
    have h0 := Z3.free 0 _ rfl
    have h1 := Z3.free 1 _ rfl
    have h2 := Z3.free 2 _ rfl
    have h3 := Z3.free 3 _ rfl
    have h4 := Z3.free 4 _ rfl
    have h5 := Z3.free 5 _ rfl
    have h6 := Z3.free 6 _ rfl
    have h7 := Z3.free 7 _ rfl
    have Z4 := ((((Z3.setB (p := ⟨w.heap.size, 0, none⟩) (by simp) (.string q.n)).setB (p := ⟨w.heap.size, 1, none⟩) (by simp) (.int .i64 q.a)).setB (p := ⟨w.heap.size, 2, none⟩) (by simp) (.int .i64 q.b)).setB (p := ⟨w.heap.size, 3, none⟩) (by simp) (.int .i64 q.e)).setB (p := ⟨w.heap.size, 4, none⟩) (by simp) (.int .i64 q.u)
    have A4 := ((((A3.set 0 (.string q.n)).set 1 (.int .i64 q.a)).set 2 (.int .i64 q.b)).set 3 (.int .i64 q.e)).set 4 (.int .i64 q.u)
    have hst4 : At pb q.vals (((((x3.setCell ⟨w.heap.size, 0, none⟩ (.string q.n)).setCell ⟨w.heap.size, 1, none⟩ (.int .i64 q.a)).setCell ⟨w.heap.size, 2, none⟩ (.int .i64 q.b)).setCell ⟨w.heap.size, 3, none⟩ (.int .i64 q.e)).setCell ⟨w.heap.size, 4, none⟩ (.int .i64 q.u)) := by
      iterate 5 (refine At.setB ?_ (by dsimp only; omega) _)
      exact hst
    have B4 := bset (bset (bset (bset (bset B3 (p := ⟨w.heap.size, 0, none⟩) (Nat.le_refl _) (.string q.n)) (p := ⟨w.heap.size, 1, none⟩) (Nat.le_refl _) (.int .i64 q.a)) (p := ⟨w.heap.size, 2, none⟩) (Nat.le_refl _) (.int .i64 q.b)) (p := ⟨w.heap.size, 3, none⟩) (Nat.le_refl _) (.int .i64 q.e)) (p := ⟨w.heap.size, 4, none⟩) (Nat.le_refl _) (.int .i64 q.u)
    clear A3 Z3 B3 A0 Z0 b0 DD
    refine line_alone rfl (by kernel_rfl) (fun K hK => ?_)
    go_big_op
    refine hK _ _ (hst4) ?_
    clear hK K
    clear hst q0 q1 q2 q3 q4 z0 z1 z2 z3 z4 y0 y1 y2 y3 y4 y5 y6 y7 h0 h1 h2 h3 h4 h5 h6 h7
    generalize (((((x3.setCell ⟨w.heap.size, 0, none⟩ (.string q.n)).setCell ⟨w.heap.size, 1, none⟩ (.int .i64 q.a)).setCell ⟨w.heap.size, 2, none⟩ (.int .i64 q.b)).setCell ⟨w.heap.size, 3, none⟩ (.int .i64 q.e)).setCell ⟨w.heap.size, 4, none⟩ (.int .i64 q.u)) = x4 at *
    have y0 := Z4.cell 0 _ rfl
    have y1 := Z4.cell 1 _ rfl
    have y2 := Z4.cell 2 _ rfl
    have y3 := Z4.cell 3 _ rfl
    have y4 := Z4.cell 4 _ rfl
    have y5 := Z4.cell 5 _ rfl
    have y6 := Z4.cell 6 _ rfl
    have y7 := Z4.cell 7 _ rfl
    have h0 := Z4.free 0 _ rfl
    have h1 := Z4.free 1 _ rfl
    have h2 := Z4.free 2 _ rfl
    have h3 := Z4.free 3 _ rfl
    have h4 := Z4.free 4 _ rfl
    have h5 := Z4.free 5 _ rfl
    have h6 := Z4.free 6 _ rfl
    have h7 := Z4.free 7 _ rfl
    have hst5 : At pb q.vals ((((((((x4.setCell ⟨w.heap.size + 1, 0, none⟩ (.string r.p.n)).setCell ⟨w.heap.size + 1, 1, none⟩ (.int .i64 r.p.a)).setCell ⟨w.heap.size + 1, 2, none⟩ (.int .i64 r.p.b)).setCell ⟨w.heap.size + 1, 3, none⟩ (.int .i64 r.p.e)).setCell ⟨w.heap.size + 1, 4, none⟩ (.int .i64 r.p.u)).setCell ⟨w.heap.size + 1, 5, none⟩ (.int .i64 r.b)).setCell ⟨w.heap.size + 1, 6, none⟩ (.int .i64 r.x)).setCell ⟨w.heap.size + 1, 7, none⟩ (.int .i64 r.y)) := by
      iterate 8 (refine At.setB ?_ (by dsimp only; omega) _)
      exact hst4
    refine line_alone rfl (by kernel_rfl) (fun K hK => ?_)
    go_big_op
    refine hK _ _ (hst5) ?_
    clear hK K
    have A5 : At w.heap.size q.vals ((((((((x4.setCell ⟨w.heap.size + 1, 0, none⟩ (.string r.p.n)).setCell ⟨w.heap.size + 1, 1, none⟩ (.int .i64 r.p.a)).setCell ⟨w.heap.size + 1, 2, none⟩ (.int .i64 r.p.b)).setCell ⟨w.heap.size + 1, 3, none⟩ (.int .i64 r.p.e)).setCell ⟨w.heap.size + 1, 4, none⟩ (.int .i64 r.p.u)).setCell ⟨w.heap.size + 1, 5, none⟩ (.int .i64 r.b)).setCell ⟨w.heap.size + 1, 6, none⟩ (.int .i64 r.x)).setCell ⟨w.heap.size + 1, 7, none⟩ (.int .i64 r.y)) := by
      iterate 8 (refine At.setB ?_ (by simp) _)
      exact A4
    have Z5 : At (w.heap.size + 1) r.vals _ := (((((((Z4.set 0 (.string r.p.n)).set 1 (.int .i64 r.p.a)).set 2 (.int .i64 r.p.b)).set 3 (.int .i64 r.p.e)).set 4 (.int .i64 r.p.u)).set 5 (.int .i64 r.b)).set 6 (.int .i64 r.x)).set 7 (.int .i64 r.y)
    have B5 : Below w.heap.size w ((((((((x4.setCell ⟨w.heap.size + 1, 0, none⟩ (.string r.p.n)).setCell ⟨w.heap.size + 1, 1, none⟩ (.int .i64 r.p.a)).setCell ⟨w.heap.size + 1, 2, none⟩ (.int .i64 r.p.b)).setCell ⟨w.heap.size + 1, 3, none⟩ (.int .i64 r.p.e)).setCell ⟨w.heap.size + 1, 4, none⟩ (.int .i64 r.p.u)).setCell ⟨w.heap.size + 1, 5, none⟩ (.int .i64 r.b)).setCell ⟨w.heap.size + 1, 6, none⟩ (.int .i64 r.x)).setCell ⟨w.heap.size + 1, 7, none⟩ (.int .i64 r.y)) := (by (iterate 8 (refine bset ?_ (by dsimp only; omega) _)); exact B4)
    clear A4 Z4 B4 hst4 hst5 y0 y1 y2 y3 y4 y5 y6 y7 h0 h1 h2 h3 h4 h5 h6 h7
    iterate 1 (refine line_read rfl (by kernel_rfl) (fun K hK => ?_); go_big_quiet_op; refine hK _ ?_; clear hK K)
    refine line_nil ?_
    generalize ((((((((x4.setCell ⟨w.heap.size + 1, 0, none⟩ (.string r.p.n)).setCell ⟨w.heap.size + 1, 1, none⟩ (.int .i64 r.p.a)).setCell ⟨w.heap.size + 1, 2, none⟩ (.int .i64 r.p.b)).setCell ⟨w.heap.size + 1, 3, none⟩ (.int .i64 r.p.e)).setCell ⟨w.heap.size + 1, 4, none⟩ (.int .i64 r.p.u)).setCell ⟨w.heap.size + 1, 5, none⟩ (.int .i64 r.b)).setCell ⟨w.heap.size + 1, 6, none⟩ (.int .i64 r.x)).setCell ⟨w.heap.size + 1, 7, none⟩ (.int .i64 r.y)) = x5 at *
    have q0 := A5.cell 0 _ rfl
    have q1 := A5.cell 1 _ rfl
    have q2 := A5.cell 2 _ rfl
    have q3 := A5.cell 3 _ rfl
    have q4 := A5.cell 4 _ rfl
    have y0 := Z5.cell 0 _ rfl
    have y1 := Z5.cell 1 _ rfl
    have y2 := Z5.cell 2 _ rfl
    have y3 := Z5.cell 3 _ rfl
    have y4 := Z5.cell 4 _ rfl
    have y5 := Z5.cell 5 _ rfl
    have y6 := Z5.cell 6 _ rfl
    have y7 := Z5.cell 7 _ rfl
    have HB := Lib.hid B5
    clear A5 Z5 B5
    go_wp2_with fail
    exact bodyPost_ret (v := .tuple #[P5 q, R8 r, .int .i64 t]) (by simp [results, Tryz.results10, go_sem, q0, q1, q2, q3, q4, y0, y1, y2, y3, y4, y5, y6, y7]) rfl ⟨q, r, t, rfl, hq, hr, HB.out⟩
  · go_big_op
    have hstN : At pb q.vals (V1.alloc (.cells #[.int .i64 0, .int .i64 40, .int .i64 51, .int .i64 9999, .int .i64 10000] 2)) := hst.alloc _
    have X : At V1.heap.size [.int .i64 0, .int .i64 40, .int .i64 51, .int .i64 9999, .int .i64 10000] (V1.alloc (.cells #[.int .i64 0, .int .i64 40, .int .i64 51, .int .i64 9999, .int .i64 10000] 2)) := At.new V1 [.int .i64 0, .int .i64 40, .int .i64 51, .int .i64 9999, .int .i64 10000] 2
    have DN := DD.alloc (.cells #[.int .i64 0, .int .i64 40, .int .i64 51, .int .i64 9999, .int .i64 10000] 2)
    have ltg := DD.lt
    refine hK _ _ hstN ?_
    clear hK K hst DD
    have hst := hstN
    have DD := DN
    clear hstN DN
    generalize V1.alloc (.cells #[.int .i64 0, .int .i64 40, .int .i64 51, .int .i64 9999, .int .i64 10000] 2) = Va at *
    generalize V1.heap.size = ga at *
    refine any_rest [(3, false), (6, false), (7, false), (8, false), (9, true)] (by kernel_rfl) (fun _ _ d _ _ h => by cases d <;> exact h) ?_
    refine line_alone rfl (by kernel_rfl) (fun K hK => ?_)
    refine call_any (args := #[.pointer (some ⟨W0.heap.size, 0, none⟩), P5 q]) rfl (by kernel_rfl) (by kernel_rfl) (dl8Draw DD (by omega) q hq) ?_
    rintro e x1 ⟨r, pr, hr, hpr, rfl, DN, g1⟩
    have hstN : At pb q.vals x1 := hst.kept g1 (fun e => by injection e with e; omega)
    refine ⟨_, rfl, hK _ _ hstN ?_⟩
    clear hK K hst DD
    have hst := hstN
    have DD := DN
    clear hstN DN
    simp only [Act.put, List.setIfInBounds_toArray, List.set_cons_zero, List.set_cons_succ]
    have XN := X.kept g1 (fun e => by injection e with e; omega)
    clear X g1
    have X := XN
    clear XN
    refine line_alone rfl (by kernel_rfl) (fun K hK => ?_)
    refine call_any (args := #[.pointer (some ⟨W0.heap.size, 0, none⟩), .slice (some ⟨ga, 0, none⟩) 5 5]) rfl (by kernel_rfl) (by kernel_rfl) (l1Pick_any W0.heap.size ga 5 [0, 40, 51, 9999, 10000] a len cap pr W0.heap.size zs x1 DD.src DD.row (Nat.le_refl _) (by omega) (by omega) rfl (by omega) (by omega) (fun j hj => by
      match j, hj with
      | 0, _ => exact X.cell 0 _ rfl
      | 1, _ => exact X.cell 1 _ rfl
      | 2, _ => exact X.cell 2 _ rfl
      | 3, _ => exact X.cell 3 _ rfl
      | 4, _ => exact X.cell 4 _ rfl)) ?_
    rintro e x3 ⟨t, ht, rfl, SN, O3⟩
    have DN := DD.only SN O3
    have hstN : At pb q.vals x3 := hst.only5 O3 (by omega)
    refine ⟨_, rfl, hK _ _ hstN ?_⟩
    clear hK K hst DD ht O3 SN X
    have hst := hstN
    have DD := DN
    clear hstN DN
    simp only [Act.put, List.setIfInBounds_toArray, List.set_cons_zero, List.set_cons_succ]
    have A3 := A0.on DD.bel
    have Z3 := Z0.on DD.bel
    have B3 := btr b0 DD.bel
    have q0 := A3.cell 0 _ rfl
    have q1 := A3.cell 1 _ rfl
    have q2 := A3.cell 2 _ rfl
    have q3 := A3.cell 3 _ rfl
    have q4 := A3.cell 4 _ rfl
    have z0 := A3.free 0 _ rfl
    have z1 := A3.free 1 _ rfl
    have z2 := A3.free 2 _ rfl
    have z3 := A3.free 3 _ rfl
    have z4 := A3.free 4 _ rfl
    have y0 := Z3.cell 0 _ rfl
    have y1 := Z3.cell 1 _ rfl
    have y2 := Z3.cell 2 _ rfl
    have y3 := Z3.cell 3 _ rfl
    have y4 := Z3.cell 4 _ rfl
    have y5 := Z3.cell 5 _ rfl
    have y6 := Z3.cell 6 _ rfl
    have y7 := Z3.cell 7 _ rfl
    have h0 := Z3.free 0 _ rfl
    have h1 := Z3.free 1 _ rfl
    have h2 := Z3.free 2 _ rfl
    have h3 := Z3.free 3 _ rfl
    have h4 := Z3.free 4 _ rfl
    have h5 := Z3.free 5 _ rfl
    have h6 := Z3.free 6 _ rfl
    have h7 := Z3.free 7 _ rfl
    have Z4 := ((((Z3.setB (p := ⟨w.heap.size, 0, none⟩) (by simp) (.string q.n)).setB (p := ⟨w.heap.size, 1, none⟩) (by simp) (.int .i64 q.a)).setB (p := ⟨w.heap.size, 2, none⟩) (by simp) (.int .i64 q.b)).setB (p := ⟨w.heap.size, 3, none⟩) (by simp) (.int .i64 q.e)).setB (p := ⟨w.heap.size, 4, none⟩) (by simp) (.int .i64 q.u)
    have A4 := ((((A3.set 0 (.string q.n)).set 1 (.int .i64 q.a)).set 2 (.int .i64 q.b)).set 3 (.int .i64 q.e)).set 4 (.int .i64 q.u)
    have hst4 : At pb q.vals (((((x3.setCell ⟨w.heap.size, 0, none⟩ (.string q.n)).setCell ⟨w.heap.size, 1, none⟩ (.int .i64 q.a)).setCell ⟨w.heap.size, 2, none⟩ (.int .i64 q.b)).setCell ⟨w.heap.size, 3, none⟩ (.int .i64 q.e)).setCell ⟨w.heap.size, 4, none⟩ (.int .i64 q.u)) := by
      iterate 5 (refine At.setB ?_ (by dsimp only; omega) _)
      exact hst
    have B4 := bset (bset (bset (bset (bset B3 (p := ⟨w.heap.size, 0, none⟩) (Nat.le_refl _) (.string q.n)) (p := ⟨w.heap.size, 1, none⟩) (Nat.le_refl _) (.int .i64 q.a)) (p := ⟨w.heap.size, 2, none⟩) (Nat.le_refl _) (.int .i64 q.b)) (p := ⟨w.heap.size, 3, none⟩) (Nat.le_refl _) (.int .i64 q.e)) (p := ⟨w.heap.size, 4, none⟩) (Nat.le_refl _) (.int .i64 q.u)
    clear A3 Z3 B3 A0 Z0 b0 DD
    refine line_alone rfl (by kernel_rfl) (fun K hK => ?_)
    go_big_op
    refine hK _ _ (hst4) ?_
    clear hK K
    clear hst q0 q1 q2 q3 q4 z0 z1 z2 z3 z4 y0 y1 y2 y3 y4 y5 y6 y7 h0 h1 h2 h3 h4 h5 h6 h7
    generalize (((((x3.setCell ⟨w.heap.size, 0, none⟩ (.string q.n)).setCell ⟨w.heap.size, 1, none⟩ (.int .i64 q.a)).setCell ⟨w.heap.size, 2, none⟩ (.int .i64 q.b)).setCell ⟨w.heap.size, 3, none⟩ (.int .i64 q.e)).setCell ⟨w.heap.size, 4, none⟩ (.int .i64 q.u)) = x4 at *
    have y0 := Z4.cell 0 _ rfl
    have y1 := Z4.cell 1 _ rfl
    have y2 := Z4.cell 2 _ rfl
    have y3 := Z4.cell 3 _ rfl
    have y4 := Z4.cell 4 _ rfl
    have y5 := Z4.cell 5 _ rfl
    have y6 := Z4.cell 6 _ rfl
    have y7 := Z4.cell 7 _ rfl
    have h0 := Z4.free 0 _ rfl
    have h1 := Z4.free 1 _ rfl
    have h2 := Z4.free 2 _ rfl
    have h3 := Z4.free 3 _ rfl
    have h4 := Z4.free 4 _ rfl
    have h5 := Z4.free 5 _ rfl
    have h6 := Z4.free 6 _ rfl
    have h7 := Z4.free 7 _ rfl
    have hst5 : At pb q.vals ((((((((x4.setCell ⟨w.heap.size + 1, 0, none⟩ (.string r.p.n)).setCell ⟨w.heap.size + 1, 1, none⟩ (.int .i64 r.p.a)).setCell ⟨w.heap.size + 1, 2, none⟩ (.int .i64 r.p.b)).setCell ⟨w.heap.size + 1, 3, none⟩ (.int .i64 r.p.e)).setCell ⟨w.heap.size + 1, 4, none⟩ (.int .i64 r.p.u)).setCell ⟨w.heap.size + 1, 5, none⟩ (.int .i64 r.b)).setCell ⟨w.heap.size + 1, 6, none⟩ (.int .i64 r.x)).setCell ⟨w.heap.size + 1, 7, none⟩ (.int .i64 r.y)) := by
      iterate 8 (refine At.setB ?_ (by dsimp only; omega) _)
      exact hst4
    refine line_alone rfl (by kernel_rfl) (fun K hK => ?_)
    go_big_op
    refine hK _ _ (hst5) ?_
    clear hK K
    have A5 : At w.heap.size q.vals ((((((((x4.setCell ⟨w.heap.size + 1, 0, none⟩ (.string r.p.n)).setCell ⟨w.heap.size + 1, 1, none⟩ (.int .i64 r.p.a)).setCell ⟨w.heap.size + 1, 2, none⟩ (.int .i64 r.p.b)).setCell ⟨w.heap.size + 1, 3, none⟩ (.int .i64 r.p.e)).setCell ⟨w.heap.size + 1, 4, none⟩ (.int .i64 r.p.u)).setCell ⟨w.heap.size + 1, 5, none⟩ (.int .i64 r.b)).setCell ⟨w.heap.size + 1, 6, none⟩ (.int .i64 r.x)).setCell ⟨w.heap.size + 1, 7, none⟩ (.int .i64 r.y)) := by
      iterate 8 (refine At.setB ?_ (by simp) _)
      exact A4
    have Z5 : At (w.heap.size + 1) r.vals _ := (((((((Z4.set 0 (.string r.p.n)).set 1 (.int .i64 r.p.a)).set 2 (.int .i64 r.p.b)).set 3 (.int .i64 r.p.e)).set 4 (.int .i64 r.p.u)).set 5 (.int .i64 r.b)).set 6 (.int .i64 r.x)).set 7 (.int .i64 r.y)
    have B5 : Below w.heap.size w ((((((((x4.setCell ⟨w.heap.size + 1, 0, none⟩ (.string r.p.n)).setCell ⟨w.heap.size + 1, 1, none⟩ (.int .i64 r.p.a)).setCell ⟨w.heap.size + 1, 2, none⟩ (.int .i64 r.p.b)).setCell ⟨w.heap.size + 1, 3, none⟩ (.int .i64 r.p.e)).setCell ⟨w.heap.size + 1, 4, none⟩ (.int .i64 r.p.u)).setCell ⟨w.heap.size + 1, 5, none⟩ (.int .i64 r.b)).setCell ⟨w.heap.size + 1, 6, none⟩ (.int .i64 r.x)).setCell ⟨w.heap.size + 1, 7, none⟩ (.int .i64 r.y)) := (by (iterate 8 (refine bset ?_ (by dsimp only; omega) _)); exact B4)
    clear A4 Z4 B4 hst4 hst5 y0 y1 y2 y3 y4 y5 y6 y7 h0 h1 h2 h3 h4 h5 h6 h7
    iterate 1 (refine line_read rfl (by kernel_rfl) (fun K hK => ?_); go_big_quiet_op; refine hK _ ?_; clear hK K)
    refine line_nil ?_
    generalize ((((((((x4.setCell ⟨w.heap.size + 1, 0, none⟩ (.string r.p.n)).setCell ⟨w.heap.size + 1, 1, none⟩ (.int .i64 r.p.a)).setCell ⟨w.heap.size + 1, 2, none⟩ (.int .i64 r.p.b)).setCell ⟨w.heap.size + 1, 3, none⟩ (.int .i64 r.p.e)).setCell ⟨w.heap.size + 1, 4, none⟩ (.int .i64 r.p.u)).setCell ⟨w.heap.size + 1, 5, none⟩ (.int .i64 r.b)).setCell ⟨w.heap.size + 1, 6, none⟩ (.int .i64 r.x)).setCell ⟨w.heap.size + 1, 7, none⟩ (.int .i64 r.y)) = x5 at *
    have q0 := A5.cell 0 _ rfl
    have q1 := A5.cell 1 _ rfl
    have q2 := A5.cell 2 _ rfl
    have q3 := A5.cell 3 _ rfl
    have q4 := A5.cell 4 _ rfl
    have y0 := Z5.cell 0 _ rfl
    have y1 := Z5.cell 1 _ rfl
    have y2 := Z5.cell 2 _ rfl
    have y3 := Z5.cell 3 _ rfl
    have y4 := Z5.cell 4 _ rfl
    have y5 := Z5.cell 5 _ rfl
    have y6 := Z5.cell 6 _ rfl
    have y7 := Z5.cell 7 _ rfl
    have HB := Lib.hid B5
    clear A5 Z5 B5
    go_wp2_with fail
    exact bodyPost_ret (v := .tuple #[P5 q, R8 r, .int .i64 t]) (by simp [results, Tryz.results10, go_sem, q0, q1, q2, q3, q4, y0, y1, y2, y3, y4, y5, y6, y7]) rfl ⟨q, r, t, rfl, hq, hr, HB.out⟩
end Go.Proofs.YtmdknbgpddnplaaGreatDoor
namespace Go.Proofs.YtmdknbgpddnplaaGreatDoor
open Go.RowKit
set_option maxRecDepth 100000
set_option linter.unusedVariables false

set_option maxHeartbeats 4000000 in
theorem DrawApplyRoll_any {a : Option Addr} {len cap : Nat} {zs : List Int} {w : World} (hR : Row .u8 w w.heap.size a len cap zs) :
    Calls Tryz.prog 12 #[.slice a len cap] w (DrawnApp w) := by
  have A0 : At w.heap.size zer8 (w.alloc (.cells #[.string { data := #[] }, .int .i64 0, .int .i64 0, .int .i64 0, .int .i64 0, .int .i64 0, .int .i64 0, .int .i64 0] 29)) := At.new w zer8 29
  have b0 := bal (Below.refl _ w) (.cells #[.string { data := #[] }, .int .i64 0, .int .i64 0, .int .i64 0, .int .i64 0, .int .i64 0, .int .i64 0, .int .i64 0] 29)
  have R0 := hR.on b0
  clear hR
  go_enter Tryz.func12, Tryz.ntmps12
  go_wp2_with fail
  generalize w.alloc (.cells #[.string { data := #[] }, .int .i64 0, .int .i64 0, .int .i64 0, .int .i64 0, .int .i64 0, .int .i64 0, .int .i64 0] 29) = W0 at *
  refine (dsource R0).mono ?_
  rintro e w1 ⟨rfl, D1⟩
  have lt1 := D1.lt
  have lt0 : w.heap.size < W0.heap.size := A0.lt (by simp [zer8])
  go_wp2_with fail
  refine (dl7BentPins D1 (by omega)).mono ?_
  rintro e w2 ⟨x, n, c, ps, p, ⟨hs, hl⟩, hp, rfl, O2, D2, g2⟩
  have HS := Lib.hid hs
  have hnf := (OwnP.row O2 (m21 hs)).fits
  have hnm := (OwnP.row O2 (m21 hs)).most
  unfold maxLen at hnm
  clear D1 g2 hs R0
  go_wp2_with fail
  refine (dl7Draw D2 (by omega)).mono ?_
  rintro e w3 ⟨q, p3, hqf, hp3, rfl, D3, g3⟩
  have hq : q.n.size ≤ 21 := by have := pin_size hqf; omega
  have O3' := O2.grew7 g3 lt1
  have O3 := (OwnP.alloc O3' (.cells #[.string q.n, .int .i64 q.a, .int .i64 q.b, .int .i64 q.e, .int .i64 q.u] 25))
  have D4 := D3.alloc (.cells #[.string q.n, .int .i64 q.a, .int .i64 q.b, .int .i64 q.e, .int .i64 q.u] 25)
  have X3 : At w3.heap.size q.vals (w3.alloc (.cells #[.string q.n, .int .i64 q.a, .int .i64 q.b, .int .i64 q.e, .int .i64 q.u] 25)) := At.new w3 q.vals 25
  have lt3 := D3.lt
  clear D2 D3 g3 O2 hqf
  by_cases h0 : n = 0
  · subst h0
    have hn0 : ¬ (0 : Int) < (0 : Nat) := by omega
    go_wp2_with fail
    generalize w3.alloc (.cells #[.string q.n, .int .i64 q.a, .int .i64 q.b, .int .i64 q.e, .int .i64 q.u] 25) = W4 at *
    generalize w3.heap.size = pb at *
    clear X3
    refine (dl8Draw D4 (by omega) q hq).mono ?_
    rintro e w7 ⟨r, pr, hr, hpr, rfl, D7, g7⟩
    have O7 := OwnP.grew7 O3 g7 (by omega)
    clear D4 g7 O3
    go_wp2_with fail
    refine (dpick [0, 40, 51, 9999, -1] 5 D7 (by omega) (by omega) (by omega) rfl 2).mono ?_
    rintro e w8 ⟨t, ht, rfl, DD, O8⟩
    have O4 := (OwnP.alloc O7 (.cells #[.int .i64 0, .int .i64 40, .int .i64 51, .int .i64 9999, .int .i64 (-1)] 2)).grew7 O8.grown (by omega)
    clear D7 O8 O7 ht
    have A3 := A0.on DD.bel
    have B3 := btr b0 DD.bel
    have z0 := A3.cell 0 _ rfl
    have z1 := A3.cell 1 _ rfl
    have z2 := A3.cell 2 _ rfl
    have z3 := A3.cell 3 _ rfl
    have z4 := A3.cell 4 _ rfl
    have z5 := A3.cell 5 _ rfl
    have z6 := A3.cell 6 _ rfl
    have z7 := A3.cell 7 _ rfl
    have h0 := A3.free 0 _ rfl
    have h1 := A3.free 1 _ rfl
    have h2 := A3.free 2 _ rfl
    have h3 := A3.free 3 _ rfl
    have h4 := A3.free 4 _ rfl
    have h5 := A3.free 5 _ rfl
    have h6 := A3.free 6 _ rfl
    have h7 := A3.free 7 _ rfl
    have HO := Lib.hid (And.intro (show OwnP _ w1.heap.size (.slice x 0 c) ps from O4) (And.intro A3 B3))
    have ltr := lt1
    clear O4 A3 B3 b0 A0 DD
    go_wp2_with fail
    refine bodyPost_ret (v := .tuple #[.slice x 0 c, R8 r, .int .i64 t]) (by simp [results, Tryz.results12, go_sem, z0, z1, z2, z3, z4, z5, z6, z7]) rfl ⟨x, 0, c, ps, r, t, rfl, HS.out, hr, ?_, (by (iterate 8 (refine bset ?_ (by dsimp only; omega) _)); exact HO.out.2.2)⟩
    have hne : ∀ k, Value.ownBlock (.slice x 0 c) = some k → k ≠ w.heap.size := fun k hk e => by have := (Own.lt HO.out.1 k hk).1; omega
    refine OwnP.row (B := w1.heap.size) ?_ (m21 HS.out)
    iterate 8 (refine Own.setCell ?_ hne _)
    exact HO.out.1
  · have hn0 : (0 : Int) < n := by omega
    have ltO := fun k hk => (Own.lt O3' k hk).2
    go_wp2_with fail
    generalize hW4 : w3.alloc (.cells #[.string q.n, .int .i64 q.a, .int .i64 q.b, .int .i64 q.e, .int .i64 q.u] 25) = W4 at *
    generalize hpb : w3.heap.size = pb at *
    clear hW4 hpb
    refine (dnext n D4 (by omega)).mono ?_
    rintro e w5 ⟨v, v0, v1, rfl, D5, G5⟩
    obtain ⟨k, rfl⟩ := Int.eq_ofNat_of_zero_le v0
    have hk : k < n := by omega
    have O5 := O3.grew7 G5.grown (by omega)
    have X5 := X3.only5 G5 (by omega)
    obtain ⟨eb, eo, hea, heb, c0, c1, c2, c3, c4⟩ := (OwnP.row O5 (m21 HS.out)).at' hk
    subst hea
    have hqk : (ps[k]?.getD pin0).n.size ≤ 21 := HS.out _ ((OwnP.row O5 (m21 HS.out)).mem hk)
    generalize ps[k]?.getD pin0 = qk at *
    have x0 := X5.cell 0 _ rfl
    have x1 := X5.cell 1 _ rfl
    have x2 := X5.cell 2 _ rfl
    have x3 := X5.cell 3 _ rfl
    have x4 := X5.cell 4 _ rfl
    have f0 := X5.free 0 _ rfl
    have f1 := X5.free 1 _ rfl
    have f2 := X5.free 2 _ rfl
    have f3 := X5.free 3 _ rfl
    have f4 := X5.free 4 _ rfl
    clear D4 O3 X3 G5
    have hne : ∀ j, Value.ownBlock (.slice (some ⟨eb, eo, none⟩) n c) = some j → j ≠ pb := fun j hj e => by have := ltO j hj; omega
    have O6 : OwnP (((((w5.setCell ⟨pb, 0, none⟩ (.string qk.n)).setCell ⟨pb, 1, none⟩ (.int .i64 qk.a)).setCell ⟨pb, 2, none⟩ (.int .i64 qk.b)).setCell ⟨pb, 3, none⟩ (.int .i64 qk.e)).setCell ⟨pb, 4, none⟩ (.int .i64 qk.u)) w1.heap.size (.slice (some ⟨eb, eo, none⟩) n c) ps := by
      iterate 5 (refine Own.setCell ?_ hne _)
      exact O5
    have D6 : Draw W0 a len cap zs (p3 + 1) (((((w5.setCell ⟨pb, 0, none⟩ (.string qk.n)).setCell ⟨pb, 1, none⟩ (.int .i64 qk.a)).setCell ⟨pb, 2, none⟩ (.int .i64 qk.b)).setCell ⟨pb, 3, none⟩ (.int .i64 qk.e)).setCell ⟨pb, 4, none⟩ (.int .i64 qk.u)) := by
      iterate 5 (refine Draw.put ?_ (by dsimp only; omega) _)
      exact D5
    have X6 : At pb qk.vals (((((w5.setCell ⟨pb, 0, none⟩ (.string qk.n)).setCell ⟨pb, 1, none⟩ (.int .i64 qk.a)).setCell ⟨pb, 2, none⟩ (.int .i64 qk.b)).setCell ⟨pb, 3, none⟩ (.int .i64 qk.e)).setCell ⟨pb, 4, none⟩ (.int .i64 qk.u)) := ((((X5.set 0 (.string qk.n)).set 1 (.int .i64 qk.a)).set 2 (.int .i64 qk.b)).set 3 (.int .i64 qk.e)).set 4 (.int .i64 qk.u)
    clear O5 D5 X5
    have HX6 := Lib.hid X6
    clear X6
    go_wp2_with fail
    clear c0 c1 c2 c3 c4 x0 x1 x2 x3 x4 f0 f1 f2 f3 f4
    have X6 := HX6.out
    clear HX6
    generalize (((((w5.setCell ⟨pb, 0, none⟩ (.string qk.n)).setCell ⟨pb, 1, none⟩ (.int .i64 qk.a)).setCell ⟨pb, 2, none⟩ (.int .i64 qk.b)).setCell ⟨pb, 3, none⟩ (.int .i64 qk.e)).setCell ⟨pb, 4, none⟩ (.int .i64 qk.u)) = W6 at *
    clear X6
    refine (dl8Draw D6 (by omega) qk hqk).mono ?_
    rintro e w7 ⟨r, pr, hr, hpr, rfl, D7, g7⟩
    have O7 := OwnP.grew7 O6 g7 (by omega)
    clear D6 g7 O6
    go_wp2_with fail
    refine (dpick [0, 40, 51, 9999, -1] 5 D7 (by omega) (by omega) (by omega) rfl 2).mono ?_
    rintro e w8 ⟨t, ht, rfl, DD, O8⟩
    have O4 := (OwnP.alloc O7 (.cells #[.int .i64 0, .int .i64 40, .int .i64 51, .int .i64 9999, .int .i64 (-1)] 2)).grew7 O8.grown (by omega)
    clear D7 O8 O7 ht
    have A3 := A0.on DD.bel
    have B3 := btr b0 DD.bel
    have z0 := A3.cell 0 _ rfl
    have z1 := A3.cell 1 _ rfl
    have z2 := A3.cell 2 _ rfl
    have z3 := A3.cell 3 _ rfl
    have z4 := A3.cell 4 _ rfl
    have z5 := A3.cell 5 _ rfl
    have z6 := A3.cell 6 _ rfl
    have z7 := A3.cell 7 _ rfl
    have h0 := A3.free 0 _ rfl
    have h1 := A3.free 1 _ rfl
    have h2 := A3.free 2 _ rfl
    have h3 := A3.free 3 _ rfl
    have h4 := A3.free 4 _ rfl
    have h5 := A3.free 5 _ rfl
    have h6 := A3.free 6 _ rfl
    have h7 := A3.free 7 _ rfl
    have HO := Lib.hid (And.intro (show OwnP _ w1.heap.size (.slice (some ⟨eb, eo, none⟩) n c) ps from O4) (And.intro A3 B3))
    have ltr := lt1
    clear O4 A3 B3 b0 A0 DD
    go_wp2_with fail
    refine bodyPost_ret (v := .tuple #[.slice (some ⟨eb, eo, none⟩) n c, R8 r, .int .i64 t]) (by simp [results, Tryz.results12, go_sem, z0, z1, z2, z3, z4, z5, z6, z7]) rfl ⟨(some ⟨eb, eo, none⟩), n, c, ps, r, t, rfl, HS.out, hr, ?_, (by (iterate 8 (refine bset ?_ (by dsimp only; omega) _)); exact HO.out.2.2)⟩
    have hne : ∀ k, Value.ownBlock (.slice (some ⟨eb, eo, none⟩) n c) = some k → k ≠ w.heap.size := fun k hk e => by have := (Own.lt HO.out.1 k hk).1; omega
    refine OwnP.row (B := w1.heap.size) ?_ (m21 HS.out)
    iterate 8 (refine Own.setCell ?_ hne _)
    exact HO.out.1
end Go.Proofs.YtmdknbgpddnplaaGreatDoor
namespace Go.Proofs.YtmdknbgpddnplaaGreatDoor
open Go.RowKit
set_option maxRecDepth 100000
set_option linter.unusedVariables false

/-- The name that stands in bytes. -/
def keyNm (zs : List Int) : List UInt8 := (zs.drop 4).map fun z => UInt8.ofNat z.toNat
theorem keyNm_str (zs : List Int) : strOf (zs.drop 4) = M.bs (keyNm zs) := by
  rw [← M.bs_data (strOf _), strOf, strOf_data]
  simp [keyNm]
def keyF (zs : List Int) : Int := M.tlsaF (keyNm zs) (zs.getD 0 0) (zs.getD 1 0) (256 * zs.getD 2 0 + zs.getD 3 0)
def keyOk (zs : List Int) : Bool := decide (4 ≤ zs.length) && decide (keyF zs = 0)
abbrev keyT (zs : List Int) : Value := T5 (if keyOk zs then 0 else 5) (M.bs (if keyOk zs then keyNm zs else [])) (if keyOk zs then zs.getD 0 0 else 0) (if keyOk zs then zs.getD 1 0 else 0) (if keyOk zs then 256 * zs.getD 2 0 + zs.getD 3 0 else 0)
theorem keyT_no {zs : List Int} (h : keyOk zs = false) : keyT zs = T5 5 { data := #[] } 0 0 0 := by simp [keyT, h, M.bs]
theorem keyT_yes {zs : List Int} (h : keyOk zs = true) : keyT zs = T5 0 (M.bs (keyNm zs)) (zs.getD 0 0) (zs.getD 1 0) (256 * zs.getD 2 0 + zs.getD 3 0) := by simp [keyT, h]
theorem keyOk_short {zs : List Int} (h : zs.length < 5) : keyOk zs = false := by
  unfold keyOk
  by_cases h4 : 4 ≤ zs.length
  · have e : keyNm zs = [] := by
      unfold keyNm
      rw [List.drop_of_length_le (by omega)]
      rfl
    have : keyF zs = 5 := by
      unfold keyF
      rw [e]
      have h5 : M.nameF [] = 5 := by decide
      have h6 : M.normF [] = 5 := by rw [M.normF_no (by rw [h5]; omega), h5]
      rw [M.tlsaF_norm (by rw [h6]; omega), h6]
    rw [this]
    simp
  · simp [h4]
/-- A supplied key lies in a block of its own. -/
def KeyAt (V : World) (n : ByteArray) (u m x : Int) (v : Value) (wx : World) : Prop := ∃ g, v = .pointer (some ⟨g, 0, none⟩) ∧ At g (TL4 n u m x) wx ∧ Below V.heap.size V wx ∧ V.heap.size ≤ g

/-- No byte makes no text, wherever it is taken from. -/
theorem conv_none (a a' : Option Addr) (c c' : Nat) (w : World) (hc : c ≤ maxLen) (hc' : c' ≤ maxLen) : (convert 22 9 (.slice a 0 c)).run Tryz.prog w = (convert 22 9 (.slice a' 0 c')).run Tryz.prog w := by
  have hR : ∀ (a : Option Addr) (c : Nat), c ≤ maxLen → Row .u8 w 0 a 0 c [] := fun a c hc => ⟨rfl, (fun _ h => by cases h), Nat.zero_le _, hc, fun h => absurd h (by omega)⟩
  rw [conv_row (hR a c hc), conv_row (hR a' c' hc')]

end Go.Proofs.YtmdknbgpddnplaaGreatDoor
namespace Go.Proofs.YtmdknbgpddnplaaGreatDoor
open Go.RowKit
set_option maxRecDepth 100000
set_option linter.unusedVariables false

/-- The name that stands in bytes; the pin. -/
def pinNm (zs : List Int) : List UInt8 := (zs.drop 7).map fun z => UInt8.ofNat z.toNat
theorem pinNm_str (zs : List Int) : strOf (zs.drop 7) = M.bs (pinNm zs) := by
  rw [← M.bs_data (strOf _), strOf, strOf_data]
  simp [pinNm]
def pinZ (zs : List Int) : PinD := ⟨M.bs (pinNm zs), 256 * zs.getD 0 0 + zs.getD 1 0, 256 * zs.getD 2 0 + zs.getD 3 0, zs.getD 4 0, 256 * zs.getD 5 0 + zs.getD 6 0⟩
def pinOk (zs : List Int) : Bool := decide (7 ≤ zs.length) && decide ((pinZ zs).f = 0)
def readC (zs : List Int) : Int := if pinOk zs then 0 else 5
def readR (zs : List Int) : PinD := if pinOk zs then pinZ zs else pin0
theorem pinOk_short {zs : List Int} (h : zs.length < 8) : pinOk zs = false := by
  unfold pinOk
  by_cases h7 : 7 ≤ zs.length
  · have e : (pinZ zs).nm = [] := by
      show (M.bs (pinNm zs)).data.toList = []
      rw [M.bs_list]
      unfold pinNm
      rw [List.drop_of_length_le (by omega)]
      rfl
    have : (pinZ zs).f = 5 := by
      unfold PinD.f
      rw [e]
      have h5 : M.nameF [] = 5 := by decide
      have h6 : M.normF [] = 5 := by rw [M.normF_no (by rw [h5]; omega), h5]
      rw [pinF_norm (by rw [h6]; omega), h6]
    rw [this]
    simp
  · simp [h7]
theorem pinZ_size (zs : List Int) (h : zs.length ≤ maxLen) : (pinZ zs).n.size ≤ maxLen := by
  show (M.bs (pinNm zs)).size ≤ maxLen
  rw [M.bs_size]
  simp only [pinNm, List.length_map, List.length_drop]
  omega
/-- A pin lies in a block of its own. -/
def PinAt (V : World) (p : PinD) (v : Value) (wx : World) : Prop := ∃ g, v = .pointer (some ⟨g, 0, none⟩) ∧ At g p.vals wx ∧ Below V.heap.size V wx ∧ V.heap.size ≤ g

/-- What the model reads: the pin, and whether it is one. -/
def PinRead (zs : List Int) (w : World) (e : Ending) (w' : World) : Prop := ∃ p : PinD, e = .returned (.tuple #[P5 p, .bool (pinOk zs)]) ∧ (pinOk zs = true → p = pinZ zs) ∧ Below w.heap.size w w'
end Go.Proofs.YtmdknbgpddnplaaGreatDoor
