/- The function ChainFault answers, at every argument, as its model does, and leaves its argument as it was. The walk: the law's Go text answers true and turns nothing that was there. Conditions: as the theorem states. -/
import Derived.Test.YtmdknbgpddnplaaGreatDoorS5
import Derived.Test.YtmdknbgpddnplaaGreatDoorS7
import Derived.Test.YtmdknbgpddnplaaGreatDoorS8
import Derived.WalkKit
import Derived.Below
namespace Go.Proofs.YtmdknbgpddnplaaGreatDoor.fnExactChainFault
open Go.RowKit
set_option linter.unusedVariables false

set_option maxRecDepth 100000 in
set_option maxHeartbeats 1000000 in
theorem walk (a0 : PinD) (a1 : Option Addr) (len1 cap1 : Nat) (z1 : List RollD) (a2 : Int) (w : World) (w0 : a0.n.size ≤ maxLen) (w1 : RRow w w.heap.size a1 len1 cap1 z1) (w2 : (Lit.int .i64 a2).wf = true) (lab : Labels w) (ert : ErrT w) :
    Calls Tryz.prog 8 #[P5 a0, .slice a1 len1 cap1, .int .i64 a2] w fun e w' => e = .returned (.bool true) ∧ Below w.heap.size w w' := by
  have hl1 := w1.fits
  have hm1 := w1.most
  have hm0 := w0
  unfold maxLen at hm0 hm1
  have hN := Lib.hid w1.names
  have b0 := bal (Below.refl _ w) (.cells #[.string a0.n, .int .i64 a0.a, .int .i64 a0.b, .int .i64 a0.e, .int .i64 a0.u] 60)
  have A0 : At w.heap.size a0.vals (w.alloc (.cells #[.string a0.n, .int .i64 a0.a, .int .i64 a0.b, .int .i64 a0.e, .int .i64 a0.u] 60)) := At.new w a0.vals 60
  have F := fun w => szPin_any a0 1048576 w w0 (by omega) (by omega)
  by_cases hbig : (1048576 : Int) < a0.n.size
  · simp only [if_pos hbig] at F
    go_enter Tryz.func8, Tryz.ntmps8
    go_wp2_with fail
    refine (F _).mono ?_
    rintro r u1 ⟨rfl, b1⟩
    have hb := btr b0 b1
    go_wp2_with fail
    go_ret
    exact ⟨rfl, hb⟩
  simp only [if_neg hbig] at F
  have hs0 : ¬ (1048576 : Int) - a0.n.size < 0 := by omega
  have G := fun W (R : RRow W w.heap.size a1 len1 cap1 z1) (h : w.heap.size ≤ W.heap.size) => szRollS_any a1 len1 cap1 w.heap.size z1 (1048576 - a0.n.size) W R h (by omega) (by omega)
  have hlen := Lib.hid w1.length
  by_cases hg : 0 ≤ szR z1 (1048576 - a0.n.size)
  case neg =>
    generalize szR z1 (1048576 - a0.n.size) = t at *
    have hg' : t < 0 := by omega
    go_enter Tryz.func8, Tryz.ntmps8
    go_wp2_with fail
    generalize w.alloc (.cells #[.string a0.n, .int .i64 a0.a, .int .i64 a0.b, .int .i64 a0.e, .int .i64 a0.u] 60) = W0 at *
    refine (F _).mono ?_
    rintro r u1 ⟨rfl, b1⟩
    have A1 := A0.on b1
    have B1 := btr b0 b1
    clear b1 b0 A0 F
    go_wp2_with fail
    refine (G _ (w1.below (B1.mono (Nat.le_refl _))) B1.size).mono ?_
    rintro r u2 ⟨rfl, b2⟩
    have A2 := A1.on b2
    have B2 := btr B1 b2
    clear A1 B1 b2 G
    go_wp2_with fail
    go_ret
    exact ⟨rfl, B2⟩
  have hk := (szR_ok hg).1
  have hk1 : len1 ≤ 1048576 := by have := hlen.out; omega
  generalize szR z1 (1048576 - a0.n.size) = t at *
  have hg' : ¬ t < 0 := by omega
  have P := fun w => toPin_any a0 w
  have T := fun (W : World) (R : RRow W W.heap.size a1 len1 cap1 z1) => toRollS_any a1 len1 cap1 W.heap.size z1 W R (Nat.le_refl _) hk1
  have C1 := fun (W : World) (x : Option Addr) (c : Nat) (R : RRow W W.heap.size x len1 c z1) => specChainFault_any x len1 c W.heap.size z1 a0 a2 W R (Nat.le_refl _) w0
  have C2 := fun (W : World) l e (x : Option Addr) (c : Nat) (R : RRow W W.heap.size x len1 c z1) => implChainFault_any x len1 c W.heap.size z1 a0 a2 W l e R (Nat.le_refl _) w0
  generalize chainF a0 z1 a2 = cd at *
  clear hk
  go_enter Tryz.func8, Tryz.ntmps8
  go_wp2_with fail
  generalize w.alloc (.cells #[.string a0.n, .int .i64 a0.a, .int .i64 a0.b, .int .i64 a0.e, .int .i64 a0.u] 60) = W0 at *
  refine (F _).mono ?_
  rintro r u1 ⟨rfl, b1⟩
  have A1 := A0.on b1
  have B1 := btr b0 b1
  clear b1 b0 A0 F
  go_wp2_with fail
  refine (G _ (w1.below (B1.mono (Nat.le_refl _))) B1.size).mono ?_
  rintro r u2 ⟨rfl, b2⟩
  have A2 := A1.on b2
  have B2 := btr B1 b2
  clear A1 B1 b2 G
  have p0 := A2.cell 0 _ rfl
  have p1 := A2.cell 1 _ rfl
  have p2 := A2.cell 2 _ rfl
  have p3 := A2.cell 3 _ rfl
  have p4 := A2.cell 4 _ rfl
  go_wp2_with fail
  refine (P _).mono ?_
  rintro r u3 ⟨rfl, b3⟩
  have B3 := btr B2 b3
  go_wp2_with fail
  refine (T _ (w1.on B3)).mono ?_
  rintro r u4 ⟨rfl, O4, b4⟩
  have R4 := O4.row hN.out
  clear O4
  go_wp2_with fail
  refine (C1 _ _ _ R4).mono ?_
  rintro r u5 ⟨rfl, b5⟩
  have ba := btr b3 (btr b4 b5)
  have A5 := A2.on ba
  have B5 := btr B2 ba
  clear A2 B2 B3 b3 b4 b5 ba R4 p0 p1 p2 p3 p4 C1
  go_wp2_with fail
  refine (T _ (w1.on B5)).mono ?_
  rintro r u6 ⟨rfl, O6, b6⟩
  have R6' := O6.row hN.out
  have A6 := A5.on b6
  have B6 := btr B5 b6
  clear O6 A5 b6 B5
  have p0 := A6.cell 0 _ rfl
  have p1 := A6.cell 1 _ rfl
  have p2 := A6.cell 2 _ rfl
  have p3 := A6.cell 3 _ rfl
  have p4 := A6.cell 4 _ rfl
  go_wp2_with fail
  refine (P _).mono ?_
  rintro r u7 ⟨rfl, b7⟩
  have R7 := R6'.on b7
  have B7 := btr B6 b7
  clear R6' A6 B6 b7 p0 p1 p2 p3 p4
  go_wp2_with fail
  refine (C2 _ (lab.on B7) (ert.on B7) _ _ R7).mono ?_
  rintro r u8 ⟨rfl, b8⟩
  have R8' := R7.on b8
  have B8 := btr B7 b8
  clear R7 B7 b8 C2
  go_wp2_with fail
  refine (T _ (w1.on B8)).mono ?_
  rintro r u9 ⟨rfl, O9, b9⟩
  have R9' := O9.row hN.out
  have Q9 := R8'.on b9
  have B9 := btr B8 b9
  clear O9 R8' B8 b9
  go_wp2_with fail
  refine (eqRollS_any _ _ _ _ _ _ _ _ Q9 R9' (Nat.le_refl _)).mono ?_
  rintro r u10 ⟨rfl, b10⟩
  have B10 := btr B9 b10
  clear B9 b10 Q9 R9'
  go_wp2_with fail
  go_ret
  exact ⟨rfl, B10⟩

end Go.Proofs.YtmdknbgpddnplaaGreatDoor.fnExactChainFault
