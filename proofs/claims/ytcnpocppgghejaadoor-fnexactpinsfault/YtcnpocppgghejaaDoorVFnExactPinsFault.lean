/- The function PinsFault answers, at every argument, as its model does, and leaves its argument as it was. The walk: the law's Go text answers true and turns nothing that was there. Conditions: as the theorem states. -/
import Derived.Test.YtcnpocppgghejaaDoorL7
import Derived.Test.YtcnpocppgghejaaDoorC7c
import Derived.Test.YtcnpocppgghejaaDoorOpen7
import Derived.WalkKit
import Derived.Below
namespace Go.Proofs.YtcnpocppgghejaaDoor.fnExactPinsFault
open Go.RowKit
set_option linter.unusedVariables false

set_option maxRecDepth 100000 in
theorem walk (a0 : Option Addr) (len0 cap0 : Nat) (z0 : List PinD) (w : World) (w0 : PRow w w.heap.size a0 len0 cap0 z0) :
    Calls Tryd.prog 4 #[.slice a0 len0 cap0] w fun e w' => e = .returned (.bool true) ∧ Below w.heap.size w w' := by
  have hl0 := w0.fits
  have hm0 := w0.most
  unfold maxLen at hm0
  have e0 := Lib.hid w0.length
  have hN0 := Lib.hid w0.names
  have S0 := szPinS_any a0 len0 cap0 w.heap.size z0 1048576 w w0 (Nat.le_refl _) (by omega) (by omega)
  by_cases h0 : 0 ≤ szP z0 1048576
  case neg =>
    generalize szP z0 1048576 = t0 at *
    go_enter Tryd.func4, Tryd.ntmps4
    go_wp2_with fail
    refine S0.mono ?_
    rintro r u1 ⟨rfl, b1⟩
    go_wp2_with fail
    go_ret
    exact ⟨rfl, b1⟩
  obtain ⟨g0, -, t1⟩ := szP_ok h0
  have hk0 : len0 ≤ 1048576 := by have := e0.out; omega
  generalize szP z0 1048576 = t0 at *
  have T0 := fun (W : World) (R : PRow W W.heap.size a0 len0 cap0 z0) => toPinS_any a0 len0 cap0 W.heap.size z0 W R (Nat.le_refl _) hk0
  have C1 := fun (W : World) (x : Option Addr) (c : Nat) (R : PRow W W.heap.size x len0 c z0) => specPinsFault_any x len0 c W.heap.size z0 W R (Nat.le_refl _)
  have C2 := fun (W : World) (x : Option Addr) (c : Nat) (R : PRow W W.heap.size x len0 c z0) => implPinsFault_any x len0 c W.heap.size z0 W R (Nat.le_refl _)
  generalize pinsF z0 = tt at *
  clear g0
  go_enter Tryd.func4, Tryd.ntmps4
  go_wp2_with fail
  refine S0.mono ?_
  rintro r u1 ⟨rfl, b1⟩
  clear S0
  go_wp2_with fail
  refine (T0 _ (w0.on b1)).mono ?_
  rintro r u3 ⟨rfl, O3, b3⟩
  have B3 := btr b1 b3
  have R3 := O3.row hN0.out
  clear b1 b3 O3
  go_wp2_with fail
  refine (C1 _ _ _ R3).mono ?_
  rintro r u5 ⟨rfl, b5⟩
  have B5 := btr B3 b5
  clear B3 b5 R3
  go_wp2_with fail
  refine (T0 _ (w0.on B5)).mono ?_
  rintro r u6 ⟨rfl, O6, b6⟩
  have B6 := btr B5 b6
  have R6 := O6.row hN0.out
  clear B5 b6 O6
  go_wp2_with fail
  refine (C2 _ _ _ R6).mono ?_
  rintro r u8 ⟨rfl, b8⟩
  have B8 := btr B6 b8
  have Q6 := R6.on b8
  clear B6 b8 R6
  go_wp2_with fail
  refine (T0 _ (w0.on B8)).mono ?_
  rintro r u9 ⟨rfl, O9, b9⟩
  have B9 := btr B8 b9
  have R9 := O9.row hN0.out
  have Y6 := Q6.on b9
  clear B8 b9 O9 Q6
  go_wp2_with fail
  refine (eqPinS_any _ _ _ _ _ _ _ _ Y6 R9 (Nat.le_refl _)).mono ?_
  rintro r v1 ⟨rfl, d1⟩
  have D1 := btr B9 d1
  clear B9 d1 R9 Y6
  go_wp2_with fail
  go_ret
  exact ⟨rfl, D1⟩

end Go.Proofs.YtcnpocppgghejaaDoor.fnExactPinsFault
