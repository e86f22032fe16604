/- The function ReadPin answers, at every argument, as its model does, and leaves its argument as it was. The walk: the law's Go text answers true and turns nothing that was there. Conditions: as the theorem states. -/
import Derived.Test.YtcnpocppgghejaaDoorL7b
import Derived.Test.YtcnpocppgghejaaDoorC7m
import Derived.Test.YtcnpocppgghejaaDoorOpen7
import Derived.WalkKit
import Derived.Below
namespace Go.Proofs.YtcnpocppgghejaaDoor.fnExactReadPin
open Go.RowKit
set_option linter.unusedVariables false

set_option maxRecDepth 100000 in
theorem walk (a0 : Option Addr) (len0 cap0 : Nat) (z0 : List Int) (w : World) (w0 : Row .u8 w w.heap.size a0 len0 cap0 z0) :
    Calls Tryd.prog 9 #[.slice a0 len0 cap0] w fun e w' => e = .returned (.bool true) ∧ Below w.heap.size w w' := by
  have hl := w0.fits
  have hm := w0.most
  unfold maxLen at hm
  by_cases hbig : 1048576 < len0
  · go_enter Tryd.func9, Tryd.ntmps9
    go_wp2_with fail
    go_ret
    exact ⟨rfl, Below.refl _ _⟩
  have S1 := fun a len cap B w hR hB => specReadPin_any a len cap B z0 w hR hB
  have S2 := fun a len cap B w hR hB => implReadPin_any a len cap B z0 w hR hB
  generalize readC z0 = c at *
  generalize readR z0 = p at *
  go_enter Tryd.func9, Tryd.ntmps9
  go_wp2_with fail
  refine (toByteS_any _ _ _ _ _ _ w0 (Nat.le_refl _) (by omega)).mono ?_
  rintro r u1 ⟨rfl, O1, b1⟩
  have R1 := Own.row O1 w0.wf
  go_wp2_with fail
  refine (S1 _ _ _ _ _ R1 (Nat.le_refl _)).mono ?_
  rintro r u2 ⟨rfl, b2⟩
  have c2 := bal (btr b1 b2) (.cells #[.int .i64 c, .string p.n, .int .i64 p.a, .int .i64 p.b, .int .i64 p.e, .int .i64 p.u] 37)
  have W2 := w0.on c2
  have X2 : At u2.heap.size (RL6 c p) (u2.alloc (.cells #[.int .i64 c, .string p.n, .int .i64 p.a, .int .i64 p.b, .int .i64 p.e, .int .i64 p.u] 37)) := At.new u2 (RL6 c p) 37
  clear O1 R1 b1 b2
  go_wp2_with fail
  generalize u2.alloc (.cells #[.int .i64 c, .string p.n, .int .i64 p.a, .int .i64 p.b, .int .i64 p.e, .int .i64 p.u] 37) = v2 at *
  refine (toByteS_any _ _ _ _ _ _ W2 (Nat.le_refl _) (by omega)).mono ?_
  rintro r u3 ⟨rfl, O3, b3⟩
  have R3 := Own.row O3 w0.wf
  go_wp2_with fail
  refine (S2 _ _ _ _ _ R3 (Nat.le_refl _)).mono ?_
  rintro r u4 ⟨rfl, b4⟩
  have d4 := bal (btr b3 b4) (.cells #[.int .i64 c, .string p.n, .int .i64 p.a, .int .i64 p.b, .int .i64 p.e, .int .i64 p.u] 37)
  have c4 := btr c2 d4
  have O4 := (O3.below b4).alloc (.cells #[.int .i64 c, .string p.n, .int .i64 p.a, .int .i64 p.b, .int .i64 p.e, .int .i64 p.u] 37)
  have y0 := (X2.on (btr b3 b4)).cell 0 _ rfl
  have y1 := (X2.on (btr b3 b4)).cell 1 _ rfl
  have y2 := (X2.on (btr b3 b4)).cell 2 _ rfl
  have y3 := (X2.on (btr b3 b4)).cell 3 _ rfl
  have y4 := (X2.on (btr b3 b4)).cell 4 _ rfl
  have y5 := (X2.on (btr b3 b4)).cell 5 _ rfl
  have lt4 : u2.heap.size < u4.heap.size := cell_lt y0
  clear W2 X2 c2 O3 R3 b3 b4 d4
  go_wp2_with fail
  refine (eqPinResult_any c p _).mono ?_
  rintro r u5 ⟨rfl, b5⟩
  have c5 := btr c4 b5
  have O5 := O4.below b5
  have W5 := w0.on c5
  clear O4 c4 b5 y0 y1 y2 y3 y4 y5 lt4
  go_wp2_with fail
  refine (toByteS_any _ _ _ _ _ _ W5 (Nat.le_refl _) (by omega)).mono ?_
  rintro r u6 ⟨rfl, O6, b6⟩
  have R6' := Own.row (O5.below b6) w0.wf
  have Q6 := Own.row O6 w0.wf
  have c6 := btr c5 b6
  clear O5 O6 W5 c5 b6
  go_wp2_with fail
  refine (eqByteS_any _ _ _ _ _ _ _ _ R6' Q6 (Nat.le_refl _)).mono ?_
  rintro r u7 ⟨rfl, b7⟩
  have c7 := btr c6 b7
  clear R6' Q6 c6 b7
  go_wp2_with fail
  go_ret
  exact ⟨rfl, c7⟩

end Go.Proofs.YtcnpocppgghejaaDoor.fnExactReadPin
