/- The function UsableOf answers, at every argument, as its model does, in memory of its own, and leaves its argument as it was. The walk: the law's Go text answers true and turns nothing that was there. Conditions: as the theorem states. -/
import Derived.Test.YtcolecidbalmhaaDoorL10c
import Derived.Test.YtcolecidbalmhaaDoorC10b
import Derived.Test.YtcolecidbalmhaaDoorOpen10a
import Derived.Test.YtcolecidbalmhaaDoorFacts
import Derived.WalkKit
import Derived.Below
namespace Go.Proofs.YtcolecidbalmhaaDoor.fnExactUsableOf
open Go.RowKit
set_option linter.unusedVariables false

set_option maxRecDepth 100000 in
set_option maxHeartbeats 4000000 in
theorem walk (a0 : Option Addr) (len0 cap0 : Nat) (z0 : List TlsaD) (a1 : ByteArray) (w : World) (w0 : TRow w w.heap.size a0 len0 cap0 z0) (w1 : a1.size ≤ maxLen) :
    Calls Tryd.prog 4 #[.slice a0 len0 cap0, .string a1] w fun e w' => e = .returned (.bool true) ∧ Below w.heap.size w w' := by
  have hl0 := w0.fits
  have hm0 := w0.most
  have hm1 := w1
  unfold maxLen at hm0 hm1
  by_cases hs : 1048576 < a1.size
  · have h' : (1048576 : Int) < a1.size := by omega
    go_enter Tryd.func4, Tryd.ntmps4
    go_wp2_with fail
    go_ret
    exact ⟨rfl, Below.refl _ _⟩
  have h' : ¬ (1048576 : Int) < a1.size := by omega
  have e0 := Lib.hid w0.length
  have hN0 := Lib.hid w0.names
  have S0 := szTlsaS_any a0 len0 cap0 w.heap.size z0 1048576 w w0 (Nat.le_refl _) (by omega) (by omega)
  by_cases h0 : 0 ≤ szTP z0 1048576
  case neg =>
    generalize szTP z0 1048576 = t0 at *
    go_enter Tryd.func4, Tryd.ntmps4
    go_wp2_with fail
    refine S0.mono ?_
    rintro r u1 ⟨rfl, b1⟩
    go_wp2_with fail
    go_ret
    exact ⟨rfl, b1⟩
  obtain ⟨g0, -, t1⟩ := szTP_ok h0
  have hk0 : len0 ≤ 1048576 := by have := e0.out; omega
  generalize szTP z0 1048576 = t0 at *
  have hh0 : ¬ t0 < 0 := by omega
  have hn : (usableR z0 a1.data.toList).length ≤ 8 := usableR_len
  have HW := Lib.hid (usableR_names (l := a1.data.toList) hN0.out)
  have T0 := fun (W : World) (R : TRow W W.heap.size a0 len0 cap0 z0) => toTlsaS_any a0 len0 cap0 W.heap.size z0 W R (Nat.le_refl _) hk0
  have C1 := fun (W : World) (x : Option Addr) (c : Nat) (R : TRow W W.heap.size x len0 c z0) => specUsableOf_any x len0 c W.heap.size z0 a1 W R (Nat.le_refl _) w1
  have C2 := fun (W : World) (x : Option Addr) (c : Nat) (R : TRow W W.heap.size x len0 c z0) => implUsableOf_any x len0 c W.heap.size z0 a1 W R (Nat.le_refl _) w1
  generalize usableC z0 a1.data.toList = cd at *
  generalize usableR z0 a1.data.toList = zs at *
  clear g0 hs
  have hgz : zs.length ≤ 1048576 := by omega
  go_enter Tryd.func4, Tryd.ntmps4
  go_wp2_with fail
  refine S0.mono ?_
  rintro r u1 ⟨rfl, B1⟩
  clear S0
  go_wp2_with fail
  refine (T0 _ (w0.on B1)).mono ?_
  rintro r u2 ⟨rfl, O2, h2⟩
  have R2 := O2.row hN0.out
  clear O2
  go_wp2_with fail
  refine (C1 _ _ _ R2).mono ?_
  rintro r u3 ⟨b1, n1, c1, rfl, O3, h3⟩
  have l1 := O3.len
  subst l1
  have X4 : At u3.heap.size [.int .i64 cd, .slice b1 zs.length c1] (u3.alloc (.cells #[.int .i64 cd, .slice b1 zs.length c1] 37)) := At.new u3 [.int .i64 cd, .slice b1 zs.length c1] 37
  have B4 := bal (btr (btr B1 h2) h3) (.cells #[.int .i64 cd, .slice b1 zs.length c1] 37)
  have R4 := (OwnT.alloc O3 (.cells #[.int .i64 cd, .slice b1 zs.length c1] 37)).row HW.out
  clear O3 h2 h3 R2
  go_wp2_with fail
  generalize u3.alloc (.cells #[.int .i64 cd, .slice b1 zs.length c1] 37) = u4 at *
  generalize u3.heap.size = g1 at *
  refine (T0 _ (w0.on B4)).mono ?_
  rintro r u5 ⟨rfl, O5, h5⟩
  have R5 := O5.row hN0.out
  go_wp2_with fail
  refine (C2 _ _ _ R5).mono ?_
  rintro r u7 ⟨b2, n2, c2, rfl, O2, e2⟩
  have l2 := O2.len
  subst l2
  have T := TwoT.new (t := 37) (w := w) (u3 := u7) B4 X4 R4 h5 O5 e2 O2
  have hlt : g1 < u7.heap.size := Nat.lt_of_lt_of_le T.hi T.ahead
  have y0' := cell_keep (btr h5 e2) (X4.cell 0 _ rfl)
  have y1' := cell_keep (btr h5 e2) (X4.cell 1 _ rfl)
  clear h5 O5 O2 e2 R5 X4 R4
  go_wp2_with fail
  generalize u7.alloc (.cells #[.int .i64 cd, .slice b2 zs.length c2] 37) = v7 at *
  refine (eqTlsasResult_any _ _ _ _ _ _ v7.heap.size _ _ (OwnT.row T.own HW.out) (T.row.more (by have := T.lt1; omega)) (Nat.le_refl _)).mono ?_
  rintro r u8 ⟨rfl, e8⟩
  have T8 := T.on e8
  clear T e8 y0' y1'
  go_wp2_with fail
  refine (T0 _ (w0.on T8.bel)).mono ?_
  rintro r u9 ⟨rfl, O9, e9⟩
  have T9 := T8.on e9
  have R9 := O9.row hN0.out
  clear T8 e9 O9
  go_wp2_with fail
  refine (eqTlsaS_any _ _ _ _ _ _ _ _ (OwnT.row T9.arg hN0.out) R9 (Nat.le_refl _)).mono ?_
  rintro r u10 ⟨rfl, e10⟩
  have T10 := T9.on e10
  clear T9 e10 R9
  go_wp2_with fail
  refine (markTlsaS_any _ _ _ _ 1 _ _ T10.arg (by omega) (by omega) hk0).mono ?_
  rintro r u11 ⟨rfl, O11, g11⟩
  have T11 := T10.grewA O11 g11
  have x0 := T11.x0
  have x1 := T11.x1
  have y0 := T11.y0
  have y1 := T11.y1
  clear T10 O11 g11
  have hq1 : ¬ (((1 + 4 * len0 : Nat) : Int) < 0) := by omega
  go_wp2_with fail
  refine (eqTlsasResult_any _ _ _ _ _ _ u11.heap.size _ _ (OwnT.row T11.own HW.out) (T11.row.more (by have := T11.lt1; omega)) (Nat.le_refl _)).mono ?_
  rintro r u12 ⟨rfl, e12⟩
  have T12 := T11.on e12
  clear T11 e12 x0 x1 y0 y1
  have y0 := T12.y0
  have y1 := T12.y1
  go_wp2_with fail
  refine (markTlsasResult_any _ _ _ _ _ 1 _ _ T12.own (by omega) (by omega) hgz).mono ?_
  rintro r u13 ⟨rfl, O13, g13⟩
  have T13 := T12.grew O13 g13
  clear T12 O13 g13 y0 y1
  have y0 := T13.y0
  have y1 := T13.y1
  go_wp2_with fail
  refine (heldTlsasResult_any _ _ _ _ u13.heap.size 1 _ (OwnT.row T13.own (marksTl_names _ _ (by omega) hgz)) (Nat.le_refl _) (by omega) (by omega) hgz).mono ?_
  rintro r u14 ⟨rfl, e14⟩
  have T14 := T13.on e14
  clear T13 e14 y0 y1
  have hk1 : ¬ (((1 + 4 * zs.length : Nat) : Int) < 0) := by omega
  go_wp2_with fail
  refine (T0 _ (w0.on T14.bel)).mono ?_
  rintro r u15 ⟨rfl, O15, h15⟩
  have R15 := O15.row hN0.out
  have T15 := T14.on h15
  clear T14 O15 h15
  go_wp2_with fail
  refine (C2 _ _ _ R15).mono ?_
  rintro r u16 ⟨b3, n3, c3, rfl, O16, e16⟩
  have l3 := O16.len
  subst l3
  have b17 := bal e16 (.cells #[.int .i64 cd, .slice b3 zs.length c3] 37)
  have T17 := T15.on b17
  have R17 := (OwnT.alloc O16 (.cells #[.int .i64 cd, .slice b3 zs.length c3] 37)).row HW.out
  have Z17 : At u16.heap.size [.int .i64 cd, .slice b3 zs.length c3] (u16.alloc (.cells #[.int .i64 cd, .slice b3 zs.length c3] 37)) := At.new u16 [.int .i64 cd, .slice b3 zs.length c3] 37
  have x0 := T17.x0
  have x1 := T17.x1
  have hx17 : g1 < u16.heap.size := Nat.lt_of_lt_of_le T15.hi (Nat.le_trans T15.lt1 e16.size)
  have q0 := cell_keep e16 T15.x0
  have q1 := cell_keep e16 T15.x1
  clear T15 R15 O16 e16 b17 x0 x1
  go_wp2_with fail
  generalize u16.alloc (.cells #[.int .i64 cd, .slice b3 zs.length c3] 37) = v17 at *
  refine (eqTlsasResult_any _ _ _ _ _ _ v17.heap.size _ _ R17 (T17.row.more T17.lt1) (Nat.le_refl _)).mono ?_
  rintro r u19 ⟨rfl, e19⟩
  have T19 := T17.on e19
  have y0 := T19.y0
  have y1 := T19.y1
  clear T17 R17 e19 Z17 q0 q1
  go_wp2_with fail
  refine (heldTlsasResult_any _ _ _ _ u19.heap.size 1 _ (OwnT.row T19.own (marksTl_names _ _ (by omega) hgz)) (Nat.le_refl _) (by omega) (by omega) hgz).mono ?_
  rintro r u20 ⟨rfl, e20⟩
  have hb := (T19.on e20).bel
  clear T19 e20 y0 y1
  go_wp2_with fail
  go_ret
  exact ⟨rfl, hb⟩

end Go.Proofs.YtcolecidbalmhaaDoor.fnExactUsableOf
