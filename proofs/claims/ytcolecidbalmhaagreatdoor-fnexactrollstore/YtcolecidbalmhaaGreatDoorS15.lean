/- Texts of this seat that several laws rest on, laid into one. Conditions: as each theorem states. -/
import Derived.Test.YtcolecidbalmhaaGreatDoorS1
import Derived.Test.YtcolecidbalmhaaGreatDoorS3
import Derived.Test.YtcolecidbalmhaaGreatDoorS12
import Derived.Test.YtcolecidbalmhaaGreatDoorS13
import Derived.Test.YtcolecidbalmhaaGreatDoorS14
import Derived.ProofKit
import Derived.OpenShut
import Derived.Deep.Matrix
import Derived.Lib.SmallJoins
import Derived.Deep.Slices
import Derived.Test.YtcolecidbalmhaaGreatDoorRows
import Derived.JoinedCond
namespace Go.Proofs.YtcolecidbalmhaaGreatDoor
open Go.RowKit
set_option maxRecDepth 100000
set_option linter.unusedVariables false

theorem rollSt_no {s : StoreD} {r : RollD} {t : Int} (h : rollC s r t ≠ 0) : rollSt s r t = store0 := by unfold rollSt; rw [if_neg h]
theorem beginRo (a1 : Option Addr) (n1 c1 : Nat) (a2 : Option Addr) (n2 c2 : Nat) (s : StoreD) (r : RollD) (w : World) :
    Below w.heap.size w (((w.alloc (.cells #[.slice a1 n1 c1, .slice a2 n2 c2, .int .i64 s.d.s] 29)).alloc (.cells #[.string r.p.n, .int .i64 r.p.a, .int .i64 r.p.b, .int .i64 r.p.e, .int .i64 r.p.u, .int .i64 r.b, .int .i64 r.x, .int .i64 r.y] 40)).alloc (.cells #[.int .i64 0, .slice none 0 0, .slice none 0 0, .int .i64 0] 35)) ∧
    At w.heap.size (S3L a1 n1 c1 a2 n2 c2 s.d.s) (((w.alloc (.cells #[.slice a1 n1 c1, .slice a2 n2 c2, .int .i64 s.d.s] 29)).alloc (.cells #[.string r.p.n, .int .i64 r.p.a, .int .i64 r.p.b, .int .i64 r.p.e, .int .i64 r.p.u, .int .i64 r.b, .int .i64 r.x, .int .i64 r.y] 40)).alloc (.cells #[.int .i64 0, .slice none 0 0, .slice none 0 0, .int .i64 0] 35)) ∧
    At (w.heap.size + 1) r.vals (((w.alloc (.cells #[.slice a1 n1 c1, .slice a2 n2 c2, .int .i64 s.d.s] 29)).alloc (.cells #[.string r.p.n, .int .i64 r.p.a, .int .i64 r.p.b, .int .i64 r.p.e, .int .i64 r.p.u, .int .i64 r.b, .int .i64 r.x, .int .i64 r.y] 40)).alloc (.cells #[.int .i64 0, .slice none 0 0, .slice none 0 0, .int .i64 0] 35)) ∧
    At (w.heap.size + 1 + 1) zero9 (((w.alloc (.cells #[.slice a1 n1 c1, .slice a2 n2 c2, .int .i64 s.d.s] 29)).alloc (.cells #[.string r.p.n, .int .i64 r.p.a, .int .i64 r.p.b, .int .i64 r.p.e, .int .i64 r.p.u, .int .i64 r.b, .int .i64 r.x, .int .i64 r.y] 40)).alloc (.cells #[.int .i64 0, .slice none 0 0, .slice none 0 0, .int .i64 0] 35)) := by
  have b0 := bal (bal (bal (Below.refl _ w) (.cells #[.slice a1 n1 c1, .slice a2 n2 c2, .int .i64 s.d.s] 29)) (.cells #[.string r.p.n, .int .i64 r.p.a, .int .i64 r.p.b, .int .i64 r.p.e, .int .i64 r.p.u, .int .i64 r.b, .int .i64 r.x, .int .i64 r.y] 40)) (.cells #[.int .i64 0, .slice none 0 0, .slice none 0 0, .int .i64 0] 35)
  have A0 := ((At.new w (S3L a1 n1 c1 a2 n2 c2 s.d.s) 29).alloc (.cells #[.string r.p.n, .int .i64 r.p.a, .int .i64 r.p.b, .int .i64 r.p.e, .int .i64 r.p.u, .int .i64 r.b, .int .i64 r.x, .int .i64 r.y] 40)).alloc (.cells #[.int .i64 0, .slice none 0 0, .slice none 0 0, .int .i64 0] 35)
  have P0 := (At.new (w.alloc (.cells #[.slice a1 n1 c1, .slice a2 n2 c2, .int .i64 s.d.s] 29)) r.vals 40).alloc (.cells #[.int .i64 0, .slice none 0 0, .slice none 0 0, .int .i64 0] 35)
  have R0 := At.new ((w.alloc (.cells #[.slice a1 n1 c1, .slice a2 n2 c2, .int .i64 s.d.s] 29)).alloc (.cells #[.string r.p.n, .int .i64 r.p.a, .int .i64 r.p.b, .int .i64 r.p.e, .int .i64 r.p.u, .int .i64 r.b, .int .i64 r.x, .int .i64 r.y] 40)) zero9 35
  rw [World.size_alloc] at P0
  rw [World.size_alloc, World.size_alloc] at R0
  exact ⟨b0, A0, P0, R0⟩
set_option maxHeartbeats 2000000 in
theorem implRollStore_any (a1 : Option Addr) (n1 c1 : Nat) (a2 : Option Addr) (n2 c2 B : Nat) (s : StoreD) (r : RollD) (t : Int) (w : World) (lab : Labels w) (ert : ErrT w) (hR : SRow w B a1 n1 c1 a2 n2 c2 s) (hB : B ≤ w.heap.size) (hpn : r.p.n.size ≤ maxLen) :
    Calls Tryz.prog 14 #[S3 a1 n1 c1 a2 n2 c2 s.d.s, R8 r, .int .i64 t] w (StoreRes (rollC s r t) (rollSt s r t) w) := by
  obtain ⟨b0, A0, P0, R0⟩ := beginRo a1 n1 c1 a2 n2 c2 s r w
  have HR0 := Lib.hid R0
  have HA0 := Lib.hid A0
  have HP0 := Lib.hid P0
  have HB0 := Lib.hid b0
  have HR := Lib.hid (fun (w' : World) (h : Below w.heap.size w w') => hR.below (h.mono hB))
  have F0 := implStoreFault_any a1 n1 c1 a2 n2 c2 B s _ (hR.below (b0.mono hB)) (Nat.le_trans hB b0.size)
  clear A0 P0 R0 b0 hR
  by_cases h0 : storeF s = 0
  case neg =>
    have ec := rollC_bad (r := r) (t := t) h0
    rw [rollSt_no (by rw [ec]; exact h0), ec]
    generalize storeF s = cd at *
    have q9 : (cd != 0) = true := by simpa using h0
    have q8 : decide (cd = 0) = false := by simpa using h0
    clear HR ec
    have d0 := HA0.out.cell 0 _ rfl
    have d1 := HA0.out.cell 1 _ rfl
    have d2 := HA0.out.cell 2 _ rfl
    go_enter Tryz.func14, Tryz.ntmps14
    go_wp2_with fail
    generalize ((w.alloc (.cells #[.slice a1 n1 c1, .slice a2 n2 c2, .int .i64 s.d.s] 29)).alloc (.cells #[.string r.p.n, .int .i64 r.p.a, .int .i64 r.p.b, .int .i64 r.p.e, .int .i64 r.p.u, .int .i64 r.b, .int .i64 r.x, .int .i64 r.y] 40)).alloc (.cells #[.int .i64 0, .slice none 0 0, .slice none 0 0, .int .i64 0] 35) = W0 at *
    refine F0.mono ?_
    rintro e1 u1 ⟨rfl, b1⟩
    have B1 := Lib.hid (btr HB0.out b1)
    have R1 := Lib.hid (HR0.out.on b1)
    have A1 := Lib.hid (HA0.out.on b1)
    have P1 := Lib.hid (HP0.out.on b1)
    clear d0 d1 d2 b1 F0 HB0 HR0 HA0 HP0
    have R9 := (R1.out)
    have B9 := B1.out
    unfold zero9 at R9
    have q0 := R9.cell 0 _ rfl
    have q1 := R9.cell 1 _ rfl
    have q2 := R9.cell 2 _ rfl
    have q3 := R9.cell 3 _ rfl
    have f0 := R9.free 0 _ rfl
    have f1 := R9.free 1 _ rfl
    have f2 := R9.free 2 _ rfl
    have f3 := R9.free 3 _ rfl
    clear R9
    go_wp2_with fail
    refine bodyPost_ret (v := V4 cd none 0 0 none 0 0 0) (by simp [results, Tryz.results14, go_sem, V4, q0, q1, q2, q3]) rfl ⟨none, 0, 0, none, 0, 0, rfl, SOwn.nil _ _ ?_, ?_⟩
    · exact Nat.le_trans B9.size (by simp [World.setCell])
    · exact (by (iterate 4 (refine bset ?_ (by dsimp only; omega) _)); exact B9)
  rw [h0] at F0
  have ap := fun (w' : World) (h : Below w.heap.size w w') => implApplyRoll_any a1 n1 c1 B s.ps r t w' (lab.on h) (ert.on h) (HR.out w' h).ps (Nat.le_trans hB h.size) hpn
  unfold PinsRes at ap
  by_cases ha : applyC s.ps r t = 0
  case neg =>
    have ec := rollC_app h0 ha
    rw [rollSt_no (by rw [ec]; exact ha), ec]
    have AP := Lib.hid ap
    clear ap HR ec h0
    generalize applyL s.ps r t = qs at *
    generalize applyC s.ps r t = cd at *
    have q9 : (cd != 0) = true := by simpa using ha
    have q8 : decide (cd = 0) = false := by simpa using ha
    have d0 := HA0.out.cell 0 _ rfl
    have d1 := HA0.out.cell 1 _ rfl
    have d2 := HA0.out.cell 2 _ rfl
    go_enter Tryz.func14, Tryz.ntmps14
    go_wp2_with fail
    generalize ((w.alloc (.cells #[.slice a1 n1 c1, .slice a2 n2 c2, .int .i64 s.d.s] 29)).alloc (.cells #[.string r.p.n, .int .i64 r.p.a, .int .i64 r.p.b, .int .i64 r.p.e, .int .i64 r.p.u, .int .i64 r.b, .int .i64 r.x, .int .i64 r.y] 40)).alloc (.cells #[.int .i64 0, .slice none 0 0, .slice none 0 0, .int .i64 0] 35) = W0 at *
    refine F0.mono ?_
    rintro e1 u1 ⟨rfl, b1⟩
    have B1 := Lib.hid (btr HB0.out b1)
    have R1 := Lib.hid (HR0.out.on b1)
    have A1 := Lib.hid (HA0.out.on b1)
    have P1 := Lib.hid (HP0.out.on b1)
    clear d0 d1 d2 b1 F0 HB0 HR0 HA0 HP0
    have d0 := A1.out.cell 0 _ rfl
    have d1 := A1.out.cell 1 _ rfl
    have d2 := A1.out.cell 2 _ rfl
    have p0 := P1.out.cell 0 _ rfl
    have p1 := P1.out.cell 1 _ rfl
    have p2 := P1.out.cell 2 _ rfl
    have p3 := P1.out.cell 3 _ rfl
    have p4 := P1.out.cell 4 _ rfl
    have p5 := P1.out.cell 5 _ rfl
    have p6 := P1.out.cell 6 _ rfl
    have p7 := P1.out.cell 7 _ rfl
    go_wp2_with fail
    refine (AP.out _ B1.out).mono ?_
    rintro e2 u4 ⟨a4, n4, c4, rfl, O4, b4⟩
    have b45 := btr b4 (bal (Below.refl _ u4) (.cells #[.int .i64 cd, .slice a4 n4 c4] 120))
    have T5 := Lib.hid (show At u4.heap.size [.int .i64 cd, .slice a4 n4 c4] (u4.alloc (.cells #[.int .i64 cd, .slice a4 n4 c4] 120)) from At.new u4 [.int .i64 cd, .slice a4 n4 c4] 120)
    have R5 := Lib.hid (R1.out.on b45)
    have A5 := Lib.hid (A1.out.on b45)
    have P5' := Lib.hid (P1.out.on b45)
    have B5 := Lib.hid (btr B1.out b45)
    clear d0 d1 d2 p0 p1 p2 p3 p4 p5 p6 p7 b4 b45 O4 R1 A1 P1 B1
    go_upto_region 5 with fail
    generalize u4.alloc (.cells #[.int .i64 cd, .slice a4 n4 c4] 120) = W5 at *
    have t0 := T5.out.cell 0 _ rfl
    have t1 := T5.out.cell 1 _ rfl
    have R9 := (R5.out)
    have B9 := B5.out
    unfold zero9 at R9
    have q0 := R9.cell 0 _ rfl
    have q1 := R9.cell 1 _ rfl
    have q2 := R9.cell 2 _ rfl
    have q3 := R9.cell 3 _ rfl
    have f0 := R9.free 0 _ rfl
    have f1 := R9.free 1 _ rfl
    have f2 := R9.free 2 _ rfl
    have f3 := R9.free 3 _ rfl
    clear R9
    go_wp2_with fail
    refine bodyPost_ret (v := V4 cd none 0 0 none 0 0 0) (by simp [results, Tryz.results14, go_sem, V4, q0, q1, q2, q3]) rfl ⟨none, 0, 0, none, 0, 0, rfl, SOwn.nil _ _ ?_, ?_⟩
    · exact Nat.le_trans B9.size (by simp [World.setCell])
    · exact (by (iterate 4 (refine bset ?_ (by dsimp only; omega) _)); exact B9)
  rw [ha] at ap
  have AP := Lib.hid ap
  obtain ⟨ec, es⟩ := rollC_note h0 ha
  rw [ec, es]
  have NP := Lib.hid (fun (w' : World) (h : Below w.heap.size w w') => implNotePin_any a1 n1 c1 a2 n2 c2 B s r.p w' (HR.out w' h) (Nat.le_trans hB h.size) hpn)
  unfold StoreRes at NP
  clear ap HR ec es h0 ha
  generalize applyL s.ps r t = qs at *
  generalize noteC s r.p = C at *
  generalize noteS s r.p = S at *
  have d0 := HA0.out.cell 0 _ rfl
  have d1 := HA0.out.cell 1 _ rfl
  have d2 := HA0.out.cell 2 _ rfl
  go_enter Tryz.func14, Tryz.ntmps14
  go_wp2_with fail
  generalize ((w.alloc (.cells #[.slice a1 n1 c1, .slice a2 n2 c2, .int .i64 s.d.s] 29)).alloc (.cells #[.string r.p.n, .int .i64 r.p.a, .int .i64 r.p.b, .int .i64 r.p.e, .int .i64 r.p.u, .int .i64 r.b, .int .i64 r.x, .int .i64 r.y] 40)).alloc (.cells #[.int .i64 0, .slice none 0 0, .slice none 0 0, .int .i64 0] 35) = W0 at *
  refine F0.mono ?_
  rintro e1 u1 ⟨rfl, b1⟩
  have B1 := Lib.hid (btr HB0.out b1)
  have R1 := Lib.hid (HR0.out.on b1)
  have A1 := Lib.hid (HA0.out.on b1)
  have P1 := Lib.hid (HP0.out.on b1)
  clear d0 d1 d2 b1 F0 HB0 HR0 HA0 HP0
  have d0 := A1.out.cell 0 _ rfl
  have d1 := A1.out.cell 1 _ rfl
  have d2 := A1.out.cell 2 _ rfl
  have p0 := P1.out.cell 0 _ rfl
  have p1 := P1.out.cell 1 _ rfl
  have p2 := P1.out.cell 2 _ rfl
  have p3 := P1.out.cell 3 _ rfl
  have p4 := P1.out.cell 4 _ rfl
  have p5 := P1.out.cell 5 _ rfl
  have p6 := P1.out.cell 6 _ rfl
  have p7 := P1.out.cell 7 _ rfl
  go_wp2_with fail
  refine (AP.out _ B1.out).mono ?_
  rintro e2 u4 ⟨a4, n4, c4, rfl, O4, b4⟩
  have b45 := btr b4 (bal (Below.refl _ u4) (.cells #[.int .i64 0, .slice a4 n4 c4] 120))
  have T5 := Lib.hid (show At u4.heap.size [.int .i64 0, .slice a4 n4 c4] (u4.alloc (.cells #[.int .i64 0, .slice a4 n4 c4] 120)) from At.new u4 [.int .i64 0, .slice a4 n4 c4] 120)
  have R5 := Lib.hid (R1.out.on b45)
  have A5 := Lib.hid (A1.out.on b45)
  have P5' := Lib.hid (P1.out.on b45)
  have B5 := Lib.hid (btr B1.out b45)
  clear d0 d1 d2 p0 p1 p2 p3 p4 p5 p6 p7 b4 b45 O4 R1 A1 P1 B1
  go_upto_region 5 with fail
  generalize u4.alloc (.cells #[.int .i64 0, .slice a4 n4 c4] 120) = W5 at *
  have t0 := T5.out.cell 0 _ rfl
  have t1 := T5.out.cell 1 _ rfl
  have d0 := A5.out.cell 0 _ rfl
  have d1 := A5.out.cell 1 _ rfl
  have d2 := A5.out.cell 2 _ rfl
  have p0 := P5'.out.cell 0 _ rfl
  have p1 := P5'.out.cell 1 _ rfl
  have p2 := P5'.out.cell 2 _ rfl
  have p3 := P5'.out.cell 3 _ rfl
  have p4 := P5'.out.cell 4 _ rfl
  have p5 := P5'.out.cell 5 _ rfl
  have p6 := P5'.out.cell 6 _ rfl
  have p7 := P5'.out.cell 7 _ rfl
  go_wp2_with fail
  refine (NP.out _ B5.out).mono ?_
  rintro e3 u9 ⟨a3, n3, c3, a6, n6, c6, rfl, SO9, b9⟩
  have R9 := R5.out.on b9
  have B9 := btr B5.out b9
  have HS9 := Lib.hid (SO9.res (w := w) (r := w.heap.size + 1 + 1) (R5.out.lt (by decide)) B5.out.size (.int .i64 C) (.slice a3 n3 c3) (.slice a6 n6 c6) (.int .i64 S.d.s))
  unfold zero9 at R9
  clear t0 t1 d0 d1 d2 p0 p1 p2 p3 p4 p5 p6 p7
  have q0 := R9.cell 0 _ rfl
  have q1 := R9.cell 1 _ rfl
  have q2 := R9.cell 2 _ rfl
  have q3 := R9.cell 3 _ rfl
  have f0 := R9.free 0 _ rfl
  have f1 := R9.free 1 _ rfl
  have f2 := R9.free 2 _ rfl
  have f3 := R9.free 3 _ rfl
  clear R9 b9 SO9
  go_wp2_with fail
  refine bodyPost_ret (v := V4 C a3 n3 c3 a6 n6 c6 S.d.s) (by simp [results, Tryz.results14, go_sem, V4, q0, q1, q2, q3]) rfl ⟨a3, n3, c3, a6, n6, c6, rfl, HS9.out, ?_⟩
  exact (by (iterate 4 (refine bset ?_ (by dsimp only; omega) _)); exact B9)
set_option maxHeartbeats 2000000 in
theorem specRollStore_any (a1 : Option Addr) (n1 c1 : Nat) (a2 : Option Addr) (n2 c2 B : Nat) (s : StoreD) (r : RollD) (t : Int) (w : World) (hR : SRow w B a1 n1 c1 a2 n2 c2 s) (hB : B ≤ w.heap.size) (hpn : r.p.n.size ≤ maxLen) :
    Calls Tryz.prog 17 #[S3 a1 n1 c1 a2 n2 c2 s.d.s, R8 r, .int .i64 t] w (StoreRes (rollC s r t) (rollSt s r t) w) := by
  obtain ⟨b0, A0, P0, R0⟩ := beginRo a1 n1 c1 a2 n2 c2 s r w
  have HR0 := Lib.hid R0
  have HA0 := Lib.hid A0
  have HP0 := Lib.hid P0
  have HB0 := Lib.hid b0
  have HR := Lib.hid (fun (w' : World) (h : Below w.heap.size w w') => hR.below (h.mono hB))
  have F0 := l9Fault_any w.heap.size a1 n1 c1 a2 n2 c2 B s _ ⟨A0, hR.below (b0.mono hB)⟩ (Nat.le_trans hB b0.size)
  clear A0 P0 R0 b0 hR
  by_cases h0 : storeF s = 0
  case neg =>
    have ec := rollC_bad (r := r) (t := t) h0
    rw [rollSt_no (by rw [ec]; exact h0), ec]
    generalize storeF s = cd at *
    have q9 : (cd != 0) = true := by simpa using h0
    have q8 : decide (cd = 0) = false := by simpa using h0
    clear HR ec
    have d0 := HA0.out.cell 0 _ rfl
    have d1 := HA0.out.cell 1 _ rfl
    have d2 := HA0.out.cell 2 _ rfl
    go_enter Tryz.func17, Tryz.ntmps17
    go_wp2_with fail
    generalize ((w.alloc (.cells #[.slice a1 n1 c1, .slice a2 n2 c2, .int .i64 s.d.s] 29)).alloc (.cells #[.string r.p.n, .int .i64 r.p.a, .int .i64 r.p.b, .int .i64 r.p.e, .int .i64 r.p.u, .int .i64 r.b, .int .i64 r.x, .int .i64 r.y] 40)).alloc (.cells #[.int .i64 0, .slice none 0 0, .slice none 0 0, .int .i64 0] 35) = W0 at *
    refine F0.mono ?_
    rintro e1 u1 ⟨rfl, b1⟩
    have B1 := Lib.hid (btr HB0.out b1)
    have R1 := Lib.hid (HR0.out.on b1)
    have A1 := Lib.hid (HA0.out.on b1)
    have P1 := Lib.hid (HP0.out.on b1)
    clear d0 d1 d2 b1 F0 HB0 HR0 HA0 HP0
    go_wp2_with fail
    refine (l9Bad_any cd _).mono ?_
    rintro r u9 ⟨rfl, b9⟩
    have R9 := (R1.out).on b9
    have B9 := btr B1.out b9
    unfold zero9 at R9
    have q0 := R9.cell 0 _ rfl
    have q1 := R9.cell 1 _ rfl
    have q2 := R9.cell 2 _ rfl
    have q3 := R9.cell 3 _ rfl
    have f0 := R9.free 0 _ rfl
    have f1 := R9.free 1 _ rfl
    have f2 := R9.free 2 _ rfl
    have f3 := R9.free 3 _ rfl
    clear b9 R9
    go_wp2_with fail
    refine bodyPost_ret (v := V4 cd none 0 0 none 0 0 0) (by simp [results, Tryz.results17, go_sem, V4, q0, q1, q2, q3]) rfl ⟨none, 0, 0, none, 0, 0, rfl, SOwn.nil _ _ ?_, ?_⟩
    · exact Nat.le_trans B9.size (by simp [World.setCell])
    · exact (by (iterate 4 (refine bset ?_ (by dsimp only; omega) _)); exact B9)
  rw [h0] at F0
  have ap := fun (w' : World) (h : Below w.heap.size w w') => specApplyRoll_any a1 n1 c1 B s.ps r t w' (HR.out w' h).ps (Nat.le_trans hB h.size) hpn
  unfold PinsRes at ap
  by_cases ha : applyC s.ps r t = 0
  case neg =>
    have ec := rollC_app h0 ha
    rw [rollSt_no (by rw [ec]; exact ha), ec]
    have AP := Lib.hid ap
    clear ap HR ec h0
    generalize applyL s.ps r t = qs at *
    generalize applyC s.ps r t = cd at *
    have q9 : (cd != 0) = true := by simpa using ha
    have q8 : decide (cd = 0) = false := by simpa using ha
    have d0 := HA0.out.cell 0 _ rfl
    have d1 := HA0.out.cell 1 _ rfl
    have d2 := HA0.out.cell 2 _ rfl
    go_enter Tryz.func17, Tryz.ntmps17
    go_wp2_with fail
    generalize ((w.alloc (.cells #[.slice a1 n1 c1, .slice a2 n2 c2, .int .i64 s.d.s] 29)).alloc (.cells #[.string r.p.n, .int .i64 r.p.a, .int .i64 r.p.b, .int .i64 r.p.e, .int .i64 r.p.u, .int .i64 r.b, .int .i64 r.x, .int .i64 r.y] 40)).alloc (.cells #[.int .i64 0, .slice none 0 0, .slice none 0 0, .int .i64 0] 35) = W0 at *
    refine F0.mono ?_
    rintro e1 u1 ⟨rfl, b1⟩
    have B1 := Lib.hid (btr HB0.out b1)
    have R1 := Lib.hid (HR0.out.on b1)
    have A1 := Lib.hid (HA0.out.on b1)
    have P1 := Lib.hid (HP0.out.on b1)
    clear d0 d1 d2 b1 F0 HB0 HR0 HA0 HP0
    have d0 := A1.out.cell 0 _ rfl
    have d1 := A1.out.cell 1 _ rfl
    have d2 := A1.out.cell 2 _ rfl
    have p0 := P1.out.cell 0 _ rfl
    have p1 := P1.out.cell 1 _ rfl
    have p2 := P1.out.cell 2 _ rfl
    have p3 := P1.out.cell 3 _ rfl
    have p4 := P1.out.cell 4 _ rfl
    have p5 := P1.out.cell 5 _ rfl
    have p6 := P1.out.cell 6 _ rfl
    have p7 := P1.out.cell 7 _ rfl
    go_wp2_with fail
    refine (AP.out _ B1.out).mono ?_
    rintro e2 u4 ⟨a4, n4, c4, rfl, O4, b4⟩
    have b45 := btr b4 (bal (Below.refl _ u4) (.cells #[.int .i64 cd, .slice a4 n4 c4] 120))
    have T5 := Lib.hid (show At u4.heap.size [.int .i64 cd, .slice a4 n4 c4] (u4.alloc (.cells #[.int .i64 cd, .slice a4 n4 c4] 120)) from At.new u4 [.int .i64 cd, .slice a4 n4 c4] 120)
    have R5 := Lib.hid (R1.out.on b45)
    have A5 := Lib.hid (A1.out.on b45)
    have P5' := Lib.hid (P1.out.on b45)
    have B5 := Lib.hid (btr B1.out b45)
    clear d0 d1 d2 p0 p1 p2 p3 p4 p5 p6 p7 b4 b45 O4 R1 A1 P1 B1
    go_upto_region 5 with fail
    generalize u4.alloc (.cells #[.int .i64 cd, .slice a4 n4 c4] 120) = W5 at *
    have t0 := T5.out.cell 0 _ rfl
    have t1 := T5.out.cell 1 _ rfl
    go_wp2_with fail
    refine (l9Bad_any cd _).mono ?_
    rintro r u9 ⟨rfl, b9⟩
    have R9 := (R5.out).on b9
    have B9 := btr B5.out b9
    unfold zero9 at R9
    have q0 := R9.cell 0 _ rfl
    have q1 := R9.cell 1 _ rfl
    have q2 := R9.cell 2 _ rfl
    have q3 := R9.cell 3 _ rfl
    have f0 := R9.free 0 _ rfl
    have f1 := R9.free 1 _ rfl
    have f2 := R9.free 2 _ rfl
    have f3 := R9.free 3 _ rfl
    clear b9 R9
    go_wp2_with fail
    refine bodyPost_ret (v := V4 cd none 0 0 none 0 0 0) (by simp [results, Tryz.results17, go_sem, V4, q0, q1, q2, q3]) rfl ⟨none, 0, 0, none, 0, 0, rfl, SOwn.nil _ _ ?_, ?_⟩
    · exact Nat.le_trans B9.size (by simp [World.setCell])
    · exact (by (iterate 4 (refine bset ?_ (by dsimp only; omega) _)); exact B9)
  rw [ha] at ap
  have AP := Lib.hid ap
  obtain ⟨ec, es⟩ := rollC_note h0 ha
  rw [ec, es]
  have hpf : r.p.f = 0 := (put_ok (applyC_zero ha).2.2.choose_spec.2.2.1).fp
  have NP := Lib.hid (fun (w' : World) (hb : Below w.heap.size w w') (A : At w.heap.size (S3L a1 n1 c1 a2 n2 c2 s.d.s) w') => l9Note_any w.heap.size a1 n1 c1 a2 n2 c2 B s r.p w' ⟨A, HR.out w' hb⟩ (Nat.le_trans hB hb.size) h0 hpf)
  unfold StoreRes at NP
  clear ap HR ec es h0 ha
  generalize applyL s.ps r t = qs at *
  generalize noteC s r.p = C at *
  generalize noteS s r.p = S at *
  have d0 := HA0.out.cell 0 _ rfl
  have d1 := HA0.out.cell 1 _ rfl
  have d2 := HA0.out.cell 2 _ rfl
  go_enter Tryz.func17, Tryz.ntmps17
  go_wp2_with fail
  generalize ((w.alloc (.cells #[.slice a1 n1 c1, .slice a2 n2 c2, .int .i64 s.d.s] 29)).alloc (.cells #[.string r.p.n, .int .i64 r.p.a, .int .i64 r.p.b, .int .i64 r.p.e, .int .i64 r.p.u, .int .i64 r.b, .int .i64 r.x, .int .i64 r.y] 40)).alloc (.cells #[.int .i64 0, .slice none 0 0, .slice none 0 0, .int .i64 0] 35) = W0 at *
  refine F0.mono ?_
  rintro e1 u1 ⟨rfl, b1⟩
  have B1 := Lib.hid (btr HB0.out b1)
  have R1 := Lib.hid (HR0.out.on b1)
  have A1 := Lib.hid (HA0.out.on b1)
  have P1 := Lib.hid (HP0.out.on b1)
  clear d0 d1 d2 b1 F0 HB0 HR0 HA0 HP0
  have d0 := A1.out.cell 0 _ rfl
  have d1 := A1.out.cell 1 _ rfl
  have d2 := A1.out.cell 2 _ rfl
  have p0 := P1.out.cell 0 _ rfl
  have p1 := P1.out.cell 1 _ rfl
  have p2 := P1.out.cell 2 _ rfl
  have p3 := P1.out.cell 3 _ rfl
  have p4 := P1.out.cell 4 _ rfl
  have p5 := P1.out.cell 5 _ rfl
  have p6 := P1.out.cell 6 _ rfl
  have p7 := P1.out.cell 7 _ rfl
  go_wp2_with fail
  refine (AP.out _ B1.out).mono ?_
  rintro e2 u4 ⟨a4, n4, c4, rfl, O4, b4⟩
  have b45 := btr b4 (bal (Below.refl _ u4) (.cells #[.int .i64 0, .slice a4 n4 c4] 120))
  have T5 := Lib.hid (show At u4.heap.size [.int .i64 0, .slice a4 n4 c4] (u4.alloc (.cells #[.int .i64 0, .slice a4 n4 c4] 120)) from At.new u4 [.int .i64 0, .slice a4 n4 c4] 120)
  have R5 := Lib.hid (R1.out.on b45)
  have A5 := Lib.hid (A1.out.on b45)
  have P5' := Lib.hid (P1.out.on b45)
  have B5 := Lib.hid (btr B1.out b45)
  clear d0 d1 d2 p0 p1 p2 p3 p4 p5 p6 p7 b4 b45 O4 R1 A1 P1 B1
  go_upto_region 5 with fail
  generalize u4.alloc (.cells #[.int .i64 0, .slice a4 n4 c4] 120) = W5 at *
  have t0 := T5.out.cell 0 _ rfl
  have t1 := T5.out.cell 1 _ rfl
  have d0 := A5.out.cell 0 _ rfl
  have d1 := A5.out.cell 1 _ rfl
  have d2 := A5.out.cell 2 _ rfl
  have p0 := P5'.out.cell 0 _ rfl
  have p1 := P5'.out.cell 1 _ rfl
  have p2 := P5'.out.cell 2 _ rfl
  have p3 := P5'.out.cell 3 _ rfl
  have p4 := P5'.out.cell 4 _ rfl
  have p5 := P5'.out.cell 5 _ rfl
  have p6 := P5'.out.cell 6 _ rfl
  have p7 := P5'.out.cell 7 _ rfl
  go_wp2_with fail
  refine (NP.out _ B5.out A5.out).mono ?_
  rintro e3 u9 ⟨a3, n3, c3, a6, n6, c6, rfl, SO9, b9⟩
  have R9 := R5.out.on b9
  have B9 := btr B5.out b9
  have HS9 := Lib.hid (SO9.res (w := w) (r := w.heap.size + 1 + 1) (R5.out.lt (by decide)) B5.out.size (.int .i64 C) (.slice a3 n3 c3) (.slice a6 n6 c6) (.int .i64 S.d.s))
  unfold zero9 at R9
  clear t0 t1 d0 d1 d2 p0 p1 p2 p3 p4 p5 p6 p7
  have q0 := R9.cell 0 _ rfl
  have q1 := R9.cell 1 _ rfl
  have q2 := R9.cell 2 _ rfl
  have q3 := R9.cell 3 _ rfl
  have f0 := R9.free 0 _ rfl
  have f1 := R9.free 1 _ rfl
  have f2 := R9.free 2 _ rfl
  have f3 := R9.free 3 _ rfl
  clear R9 b9 SO9
  go_wp2_with fail
  refine bodyPost_ret (v := V4 C a3 n3 c3 a6 n6 c6 S.d.s) (by simp [results, Tryz.results17, go_sem, V4, q0, q1, q2, q3]) rfl ⟨a3, n3, c3, a6, n6, c6, rfl, HS9.out, ?_⟩
  exact (by (iterate 4 (refine bset ?_ (by dsimp only; omega) _)); exact B9)
end Go.Proofs.YtcolecidbalmhaaGreatDoor
namespace Go.Proofs.YtcolecidbalmhaaGreatDoor
open Go.RowKit
set_option maxRecDepth 100000
set_option linter.unusedVariables false

def zeroR : List Value := [.string { data := #[] }, .int .i64 0, .int .i64 0, .int .i64 0, .int .i64 0, .int .i64 0, .int .i64 0, .int .i64 0]
theorem toRoll_any (r : RollD) (w : World) : Calls Tryz.prog 54 #[R8 r] w fun e w' => e = .returned (R8 r) ∧ Below w.heap.size w w' := by
  have b0 := bal (bal (bal (Below.refl _ w) (.cells #[.string r.p.n, .int .i64 r.p.a, .int .i64 r.p.b, .int .i64 r.p.e, .int .i64 r.p.u, .int .i64 r.b, .int .i64 r.x, .int .i64 r.y] 88)) (.cells #[.string { data := #[] }, .int .i64 0, .int .i64 0, .int .i64 0, .int .i64 0, .int .i64 0, .int .i64 0, .int .i64 0] 40)) (.cells #[.string { data := #[] }, .int .i64 0, .int .i64 0, .int .i64 0, .int .i64 0, .int .i64 0, .int .i64 0, .int .i64 0] 40)
  have A0 : At w.heap.size r.vals (((w.alloc (.cells #[.string r.p.n, .int .i64 r.p.a, .int .i64 r.p.b, .int .i64 r.p.e, .int .i64 r.p.u, .int .i64 r.b, .int .i64 r.x, .int .i64 r.y] 88)).alloc (.cells #[.string { data := #[] }, .int .i64 0, .int .i64 0, .int .i64 0, .int .i64 0, .int .i64 0, .int .i64 0, .int .i64 0] 40)).alloc (.cells #[.string { data := #[] }, .int .i64 0, .int .i64 0, .int .i64 0, .int .i64 0, .int .i64 0, .int .i64 0, .int .i64 0] 40)) := ((At.new w r.vals 88).alloc _).alloc _
  have Z0 : At (w.heap.size + 1) zeroR (((w.alloc (.cells #[.string r.p.n, .int .i64 r.p.a, .int .i64 r.p.b, .int .i64 r.p.e, .int .i64 r.p.u, .int .i64 r.b, .int .i64 r.x, .int .i64 r.y] 88)).alloc (.cells #[.string { data := #[] }, .int .i64 0, .int .i64 0, .int .i64 0, .int .i64 0, .int .i64 0, .int .i64 0, .int .i64 0] 40)).alloc (.cells #[.string { data := #[] }, .int .i64 0, .int .i64 0, .int .i64 0, .int .i64 0, .int .i64 0, .int .i64 0, .int .i64 0] 40)) := (At.newN (w := (w.alloc (.cells #[.string r.p.n, .int .i64 r.p.a, .int .i64 r.p.b, .int .i64 r.p.e, .int .i64 r.p.u, .int .i64 r.b, .int .i64 r.x, .int .i64 r.y] 88))) zeroR 40 (by simp)).alloc (.cells #[.string { data := #[] }, .int .i64 0, .int .i64 0, .int .i64 0, .int .i64 0, .int .i64 0, .int .i64 0, .int .i64 0] 40)
  have X0 : At (w.heap.size + 1 + 1) zeroR (((w.alloc (.cells #[.string r.p.n, .int .i64 r.p.a, .int .i64 r.p.b, .int .i64 r.p.e, .int .i64 r.p.u, .int .i64 r.b, .int .i64 r.x, .int .i64 r.y] 88)).alloc (.cells #[.string { data := #[] }, .int .i64 0, .int .i64 0, .int .i64 0, .int .i64 0, .int .i64 0, .int .i64 0, .int .i64 0] 40)).alloc (.cells #[.string { data := #[] }, .int .i64 0, .int .i64 0, .int .i64 0, .int .i64 0, .int .i64 0, .int .i64 0, .int .i64 0] 40)) := At.newN (w := ((w.alloc (.cells #[.string r.p.n, .int .i64 r.p.a, .int .i64 r.p.b, .int .i64 r.p.e, .int .i64 r.p.u, .int .i64 r.b, .int .i64 r.x, .int .i64 r.y] 88)).alloc (.cells #[.string { data := #[] }, .int .i64 0, .int .i64 0, .int .i64 0, .int .i64 0, .int .i64 0, .int .i64 0, .int .i64 0] 40))) zeroR 40 (by simp)
  have P := fun w => toPin_any r.p w
  have S := fun w => toSigned_any r.x r.y w
  go_enter Tryz.func54, Tryz.ntmps54
  go_wp2_with fail
  generalize ((w.alloc (.cells #[.string r.p.n, .int .i64 r.p.a, .int .i64 r.p.b, .int .i64 r.p.e, .int .i64 r.p.u, .int .i64 r.b, .int .i64 r.x, .int .i64 r.y] 88)).alloc (.cells #[.string { data := #[] }, .int .i64 0, .int .i64 0, .int .i64 0, .int .i64 0, .int .i64 0, .int .i64 0, .int .i64 0] 40)).alloc (.cells #[.string { data := #[] }, .int .i64 0, .int .i64 0, .int .i64 0, .int .i64 0, .int .i64 0, .int .i64 0, .int .i64 0] 40) = W0 at *
  refine (P _).mono ?_
  rintro e u1 ⟨rfl, b1⟩
  have A1 := A0.on b1
  have Z1 := Z0.on b1
  have X1 := X0.on b1
  have B1 := btr b0 b1
  clear A0 Z0 X0 b0 b1 P
  have p0 := A1.cell 0 _ rfl
  have p1 := A1.cell 1 _ rfl
  have p2 := A1.cell 2 _ rfl
  have p3 := A1.cell 3 _ rfl
  have p4 := A1.cell 4 _ rfl
  have p5 := A1.cell 5 _ rfl
  have p6 := A1.cell 6 _ rfl
  have p7 := A1.cell 7 _ rfl
  have x0 := X1.cell 0 _ rfl
  have x1 := X1.cell 1 _ rfl
  have x2 := X1.cell 2 _ rfl
  have x3 := X1.cell 3 _ rfl
  have x4 := X1.cell 4 _ rfl
  have x5 := X1.cell 5 _ rfl
  have x6 := X1.cell 6 _ rfl
  have x7 := X1.cell 7 _ rfl
  have f0 := X1.free 0 _ rfl
  have f1 := X1.free 1 _ rfl
  have f2 := X1.free 2 _ rfl
  have f3 := X1.free 3 _ rfl
  have f4 := X1.free 4 _ rfl
  have f5 := X1.free 5 _ rfl
  have f6 := X1.free 6 _ rfl
  have f7 := X1.free 7 _ rfl
  go_wp2_with fail
  have X2 := (((((X1.set 0 (.string r.p.n)).set 1 (.int .i64 r.p.a)).set 2 (.int .i64 r.p.b)).set 3 (.int .i64 r.p.e)).set 4 (.int .i64 r.p.u)).set 5 (.int .i64 r.b)
  have Z2 := (((((Z1.setB (p := ⟨w.heap.size + 1 + 1, 0, none⟩) (by simp) (.string r.p.n)).setB (p := ⟨w.heap.size + 1 + 1, 1, none⟩) (by simp) (.int .i64 r.p.a)).setB (p := ⟨w.heap.size + 1 + 1, 2, none⟩) (by simp) (.int .i64 r.p.b)).setB (p := ⟨w.heap.size + 1 + 1, 3, none⟩) (by simp) (.int .i64 r.p.e)).setB (p := ⟨w.heap.size + 1 + 1, 4, none⟩) (by simp) (.int .i64 r.p.u)).setB (p := ⟨w.heap.size + 1 + 1, 5, none⟩) (by simp) (.int .i64 r.b)
  have B2 := bset (bset (bset (bset (bset (bset B1 (p := ⟨w.heap.size + 1 + 1, 0, none⟩) (by dsimp only; omega) (.string r.p.n)) (p := ⟨w.heap.size + 1 + 1, 1, none⟩) (by dsimp only; omega) (.int .i64 r.p.a)) (p := ⟨w.heap.size + 1 + 1, 2, none⟩) (by dsimp only; omega) (.int .i64 r.p.b)) (p := ⟨w.heap.size + 1 + 1, 3, none⟩) (by dsimp only; omega) (.int .i64 r.p.e)) (p := ⟨w.heap.size + 1 + 1, 4, none⟩) (by dsimp only; omega) (.int .i64 r.p.u)) (p := ⟨w.heap.size + 1 + 1, 5, none⟩) (by dsimp only; omega) (.int .i64 r.b)
  generalize (((((u1.setCell ⟨w.heap.size + 1 + 1, 0, none⟩ (.string r.p.n)).setCell ⟨w.heap.size + 1 + 1, 1, none⟩ (.int .i64 r.p.a)).setCell ⟨w.heap.size + 1 + 1, 2, none⟩ (.int .i64 r.p.b)).setCell ⟨w.heap.size + 1 + 1, 3, none⟩ (.int .i64 r.p.e)).setCell ⟨w.heap.size + 1 + 1, 4, none⟩ (.int .i64 r.p.u)).setCell ⟨w.heap.size + 1 + 1, 5, none⟩ (.int .i64 r.b) = W2 at *
  clear A1 Z1 X1 B1 p0 p1 p2 p3 p4 p5 p6 p7 x0 x1 x2 x3 x4 x5 x6 x7 f0 f1 f2 f3 f4 f5 f6 f7
  refine (S _).mono ?_
  rintro e u2 ⟨rfl, b2⟩
  have X3 := X2.on b2
  have Z3 := Z2.on b2
  have B3 := btr B2 b2
  have x0 := X3.cell 0 _ rfl
  have x1 := X3.cell 1 _ rfl
  have x2 := X3.cell 2 _ rfl
  have x3 := X3.cell 3 _ rfl
  have x4 := X3.cell 4 _ rfl
  have x5 := X3.cell 5 _ rfl
  have x6 := X3.cell 6 _ rfl
  have x7 := X3.cell 7 _ rfl
  have f0 := X3.free 0 _ rfl
  have f1 := X3.free 1 _ rfl
  have f2 := X3.free 2 _ rfl
  have f3 := X3.free 3 _ rfl
  have f4 := X3.free 4 _ rfl
  have f5 := X3.free 5 _ rfl
  have f6 := X3.free 6 _ rfl
  have f7 := X3.free 7 _ rfl
  have z0 := Z3.cell 0 _ rfl
  have z1 := Z3.cell 1 _ rfl
  have z2 := Z3.cell 2 _ rfl
  have z3 := Z3.cell 3 _ rfl
  have z4 := Z3.cell 4 _ rfl
  have z5 := Z3.cell 5 _ rfl
  have z6 := Z3.cell 6 _ rfl
  have z7 := Z3.cell 7 _ rfl
  have h0 := Z3.free 0 _ rfl
  have h1 := Z3.free 1 _ rfl
  have h2 := Z3.free 2 _ rfl
  have h3 := Z3.free 3 _ rfl
  have h4 := Z3.free 4 _ rfl
  have h5 := Z3.free 5 _ rfl
  have h6 := Z3.free 6 _ rfl
  have h7 := Z3.free 7 _ rfl
  clear X2 Z2 B2 b2 S X3 Z3
  go_wp2_with fail
  exact bodyPost_ret (v := R8 r) (by simp [results, Tryz.results54, go_sem, z0, z1, z2, z3, z4, z5, z6, z7]) rfl ⟨rfl, (by (iterate 10 (refine bset ?_ (by dsimp only; omega) _)); exact B3)⟩
theorem szRoll_any (r : RollD) (l : Int) (w : World) (hn : r.p.n.size ≤ maxLen) (l0 : 0 ≤ l) (l1 : l ≤ 1048576) :
    Calls Tryz.prog 52 #[R8 r, .int .i64 l] w fun e w' => e = .returned (.int .i64 (if l < r.p.n.size then -1 else l - r.p.n.size)) ∧ Below w.heap.size w w' := by
  have hb := bal (Below.refl _ w) (.cells #[.string r.p.n, .int .i64 r.p.a, .int .i64 r.p.b, .int .i64 r.p.e, .int .i64 r.p.u, .int .i64 r.b, .int .i64 r.x, .int .i64 r.y] 88)
  have S := fun w => szPin_any r.p l w hn l0 l1
  by_cases h : l < r.p.n.size
  · rw [if_pos h] at S ⊢
    go_enter Tryz.func52, Tryz.ntmps52
    go_wp2_with fail
    refine (S _).mono ?_
    rintro r w1 ⟨rfl, b1⟩
    have bb := btr hb b1
    go_wp2_with fail
    go_ret
    exact ⟨rfl, bb⟩
  · have h' : ¬ l - r.p.n.size < 0 := by omega
    rw [if_neg h] at S ⊢
    go_enter Tryz.func52, Tryz.ntmps52
    go_wp2_with fail
    refine (S _).mono ?_
    rintro r w1 ⟨rfl, b1⟩
    have bb := btr hb b1
    go_wp2_with fail
    go_ret
    exact ⟨rfl, bb⟩
/-- How much of a bound rollovers leave. -/
def szRo (ps : List RollD) (l : Int) : Int := szP (ps.map RollD.p) l
/-- A slice of rollovers was copied. -/
def CopiedR (n : Nat) (ps : List RollD) (w : World) (r : Ending) (w' : World) : Prop :=
  r = .returned (.slice (some ⟨w.heap.size, 0, none⟩) n n) ∧ OwnR w' w.heap.size (.slice (some ⟨w.heap.size, 0, none⟩) n n) ps ∧ Below w.heap.size w w'
end Go.Proofs.YtcolecidbalmhaaGreatDoor
namespace Go.Proofs.YtcolecidbalmhaaGreatDoor
open Go.ChangeShapes Go.WideShapes Go.ChangeAt Go.RowKit
set_option maxRecDepth 100000

theorem row_open {k : IntKind} {w : World} {A : Option Addr} {L C : Nat} {Z : List Int} (h1 : L ≤ C) (h2 : C ≤ maxLen) (h3 : Z.length = C) (h4 : ∀ n ∈ Z, (Lit.int k n).wf = true) (h5 : A = none → C = 0)
    (h6 : ∀ a', A = some a' → ∀ c, c < C → w.cell? (a'.add c) = some (.int k (Z.getD c 0))) : Row k w w.heap.size A L C (Z.take L) := by
  cases A with
  | none =>
    have := h5 rfl
    subst this
    obtain rfl : L = 0 := by omega
    exact ⟨by simp, fun z hz => by simp at hz, Nat.le_refl _, h2, fun h => absurd h (by omega)⟩
  | some a' => exact Row.of_open h1 h2 h3 (fun i hi => h6 a' rfl i (by omega)) h4

theorem open_grid {H : Type} {enc : TypeId × Value → H} {W : World} {a : Option Addr} {len cap : Nat} {d : DataW H} {p : List MemPlace} (h : DataW.Trod enc Tryz.prog W 0 (fun _ => true) true 25 (.slice a len cap) d p) :
    ∃ zss, Grid W W.heap.size a len cap zss ∧ ∀ zs ∈ zss, ∀ z ∈ zs, (Lit.int .u8 z).wf = true := by
  obtain ⟨fuel, hf⟩ := h
  rcases Deep.open_int_rows Tryz.underlying25 Tryz.underlying22 Tryz.underlying5 (by kernel_rfl) (by kernel_rfl) hf with ⟨hcs, _⟩ | ⟨x, l, c, A, L, C, Z, hcs, _, hl, hm, _, hx⟩
  · simp [Value.cells] at hcs
    obtain ⟨rfl, rfl, rfl⟩ := hcs
    exact ⟨[], Grid.nil _ _, fun _ h => by cases h⟩
  · simp [Value.cells] at hcs
    obtain ⟨rfl, rfl, rfl⟩ := hcs
    refine ⟨(List.range len).map fun r => (Z r).take (L r), ⟨by simp, hl, hm, fun hp => ?_⟩, fun zs hzs z hz => ?_⟩
    · have hs : x.spot = none := by
        have := World.cell?_spot (hx 0 (by omega)).1
        simpa [Addr.add] using this
      obtain ⟨b, off, spot⟩ := x
      simp at hs
      subst hs
      refine ⟨b, off, rfl, ?_, fun j hj => ?_⟩
      · have := cell_lt (hx 0 (by omega)).1
        simpa [Addr.add] using this
      · obtain ⟨q1, q2, q3, q4, q5, q6, q7⟩ := hx j (by omega)
        rw [add_plain] at q1
        refine ⟨A j, L j, C j, q1, ?_⟩
        have e : ((List.range len).map fun r => (Z r).take (L r))[j]?.getD [] = (Z j).take (L j) := by simp [hj]
        rw [e]
        exact row_open q2 q3 q4 q5 q6 (fun a' ha c hc => (q7 a' ha).2 c hc)
    · obtain ⟨r, hr, rfl⟩ := List.mem_map.1 hzs
      exact (hx r (by have := List.mem_range.1 hr; omega)).2.2.2.2.1 z (List.mem_of_mem_take hz)

end Go.Proofs.YtcolecidbalmhaaGreatDoor
namespace Go.Proofs.YtcolecidbalmhaaGreatDoor
open Go.Joins Go.ChangeShapes Go.WideShapes Go.RowKit Go.Deep
set_option maxRecDepth 100000

theorem disk_cells {H : Type} {enc : TypeId × Value → H} {w : World} {fuel : Nat} {cs : List Value} {x : DataW H × List MemPlace} (hl : cs.length = 2)
    (h : DataW.trod enc Tryz.prog w 0 (fun _ => true) true fuel 82 cs = some x) : ∃ (a : Option Addr) (n c : Nat) (zss : List (List Int)) (y : Int), cs = [.slice a n c, .int .i64 y] ∧ Grid w w.heap.size a n c zss ∧ ∀ zs ∈ zss, ∀ z ∈ zs, (Lit.int .u8 z).wf = true := by
  have q0 : Tryz.prog.cellsOf 25 = 1 := by kernel_rfl
  have q1 : Tryz.prog.cellsOf 2 = 1 := by kernel_rfl
  obtain ⟨xs, n, -, -, -, hlen, hx⟩ := DataW.trod_struct Tryz.underlying82 h
  match cs, hl, xs, hlen with
  | [c0, c1], _, [y0, y1], _ =>
    have h0 := hx 0 _ rfl
    have h1 := hx 1 _ rfl
    simp [q0, q1] at h0 h1
    obtain ⟨y, hy, -, -⟩ := DataW.trod_int Tryz.underlying2 h1
    simp only [List.cons.injEq, and_true] at hy
    subst hy
    have hs : ∃ a n c, c0 = .slice a n c := by
      rcases open_slice Tryz.underlying25 h0 with ⟨hcs, _⟩ | ⟨x, l, c, m, n, D, Pl, hcs, _⟩
      · simp only [List.cons.injEq, and_true] at hcs
        exact ⟨none, 0, 0, hcs⟩
      · simp only [List.cons.injEq, and_true] at hcs
        exact ⟨some x, l, c, hcs⟩
    obtain ⟨a, m, c, rfl⟩ := hs
    obtain ⟨zss, hG, hw⟩ := open_grid (d := y0.1) (p := y0.2) ⟨n, by simpa [Value.cells] using h0⟩
    exact ⟨a, m, c, zss, y, rfl, hG, hw⟩
end Go.Proofs.YtcolecidbalmhaaGreatDoor
namespace Go.Proofs.YtcolecidbalmhaaGreatDoor
open Go.Joins Go.ChangeShapes Go.WideShapes Go.RowKit Go.Deep

/-- Five cells that read as a pin. -/
theorem pin_cells {H : Type} {enc : TypeId × Value → H} {P : Program} {w : World} {base : Nat} {sp : Nat → Bool} {held : Bool} {fuel : Nat} {t : TypeId} {f0 f1 f2 f3 f4 : Field} {cs : List Value} {x : DataW H × List MemPlace}
    (hs : P.underlying t = some (.struct #[f0, f1, f2, f3, f4])) (e0 : P.underlying f0.type = some .string) (e1 : P.underlying f1.type = some (.int .i64)) (e2 : P.underlying f2.type = some (.int .i64)) (e3 : P.underlying f3.type = some (.int .i64)) (e4 : P.underlying f4.type = some (.int .i64))
    (ho : [f0.offset, f1.offset, f2.offset, f3.offset, f4.offset] = [0, 1, 2, 3, 4])
    (hc : [P.cellsOf f0.type, P.cellsOf f1.type, P.cellsOf f2.type, P.cellsOf f3.type, P.cellsOf f4.type] = [1, 1, 1, 1, 1]) (hl : cs.length = 5)
    (h : DataW.trod enc P w base sp held fuel t cs = some x) : ∃ p : PinD, cs = p.vals ∧ p.n.size ≤ maxLen := by
  simp only [List.cons.injEq, and_true] at ho hc
  obtain ⟨o0, o1, o2, o3, o4⟩ := ho
  obtain ⟨q0, q1, q2, q3, q4⟩ := hc
  obtain ⟨xs, n, -, -, -, hlen, hx⟩ := DataW.trod_struct hs h
  match cs, hl, xs, hlen with
  | [c0, c1, c2, c3, c4], _, [y0, y1, y2, y3, y4], _ =>
    have h0 := hx 0 f0 rfl
    have h1 := hx 1 f1 rfl
    have h2 := hx 2 f2 rfl
    have h3 := hx 3 f3 rfl
    have h4 := hx 4 f4 rfl
    simp [o0, o1, o2, o3, o4, q0, q1, q2, q3, q4] at h0 h1 h2 h3 h4
    obtain ⟨s, hx0, -, ws⟩ := DataW.trod_string e0 h0
    obtain ⟨x1, hx1, -, -⟩ := DataW.trod_int e1 h1
    obtain ⟨x2, hx2, -, -⟩ := DataW.trod_int e2 h2
    obtain ⟨x3, hx3, -, -⟩ := DataW.trod_int e3 h3
    obtain ⟨x4, hx4, -, -⟩ := DataW.trod_int e4 h4
    simp only [List.cons.injEq, and_true] at hx0 hx1 hx2 hx3 hx4
    subst hx0; subst hx1; subst hx2; subst hx3; subst hx4
    exact ⟨⟨s, x1, x2, x3, x4⟩, rfl, ws⟩
theorem open_pins {H : Type} {enc : TypeId × Value → H} {P : Program} {W : World} {t e : TypeId} {f0 f1 f2 f3 f4 : Field} {a : Option Addr} {len cap : Nat} {d : DataW H} {p : List MemPlace}
    (ht : P.underlying t = some (.slice e)) (hs : P.underlying e = some (.struct #[f0, f1, f2, f3, f4])) (e0 : P.underlying f0.type = some .string) (e1 : P.underlying f1.type = some (.int .i64)) (e2 : P.underlying f2.type = some (.int .i64)) (e3 : P.underlying f3.type = some (.int .i64)) (e4 : P.underlying f4.type = some (.int .i64))
    (ho : [f0.offset, f1.offset, f2.offset, f3.offset, f4.offset] = [0, 1, 2, 3, 4])
    (hc : [P.cellsOf f0.type, P.cellsOf f1.type, P.cellsOf f2.type, P.cellsOf f3.type, P.cellsOf f4.type] = [1, 1, 1, 1, 1]) (hC : P.cellsOf e = 5)
    (h : DataW.Trod enc P W 0 (fun _ => true) true t (.slice a len cap) d p) : ∃ ps, PRow W W.heap.size a len cap ps := by
  obtain ⟨fuel, hf⟩ := h
  rcases open_slice ht hf with ⟨hcs, _⟩ | ⟨x, l, c, m, n, D, Pl, hcs, _, hl, hm, hmm, _, hx⟩
  · simp [Value.cells] at hcs
    obtain ⟨rfl, rfl, rfl⟩ := hcs
    exact ⟨[], PRow.nil _ _⟩
  · simp [Value.cells] at hcs
    obtain ⟨rfl, rfl, rfl⟩ := hcs
    have hlm : len ≤ m := by rw [hmm]; split <;> omega
    rw [hC] at hx
    have each : ∀ i, i < len → ∃ q : PinD, q.n.size ≤ maxLen ∧ ∀ j v, q.vals[j]? = some v → W.cell? (x.add (i * 5 + j)) = some v := by
      intro i hi
      obtain ⟨cs', h1, h2⟩ := hx i (by omega)
      obtain ⟨_, hlen, hcell⟩ := World.cells?_some h1
      obtain ⟨q, rfl, hq⟩ := pin_cells hs e0 e1 e2 e3 e4 ho hc hlen h2
      refine ⟨q, hq, fun j v hj => ?_⟩
      have hj5 : j < 5 := by have := (List.getElem?_eq_some_iff.1 hj).1; simpa [PinD.vals_length] using this
      have := hcell j hj5
      rw [add_add] at this
      rw [this, hj]
    obtain ⟨q, hq⟩ := choose_lt each
    refine ⟨(List.range len).map q, by simp, hl, hm, fun y hy => ?_, fun hp => ?_⟩
    · obtain ⟨r, hr, rfl⟩ := List.mem_map.1 hy
      exact (hq r (List.mem_range.1 hr)).1
    · have hc0 := (hq 0 (by omega)).2 0 _ rfl
      have hs : x.spot = none := by
        have := World.cell?_spot hc0
        simpa [Addr.add] using this
      obtain ⟨b, off, spot⟩ := x
      simp at hs
      subst hs
      refine ⟨b, off, rfl, ?_, fun j hj i v hv => ?_⟩
      · have := cell_lt hc0
        simpa [Addr.add] using this
      · have e : ((List.range len).map q)[j]?.getD pin0 = q j := by simp [hj]
        rw [e] at hv
        have := (hq j hj).2 i v hv
        rw [Addr.add_lit] at this
        rw [Nat.add_assoc]
        exact this
end Go.Proofs.YtcolecidbalmhaaGreatDoor
namespace Go.Proofs.YtcolecidbalmhaaGreatDoor
open Go.Joins Go.ChangeShapes Go.WideShapes Go.RowKit Go.Deep
set_option maxRecDepth 100000

theorem open_store {H : Type} {enc : TypeId × Value → H} {w : World} {r : Reach} {b0 : Nat} {v : Value} {d : DataW H} {p : List MemPlace} (hv : Value.okWide Tryz.prog w r b0 84 v) (h : DataW.Trod enc Tryz.prog w 0 (fun _ => true) true 84 v d p) :
    ∃ (a1 : Option Addr) (n1 c1 : Nat) (a2 : Option Addr) (n2 c2 : Nat) (t : StoreD), v = .agg #[.slice a1 n1 c1, .slice a2 n2 c2, .int .i64 t.d.s] ∧ SRow w w.heap.size a1 n1 c1 a2 n2 c2 t := by
  have hC : Tryz.prog.cellsOf 84 = 3 := by kernel_rfl
  have q0 : Tryz.prog.cellsOf 81 = 1 := by kernel_rfl
  have q1 : Tryz.prog.cellsOf 82 = 2 := by kernel_rfl
  obtain ⟨cs, rfl, hsz⟩ := okWide_struct Tryz.underlying84 hv
  obtain ⟨fuel, hf⟩ := h
  obtain ⟨xs, n, -, -, -, hlen, hx⟩ := DataW.trod_struct Tryz.underlying84 hf
  have hl : cs.toList.length = 3 := by simpa using hsz.trans hC
  have key : ∃ (a1 : Option Addr) (n1 c1 : Nat) (a2 : Option Addr) (n2 c2 : Nat) (t : StoreD), cs.toList = [.slice a1 n1 c1, .slice a2 n2 c2, .int .i64 t.d.s] ∧ SRow w w.heap.size a1 n1 c1 a2 n2 c2 t := by
    simp only [Value.cells] at hx hlen
    generalize cs.toList = l at *
    match l, hl, xs, hlen with
    | [c0, c1, c2], _, [y0, y1], _ =>
      have h0 := hx 0 _ rfl
      have h1 := hx 1 _ rfl
      simp [q0, q1] at h0 h1
      obtain ⟨a2, n2, k2, zss, y, hq, hG, hw⟩ := disk_cells rfl h1
      simp only [List.cons.injEq, and_true] at hq
      obtain ⟨rfl, rfl⟩ := hq
      have hs : ∃ a n c, c0 = .slice a n c := by
        rcases open_slice Tryz.underlying81 h0 with ⟨hcs, _⟩ | ⟨x, l, c, m, n, D, Pl, hcs, _⟩
        · simp only [List.cons.injEq, and_true] at hcs
          exact ⟨none, 0, 0, hcs⟩
        · simp only [List.cons.injEq, and_true] at hcs
          exact ⟨some x, l, c, hcs⟩
      obtain ⟨a1, n1, k1, rfl⟩ := hs
      obtain ⟨ps, hP⟩ := open_pins (d := y0.1) (p := y0.2) (a := a1) (len := n1) (cap := k1) Tryz.underlying81 Tryz.underlying85 Tryz.underlying9 Tryz.underlying2 Tryz.underlying2 Tryz.underlying2 Tryz.underlying2 rfl (by kernel_rfl) (by kernel_rfl) ⟨n, by simpa [Value.cells] using h0⟩
      exact ⟨a1, n1, k1, a2, n2, k2, ⟨ps, ⟨zss, y⟩⟩, rfl, hP, hG, hw⟩
  obtain ⟨a1, n1, c1, a2, n2, c2, t, he, hS⟩ := key
  refine ⟨a1, n1, c1, a2, n2, c2, t, ?_, hS⟩
  have : cs = [Value.slice a1 n1 c1, .slice a2 n2 c2, .int .i64 t.d.s].toArray := by rw [← he]
  rw [this]
end Go.Proofs.YtcolecidbalmhaaGreatDoor
namespace Go.Proofs.YtcolecidbalmhaaGreatDoor
open Go.Joins Go.ChangeShapes Go.WideShapes Go.RowKit Go.Deep

/-- Eight cells that read as a rollover. -/
theorem roll_cells {H : Type} {enc : TypeId × Value → H} {P : Program} {w : World} {base : Nat} {sp : Nat → Bool} {held : Bool} {fuel : Nat} {t : TypeId} {k0 k1 k2 f0 f1 f2 f3 f4 g0 g1 : Field} {cs : List Value} {x : DataW H × List MemPlace}
    (hr : P.underlying t = some (.struct #[k0, k1, k2])) (u0 : P.underlying k0.type = some (.struct #[f0, f1, f2, f3, f4])) (u1 : P.underlying k1.type = some (.int .i64)) (u2 : P.underlying k2.type = some (.struct #[g0, g1]))
    (e0 : P.underlying f0.type = some .string) (e1 : P.underlying f1.type = some (.int .i64)) (e2 : P.underlying f2.type = some (.int .i64)) (e3 : P.underlying f3.type = some (.int .i64)) (e4 : P.underlying f4.type = some (.int .i64))
    (y0 : P.underlying g0.type = some (.int .i64)) (y1 : P.underlying g1.type = some (.int .i64))
    (ho : [f0.offset, f1.offset, f2.offset, f3.offset, f4.offset] = [0, 1, 2, 3, 4])
    (hc : [P.cellsOf f0.type, P.cellsOf f1.type, P.cellsOf f2.type, P.cellsOf f3.type, P.cellsOf f4.type] = [1, 1, 1, 1, 1])
    (ho2 : [k0.offset, k1.offset, k2.offset, g0.offset, g1.offset] = [0, 5, 6, 0, 1])
    (hc2 : [P.cellsOf k0.type, P.cellsOf k1.type, P.cellsOf k2.type, P.cellsOf g0.type, P.cellsOf g1.type] = [5, 1, 2, 1, 1]) (hl : cs.length = 8)
    (h : DataW.trod enc P w base sp held fuel t cs = some x) : ∃ p : RollD, cs = p.vals ∧ p.p.n.size ≤ maxLen := by
  simp only [List.cons.injEq, and_true] at ho2 hc2
  obtain ⟨o0, o1, o2, o3, o4⟩ := ho2
  obtain ⟨q0, q1, q2, q3, q4⟩ := hc2
  obtain ⟨xs, n, -, -, -, hlen, hx⟩ := DataW.trod_struct hr h
  match cs, hl, xs, hlen with
  | [c0, c1, c2, c3, c4, c5, c6, c7], _, [z0, z1, z2], _ =>
    have h0 := hx 0 k0 rfl
    have h1 := hx 1 k1 rfl
    have h2 := hx 2 k2 rfl
    simp [o0, o1, o2, q0, q1, q2] at h0 h1 h2
    obtain ⟨p, hp, wp⟩ := pin_cells u0 e0 e1 e2 e3 e4 ho hc rfl h0
    obtain ⟨b, hb, -, -⟩ := DataW.trod_int u1 h1
    obtain ⟨y5, y6, m, -, -, h5, h6⟩ := trod_struct2 u2 h2
    simp [o3, o4, q3, q4] at h5 h6
    obtain ⟨x3, hx3, -, -⟩ := DataW.trod_int y0 h5
    obtain ⟨x4, hx4, -, -⟩ := DataW.trod_int y1 h6
    simp only [PinD.vals, List.cons.injEq, and_true] at hp hb hx3 hx4
    obtain ⟨rfl, rfl, rfl, rfl, rfl⟩ := hp
    subst hb; subst hx3; subst hx4
    exact ⟨⟨p, b, x3, x4⟩, rfl, wp⟩
section
variable {H : Type} {enc : TypeId × Value → H} {P : Program} {t : TypeId} {k0 k1 k2 f0 f1 f2 f3 f4 g0 g1 : Field}
theorem open_roll {w : World} {r : Reach} {b0 : Nat} {v : Value} {d : DataW H} {p : List MemPlace}
    (hr : P.underlying t = some (.struct #[k0, k1, k2])) (u0 : P.underlying k0.type = some (.struct #[f0, f1, f2, f3, f4])) (u1 : P.underlying k1.type = some (.int .i64)) (u2 : P.underlying k2.type = some (.struct #[g0, g1]))
    (e0 : P.underlying f0.type = some .string) (e1 : P.underlying f1.type = some (.int .i64)) (e2 : P.underlying f2.type = some (.int .i64)) (e3 : P.underlying f3.type = some (.int .i64)) (e4 : P.underlying f4.type = some (.int .i64))
    (y0 : P.underlying g0.type = some (.int .i64)) (y1 : P.underlying g1.type = some (.int .i64))
    (ho : [f0.offset, f1.offset, f2.offset, f3.offset, f4.offset] = [0, 1, 2, 3, 4])
    (hc : [P.cellsOf f0.type, P.cellsOf f1.type, P.cellsOf f2.type, P.cellsOf f3.type, P.cellsOf f4.type] = [1, 1, 1, 1, 1])
    (ho2 : [k0.offset, k1.offset, k2.offset, g0.offset, g1.offset] = [0, 5, 6, 0, 1])
    (hc2 : [P.cellsOf k0.type, P.cellsOf k1.type, P.cellsOf k2.type, P.cellsOf g0.type, P.cellsOf g1.type] = [5, 1, 2, 1, 1]) (hC : P.cellsOf t = 8)
    (hv : Value.okWide P w r b0 t v) (h : DataW.Trod enc P w 0 (fun _ => true) true t v d p) : ∃ q : RollD, v = R8 q ∧ q.p.n.size ≤ maxLen := by
  obtain ⟨cs, rfl, hsz⟩ := okWide_struct hr hv
  obtain ⟨fuel, hf⟩ := h
  obtain ⟨q, hq, hn⟩ := roll_cells hr u0 u1 u2 e0 e1 e2 e3 e4 y0 y1 ho hc ho2 hc2 (cs := cs.toList) (by simpa using hsz.trans hC) hf
  refine ⟨q, ?_, hn⟩
  have : cs = q.vals.toArray := by rw [← hq]
  rw [this]
  rfl
end
end Go.Proofs.YtcolecidbalmhaaGreatDoor
namespace Go.Proofs.YtcolecidbalmhaaGreatDoor.Facts
set_option maxRecDepth 100000

theorem laidOut : laidOutB Tryz.prog = true := by kernel_rfl
theorem mapsRowed : mapsRowed Tryz.prog = true := by kernel_rfl
theorem stopsHeard : Tryz.prog.stopsHeard = true := by kernel_rfl
theorem mayEnter : Tryz.prog.mayEnter = true := by kernel_rfl
theorem plainKeys : (false == Tryz.prog.plainKeys) = true := by kernel_rfl
theorem liftsFinal : (false == Tryz.prog.liftsFinal) = true := by kernel_rfl
theorem make : (Tryz.prog.make == some Make.cut) = true := by kernel_rfl

theorem joined_of {P : Program} {f : FuncId} {fn : Func} {s : ChangeSpec} {c : OpenClaim}
    (g2 : laidOutB P = true) (g3 : Go.mapsRowed P = true) (g4 : P.stopsHeard = true) (g5 : P.mayEnter = true)
    (h1 : c.wf (OpenSpec.ofChange s) = true) (h4 : fn.params.all (P.readableRec ·) = true) (h5 : namedTie P c.named s.vars = true)
    (h6 : (c.stops == []) = true) (h7 : (P.stops == []) = true) (h8 : (c.knobs == []) = true) (h9 : (P.stopKnobs == []) = true)
    (h10 : c.inPlace = P.inPlace f) (h11 : c.unfollowed = P.unfollowed f) (h12 : c.recurses = P.recurses f) (h13 : c.named = P.varsNamed f)
    (h14 : (c.maps == (fn.params.toList ++ s.plain.varTypes P).any (P.mapsRec ·)) = true) (h15 : (c.ifaces == (fn.params.toList ++ s.plain.varTypes P).any (P.ifacesRec ·)) = true) (h16 : (c.mapsOut == P.mapsAmong fn.resultTypes.toList) = true)
    (h17 : (c.loops == (fn.params.toList ++ s.plain.varTypes P).any (P.loopsFrom ·)) = true) (h18 : (c.wideKeys == (fn.params.toList ++ s.plain.varTypes P ++ fn.resultTypes.toList).any (P.wideKeysFrom ·)) = true)
    (h19 : s.vars.all (P.varReadable ·) = true) (h20 : fn.resultTypes.all (fun t => P.readableRec t && decide (t < P.types.size)) = true) (h21 : (c.ifacesOut == fn.resultTypes.toList.any (P.ifacesRec ·)) = true) (h22 : (c.loopsOut == fn.resultTypes.toList.any (P.loopsFrom ·)) = true)
    (h23 : (c.plainKeys == P.plainKeys) = true) (h24 : c.shortTexts.isNone = true) (h25 : (c.lifted == P.liftsFinal) = true) (h26 : (P.make == some c.make) = true)
    (h27 : (c.kinds == (if c.domain.isEmpty then [] else fn.params.toList.map fun t => match P.underlying t with | some (.int k) => some k | _ => none)) = true) (h28 : (c.pinned == c.pinnedBy) = true)
    (h29 : (c.veiled == (fn.params.toList ++ s.plain.varTypes P ++ fn.resultTypes.toList).any (P.veiledRec ·)) = true) (h30 : c.veiledFits P fn.params.toList (fn.params.toList ++ s.plain.varTypes P ++ fn.resultTypes.toList) = true) :
    joinedFacts P f fn s c = true := by
  have g10 : (c.inPlace == P.inPlace f) = true := by rw [h10]; simp
  have g11 : (c.unfollowed == P.unfollowed f) = true := by rw [h11]; simp
  have g12 : (c.recurses == P.recurses f) = true := by rw [h12]; simp
  have g13 : (c.named == P.varsNamed f) = true := by rw [h13]; simp
  unfold joinedFacts
  simp only [Bool.and_eq_true]
  exact ⟨⟨⟨⟨⟨⟨⟨⟨⟨⟨⟨⟨⟨⟨⟨⟨⟨⟨⟨⟨⟨⟨⟨⟨⟨⟨⟨⟨⟨⟨⟨h1, g2⟩, g3⟩, h4⟩, h5⟩, h6⟩, h7⟩, h8⟩, h9⟩, g10⟩, g11⟩, g12⟩, g13⟩, h14⟩, h15⟩, h16⟩, h17⟩, h18⟩, h19⟩, h20⟩, h21⟩, h22⟩, h23⟩, h24⟩, g4⟩, g5⟩, h25⟩, h26⟩, h27⟩, h28⟩, h29⟩, h30⟩
end Go.Proofs.YtcolecidbalmhaaGreatDoor.Facts
