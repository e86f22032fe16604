/- Texts of this seat that several laws rest on, laid into one. Conditions: as each theorem states. -/
import Derived.Test.YtlodhleihnlchaaGreatDoorX9
import Derived.Test.YtlodhleihnlchaaGreatDoorX13
import Derived.Test.YtlodhleihnlchaaGreatDoorX14
namespace Go.Proofs.YtlodhleihnlchaaGreatDoor
open Go.RowKit
set_option maxRecDepth 100000
set_option linter.unusedVariables false

theorem rollSt_no {s : StoreD} {r : RollD} {t : Int} (h : rollC s r t ≠ 0) : rollSt s r t = store0 := by unfold rollSt; rw [if_neg h]
theorem beginRo (a1 : Option Addr) (n1 c1 : Nat) (a2 : Option Addr) (n2 c2 : Nat) (s : StoreD) (r : RollD) (w : World) :
    Below w.heap.size w (((w.alloc (.cells #[.slice a1 n1 c1, .slice a2 n2 c2, .int .i64 s.d.s] 57)).alloc (.cells #[.string r.p.n, .int .i64 r.p.a, .int .i64 r.p.b, .int .i64 r.p.e, .int .i64 r.p.u, .int .i64 r.b, .int .i64 r.x, .int .i64 r.y] 66)).alloc (.cells #[.int .i64 0, .slice none 0 0, .slice none 0 0, .int .i64 0] 63)) ∧
    At w.heap.size (S3L a1 n1 c1 a2 n2 c2 s.d.s) (((w.alloc (.cells #[.slice a1 n1 c1, .slice a2 n2 c2, .int .i64 s.d.s] 57)).alloc (.cells #[.string r.p.n, .int .i64 r.p.a, .int .i64 r.p.b, .int .i64 r.p.e, .int .i64 r.p.u, .int .i64 r.b, .int .i64 r.x, .int .i64 r.y] 66)).alloc (.cells #[.int .i64 0, .slice none 0 0, .slice none 0 0, .int .i64 0] 63)) ∧
    At (w.heap.size + 1) r.vals (((w.alloc (.cells #[.slice a1 n1 c1, .slice a2 n2 c2, .int .i64 s.d.s] 57)).alloc (.cells #[.string r.p.n, .int .i64 r.p.a, .int .i64 r.p.b, .int .i64 r.p.e, .int .i64 r.p.u, .int .i64 r.b, .int .i64 r.x, .int .i64 r.y] 66)).alloc (.cells #[.int .i64 0, .slice none 0 0, .slice none 0 0, .int .i64 0] 63)) ∧
    At (w.heap.size + 1 + 1) zero9 (((w.alloc (.cells #[.slice a1 n1 c1, .slice a2 n2 c2, .int .i64 s.d.s] 57)).alloc (.cells #[.string r.p.n, .int .i64 r.p.a, .int .i64 r.p.b, .int .i64 r.p.e, .int .i64 r.p.u, .int .i64 r.b, .int .i64 r.x, .int .i64 r.y] 66)).alloc (.cells #[.int .i64 0, .slice none 0 0, .slice none 0 0, .int .i64 0] 63)) := by
  have b0 := bal (bal (bal (Below.refl _ w) (.cells #[.slice a1 n1 c1, .slice a2 n2 c2, .int .i64 s.d.s] 57)) (.cells #[.string r.p.n, .int .i64 r.p.a, .int .i64 r.p.b, .int .i64 r.p.e, .int .i64 r.p.u, .int .i64 r.b, .int .i64 r.x, .int .i64 r.y] 66)) (.cells #[.int .i64 0, .slice none 0 0, .slice none 0 0, .int .i64 0] 63)
  have A0 := ((At.new w (S3L a1 n1 c1 a2 n2 c2 s.d.s) 57).alloc (.cells #[.string r.p.n, .int .i64 r.p.a, .int .i64 r.p.b, .int .i64 r.p.e, .int .i64 r.p.u, .int .i64 r.b, .int .i64 r.x, .int .i64 r.y] 66)).alloc (.cells #[.int .i64 0, .slice none 0 0, .slice none 0 0, .int .i64 0] 63)
  have P0 := (At.new (w.alloc (.cells #[.slice a1 n1 c1, .slice a2 n2 c2, .int .i64 s.d.s] 57)) r.vals 66).alloc (.cells #[.int .i64 0, .slice none 0 0, .slice none 0 0, .int .i64 0] 63)
  have R0 := At.new ((w.alloc (.cells #[.slice a1 n1 c1, .slice a2 n2 c2, .int .i64 s.d.s] 57)).alloc (.cells #[.string r.p.n, .int .i64 r.p.a, .int .i64 r.p.b, .int .i64 r.p.e, .int .i64 r.p.u, .int .i64 r.b, .int .i64 r.x, .int .i64 r.y] 66)) zero9 63
  rw [World.size_alloc] at P0
  rw [World.size_alloc, World.size_alloc] at R0
  exact ⟨b0, A0, P0, R0⟩
set_option maxHeartbeats 2000000 in
theorem implRollStore_any (a1 : Option Addr) (n1 c1 : Nat) (a2 : Option Addr) (n2 c2 B : Nat) (s : StoreD) (r : RollD) (t : Int) (w : World) (lab : Labels w) (ert : ErrT w) (hR : SRow w B a1 n1 c1 a2 n2 c2 s) (hB : B ≤ w.heap.size) (hpn : r.p.n.size ≤ maxLen) :
    Calls Tryz.prog 34 #[S3 a1 n1 c1 a2 n2 c2 s.d.s, R8 r, .int .i64 t] w (StoreRes (rollC s r t) (rollSt s r t) w) := by
  obtain ⟨b0, A0, P0, R0⟩ := beginRo a1 n1 c1 a2 n2 c2 s r w
  have HR0 := Lib.hid R0
  have HA0 := Lib.hid A0
  have HP0 := Lib.hid P0
  have HB0 := Lib.hid b0
  have HR := Lib.hid (fun (w' : World) (h : Below w.heap.size w w') => hR.below (h.mono hB))
  have F0 := implStoreFault_any a1 n1 c1 a2 n2 c2 B s _ (hR.below (b0.mono hB)) (Nat.le_trans hB b0.size)
  clear A0 P0 R0 b0 hR
  by_cases h0 : storeF s = 0
  case neg =>
    have ec := rollC_bad (r := r) (t := t) h0
    rw [rollSt_no (by rw [ec]; exact h0), ec]
    generalize storeF s = cd at *
    have q9 : (cd != 0) = true := by simpa using h0
    have q8 : decide (cd = 0) = false := by simpa using h0
    clear HR ec
    have d0 := HA0.out.cell 0 _ rfl
    have d1 := HA0.out.cell 1 _ rfl
    have d2 := HA0.out.cell 2 _ rfl
    go_enter Tryz.func34, Tryz.ntmps34
    go_wp2_with fail
    generalize ((w.alloc (.cells #[.slice a1 n1 c1, .slice a2 n2 c2, .int .i64 s.d.s] 57)).alloc (.cells #[.string r.p.n, .int .i64 r.p.a, .int .i64 r.p.b, .int .i64 r.p.e, .int .i64 r.p.u, .int .i64 r.b, .int .i64 r.x, .int .i64 r.y] 66)).alloc (.cells #[.int .i64 0, .slice none 0 0, .slice none 0 0, .int .i64 0] 63) = W0 at *
    refine F0.mono ?_
    rintro e1 u1 ⟨rfl, b1⟩
    have B1 := Lib.hid (btr HB0.out b1)
    have R1 := Lib.hid (HR0.out.on b1)
    have A1 := Lib.hid (HA0.out.on b1)
    have P1 := Lib.hid (HP0.out.on b1)
    clear d0 d1 d2 b1 F0 HB0 HR0 HA0 HP0
    have R9 := (R1.out)
    have B9 := B1.out
    unfold zero9 at R9
    have q0 := R9.cell 0 _ rfl
    have q1 := R9.cell 1 _ rfl
    have q2 := R9.cell 2 _ rfl
    have q3 := R9.cell 3 _ rfl
    have f0 := R9.free 0 _ rfl
    have f1 := R9.free 1 _ rfl
    have f2 := R9.free 2 _ rfl
    have f3 := R9.free 3 _ rfl
    clear R9
    go_wp2_with fail
    refine bodyPost_ret (v := V4 cd none 0 0 none 0 0 0) (by simp [results, Tryz.results34, go_sem, V4, q0, q1, q2, q3]) rfl ⟨none, 0, 0, none, 0, 0, rfl, SOwn.nil _ _ ?_, ?_⟩
    · exact Nat.le_trans B9.size (by simp [World.setCell])
    · exact (by (iterate 4 (refine bset ?_ (by dsimp only; omega) _)); exact B9)
  rw [h0] at F0
  have ap := fun (w' : World) (h : Below w.heap.size w w') => implApplyRoll_any a1 n1 c1 B s.ps r t w' (lab.on h) (ert.on h) (HR.out w' h).ps (Nat.le_trans hB h.size) hpn
  unfold PinsRes at ap
  by_cases ha : applyC s.ps r t = 0
  case neg =>
    have ec := rollC_app h0 ha
    rw [rollSt_no (by rw [ec]; exact ha), ec]
    have AP := Lib.hid ap
    clear ap HR ec h0
    generalize applyL s.ps r t = qs at *
    generalize applyC s.ps r t = cd at *
    have q9 : (cd != 0) = true := by simpa using ha
    have q8 : decide (cd = 0) = false := by simpa using ha
    have d0 := HA0.out.cell 0 _ rfl
    have d1 := HA0.out.cell 1 _ rfl
    have d2 := HA0.out.cell 2 _ rfl
    go_enter Tryz.func34, Tryz.ntmps34
    go_wp2_with fail
    generalize ((w.alloc (.cells #[.slice a1 n1 c1, .slice a2 n2 c2, .int .i64 s.d.s] 57)).alloc (.cells #[.string r.p.n, .int .i64 r.p.a, .int .i64 r.p.b, .int .i64 r.p.e, .int .i64 r.p.u, .int .i64 r.b, .int .i64 r.x, .int .i64 r.y] 66)).alloc (.cells #[.int .i64 0, .slice none 0 0, .slice none 0 0, .int .i64 0] 63) = W0 at *
    refine F0.mono ?_
    rintro e1 u1 ⟨rfl, b1⟩
    have B1 := Lib.hid (btr HB0.out b1)
    have R1 := Lib.hid (HR0.out.on b1)
    have A1 := Lib.hid (HA0.out.on b1)
    have P1 := Lib.hid (HP0.out.on b1)
    clear d0 d1 d2 b1 F0 HB0 HR0 HA0 HP0
    have d0 := A1.out.cell 0 _ rfl
    have d1 := A1.out.cell 1 _ rfl
    have d2 := A1.out.cell 2 _ rfl
    have p0 := P1.out.cell 0 _ rfl
    have p1 := P1.out.cell 1 _ rfl
    have p2 := P1.out.cell 2 _ rfl
    have p3 := P1.out.cell 3 _ rfl
    have p4 := P1.out.cell 4 _ rfl
    have p5 := P1.out.cell 5 _ rfl
    have p6 := P1.out.cell 6 _ rfl
    have p7 := P1.out.cell 7 _ rfl
    go_wp2_with fail
    refine (AP.out _ B1.out).mono ?_
    rintro e2 u4 ⟨a4, n4, c4, rfl, O4, b4⟩
    have b45 := btr b4 (bal (Below.refl _ u4) (.cells #[.int .i64 cd, .slice a4 n4 c4] 192))
    have T5 := Lib.hid (show At u4.heap.size [.int .i64 cd, .slice a4 n4 c4] (u4.alloc (.cells #[.int .i64 cd, .slice a4 n4 c4] 192)) from At.new u4 [.int .i64 cd, .slice a4 n4 c4] 192)
    have R5 := Lib.hid (R1.out.on b45)
    have A5 := Lib.hid (A1.out.on b45)
    have P5' := Lib.hid (P1.out.on b45)
    have B5 := Lib.hid (btr B1.out b45)
    clear d0 d1 d2 p0 p1 p2 p3 p4 p5 p6 p7 b4 b45 O4 R1 A1 P1 B1
    go_upto_region 5 with fail
    generalize u4.alloc (.cells #[.int .i64 cd, .slice a4 n4 c4] 192) = W5 at *
    have t0 := T5.out.cell 0 _ rfl
    have t1 := T5.out.cell 1 _ rfl
    have R9 := (R5.out)
    have B9 := B5.out
    unfold zero9 at R9
    have q0 := R9.cell 0 _ rfl
    have q1 := R9.cell 1 _ rfl
    have q2 := R9.cell 2 _ rfl
    have q3 := R9.cell 3 _ rfl
    have f0 := R9.free 0 _ rfl
    have f1 := R9.free 1 _ rfl
    have f2 := R9.free 2 _ rfl
    have f3 := R9.free 3 _ rfl
    clear R9
    go_wp2_with fail
    refine bodyPost_ret (v := V4 cd none 0 0 none 0 0 0) (by simp [results, Tryz.results34, go_sem, V4, q0, q1, q2, q3]) rfl ⟨none, 0, 0, none, 0, 0, rfl, SOwn.nil _ _ ?_, ?_⟩
    · exact Nat.le_trans B9.size (by simp [World.setCell])
    · exact (by (iterate 4 (refine bset ?_ (by dsimp only; omega) _)); exact B9)
  rw [ha] at ap
  have AP := Lib.hid ap
  obtain ⟨ec, es⟩ := rollC_note h0 ha
  rw [ec, es]
  have NP := Lib.hid (fun (w' : World) (h : Below w.heap.size w w') => implNotePin_any a1 n1 c1 a2 n2 c2 B s r.p w' (HR.out w' h) (Nat.le_trans hB h.size) hpn)
  unfold StoreRes at NP
  clear ap HR ec es h0 ha
  generalize applyL s.ps r t = qs at *
  generalize noteC s r.p = C at *
  generalize noteS s r.p = S at *
  have d0 := HA0.out.cell 0 _ rfl
  have d1 := HA0.out.cell 1 _ rfl
  have d2 := HA0.out.cell 2 _ rfl
  go_enter Tryz.func34, Tryz.ntmps34
  go_wp2_with fail
  generalize ((w.alloc (.cells #[.slice a1 n1 c1, .slice a2 n2 c2, .int .i64 s.d.s] 57)).alloc (.cells #[.string r.p.n, .int .i64 r.p.a, .int .i64 r.p.b, .int .i64 r.p.e, .int .i64 r.p.u, .int .i64 r.b, .int .i64 r.x, .int .i64 r.y] 66)).alloc (.cells #[.int .i64 0, .slice none 0 0, .slice none 0 0, .int .i64 0] 63) = W0 at *
  refine F0.mono ?_
  rintro e1 u1 ⟨rfl, b1⟩
  have B1 := Lib.hid (btr HB0.out b1)
  have R1 := Lib.hid (HR0.out.on b1)
  have A1 := Lib.hid (HA0.out.on b1)
  have P1 := Lib.hid (HP0.out.on b1)
  clear d0 d1 d2 b1 F0 HB0 HR0 HA0 HP0
  have d0 := A1.out.cell 0 _ rfl
  have d1 := A1.out.cell 1 _ rfl
  have d2 := A1.out.cell 2 _ rfl
  have p0 := P1.out.cell 0 _ rfl
  have p1 := P1.out.cell 1 _ rfl
  have p2 := P1.out.cell 2 _ rfl
  have p3 := P1.out.cell 3 _ rfl
  have p4 := P1.out.cell 4 _ rfl
  have p5 := P1.out.cell 5 _ rfl
  have p6 := P1.out.cell 6 _ rfl
  have p7 := P1.out.cell 7 _ rfl
  go_wp2_with fail
  refine (AP.out _ B1.out).mono ?_
  rintro e2 u4 ⟨a4, n4, c4, rfl, O4, b4⟩
  have b45 := btr b4 (bal (Below.refl _ u4) (.cells #[.int .i64 0, .slice a4 n4 c4] 192))
  have T5 := Lib.hid (show At u4.heap.size [.int .i64 0, .slice a4 n4 c4] (u4.alloc (.cells #[.int .i64 0, .slice a4 n4 c4] 192)) from At.new u4 [.int .i64 0, .slice a4 n4 c4] 192)
  have R5 := Lib.hid (R1.out.on b45)
  have A5 := Lib.hid (A1.out.on b45)
  have P5' := Lib.hid (P1.out.on b45)
  have B5 := Lib.hid (btr B1.out b45)
  clear d0 d1 d2 p0 p1 p2 p3 p4 p5 p6 p7 b4 b45 O4 R1 A1 P1 B1
  go_upto_region 5 with fail
  generalize u4.alloc (.cells #[.int .i64 0, .slice a4 n4 c4] 192) = W5 at *
  have t0 := T5.out.cell 0 _ rfl
  have t1 := T5.out.cell 1 _ rfl
  have d0 := A5.out.cell 0 _ rfl
  have d1 := A5.out.cell 1 _ rfl
  have d2 := A5.out.cell 2 _ rfl
  have p0 := P5'.out.cell 0 _ rfl
  have p1 := P5'.out.cell 1 _ rfl
  have p2 := P5'.out.cell 2 _ rfl
  have p3 := P5'.out.cell 3 _ rfl
  have p4 := P5'.out.cell 4 _ rfl
  have p5 := P5'.out.cell 5 _ rfl
  have p6 := P5'.out.cell 6 _ rfl
  have p7 := P5'.out.cell 7 _ rfl
  go_wp2_with fail
  refine (NP.out _ B5.out).mono ?_
  rintro e3 u9 ⟨a3, n3, c3, a6, n6, c6, rfl, SO9, b9⟩
  have R9 := R5.out.on b9
  have B9 := btr B5.out b9
  have HS9 := Lib.hid (SO9.res (w := w) (r := w.heap.size + 1 + 1) (R5.out.lt (by decide)) B5.out.size (.int .i64 C) (.slice a3 n3 c3) (.slice a6 n6 c6) (.int .i64 S.d.s))
  unfold zero9 at R9
  clear t0 t1 d0 d1 d2 p0 p1 p2 p3 p4 p5 p6 p7
  have q0 := R9.cell 0 _ rfl
  have q1 := R9.cell 1 _ rfl
  have q2 := R9.cell 2 _ rfl
  have q3 := R9.cell 3 _ rfl
  have f0 := R9.free 0 _ rfl
  have f1 := R9.free 1 _ rfl
  have f2 := R9.free 2 _ rfl
  have f3 := R9.free 3 _ rfl
  clear R9 b9 SO9
  go_wp2_with fail
  refine bodyPost_ret (v := V4 C a3 n3 c3 a6 n6 c6 S.d.s) (by simp [results, Tryz.results34, go_sem, V4, q0, q1, q2, q3]) rfl ⟨a3, n3, c3, a6, n6, c6, rfl, HS9.out, ?_⟩
  exact (by (iterate 4 (refine bset ?_ (by dsimp only; omega) _)); exact B9)
set_option maxHeartbeats 2000000 in
theorem specRollStore_any (a1 : Option Addr) (n1 c1 : Nat) (a2 : Option Addr) (n2 c2 B : Nat) (s : StoreD) (r : RollD) (t : Int) (w : World) (hR : SRow w B a1 n1 c1 a2 n2 c2 s) (hB : B ≤ w.heap.size) (hpn : r.p.n.size ≤ maxLen) :
    Calls Tryz.prog 37 #[S3 a1 n1 c1 a2 n2 c2 s.d.s, R8 r, .int .i64 t] w (StoreRes (rollC s r t) (rollSt s r t) w) := by
  obtain ⟨b0, A0, P0, R0⟩ := beginRo a1 n1 c1 a2 n2 c2 s r w
  have HR0 := Lib.hid R0
  have HA0 := Lib.hid A0
  have HP0 := Lib.hid P0
  have HB0 := Lib.hid b0
  have HR := Lib.hid (fun (w' : World) (h : Below w.heap.size w w') => hR.below (h.mono hB))
  have F0 := l9Fault_any w.heap.size a1 n1 c1 a2 n2 c2 B s _ ⟨A0, hR.below (b0.mono hB)⟩ (Nat.le_trans hB b0.size)
  clear A0 P0 R0 b0 hR
  by_cases h0 : storeF s = 0
  case neg =>
    have ec := rollC_bad (r := r) (t := t) h0
    rw [rollSt_no (by rw [ec]; exact h0), ec]
    generalize storeF s = cd at *
    have q9 : (cd != 0) = true := by simpa using h0
    have q8 : decide (cd = 0) = false := by simpa using h0
    clear HR ec
    have d0 := HA0.out.cell 0 _ rfl
    have d1 := HA0.out.cell 1 _ rfl
    have d2 := HA0.out.cell 2 _ rfl
    go_enter Tryz.func37, Tryz.ntmps37
    go_wp2_with fail
    generalize ((w.alloc (.cells #[.slice a1 n1 c1, .slice a2 n2 c2, .int .i64 s.d.s] 57)).alloc (.cells #[.string r.p.n, .int .i64 r.p.a, .int .i64 r.p.b, .int .i64 r.p.e, .int .i64 r.p.u, .int .i64 r.b, .int .i64 r.x, .int .i64 r.y] 66)).alloc (.cells #[.int .i64 0, .slice none 0 0, .slice none 0 0, .int .i64 0] 63) = W0 at *
    refine F0.mono ?_
    rintro e1 u1 ⟨rfl, b1⟩
    have B1 := Lib.hid (btr HB0.out b1)
    have R1 := Lib.hid (HR0.out.on b1)
    have A1 := Lib.hid (HA0.out.on b1)
    have P1 := Lib.hid (HP0.out.on b1)
    clear d0 d1 d2 b1 F0 HB0 HR0 HA0 HP0
    go_wp2_with fail
    refine (l9Bad_any cd _).mono ?_
    rintro r u9 ⟨rfl, b9⟩
    have R9 := (R1.out).on b9
    have B9 := btr B1.out b9
    unfold zero9 at R9
    have q0 := R9.cell 0 _ rfl
    have q1 := R9.cell 1 _ rfl
    have q2 := R9.cell 2 _ rfl
    have q3 := R9.cell 3 _ rfl
    have f0 := R9.free 0 _ rfl
    have f1 := R9.free 1 _ rfl
    have f2 := R9.free 2 _ rfl
    have f3 := R9.free 3 _ rfl
    clear b9 R9
    go_wp2_with fail
    refine bodyPost_ret (v := V4 cd none 0 0 none 0 0 0) (by simp [results, Tryz.results37, go_sem, V4, q0, q1, q2, q3]) rfl ⟨none, 0, 0, none, 0, 0, rfl, SOwn.nil _ _ ?_, ?_⟩
    · exact Nat.le_trans B9.size (by simp [World.setCell])
    · exact (by (iterate 4 (refine bset ?_ (by dsimp only; omega) _)); exact B9)
  rw [h0] at F0
  have ap := fun (w' : World) (h : Below w.heap.size w w') => specApplyRoll_any a1 n1 c1 B s.ps r t w' (HR.out w' h).ps (Nat.le_trans hB h.size) hpn
  unfold PinsRes at ap
  by_cases ha : applyC s.ps r t = 0
  case neg =>
    have ec := rollC_app h0 ha
    rw [rollSt_no (by rw [ec]; exact ha), ec]
    have AP := Lib.hid ap
    clear ap HR ec h0
    generalize applyL s.ps r t = qs at *
    generalize applyC s.ps r t = cd at *
    have q9 : (cd != 0) = true := by simpa using ha
    have q8 : decide (cd = 0) = false := by simpa using ha
    have d0 := HA0.out.cell 0 _ rfl
    have d1 := HA0.out.cell 1 _ rfl
    have d2 := HA0.out.cell 2 _ rfl
    go_enter Tryz.func37, Tryz.ntmps37
    go_wp2_with fail
    generalize ((w.alloc (.cells #[.slice a1 n1 c1, .slice a2 n2 c2, .int .i64 s.d.s] 57)).alloc (.cells #[.string r.p.n, .int .i64 r.p.a, .int .i64 r.p.b, .int .i64 r.p.e, .int .i64 r.p.u, .int .i64 r.b, .int .i64 r.x, .int .i64 r.y] 66)).alloc (.cells #[.int .i64 0, .slice none 0 0, .slice none 0 0, .int .i64 0] 63) = W0 at *
    refine F0.mono ?_
    rintro e1 u1 ⟨rfl, b1⟩
    have B1 := Lib.hid (btr HB0.out b1)
    have R1 := Lib.hid (HR0.out.on b1)
    have A1 := Lib.hid (HA0.out.on b1)
    have P1 := Lib.hid (HP0.out.on b1)
    clear d0 d1 d2 b1 F0 HB0 HR0 HA0 HP0
    have d0 := A1.out.cell 0 _ rfl
    have d1 := A1.out.cell 1 _ rfl
    have d2 := A1.out.cell 2 _ rfl
    have p0 := P1.out.cell 0 _ rfl
    have p1 := P1.out.cell 1 _ rfl
    have p2 := P1.out.cell 2 _ rfl
    have p3 := P1.out.cell 3 _ rfl
    have p4 := P1.out.cell 4 _ rfl
    have p5 := P1.out.cell 5 _ rfl
    have p6 := P1.out.cell 6 _ rfl
    have p7 := P1.out.cell 7 _ rfl
    go_wp2_with fail
    refine (AP.out _ B1.out).mono ?_
    rintro e2 u4 ⟨a4, n4, c4, rfl, O4, b4⟩
    have b45 := btr b4 (bal (Below.refl _ u4) (.cells #[.int .i64 cd, .slice a4 n4 c4] 192))
    have T5 := Lib.hid (show At u4.heap.size [.int .i64 cd, .slice a4 n4 c4] (u4.alloc (.cells #[.int .i64 cd, .slice a4 n4 c4] 192)) from At.new u4 [.int .i64 cd, .slice a4 n4 c4] 192)
    have R5 := Lib.hid (R1.out.on b45)
    have A5 := Lib.hid (A1.out.on b45)
    have P5' := Lib.hid (P1.out.on b45)
    have B5 := Lib.hid (btr B1.out b45)
    clear d0 d1 d2 p0 p1 p2 p3 p4 p5 p6 p7 b4 b45 O4 R1 A1 P1 B1
    go_upto_region 5 with fail
    generalize u4.alloc (.cells #[.int .i64 cd, .slice a4 n4 c4] 192) = W5 at *
    have t0 := T5.out.cell 0 _ rfl
    have t1 := T5.out.cell 1 _ rfl
    go_wp2_with fail
    refine (l9Bad_any cd _).mono ?_
    rintro r u9 ⟨rfl, b9⟩
    have R9 := (R5.out).on b9
    have B9 := btr B5.out b9
    unfold zero9 at R9
    have q0 := R9.cell 0 _ rfl
    have q1 := R9.cell 1 _ rfl
    have q2 := R9.cell 2 _ rfl
    have q3 := R9.cell 3 _ rfl
    have f0 := R9.free 0 _ rfl
    have f1 := R9.free 1 _ rfl
    have f2 := R9.free 2 _ rfl
    have f3 := R9.free 3 _ rfl
    clear b9 R9
    go_wp2_with fail
    refine bodyPost_ret (v := V4 cd none 0 0 none 0 0 0) (by simp [results, Tryz.results37, go_sem, V4, q0, q1, q2, q3]) rfl ⟨none, 0, 0, none, 0, 0, rfl, SOwn.nil _ _ ?_, ?_⟩
    · exact Nat.le_trans B9.size (by simp [World.setCell])
    · exact (by (iterate 4 (refine bset ?_ (by dsimp only; omega) _)); exact B9)
  rw [ha] at ap
  have AP := Lib.hid ap
  obtain ⟨ec, es⟩ := rollC_note h0 ha
  rw [ec, es]
  have hpf : r.p.f = 0 := (put_ok (applyC_zero ha).2.2.choose_spec.2.2.1).fp
  have NP := Lib.hid (fun (w' : World) (hb : Below w.heap.size w w') (A : At w.heap.size (S3L a1 n1 c1 a2 n2 c2 s.d.s) w') => l9Note_any w.heap.size a1 n1 c1 a2 n2 c2 B s r.p w' ⟨A, HR.out w' hb⟩ (Nat.le_trans hB hb.size) h0 hpf)
  unfold StoreRes at NP
  clear ap HR ec es h0 ha
  generalize applyL s.ps r t = qs at *
  generalize noteC s r.p = C at *
  generalize noteS s r.p = S at *
  have d0 := HA0.out.cell 0 _ rfl
  have d1 := HA0.out.cell 1 _ rfl
  have d2 := HA0.out.cell 2 _ rfl
  go_enter Tryz.func37, Tryz.ntmps37
  go_wp2_with fail
  generalize ((w.alloc (.cells #[.slice a1 n1 c1, .slice a2 n2 c2, .int .i64 s.d.s] 57)).alloc (.cells #[.string r.p.n, .int .i64 r.p.a, .int .i64 r.p.b, .int .i64 r.p.e, .int .i64 r.p.u, .int .i64 r.b, .int .i64 r.x, .int .i64 r.y] 66)).alloc (.cells #[.int .i64 0, .slice none 0 0, .slice none 0 0, .int .i64 0] 63) = W0 at *
  refine F0.mono ?_
  rintro e1 u1 ⟨rfl, b1⟩
  have B1 := Lib.hid (btr HB0.out b1)
  have R1 := Lib.hid (HR0.out.on b1)
  have A1 := Lib.hid (HA0.out.on b1)
  have P1 := Lib.hid (HP0.out.on b1)
  clear d0 d1 d2 b1 F0 HB0 HR0 HA0 HP0
  have d0 := A1.out.cell 0 _ rfl
  have d1 := A1.out.cell 1 _ rfl
  have d2 := A1.out.cell 2 _ rfl
  have p0 := P1.out.cell 0 _ rfl
  have p1 := P1.out.cell 1 _ rfl
  have p2 := P1.out.cell 2 _ rfl
  have p3 := P1.out.cell 3 _ rfl
  have p4 := P1.out.cell 4 _ rfl
  have p5 := P1.out.cell 5 _ rfl
  have p6 := P1.out.cell 6 _ rfl
  have p7 := P1.out.cell 7 _ rfl
  go_wp2_with fail
  refine (AP.out _ B1.out).mono ?_
  rintro e2 u4 ⟨a4, n4, c4, rfl, O4, b4⟩
  have b45 := btr b4 (bal (Below.refl _ u4) (.cells #[.int .i64 0, .slice a4 n4 c4] 192))
  have T5 := Lib.hid (show At u4.heap.size [.int .i64 0, .slice a4 n4 c4] (u4.alloc (.cells #[.int .i64 0, .slice a4 n4 c4] 192)) from At.new u4 [.int .i64 0, .slice a4 n4 c4] 192)
  have R5 := Lib.hid (R1.out.on b45)
  have A5 := Lib.hid (A1.out.on b45)
  have P5' := Lib.hid (P1.out.on b45)
  have B5 := Lib.hid (btr B1.out b45)
  clear d0 d1 d2 p0 p1 p2 p3 p4 p5 p6 p7 b4 b45 O4 R1 A1 P1 B1
  go_upto_region 5 with fail
  generalize u4.alloc (.cells #[.int .i64 0, .slice a4 n4 c4] 192) = W5 at *
  have t0 := T5.out.cell 0 _ rfl
  have t1 := T5.out.cell 1 _ rfl
  have d0 := A5.out.cell 0 _ rfl
  have d1 := A5.out.cell 1 _ rfl
  have d2 := A5.out.cell 2 _ rfl
  have p0 := P5'.out.cell 0 _ rfl
  have p1 := P5'.out.cell 1 _ rfl
  have p2 := P5'.out.cell 2 _ rfl
  have p3 := P5'.out.cell 3 _ rfl
  have p4 := P5'.out.cell 4 _ rfl
  have p5 := P5'.out.cell 5 _ rfl
  have p6 := P5'.out.cell 6 _ rfl
  have p7 := P5'.out.cell 7 _ rfl
  go_wp2_with fail
  refine (NP.out _ B5.out A5.out).mono ?_
  rintro e3 u9 ⟨a3, n3, c3, a6, n6, c6, rfl, SO9, b9⟩
  have R9 := R5.out.on b9
  have B9 := btr B5.out b9
  have HS9 := Lib.hid (SO9.res (w := w) (r := w.heap.size + 1 + 1) (R5.out.lt (by decide)) B5.out.size (.int .i64 C) (.slice a3 n3 c3) (.slice a6 n6 c6) (.int .i64 S.d.s))
  unfold zero9 at R9
  clear t0 t1 d0 d1 d2 p0 p1 p2 p3 p4 p5 p6 p7
  have q0 := R9.cell 0 _ rfl
  have q1 := R9.cell 1 _ rfl
  have q2 := R9.cell 2 _ rfl
  have q3 := R9.cell 3 _ rfl
  have f0 := R9.free 0 _ rfl
  have f1 := R9.free 1 _ rfl
  have f2 := R9.free 2 _ rfl
  have f3 := R9.free 3 _ rfl
  clear R9 b9 SO9
  go_wp2_with fail
  refine bodyPost_ret (v := V4 C a3 n3 c3 a6 n6 c6 S.d.s) (by simp [results, Tryz.results37, go_sem, V4, q0, q1, q2, q3]) rfl ⟨a3, n3, c3, a6, n6, c6, rfl, HS9.out, ?_⟩
  exact (by (iterate 4 (refine bset ?_ (by dsimp only; omega) _)); exact B9)
end Go.Proofs.YtlodhleihnlchaaGreatDoor
namespace Go.Proofs.YtlodhleihnlchaaGreatDoor
open Go.RowKit
set_option maxRecDepth 100000
set_option linter.unusedVariables false

def DStore (K : Nat) (Q : StoreD → Prop) (w0 : World) (a : Option Addr) (len cap : Nat) (zs : List Int) (w : World) (e : Ending) (w' : World) : Prop :=
  ∃ (a1 : Option Addr) (n1 c1 : Nat) (a2 : Option Addr) (n2 c2 : Nat) (s : StoreD) (p : Nat), Q s ∧ p ≤ K ∧ e = .returned (S3 a1 n1 c1 a2 n2 c2 s.d.s) ∧ SOwn w' w.heap.size w'.heap.size (.slice a1 n1 c1) (.slice a2 n2 c2) s ∧ Draw w0 a len cap zs p w' ∧ w.grownBy w' (some w0.heap.size)
def zero3 : List Value := [.slice none 0 0, .slice none 0 0, .int .i64 0]
structure LRel (w0 : World) (a : Option Addr) (len cap : Nat) (zs : List Int) (p : Nat) (w : World) (a1 : Option Addr) (n1 c1 : Nat) (a2 : Option Addr) (n2 c2 : Nat) (s : StoreD) (hi : Nat) (cur : World) : Prop where
  draw : Draw w0 a len cap zs p cur
  grew : w.grownBy cur (some w0.heap.size)
  res : At w.heap.size zero3 cur
  box : At (w.heap.size + 1) (S3L a1 n1 c1 a2 n2 c2 s.d.s) cur
  own : SOwn cur (w.heap.size + 2) hi (.slice a1 n1 c1) (.slice a2 n2 c2) s
  hw : w0.heap.size < w.heap.size
section
variable {w0 : World} {a : Option Addr} {len cap : Nat} {zs : List Int} {p p' : Nat} {w : World} {a1 : Option Addr} {n1 c1 : Nat} {a2 : Option Addr} {n2 c2 : Nat} {s : StoreD} {hi : Nat} {cur cur' : World}
theorem LRel.kept (h : LRel w0 a len cap zs p w a1 n1 c1 a2 n2 c2 s hi cur) (hO : cur.grownBy cur' (some w0.heap.size)) (D : Draw w0 a len cap zs p' cur') : LRel w0 a len cap zs p' w a1 n1 c1 a2 n2 c2 s hi cur' := by
  have hw := h.hw
  exact ⟨D, gtr h.grew hO, h.res.kept hO (fun e => by injection e with e; omega), h.box.kept hO (fun e => by injection e with e; omega), h.own.keep hO.size (fun k h1 h2 => hO.block k (by have := h.own.top; omega) (fun e => by injection e with e; omega)), hw⟩
theorem LRel.only (h : LRel w0 a len cap zs p w a1 n1 c1 a2 n2 c2 s hi cur) (hO : Only w0.heap.size cur cur') (D : Draw w0 a len cap zs p' cur') : LRel w0 a len cap zs p' w a1 n1 c1 a2 n2 c2 s hi cur' := h.kept hO.grown D
theorem LRel.on (h : LRel w0 a len cap zs p w a1 n1 c1 a2 n2 c2 s hi cur) (hb : Below cur.heap.size cur cur') : LRel w0 a len cap zs p w a1 n1 c1 a2 n2 c2 s hi cur' :=
  ⟨h.draw.below hb, gbe h.grew hb, h.res.on hb, h.box.on hb, h.own.below hb, h.hw⟩
theorem LRel.alloc (h : LRel w0 a len cap zs p w a1 n1 c1 a2 n2 c2 s hi cur) (o : Obj) : LRel w0 a len cap zs p w a1 n1 c1 a2 n2 c2 s hi (cur.alloc o) := h.on (bal (Below.refl _ _) o)
theorem LRel.top (h : LRel w0 a len cap zs p w a1 n1 c1 a2 n2 c2 s hi cur) : w.heap.size + 2 ≤ hi ∧ hi ≤ cur.heap.size := h.own.top
end
structure RRel (w0 : World) (a : Option Addr) (len cap : Nat) (zs : List Int) (p : Nat) (w : World) (a1 : Option Addr) (n1 c1 : Nat) (a2 : Option Addr) (n2 c2 : Nat) (s : StoreD) (hi gb : Nat) (C : Int) (b1 : Option Addr) (m1 e1 : Nat) (b2 : Option Addr) (m2 e2 : Nat) (t : StoreD) (lo2 hi2 : Nat) (cur : World) : Prop where
  x : LRel w0 a len cap zs p w a1 n1 c1 a2 n2 c2 s hi cur
  r : At gb [.int .i64 C, .slice b1 m1 e1, .slice b2 m2 e2, .int .i64 t.d.s] cur
  rown : SOwn cur lo2 hi2 (.slice b1 m1 e1) (.slice b2 m2 e2) t
  hg : hi ≤ gb
  hl : w.heap.size + 2 ≤ lo2
  sep : gb < lo2 ∨ hi2 ≤ gb
  good : C = 0 → storeF t = 0
section
variable {w0 : World} {a : Option Addr} {len cap : Nat} {zs : List Int} {p p' : Nat} {w : World} {a1 : Option Addr} {n1 c1 : Nat} {a2 : Option Addr} {n2 c2 : Nat} {s : StoreD} {hi gb : Nat} {C : Int} {b1 : Option Addr} {m1 e1 : Nat} {b2 : Option Addr} {m2 e2 : Nat} {t : StoreD} {lo2 hi2 : Nat} {cur cur' : World}
theorem RRel.kept (h : RRel w0 a len cap zs p w a1 n1 c1 a2 n2 c2 s hi gb C b1 m1 e1 b2 m2 e2 t lo2 hi2 cur) (hO : cur.grownBy cur' (some w0.heap.size)) (D : Draw w0 a len cap zs p' cur') : RRel w0 a len cap zs p' w a1 n1 c1 a2 n2 c2 s hi gb C b1 m1 e1 b2 m2 e2 t lo2 hi2 cur' := by
  have hw := h.x.hw
  have ht := h.x.top
  have hl := h.hl
  have hg := h.hg
  exact ⟨h.x.kept hO D, h.r.kept hO (fun e => by injection e with e; omega), h.rown.keep hO.size (fun k h1 h2 => hO.block k (by have := h.rown.top; omega) (fun e => by injection e with e; omega)), h.hg, h.hl, h.sep, h.good⟩
theorem RRel.only (h : RRel w0 a len cap zs p w a1 n1 c1 a2 n2 c2 s hi gb C b1 m1 e1 b2 m2 e2 t lo2 hi2 cur) (hO : Only w0.heap.size cur cur') (D : Draw w0 a len cap zs p' cur') : RRel w0 a len cap zs p' w a1 n1 c1 a2 n2 c2 s hi gb C b1 m1 e1 b2 m2 e2 t lo2 hi2 cur' := h.kept hO.grown D
theorem RRel.on (h : RRel w0 a len cap zs p w a1 n1 c1 a2 n2 c2 s hi gb C b1 m1 e1 b2 m2 e2 t lo2 hi2 cur) (hb : Below cur.heap.size cur cur') : RRel w0 a len cap zs p w a1 n1 c1 a2 n2 c2 s hi gb C b1 m1 e1 b2 m2 e2 t lo2 hi2 cur' := ⟨h.x.on hb, h.r.on hb, h.rown.below hb, h.hg, h.hl, h.sep, h.good⟩
theorem RRel.alloc (h : RRel w0 a len cap zs p w a1 n1 c1 a2 n2 c2 s hi gb C b1 m1 e1 b2 m2 e2 t lo2 hi2 cur) (o : Obj) : RRel w0 a len cap zs p w a1 n1 c1 a2 n2 c2 s hi gb C b1 m1 e1 b2 m2 e2 t lo2 hi2 (cur.alloc o) := h.on (bal (Below.refl _ _) o)
theorem RRel.store {x0 x1 x2 x3 : Value} (h : LRel w0 a len cap zs p w a1 n1 c1 a2 n2 c2 s hi cur) (A : At gb [x0, x1, x2, x3] cur) (O : SOwn cur lo2 hi2 (.slice b1 m1 e1) (.slice b2 m2 e2) t) (hg : hi ≤ gb) (hl : w.heap.size + 2 ≤ lo2) (sep : gb < lo2 ∨ hi2 ≤ gb) (good : C = 0 → storeF t = 0) :
    RRel w0 a len cap zs p w a1 n1 c1 a2 n2 c2 s hi gb C b1 m1 e1 b2 m2 e2 t lo2 hi2 ((((cur.setCell ⟨gb, 0, none⟩ (.int .i64 C)).setCell ⟨gb, 1, none⟩ (.slice b1 m1 e1)).setCell ⟨gb, 2, none⟩ (.slice b2 m2 e2)).setCell ⟨gb, 3, none⟩ (.int .i64 t.d.s)) := by
  have hw := h.hw
  have ht := h.top
  refine ⟨⟨?_, ?_, ?_, ?_, ?_, hw⟩, (((A.set 0 (.int .i64 C)).set 1 (.slice b1 m1 e1)).set 2 (.slice b2 m2 e2)).set 3 (.int .i64 t.d.s), ?_, hg, hl, sep, good⟩
  · iterate 4 (refine Draw.put ?_ (by dsimp only; omega) _)
    exact h.draw
  · iterate 4 (refine gset ?_ (by dsimp only; omega) _)
    exact h.grew
  · iterate 4 (refine At.setB ?_ (by dsimp only; omega) _)
    exact h.res
  · iterate 4 (refine At.setB ?_ (by dsimp only; omega) _)
    exact h.box
  · iterate 4 (refine SOwn.setCell ?_ (.inr hg) _)
    exact h.own
  · iterate 4 (refine SOwn.setCell ?_ sep _)
    exact O
theorem RRel.toX (h : RRel w0 a len cap zs p w a1 n1 c1 a2 n2 c2 s hi gb C b1 m1 e1 b2 m2 e2 t lo2 hi2 cur) : LRel w0 a len cap zs p w b1 m1 e1 b2 m2 e2 t hi2 (((cur.setCell ⟨w.heap.size + 1, 0, none⟩ (.slice b1 m1 e1)).setCell ⟨w.heap.size + 1, 1, none⟩ (.slice b2 m2 e2)).setCell ⟨w.heap.size + 1, 2, none⟩ (.int .i64 t.d.s)) := by
  have hw := h.x.hw
  have hl := h.hl
  refine ⟨?_, ?_, ?_, ((h.x.box.set 0 (.slice b1 m1 e1)).set 1 (.slice b2 m2 e2)).set 2 (.int .i64 t.d.s), ?_, hw⟩
  · iterate 3 (refine Draw.put ?_ (by dsimp only; omega) _)
    exact h.x.draw
  · iterate 3 (refine gset ?_ (by dsimp only; omega) _)
    exact h.x.grew
  · iterate 3 (refine At.setB ?_ (by dsimp only; omega) _)
    exact h.x.res
  · refine SOwn.less ?_ hl
    iterate 3 (refine SOwn.setCell ?_ (.inl (by dsimp only; omega)) _)
    exact h.rown
end
structure S13 (g : Nat) (eb eo n1 c1 : Nat) (a2 : Option Addr) (n2 c2 : Nat) (s : StoreD) (z : World) : Prop where
  box : At g (S3L (some ⟨eb, eo, none⟩) n1 c1 a2 n2 c2 s.d.s) z
  el : ∀ j, j < n1 → ∀ i v, (s.ps[j]?.getD pin0).vals[i]? = some v → z.cell? ⟨eb, eo + j * 5 + i, none⟩ = some v
theorem S13.of {g : Nat} {eb eo n1 c1 : Nat} {a2 : Option Addr} {n2 c2 : Nat} {s : StoreD} {z : World} {lo hi : Nat} (A : At g (S3L (some ⟨eb, eo, none⟩) n1 c1 a2 n2 c2 s.d.s) z) (O : SOwn z lo hi (.slice (some ⟨eb, eo, none⟩) n1 c1) (.slice a2 n2 c2) s) : S13 g eb eo n1 c1 a2 n2 c2 s z := by
  refine ⟨A, fun j hj i v hv => ?_⟩
  obtain ⟨b, off, e, _, hc⟩ := O.row.ps.cells (by omega)
  injection e with e
  injection e with e1 e2 _
  subst e1
  subst e2
  exact hc j hj i v hv
def Got9 (w0 : World) (a : Option Addr) (len cap : Nat) (zs : List Int) (K : Nat) (w : World) (v : Value) (wx : World) : Prop :=
  ∃ (p gb : Nat) (a1 : Option Addr) (n1 c1 : Nat) (a2 : Option Addr) (n2 c2 : Nat) (s : StoreD) (hi : Nat) (C : Int) (b1 : Option Addr) (m1 e1 : Nat) (b2 : Option Addr) (m2 e2 : Nat) (t : StoreD) (lo2 hi2 : Nat), v = .pointer (some ⟨gb, 0, none⟩) ∧ p ≤ K ∧ storeF s = 0 ∧ RRel w0 a len cap zs p w a1 n1 c1 a2 n2 c2 s hi gb C b1 m1 e1 b2 m2 e2 t lo2 hi2 wx
theorem right_pins {s : StoreD} (h : storeF s = 0) : ∀ q ∈ s.ps, q.f = 0 ∧ q.n.size ≤ 21 := fun q hq => by
  have hf := (pinsF_zero (storeF_pins h)).2.1 q hq
  exact ⟨hf, by have := pin_size hf; omega⟩
set_option maxHeartbeats 16000000 in
theorem dl9Draw {w0 : World} {a : Option Addr} {len cap : Nat} {zs : List Int} {p0 : Nat} {w : World} (D : Draw w0 a len cap zs p0 w) (hp0 : p0 ≤ 50) (n : Int) (hn : n ≤ 10) :
    Calls Tryz.prog 205 #[.pointer (some ⟨w0.heap.size, 0, none⟩), .int .i64 n] w (DStore (p0 + 301) (fun s => storeF s = 0) w0 a len cap zs w) := by
  have hlt := D.lt
  have D0 := (D.alloc (.cells #[.slice none 0 0, .slice none 0 0, .int .i64 0] 57)).alloc (.cells #[.slice none 0 0, .slice none 0 0, .int .i64 0] 57)
  have G0 := gal (gal (World.grownBy.refl w (some w0.heap.size)) (.cells #[.slice none 0 0, .slice none 0 0, .int .i64 0] 57)) (.cells #[.slice none 0 0, .slice none 0 0, .int .i64 0] 57)
  have R0 : At w.heap.size zero3 ((w.alloc (.cells #[.slice none 0 0, .slice none 0 0, .int .i64 0] 57)).alloc (.cells #[.slice none 0 0, .slice none 0 0, .int .i64 0] 57)) := (At.new w zero3 57).alloc _
  have X0 := At.new (w.alloc (.cells #[.slice none 0 0, .slice none 0 0, .int .i64 0] 57)) zero3 57
  rw [World.size_alloc] at X0
  have sz0 : ((w.alloc (.cells #[.slice none 0 0, .slice none 0 0, .int .i64 0] 57)).alloc (.cells #[.slice none 0 0, .slice none 0 0, .int .i64 0] 57)).heap.size = w.heap.size + 2 := by simp
  have L0 : LRel w0 a len cap zs p0 w none 0 0 none 0 0 store0 (w.heap.size + 2) ((w.alloc (.cells #[.slice none 0 0, .slice none 0 0, .int .i64 0] 57)).alloc (.cells #[.slice none 0 0, .slice none 0 0, .int .i64 0] 57)) := ⟨D0, G0, R0, X0, by have := SOwn.nil ((w.alloc (.cells #[.slice none 0 0, .slice none 0 0, .int .i64 0] 57)).alloc (.cells #[.slice none 0 0, .slice none 0 0, .int .i64 0] 57)) (w.heap.size + 2) (by omega); rwa [sz0] at this, hlt⟩
  clear D D0 G0 R0 X0 sz0
  go_enter Tryz.func205, Tryz.ntmps205
  go_wp2_with fail
  generalize (w.alloc (.cells #[.slice none 0 0, .slice none 0 0, .int .i64 0] 57)).alloc (.cells #[.slice none 0 0, .slice none 0 0, .int .i64 0] 57) = W0 at *
  refine (dnext n L0.draw (by omega)).mono ?_
  rintro e u1 ⟨v, v0, v1, rfl, D1, O1⟩
  obtain ⟨v, rfl⟩ := Int.eq_ofNat_of_zero_le v0
  have hv : v ≤ 10 := by omega
  have L1 := L0.only O1 D1
  clear L0 D1 O1 v0 v1
  go_wp2_with fail
  go_loopw [6] (fun i wr => ∃ (k p : Nat) (a1 : Option Addr) (n1 c1 : Nat) (a2 : Option Addr) (n2 c2 : Nat) (s : StoreD) (hi : Nat), k ≤ 10 ∧ i = .int .i64 k ∧ p + 30 * k ≤ p0 + 301 ∧ storeF s = 0 ∧ LRel w0 a len cap zs p w a1 n1 c1 a2 n2 c2 s hi wr) (fun i _ => (intOf i).toNat)
  case atStart => exact ⟨v, _, _, _, _, _, _, _, _, _, hv, rfl, by omega, store0_f, L1⟩
  case round =>
    obtain ⟨k, p, a1, n1, c1, a2, n2, c2, s, hi, hk, rfl, hp, hs0, hT⟩ := hrel
    clear L1
    by_cases h0 : k = 0
    · subst h0
      have x0 := hT.box.cell 0 _ rfl
      have x1 := hT.box.cell 1 _ rfl
      have x2 := hT.box.cell 2 _ rfl
      have q0 := hT.res.cell 0 _ rfl
      have q1 := hT.res.cell 1 _ rfl
      have q2 := hT.res.cell 2 _ rfl
      have z0 := hT.res.free 0 _ rfl
      have z1 := hT.res.free 1 _ rfl
      have z2 := hT.res.free 2 _ rfl
      have hw := hT.hw
      have ht := hT.top
      have HT := Lib.hid hT
      clear hT
      go_wp2_with fail
      refine bodyPost_ret (v := S3 a1 n1 c1 a2 n2 c2 s.d.s) (by simp [results, Tryz.results205, go_sem, q0, q1, q2]) rfl ?_
      refine ⟨a1, n1, c1, a2, n2, c2, s, p, hs0, by omega, rfl, ?_, ?_, ?_⟩
      · have O := HT.out.own
        refine SOwn.less (lo := w.heap.size + 2) ?_ (by omega)
        refine SOwn.more (hi := hi) ?_ (by simp [World.setCell]; omega) (Nat.le_refl _)
        iterate 3 (refine SOwn.setCell ?_ (.inl (by dsimp only; omega)) _)
        exact O
      · iterate 3 (refine Draw.put ?_ (by dsimp only; omega) _)
        exact HT.out.draw
      · iterate 3 (refine gset ?_ (Nat.le_refl _) _)
        exact HT.out.grew
    obtain ⟨j, rfl⟩ : ∃ j, k = j + 1 := ⟨k - 1, by omega⟩
    have hk0 : (0 : Int) < ((j + 1 : Nat) : Int) := by omega
    have lt2 := hT.top
    go_upto_region 5 with fail
    go_cut [7] from 16 to 20 (fun v wx => Got9 w0 a len cap zs (p + 6) w v wx)
    case first =>
      refine wp_region_fork (At (w.heap.size + 1) (S3L a1 n1 c1 a2 n2 c2 s.d.s)) (by kernel_rfl) (hT.box.on (bdrew _)) ?_
      have hst : (At (w.heap.size + 1) (S3L a1 n1 c1 a2 n2 c2 s.d.s)) _ := (hT.box.on (bdrew _))
      have inst : Nonempty (Of (At (w.heap.size + 1) (S3L a1 n1 c1 a2 n2 c2 s.d.s))) := ⟨⟨_, hst⟩⟩
      have R := hT.on (bdrew _)
      have y0 : ∀ z : Of (At (w.heap.size + 1) (S3L a1 n1 c1 a2 n2 c2 s.d.s)), z.val.cell? ⟨w.heap.size + 1, 0, none⟩ = some (.slice a1 n1 c1) := fun z => z.prop.cell 0 _ rfl
      have y1 : ∀ z : Of (At (w.heap.size + 1) (S3L a1 n1 c1 a2 n2 c2 s.d.s)), z.val.cell? ⟨w.heap.size + 1, 1, none⟩ = some (.slice a2 n2 c2) := fun z => z.prop.cell 1 _ rfl
      have y2 : ∀ z : Of (At (w.heap.size + 1) (S3L a1 n1 c1 a2 n2 c2 s.d.s)), z.val.cell? ⟨w.heap.size + 1, 2, none⟩ = some (.int .i64 s.d.s) := fun z => z.prop.cell 2 _ rfl
      clear hT
      generalize wr.drew = V1 at *
      refine any_seg 4 [(0, true), (1, true)] (by kernel_rfl) (fun _ _ d _ _ h => by cases d <;> exact h) ?_
      iterate 2 (refine line_read rfl (by kernel_rfl) (fun K hK => ?_); go_big_quiet_op; refine hK _ ?_; clear hK K)
      refine line_nil ?_
      clear y0 y1 y2
      refine any_fork 2 4 (by kernel_rfl) rfl rfl (by kernel_rfl) (by kernel_rfl) (fun K hK => ?_) (fun K hK => ?_)
      · refine call_any (args := #[.pointer (some ⟨w0.heap.size, 0, none⟩)]) rfl (by kernel_rfl) (by kernel_rfl) (dl7Draw R.draw (by omega)) ?_
        rintro e x1 ⟨pn, pp, hpf, hpp, rfl, D1, g1⟩
        have RN := R.kept g1 D1
        clear R
        have R := RN
        clear RN D1
        have hpn : pn.n.size ≤ maxLen := by have := pin_size hpf; simp only [maxLen]; omega
        have hstN : At (w.heap.size + 1) (S3L a1 n1 c1 a2 n2 c2 s.d.s) x1 := R.box
        clear g1
        refine ⟨_, rfl, hK _ _ hstN ?_⟩
        clear hK K hst
        have hst := hstN
        clear hstN
        simp only [Act.put, List.setIfInBounds_toArray, List.set_cons_zero, List.set_cons_succ]
        refine any_fork 3 4 (by kernel_rfl) rfl rfl (by kernel_rfl) (by kernel_rfl) (fun K hK => ?_) (fun K hK => ?_)
        · refine call_any (args := #[S3 a1 n1 c1 a2 n2 c2 s.d.s, P5 pn]) rfl (by kernel_rfl) (by kernel_rfl) (specNotePin_any _ _ _ _ _ _ _ s pn _ R.own.row (Nat.le_refl _) hpn) ?_
          rintro e x2 ⟨b1, m1, e1, b2, m2, e2, rfl, SO, hb2⟩
          have hx12 : w.heap.size + 2 ≤ x2.heap.size := by have := R.top; have := hb2.size; omega
          have hlo := (show w.heap.size + 2 ≤ _ from Nat.le_trans R.top.1 R.top.2)
          have RN := R.on hb2
          clear R
          have R := RN
          clear RN
          have hgood : noteC s pn = 0 → storeF (noteS s pn) = 0 := fun h => (note_ok h).f
          generalize noteC s pn = C at *
          generalize noteS s pn = t at *
          have hstN : At (w.heap.size + 1) (S3L a1 n1 c1 a2 n2 c2 s.d.s) x2 := R.box
          refine ⟨_, rfl, hK _ _ hstN ?_⟩
          clear hK K hst
          have hst := hstN
          clear hstN
          simp only [Act.put, List.setIfInBounds_toArray, List.set_cons_zero, List.set_cons_succ]
          clear hb2
          refine any_rest [(4, false), (5, false)] (by kernel_rfl) (fun _ _ d _ _ h => by cases d <;> exact h) ?_
          refine line_alone rfl (by kernel_rfl) (fun K hK => ?_)
          go_big_op
          have hstN : At (w.heap.size + 1) (S3L a1 n1 c1 a2 n2 c2 s.d.s) (x2.alloc (.cells #[.int .i64 0, .slice none 0 0, .slice none 0 0, .int .i64 0] 63)) := hst.alloc _
          have X : At x2.heap.size zero9 (x2.alloc (.cells #[.int .i64 0, .slice none 0 0, .slice none 0 0, .int .i64 0] 63)) := At.new x2 zero9 63
          have RN := R.alloc (.cells #[.int .i64 0, .slice none 0 0, .slice none 0 0, .int .i64 0] 63)
          have hgA := R.top.2
          clear R
          have R := RN
          clear RN
          have SN := SO.below (bal (Below.refl _ x2) (.cells #[.int .i64 0, .slice none 0 0, .slice none 0 0, .int .i64 0] 63))
          refine hK _ _ hstN ?_
          clear hK K hst
          have hst := hstN
          clear hstN
          generalize x2.alloc (.cells #[.int .i64 0, .slice none 0 0, .slice none 0 0, .int .i64 0] 63) = xa at *
          generalize x2.heap.size = ga at *
          clear SO
          have SO := SN
          clear SN
          unfold zero9 at X
          have RF := RRel.store (C := C) R X SO hgA hlo (.inr (Nat.le_refl _)) hgood
          have h0 := X.cell 0 _ rfl
          have h1 := X.cell 1 _ rfl
          have h2 := X.cell 2 _ rfl
          have h3 := X.cell 3 _ rfl
          have f0 := X.free 0 _ rfl
          have f1 := X.free 1 _ rfl
          have f2 := X.free 2 _ rfl
          have f3 := X.free 3 _ rfl
          have hstN : At (w.heap.size + 1) (S3L a1 n1 c1 a2 n2 c2 s.d.s) ((((xa.setCell ⟨ga, 0, none⟩ (.int .i64 C)).setCell ⟨ga, 1, none⟩ (.slice b1 m1 e1)).setCell ⟨ga, 2, none⟩ (.slice b2 m2 e2)).setCell ⟨ga, 3, none⟩ (.int .i64 t.d.s)) := RF.x.box
          have HF := Lib.hid RF
          clear R X SO RF
          refine line_alone rfl (by kernel_rfl) (fun K hK => ?_)
          go_big_op
          refine hK _ _ (hstN) ?_
          clear hK K
          refine line_nil ?_
          clear hst hstN h0 h1 h2 h3 f0 f1 f2 f3
          go_wp2_with fail
          go_meet
          case rel => exact ⟨_, _, _, _, _, _, _, _, _, _, _, _, _, _, _, _, _, _, _, _, rfl, by omega, hs0, HF.out⟩
        · go_big_op
          have hstN : At (w.heap.size + 1) (S3L a1 n1 c1 a2 n2 c2 s.d.s) (x1.alloc (.cells #[.int .i64 0, .slice none 0 0, .slice none 0 0, .int .i64 0] 63)) := hst.alloc _
          have X : At x1.heap.size zero9 (x1.alloc (.cells #[.int .i64 0, .slice none 0 0, .slice none 0 0, .int .i64 0] 63)) := At.new x1 zero9 63
          have RN := R.alloc (.cells #[.int .i64 0, .slice none 0 0, .slice none 0 0, .int .i64 0] 63)
          have hgA := R.top.2
          clear R
          have R := RN
          clear RN
          skip
          refine hK _ _ hstN ?_
          clear hK K hst
          have hst := hstN
          clear hstN
          generalize x1.alloc (.cells #[.int .i64 0, .slice none 0 0, .slice none 0 0, .int .i64 0] 63) = xa at *
          generalize x1.heap.size = ga at *
          refine any_rest [(3, false), (5, false)] (by kernel_rfl) (fun _ _ d _ _ h => by cases d <;> exact h) ?_
          refine line_alone rfl (by kernel_rfl) (fun K hK => ?_)
          refine call_any (args := #[S3 a1 n1 c1 a2 n2 c2 s.d.s, P5 pn]) rfl (by kernel_rfl) (by kernel_rfl) (specNotePin_any _ _ _ _ _ _ _ s pn _ R.own.row (Nat.le_refl _) hpn) ?_
          rintro e x2 ⟨b1, m1, e1, b2, m2, e2, rfl, SO, hb2⟩
          have hx12 : w.heap.size + 2 ≤ x2.heap.size := by have := R.top; have := hb2.size; omega
          have hlo := (show w.heap.size + 2 ≤ _ from Nat.le_trans R.top.1 R.top.2)
          have RN := R.on hb2
          clear R
          have R := RN
          clear RN
          have hgood : noteC s pn = 0 → storeF (noteS s pn) = 0 := fun h => (note_ok h).f
          generalize noteC s pn = C at *
          generalize noteS s pn = t at *
          have hstN : At (w.heap.size + 1) (S3L a1 n1 c1 a2 n2 c2 s.d.s) x2 := R.box
          have XN := X.on hb2
          have hgl := X.lt (by simp [zero9])
          clear X hb2
          have X := XN
          clear XN
          refine ⟨_, rfl, hK _ _ hstN ?_⟩
          clear hK K hst
          have hst := hstN
          clear hstN
          simp only [Act.put, List.setIfInBounds_toArray, List.set_cons_zero, List.set_cons_succ]
          unfold zero9 at X
          have RF := RRel.store (C := C) R X SO hgA hlo (.inl hgl) hgood
          have h0 := X.cell 0 _ rfl
          have h1 := X.cell 1 _ rfl
          have h2 := X.cell 2 _ rfl
          have h3 := X.cell 3 _ rfl
          have f0 := X.free 0 _ rfl
          have f1 := X.free 1 _ rfl
          have f2 := X.free 2 _ rfl
          have f3 := X.free 3 _ rfl
          have hstN : At (w.heap.size + 1) (S3L a1 n1 c1 a2 n2 c2 s.d.s) ((((x2.setCell ⟨ga, 0, none⟩ (.int .i64 C)).setCell ⟨ga, 1, none⟩ (.slice b1 m1 e1)).setCell ⟨ga, 2, none⟩ (.slice b2 m2 e2)).setCell ⟨ga, 3, none⟩ (.int .i64 t.d.s)) := RF.x.box
          have HF := Lib.hid RF
          clear R X SO RF
          refine line_alone rfl (by kernel_rfl) (fun K hK => ?_)
          go_big_op
          refine hK _ _ (hstN) ?_
          clear hK K
          refine line_nil ?_
          clear hst hstN h0 h1 h2 h3 f0 f1 f2 f3
          go_wp2_with fail
          go_meet
          case rel => exact ⟨_, _, _, _, _, _, _, _, _, _, _, _, _, _, _, _, _, _, _, _, rfl, by omega, hs0, HF.out⟩
      · go_big_op
        have hstN : At (w.heap.size + 1) (S3L a1 n1 c1 a2 n2 c2 s.d.s) (V1.alloc (.cells #[.int .i64 0, .slice none 0 0, .slice none 0 0, .int .i64 0] 63)) := hst.alloc _
        have X : At V1.heap.size zero9 (V1.alloc (.cells #[.int .i64 0, .slice none 0 0, .slice none 0 0, .int .i64 0] 63)) := At.new V1 zero9 63
        have RN := R.alloc (.cells #[.int .i64 0, .slice none 0 0, .slice none 0 0, .int .i64 0] 63)
        have hgA := R.top.2
        clear R
        have R := RN
        clear RN
        skip
        refine hK _ _ hstN ?_
        clear hK K hst
        have hst := hstN
        clear hstN
        generalize V1.alloc (.cells #[.int .i64 0, .slice none 0 0, .slice none 0 0, .int .i64 0] 63) = xa at *
        generalize V1.heap.size = ga at *
        refine any_rest [(2, false), (3, false), (5, false)] (by kernel_rfl) (fun _ _ d _ _ h => by cases d <;> exact h) ?_
        refine line_alone rfl (by kernel_rfl) (fun K hK => ?_)
        refine call_any (args := #[.pointer (some ⟨w0.heap.size, 0, none⟩)]) rfl (by kernel_rfl) (by kernel_rfl) (dl7Draw R.draw (by omega)) ?_
        rintro e x1 ⟨pn, pp, hpf, hpp, rfl, D1, g1⟩
        have RN := R.kept g1 D1
        clear R
        have R := RN
        clear RN D1
        have hpn : pn.n.size ≤ maxLen := by have := pin_size hpf; simp only [maxLen]; omega
        have hstN : At (w.heap.size + 1) (S3L a1 n1 c1 a2 n2 c2 s.d.s) x1 := R.box
        have XN := X.kept g1 (fun e => by injection e with e; have := R.hw; have := R.top; omega)
        clear X g1
        have X := XN
        clear XN
        refine ⟨_, rfl, hK _ _ hstN ?_⟩
        clear hK K hst
        have hst := hstN
        clear hstN
        simp only [Act.put, List.setIfInBounds_toArray, List.set_cons_zero, List.set_cons_succ]
        refine line_alone rfl (by kernel_rfl) (fun K hK => ?_)
        refine call_any (args := #[S3 a1 n1 c1 a2 n2 c2 s.d.s, P5 pn]) rfl (by kernel_rfl) (by kernel_rfl) (specNotePin_any _ _ _ _ _ _ _ s pn _ R.own.row (Nat.le_refl _) hpn) ?_
        rintro e x2 ⟨b1, m1, e1, b2, m2, e2, rfl, SO, hb2⟩
        have hx12 : w.heap.size + 2 ≤ x2.heap.size := by have := R.top; have := hb2.size; omega
        have hlo := (show w.heap.size + 2 ≤ _ from Nat.le_trans R.top.1 R.top.2)
        have RN := R.on hb2
        clear R
        have R := RN
        clear RN
        have hgood : noteC s pn = 0 → storeF (noteS s pn) = 0 := fun h => (note_ok h).f
        generalize noteC s pn = C at *
        generalize noteS s pn = t at *
        have hstN : At (w.heap.size + 1) (S3L a1 n1 c1 a2 n2 c2 s.d.s) x2 := R.box
        have XN := X.on hb2
        have hgl := X.lt (by simp [zero9])
        clear X hb2
        have X := XN
        clear XN
        refine ⟨_, rfl, hK _ _ hstN ?_⟩
        clear hK K hst
        have hst := hstN
        clear hstN
        simp only [Act.put, List.setIfInBounds_toArray, List.set_cons_zero, List.set_cons_succ]
        unfold zero9 at X
        have RF := RRel.store (C := C) R X SO hgA hlo (.inl hgl) hgood
        have h0 := X.cell 0 _ rfl
        have h1 := X.cell 1 _ rfl
        have h2 := X.cell 2 _ rfl
        have h3 := X.cell 3 _ rfl
        have f0 := X.free 0 _ rfl
        have f1 := X.free 1 _ rfl
        have f2 := X.free 2 _ rfl
        have f3 := X.free 3 _ rfl
        have hstN : At (w.heap.size + 1) (S3L a1 n1 c1 a2 n2 c2 s.d.s) ((((x2.setCell ⟨ga, 0, none⟩ (.int .i64 C)).setCell ⟨ga, 1, none⟩ (.slice b1 m1 e1)).setCell ⟨ga, 2, none⟩ (.slice b2 m2 e2)).setCell ⟨ga, 3, none⟩ (.int .i64 t.d.s)) := RF.x.box
        have HF := Lib.hid RF
        clear R X SO RF
        refine line_alone rfl (by kernel_rfl) (fun K hK => ?_)
        go_big_op
        refine hK _ _ (hstN) ?_
        clear hK K
        refine line_nil ?_
        clear hst hstN h0 h1 h2 h3 f0 f1 f2 f3
        go_wp2_with fail
        go_meet
        case rel => exact ⟨_, _, _, _, _, _, _, _, _, _, _, _, _, _, _, _, _, _, _, _, rfl, by omega, hs0, HF.out⟩
    case rest =>
      obtain ⟨p1, gb, a1, n1, c1, a2, n2, c2, s, hi, C, b1, m1, e1, b2, m2, e2, t, lo2, hi2, rfl, hp1, hs0, R6⟩ := hcut
      have HS0 := Lib.hid hs0
      have hnm := fun q hq => (right_pins hs0 q hq).2
      clear hT lt2
      go_wp2_with fail
      refine (dnext 6 R6.x.draw (by omega)).mono ?_
      rintro e w7 ⟨sw, t0, t1, rfl, D7, O7⟩
      have R7 := R6.only O7 D7
      clear R6 D7 O7 t1
      by_cases s0 : sw = 0
      · subst s0
        have x0 := R7.x.box.cell 0 _ rfl
        have x1 := R7.x.box.cell 1 _ rfl
        have x2 := R7.x.box.cell 2 _ rfl
        obtain ⟨C, hCe⟩ : ∃ C, C = storeF s := ⟨_, rfl⟩
        have SY := specSyncStore_any _ _ _ _ _ _ _ s _ R7.x.own.row (Nat.le_refl _)
        rw [← hCe] at SY
        have hgood : C = 0 → storeF (syncS s) = 0 := fun _ => (sync_f hs0).1
        generalize syncS s = t at *
        clear hCe hs0
        go_wp2_with fail
        refine SY.mono ?_
        rintro e xw ⟨b1, m1, e1, b2, m2, e2, rfl, SO, hb2⟩
        have hgt := R7.r.lt (by simp)
        have hlo := Nat.le_trans R7.x.top.1 R7.x.top.2
        have hgh := R7.hg
        have RX := R7.x.on hb2
        have AX := R7.r.on hb2
        clear R7 hb2 x0 x1 x2 SY
        have RF := RRel.store (C := C) RX AX SO hgh hlo (.inl hgt) hgood
        have h0 := AX.cell 0 _ rfl
        have h1 := AX.cell 1 _ rfl
        have h2 := AX.cell 2 _ rfl
        have h3 := AX.cell 3 _ rfl
        have f0 := AX.free 0 _ rfl
        have f1 := AX.free 1 _ rfl
        have f2 := AX.free 2 _ rfl
        have f3 := AX.free 3 _ rfl
        have HF := Lib.hid RF
        clear RX AX SO RF
        go_upto_region 14 with fail
        clear h0 h1 h2 h3 f0 f1 f2 f3
        generalize ((((xw.setCell ⟨gb, 0, none⟩ (.int .i64 C)).setCell ⟨gb, 1, none⟩ (.slice b1 m1 e1)).setCell ⟨gb, 2, none⟩ (.slice b2 m2 e2)).setCell ⟨gb, 3, none⟩ (.int .i64 t.d.s)) = W9 at *
        have R9 := HF.out
        clear HF
        skip
        by_cases hC : C = 0
        · subst hC
          have ht0 := R9.good rfl
          have XN := R9.toX
          have y0 := R9.r.cell 0 _ rfl
          have y1 := R9.r.cell 1 _ rfl
          have y2 := R9.r.cell 2 _ rfl
          have y3 := R9.r.cell 3 _ rfl
          have x0 := R9.x.box.cell 0 _ rfl
          have x1 := R9.x.box.cell 1 _ rfl
          have x2 := R9.x.box.cell 2 _ rfl
          have f0 := R9.x.box.free 0 _ rfl
          have f1 := R9.x.box.free 1 _ rfl
          have f2 := R9.x.box.free 2 _ rfl
          have HX := Lib.hid XN
          clear R9 XN
          go_wp2_with fail
          go_roundw
          case rel => exact ⟨j, _, _, _, _, _, _, _, _, _, by omega, by go_num, by omega, ht0, HX.out⟩
          case measure => first | (simp [intOf]; done) | (simp [intOf]; omega)
        · have qC : (C == 0) = false := by simpa using hC
          have y0 := R9.r.cell 0 _ rfl
          have y1 := R9.r.cell 1 _ rfl
          have y2 := R9.r.cell 2 _ rfl
          have y3 := R9.r.cell 3 _ rfl
          have HX := Lib.hid R9.x
          clear R9
          go_wp2_with fail
          go_roundw
          case rel => exact ⟨j, _, _, _, _, _, _, _, _, _, by omega, by go_num, by omega, HS0.out, HX.out⟩
          case measure => first | (simp [intOf]; done) | (simp [intOf]; omega)
      have g0 : (sw == 0) = false := by rw [beq_eq_false_iff_ne]; exact s0
      by_cases s1 : sw = 1
      · subst s1
        go_wp2_with fail
        refine wp_region_fork (At (w.heap.size + 1) (S3L a1 n1 c1 a2 n2 c2 s.d.s)) (by kernel_rfl) (R7.x.box.on (bdrew _)) ?_
        have hst : (At (w.heap.size + 1) (S3L a1 n1 c1 a2 n2 c2 s.d.s)) _ := (R7.x.box.on (bdrew _))
        have inst : Nonempty (Of (At (w.heap.size + 1) (S3L a1 n1 c1 a2 n2 c2 s.d.s))) := ⟨⟨_, hst⟩⟩
        have R := R7.on (bdrew _)
        have y0 : ∀ z : Of (At (w.heap.size + 1) (S3L a1 n1 c1 a2 n2 c2 s.d.s)), z.val.cell? ⟨w.heap.size + 1, 0, none⟩ = some (.slice a1 n1 c1) := fun z => z.prop.cell 0 _ rfl
        have y1 : ∀ z : Of (At (w.heap.size + 1) (S3L a1 n1 c1 a2 n2 c2 s.d.s)), z.val.cell? ⟨w.heap.size + 1, 1, none⟩ = some (.slice a2 n2 c2) := fun z => z.prop.cell 1 _ rfl
        have y2 : ∀ z : Of (At (w.heap.size + 1) (S3L a1 n1 c1 a2 n2 c2 s.d.s)), z.val.cell? ⟨w.heap.size + 1, 2, none⟩ = some (.int .i64 s.d.s) := fun z => z.prop.cell 2 _ rfl
        clear R7
        generalize w7.drew = V7 at *
        refine any_rest [(0, true), (1, true), (2, false), (3, false), (4, false)] (by kernel_rfl) (fun _ _ d _ _ h => by cases d <;> exact h) ?_
        iterate 2 (refine line_read rfl (by kernel_rfl) (fun K hK => ?_); go_big_quiet_op; refine hK _ ?_; clear hK K)
        clear y0 y1 y2
        refine line_alone rfl (by kernel_rfl) (fun K hK => ?_)
        refine call_any (args := #[.pointer (some ⟨w0.heap.size, 0, none⟩), .int .i64 3]) rfl (by kernel_rfl) (by kernel_rfl) (dnext 3 R.x.draw (by omega)) ?_
        rintro e x1 ⟨kp, k0, k1, rfl, D1, O1⟩
        have RN := R.only O1 D1
        have hstN : At (w.heap.size + 1) (S3L a1 n1 c1 a2 n2 c2 s.d.s) x1 := RN.x.box
        clear D1 O1
        clear R
        have R := RN
        clear RN
        refine ⟨_, rfl, hK _ _ hstN ?_⟩
        clear hK K hst
        have hst := hstN
        clear hstN
        simp only [Act.put, List.setIfInBounds_toArray, List.set_cons_zero, List.set_cons_succ]
        refine line_alone rfl (by kernel_rfl) (fun K hK => ?_)
        refine call_any (args := #[S3 a1 n1 c1 a2 n2 c2 s.d.s, .int .i64 kp]) rfl (by kernel_rfl) (by kernel_rfl) (specCrashStore_any _ _ _ _ _ _ _ s kp _ R.x.own.row (Nat.le_refl _) (by omega)) ?_
        rintro e xw ⟨b1, m1, e1, b2, m2, e2, rfl, SO, hb2⟩
        have hgood : crashC s kp = 0 → storeF (crashS s kp) = 0 := fun h => (crash_ok h).f
        have hgt := R.r.lt (by simp)
        have hlo := Nat.le_trans R.x.top.1 R.x.top.2
        have hgh := R.hg
        have RX := R.x.on hb2
        have AX := R.r.on hb2
        clear R hb2
        generalize crashC s kp = C at *
        generalize crashS s kp = t at *
        have hstN : At (w.heap.size + 1) (S3L a1 n1 c1 a2 n2 c2 s.d.s) xw := RX.box
        refine ⟨_, rfl, hK _ _ hstN ?_⟩
        clear hK K hst
        have hst := hstN
        clear hstN
        simp only [Act.put, List.setIfInBounds_toArray, List.set_cons_zero, List.set_cons_succ]
        have RF := RRel.store (C := C) RX AX SO hgh hlo (.inl hgt) hgood
        have h0 := AX.cell 0 _ rfl
        have h1 := AX.cell 1 _ rfl
        have h2 := AX.cell 2 _ rfl
        have h3 := AX.cell 3 _ rfl
        have f0 := AX.free 0 _ rfl
        have f1 := AX.free 1 _ rfl
        have f2 := AX.free 2 _ rfl
        have f3 := AX.free 3 _ rfl
        have HF := Lib.hid RF
        have hstN : At (w.heap.size + 1) (S3L a1 n1 c1 a2 n2 c2 s.d.s) ((((xw.setCell ⟨gb, 0, none⟩ (.int .i64 C)).setCell ⟨gb, 1, none⟩ (.slice b1 m1 e1)).setCell ⟨gb, 2, none⟩ (.slice b2 m2 e2)).setCell ⟨gb, 3, none⟩ (.int .i64 t.d.s)) := RF.x.box
        refine line_alone rfl (by kernel_rfl) (fun K hK => ?_)
        go_big_op
        refine hK _ _ (hstN) ?_
        clear hK K
        refine line_nil ?_
        clear hst hstN h0 h1 h2 h3 f0 f1 f2 f3 RX AX SO RF
        generalize ((((xw.setCell ⟨gb, 0, none⟩ (.int .i64 C)).setCell ⟨gb, 1, none⟩ (.slice b1 m1 e1)).setCell ⟨gb, 2, none⟩ (.slice b2 m2 e2)).setCell ⟨gb, 3, none⟩ (.int .i64 t.d.s)) = W9 at *
        have R9 := HF.out
        clear HF
        skip
        by_cases hC : C = 0
        · subst hC
          have ht0 := R9.good rfl
          have XN := R9.toX
          have y0 := R9.r.cell 0 _ rfl
          have y1 := R9.r.cell 1 _ rfl
          have y2 := R9.r.cell 2 _ rfl
          have y3 := R9.r.cell 3 _ rfl
          have x0 := R9.x.box.cell 0 _ rfl
          have x1 := R9.x.box.cell 1 _ rfl
          have x2 := R9.x.box.cell 2 _ rfl
          have f0 := R9.x.box.free 0 _ rfl
          have f1 := R9.x.box.free 1 _ rfl
          have f2 := R9.x.box.free 2 _ rfl
          have HX := Lib.hid XN
          clear R9 XN
          go_wp2_with fail
          go_roundw
          case rel => exact ⟨j, _, _, _, _, _, _, _, _, _, by omega, by go_num, by omega, ht0, HX.out⟩
          case measure => first | (simp [intOf]; done) | (simp [intOf]; omega)
        · have qC : (C == 0) = false := by simpa using hC
          have y0 := R9.r.cell 0 _ rfl
          have y1 := R9.r.cell 1 _ rfl
          have y2 := R9.r.cell 2 _ rfl
          have y3 := R9.r.cell 3 _ rfl
          have HX := Lib.hid R9.x
          clear R9
          go_wp2_with fail
          go_roundw
          case rel => exact ⟨j, _, _, _, _, _, _, _, _, _, by omega, by go_num, by omega, HS0.out, HX.out⟩
          case measure => first | (simp [intOf]; done) | (simp [intOf]; omega)
      have g1 : (sw == 1) = false := by rw [beq_eq_false_iff_ne]; exact s1
      by_cases s2 : sw = 2
      · subst s2
        by_cases hn1 : n1 = 0
        · subst hn1
          have k0 := R7.x.box.cell 0 _ rfl
          have k1 := R7.x.box.cell 1 _ rfl
          have k2 := R7.x.box.cell 2 _ rfl
          skip
          by_cases hC : C = 0
          · subst hC
            have ht0 := R7.good rfl
            have XN := R7.toX
            have y0 := R7.r.cell 0 _ rfl
            have y1 := R7.r.cell 1 _ rfl
            have y2 := R7.r.cell 2 _ rfl
            have y3 := R7.r.cell 3 _ rfl
            have x0 := R7.x.box.cell 0 _ rfl
            have x1 := R7.x.box.cell 1 _ rfl
            have x2 := R7.x.box.cell 2 _ rfl
            have f0 := R7.x.box.free 0 _ rfl
            have f1 := R7.x.box.free 1 _ rfl
            have f2 := R7.x.box.free 2 _ rfl
            have HX := Lib.hid XN
            clear R7 XN
            go_wp2_with fail
            go_roundw
            case rel => exact ⟨j, _, _, _, _, _, _, _, _, _, by omega, by go_num, by omega, ht0, HX.out⟩
            case measure => first | (simp [intOf]; done) | (simp [intOf]; omega)
          · have qC : (C == 0) = false := by simpa using hC
            have y0 := R7.r.cell 0 _ rfl
            have y1 := R7.r.cell 1 _ rfl
            have y2 := R7.r.cell 2 _ rfl
            have y3 := R7.r.cell 3 _ rfl
            have HX := Lib.hid R7.x
            clear R7
            go_wp2_with fail
            go_roundw
            case rel => exact ⟨j, _, _, _, _, _, _, _, _, _, by omega, by go_num, by omega, HS0.out, HX.out⟩
            case measure => first | (simp [intOf]; done) | (simp [intOf]; omega)
        have hn0 : (0 : Int) < n1 := by omega
        obtain ⟨eb, eo, hea, -⟩ := R7.x.own.row.ps.cells (by omega)
        subst hea
        have hfit := R7.x.own.row.ps.fits
        have hmost := R7.x.own.row.ps.most
        have hlen := R7.x.own.row.ps.length
        unfold maxLen at hmost
        have k0 := R7.x.box.cell 0 _ rfl
        have k1 := R7.x.box.cell 1 _ rfl
        have k2 := R7.x.box.cell 2 _ rfl
        go_wp2_with fail
        clear k0 k1 k2
        refine wp_region_fork (S13 (w.heap.size + 1) eb eo n1 c1 a2 n2 c2 s) (by kernel_rfl) (S13.of (R7.x.box.on (bdrew _)) (R7.x.own.below (bdrew _))) ?_
        have hst : (S13 (w.heap.size + 1) eb eo n1 c1 a2 n2 c2 s) _ := (S13.of (R7.x.box.on (bdrew _)) (R7.x.own.below (bdrew _)))
        have inst : Nonempty (Of (S13 (w.heap.size + 1) eb eo n1 c1 a2 n2 c2 s)) := ⟨⟨_, hst⟩⟩
        have R := R7.on (bdrew _)
        have y0 : ∀ z : Of (S13 (w.heap.size + 1) eb eo n1 c1 a2 n2 c2 s), z.val.cell? ⟨w.heap.size + 1, 0, none⟩ = some (.slice (some ⟨eb, eo, none⟩) n1 c1) := fun z => z.prop.box.cell 0 _ rfl
        have y1 : ∀ z : Of (S13 (w.heap.size + 1) eb eo n1 c1 a2 n2 c2 s), z.val.cell? ⟨w.heap.size + 1, 1, none⟩ = some (.slice a2 n2 c2) := fun z => z.prop.box.cell 1 _ rfl
        have y2 : ∀ z : Of (S13 (w.heap.size + 1) eb eo n1 c1 a2 n2 c2 s), z.val.cell? ⟨w.heap.size + 1, 2, none⟩ = some (.int .i64 s.d.s) := fun z => z.prop.box.cell 2 _ rfl
        clear R7
        generalize w7.drew = V7 at *
        refine any_seg 8 [(0, true), (1, true), (2, true), (3, true), (4, true), (5, true), (6, true), (7, true), (12, true)] (by kernel_rfl) (fun _ _ d _ _ h => by cases d <;> exact h) ?_
        iterate 9 (refine line_read rfl (by kernel_rfl) (fun K hK => ?_); go_big_quiet_op; refine hK _ ?_; clear hK K)
        refine line_nil ?_
        clear y0 y1 y2
        refine any_fork 8 13 (by kernel_rfl) rfl rfl (by kernel_rfl) (by kernel_rfl) (fun K hK => ?_) (fun K hK => ?_)
        · refine call_any (args := #[.pointer (some ⟨w0.heap.size, 0, none⟩), .int .i64 n1]) rfl (by kernel_rfl) (by kernel_rfl) (dnext n1 R.x.draw (by omega)) ?_
          rintro e x1 ⟨kp, k0, k1, rfl, D1, O1⟩
          have RN := R.only O1 D1
          obtain ⟨kn, rfl⟩ := Int.eq_ofNat_of_zero_le k0
          have hkn : kn < n1 := by omega
          have hstN : S13 (w.heap.size + 1) eb eo n1 c1 a2 n2 c2 s x1 := S13.of RN.x.box RN.x.own
          clear D1 O1 k1
          clear R
          have R := RN
          clear RN
          refine ⟨_, rfl, hK _ _ hstN ?_⟩
          clear hK K hst
          have hst := hstN
          clear hstN
          simp only [Act.put, List.setIfInBounds_toArray, List.set_cons_zero, List.set_cons_succ]
          refine any_seg 5 [(9, true), (10, true)] (by kernel_rfl) (fun _ _ d _ _ h => by cases d <;> exact h) ?_
          have hqn : (s.ps[kn]?.getD pin0).n.size ≤ 21 := hnm _ (by rw [List.getElem?_eq_getElem (by omega)]; exact List.getElem_mem _)
          have z0 : ∀ z : Of (S13 (w.heap.size + 1) eb eo n1 c1 a2 n2 c2 s), z.val.cell? ⟨eb, eo + kn * 5, none⟩ = some (.string (s.ps[kn]?.getD pin0).n) := fun z => z.prop.el kn hkn 0 _ rfl
          have z1 : ∀ z : Of (S13 (w.heap.size + 1) eb eo n1 c1 a2 n2 c2 s), z.val.cell? ⟨eb, eo + kn * 5 + 1, none⟩ = some (.int .i64 (s.ps[kn]?.getD pin0).a) := fun z => z.prop.el kn hkn 1 _ rfl
          have z2 : ∀ z : Of (S13 (w.heap.size + 1) eb eo n1 c1 a2 n2 c2 s), z.val.cell? ⟨eb, eo + kn * 5 + 2, none⟩ = some (.int .i64 (s.ps[kn]?.getD pin0).b) := fun z => z.prop.el kn hkn 2 _ rfl
          have z3 : ∀ z : Of (S13 (w.heap.size + 1) eb eo n1 c1 a2 n2 c2 s), z.val.cell? ⟨eb, eo + kn * 5 + 3, none⟩ = some (.int .i64 (s.ps[kn]?.getD pin0).e) := fun z => z.prop.el kn hkn 3 _ rfl
          have z4 : ∀ z : Of (S13 (w.heap.size + 1) eb eo n1 c1 a2 n2 c2 s), z.val.cell? ⟨eb, eo + kn * 5 + 4, none⟩ = some (.int .i64 (s.ps[kn]?.getD pin0).u) := fun z => z.prop.el kn hkn 4 _ rfl
          generalize hqk : s.ps[kn]?.getD pin0 = qk at *
          clear hqk
          iterate 2 (refine line_read rfl (by kernel_rfl) (fun K hK => ?_); go_big_quiet_op; refine hK _ ?_; clear hK K)
          refine line_nil ?_
          clear z0 z1 z2 z3 z4
          refine any_fork 11 13 (by kernel_rfl) rfl rfl (by kernel_rfl) (by kernel_rfl) (fun K hK => ?_) (fun K hK => ?_)
          · refine call_any (args := #[.pointer (some ⟨w0.heap.size, 0, none⟩), P5 qk]) rfl (by kernel_rfl) (by kernel_rfl) (dl8Draw R.x.draw (by omega) qk hqn) ?_
            rintro e x2 ⟨r, pr, hr, hpr, rfl, D2, g2⟩
            have RN := R.kept g2 D2
            clear D2
            have hstN : S13 (w.heap.size + 1) eb eo n1 c1 a2 n2 c2 s x2 := S13.of RN.x.box RN.x.own
            clear R
            have R := RN
            clear RN
            clear g2
            refine ⟨_, rfl, hK _ _ hstN ?_⟩
            clear hK K hst
            have hst := hstN
            clear hstN
            simp only [Act.put, List.setIfInBounds_toArray, List.set_cons_zero, List.set_cons_succ]
            refine any_rest [(13, false), (14, false), (15, false), (16, false)] (by kernel_rfl) (fun _ _ d _ _ h => by cases d <;> exact h) ?_
            refine line_alone rfl (by kernel_rfl) (fun K hK => ?_)
            go_big_op
            have X : At x2.heap.size [.int .i64 0, .int .i64 40] (x2.alloc (.cells #[.int .i64 0, .int .i64 40] 2)) := At.new x2 [.int .i64 0, .int .i64 40] 2
            have RN := R.alloc (.cells #[.int .i64 0, .int .i64 40] 2)
            have hgA := R.x.top.2
            have hstN : S13 (w.heap.size + 1) eb eo n1 c1 a2 n2 c2 s (x2.alloc (.cells #[.int .i64 0, .int .i64 40] 2)) := S13.of RN.x.box RN.x.own
            clear R
            have R := RN
            clear RN
            refine hK _ _ hstN ?_
            clear hK K hst
            have hst := hstN
            clear hstN
            generalize x2.alloc (.cells #[.int .i64 0, .int .i64 40] 2) = xa at *
            generalize x2.heap.size = ga at *
            refine line_alone rfl (by kernel_rfl) (fun K hK => ?_)
            refine call_any (args := #[.pointer (some ⟨w0.heap.size, 0, none⟩), .slice (some ⟨ga, 0, none⟩) 2 2]) rfl (by kernel_rfl) (by kernel_rfl) (l1Pick_any w0.heap.size ga 2 [0, 40] a len cap _ w0.heap.size zs xa R.x.draw.src R.x.draw.row (Nat.le_refl _) (by omega) (by have := R.x.hw; have := R.x.top; omega) rfl (by omega) (by omega) (fun j hj => by
              match j, hj with
              | 0, _ => exact X.cell 0 _ rfl
              | 1, _ => exact X.cell 1 _ rfl)) ?_
            rintro e x3 ⟨tm, htm, rfl, SN, O3⟩
            have DN := R.x.draw.only SN O3
            have RN := R.only O3 DN
            have hstN : S13 (w.heap.size + 1) eb eo n1 c1 a2 n2 c2 s x3 := S13.of RN.x.box RN.x.own
            clear SN O3 DN X htm
            clear R
            have R := RN
            clear RN
            refine ⟨_, rfl, hK _ _ hstN ?_⟩
            clear hK K hst
            have hst := hstN
            clear hstN
            simp only [Act.put, List.setIfInBounds_toArray, List.set_cons_zero, List.set_cons_succ]
            refine line_alone rfl (by kernel_rfl) (fun K hK => ?_)
            refine call_any (args := #[S3 (some ⟨eb, eo, none⟩) n1 c1 a2 n2 c2 s.d.s, R8 r, .int .i64 tm]) rfl (by kernel_rfl) (by kernel_rfl) (specRollStore_any _ _ _ _ _ _ _ s r tm _ R.x.own.row (Nat.le_refl _) (by simp only [maxLen]; omega)) ?_
            rintro e xw ⟨b1, m1, e1, b2, m2, e2, rfl, SO, hb2⟩
            have hgood : rollC s r tm = 0 → storeF (rollSt s r tm) = 0 := fun h => (roll_ok h).1
            have hgt := R.r.lt (by simp)
            have hlo := Nat.le_trans R.x.top.1 R.x.top.2
            have hgh := R.hg
            have RX := R.x.on hb2
            have AX := R.r.on hb2
            clear R hb2
            generalize rollC s r tm = C at *
            generalize rollSt s r tm = t at *
            have hstN : S13 (w.heap.size + 1) eb eo n1 c1 a2 n2 c2 s xw := S13.of RX.box RX.own
            refine ⟨_, rfl, hK _ _ hstN ?_⟩
            clear hK K hst
            have hst := hstN
            clear hstN
            simp only [Act.put, List.setIfInBounds_toArray, List.set_cons_zero, List.set_cons_succ]
            have RF := RRel.store (C := C) RX AX SO hgh hlo (.inl hgt) hgood
            have h0 := AX.cell 0 _ rfl
            have h1 := AX.cell 1 _ rfl
            have h2 := AX.cell 2 _ rfl
            have h3 := AX.cell 3 _ rfl
            have f0 := AX.free 0 _ rfl
            have f1 := AX.free 1 _ rfl
            have f2 := AX.free 2 _ rfl
            have f3 := AX.free 3 _ rfl
            have HF := Lib.hid RF
            have hstN : S13 (w.heap.size + 1) eb eo n1 c1 a2 n2 c2 s ((((xw.setCell ⟨gb, 0, none⟩ (.int .i64 C)).setCell ⟨gb, 1, none⟩ (.slice b1 m1 e1)).setCell ⟨gb, 2, none⟩ (.slice b2 m2 e2)).setCell ⟨gb, 3, none⟩ (.int .i64 t.d.s)) := S13.of RF.x.box RF.x.own
            refine line_alone rfl (by kernel_rfl) (fun K hK => ?_)
            go_big_op
            refine hK _ _ (hstN) ?_
            clear hK K
            refine line_nil ?_
            clear hst hstN h0 h1 h2 h3 f0 f1 f2 f3 RX AX SO RF
            generalize ((((xw.setCell ⟨gb, 0, none⟩ (.int .i64 C)).setCell ⟨gb, 1, none⟩ (.slice b1 m1 e1)).setCell ⟨gb, 2, none⟩ (.slice b2 m2 e2)).setCell ⟨gb, 3, none⟩ (.int .i64 t.d.s)) = W9 at *
            have R9 := HF.out
            clear HF
            skip
            by_cases hC : C = 0
            · subst hC
              have ht0 := R9.good rfl
              have XN := R9.toX
              have y0 := R9.r.cell 0 _ rfl
              have y1 := R9.r.cell 1 _ rfl
              have y2 := R9.r.cell 2 _ rfl
              have y3 := R9.r.cell 3 _ rfl
              have x0 := R9.x.box.cell 0 _ rfl
              have x1 := R9.x.box.cell 1 _ rfl
              have x2 := R9.x.box.cell 2 _ rfl
              have f0 := R9.x.box.free 0 _ rfl
              have f1 := R9.x.box.free 1 _ rfl
              have f2 := R9.x.box.free 2 _ rfl
              have HX := Lib.hid XN
              clear R9 XN
              go_wp2_with fail
              go_roundw
              case rel => exact ⟨j, _, _, _, _, _, _, _, _, _, by omega, by go_num, by omega, ht0, HX.out⟩
              case measure => first | (simp [intOf]; done) | (simp [intOf]; omega)
            · have qC : (C == 0) = false := by simpa using hC
              have y0 := R9.r.cell 0 _ rfl
              have y1 := R9.r.cell 1 _ rfl
              have y2 := R9.r.cell 2 _ rfl
              have y3 := R9.r.cell 3 _ rfl
              have HX := Lib.hid R9.x
              clear R9
              go_wp2_with fail
              go_roundw
              case rel => exact ⟨j, _, _, _, _, _, _, _, _, _, by omega, by go_num, by omega, HS0.out, HX.out⟩
              case measure => first | (simp [intOf]; done) | (simp [intOf]; omega)
          · go_big_op
            have X : At x1.heap.size [.int .i64 0, .int .i64 40] (x1.alloc (.cells #[.int .i64 0, .int .i64 40] 2)) := At.new x1 [.int .i64 0, .int .i64 40] 2
            have RN := R.alloc (.cells #[.int .i64 0, .int .i64 40] 2)
            have hgA := R.x.top.2
            have hstN : S13 (w.heap.size + 1) eb eo n1 c1 a2 n2 c2 s (x1.alloc (.cells #[.int .i64 0, .int .i64 40] 2)) := S13.of RN.x.box RN.x.own
            clear R
            have R := RN
            clear RN
            refine hK _ _ hstN ?_
            clear hK K hst
            have hst := hstN
            clear hstN
            generalize x1.alloc (.cells #[.int .i64 0, .int .i64 40] 2) = xa at *
            generalize x1.heap.size = ga at *
            refine any_rest [(11, false), (14, false), (15, false), (16, false)] (by kernel_rfl) (fun _ _ d _ _ h => by cases d <;> exact h) ?_
            refine line_alone rfl (by kernel_rfl) (fun K hK => ?_)
            refine call_any (args := #[.pointer (some ⟨w0.heap.size, 0, none⟩), P5 qk]) rfl (by kernel_rfl) (by kernel_rfl) (dl8Draw R.x.draw (by omega) qk hqn) ?_
            rintro e x2 ⟨r, pr, hr, hpr, rfl, D2, g2⟩
            have RN := R.kept g2 D2
            clear D2
            have hstN : S13 (w.heap.size + 1) eb eo n1 c1 a2 n2 c2 s x2 := S13.of RN.x.box RN.x.own
            clear R
            have R := RN
            clear RN
            have XN := X.kept g2 (fun e => by injection e with e; have := R.x.hw; have := R.x.top; omega)
            clear X g2
            have X := XN
            clear XN
            refine ⟨_, rfl, hK _ _ hstN ?_⟩
            clear hK K hst
            have hst := hstN
            clear hstN
            simp only [Act.put, List.setIfInBounds_toArray, List.set_cons_zero, List.set_cons_succ]
            refine line_alone rfl (by kernel_rfl) (fun K hK => ?_)
            refine call_any (args := #[.pointer (some ⟨w0.heap.size, 0, none⟩), .slice (some ⟨ga, 0, none⟩) 2 2]) rfl (by kernel_rfl) (by kernel_rfl) (l1Pick_any w0.heap.size ga 2 [0, 40] a len cap _ w0.heap.size zs x2 R.x.draw.src R.x.draw.row (Nat.le_refl _) (by omega) (by have := R.x.hw; have := R.x.top; omega) rfl (by omega) (by omega) (fun j hj => by
              match j, hj with
              | 0, _ => exact X.cell 0 _ rfl
              | 1, _ => exact X.cell 1 _ rfl)) ?_
            rintro e x3 ⟨tm, htm, rfl, SN, O3⟩
            have DN := R.x.draw.only SN O3
            have RN := R.only O3 DN
            have hstN : S13 (w.heap.size + 1) eb eo n1 c1 a2 n2 c2 s x3 := S13.of RN.x.box RN.x.own
            clear SN O3 DN X htm
            clear R
            have R := RN
            clear RN
            refine ⟨_, rfl, hK _ _ hstN ?_⟩
            clear hK K hst
            have hst := hstN
            clear hstN
            simp only [Act.put, List.setIfInBounds_toArray, List.set_cons_zero, List.set_cons_succ]
            refine line_alone rfl (by kernel_rfl) (fun K hK => ?_)
            refine call_any (args := #[S3 (some ⟨eb, eo, none⟩) n1 c1 a2 n2 c2 s.d.s, R8 r, .int .i64 tm]) rfl (by kernel_rfl) (by kernel_rfl) (specRollStore_any _ _ _ _ _ _ _ s r tm _ R.x.own.row (Nat.le_refl _) (by simp only [maxLen]; omega)) ?_
            rintro e xw ⟨b1, m1, e1, b2, m2, e2, rfl, SO, hb2⟩
            have hgood : rollC s r tm = 0 → storeF (rollSt s r tm) = 0 := fun h => (roll_ok h).1
            have hgt := R.r.lt (by simp)
            have hlo := Nat.le_trans R.x.top.1 R.x.top.2
            have hgh := R.hg
            have RX := R.x.on hb2
            have AX := R.r.on hb2
            clear R hb2
            generalize rollC s r tm = C at *
            generalize rollSt s r tm = t at *
            have hstN : S13 (w.heap.size + 1) eb eo n1 c1 a2 n2 c2 s xw := S13.of RX.box RX.own
            refine ⟨_, rfl, hK _ _ hstN ?_⟩
            clear hK K hst
            have hst := hstN
            clear hstN
            simp only [Act.put, List.setIfInBounds_toArray, List.set_cons_zero, List.set_cons_succ]
            have RF := RRel.store (C := C) RX AX SO hgh hlo (.inl hgt) hgood
            have h0 := AX.cell 0 _ rfl
            have h1 := AX.cell 1 _ rfl
            have h2 := AX.cell 2 _ rfl
            have h3 := AX.cell 3 _ rfl
            have f0 := AX.free 0 _ rfl
            have f1 := AX.free 1 _ rfl
            have f2 := AX.free 2 _ rfl
            have f3 := AX.free 3 _ rfl
            have HF := Lib.hid RF
            have hstN : S13 (w.heap.size + 1) eb eo n1 c1 a2 n2 c2 s ((((xw.setCell ⟨gb, 0, none⟩ (.int .i64 C)).setCell ⟨gb, 1, none⟩ (.slice b1 m1 e1)).setCell ⟨gb, 2, none⟩ (.slice b2 m2 e2)).setCell ⟨gb, 3, none⟩ (.int .i64 t.d.s)) := S13.of RF.x.box RF.x.own
            refine line_alone rfl (by kernel_rfl) (fun K hK => ?_)
            go_big_op
            refine hK _ _ (hstN) ?_
            clear hK K
            refine line_nil ?_
            clear hst hstN h0 h1 h2 h3 f0 f1 f2 f3 RX AX SO RF
            generalize ((((xw.setCell ⟨gb, 0, none⟩ (.int .i64 C)).setCell ⟨gb, 1, none⟩ (.slice b1 m1 e1)).setCell ⟨gb, 2, none⟩ (.slice b2 m2 e2)).setCell ⟨gb, 3, none⟩ (.int .i64 t.d.s)) = W9 at *
            have R9 := HF.out
            clear HF
            skip
            by_cases hC : C = 0
            · subst hC
              have ht0 := R9.good rfl
              have XN := R9.toX
              have y0 := R9.r.cell 0 _ rfl
              have y1 := R9.r.cell 1 _ rfl
              have y2 := R9.r.cell 2 _ rfl
              have y3 := R9.r.cell 3 _ rfl
              have x0 := R9.x.box.cell 0 _ rfl
              have x1 := R9.x.box.cell 1 _ rfl
              have x2 := R9.x.box.cell 2 _ rfl
              have f0 := R9.x.box.free 0 _ rfl
              have f1 := R9.x.box.free 1 _ rfl
              have f2 := R9.x.box.free 2 _ rfl
              have HX := Lib.hid XN
              clear R9 XN
              go_wp2_with fail
              go_roundw
              case rel => exact ⟨j, _, _, _, _, _, _, _, _, _, by omega, by go_num, by omega, ht0, HX.out⟩
              case measure => first | (simp [intOf]; done) | (simp [intOf]; omega)
            · have qC : (C == 0) = false := by simpa using hC
              have y0 := R9.r.cell 0 _ rfl
              have y1 := R9.r.cell 1 _ rfl
              have y2 := R9.r.cell 2 _ rfl
              have y3 := R9.r.cell 3 _ rfl
              have HX := Lib.hid R9.x
              clear R9
              go_wp2_with fail
              go_roundw
              case rel => exact ⟨j, _, _, _, _, _, _, _, _, _, by omega, by go_num, by omega, HS0.out, HX.out⟩
              case measure => first | (simp [intOf]; done) | (simp [intOf]; omega)
        · go_big_op
          have X : At V7.heap.size [.int .i64 0, .int .i64 40] (V7.alloc (.cells #[.int .i64 0, .int .i64 40] 2)) := At.new V7 [.int .i64 0, .int .i64 40] 2
          have RN := R.alloc (.cells #[.int .i64 0, .int .i64 40] 2)
          have hgA := R.x.top.2
          have hstN : S13 (w.heap.size + 1) eb eo n1 c1 a2 n2 c2 s (V7.alloc (.cells #[.int .i64 0, .int .i64 40] 2)) := S13.of RN.x.box RN.x.own
          clear R
          have R := RN
          clear RN
          refine hK _ _ hstN ?_
          clear hK K hst
          have hst := hstN
          clear hstN
          generalize V7.alloc (.cells #[.int .i64 0, .int .i64 40] 2) = xa at *
          generalize V7.heap.size = ga at *
          refine any_rest [(8, false), (9, true), (10, true), (11, false), (14, false), (15, false), (16, false)] (by kernel_rfl) (fun _ _ d _ _ h => by cases d <;> exact h) ?_
          refine line_alone rfl (by kernel_rfl) (fun K hK => ?_)
          refine call_any (args := #[.pointer (some ⟨w0.heap.size, 0, none⟩), .int .i64 n1]) rfl (by kernel_rfl) (by kernel_rfl) (dnext n1 R.x.draw (by omega)) ?_
          rintro e x1 ⟨kp, k0, k1, rfl, D1, O1⟩
          have RN := R.only O1 D1
          obtain ⟨kn, rfl⟩ := Int.eq_ofNat_of_zero_le k0
          have hkn : kn < n1 := by omega
          have hstN : S13 (w.heap.size + 1) eb eo n1 c1 a2 n2 c2 s x1 := S13.of RN.x.box RN.x.own
          have XN := X.only5 O1 (by have := R.x.hw; have := R.x.top; omega)
          clear X
          have X := XN
          clear XN D1 O1 k1
          clear R
          have R := RN
          clear RN
          refine ⟨_, rfl, hK _ _ hstN ?_⟩
          clear hK K hst
          have hst := hstN
          clear hstN
          simp only [Act.put, List.setIfInBounds_toArray, List.set_cons_zero, List.set_cons_succ]
          have hqn : (s.ps[kn]?.getD pin0).n.size ≤ 21 := hnm _ (by rw [List.getElem?_eq_getElem (by omega)]; exact List.getElem_mem _)
          have z0 : ∀ z : Of (S13 (w.heap.size + 1) eb eo n1 c1 a2 n2 c2 s), z.val.cell? ⟨eb, eo + kn * 5, none⟩ = some (.string (s.ps[kn]?.getD pin0).n) := fun z => z.prop.el kn hkn 0 _ rfl
          have z1 : ∀ z : Of (S13 (w.heap.size + 1) eb eo n1 c1 a2 n2 c2 s), z.val.cell? ⟨eb, eo + kn * 5 + 1, none⟩ = some (.int .i64 (s.ps[kn]?.getD pin0).a) := fun z => z.prop.el kn hkn 1 _ rfl
          have z2 : ∀ z : Of (S13 (w.heap.size + 1) eb eo n1 c1 a2 n2 c2 s), z.val.cell? ⟨eb, eo + kn * 5 + 2, none⟩ = some (.int .i64 (s.ps[kn]?.getD pin0).b) := fun z => z.prop.el kn hkn 2 _ rfl
          have z3 : ∀ z : Of (S13 (w.heap.size + 1) eb eo n1 c1 a2 n2 c2 s), z.val.cell? ⟨eb, eo + kn * 5 + 3, none⟩ = some (.int .i64 (s.ps[kn]?.getD pin0).e) := fun z => z.prop.el kn hkn 3 _ rfl
          have z4 : ∀ z : Of (S13 (w.heap.size + 1) eb eo n1 c1 a2 n2 c2 s), z.val.cell? ⟨eb, eo + kn * 5 + 4, none⟩ = some (.int .i64 (s.ps[kn]?.getD pin0).u) := fun z => z.prop.el kn hkn 4 _ rfl
          generalize hqk : s.ps[kn]?.getD pin0 = qk at *
          clear hqk
          iterate 2 (refine line_read rfl (by kernel_rfl) (fun K hK => ?_); go_big_quiet_op; refine hK _ ?_; clear hK K)
          clear z0 z1 z2 z3 z4
          refine line_alone rfl (by kernel_rfl) (fun K hK => ?_)
          refine call_any (args := #[.pointer (some ⟨w0.heap.size, 0, none⟩), P5 qk]) rfl (by kernel_rfl) (by kernel_rfl) (dl8Draw R.x.draw (by omega) qk hqn) ?_
          rintro e x2 ⟨r, pr, hr, hpr, rfl, D2, g2⟩
          have RN := R.kept g2 D2
          clear D2
          have hstN : S13 (w.heap.size + 1) eb eo n1 c1 a2 n2 c2 s x2 := S13.of RN.x.box RN.x.own
          clear R
          have R := RN
          clear RN
          have XN := X.kept g2 (fun e => by injection e with e; have := R.x.hw; have := R.x.top; omega)
          clear X g2
          have X := XN
          clear XN
          refine ⟨_, rfl, hK _ _ hstN ?_⟩
          clear hK K hst
          have hst := hstN
          clear hstN
          simp only [Act.put, List.setIfInBounds_toArray, List.set_cons_zero, List.set_cons_succ]
          refine line_alone rfl (by kernel_rfl) (fun K hK => ?_)
          refine call_any (args := #[.pointer (some ⟨w0.heap.size, 0, none⟩), .slice (some ⟨ga, 0, none⟩) 2 2]) rfl (by kernel_rfl) (by kernel_rfl) (l1Pick_any w0.heap.size ga 2 [0, 40] a len cap _ w0.heap.size zs x2 R.x.draw.src R.x.draw.row (Nat.le_refl _) (by omega) (by have := R.x.hw; have := R.x.top; omega) rfl (by omega) (by omega) (fun j hj => by
            match j, hj with
            | 0, _ => exact X.cell 0 _ rfl
            | 1, _ => exact X.cell 1 _ rfl)) ?_
          rintro e x3 ⟨tm, htm, rfl, SN, O3⟩
          have DN := R.x.draw.only SN O3
          have RN := R.only O3 DN
          have hstN : S13 (w.heap.size + 1) eb eo n1 c1 a2 n2 c2 s x3 := S13.of RN.x.box RN.x.own
          clear SN O3 DN X htm
          clear R
          have R := RN
          clear RN
          refine ⟨_, rfl, hK _ _ hstN ?_⟩
          clear hK K hst
          have hst := hstN
          clear hstN
          simp only [Act.put, List.setIfInBounds_toArray, List.set_cons_zero, List.set_cons_succ]
          refine line_alone rfl (by kernel_rfl) (fun K hK => ?_)
          refine call_any (args := #[S3 (some ⟨eb, eo, none⟩) n1 c1 a2 n2 c2 s.d.s, R8 r, .int .i64 tm]) rfl (by kernel_rfl) (by kernel_rfl) (specRollStore_any _ _ _ _ _ _ _ s r tm _ R.x.own.row (Nat.le_refl _) (by simp only [maxLen]; omega)) ?_
          rintro e xw ⟨b1, m1, e1, b2, m2, e2, rfl, SO, hb2⟩
          have hgood : rollC s r tm = 0 → storeF (rollSt s r tm) = 0 := fun h => (roll_ok h).1
          have hgt := R.r.lt (by simp)
          have hlo := Nat.le_trans R.x.top.1 R.x.top.2
          have hgh := R.hg
          have RX := R.x.on hb2
          have AX := R.r.on hb2
          clear R hb2
          generalize rollC s r tm = C at *
          generalize rollSt s r tm = t at *
          have hstN : S13 (w.heap.size + 1) eb eo n1 c1 a2 n2 c2 s xw := S13.of RX.box RX.own
          refine ⟨_, rfl, hK _ _ hstN ?_⟩
          clear hK K hst
          have hst := hstN
          clear hstN
          simp only [Act.put, List.setIfInBounds_toArray, List.set_cons_zero, List.set_cons_succ]
          have RF := RRel.store (C := C) RX AX SO hgh hlo (.inl hgt) hgood
          have h0 := AX.cell 0 _ rfl
          have h1 := AX.cell 1 _ rfl
          have h2 := AX.cell 2 _ rfl
          have h3 := AX.cell 3 _ rfl
          have f0 := AX.free 0 _ rfl
          have f1 := AX.free 1 _ rfl
          have f2 := AX.free 2 _ rfl
          have f3 := AX.free 3 _ rfl
          have HF := Lib.hid RF
          have hstN : S13 (w.heap.size + 1) eb eo n1 c1 a2 n2 c2 s ((((xw.setCell ⟨gb, 0, none⟩ (.int .i64 C)).setCell ⟨gb, 1, none⟩ (.slice b1 m1 e1)).setCell ⟨gb, 2, none⟩ (.slice b2 m2 e2)).setCell ⟨gb, 3, none⟩ (.int .i64 t.d.s)) := S13.of RF.x.box RF.x.own
          refine line_alone rfl (by kernel_rfl) (fun K hK => ?_)
          go_big_op
          refine hK _ _ (hstN) ?_
          clear hK K
          refine line_nil ?_
          clear hst hstN h0 h1 h2 h3 f0 f1 f2 f3 RX AX SO RF
          generalize ((((xw.setCell ⟨gb, 0, none⟩ (.int .i64 C)).setCell ⟨gb, 1, none⟩ (.slice b1 m1 e1)).setCell ⟨gb, 2, none⟩ (.slice b2 m2 e2)).setCell ⟨gb, 3, none⟩ (.int .i64 t.d.s)) = W9 at *
          have R9 := HF.out
          clear HF
          skip
          by_cases hC : C = 0
          · subst hC
            have ht0 := R9.good rfl
            have XN := R9.toX
            have y0 := R9.r.cell 0 _ rfl
            have y1 := R9.r.cell 1 _ rfl
            have y2 := R9.r.cell 2 _ rfl
            have y3 := R9.r.cell 3 _ rfl
            have x0 := R9.x.box.cell 0 _ rfl
            have x1 := R9.x.box.cell 1 _ rfl
            have x2 := R9.x.box.cell 2 _ rfl
            have f0 := R9.x.box.free 0 _ rfl
            have f1 := R9.x.box.free 1 _ rfl
            have f2 := R9.x.box.free 2 _ rfl
            have HX := Lib.hid XN
            clear R9 XN
            go_wp2_with fail
            go_roundw
            case rel => exact ⟨j, _, _, _, _, _, _, _, _, _, by omega, by go_num, by omega, ht0, HX.out⟩
            case measure => first | (simp [intOf]; done) | (simp [intOf]; omega)
          · have qC : (C == 0) = false := by simpa using hC
            have y0 := R9.r.cell 0 _ rfl
            have y1 := R9.r.cell 1 _ rfl
            have y2 := R9.r.cell 2 _ rfl
            have y3 := R9.r.cell 3 _ rfl
            have HX := Lib.hid R9.x
            clear R9
            go_wp2_with fail
            go_roundw
            case rel => exact ⟨j, _, _, _, _, _, _, _, _, _, by omega, by go_num, by omega, HS0.out, HX.out⟩
            case measure => first | (simp [intOf]; done) | (simp [intOf]; omega)
      · have g2 : (sw == 2) = false := by rw [beq_eq_false_iff_ne]; exact s2
        skip
        by_cases hC : C = 0
        · subst hC
          have ht0 := R7.good rfl
          have XN := R7.toX
          have y0 := R7.r.cell 0 _ rfl
          have y1 := R7.r.cell 1 _ rfl
          have y2 := R7.r.cell 2 _ rfl
          have y3 := R7.r.cell 3 _ rfl
          have x0 := R7.x.box.cell 0 _ rfl
          have x1 := R7.x.box.cell 1 _ rfl
          have x2 := R7.x.box.cell 2 _ rfl
          have f0 := R7.x.box.free 0 _ rfl
          have f1 := R7.x.box.free 1 _ rfl
          have f2 := R7.x.box.free 2 _ rfl
          have HX := Lib.hid XN
          clear R7 XN
          go_wp2_with fail
          go_roundw
          case rel => exact ⟨j, _, _, _, _, _, _, _, _, _, by omega, by go_num, by omega, ht0, HX.out⟩
          case measure => first | (simp [intOf]; done) | (simp [intOf]; omega)
        · have qC : (C == 0) = false := by simpa using hC
          have y0 := R7.r.cell 0 _ rfl
          have y1 := R7.r.cell 1 _ rfl
          have y2 := R7.r.cell 2 _ rfl
          have y3 := R7.r.cell 3 _ rfl
          have HX := Lib.hid R7.x
          clear R7
          go_wp2_with fail
          go_roundw
          case rel => exact ⟨j, _, _, _, _, _, _, _, _, _, by omega, by go_num, by omega, HS0.out, HX.out⟩
          case measure => first | (simp [intOf]; done) | (simp [intOf]; omega)
end Go.Proofs.YtlodhleihnlchaaGreatDoor
