/- Contracts of signatures and of how they are checked, by the program and by its model. Conditions: as each theorem states. -/
import Derived.Test.YtepailfhagaboaaGreatDoorC3d
namespace Go.Proofs.YtepailfhagaboaaGreatDoor
open Go.RowKit
set_option maxRecDepth 100000

theorem kf0 (a b : Int) (w : World) : Sem.run Tryz.prog (Instr.field 96 (.agg #[.int .i64 a, .int .i64 b]) 0) w = .ok (.int .i64 a) w := by kernel_rfl
theorem kf1 (a b : Int) (w : World) : Sem.run Tryz.prog (Instr.field 96 (.agg #[.int .i64 a, .int .i64 b]) 1) w = .ok (.int .i64 b) w := by kernel_rfl

theorem l3Sign_any (s t : Int) (w : World) (hs : inB s 1 1438 = true) (ht : M.sumB t = true) :
    Calls Tryz.prog 61 #[.int .i64 s, .int .i64 t] w fun r w' => r = .returned (I2 (M.sigPt s t) (M.sigPr s t)) ∧ Below w.heap.size w w' := by
  have hs' := hs
  simp only [inB, decide_eq_true_eq] at hs'
  obtain ⟨s0, s1⟩ := hs'
  have hS := M.sum_of_sec hs
  have e1 : M.sigPt s t = M.pw 4 (M.nonceN s t).toNat 2879 := rfl
  have e2 : M.sigPr s t = (M.nonceN s t + M.chalN (M.pw 4 s.toNat 2879) (M.pw 4 (M.nonceN s t).toNat 2879) t * s) % 1439 := rfl
  rw [e1, e2]
  clear e1 e2
  obtain ⟨n0, n1⟩ := M.nonceN_bd s t
  obtain ⟨c0, c1⟩ := M.chalN_bd (M.pw 4 s.toNat 2879) (M.pw 4 (M.nonceN s t).toNat 2879) t
  obtain ⟨m0, m1⟩ := M.mul_bd (M := 1439) c0 (by omega) (show 0 ≤ s by omega) (by omega) (by omega)
  have hp1 := M.pow_sum (a := 4) s.toNat
  have hp2 := M.pow_sum (a := 4) (M.nonceN s t).toNat
  have K1 := fun w => l1Key_any s w (by omega) (by omega)
  have K2 := fun w => l1Key_any (M.nonceN s t) w (by omega) (by omega)
  generalize M.pw 4 s.toNat 2879 = U at *
  generalize M.pw 4 (M.nonceN s t).toNat 2879 = P at *
  have g0 := kf0
  have g1 := kf1
  have N1 := fun w => l3Nonce_any s t w hS ht
  generalize M.nonceN s t = n at *
  go_enter Tryz.func61, Tryz.ntmps61
  go_wp2_with fail
  refine (N1 _).mono ?_
  rintro r w1 ⟨rfl, h1⟩
  go_wp2_with fail
  refine (K2 _).mono ?_
  rintro r w2 ⟨rfl, h2⟩
  have k0 : (w2.alloc (.cells #[.int .i64 n, .int .i64 P] 96)).drew.cell? ⟨w2.heap.size, 0, none⟩ = some (.int .i64 n) := by go_simp
  have k1 : (w2.alloc (.cells #[.int .i64 n, .int .i64 P] 96)).drew.cell? ⟨w2.heap.size, 1, none⟩ = some (.int .i64 P) := by go_simp
  have hbel := (bal (btr h1 h2) (.cells #[.int .i64 n, .int .i64 P] 96)).drew
  have hR0 := Res2.new w 31
  have hb0 := bal (Below.refl _ w) (.cells #[.int .i64 0, .int .i64 0] 31)
  clear h1 h2
  go_wp2_with fail
  generalize w2.alloc (.cells #[.int .i64 n, .int .i64 P] 96) = v2 at *
  generalize w.alloc (.cells #[.int .i64 0, .int .i64 0] 31) = W0 at *
  go_region_held3 (fun w' => w'.cell? ⟨w2.heap.size, 1, none⟩ = some (.int .i64 P)) (first | exact k1) (first | (go_at_call 54; refine (K1 _).mono ?_; rintro r wn ⟨rfl, hbn⟩; have pk := cell_keep hbn k0; clear k0; have k0 := pk; clear pk; have pk := cell_keep hbn k1; clear k1; have k1 := pk; clear pk; have bk := btr hbel hbn; clear hbel; have hbel := bk; clear bk hbn) | (go_at_call 86; refine (l3Challenge_any _ _ _ _ hp1 hp2 ht).mono ?_; rintro r wn ⟨rfl, hbn⟩; have pk := cell_keep hbn k0; clear k0; have k0 := pk; clear pk; have pk := cell_keep hbn k1; clear k1; have k1 := pk; clear pk; have bk := btr hbel hbn; clear hbel; have hbel := bk; clear bk hbn))
  all_goals
    obtain ⟨q0, q1, z0, z1⟩ := hR0.on hbel
    go_wp2_with fail
    exact bodyPost_ret (v := I2 P ((n + M.chalN U P t * s) % 1439)) (by simp [results, Tryz.results61, go_sem, q0, q1]) rfl ⟨rfl, bset (bset (btr hb0 hbel) (Nat.le_refl _) _) (Nat.le_refl _) _⟩

theorem checkB_yes {u t p q : Int} (hu : pubB u = true) (ht : M.sumB t = true) (hg : M.sigB p q = true) : M.checkB u t p q = (M.pw 4 q.toNat 2879 == p * M.pw u (M.chalN u p t).toNat 2879 % 2879) := by
  simp only [M.checkB, hu, ht, hg, Bool.and_self, Bool.true_and]

end Go.Proofs.YtepailfhagaboaaGreatDoor
