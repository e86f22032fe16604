/- Contracts of how signatures are read out of bytes, by the program and by its model. Conditions: as each theorem states. -/
import Derived.Test.YtkondaojikfbjaaDoorC3e
import Derived.Test.YtkondaojikfbjaaDoorLine
namespace Go.Proofs.YtkondaojikfbjaaDoor
open Go.RowKit
set_option maxRecDepth 100000
set_option linter.unusedVariables false

theorem bdrew (w : World) : Below w.heap.size w w.drew := (Below.refl _ _).drew

/-- Two bytes, the higher one first. -/
theorem or_two (x y : Nat) (hx : x ≤ 255) (hy : y ≤ 255) : bits .or .i64 ((x : Int) * 256) (y : Int) = 256 * (x : Int) + y := by
  have e1 : BitVec.ofInt 64 ((x : Int) * 256) = BitVec.ofNat 64 (x * 256) := by
    rw [show (x : Int) * 256 = ((x * 256 : Nat) : Int) by omega, BitVec.ofInt_natCast]
  have e2 : BitVec.ofInt 64 (y : Int) = BitVec.ofNat 64 y := BitVec.ofInt_natCast ..
  show IntKind.i64.wrap ((BitVec.ofInt 64 ((x : Int) * 256) ||| BitVec.ofInt 64 (y : Int)).toNat : Nat) = _
  rw [e1, e2, BitVec.toNat_or, BitVec.toNat_ofNat, BitVec.toNat_ofNat, Nat.mod_eq_of_lt (by omega), Nat.mod_eq_of_lt (by omega)]
  have h := Nat.shiftLeft_add_eq_or_of_lt (i := 8) (b := y) (by omega) x
  rw [Nat.shiftLeft_eq] at h
  rw [show x * 256 = x * 2 ^ 8 from rfl, ← h, IntKind.wrap_i64]
  omega

theorem readTwo_any (b off len cap : Nat) (x y : Int) (w : World) (hl : 2 ≤ len) (hc : len ≤ cap) (hm : cap ≤ maxLen) (c0 : w.cell? ⟨b, off, none⟩ = some (.int .u8 x)) (c1 : w.cell? ⟨b, off + 1, none⟩ = some (.int .u8 y))
    (x0 : 0 ≤ x) (x1 : x ≤ 255) (y0 : 0 ≤ y) (y1 : y ≤ 255) :
    Calls Tryd.prog 95 #[.slice (some ⟨b, off, none⟩) len cap] w fun r w' => r = .returned (.int .i64 (256 * x + y)) ∧ Below w.heap.size w w' := by
  unfold maxLen at hm
  obtain ⟨x, rfl⟩ := Int.eq_ofNat_of_zero_le x0
  obtain ⟨y, rfl⟩ := Int.eq_ofNat_of_zero_le y0
  have ho := or_two x y (by omega) (by omega)
  go_enter Tryd.func95, Tryd.ntmps95
  go_wp2_with fail
  go_quiet (fail)
  go_wp2_with fail
  go_ret
  refine ⟨?_, bdrewN (Below.refl _ _) _⟩
  rfl
theorem l1At_any (b off len cap k : Nat) (x y : Int) (w : World) (hl : k + 1 < len) (hk : k ≤ 1000) (hc : len ≤ cap) (hm : cap ≤ maxLen) (c0 : w.cell? ⟨b, off + k, none⟩ = some (.int .u8 x)) (c1 : w.cell? ⟨b, off + (k + 1), none⟩ = some (.int .u8 y))
    (x0 : 0 ≤ x) (x1 : x ≤ 255) (y0 : 0 ≤ y) (y1 : y ≤ 255) :
    Calls Tryd.prog 111 #[.slice (some ⟨b, off, none⟩) len cap, .int .i64 k] w fun r w' => r = .returned (.int .i64 (256 * x + y)) ∧ Below w.heap.size w w' := by
  unfold maxLen at hm
  go_enter Tryd.func111, Tryd.ntmps111
  go_wp2_with fail
  go_quiet (fail)
  go_wp2_with fail
  go_ret
  refine ⟨?_, bdrewN (Below.refl _ _) _⟩
  rfl

/-- What four bytes are, cell by cell. -/
theorem row_four {w : World} {B : Nat} {a : Option Addr} {cap : Nat} {zs : List Int} (hR : Row .u8 w B a 4 cap zs) :
    ∃ b off, ∃ x y u v : Int, a = some ⟨b, off, none⟩ ∧ zs = [x, y, u, v] ∧ w.cell? ⟨b, off, none⟩ = some (.int .u8 x) ∧ w.cell? ⟨b, off + 1, none⟩ = some (.int .u8 y) ∧ w.cell? ⟨b, off + 2, none⟩ = some (.int .u8 u) ∧ w.cell? ⟨b, off + 3, none⟩ = some (.int .u8 v) ∧
      0 ≤ x ∧ x ≤ 255 ∧ 0 ≤ y ∧ y ≤ 255 ∧ 0 ≤ u ∧ u ≤ 255 ∧ 0 ≤ v ∧ v ≤ 255 := by
  obtain ⟨b, off, ha, _, hc⟩ := hR.cells (by omega)
  have b0 := hR.byte 0
  have b1 := hR.byte 1
  have b2 := hR.byte 2
  have b3 := hR.byte 3
  have h0 := hc 0 (by omega)
  have h1 := hc 1 (by omega)
  have h2 := hc 2 (by omega)
  have h3 := hc 3 (by omega)
  have hl := hR.length
  match zs, hl with
  | [x, y, u, v], _ =>
    refine ⟨b, off, x, y, u, v, ha, rfl, h0, h1, h2, h3, b0.1, b0.2, b1.1, b1.2, b2.1, b2.2, b3.1, b3.2⟩

theorem readR_no {zs : List Int} (h : M.readB zs = false) : M.readR zs = (5, 0, 0) := by simp [M.readR, h]
theorem readR_yes {zs : List Int} (h : M.readB zs = true) : M.readR zs = (0, M.readP zs, M.readQ zs) := by simp [M.readR, h]

theorem implReadSign_any (a : Option Addr) (len cap B : Nat) (zs : List Int) (w : World) (hR : Row .u8 w B a len cap zs) (hB : B ≤ w.heap.size) :
    Calls Tryd.prog 46 #[.slice a len cap] w fun r w' => r = .returned (I3 (M.readR zs).1 (M.readR zs).2.1 (M.readR zs).2.2) ∧ Below w.heap.size w w' := by
  have hlen := hR.fits
  have hmost := hR.most
  by_cases h4 : len = 4
  · subst h4
    obtain ⟨b, off, x, y, u, v, rfl, rfl, d0', d1', d2', d3', x0, x1, y0, y1, u0, u1, v0, v1⟩ := row_four hR
    have eP : M.readP [x, y, u, v] = 256 * x + y := by simp [M.readP]
    have eQ : M.readQ [x, y, u, v] = 256 * u + v := by simp [M.readQ]
    have T1 := fun (w' : World) d0 d1 => readTwo_any b off 4 cap x y w' (by omega) hlen hmost d0 d1 x0 x1 y0 y1
    have T2 := fun (w' : World) d2 d3 => readTwo_any b (off + 2) 2 (cap - 2) u v w' (by omega) (by omega) (by omega) d2 d3 u0 u1 v0 v1
    have hb0 := bal (Below.refl _ w) (.cells #[.int .i64 0, .int .i64 0, .int .i64 0] 51)
    have hR0 := Res3.new w 51
    have d0 := cell_keep hb0 d0'
    have d1 := cell_keep hb0 d1'
    have d2 := cell_keep hb0 d2'
    have d3 := cell_keep hb0 d3'
    have hm2 := hmost
    unfold maxLen at hm2
    clear hR d0' d1' d2' d3'
    cases hS : M.sigB (256 * x + y) (256 * u + v)
    · have E : M.readR [x, y, u, v] = (5, 0, 0) := readR_no (by simp only [M.readB, eP, eQ, hS, Bool.and_false])
      rw [E]; clear E eP eQ
      go_enter Tryd.func46, Tryd.ntmps46
      go_wp2_with fail
      generalize w.alloc (.cells #[.int .i64 0, .int .i64 0, .int .i64 0] 51) = W0 at *
      refine wp_region_line (Bel W0) [(0, true), (2, true), (3, true), (1, false), (4, false), (5, false), (6, false), (7, true), (8, true), (9, true), (10, true), (11, true)] (by kernel_rfl) (by kernel_rfl) (fun _ _ d _ _ h => by cases d <;> exact h) (Bel.drew W0) ?_
      have hst := Bel.drew W0
      have inst : Nonempty (Of (Bel W0)) := ⟨⟨_, hst⟩⟩
      iterate 3 (refine line_read rfl (by kernel_rfl) (fun K hK => ?_); go_big_quiet_op; refine hK _ ?_; clear hK K)
      refine line_alone rfl (by kernel_rfl) (fun K hK => ?_)
      refine call_wp (args := #[.slice (some ⟨b, off, none⟩) 4 cap]) rfl (by kernel_rfl) (by kernel_rfl) (T1 _ (cell_keep hst.out d0) (cell_keep hst.out d1)) (fun wn hbn => ?_)
      have hst2 := hst.on hbn
      refine hK _ _ hst2 ?_
      clear hK K hst hbn
      have hst := hst2
      clear hst2
      simp only [Act.put, List.setIfInBounds_toArray, List.set_cons_zero, List.set_cons_succ]
      refine line_alone rfl (by kernel_rfl) (fun K hK => ?_)
      refine call_wp (args := #[.slice (some ⟨b, off + 2, none⟩) 2 (cap - 2)]) rfl (by kernel_rfl) (by kernel_rfl) (T2 _ (cell_keep hst.out d2) (cell_keep hst.out d3)) (fun wn hbn => ?_)
      have hst2 := hst.on hbn
      refine hK _ _ hst2 ?_
      clear hK K hst hbn
      have hst := hst2
      clear hst2
      simp only [Act.put, List.setIfInBounds_toArray, List.set_cons_zero, List.set_cons_succ]
      refine line_value (v := I2 (256 * x + y) (256 * u + v)) rfl (by kernel_rfl) (by kernel_rfl) hst ?_
      simp only [Act.put, List.setIfInBounds_toArray, List.set_cons_zero, List.set_cons_succ]
      refine line_alone rfl (by kernel_rfl) (fun K hK => ?_)
      refine call_any (args := #[I2 (256 * x + y) (256 * u + v)]) rfl (by kernel_rfl) (by kernel_rfl) (pairOf_no _ _ _ hS) ?_
      rintro e wn ⟨m, pv, rfl, hbn⟩
      have hst2 := hst.on hbn
      refine ⟨_, rfl, hK _ _ hst2 ?_⟩
      clear hK K hst hbn
      simp only [Act.put, List.setIfInBounds_toArray, List.set_cons_zero, List.set_cons_succ]
      iterate 5 (refine line_read rfl (by kernel_rfl) (fun K hK => ?_); go_big_quiet_op; refine hK _ ?_; clear hK K)
      refine line_nil ?_
      have hbel := hst2.out
      obtain ⟨q0, q1, q2, z0, z1, z2⟩ := hR0.on hbel
      go_wp2_with fail
      exact bodyPost_ret (v := I3 5 0 0) (by simp [results, Tryd.results46, go_sem, q0, q1, q2]) rfl ⟨rfl, bset (bset (bset (btr hb0 hbel) (Nat.le_refl _) _) (Nat.le_refl _) _) (Nat.le_refl _) _⟩
    · have E : M.readR [x, y, u, v] = (0, 256 * x + y, 256 * u + v) := by rw [readR_yes (by simp only [M.readB, eP, eQ, hS]; rfl), eP, eQ]
      rw [E]; clear E eP eQ
      obtain ⟨p0, p1, q0', q1'⟩ := M.sigB_bd hS
      have Y1 := fun w => pairOf_yes (256 * x + y) (256 * u + v) w hS
      have P1 := fun w => point_any (256 * x + y) (256 * u + v) w (by omega) (by omega)
      have P2 := fun w => proof_any (256 * x + y) (256 * u + v) w (by omega) (by omega)
      generalize pairV (256 * x + y) (256 * u + v) = V at *
      go_enter Tryd.func46, Tryd.ntmps46
      go_wp2_with fail
      generalize w.alloc (.cells #[.int .i64 0, .int .i64 0, .int .i64 0] 51) = W0 at *
      refine wp_region_line (Bel W0) [(0, true), (2, true), (3, true), (1, false), (4, false), (5, false), (6, false), (7, true), (8, true), (9, true), (10, true), (11, true)] (by kernel_rfl) (by kernel_rfl) (fun _ _ d _ _ h => by cases d <;> exact h) (Bel.drew W0) ?_
      have hst := Bel.drew W0
      have inst : Nonempty (Of (Bel W0)) := ⟨⟨_, hst⟩⟩
      iterate 3 (refine line_read rfl (by kernel_rfl) (fun K hK => ?_); go_big_quiet_op; refine hK _ ?_; clear hK K)
      refine line_alone rfl (by kernel_rfl) (fun K hK => ?_)
      refine call_wp (args := #[.slice (some ⟨b, off, none⟩) 4 cap]) rfl (by kernel_rfl) (by kernel_rfl) (T1 _ (cell_keep hst.out d0) (cell_keep hst.out d1)) (fun wn hbn => ?_)
      have hst2 := hst.on hbn
      refine hK _ _ hst2 ?_
      clear hK K hst hbn
      have hst := hst2
      clear hst2
      simp only [Act.put, List.setIfInBounds_toArray, List.set_cons_zero, List.set_cons_succ]
      refine line_alone rfl (by kernel_rfl) (fun K hK => ?_)
      refine call_wp (args := #[.slice (some ⟨b, off + 2, none⟩) 2 (cap - 2)]) rfl (by kernel_rfl) (by kernel_rfl) (T2 _ (cell_keep hst.out d2) (cell_keep hst.out d3)) (fun wn hbn => ?_)
      have hst2 := hst.on hbn
      refine hK _ _ hst2 ?_
      clear hK K hst hbn
      have hst := hst2
      clear hst2
      simp only [Act.put, List.setIfInBounds_toArray, List.set_cons_zero, List.set_cons_succ]
      refine line_value (v := I2 (256 * x + y) (256 * u + v)) rfl (by kernel_rfl) (by kernel_rfl) hst ?_
      simp only [Act.put, List.setIfInBounds_toArray, List.set_cons_zero, List.set_cons_succ]
      refine line_alone rfl (by kernel_rfl) (fun K hK => ?_)
      refine call_wp (args := #[I2 (256 * x + y) (256 * u + v)]) rfl (by kernel_rfl) (by kernel_rfl) (Y1 _) (fun wn hbn => ?_)
      have hst2 := hst.on hbn
      refine hK _ _ hst2 ?_
      clear hK K hst hbn
      have hst := hst2
      clear hst2
      simp only [Act.put, List.setIfInBounds_toArray, List.set_cons_zero, List.set_cons_succ]
      iterate 5 (refine line_read rfl (by kernel_rfl) (fun K hK => ?_); go_big_quiet_op; refine hK _ ?_; clear hK K)
      refine line_nil ?_
      have hbel := hst.out
      go_wp2_with fail
      refine (P1 _).mono ?_
      rintro r w' ⟨rfl, rfl⟩
      go_wp2_with fail
      refine (P2 _).mono ?_
      rintro r w' ⟨rfl, rfl⟩
      obtain ⟨q0, q1, q2, z0, z1, z2⟩ := hR0.on hbel
      go_wp2_with fail
      exact bodyPost_ret (v := I3 0 (256 * x + y) (256 * u + v)) (by simp [results, Tryd.results46, go_sem, q0, q1, q2]) rfl ⟨rfl, bset (bset (bset (btr hb0 hbel) (Nat.le_refl _) _) (Nat.le_refl _) _) (Nat.le_refl _) _⟩
  · have E : M.readR zs = (5, 0, 0) := readR_no (by simp only [M.readB, hR.length, h4, decide_false, Bool.false_and])
    rw [E]; clear E
    have e4 : ((len : Int) == 4) = false := by rw [beq_eq_false_iff_ne]; omega
    unfold maxLen at hmost
    clear h4
    go_enter Tryd.func46, Tryd.ntmps46
    go_wp2_with fail
    exact bodyPost_ret (v := I3 5 0 0) (by simp [results, Tryd.results46, go_sem]) rfl ⟨rfl, bal (Below.refl _ _) _⟩
end Go.Proofs.YtkondaojikfbjaaDoor
