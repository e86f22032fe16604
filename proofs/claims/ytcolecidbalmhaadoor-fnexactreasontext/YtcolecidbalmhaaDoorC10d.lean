/- Contracts of the words for reasons, by the program and by its model. Conditions: as each theorem states. -/
import Derived.Test.YtcolecidbalmhaaDoorMath10
import Derived.Test.YtcolecidbalmhaaDoorC5g
import Derived.Test.YtcolecidbalmhaaDoorC4b
namespace Go.Proofs.YtcolecidbalmhaaDoor
open Go.RowKit
set_option maxRecDepth 100000
set_option linter.unusedVariables false

/-- The words for the reasons. -/
def reasonW : List ByteArray := [{ data := #[] }, { data := #[100, 97, 110, 101] }, { data := #[110, 111, 45, 100, 97, 110, 101] }, { data := #[97, 99, 116, 105, 118, 101] }, { data := #[98, 97, 99, 107, 117, 112] }, { data := #[111, 116, 104, 101, 114] }, { data := #[101, 120, 112, 105, 114, 101, 100] }, { data := #[102, 105, 114, 115, 116] }, { data := #[114, 101, 102, 117, 115, 101, 100] }]
/-- The program's table of them. -/
structure Texts (w : World) : Prop where
  t1 : w.cell? ⟨0, 1, none⟩ = some (.string { data := #[100, 97, 110, 101] })
  t2 : w.cell? ⟨0, 2, none⟩ = some (.string { data := #[110, 111, 45, 100, 97, 110, 101] })
  t3 : w.cell? ⟨0, 3, none⟩ = some (.string { data := #[97, 99, 116, 105, 118, 101] })
  t4 : w.cell? ⟨0, 4, none⟩ = some (.string { data := #[98, 97, 99, 107, 117, 112] })
  t5 : w.cell? ⟨0, 5, none⟩ = some (.string { data := #[111, 116, 104, 101, 114] })
  t6 : w.cell? ⟨0, 6, none⟩ = some (.string { data := #[101, 120, 112, 105, 114, 101, 100] })
  t7 : w.cell? ⟨0, 7, none⟩ = some (.string { data := #[102, 105, 114, 115, 116] })
  t8 : w.cell? ⟨0, 8, none⟩ = some (.string { data := #[114, 101, 102, 117, 115, 101, 100] })
theorem Texts.on {w w' : World} (h : Texts w) (hb : Below w.heap.size w w') : Texts w' := ⟨cell_keep hb h.t1, cell_keep hb h.t2, cell_keep hb h.t3, cell_keep hb h.t4, cell_keep hb h.t5, cell_keep hb h.t6, cell_keep hb h.t7, cell_keep hb h.t8⟩
def textC (r : Int) : Int := if 1 ≤ r ∧ r ≤ 8 then 0 else 3
def textW (r : Int) : ByteArray := if 1 ≤ r ∧ r ≤ 8 then reasonW.getD r.toNat { data := #[] } else { data := #[] }
theorem text_no {r : Int} (h : ¬ (1 ≤ r ∧ r ≤ 8)) : textC r = 3 ∧ textW r = { data := #[] } := by unfold textC textW; rw [if_neg h, if_neg h]; exact ⟨rfl, rfl⟩
abbrev XV2 (c : Int) (t : ByteArray) : Value := .agg #[.int .i64 c, .string t]
theorem implReasonText_any (r : Int) (w : World) (tx : Texts w) : Calls Tryd.prog 21 #[.int .i64 r] w fun e w' => e = .returned (XV2 (textC r) (textW r)) ∧ Below w.heap.size w w' := by
  have b0 := bal (Below.refl _ w) (.cells #[.int .i64 0, .string { data := #[] }] 46)
  have A0 := At.new w [.int .i64 0, .string { data := #[] }] 46
  obtain ⟨t1, t2, t3, t4, t5, t6, t7, t8⟩ := tx.on b0
  clear tx
  clear A0
  by_cases h : 1 ≤ r ∧ r ≤ 8
  case neg =>
    rw [(text_no h).1, (text_no h).2]
    by_cases h1 : r < 1
    · clear h t1 t2 t3 t4 t5 t6 t7 t8
      go_enter Tryd.func21, Tryd.ntmps21
      go_wp2_with fail
      refine bodyPost_ret (v := XV2 3 { data := #[] }) (by simp [results, Tryd.results21, go_sem]) rfl ⟨rfl, ?_⟩
      exact bal (Below.refl _ _) _
    · have h8 : 8 < r := by omega
      clear h t1 t2 t3 t4 t5 t6 t7 t8
      go_enter Tryd.func21, Tryd.ntmps21
      go_wp2_with fail
      refine bodyPost_ret (v := XV2 3 { data := #[] }) (by simp [results, Tryd.results21, go_sem]) rfl ⟨rfl, ?_⟩
      exact bal (Below.refl _ _) _
  obtain ⟨h1, h8⟩ := h
  have hr : r = 1 ∨ r = 2 ∨ r = 3 ∨ r = 4 ∨ r = 5 ∨ r = 6 ∨ r = 7 ∨ r = 8 := by omega
  clear h1 h8
  rcases hr with rfl | rfl | rfl | rfl | rfl | rfl | rfl | rfl
  · go_enter Tryd.func21, Tryd.ntmps21
    go_wp2_with fail
    refine bodyPost_ret (v := XV2 0 { data := #[100, 97, 110, 101] }) (by simp [results, Tryd.results21, go_sem]) rfl ⟨rfl, ?_⟩
    exact bal (Below.refl _ _) _
  · go_enter Tryd.func21, Tryd.ntmps21
    go_wp2_with fail
    refine bodyPost_ret (v := XV2 0 { data := #[110, 111, 45, 100, 97, 110, 101] }) (by simp [results, Tryd.results21, go_sem]) rfl ⟨rfl, ?_⟩
    exact bal (Below.refl _ _) _
  · go_enter Tryd.func21, Tryd.ntmps21
    go_wp2_with fail
    refine bodyPost_ret (v := XV2 0 { data := #[97, 99, 116, 105, 118, 101] }) (by simp [results, Tryd.results21, go_sem]) rfl ⟨rfl, ?_⟩
    exact bal (Below.refl _ _) _
  · go_enter Tryd.func21, Tryd.ntmps21
    go_wp2_with fail
    refine bodyPost_ret (v := XV2 0 { data := #[98, 97, 99, 107, 117, 112] }) (by simp [results, Tryd.results21, go_sem]) rfl ⟨rfl, ?_⟩
    exact bal (Below.refl _ _) _
  · go_enter Tryd.func21, Tryd.ntmps21
    go_wp2_with fail
    refine bodyPost_ret (v := XV2 0 { data := #[111, 116, 104, 101, 114] }) (by simp [results, Tryd.results21, go_sem]) rfl ⟨rfl, ?_⟩
    exact bal (Below.refl _ _) _
  · go_enter Tryd.func21, Tryd.ntmps21
    go_wp2_with fail
    refine bodyPost_ret (v := XV2 0 { data := #[101, 120, 112, 105, 114, 101, 100] }) (by simp [results, Tryd.results21, go_sem]) rfl ⟨rfl, ?_⟩
    exact bal (Below.refl _ _) _
  · go_enter Tryd.func21, Tryd.ntmps21
    go_wp2_with fail
    refine bodyPost_ret (v := XV2 0 { data := #[102, 105, 114, 115, 116] }) (by simp [results, Tryd.results21, go_sem]) rfl ⟨rfl, ?_⟩
    exact bal (Below.refl _ _) _
  · go_enter Tryd.func21, Tryd.ntmps21
    go_wp2_with fail
    refine bodyPost_ret (v := XV2 0 { data := #[114, 101, 102, 117, 115, 101, 100] }) (by simp [results, Tryd.results21, go_sem]) rfl ⟨rfl, ?_⟩
    exact bal (Below.refl _ _) _
set_option maxHeartbeats 2000000 in
theorem l10Word_any (r : Nat) (w : World) (h : r ≤ 8) : Calls Tryd.prog 42 #[.int .i64 r] w fun e w' => e = .returned (.string (reasonW.getD r { data := #[] })) ∧ Below w.heap.size w w' := by
  have b0 := bal (Below.refl _ w) (.cells #[.string { data := #[] }, .string { data := #[100, 97, 110, 101] }, .string { data := #[110, 111, 45, 100, 97, 110, 101] }, .string { data := #[97, 99, 116, 105, 118, 101] }, .string { data := #[98, 97, 99, 107, 117, 112] }, .string { data := #[111, 116, 104, 101, 114] }, .string { data := #[101, 120, 112, 105, 114, 101, 100] }, .string { data := #[102, 105, 114, 115, 116] }, .string { data := #[114, 101, 102, 117, 115, 101, 100] }] 9)
  have hr : r = 0 ∨ r = 1 ∨ r = 2 ∨ r = 3 ∨ r = 4 ∨ r = 5 ∨ r = 6 ∨ r = 7 ∨ r = 8 := by omega
  clear h
  rcases hr with rfl | rfl | rfl | rfl | rfl | rfl | rfl | rfl | rfl
  · go_enter Tryd.func42, Tryd.ntmps42
    go_wp2_with fail
    go_ret
    exact ⟨rfl, b0⟩
  · go_enter Tryd.func42, Tryd.ntmps42
    go_wp2_with fail
    go_ret
    exact ⟨rfl, b0⟩
  · go_enter Tryd.func42, Tryd.ntmps42
    go_wp2_with fail
    go_ret
    exact ⟨rfl, b0⟩
  · go_enter Tryd.func42, Tryd.ntmps42
    go_wp2_with fail
    go_ret
    exact ⟨rfl, b0⟩
  · go_enter Tryd.func42, Tryd.ntmps42
    go_wp2_with fail
    go_ret
    exact ⟨rfl, b0⟩
  · go_enter Tryd.func42, Tryd.ntmps42
    go_wp2_with fail
    go_ret
    exact ⟨rfl, b0⟩
  · go_enter Tryd.func42, Tryd.ntmps42
    go_wp2_with fail
    go_ret
    exact ⟨rfl, b0⟩
  · go_enter Tryd.func42, Tryd.ntmps42
    go_wp2_with fail
    go_ret
    exact ⟨rfl, b0⟩
  · go_enter Tryd.func42, Tryd.ntmps42
    go_wp2_with fail
    go_ret
    exact ⟨rfl, b0⟩
theorem l1In_reason (r : Int) (w : World) : Calls Tryd.prog 41 #[.int .i64 r, .int .i64 1, .int .i64 8] w fun e w' => e = .returned (.bool (decide (1 ≤ r ∧ r ≤ 8))) ∧ w = w' := l1In_any r 1 8 w
theorem specReasonText_any (r : Int) (w : World) : Calls Tryd.prog 20 #[.int .i64 r] w fun e w' => e = .returned (XV2 (textC r) (textW r)) ∧ Below w.heap.size w w' := by
  have b0 := bal (Below.refl _ w) (.cells #[.int .i64 0, .string { data := #[] }] 46)
  have A0 := At.new w [.int .i64 0, .string { data := #[] }] 46
  have IN := fun w => l1In_reason r w
  by_cases h : 1 ≤ r ∧ r ≤ 8
  case neg =>
    rw [(text_no h).1, (text_no h).2]
    rw [decide_eq_false h] at IN
    clear A0
    go_enter Tryd.func20, Tryd.ntmps20
    go_wp2_with fail
    refine (IN _).mono ?_
    rintro r w' ⟨rfl, rfl⟩
    go_wp2_with fail
    refine bodyPost_ret (v := XV2 3 { data := #[] }) (by simp [results, Tryd.results20, go_sem]) rfl ⟨rfl, ?_⟩
    exact bal (Below.refl _ _) _
  rw [decide_eq_true h] at IN
  obtain ⟨k, rfl⟩ : ∃ k : Nat, r = k := Int.eq_ofNat_of_zero_le (by omega)
  have e1 : textC k = 0 := by unfold textC; rw [if_pos h]
  have e2 : textW k = reasonW.getD k { data := #[] } := by unfold textW; rw [if_pos h]; rfl
  rw [e1, e2]
  have W := fun w => l10Word_any k w (by omega)
  generalize reasonW.getD k { data := #[] } = t at *
  clear e1 e2
  go_enter Tryd.func20, Tryd.ntmps20
  go_wp2_with fail
  generalize w.alloc (.cells #[.int .i64 0, .string { data := #[] }] 46) = W0 at *
  refine (IN _).mono ?_
  rintro r' u1 ⟨rfl, rfl⟩
  go_wp2_with fail
  refine (W _).mono ?_
  rintro r' u1 ⟨rfl, b1⟩
  have A1 := A0.on b1
  have q0 := A1.cell 0 _ rfl
  have q1 := A1.cell 1 _ rfl
  have z0 := A1.free 0 _ rfl
  have z1 := A1.free 1 _ rfl
  have bb := btr b0 b1
  clear A0 A1
  go_wp2_with fail
  refine bodyPost_ret (v := XV2 0 t) (by simp [results, Tryd.results20, go_sem, q0, q1]) rfl ⟨rfl, ?_⟩
  refine bset (bset bb ?_ _) ?_ _ <;> exact Nat.le_refl _
end Go.Proofs.YtcolecidbalmhaaDoor
