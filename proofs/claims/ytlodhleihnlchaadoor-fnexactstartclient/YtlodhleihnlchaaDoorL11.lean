/- Contracts of what the laws do with clients and with results of handshakes: compare them, copy them, count them. Conditions: as each theorem states. -/
import Derived.Test.YtlodhleihnlchaaDoorL6
import Derived.Test.YtlodhleihnlchaaDoorMath11
namespace Go.Proofs.YtlodhleihnlchaaDoor
open Go.RowKit
set_option maxRecDepth 100000
set_option linter.unusedVariables false

/-- A client's result; keys; a result of a handshake. -/
abbrev C5 (c k r s : Int) (n : ByteArray) : Value := .agg #[.int .i64 c, .int .i64 k, .int .i64 r, .int .i64 s, .string n]
abbrev CL5 (c k r s : Int) (n : ByteArray) : List Value := [.int .i64 c, .int .i64 k, .int .i64 r, .int .i64 s, .string n]
abbrev K4 (u d h k : Int) : Value := .agg #[.int .i64 u, .int .i64 d, .int .i64 h, .int .i64 k]
abbrev KL4 (u d h k : Int) : List Value := [.int .i64 u, .int .i64 d, .int .i64 h, .int .i64 k]
abbrev T11 (t : TakD) : Value := .agg #[.int .i64 t.c, .int .i64 t.r, .int .i64 t.s, .int .i64 t.p, .int .i64 t.x, .int .i64 t.y, .int .i64 t.f, .int .i64 t.u, .int .i64 t.d, .int .i64 t.h, .int .i64 t.k]
abbrev TL11 (t : TakD) : List Value := [.int .i64 t.c, .int .i64 t.r, .int .i64 t.s, .int .i64 t.p, .int .i64 t.x, .int .i64 t.y, .int .i64 t.f, .int .i64 t.u, .int .i64 t.d, .int .i64 t.h, .int .i64 t.k]

theorem toClient_any (k r s : Int) (n : ByteArray) (w : World) :
    Calls Tryd.prog 9 #[H4 k r s n] w fun e w' => e = .returned (H4 k r s n) ∧ Below w.heap.size w w' := by
  have b0 := bal (bal (bal (Below.refl _ w) (.cells #[.int .i64 k, .int .i64 r, .int .i64 s, .string n] 25)) (.cells #[.int .i64 0, .int .i64 0, .int .i64 0, .string { data := #[] }] 30)) (.cells #[.int .i64 k, .int .i64 0, .int .i64 0, .string { data := #[] }] 30)
  have A0 := ((At.new w (HL4 k r s n) 25).alloc (.cells #[.int .i64 0, .int .i64 0, .int .i64 0, .string { data := #[] }] 30)).alloc (.cells #[.int .i64 k, .int .i64 0, .int .i64 0, .string { data := #[] }] 30)
  have A1 := (At.new (w.alloc (.cells #[.int .i64 k, .int .i64 r, .int .i64 s, .string n] 25)) (HL4 0 0 0 { data := #[] }) 30).alloc (.cells #[.int .i64 k, .int .i64 0, .int .i64 0, .string { data := #[] }] 30)
  have A2 := At.new ((w.alloc (.cells #[.int .i64 k, .int .i64 r, .int .i64 s, .string n] 25)).alloc (.cells #[.int .i64 0, .int .i64 0, .int .i64 0, .string { data := #[] }] 30)) (HL4 k 0 0 { data := #[] }) 30
  simp only [World.size_alloc] at A0 A1 A2
  go_enter Tryd.func9, Tryd.ntmps9
  go_wp2_with fail
  generalize ((w.alloc (.cells #[.int .i64 k, .int .i64 r, .int .i64 s, .string n] 25)).alloc (.cells #[.int .i64 0, .int .i64 0, .int .i64 0, .string { data := #[] }] 30)).alloc (.cells #[.int .i64 k, .int .i64 0, .int .i64 0, .string { data := #[] }] 30) = W0 at *
  refine (toHello_any r s n _).mono ?_
  rintro e u1 ⟨rfl, b1⟩
  have hb := btr b0 b1
  have d0 := (A1.on b1).cell 0 _ rfl
  have d1 := (A1.on b1).cell 1 _ rfl
  have d2 := (A1.on b1).cell 2 _ rfl
  have d3 := (A1.on b1).cell 3 _ rfl
  have z0 := (A1.on b1).free 0 _ rfl
  have z1 := (A1.on b1).free 1 _ rfl
  have z2 := (A1.on b1).free 2 _ rfl
  have z3 := (A1.on b1).free 3 _ rfl
  have q0 := (A2.on b1).cell 0 _ rfl
  have q1 := (A2.on b1).cell 1 _ rfl
  have q2 := (A2.on b1).cell 2 _ rfl
  have q3 := (A2.on b1).cell 3 _ rfl
  have v0 := (A2.on b1).free 0 _ rfl
  have v1 := (A2.on b1).free 1 _ rfl
  have v2 := (A2.on b1).free 2 _ rfl
  have v3 := (A2.on b1).free 3 _ rfl
  clear A0 A1 A2 b0 b1
  go_wp2_with fail
  refine bodyPost_ret (v := H4 k r s n) (by simp [results, Tryd.results9, go_sem, d0, d1, d2, d3]) rfl ⟨rfl, ?_⟩
  exact (by (iterate 7 (refine bset ?_ (by dsimp only; omega) _)); exact hb)
theorem szClient_any (k r s : Int) (n : ByteArray) (l : Int) (w : World) (hn : n.size ≤ maxLen) (l0 : 0 ≤ l) (l1 : l ≤ 1048576) :
    Calls Tryd.prog 7 #[H4 k r s n, .int .i64 l] w fun e w' => e = .returned (.int .i64 (if l < n.size then -1 else l - n.size)) ∧ Below w.heap.size w w' := by
  have b0 := bal (Below.refl _ w) (.cells #[.int .i64 k, .int .i64 r, .int .i64 s, .string n] 25)
  have F := fun w => szHello_any r s n l w hn l0 l1
  unfold maxLen at hn
  by_cases h : l < n.size
  · simp only [if_pos h] at F ⊢
    go_enter Tryd.func7, Tryd.ntmps7
    go_wp2_with fail
    refine (F _).mono ?_
    rintro e u1 ⟨rfl, b1⟩
    have hb := btr b0 b1
    go_wp2_with fail
    go_ret
    exact ⟨rfl, hb⟩
  · simp only [if_neg h] at F ⊢
    have h' : ¬ l - n.size < 0 := by omega
    go_enter Tryd.func7, Tryd.ntmps7
    go_wp2_with fail
    refine (F _).mono ?_
    rintro e u1 ⟨rfl, b1⟩
    have hb := btr b0 b1
    go_wp2_with fail
    go_ret
    exact ⟨rfl, hb⟩
theorem eqClient_any (k r s : Int) (n : ByteArray) (w : World) :
    Calls Tryd.prog 31 #[H4 k r s n, H4 k r s n] w fun e w' => e = .returned (.bool true) ∧ Below w.heap.size w w' := by
  have b0 := bal (bal (Below.refl _ w) (.cells #[.int .i64 k, .int .i64 r, .int .i64 s, .string n] 30)) (.cells #[.int .i64 k, .int .i64 r, .int .i64 s, .string n] 30)
  go_enter Tryd.func31, Tryd.ntmps31
  go_wp2_with fail
  refine (eqHello_any r s n _).mono ?_
  rintro e u1 ⟨rfl, b1⟩
  have hb := btr b0 b1
  go_wp2_with fail
  go_ret
  exact ⟨rfl, hb⟩
theorem eqClientResult_any (c k r s : Int) (n : ByteArray) (w : World) :
    Calls Tryd.prog 13 #[C5 c k r s n, C5 c k r s n] w fun e w' => e = .returned (.bool true) ∧ Below w.heap.size w w' := by
  have b0 := bal (bal (Below.refl _ w) (.cells #[.int .i64 c, .int .i64 k, .int .i64 r, .int .i64 s, .string n] 34)) (.cells #[.int .i64 c, .int .i64 k, .int .i64 r, .int .i64 s, .string n] 34)
  go_enter Tryd.func13, Tryd.ntmps13
  go_wp2_with fail
  refine (eqClient_any k r s n _).mono ?_
  rintro e u1 ⟨rfl, b1⟩
  have hb := btr b0 b1
  go_wp2_with fail
  go_ret
  exact ⟨rfl, hb⟩
end Go.Proofs.YtlodhleihnlchaaDoor
