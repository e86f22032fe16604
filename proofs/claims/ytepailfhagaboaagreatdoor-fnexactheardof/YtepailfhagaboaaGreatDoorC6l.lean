/- Contracts of what was heard, by the program and by its model. Conditions: as each theorem states. -/
import Derived.Test.YtepailfhagaboaaGreatDoorC6f
import Derived.Test.YtepailfhagaboaaGreatDoorC2f
namespace Go.Proofs.YtepailfhagaboaaGreatDoor
open Go.RowKit
set_option maxRecDepth 100000
set_option linter.unusedVariables false

/-- Two slices of bytes in a new block. -/
theorem grid_two {w : World} {a1 a2 : Option Addr} {n1 n2 c1 c2 : Nat} {z1 z2 : List Int} (t : TypeId) (R1 : Row .u8 w w.heap.size a1 n1 c1 z1) (R2 : Row .u8 w w.heap.size a2 n2 c2 z2) :
    Grid (w.alloc (.cells #[.slice a1 n1 c1, .slice a2 n2 c2] t)) (w.heap.size + 1) (some ⟨w.heap.size, 0, none⟩) 2 2 [z1, z2] :=
  ⟨rfl, Nat.le_refl _, by simp only [maxLen]; omega, fun _ => ⟨w.heap.size, 0, rfl, by omega, fun j hj => by
    have e1 : (w.alloc (.cells #[.slice a1 n1 c1, .slice a2 n2 c2] t)).heap[w.heap.size]? = some (.cells #[.slice a1 n1 c1, .slice a2 n2 c2] t) := (MapKept.heap_alloc w _).1
    match j, hj with
    | 0, _ => exact ⟨a1, n1, c1, by unfold World.cell?; show (match (w.alloc (.cells #[.slice a1 n1 c1, .slice a2 n2 c2] t)).heap[w.heap.size]? with | some (Obj.cells c elem frozen) => c[0]? | x => none) = _; rw [e1]; rfl, (R1.alloc (Nat.le_refl _) _).more (by omega)⟩
    | 1, _ => exact ⟨a2, n2, c2, by unfold World.cell?; show (match (w.alloc (.cells #[.slice a1 n1 c1, .slice a2 n2 c2] t)).heap[w.heap.size]? with | some (Obj.cells c elem frozen) => c[1]? | x => none) = _; rw [e1]; rfl, (R2.alloc (Nat.le_refl _) _).more (by omega)⟩⟩⟩
/-- The first n of a slice. -/
theorem Row.upto6 {k : IntKind} {w : World} {B : Nat} {a : Option Addr} {len cap : Nat} {zs : List Int} (h : Row k w B a len cap zs) (n : Nat) (hn : n ≤ len) : Row k w B a n cap (zs.take n) :=
  ⟨by simp [h.length]; omega, fun z hz => h.wf z (List.mem_of_mem_take hz), Nat.le_trans hn h.fits, h.most, fun hp => by
    obtain ⟨b, off, e, hb, hc⟩ := h.cells (by omega)
    refine ⟨b, off, e, hb, fun j hj => ?_⟩
    rw [hc j (by omega)]
    simp [List.getD, hj]⟩
/-- Below W, and two blocks hold their cells. -/
structure Hold2 (W : World) (g : Nat) (cs : List Value) (h : Nat) (ds : List Value) (cur : World) : Prop where
  bel : Below W.heap.size W cur
  one : At g cs cur
  two : At h ds cur
theorem Hold2.on {W : World} {g h : Nat} {cs ds : List Value} {cur cur' : World} (x : Hold2 W g cs h ds cur) (hb : Below cur.heap.size cur cur') : Hold2 W g cs h ds cur' := ⟨btr x.bel hb, x.one.on hb, x.two.on hb⟩
theorem Hold2.setB {W : World} {g h : Nat} {cs ds : List Value} {cur : World} (x : Hold2 W g cs h ds cur) {p : Addr} (hW : W.heap.size ≤ p.block) (hg : g ≠ p.block) (hh : h ≠ p.block) (u : Value) : Hold2 W g cs h ds (cur.setCell p u) := ⟨bset x.bel hW u, x.one.setB hg u, x.two.setB hh u⟩
theorem hold2_one {W : World} {g h : Nat} {cs ds : List Value} (i : Nat) (v : Value) (e : cs[i]? = some v) : ∀ z : Of (Hold2 W g cs h ds), z.val.cell? ⟨g, i, none⟩ = some v := fun z => z.prop.one.cell i v e
theorem hold2_two {W : World} {g h : Nat} {cs ds : List Value} (i : Nat) (v : Value) (e : ds[i]? = some v) : ∀ z : Of (Hold2 W g cs h ds), z.val.cell? ⟨h, i, none⟩ = some v := fun z => z.prop.two.cell i v e

def heaC (n : ByteArray) (r s : Int) (r2 s2 p x y f : Int) : Int := if helF n.data.toList r s = 0 then repF r2 s2 p x y f else helF n.data.toList r s
def heaV (n : ByteArray) (r s : Int) (r2 s2 p x y f : Int) : Int := if heaC n r s r2 s2 p x y f = 0 then M.heardL [packH n r s, frontR r2 s2 p] else 0
theorem hea_hel {n : ByteArray} {r s r2 s2 p x y f : Int} (h : ¬ helF n.data.toList r s = 0) : heaC n r s r2 s2 p x y f = helF n.data.toList r s ∧ heaV n r s r2 s2 p x y f = 0 := by
  have e : heaC n r s r2 s2 p x y f = helF n.data.toList r s := by simp [heaC, h]
  exact ⟨e, by unfold heaV; rw [e, if_neg h]⟩
theorem hea_rep {n : ByteArray} {r s r2 s2 p x y f : Int} (h : helF n.data.toList r s = 0) (h2 : ¬ repF r2 s2 p x y f = 0) : heaC n r s r2 s2 p x y f = repF r2 s2 p x y f ∧ heaV n r s r2 s2 p x y f = 0 := by
  have e : heaC n r s r2 s2 p x y f = repF r2 s2 p x y f := by simp [heaC, h]
  exact ⟨e, by unfold heaV; rw [e, if_neg h2]⟩
theorem hea_yes {n : ByteArray} {r s r2 s2 p x y f : Int} (h : helF n.data.toList r s = 0) (h2 : repF r2 s2 p x y f = 0) : heaC n r s r2 s2 p x y f = 0 ∧ heaV n r s r2 s2 p x y f = M.heardL [packH n r s, frontR r2 s2 p] := by
  have e : heaC n r s r2 s2 p x y f = 0 := by simp [heaC, h, h2]
  exact ⟨e, by unfold heaV; rw [if_pos e]⟩
theorem hea_R {n : ByteArray} {r s r2 s2 p : Int} (hn : n.size ≤ 20) : M.heardR [packH n r s, frontR r2 s2 p] = (0, M.heardL [packH n r s, frontR r2 s2 p]) := by
  unfold M.heardR
  have l1 := packH_length n r s
  have l2 := frontR_length r2 s2 p
  simp [M.longB, l1, l2]
  omega

theorem l6Heard_any (g h : Nat) (n : ByteArray) (r s r2 s2 p x y f : Int) (w : World) (A1 : At g (HL3 r s n) w) (A2 : At h (RL6 r2 s2 p x y f) w) (hh : helF n.data.toList r s = 0) (hr : repF r2 s2 p x y f = 0) :
    Calls Tryz.prog 50 #[.pointer (some ⟨g, 0, none⟩), .pointer (some ⟨h, 0, none⟩)] w fun e w' => e = .returned (.int .i64 (M.heardL [packH n r s, frontR r2 s2 p])) ∧ Below w.heap.size w w' := by
  obtain ⟨h1, h2, h3, h4, h5⟩ := repF_zero hr
  have P1 := fun w A => l6PackHello_any g r s n w A hh
  have P2 := fun w A => l6Front_any h r2 s2 p x y f w A h1 (pub_sum6 h2) (pub_sum6 h3)
  have HW := Lib.hid (And.intro (fun z hz => byte_wf (packH_byte hh z hz)) (fun z hz => byte_wf (packR_byte hr z (List.mem_append_left _ (List.mem_append_left _ hz)))))
  generalize packH n r s = z1 at *
  generalize frontR r2 s2 p = z2 at *
  have F3 := fun a len cap B w G hB hl => l2Heard_any a len cap B [z1, z2] w G hB hl
  generalize M.heardL [z1, z2] = hv at *
  go_enter Tryz.func50, Tryz.ntmps50
  go_wp2_with fail
  refine (P1 _ A1).mono ?_
  rintro e u1 ⟨a1, n1, c1, rfl, O1, b1⟩
  go_wp2_with fail
  refine (P2 _ (A2.on b1)).mono ?_
  rintro e u2 ⟨a2, n2, c2, rfl, O2, b2⟩
  have G := grid_two 22 ((Own.row O1 HW.out.1).on b2) (Own.row O2 HW.out.2)
  have B3 := bal (btr b1 b2) (.cells #[.slice a1 n1 c1, .slice a2 n2 c2] 22)
  have hle : u2.heap.size + 1 ≤ (u2.alloc (.cells #[.slice a1 n1 c1, .slice a2 n2 c2] 22)).heap.size := by simp
  clear O1 O2 b1 b2 P1 P2
  go_wp2_with fail
  generalize u2.alloc (.cells #[.slice a1 n1 c1, .slice a2 n2 c2] 22) = v2 at *
  refine (F3 _ _ _ _ _ G hle (by omega)).mono ?_
  rintro e u3 ⟨rfl, b3⟩
  have hb := btr B3 b3
  clear G
  go_wp2_with fail
  go_ret
  exact ⟨rfl, hb⟩
theorem specHeardOf_any (n : ByteArray) (r s r2 s2 p x y f : Int) (w : World) (hn : n.size ≤ maxLen) :
    Calls Tryz.prog 23 #[H3 r s n, R6 r2 s2 p x y f] w fun e w' => e = .returned (I2 (heaC n r s r2 s2 p x y f) (heaV n r s r2 s2 p x y f)) ∧ Below w.heap.size w w' := by
  have b0 := bal (bal (bal (Below.refl _ w) (.cells #[.int .i64 r, .int .i64 s, .string n] 26)) (.cells #[.int .i64 r2, .int .i64 s2, .int .i64 p, .int .i64 x, .int .i64 y, .int .i64 f] 33)) (.cells #[.int .i64 0, .int .i64 0] 49)
  have A1 := ((At.new w (HL3 r s n) 26).alloc (.cells #[.int .i64 r2, .int .i64 s2, .int .i64 p, .int .i64 x, .int .i64 y, .int .i64 f] 33)).alloc (.cells #[.int .i64 0, .int .i64 0] 49)
  have A2 := (At.new (w.alloc (.cells #[.int .i64 r, .int .i64 s, .string n] 26)) (RL6 r2 s2 p x y f) 33).alloc (.cells #[.int .i64 0, .int .i64 0] 49)
  have A3 := At.new ((w.alloc (.cells #[.int .i64 r, .int .i64 s, .string n] 26)).alloc (.cells #[.int .i64 r2, .int .i64 s2, .int .i64 p, .int .i64 x, .int .i64 y, .int .i64 f] 33)) [.int .i64 0, .int .i64 0] 49
  simp only [World.size_alloc] at A1 A2 A3
  have F1 := fun g w A => l6Hello_any g r s n w A hn
  have F2 := fun g w A => l6Reply_any g r2 s2 p x y f w A
  by_cases h1 : helF n.data.toList r s = 0
  · by_cases h2 : repF r2 s2 p x y f = 0
    · obtain ⟨e1, e2⟩ := hea_yes (x := x) (y := y) (f := f) h1 h2
      rw [e1, e2]
      have F3 := fun g h w A1 A2 => l6Heard_any g h n r s r2 s2 p x y f w A1 A2 h1 h2
      rw [h1] at F1
      rw [h2] at F2
      generalize M.heardL [packH n r s, frontR r2 s2 p] = hv at *
      clear e1 e2 h1 h2
      go_enter Tryz.func23, Tryz.ntmps23
      go_wp2_with fail
      generalize ((w.alloc (.cells #[.int .i64 r, .int .i64 s, .string n] 26)).alloc (.cells #[.int .i64 r2, .int .i64 s2, .int .i64 p, .int .i64 x, .int .i64 y, .int .i64 f] 33)).alloc (.cells #[.int .i64 0, .int .i64 0] 49) = W0 at *
      refine (F1 _ _ A1).mono ?_
      rintro e u1 ⟨rfl, b1⟩
      go_wp2_with fail
      refine (F2 _ _ (A2.on b1)).mono ?_
      rintro e u2 ⟨rfl, rfl⟩
      go_wp2_with fail
      refine (F3 _ _ _ (A1.on b1) (A2.on b1)).mono ?_
      rintro e u3 ⟨rfl, b3⟩
      have b13 := btr b1 b3
      have B3 := btr b0 b13
      clear b1 b3 F1 F2 F3
      have q0 := (A3.on b13).cell 0 _ rfl
      have q1 := (A3.on b13).cell 1 _ rfl
      have z0 := (A3.on b13).free 0 _ rfl
      have z1 := (A3.on b13).free 1 _ rfl
      clear A1 A2 A3
      go_wp2_with fail
      refine bodyPost_ret (v := I2 0 hv) (by simp [results, Tryz.results23, go_sem, q0, q1]) rfl ⟨rfl, ?_⟩
      exact (by (iterate 2 (refine bset ?_ (by dsimp only; omega) _)); exact B3)
    · obtain ⟨e1, e2⟩ := hea_rep (x := x) (y := y) (f := f) h1 h2
      rw [e1, e2]
      rw [h1] at F1
      generalize repF r2 s2 p x y f = cd at *
      clear e1 e2 h1
      go_enter Tryz.func23, Tryz.ntmps23
      go_wp2_with fail
      generalize ((w.alloc (.cells #[.int .i64 r, .int .i64 s, .string n] 26)).alloc (.cells #[.int .i64 r2, .int .i64 s2, .int .i64 p, .int .i64 x, .int .i64 y, .int .i64 f] 33)).alloc (.cells #[.int .i64 0, .int .i64 0] 49) = W0 at *
      refine (F1 _ _ A1).mono ?_
      rintro e u1 ⟨rfl, b1⟩
      go_wp2_with fail
      refine (F2 _ _ (A2.on b1)).mono ?_
      rintro e u2 ⟨rfl, rfl⟩
      have B3 := btr b0 b1
      clear F1 F2
      have q0 := (A3.on b1).cell 0 _ rfl
      have q1 := (A3.on b1).cell 1 _ rfl
      have z0 := (A3.on b1).free 0 _ rfl
      have z1 := (A3.on b1).free 1 _ rfl
      clear A1 A2 A3
      go_wp2_with fail
      refine bodyPost_ret (v := I2 cd 0) (by simp [results, Tryz.results23, go_sem, q0, q1]) rfl ⟨rfl, ?_⟩
      exact (by (iterate 2 (refine bset ?_ (by dsimp only; omega) _)); exact B3)
  · obtain ⟨e1, e2⟩ := hea_hel (r2 := r2) (s2 := s2) (p := p) (x := x) (y := y) (f := f) h1
    rw [e1, e2]
    generalize helF n.data.toList r s = cd at *
    clear e1 e2
    go_enter Tryz.func23, Tryz.ntmps23
    go_wp2_with fail
    generalize ((w.alloc (.cells #[.int .i64 r, .int .i64 s, .string n] 26)).alloc (.cells #[.int .i64 r2, .int .i64 s2, .int .i64 p, .int .i64 x, .int .i64 y, .int .i64 f] 33)).alloc (.cells #[.int .i64 0, .int .i64 0] 49) = W0 at *
    refine (F1 _ _ A1).mono ?_
    rintro e u1 ⟨rfl, b1⟩
    have B3 := btr b0 b1
    clear F1 F2
    have q0 := (A3.on b1).cell 0 _ rfl
    have q1 := (A3.on b1).cell 1 _ rfl
    have z0 := (A3.on b1).free 0 _ rfl
    have z1 := (A3.on b1).free 1 _ rfl
    clear A1 A2 A3
    go_wp2_with fail
    refine bodyPost_ret (v := I2 cd 0) (by simp [results, Tryz.results23, go_sem, q0, q1]) rfl ⟨rfl, ?_⟩
    exact (by (iterate 2 (refine bset ?_ (by dsimp only; omega) _)); exact B3)

theorem implHeardOf_any (n : ByteArray) (r s r2 s2 p x y f : Int) (w : World) (lab : Labels w) (ert : ErrT w) (hn : n.size ≤ maxLen) :
    Calls Tryz.prog 22 #[H3 r s n, R6 r2 s2 p x y f] w fun e w' => e = .returned (I2 (heaC n r s r2 s2 p x y f) (heaV n r s r2 s2 p x y f)) ∧ Below w.heap.size w w' := by
  have b0 := bal (bal (bal (Below.refl _ w) (.cells #[.int .i64 r, .int .i64 s, .string n] 26)) (.cells #[.int .i64 r2, .int .i64 s2, .int .i64 p, .int .i64 x, .int .i64 y, .int .i64 f] 33)) (.cells #[.int .i64 0, .int .i64 0] 49)
  have A1 := ((At.new w (HL3 r s n) 26).alloc (.cells #[.int .i64 r2, .int .i64 s2, .int .i64 p, .int .i64 x, .int .i64 y, .int .i64 f] 33)).alloc (.cells #[.int .i64 0, .int .i64 0] 49)
  have A2 := (At.new (w.alloc (.cells #[.int .i64 r, .int .i64 s, .string n] 26)) (RL6 r2 s2 p x y f) 33).alloc (.cells #[.int .i64 0, .int .i64 0] 49)
  have A3 := At.new ((w.alloc (.cells #[.int .i64 r, .int .i64 s, .string n] 26)).alloc (.cells #[.int .i64 r2, .int .i64 s2, .int .i64 p, .int .i64 x, .int .i64 y, .int .i64 f] 33)) [.int .i64 0, .int .i64 0] 49
  simp only [World.size_alloc] at A1 A2 A3
  have F1 := fun w => implPackHello_any r s n w hn
  have F2 := fun w E => implPackReply_any r2 s2 p x y f w E
  have L0 := lab.on b0
  have E0 := ert.on b0
  clear lab ert
  by_cases h1 : helF n.data.toList r s = 0
  · have k1 : packHL n r s = packH n r s := by simp [packHL, h1]
    rw [k1, h1] at F1
    by_cases h2 : repF r2 s2 p x y f = 0
    · obtain ⟨e1, e2⟩ := hea_yes (x := x) (y := y) (f := f) h1 h2
      rw [e1, e2]
      have k2 : packRL r2 s2 p x y f = packR r2 s2 p x y f := by simp [packRL, h2]
      rw [k2, h2] at F2
      have F3 := fun a len cap B zss w L G hB => implTranscript_any a len cap B zss w L G hB
      have hR := hea_R (r := r) (s := s) (r2 := r2) (s2 := s2) (p := p) (hel_size h1)
      have HW := Lib.hid (And.intro (fun z hz => byte_wf (packH_byte h1 z hz)) (fun z hz => byte_wf (packR_byte h2 z hz)))
      have ht : (packR r2 s2 p x y f).take 7 = frontR r2 s2 p := rfl
      have hl : (packR r2 s2 p x y f).length = 13 := rfl
      generalize M.heardL [packH n r s, frontR r2 s2 p] = hv at *
      generalize packR r2 s2 p x y f = z2 at *
      generalize frontR r2 s2 p = z3 at *
      generalize packH n r s = z1 at *
      clear e1 e2 h1 h2 k1 k2
      go_enter Tryz.func22, Tryz.ntmps22
      go_wp2_with fail
      generalize ((w.alloc (.cells #[.int .i64 r, .int .i64 s, .string n] 26)).alloc (.cells #[.int .i64 r2, .int .i64 s2, .int .i64 p, .int .i64 x, .int .i64 y, .int .i64 f] 33)).alloc (.cells #[.int .i64 0, .int .i64 0] 49) = W0 at *
      refine (F1 _).mono ?_
      rintro e u1 ⟨a1, n1, c1, rfl, O1, b1⟩
      have D1 := (At.new u1 [.int .i64 0, .slice a1 n1 c1] 39)
      have b2 := bal b1 (.cells #[.int .i64 0, .slice a1 n1 c1] 39)
      have R1 := (Own.row O1 HW.out.1).on (bal (Below.refl _ u1) (.cells #[.int .i64 0, .slice a1 n1 c1] 39))
      have B2 := btr b0 b2
      have A2' := A2.on b2
      have A3' := A3.on b2
      have E2 := E0.on b2
      have L2 := L0.on b2
      have lt1 : w.heap.size + 2 < u1.heap.size := (A3.on b1).lt (by simp)
      have d0 := A2'.cell 0 _ rfl
      have d1 := A2'.cell 1 _ rfl
      have d2 := A2'.cell 2 _ rfl
      have d3 := A2'.cell 3 _ rfl
      have d4 := A2'.cell 4 _ rfl
      have d5 := A2'.cell 5 _ rfl
      clear O1 b1 b0 b2 A1 A2 A3 E0 L0 F1
      go_wp2_with fail
      generalize u1.alloc (.cells #[.int .i64 0, .slice a1 n1 c1] 39) = v1 at *
      refine (F2 _ E2).mono ?_
      rintro e u2 ⟨a2, n2, c2, rfl, O2, b3⟩
      have l2 : n2 = 13 := (OwnK.len O2).trans hl
      subst l2
      have hc2 : 13 ≤ c2 ∧ c2 ≤ maxLen := by
        have := Own.row O2 HW.out.2
        exact ⟨this.fits, this.most⟩
      obtain ⟨g2, rfl⟩ : ∃ g, a2 = some ⟨g, 0, none⟩ := by
        rcases O2.2 with ⟨e, hz⟩ | ⟨g, cp, e, _⟩
        · rw [hl] at hz; omega
        · injection e with e1; exact ⟨g, e1⟩
      obtain ⟨hc2, hc3⟩ := hc2
      unfold maxLen at hc3
      have D2 := (At.new u2 [.int .i64 0, .slice (some ⟨g2, 0, none⟩) 13 c2] 39)
      have b4 := bal b3 (.cells #[.int .i64 0, .slice (some ⟨g2, 0, none⟩) 13 c2] 39)
      have R2 := ((Own.row O2 HW.out.2).upto6 7 (by omega)).on (bal (Below.refl _ u2) (.cells #[.int .i64 0, .slice (some ⟨g2, 0, none⟩) 13 c2] 39))
      rw [ht] at R2
      have R1' := R1.on b4
      have B4 := btr B2 b4
      have L4 := L2.on b4
      have A4 := A3'.on b4
      have lt2 : u1.heap.size < u2.heap.size := (D1.on b3).lt (by simp)
      have D1' := D1.on b4
      have k0 := D1'.cell 0 _ rfl
      have k1 := D1'.cell 1 _ rfl
      clear O2 b3 b4 B2 A2' A3' E2 L2 R1 F2 d0 d1 d2 d3 d4 d5
      go_wp2_with fail
      generalize u2.alloc (.cells #[.int .i64 0, .slice (some ⟨g2, 0, none⟩) 13 c2] 39) = v2 at *
      have S0 : Hold2 w u1.heap.size [.int .i64 0, .slice a1 n1 c1] u2.heap.size [.int .i64 0, .slice (some ⟨g2, 0, none⟩) 13 c2] v2.drew := ⟨B4.drew, D1'.on (bdrew v2), D2.on (bdrew v2)⟩
      have RA := R1'.on (bdrew v2)
      have RB := R2.on (bdrew v2)
      have AA := A4.on (bdrew v2)
      have LL := L4.on (bdrew v2)
      refine wp_region_line (Hold2 w u1.heap.size [.int .i64 0, .slice a1 n1 c1] u2.heap.size [.int .i64 0, .slice (some ⟨g2, 0, none⟩) 13 c2]) [(0, true), (1, true), (2, true), (3, true), (4, true), (5, false), (6, false), (7, false)] (by kernel_rfl) (by kernel_rfl) (fun _ _ d _ _ h => by cases d <;> exact h) S0 ?_
      have hst := S0
      have inst : Nonempty (Of (Hold2 w u1.heap.size [.int .i64 0, .slice a1 n1 c1] u2.heap.size [.int .i64 0, .slice (some ⟨g2, 0, none⟩) 13 c2])) := ⟨⟨_, hst⟩⟩
      have q1 := hold2_one (W := w) (g := u1.heap.size) (h := u2.heap.size) (cs := [.int .i64 0, .slice a1 n1 c1]) (ds := [.int .i64 0, .slice (some ⟨g2, 0, none⟩) 13 c2]) 1 _ rfl
      have q2 := hold2_two (W := w) (g := u1.heap.size) (h := u2.heap.size) (cs := [.int .i64 0, .slice a1 n1 c1]) (ds := [.int .i64 0, .slice (some ⟨g2, 0, none⟩) 13 c2]) 1 _ rfl
      clear S0 R1' R2 A4 L4 B4 D1' D2 D1 k0 k1
      generalize v2.drew = V at *
      iterate 5 (refine line_read rfl (by kernel_rfl) (fun K hK => ?_); go_big_quiet_op; refine hK _ ?_; clear hK K)
      clear q1 q2
      refine line_alone rfl (by kernel_rfl) (fun K hK => ?_)
      go_big_op
      refine hK _ _ (hst.on (bal (Below.refl _ V) _)) ?_
      clear hK K
      have G := grid_two 22 RA RB
      have st2 := hst.on (bal (Below.refl _ V) (.cells #[.slice a1 n1 c1, .slice (some ⟨g2, 0, none⟩) 7 c2] 22))
      have A5 := AA.alloc (.cells #[.slice a1 n1 c1, .slice (some ⟨g2, 0, none⟩) 7 c2] 22)
      have L5 := LL.on (bal (Below.refl _ V) (.cells #[.slice a1 n1 c1, .slice (some ⟨g2, 0, none⟩) 7 c2] 22))
      have hle : V.heap.size + 1 ≤ (V.alloc (.cells #[.slice a1 n1 c1, .slice (some ⟨g2, 0, none⟩) 7 c2] 22)).heap.size := by simp
      generalize V.alloc (.cells #[.slice a1 n1 c1, .slice (some ⟨g2, 0, none⟩) 7 c2] 22) = V2 at *
      have T := F3 _ _ _ _ _ _ L5 G hle
      rw [hR] at T
      refine line_alone rfl (by kernel_rfl) (fun K hK => ?_)
      refine call_any (args := #[.slice (some ⟨V.heap.size, 0, none⟩) 2 2]) rfl (by kernel_rfl) (by kernel_rfl) T ?_
      rintro e V3 ⟨rfl, b5⟩
      have st3 := st2.on b5
      have A6 := A5.on b5
      refine ⟨_, rfl, hK _ _ st3 ?_⟩
      clear hK K st2 A5 L5 G T b5
      simp only [Act.put, List.setIfInBounds_toArray, List.set_cons_zero, List.set_cons_succ]
      have q0 := A6.cell 0 _ rfl
      have q1 := A6.cell 1 _ rfl
      have z0 := A6.free 0 _ rfl
      have z1 := A6.free 1 _ rfl
      refine line_alone rfl (by kernel_rfl) (fun K hK => ?_)
      go_big_op
      refine hK _ _ ((by (iterate 2 (refine Hold2.setB ?_ (by dsimp only; omega) (by dsimp only; omega) (by dsimp only; omega) _)); exact st3)) ?_
      clear hK K
      refine line_nil ?_
      have HB := Lib.hid st3.bel
      clear st3 inst A6 hst
      go_wp2_with fail
      refine bodyPost_ret (v := I2 0 hv) (by simp [results, Tryz.results22, go_sem, q0, q1]) rfl ⟨rfl, ?_⟩
      exact (by (iterate 2 (refine bset ?_ (by dsimp only; omega) _)); exact HB.out)
    · obtain ⟨e1, e2⟩ := hea_rep (x := x) (y := y) (f := f) h1 h2
      rw [e1, e2]
      generalize repF r2 s2 p x y f = cd at *
      generalize packRL r2 s2 p x y f = z2 at *
      generalize packH n r s = z1 at *
      clear e1 e2 h1 k1
      go_enter Tryz.func22, Tryz.ntmps22
      go_wp2_with fail
      generalize ((w.alloc (.cells #[.int .i64 r, .int .i64 s, .string n] 26)).alloc (.cells #[.int .i64 r2, .int .i64 s2, .int .i64 p, .int .i64 x, .int .i64 y, .int .i64 f] 33)).alloc (.cells #[.int .i64 0, .int .i64 0] 49) = W0 at *
      refine (F1 _).mono ?_
      rintro e u1 ⟨a1, n1, c1, rfl, O1, b1⟩
      have D1 := (At.new u1 [.int .i64 0, .slice a1 n1 c1] 39)
      have b2 := bal b1 (.cells #[.int .i64 0, .slice a1 n1 c1] 39)
      have B2 := btr b0 b2
      have A2' := A2.on b2
      have A3' := A3.on b2
      have E2 := E0.on b2
      have lt1 : w.heap.size + 2 < u1.heap.size := (A3.on b1).lt (by simp)
      have d0 := A2'.cell 0 _ rfl
      have d1 := A2'.cell 1 _ rfl
      have d2 := A2'.cell 2 _ rfl
      have d3 := A2'.cell 3 _ rfl
      have d4 := A2'.cell 4 _ rfl
      have d5 := A2'.cell 5 _ rfl
      clear O1 b1 b0 b2 A1 A2 A3 E0 L0 F1
      go_wp2_with fail
      generalize u1.alloc (.cells #[.int .i64 0, .slice a1 n1 c1] 39) = v1 at *
      refine (F2 _ E2).mono ?_
      rintro e u2 ⟨a2, n2, c2, rfl, O2, b3⟩
      have A4 := (((A3'.on b3).set 0 (.int .i64 cd)).set 1 (.int .i64 0)).alloc (.cells #[.int .i64 cd, .slice a2 n2 c2] 39)
      have lt2 : w.heap.size + 2 < u2.heap.size := (A3'.on b3).lt (by simp)
      have k0 := (A3'.on b3).cell 0 _ rfl
      have k1 := (A3'.on b3).cell 1 _ rfl
      have z0 := (A3'.on b3).free 0 _ rfl
      have z1 := (A3'.on b3).free 1 _ rfl
      have q0 := A4.cell 0 _ rfl
      have q1 := A4.cell 1 _ rfl
      have HB := Lib.hid (bal (bset (bset (btr B2 b3) (p := ⟨w.heap.size + 2, 0, none⟩) (by show w.heap.size ≤ w.heap.size + 2; omega) (.int .i64 cd)) (p := ⟨w.heap.size + 2, 1, none⟩) (by show w.heap.size ≤ w.heap.size + 2; omega) (.int .i64 0)) (.cells #[.int .i64 cd, .slice a2 n2 c2] 39))
      clear O2 b3 B2 A2' A3' A4 E2 F2 D1
      go_wp2_with fail
      refine bodyPost_ret (v := I2 cd 0) (by simp [results, Tryz.results22, go_sem, q0, q1]) rfl ⟨rfl, HB.out⟩
  · obtain ⟨e1, e2⟩ := hea_hel (r2 := r2) (s2 := s2) (p := p) (x := x) (y := y) (f := f) h1
    rw [e1, e2]
    generalize helF n.data.toList r s = cd at *
    generalize packHL n r s = z1 at *
    clear e1 e2
    go_enter Tryz.func22, Tryz.ntmps22
    go_wp2_with fail
    generalize ((w.alloc (.cells #[.int .i64 r, .int .i64 s, .string n] 26)).alloc (.cells #[.int .i64 r2, .int .i64 s2, .int .i64 p, .int .i64 x, .int .i64 y, .int .i64 f] 33)).alloc (.cells #[.int .i64 0, .int .i64 0] 49) = W0 at *
    refine (F1 _).mono ?_
    rintro e u1 ⟨a1, n1, c1, rfl, O1, b1⟩
    have A4 := (((A3.on b1).set 0 (.int .i64 cd)).set 1 (.int .i64 0)).alloc (.cells #[.int .i64 cd, .slice a1 n1 c1] 39)
    have lt2 : w.heap.size + 2 < u1.heap.size := (A3.on b1).lt (by simp)
    have k0 := (A3.on b1).cell 0 _ rfl
    have k1 := (A3.on b1).cell 1 _ rfl
    have z0 := (A3.on b1).free 0 _ rfl
    have z1 := (A3.on b1).free 1 _ rfl
    have q0 := A4.cell 0 _ rfl
    have q1 := A4.cell 1 _ rfl
    have HB := Lib.hid (bal (bset (bset (btr b0 b1) (p := ⟨w.heap.size + 2, 0, none⟩) (by show w.heap.size ≤ w.heap.size + 2; omega) (.int .i64 cd)) (p := ⟨w.heap.size + 2, 1, none⟩) (by show w.heap.size ≤ w.heap.size + 2; omega) (.int .i64 0)) (.cells #[.int .i64 cd, .slice a1 n1 c1] 39))
    clear O1 b1 b0 A1 A2 A3 A4 E0 L0 F1 F2
    go_wp2_with fail
    refine bodyPost_ret (v := I2 cd 0) (by simp [results, Tryz.results22, go_sem, q0, q1]) rfl ⟨rfl, HB.out⟩
end Go.Proofs.YtepailfhagaboaaGreatDoor
