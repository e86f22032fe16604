/- Contracts of whether two slices of pins are the same, by the program and by its model. Conditions: as each theorem states. -/
import Derived.Test.YtefgimpodhjdpabG7
import Derived.Laws.StructEq
namespace Go.Proofs.Ytefgimpodhjdpab
open Go.RowKit
set_option maxRecDepth 100000
set_option linter.unusedVariables false

def pinEq (p q : PinD) : Bool := decide (p.n.toList = q.n.toList ∧ p.a = q.a ∧ p.b = q.b ∧ p.e = q.e ∧ p.u = q.u)
theorem pinEq_iff (p q : PinD) : pinEq p q = true ↔ p = q := by
  obtain ⟨n, a, b, e, u⟩ := p
  obtain ⟨n', a', b', e', u'⟩ := q
  simp only [pinEq, decide_eq_true_eq, PinD.mk.injEq, ByteArray.toList_eq]
  exact ⟨fun ⟨h, r⟩ => ⟨nm_inj h, r⟩, fun ⟨h, r⟩ => ⟨by rw [h], r⟩⟩
theorem pinEq_self (p : PinD) : pinEq p p = true := (pinEq_iff p p).2 rfl
theorem pin_eq (p q : PinD) (w : World) : (Op.equalIn 10000 49 (P5 p) (P5 q)).run Try.prog w = .ok (pinEq p q) w := by
  have u3 := Try.underlying2
  have a3 := Try.isAgg2
  have z3 := Try.sizeOf2
  have u9 := Try.underlying9
  have a9 := Try.isAgg9
  have z9 := Try.sizeOf9
  have hS : Try.prog.underlying 49 = some (.struct (Try.prog.fieldsOf 49)) := by kernel_rfl
  have hp : Try.prog.stoodInHeld 49 = false := by kernel_rfl
  rw [show (10000 : Nat) = 9999 + 1 from rfl, run_equalIn_agg w 9999 49 _ _ hS hp]
  simp only [Program.fieldsOf, Try.underlying49]
  go_simp
  unfold pinEq
  by_cases h0 : p.n.toList = q.n.toList <;> by_cases h1 : p.a = q.a <;> by_cases h2 : p.b = q.b <;> by_cases h3 : p.e = q.e <;> by_cases h4 : p.u = q.u <;> simp only [h0, h1, h2, h3, h4, if_true, if_false, and_true, and_false, and_self, decide_true, decide_false]
theorem pin_neq (p q : PinD) (w : World) : (binOp .neq 49 (P5 p) (P5 q)).run Try.prog w = .ok (.bool (!pinEq p q)) w := by
  rw [run_neq_struct, pin_eq]
  rfl
theorem pin_eql (p q : PinD) (w : World) : (binOp .eql 49 (P5 p) (P5 q)).run Try.prog w = .ok (.bool (pinEq p q)) w := by
  rw [run_eql_struct, pin_eq]
  rfl
theorem pin_guard (op : BinOp) (x y : Operand) (p q : PinD) (w : World) : (eqGuard op 49 x y (P5 p) (P5 q)).run Try.prog w = .ok () w := run_eqGuard_agg w op 49 x y _ _ (by kernel_rfl)

def sameL : List PinD → List PinD → Bool
  | [], [] => true
  | p :: r, q :: s => pinEq p q && sameL r s
  | _, _ => false
theorem sameL_self : ∀ ps : List PinD, sameL ps ps = true
  | [] => rfl
  | p :: r => by rw [sameL, pinEq_self, sameL_self r]; rfl
theorem sameL_len : ∀ {ps qs : List PinD}, ps.length ≠ qs.length → sameL ps qs = false
  | [], [], h => absurd rfl h
  | [], _ :: _, _ => rfl
  | _ :: _, [], _ => rfl
  | p :: r, q :: s, h => by rw [sameL, sameL_len (ps := r) (qs := s) (by simpa using h), Bool.and_false]
theorem sameL_step {ps qs : List PinD} {k : Nat} (h1 : k < ps.length) (h2 : k < qs.length) : sameL (ps.drop k) (qs.drop k) = (pinEq (ps[k]?.getD pin0) (qs[k]?.getD pin0) && sameL (ps.drop (k + 1)) (qs.drop (k + 1))) := by
  have e : ∀ {ps : List PinD}, k < ps.length → ps.drop k = (ps[k]?.getD pin0) :: ps.drop (k + 1) := fun hk => by
    rw [List.drop_eq_getElem_cons hk, List.getElem?_eq_getElem hk]
    rfl
  rw [e h1, e h2]
  rfl
def SameRel (w : World) (ps qs : List PinD) (t : Bool) (k : Nat) (wr : World) : Prop := sameL (ps.drop k) (qs.drop k) = t ∧ Below w.heap.size w wr
theorem specSamePins_any (a b : Option Addr) (n m c1 c2 B : Nat) (ps qs : List PinD) (w : World) (hR : PRow w B a n c1 ps) (hQ : PRow w B b m c2 qs) (hB : B ≤ w.heap.size) :
    Calls Try.prog 11 #[.slice a n c1, .slice b m c2] w fun e w' => e = .returned (.bool (sameL ps qs)) ∧ Below w.heap.size w w' := by
  have f1 := hR.fits
  have m1 := hR.most
  have f2 := hQ.fits
  have m2 := hQ.most
  unfold maxLen at m1 m2
  have L1 := Lib.hid hR.length
  have L2 := Lib.hid hQ.length
  by_cases hnm : n = m
  · subst hnm
    have T0 : SameRel w ps qs (sameL ps qs) 0 w := ⟨rfl, Below.refl _ _⟩
    generalize sameL ps qs = t at *
    go_enter Try.func11, Try.ntmps11
    go_wp2_with fail
    go_loopw [5] (fun i wr => ∃ k : Nat, k ≤ n ∧ i = .int .i64 k ∧ SameRel w ps qs t k wr) (fun i _ => n - (intOf i).toNat)
    case atStart => exact ⟨0, Nat.zero_le _, rfl, T0⟩
    case round =>
      obtain ⟨k, hk, rfl, ht, hb⟩ := hrel
      by_cases hlt : k < n
      · obtain ⟨b1, o1, ha1, hb1, c0, c1, c2, c3, c4⟩ := (hR.below (hb.mono hB)).at' hlt
        obtain ⟨b2, o2, ha2, hb2, d0, d1, d2, d3, d4⟩ := (hQ.below (hb.mono hB)).at' hlt
        have hs := sameL_step (k := k) (ps := ps) (qs := qs) (by rw [L1.out]; exact hlt) (by rw [L2.out]; exact hlt)
        rw [ht] at hs
        have N := fun w => pin_neq (ps[k]?.getD pin0) (qs[k]?.getD pin0) w
        have G := fun op x y w => pin_guard op x y (ps[k]?.getD pin0) (qs[k]?.getD pin0) w
        have HB := Lib.hid hb
        clear hb hR hQ ht T0
        subst ha1
        subst ha2
        generalize ps[k]?.getD pin0 = p at *
        generalize qs[k]?.getD pin0 = q at *
        generalize pinEq p q = c at *
        cases c
        · rw [Bool.false_and] at hs
          subst hs
          go_wp2_with fail
          refine wp_region_line (Bel wr) [(0, true), (1, true), (2, true), (3, true), (4, true), (5, true), (6, true), (7, true), (8, true)] (by kernel_rfl) (by kernel_rfl) (fun _ _ d _ _ h => by cases d <;> exact h) (Bel.drew wr) ?_
          have hst := Bel.drew wr
          have inst : Nonempty (Of (Bel wr)) := ⟨⟨_, hst⟩⟩
          have q0 := bel_cell c0
          have q1 := bel_cell c1
          have q2 := bel_cell c2
          have q3 := bel_cell c3
          have q4 := bel_cell c4
          have y0 := bel_cell d0
          have y1 := bel_cell d1
          have y2 := bel_cell d2
          have y3 := bel_cell d3
          have y4 := bel_cell d4
          iterate 9 (refine line_read rfl (by kernel_rfl) (fun K hK => ?_); go_big_quiet_op; refine hK _ ?_; clear hK K)
          refine line_nil ?_
          have bb := btr HB.out hst.out
          clear hst inst q0 q1 q2 q3 q4 y0 y1 y2 y3 y4 c0 c1 c2 c3 c4 d0 d1 d2 d3 d4 HB N G
          go_wp2_with fail
          go_ret
          exact ⟨rfl, bb⟩
        · rw [Bool.true_and] at hs
          have HS := Lib.hid hs
          clear hs
          go_wp2_with fail
          refine wp_region_line (Bel wr) [(0, true), (1, true), (2, true), (3, true), (4, true), (5, true), (6, true), (7, true), (8, true)] (by kernel_rfl) (by kernel_rfl) (fun _ _ d _ _ h => by cases d <;> exact h) (Bel.drew wr) ?_
          have hst := Bel.drew wr
          have inst : Nonempty (Of (Bel wr)) := ⟨⟨_, hst⟩⟩
          have q0 := bel_cell c0
          have q1 := bel_cell c1
          have q2 := bel_cell c2
          have q3 := bel_cell c3
          have q4 := bel_cell c4
          have y0 := bel_cell d0
          have y1 := bel_cell d1
          have y2 := bel_cell d2
          have y3 := bel_cell d3
          have y4 := bel_cell d4
          iterate 9 (refine line_read rfl (by kernel_rfl) (fun K hK => ?_); go_big_quiet_op; refine hK _ ?_; clear hK K)
          refine line_nil ?_
          have bb := btr HB.out hst.out
          clear hst inst q0 q1 q2 q3 q4 y0 y1 y2 y3 y4 c0 c1 c2 c3 c4 d0 d1 d2 d3 d4 HB N G
          go_wp2_with fail
          go_roundw
          case rel => exact ⟨k + 1, by omega, by go_num, HS.out.symm, bb⟩
          case measure => simp [intOf]; omega
      · obtain rfl : k = n := by omega
        have e1 : ps.drop k = [] := List.drop_of_length_le (by rw [L1.out]; omega)
        have e2 : qs.drop k = [] := List.drop_of_length_le (by rw [L2.out]; omega)
        rw [e1, e2] at ht
        have ht' : true = t := ht
        subst ht'
        clear ht e1 e2
        go_wp2_with fail
        go_ret
        exact ⟨rfl, hb⟩
  · have hl : ps.length ≠ qs.length := by rw [L1.out, L2.out]; exact hnm
    rw [sameL_len hl]
    have hnm' : ((n : Int) == (m : Int)) = false := by
      rw [beq_eq_false_iff_ne]
      omega
    clear hR hQ hl
    go_enter Try.func11, Try.ntmps11
    go_wp2_with fail
    go_ret
    exact ⟨rfl, Below.refl _ _⟩
theorem slicesEqual_any (a b : Option Addr) (n m c1 c2 B : Nat) (ps qs : List PinD) (w : World) (hR : PRow w B a n c1 ps) (hQ : PRow w B b m c2 qs) (hB : B ≤ w.heap.size) :
    Calls Try.prog 23 #[.slice a n c1, .slice b m c2] w fun e w' => e = .returned (.bool (sameL ps qs)) ∧ Below w.heap.size w w' := by
  have f1 := hR.fits
  have m1 := hR.most
  have f2 := hQ.fits
  have m2 := hQ.most
  unfold maxLen at m1 m2
  have L1 := Lib.hid hR.length
  have L2 := Lib.hid hQ.length
  by_cases hnm : n = m
  · subst hnm
    have T0 : SameRel w ps qs (sameL ps qs) 0 w := ⟨rfl, Below.refl _ _⟩
    generalize sameL ps qs = t at *
    go_enter Try.func23, Try.ntmps23
    go_wp2_with fail
    go_loopw [13] (fun i wr => ∃ k : Nat, k ≤ n ∧ i = .int .i64 k ∧ SameRel w ps qs t k wr) (fun i _ => n - (intOf i).toNat)
    case atStart => exact ⟨0, Nat.zero_le _, rfl, T0⟩
    case round =>
      obtain ⟨k, hk, rfl, ht, hb⟩ := hrel
      by_cases hlt : k < n
      · obtain ⟨b1, o1, ha1, hb1, c0, c1, c2, c3, c4⟩ := (hR.below (hb.mono hB)).at' hlt
        obtain ⟨b2, o2, ha2, hb2, d0, d1, d2, d3, d4⟩ := (hQ.below (hb.mono hB)).at' hlt
        have hs := sameL_step (k := k) (ps := ps) (qs := qs) (by rw [L1.out]; exact hlt) (by rw [L2.out]; exact hlt)
        rw [ht] at hs
        have N := fun w => pin_neq (ps[k]?.getD pin0) (qs[k]?.getD pin0) w
        have G := fun op x y w => pin_guard op x y (ps[k]?.getD pin0) (qs[k]?.getD pin0) w
        have HB := Lib.hid hb
        clear hb hR hQ ht T0
        subst ha1
        subst ha2
        generalize ps[k]?.getD pin0 = p at *
        generalize qs[k]?.getD pin0 = q at *
        generalize pinEq p q = c at *
        cases c
        · rw [Bool.false_and] at hs
          subst hs
          go_wp2_with fail
          refine wp_region_line (Bel wr) [(0, true), (1, true), (2, true), (3, true), (4, true), (5, true), (6, true), (7, true), (8, true)] (by kernel_rfl) (by kernel_rfl) (fun _ _ d _ _ h => by cases d <;> exact h) (Bel.drew wr) ?_
          have hst := Bel.drew wr
          have inst : Nonempty (Of (Bel wr)) := ⟨⟨_, hst⟩⟩
          have q0 := bel_cell c0
          have q1 := bel_cell c1
          have q2 := bel_cell c2
          have q3 := bel_cell c3
          have q4 := bel_cell c4
          have y0 := bel_cell d0
          have y1 := bel_cell d1
          have y2 := bel_cell d2
          have y3 := bel_cell d3
          have y4 := bel_cell d4
          iterate 9 (refine line_read rfl (by kernel_rfl) (fun K hK => ?_); go_big_quiet_op; refine hK _ ?_; clear hK K)
          refine line_nil ?_
          have bb := btr HB.out hst.out
          clear hst inst q0 q1 q2 q3 q4 y0 y1 y2 y3 y4 c0 c1 c2 c3 c4 d0 d1 d2 d3 d4 HB N G
          go_wp2_with fail
          go_ret
          exact ⟨rfl, bb⟩
        · rw [Bool.true_and] at hs
          have HS := Lib.hid hs
          clear hs
          go_wp2_with fail
          refine wp_region_line (Bel wr) [(0, true), (1, true), (2, true), (3, true), (4, true), (5, true), (6, true), (7, true), (8, true)] (by kernel_rfl) (by kernel_rfl) (fun _ _ d _ _ h => by cases d <;> exact h) (Bel.drew wr) ?_
          have hst := Bel.drew wr
          have inst : Nonempty (Of (Bel wr)) := ⟨⟨_, hst⟩⟩
          have q0 := bel_cell c0
          have q1 := bel_cell c1
          have q2 := bel_cell c2
          have q3 := bel_cell c3
          have q4 := bel_cell c4
          have y0 := bel_cell d0
          have y1 := bel_cell d1
          have y2 := bel_cell d2
          have y3 := bel_cell d3
          have y4 := bel_cell d4
          iterate 9 (refine line_read rfl (by kernel_rfl) (fun K hK => ?_); go_big_quiet_op; refine hK _ ?_; clear hK K)
          refine line_nil ?_
          have bb := btr HB.out hst.out
          clear hst inst q0 q1 q2 q3 q4 y0 y1 y2 y3 y4 c0 c1 c2 c3 c4 d0 d1 d2 d3 d4 HB N G
          go_wp2_with fail
          go_roundw
          case rel => exact ⟨k + 1, by omega, by go_num, HS.out.symm, bb⟩
          case measure => simp [intOf]; omega
      · obtain rfl : k = n := by omega
        have e1 : ps.drop k = [] := List.drop_of_length_le (by rw [L1.out]; omega)
        have e2 : qs.drop k = [] := List.drop_of_length_le (by rw [L2.out]; omega)
        rw [e1, e2] at ht
        have ht' : true = t := ht
        subst ht'
        clear ht e1 e2
        go_wp2_with fail
        go_ret
        exact ⟨rfl, hb⟩
  · have hl : ps.length ≠ qs.length := by rw [L1.out, L2.out]; exact hnm
    rw [sameL_len hl]
    have hnm' : ((n : Int) == (m : Int)) = false := by
      rw [beq_eq_false_iff_ne]
      omega
    clear hR hQ hl
    go_enter Try.func23, Try.ntmps23
    go_wp2_with fail
    go_ret
    exact ⟨rfl, Below.refl _ _⟩
theorem implSamePins_any (a b : Option Addr) (n m c1 c2 B : Nat) (ps qs : List PinD) (w : World) (hR : PRow w B a n c1 ps) (hQ : PRow w B b m c2 qs) (hB : B ≤ w.heap.size) :
    Calls Try.prog 14 #[.slice a n c1, .slice b m c2] w fun e w' => e = .returned (.bool (sameL ps qs)) ∧ Below w.heap.size w w' := by
  have S := slicesEqual_any a b n m c1 c2 B ps qs w hR hQ hB
  generalize sameL ps qs = t at *
  clear hR hQ
  go_enter Try.func14, Try.ntmps14
  go_wp2_with fail
  refine S.mono ?_
  rintro r u1 ⟨rfl, b1⟩
  go_wp2_with fail
  go_ret
  exact ⟨rfl, b1⟩
end Go.Proofs.Ytefgimpodhjdpab
