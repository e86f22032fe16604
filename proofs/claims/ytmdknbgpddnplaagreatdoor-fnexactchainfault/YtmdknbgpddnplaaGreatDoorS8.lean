/- Texts of this seat that several laws rest on, laid into one. Conditions: as each theorem states. -/
import Derived.Test.YtmdknbgpddnplaaGreatDoorS7
namespace Go.Proofs.YtmdknbgpddnplaaGreatDoor
open Go.RowKit
set_option maxRecDepth 100000
set_option linter.unusedVariables false

theorem prev_name {o : PinD} {rs : List RollD} {w : World} {B len cap : Nat} {a : Option Addr} (hn : o.n.size ≤ maxLen) (hR : RRow w B a len cap rs) {k : Nat} (hk : k ≤ len) : (prevP o rs k).n.size ≤ maxLen := by
  cases k with
  | zero => exact hn
  | succ k => exact hR.name (k := k) (by omega)
def ChainRel (w : World) (ob : Nat) (o : PinD) (rs : List RollD) (t c : Int) (k : Nat) (wr : World) : Prop := chainG (prevP o rs k) (rs.drop k) t = c ∧ At ob (prevP o rs k).vals wr ∧ Below w.heap.size w wr
set_option maxHeartbeats 2000000 in
theorem specChainFault_any (a : Option Addr) (len cap B : Nat) (rs : List RollD) (o : PinD) (t : Int) (w : World) (hR : RRow w B a len cap rs) (hB : B ≤ w.heap.size) (hn : o.n.size ≤ maxLen) :
    Calls Tryz.prog 30 #[P5 o, .slice a len cap, .int .i64 t] w fun e w' => e = .returned (.int .i64 (chainF o rs t)) ∧ Below w.heap.size w w' := by
  have hf := hR.fits
  have hm := hR.most
  unfold maxLen at hm
  have hL := Lib.hid hR.length
  have b0 := bal (Below.refl _ w) (.cells #[.string o.n, .int .i64 o.a, .int .i64 o.b, .int .i64 o.e, .int .i64 o.u] 25)
  have A0 : At w.heap.size o.vals (w.alloc (.cells #[.string o.n, .int .i64 o.a, .int .i64 o.b, .int .i64 o.e, .int .i64 o.u] 25)) := At.new w o.vals 25
  have F := fun g w A => l7Fault_any g o w A hn
  by_cases h0 : o.f = 0
  · rw [h0] at F
    by_cases h8 : 8 < len
    · rw [chainF_many h0 (by rw [hL.out]; exact h8)]
      have h8' : (8 : Int) < len := by omega
      clear h0 h8
      go_enter Tryz.func30, Tryz.ntmps30
      go_wp2_with fail
      generalize w.alloc (.cells #[.string o.n, .int .i64 o.a, .int .i64 o.b, .int .i64 o.e, .int .i64 o.u] 25) = W0 at *
      refine (F _ _ A0).mono ?_
      rintro e u1 ⟨rfl, b1⟩
      have A1 := A0.on b1
      have B1 := btr b0 b1
      clear A0 b0 b1 F
      go_wp2_with fail
      go_ret
      exact ⟨rfl, B1⟩
    rw [chainF_go h0 (by rw [hL.out]; exact h8)]
    have h8' : ¬ (8 : Int) < len := by omega
    have T0 : chainG (prevP o rs 0) (rs.drop 0) t = chainG o rs t := rfl
    generalize chainG o rs t = c at *
    clear h0 h8
    go_enter Tryz.func30, Tryz.ntmps30
    go_wp2_with fail
    generalize w.alloc (.cells #[.string o.n, .int .i64 o.a, .int .i64 o.b, .int .i64 o.e, .int .i64 o.u] 25) = W0 at *
    refine (F _ _ A0).mono ?_
    rintro e u1 ⟨rfl, b1⟩
    have A1 := A0.on b1
    have B1 := btr b0 b1
    clear A0 b0 b1 F
    have c0 := A1.cell 0 _ rfl
    have c1 := A1.cell 1 _ rfl
    have c2 := A1.cell 2 _ rfl
    have c3 := A1.cell 3 _ rfl
    have c4 := A1.cell 4 _ rfl
    have X1 := At.new u1 o.vals 25
    have B2 := bal B1 (.cells #[.string o.n, .int .i64 o.a, .int .i64 o.b, .int .i64 o.e, .int .i64 o.u] 25)
    have T1 : ChainRel w u1.heap.size o rs t c 0 (u1.alloc (.cells #[.string o.n, .int .i64 o.a, .int .i64 o.b, .int .i64 o.e, .int .i64 o.u] 25)) := ⟨T0, X1, B2⟩
    have hob := B1.size
    clear T0 X1 B2 A1 B1
    go_wp2_with fail
    clear c0 c1 c2 c3 c4
    generalize u1.alloc (.cells #[.string o.n, .int .i64 o.a, .int .i64 o.b, .int .i64 o.e, .int .i64 o.u] 25) = W1 at *
    generalize u1.heap.size = ob at *
    go_loopw [9] (fun i wr => ∃ k : Nat, k ≤ len ∧ i = .int .i64 k ∧ ChainRel w ob o rs t c k wr) (fun i _ => len - (intOf i).toNat)
    case atStart => exact ⟨0, Nat.zero_le _, rfl, T1⟩
    case round =>
      obtain ⟨k, hk, rfl, ht, hA, hb⟩ := hrel
      clear T1
      by_cases hlt : k < len
      · obtain ⟨b, off, ha, hbB, c0, c1, c2, c3, c4, c5, c6, c7⟩ := (hR.below (hb.mono hB)).at' hlt
        subst ha
        have hkp : k < rs.length := by rw [hL.out]; exact hlt
        have CK := fun w => specCheckRoll_any (prevP o rs k) (rs[k]?.getD roll0) t w (prev_name hn hR hk) (hR.name hlt)
        have a0 := hA.cell 0 _ rfl
        have a1 := hA.cell 1 _ rfl
        have a2 := hA.cell 2 _ rfl
        have a3 := hA.cell 3 _ rfl
        have a4 := hA.cell 4 _ rfl
        have HA := Lib.hid hA
        have HB := Lib.hid hb
        by_cases h1 : checkF (prevP o rs k) (rs[k]?.getD roll0) t = 0
        · have hnx := chainG_next hkp ht h1
          rw [h1] at CK
          have HN := Lib.hid hnx
          clear hnx h1
          clear ht hA hb
          generalize prevP o rs k = q at *
          generalize hr : rs[k]?.getD roll0 = r at *
          have HR := Lib.hid hr
          clear hr
          go_wp2_with fail
          refine wp_region_line (Bel wr) [(0, true), (1, true), (2, true), (3, true), (4, true), (5, true), (6, false), (7, true)] (by kernel_rfl) (by kernel_rfl) (fun _ _ d _ _ h => by cases d <;> exact h) (Bel.drew wr) ?_
          have hst := Bel.drew wr
          have inst : Nonempty (Of (Bel wr)) := ⟨⟨_, hst⟩⟩
          have q0 := bel_cell a0
          have q1 := bel_cell a1
          have q2 := bel_cell a2
          have q3 := bel_cell a3
          have q4 := bel_cell a4
          have y0 := bel_cell c0
          have y1 := bel_cell c1
          have y2 := bel_cell c2
          have y3 := bel_cell c3
          have y4 := bel_cell c4
          have y5 := bel_cell c5
          have y6 := bel_cell c6
          have y7 := bel_cell c7
          iterate 6 (refine line_read rfl (by kernel_rfl) (fun K hK => ?_); go_big_quiet_op; refine hK _ ?_; clear hK K)
          refine line_alone rfl (by kernel_rfl) (fun K hK => ?_)
          refine call_wp (args := #[P5 q, R8 r, .int .i64 t]) rfl (by kernel_rfl) (by kernel_rfl) (CK _) (fun wn hbn => ?_)
          have hst2 := hst.on hbn
          refine hK _ _ hst2 ?_
          clear hK K hst hbn
          have hst := hst2
          clear hst2
          simp only [Act.put, List.setIfInBounds_toArray, List.set_cons_zero, List.set_cons_succ]
          iterate 1 (refine line_read rfl (by kernel_rfl) (fun K hK => ?_); go_big_quiet_op; refine hK _ ?_; clear hK K)
          refine line_nil ?_
          have B2 := btr HB.out hst.out
          have A2 := HA.out.on hst.out
          have d0 := cell_keep hst.out c0
          have d1 := cell_keep hst.out c1
          have d2 := cell_keep hst.out c2
          have d3 := cell_keep hst.out c3
          have d4 := cell_keep hst.out c4
          clear hst inst q0 q1 q2 q3 q4 y0 y1 y2 y3 y4 y5 y6 y7 c0 c1 c2 c3 c4 c5 c6 c7 a0 a1 a2 a3 a4 CK HA HB
          have x0 := A2.cell 0 _ rfl
          have x1 := A2.cell 1 _ rfl
          have x2 := A2.cell 2 _ rfl
          have x3 := A2.cell 3 _ rfl
          have x4 := A2.cell 4 _ rfl
          have f0 := A2.free 0 _ rfl
          have f1 := A2.free 1 _ rfl
          have f2 := A2.free 2 _ rfl
          have f3 := A2.free 3 _ rfl
          have f4 := A2.free 4 _ rfl
          have A3 := ((((A2.set 0 (.string r.p.n)).set 1 (.int .i64 r.p.a)).set 2 (.int .i64 r.p.b)).set 3 (.int .i64 r.p.e)).set 4 (.int .i64 r.p.u)
          have HA3 := Lib.hid A3
          clear A2 A3
          go_wp2_with fail
          go_roundw
          case rel => exact ⟨k + 1, by omega, by go_num, HN.out, (show (prevP o rs (k + 1)) = r.p from congrArg RollD.p HR.out) ▸ HA3.out, (by (iterate 5 (refine bset ?_ (by dsimp only; omega) _)); exact B2)⟩
          case measure => simp [intOf]; omega
        · have ht' := chainG_bad hkp ht h1
          rw [ht'] at CK h1
          have n0 : (c == 0) = false := by simpa using h1
          clear ht'
          clear ht hA hb
          generalize prevP o rs k = q at *
          generalize hr : rs[k]?.getD roll0 = r at *
          have HR := Lib.hid hr
          clear hr
          go_wp2_with fail
          refine wp_region_line (Bel wr) [(0, true), (1, true), (2, true), (3, true), (4, true), (5, true), (6, false), (7, true)] (by kernel_rfl) (by kernel_rfl) (fun _ _ d _ _ h => by cases d <;> exact h) (Bel.drew wr) ?_
          have hst := Bel.drew wr
          have inst : Nonempty (Of (Bel wr)) := ⟨⟨_, hst⟩⟩
          have q0 := bel_cell a0
          have q1 := bel_cell a1
          have q2 := bel_cell a2
          have q3 := bel_cell a3
          have q4 := bel_cell a4
          have y0 := bel_cell c0
          have y1 := bel_cell c1
          have y2 := bel_cell c2
          have y3 := bel_cell c3
          have y4 := bel_cell c4
          have y5 := bel_cell c5
          have y6 := bel_cell c6
          have y7 := bel_cell c7
          iterate 6 (refine line_read rfl (by kernel_rfl) (fun K hK => ?_); go_big_quiet_op; refine hK _ ?_; clear hK K)
          refine line_alone rfl (by kernel_rfl) (fun K hK => ?_)
          refine call_wp (args := #[P5 q, R8 r, .int .i64 t]) rfl (by kernel_rfl) (by kernel_rfl) (CK _) (fun wn hbn => ?_)
          have hst2 := hst.on hbn
          refine hK _ _ hst2 ?_
          clear hK K hst hbn
          have hst := hst2
          clear hst2
          simp only [Act.put, List.setIfInBounds_toArray, List.set_cons_zero, List.set_cons_succ]
          iterate 1 (refine line_read rfl (by kernel_rfl) (fun K hK => ?_); go_big_quiet_op; refine hK _ ?_; clear hK K)
          refine line_nil ?_
          have B2 := btr HB.out hst.out
          have A2 := HA.out.on hst.out
          have d0 := cell_keep hst.out c0
          have d1 := cell_keep hst.out c1
          have d2 := cell_keep hst.out c2
          have d3 := cell_keep hst.out c3
          have d4 := cell_keep hst.out c4
          clear hst inst q0 q1 q2 q3 q4 y0 y1 y2 y3 y4 y5 y6 y7 c0 c1 c2 c3 c4 c5 c6 c7 a0 a1 a2 a3 a4 CK HA HB
          go_wp2_with fail
          go_ret
          exact ⟨rfl, B2⟩
      · obtain rfl : k = len := by omega
        have e : rs.drop k = [] := List.drop_of_length_le (by rw [hL.out]; omega)
        rw [e] at ht
        have ht' : 0 = c := ht
        subst ht'
        go_wp2_with fail
        go_ret
        exact ⟨rfl, hb⟩
  · rw [chainF_first h0]
    generalize o.f = c at *
    have q0 : (c == 0) = false := by simpa using h0
    go_enter Tryz.func30, Tryz.ntmps30
    go_wp2_with fail
    generalize w.alloc (.cells #[.string o.n, .int .i64 o.a, .int .i64 o.b, .int .i64 o.e, .int .i64 o.u] 25) = W0 at *
    refine (F _ _ A0).mono ?_
    rintro e u1 ⟨rfl, b1⟩
    have A1 := A0.on b1
    have B1 := btr b0 b1
    clear A0 b0 b1 F
    go_wp2_with fail
    go_ret
    exact ⟨rfl, B1⟩

/-- No error where the code is 0, else one that has that code, wrapped twice at most. -/
def ErrA (c : Int) (w : World) (r : Ending) (w' : World) : Prop := ∃ e, (c = 0 → e = .nilIface) ∧ (c ≠ 0 → ErrC c e) ∧ r = .returned e ∧ Below w.heap.size w w'
set_option maxHeartbeats 2000000 in
theorem chainReason_any (a : Option Addr) (len cap B : Nat) (rs : List RollD) (o : PinD) (t : Int) (w : World) (lab : Labels w) (hR : RRow w B a len cap rs) (hB : B ≤ w.heap.size) (hn : o.n.size ≤ maxLen) :
    Calls Tryz.prog 86 #[P5 o, .slice a len cap, .int .i64 t] w (ErrA (chainF o rs t) w) := by
  have hf := hR.fits
  have hm := hR.most
  unfold maxLen at hm
  have hL := Lib.hid hR.length
  have b0 := bal (Below.refl _ w) (.cells #[.string o.n, .int .i64 o.a, .int .i64 o.b, .int .i64 o.e, .int .i64 o.u] 25)
  have A0 : At w.heap.size o.vals (w.alloc (.cells #[.string o.n, .int .i64 o.a, .int .i64 o.b, .int .i64 o.e, .int .i64 o.u] 25)) := At.new w o.vals 25
  by_cases h0 : o.f = 0
  · have F := fun w => pinReason_no o w hn h0
    by_cases h8 : 8 < len
    · rw [chainF_many h0 (by rw [hL.out]; exact h8)]
      have h8' : (8 : Int) < len := by omega
      clear h0 h8
      go_enter Tryz.func86, Tryz.ntmps86
      go_wp2_with fail
      generalize w.alloc (.cells #[.string o.n, .int .i64 o.a, .int .i64 o.b, .int .i64 o.e, .int .i64 o.u] 25) = W0 at *
      refine (F _).mono ?_
      rintro e u1 ⟨rfl, b1⟩
      have A1 := A0.on b1
      have B1 := btr b0 b1
      clear A0 b0 b1 F
      go_wp2_with fail
      go_ret
      exact ⟨_, fun h => absurd h (by decide), fun _ => .inl ⟨_, rfl⟩, rfl, B1⟩
    rw [chainF_go h0 (by rw [hL.out]; exact h8)]
    have h8' : ¬ (8 : Int) < len := by omega
    have T0 : chainG (prevP o rs 0) (rs.drop 0) t = chainG o rs t := rfl
    generalize chainG o rs t = c at *
    clear h0 h8
    go_enter Tryz.func86, Tryz.ntmps86
    go_wp2_with fail
    generalize w.alloc (.cells #[.string o.n, .int .i64 o.a, .int .i64 o.b, .int .i64 o.e, .int .i64 o.u] 25) = W0 at *
    refine (F _).mono ?_
    rintro e u1 ⟨rfl, b1⟩
    have A1 := A0.on b1
    have B1 := btr b0 b1
    clear A0 b0 b1 F
    have c0 := A1.cell 0 _ rfl
    have c1 := A1.cell 1 _ rfl
    have c2 := A1.cell 2 _ rfl
    have c3 := A1.cell 3 _ rfl
    have c4 := A1.cell 4 _ rfl
    have X1 := At.new u1 o.vals 25
    have B2 := bal B1 (.cells #[.string o.n, .int .i64 o.a, .int .i64 o.b, .int .i64 o.e, .int .i64 o.u] 25)
    have T1 : ChainRel w u1.heap.size o rs t c 0 (u1.alloc (.cells #[.string o.n, .int .i64 o.a, .int .i64 o.b, .int .i64 o.e, .int .i64 o.u] 25)) := ⟨T0, X1, B2⟩
    have hob := B1.size
    clear T0 X1 B2 A1 B1
    go_wp2_with fail
    clear c0 c1 c2 c3 c4
    generalize u1.alloc (.cells #[.string o.n, .int .i64 o.a, .int .i64 o.b, .int .i64 o.e, .int .i64 o.u] 25) = W1 at *
    generalize u1.heap.size = ob at *
    go_loopw [27] (fun i wr => ∃ k : Nat, k ≤ len ∧ i = .int .i64 k ∧ ChainRel w ob o rs t c k wr) (fun i _ => len - (intOf i).toNat)
    case atStart => exact ⟨0, Nat.zero_le _, rfl, T1⟩
    case round =>
      obtain ⟨k, hk, rfl, ht, hA, hb⟩ := hrel
      clear T1
      by_cases hlt : k < len
      · obtain ⟨b, off, ha, hbB, c0, c1, c2, c3, c4, c5, c6, c7⟩ := (hR.below (hb.mono hB)).at' hlt
        subst ha
        have hkp : k < rs.length := by rw [hL.out]; exact hlt
        have CK := fun w lab => checkReason_any (prevP o rs k) (rs[k]?.getD roll0) t w lab (prev_name hn hR hk) (hR.name hlt)
        have lab1 := lab.on (Below.mono hb (Nat.le_refl _))
        by_cases h1 : checkF (prevP o rs k) (rs[k]?.getD roll0) t = 0
        · have hnx := chainG_next hkp ht h1
          rw [h1] at CK
          have HN := Lib.hid hnx
          clear hnx h1
          clear ht
          generalize prevP o rs k = q at *
          generalize hr : rs[k]?.getD roll0 = r at *
          have HR := Lib.hid hr
          clear hr
          have ba := bal (Below.refl _ wr) (.cells #[.string r.p.n, .int .i64 r.p.a, .int .i64 r.p.b, .int .i64 r.p.e, .int .i64 r.p.u, .int .i64 r.b, .int .i64 r.x, .int .i64 r.y] 29)
          have X2 : At wr.heap.size r.vals (wr.alloc (.cells #[.string r.p.n, .int .i64 r.p.a, .int .i64 r.p.b, .int .i64 r.p.e, .int .i64 r.p.u, .int .i64 r.b, .int .i64 r.x, .int .i64 r.y] 29)) := At.new wr r.vals 29
          have A2 := hA.on ba
          have B2 := btr hb ba
          have lab2 := lab1.on ba
          clear hA hb ba lab1
          have a0 := A2.cell 0 _ rfl
          have a1 := A2.cell 1 _ rfl
          have a2 := A2.cell 2 _ rfl
          have a3 := A2.cell 3 _ rfl
          have a4 := A2.cell 4 _ rfl
          go_wp2_with fail
          clear c0 c1 c2 c3 c4 c5 c6 c7
          generalize wr.alloc (.cells #[.string r.p.n, .int .i64 r.p.a, .int .i64 r.p.b, .int .i64 r.p.e, .int .i64 r.p.u, .int .i64 r.b, .int .i64 r.x, .int .i64 r.y] 29) = W2 at *
          generalize wr.heap.size = rb at *
          refine (CK _ lab2).mono ?_
          rintro e u3 ⟨z, hz0, hz1, rfl, b3⟩
          have B3 := btr B2 b3
          have A3 := A2.on b3
          have X3 := X2.on b3
          clear A2 B2 X2 b3 CK lab2 a0 a1 a2 a3 a4
          obtain rfl := hz0 rfl
          clear hz0 hz1
          have x0 := A3.cell 0 _ rfl
          have x1 := A3.cell 1 _ rfl
          have x2 := A3.cell 2 _ rfl
          have x3 := A3.cell 3 _ rfl
          have x4 := A3.cell 4 _ rfl
          have f0 := A3.free 0 _ rfl
          have f1 := A3.free 1 _ rfl
          have f2 := A3.free 2 _ rfl
          have f3 := A3.free 3 _ rfl
          have f4 := A3.free 4 _ rfl
          have y0 := X3.cell 0 _ rfl
          have y1 := X3.cell 1 _ rfl
          have y2 := X3.cell 2 _ rfl
          have y3 := X3.cell 3 _ rfl
          have y4 := X3.cell 4 _ rfl
          have y5 := X3.cell 5 _ rfl
          have y6 := X3.cell 6 _ rfl
          have y7 := X3.cell 7 _ rfl
          have A4 := ((((A3.set 0 (.string r.p.n)).set 1 (.int .i64 r.p.a)).set 2 (.int .i64 r.p.b)).set 3 (.int .i64 r.p.e)).set 4 (.int .i64 r.p.u)
          have HA4 := Lib.hid A4
          clear A3 A4 X3
          go_wp2_with fail
          go_roundw
          case rel => exact ⟨k + 1, by omega, by go_num, HN.out, (show (prevP o rs (k + 1)) = r.p from congrArg RollD.p HR.out) ▸ HA4.out, (by (iterate 5 (refine bset ?_ (by dsimp only; omega) _)); exact B3)⟩
          case measure => simp [intOf]; omega
        · have ht' := chainG_bad hkp ht h1
          rw [ht'] at CK h1
          clear ht'
          clear ht
          generalize prevP o rs k = q at *
          generalize hr : rs[k]?.getD roll0 = r at *
          have HR := Lib.hid hr
          clear hr
          have ba := bal (Below.refl _ wr) (.cells #[.string r.p.n, .int .i64 r.p.a, .int .i64 r.p.b, .int .i64 r.p.e, .int .i64 r.p.u, .int .i64 r.b, .int .i64 r.x, .int .i64 r.y] 29)
          have X2 : At wr.heap.size r.vals (wr.alloc (.cells #[.string r.p.n, .int .i64 r.p.a, .int .i64 r.p.b, .int .i64 r.p.e, .int .i64 r.p.u, .int .i64 r.b, .int .i64 r.x, .int .i64 r.y] 29)) := At.new wr r.vals 29
          have A2 := hA.on ba
          have B2 := btr hb ba
          have lab2 := lab1.on ba
          clear hA hb ba lab1
          have a0 := A2.cell 0 _ rfl
          have a1 := A2.cell 1 _ rfl
          have a2 := A2.cell 2 _ rfl
          have a3 := A2.cell 3 _ rfl
          have a4 := A2.cell 4 _ rfl
          go_wp2_with fail
          clear c0 c1 c2 c3 c4 c5 c6 c7
          generalize wr.alloc (.cells #[.string r.p.n, .int .i64 r.p.a, .int .i64 r.p.b, .int .i64 r.p.e, .int .i64 r.p.u, .int .i64 r.b, .int .i64 r.x, .int .i64 r.y] 29) = W2 at *
          generalize wr.heap.size = rb at *
          refine (CK _ lab2).mono ?_
          rintro e u3 ⟨z, hz0, hz1, rfl, b3⟩
          have B3 := btr B2 b3
          have A3 := A2.on b3
          have X3 := X2.on b3
          clear A2 B2 X2 b3 CK lab2 a0 a1 a2 a3 a4
          have hz := hz1 h1
          clear hz0 hz1 A3 X3
          rcases hz with ⟨s, rfl⟩ | ⟨s1, s, rfl⟩
          · go_wp2_with fail
            go_ret
            exact ⟨_, fun h => absurd h h1, fun _ => .inr (.inl ⟨_, _, rfl⟩), rfl, B3⟩
          · go_wp2_with fail
            go_ret
            exact ⟨_, fun h => absurd h h1, fun _ => .inr (.inr ⟨_, _, _, rfl⟩), rfl, B3⟩
      · obtain rfl : k = len := by omega
        have e : rs.drop k = [] := List.drop_of_length_le (by rw [hL.out]; omega)
        rw [e] at ht
        have ht' : 0 = c := ht
        subst ht'
        go_wp2_with fail
        go_ret
        exact ⟨_, fun _ => rfl, fun h => absurd rfl h, rfl, hb⟩
  · rw [chainF_first h0]
    have F := fun w => pinReason_yes o w hn h0
    generalize o.f = c at *
    go_enter Tryz.func86, Tryz.ntmps86
    go_wp2_with fail
    generalize w.alloc (.cells #[.string o.n, .int .i64 o.a, .int .i64 o.b, .int .i64 o.e, .int .i64 o.u] 25) = W0 at *
    refine (F _).mono ?_
    rintro e u1 ⟨s, rfl, b1⟩
    have B1 := btr b0 b1
    clear A0 b0 b1 F
    go_wp2_with fail
    go_ret
    exact ⟨_, fun h => absurd h h0, fun _ => .inr (.inl ⟨_, _, rfl⟩), rfl, B1⟩
theorem implChainFault_any (a : Option Addr) (len cap B : Nat) (rs : List RollD) (o : PinD) (t : Int) (w : World) (lab : Labels w) (ert : ErrT w) (hR : RRow w B a len cap rs) (hB : B ≤ w.heap.size) (hn : o.n.size ≤ maxLen) :
    Calls Tryz.prog 28 #[P5 o, .slice a len cap, .int .i64 t] w fun e w' => e = .returned (.int .i64 (chainF o rs t)) ∧ Below w.heap.size w w' := by
  have b0 := bal (Below.refl _ w) (.cells #[.string o.n, .int .i64 o.a, .int .i64 o.b, .int .i64 o.e, .int .i64 o.u] 25)
  have lab0 := lab.on b0
  have ert0 := ert.on b0
  have K := chainReason_any a len cap B rs o t _ lab0 (hR.below (b0.mono hB)) (Nat.le_trans hB b0.size) hn
  generalize chainF o rs t = c at *
  clear hR lab ert
  go_enter Tryz.func28, Tryz.ntmps28
  go_wp2_with fail
  generalize w.alloc (.cells #[.string o.n, .int .i64 o.a, .int .i64 o.b, .int .i64 o.e, .int .i64 o.u] 25) = W0 at *
  refine K.mono ?_
  rintro e u1 ⟨z, hz0, hz1, rfl, b1⟩
  have B1 := btr b0 b1
  have E1 := ert0.on b1
  clear b0 b1 lab0 ert0 K
  by_cases hc : c = 0
  · obtain rfl := hz0 hc
    subst hc
    clear hz0 hz1
    go_wp2_with fail
    refine (codeOf_nil _).mono ?_
    rintro e u2 ⟨rfl, b2⟩
    have hb := btr B1 b2
    go_wp2_with fail
    go_ret
    exact ⟨rfl, hb⟩
  · have hz := hz1 hc
    clear hz0 hz1
    go_wp2_with fail
    refine (codeOf_err hz _ E1).mono ?_
    rintro e u2 ⟨rfl, b2⟩
    have hb := btr B1 b2
    go_wp2_with fail
    go_ret
    exact ⟨rfl, hb⟩
end Go.Proofs.YtmdknbgpddnplaaGreatDoor
