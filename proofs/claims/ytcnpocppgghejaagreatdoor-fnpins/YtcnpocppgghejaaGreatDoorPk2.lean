/- Texts of this seat that several laws rest on, laid into one. Conditions: as each theorem states. -/
import Derived.Test.YtcnpocppgghejaaGreatDoorPk0
import Derived.Test.YtcnpocppgghejaaGreatDoorPk1
import Derived.Laws.StructEq
import Derived.LaidEql
import Derived.Stop.Asserts
import Derived.RowKitTokens
import Derived.Laws.IdiomCopy
import Derived.Test.YtcnpocppgghejaaGreatDoorRows
import Derived.Test.YtcnpocppgghejaaGreatDoorTie
import Derived.Test.YtcnpocppgghejaaGreatDoorCards
import Derived.LaidHandle
import Derived.LaidLaws
import Derived.ProofKit
import Derived.OpenShut
import Derived.WalkSmall
import Derived.Carry
import Derived.Below
import Derived.Deep.DeepHandedRow
import Derived.Lib.LaidTab
import Derived.Lay
import Derived.MakeChecks
import Derived.LaidMore
import Derived.Stop.Joined
namespace Go.Proofs.YtcnpocppgghejaaGreatDoor
open Go.RowKit
set_option maxRecDepth 100000
set_option linter.unusedVariables false

/-- What putting a pin among any others answers. -/
def put0 (ps : List PinD) (p : PinD) : Int := match findP ps p.nm with
  | some q => if q.e ≥ p.e then 11 else 0
  | none => if 4 ≤ ps.length then 7 else 0
theorem put0_old {ps : List PinD} {p q : PinD} (hq : findP ps p.nm = some q) (h : p.e ≤ q.e) : put0 ps p = 11 := by unfold put0; rw [hq]; simp only; rw [if_pos h]
theorem put0_young {ps : List PinD} {p q : PinD} (hq : findP ps p.nm = some q) (h : ¬ p.e ≤ q.e) : put0 ps p = 0 := by unfold put0; rw [hq]; simp only; rw [if_neg h]
theorem put0_full {ps : List PinD} {p : PinD} (hq : findP ps p.nm = none) (h : 4 ≤ ps.length) : put0 ps p = 7 := by unfold put0; rw [hq]; simp only; rw [if_pos h]
theorem put0_new {ps : List PinD} {p : PinD} (hq : findP ps p.nm = none) (h : ¬ 4 ≤ ps.length) : put0 ps p = 0 := by unfold put0; rw [hq]; simp only; rw [if_neg h]
def put1 (ps : List PinD) (p : PinD) : List PinD := if put0 ps p = 0 then putL ps p else []
/-- Where the model stands behind k pins. -/
structure PutRel (w : World) (ps : List PinD) (p : PinD) (k : Nat) (d : Bool) (v : Value) (out : List PinD) (wr : World) : Prop where
  own : OwnP wr (w.heap.size + 1) v out
  box : At w.heap.size p.vals wr
  bel : Below w.heap.size w wr
  eq : out ++ putG p d (ps.drop k) = putL ps p
  len : out.length ≤ k + 1
  few : d = false → out.length ≤ k
theorem putG_step {ps : List PinD} {k : Nat} (hk : k < ps.length) (p : PinD) (d : Bool) : putG p d (ps.drop k) = (if !d && !nlt (ps[k]?.getD pin0).nm p.nm then [p] else []) ++ (if (ps[k]?.getD pin0).nm = p.nm then [] else [ps[k]?.getD pin0]) ++ putG p (d || !nlt (ps[k]?.getD pin0).nm p.nm) (ps.drop (k + 1)) := by
  have e : ps.drop k = (ps[k]?.getD pin0) :: ps.drop (k + 1) := by
    rw [List.drop_eq_getElem_cons hk, List.getElem?_eq_getElem hk]
    rfl
  rw [e]
  rfl
theorem put_app {w wr w3 : World} {p x : PinD} {v v3 : Value} {out : List PinD} {o : Obj} (hO : OwnP wr (w.heap.size + 1) v out) (hA : At w.heap.size p.vals wr) (hb : Below w.heap.size w wr)
    (hown : Own w3 (w.heap.size + 1) 5 v3 (out.length + 1) (flat out ++ x.vals)) (hg : (wr.alloc o).grownBy w3 v.ownBlock) : OwnP w3 (w.heap.size + 1) v3 (out ++ [x]) ∧ At w.heap.size p.vals w3 ∧ Below w.heap.size w w3 := by
  refine ⟨?_, (hA.alloc o).kept hg (fun e => ?_), (bal hb o).grown hg (bal hb o).size (fun k e => ?_)⟩
  · unfold OwnP
    rw [flat_append, List.length_append]
    simpa [flat] using hown
  · have := (Own.lt hO _ e.symm).1
    omega
  · have := (Own.lt hO k e).1
    omega
def Put0 (ps : List PinD) (p : PinD) (w : World) (e : Ending) (w' : World) : Prop := ∃ a n cap, e = .returned (.tuple #[.slice a n cap, .int .i64 (put0 ps p)]) ∧ OwnP w' w.heap.size (.slice a n cap) (put1 ps p) ∧ Below w.heap.size w w'
set_option maxHeartbeats 8000000 in
theorem l7Put_any (a : Option Addr) (len cap B : Nat) (ps : List PinD) (p : PinD) (w : World) (hR : PRow w B a len cap ps) (hB : B ≤ w.heap.size) (hl : len ≤ 1000) :
    Calls Tryz.prog 49 #[.slice a len cap, P5 p] w (Put0 ps p w) := by
  have hL := Lib.hid hR.length
  have hm := hR.most
  have hfit := hR.fits
  unfold maxLen at hm
  have b0 := bal (Below.refl _ w) (.cells #[.string p.n, .int .i64 p.a, .int .i64 p.b, .int .i64 p.e, .int .i64 p.u] 26)
  have A1 : At w.heap.size p.vals (w.alloc (.cells #[.string p.n, .int .i64 p.a, .int .i64 p.b, .int .i64 p.e, .int .i64 p.u] 26)) := At.new w p.vals 26
  have AT := l7At_any a len cap B ps p.n _ (hR.below (b0.mono hB)) (Nat.le_trans hB b0.size)
  have AS : (findP ps p.nm = none ∧ atI ps p.n.data.toList 0 = -1) ∨ _ := atI_spec ps p.n.data.toList 0
  generalize atI ps p.n.data.toList 0 = t at *
  rcases AS with ⟨hf, rfl⟩ | ⟨k, hk, rfl, hf⟩
  · by_cases h4 : 4 ≤ len
    · have e1 := put0_full hf (by rw [hL.out]; exact h4)
      have e2 : put1 ps p = [] := by unfold put1; rw [e1, if_neg (by decide)]
      have h4' : (4 : Int) ≤ len := by omega
      clear hR
      go_enter Tryz.func49, Tryz.ntmps49
      go_wp2_with fail
      generalize w.alloc (.cells #[.string p.n, .int .i64 p.a, .int .i64 p.b, .int .i64 p.e, .int .i64 p.u] 26) = W0 at *
      refine AT.mono ?_
      rintro r u1 ⟨rfl, b1⟩
      have A1' := A1.on b1
      have B1 := btr b0 b1
      have x0 := A1'.cell 0 _ rfl
      have x1 := A1'.cell 1 _ rfl
      have x2 := A1'.cell 2 _ rfl
      have x3 := A1'.cell 3 _ rfl
      have x4 := A1'.cell 4 _ rfl
      clear A1 b0 b1 AT
      go_wp2_with fail
      refine wp_region_line (Bel u1) [(0, true), (1, true), (2, true), (3, true), (4, true), (5, true), (6, true), (7, true), (8, true), (9, true), (10, true), (11, true)] (by kernel_rfl) (by kernel_rfl) (fun _ _ d _ _ h => by cases d <;> exact h) (Bel.drew u1) ?_
      have hst := Bel.drew u1
      have inst : Nonempty (Of (Bel u1)) := ⟨⟨_, hst⟩⟩
      iterate 3 (refine line_read rfl (by kernel_rfl) (fun K hK => ?_); go_big_quiet_op; refine hK _ ?_; clear hK K)
      iterate 8 (refine line_skip rfl (by kernel_rfl) ?_; simp only [Act.put, List.setIfInBounds_toArray, List.set_cons_zero, List.set_cons_succ])
      iterate 1 (refine line_read rfl (by kernel_rfl) (fun K hK => ?_); go_big_quiet_op; refine hK _ ?_; clear hK K)
      refine line_nil ?_
      have B2 := btr B1 hst.out
      have A2 := A1'.on hst.out
      clear hst inst A1' B1 x0 x1 x2 x3 x4
      have y0 := A2.cell 0 _ rfl
      have y1 := A2.cell 1 _ rfl
      have y2 := A2.cell 2 _ rfl
      have y3 := A2.cell 3 _ rfl
      have y4 := A2.cell 4 _ rfl
      go_wp2_with fail
      refine bodyPost_ret (v := .tuple #[.slice none 0 0, .int .i64 7]) (by simp [results, Tryz.results49, go_sem]) rfl ⟨none, 0, 0, by rw [e1], by rw [e2]; exact OwnP.nil _ _, B2⟩
    · have e1 := put0_new hf (by rw [hL.out]; exact h4)
      have h4' : ¬ (4 : Int) ≤ len := by omega
      have HR := Lib.hid hR
      clear hR
      go_enter Tryz.func49, Tryz.ntmps49
      go_wp2_with fail
      generalize w.alloc (.cells #[.string p.n, .int .i64 p.a, .int .i64 p.b, .int .i64 p.e, .int .i64 p.u] 26) = W0 at *
      refine AT.mono ?_
      rintro r u1 ⟨rfl, b1⟩
      have A1' := A1.on b1
      have B1 := btr b0 b1
      have x0 := A1'.cell 0 _ rfl
      have x1 := A1'.cell 1 _ rfl
      have x2 := A1'.cell 2 _ rfl
      have x3 := A1'.cell 3 _ rfl
      have x4 := A1'.cell 4 _ rfl
      clear A1 b0 b1 AT
      go_wp2_with fail
      refine wp_region_line (Bel u1) [(0, true), (1, true), (2, true), (3, true), (4, true), (5, true), (6, true), (7, true), (8, true), (9, true), (10, true), (11, true)] (by kernel_rfl) (by kernel_rfl) (fun _ _ d _ _ h => by cases d <;> exact h) (Bel.drew u1) ?_
      have hst := Bel.drew u1
      have inst : Nonempty (Of (Bel u1)) := ⟨⟨_, hst⟩⟩
      iterate 3 (refine line_read rfl (by kernel_rfl) (fun K hK => ?_); go_big_quiet_op; refine hK _ ?_; clear hK K)
      iterate 8 (refine line_skip rfl (by kernel_rfl) ?_; simp only [Act.put, List.setIfInBounds_toArray, List.set_cons_zero, List.set_cons_succ])
      iterate 1 (refine line_read rfl (by kernel_rfl) (fun K hK => ?_); go_big_quiet_op; refine hK _ ?_; clear hK K)
      refine line_nil ?_
      have B2 := btr B1 hst.out
      have A2 := A1'.on hst.out
      clear hst inst A1' B1 x0 x1 x2 x3 x4
      have y0 := A2.cell 0 _ rfl
      have y1 := A2.cell 1 _ rfl
      have y2 := A2.cell 2 _ rfl
      have y3 := A2.cell 3 _ rfl
      have y4 := A2.cell 4 _ rfl
      obtain ⟨i0, hi0, hz0, hz1, hz2⟩ := info_parts pin_info
      have lu : w.heap.size < u1.heap.size := A2.lt (by simp [PinD.vals])
      have B2' : Below w.heap.size w (u1.alloc (.cells #[] 26)).drew := bal B2 (.cells #[] 26)
      have T0 : PutRel w ps p 0 false (.slice (some ⟨u1.heap.size, 0, none⟩) 0 0) [] (u1.alloc (.cells #[] 26)).drew :=
        ⟨(Own.made u1 #[] 26 0 (by omega) (by simp) rfl).drew, (A2.alloc (.cells #[] 26)).keep (fun _ => rfl), B2', rfl, by simp, by simp⟩
      clear lu B2'
      go_wp2_with fail
      generalize (u1.alloc (.cells #[] 26)).drew = W1 at *
      clear A2 B2 y0 y1 y2 y3 y4
      go_loopw [7, 8, 9] (fun v dd i wr => ∃ (k : Nat) (d : Bool) (out : List PinD), k ≤ len ∧ i = .int .i64 k ∧ dd = .bool d ∧ PutRel w ps p k d v out wr) (fun _ _ i _ => len - (intOf i).toNat)
      case atStart => exact ⟨0, false, [], Nat.zero_le _, rfl, rfl, T0⟩
      case round =>
        obtain ⟨k, d, out, hk, rfl, rfl, hT⟩ := hrel
        clear T0
        have hbs := hT.bel.size
        have hlo := hT.len
        have hfw := hT.few
        have bsz := hT.box.lt (by simp [PinD.vals])
        obtain ⟨va, vc, hva, -⟩ := hT.own.form
        subst hva
        by_cases hlt : k < len
        · obtain ⟨b, off, hab, hbB, c0, c1, c2, c3, c4⟩ := (HR.out.below (hT.bel.mono hB)).at' hlt
          first | subst hab | (injection hab with hab; injection hab with ea eb; subst ea; subst eb)
          have heq := hT.eq
          rw [putG_step (ps := ps) (k := k) (by rw [hL.out]; exact hlt) p d] at heq
          have Q1 : Op.bytesLess (ps[k]?.getD pin0).n.toList p.n.toList = nlt (ps[k]?.getD pin0).nm p.nm := by rw [ByteArray.toList_eq, ByteArray.toList_eq]; rfl
          have Q2 : ((ps[k]?.getD pin0).n.toList == p.n.toList) = decide ((ps[k]?.getD pin0).nm = p.nm) := text_beq _ _
          generalize hq : ps[k]?.getD pin0 = q at *
          have p0 := hT.box.cell 0 _ rfl
          cases d
          · have hfw := hfw rfl
            cases hn : nlt q.nm p.nm
            · rw [hn] at Q1 heq
              by_cases he : q.nm = p.nm
              · rw [decide_eq_true he] at Q2
                have TE := Lib.hid (show (out ++ [p]) ++ putG p true (ps.drop (k + 1)) = putL ps p by rw [if_pos he] at heq; simpa using heq)
                have TL : (out ++ [p]).length ≤ k + 1 + 1 := by simp; omega
                clear heq he hn
                go_wp2_with fail
                refine wp_region_line (Bel wr) [(0, true), (1, true), (2, true), (3, true), (4, true), (5, true), (6, true), (7, true), (8, true), (9, true), (10, true), (11, true)] (by kernel_rfl) (by kernel_rfl) (fun _ _ d _ _ h => by cases d <;> exact h) (Bel.drew wr) ?_
                have hst := Bel.drew wr
                have inst : Nonempty (Of (Bel wr)) := ⟨⟨_, hst⟩⟩
                have g0 := bel_cell c0
                have g1 := bel_cell p0
                iterate 12 (refine line_read rfl (by kernel_rfl) (fun K hK => ?_); go_big_quiet_op; refine hK _ ?_; clear hK K)
                refine line_nil ?_
                have TO : OwnP wr.drew (w.heap.size + 1) (.slice va out.length vc) out := hT.own
                have TA : At w.heap.size p.vals wr.drew := hT.box.keep (fun _ => rfl)
                have TB := hT.bel.drew
                have ts : w.heap.size < wr.drew.heap.size := bsz
                clear hst inst g0 g1 c0 c1 c2 c3 c4 p0 hT hbs bsz
                generalize wr.drew = v1 at *
                have x0 := TA.cell 0 _ rfl
                have x1 := TA.cell 1 _ rfl
                have x2 := TA.cell 2 _ rfl
                have x3 := TA.cell 3 _ rfl
                have x4 := TA.cell 4 _ rfl
                go_wp2_with (at_builtin; refine wpList_append_src _ rfl (.tmp 52) (.tmp 54) 24 24 rfl (w.heap.size + 1) 26 i0 (P5 pin0) 5 48 Tryz.underlying24 hi0 hz0 hz1 hz2 rfl _ _ _ rfl (Own.alloc TO _) _ 1 p.vals rfl (src_new5 _ p _ _ _ Tryz.underlying24) (by simp only [maxLen]; first | omega | (simp only [List.length_append, List.length_cons, List.length_nil]; omega)) (by first | omega | (simp only [List.length_append, List.length_cons, List.length_nil]; omega)) (by simp; omega) ?_; intro v3 w3 hown hgrow hat)
                obtain ⟨TO', TA', TB'⟩ := put_app TO TA TB hown hgrow
                have ts' : w.heap.size < w3.heap.size := TA'.lt (by simp [PinD.vals])
                clear hown hgrow hat TO TA TB ts x0 x1 x2 x3 x4
                have TO := TO'
                have TA := TA'
                have TB := TB'
                have ts := ts'
                clear TO' TA' TB' ts'
                obtain ⟨b', off', hab', -, m0, m1, m2, m3, m4⟩ := (HR.out.below (TB.mono hB)).at' hlt
                injection hab' with hab'
                injection hab' with ea eb
                subst ea
                subst eb
                rw [hq] at m0 m1 m2 m3 m4
                have y0 := TA.cell 0 _ rfl
                go_wp2_with fail
                refine wp_region_line (Bel w3) [(0, true), (1, true), (2, true), (3, true), (4, true), (5, true), (6, true), (7, true)] (by kernel_rfl) (by kernel_rfl) (fun _ _ d _ _ h => by cases d <;> exact h) (Bel.drew w3) ?_
                have hst := Bel.drew w3
                have inst : Nonempty (Of (Bel w3)) := ⟨⟨_, hst⟩⟩
                have g0 := bel_cell m0
                have g1 := bel_cell y0
                iterate 8 (refine line_read rfl (by kernel_rfl) (fun K hK => ?_); go_big_quiet_op; refine hK _ ?_; clear hK K)
                refine line_nil ?_
                have TO2 : OwnP w3.drew (w.heap.size + 1) _ _ := TO
                have TA2 : At w.heap.size p.vals w3.drew := TA.keep (fun _ => rfl)
                have TB2 := TB.drew
                have ts2 : w.heap.size < w3.drew.heap.size := ts
                clear hst inst g0 g1 m0 m1 m2 m3 m4 y0 TO TA TB ts
                generalize w3.drew = v2 at *
                go_wp2_with fail
                go_roundw
                case rel => exact ⟨k + 1, true, _, by omega, by go_num, rfl, ⟨TO2, TA2, TB2, TE.out, TL, fun h => by cases h⟩⟩
                case measure => simp [intOf]; omega
              · rw [decide_eq_false he] at Q2
                have TE := Lib.hid (show ((out ++ [p]) ++ [q]) ++ putG p true (ps.drop (k + 1)) = putL ps p by rw [if_neg he] at heq; simpa using heq)
                have TL : ((out ++ [p]) ++ [q]).length ≤ k + 1 + 1 := by simp; omega
                clear heq he hn
                go_wp2_with fail
                refine wp_region_line (Bel wr) [(0, true), (1, true), (2, true), (3, true), (4, true), (5, true), (6, true), (7, true), (8, true), (9, true), (10, true), (11, true)] (by kernel_rfl) (by kernel_rfl) (fun _ _ d _ _ h => by cases d <;> exact h) (Bel.drew wr) ?_
                have hst := Bel.drew wr
                have inst : Nonempty (Of (Bel wr)) := ⟨⟨_, hst⟩⟩
                have g0 := bel_cell c0
                have g1 := bel_cell p0
                iterate 12 (refine line_read rfl (by kernel_rfl) (fun K hK => ?_); go_big_quiet_op; refine hK _ ?_; clear hK K)
                refine line_nil ?_
                have TO : OwnP wr.drew (w.heap.size + 1) (.slice va out.length vc) out := hT.own
                have TA : At w.heap.size p.vals wr.drew := hT.box.keep (fun _ => rfl)
                have TB := hT.bel.drew
                have ts : w.heap.size < wr.drew.heap.size := bsz
                clear hst inst g0 g1 c0 c1 c2 c3 c4 p0 hT hbs bsz
                generalize wr.drew = v1 at *
                have x0 := TA.cell 0 _ rfl
                have x1 := TA.cell 1 _ rfl
                have x2 := TA.cell 2 _ rfl
                have x3 := TA.cell 3 _ rfl
                have x4 := TA.cell 4 _ rfl
                go_wp2_with (at_builtin; refine wpList_append_src _ rfl (.tmp 52) (.tmp 54) 24 24 rfl (w.heap.size + 1) 26 i0 (P5 pin0) 5 48 Tryz.underlying24 hi0 hz0 hz1 hz2 rfl _ _ _ rfl (Own.alloc TO _) _ 1 p.vals rfl (src_new5 _ p _ _ _ Tryz.underlying24) (by simp only [maxLen]; first | omega | (simp only [List.length_append, List.length_cons, List.length_nil]; omega)) (by first | omega | (simp only [List.length_append, List.length_cons, List.length_nil]; omega)) (by simp; omega) ?_; intro v3 w3 hown hgrow hat)
                obtain ⟨TO', TA', TB'⟩ := put_app TO TA TB hown hgrow
                have ts' : w.heap.size < w3.heap.size := TA'.lt (by simp [PinD.vals])
                clear hown hgrow hat TO TA TB ts x0 x1 x2 x3 x4
                have TO := TO'
                have TA := TA'
                have TB := TB'
                have ts := ts'
                clear TO' TA' TB' ts'
                obtain ⟨b', off', hab', -, m0, m1, m2, m3, m4⟩ := (HR.out.below (TB.mono hB)).at' hlt
                injection hab' with hab'
                injection hab' with ea eb
                subst ea
                subst eb
                rw [hq] at m0 m1 m2 m3 m4
                have y0 := TA.cell 0 _ rfl
                go_wp2_with fail
                refine wp_region_line (Bel w3) [(0, true), (1, true), (2, true), (3, true), (4, true), (5, true), (6, true), (7, true)] (by kernel_rfl) (by kernel_rfl) (fun _ _ d _ _ h => by cases d <;> exact h) (Bel.drew w3) ?_
                have hst := Bel.drew w3
                have inst : Nonempty (Of (Bel w3)) := ⟨⟨_, hst⟩⟩
                have g0 := bel_cell m0
                have g1 := bel_cell y0
                iterate 8 (refine line_read rfl (by kernel_rfl) (fun K hK => ?_); go_big_quiet_op; refine hK _ ?_; clear hK K)
                refine line_nil ?_
                have TO2 : OwnP w3.drew (w.heap.size + 1) _ _ := TO
                have TA2 : At w.heap.size p.vals w3.drew := TA.keep (fun _ => rfl)
                have TB2 := TB.drew
                have ts2 : w.heap.size < w3.drew.heap.size := ts
                clear hst inst g0 g1 m0 m1 m2 m3 m4 y0 TO TA TB ts
                generalize w3.drew = v2 at *
                obtain ⟨b', off', hab', -, m0, m1, m2, m3, m4⟩ := (HR.out.below (TB2.mono hB)).at' hlt
                injection hab' with hab'
                injection hab' with ea eb
                subst ea
                subst eb
                rw [hq] at m0 m1 m2 m3 m4
                go_wp2_with (at_builtin; refine wpList_append_src _ rfl (.tmp 64) (.tmp 69) 24 24 rfl (w.heap.size + 1) 26 i0 (P5 pin0) 5 48 Tryz.underlying24 hi0 hz0 hz1 hz2 rfl _ _ _ rfl (Own.alloc TO2 _) _ 1 q.vals rfl (src_new5 _ q _ _ _ Tryz.underlying24) (by simp only [maxLen]; first | omega | (simp only [List.length_append, List.length_cons, List.length_nil]; omega)) (by first | omega | (simp only [List.length_append, List.length_cons, List.length_nil]; omega)) (by simp; omega) ?_; intro v3 w3 hown hgrow hat)
                obtain ⟨O3, A3, B3⟩ := put_app TO2 TA2 TB2 hown hgrow
                clear hown hgrow hat TO2 TA2 TB2 m0 m1 m2 m3 m4
                go_wp2_with fail
                go_roundw
                case rel => exact ⟨k + 1, true, _, by omega, by go_num, rfl, ⟨O3, A3, B3, TE.out, TL, fun h => by cases h⟩⟩
                case measure => simp [intOf]; omega
            · rw [hn] at Q1 heq
              have he : ¬ q.nm = p.nm := nlt_ne hn
              rw [decide_eq_false he] at Q2
              have TE := Lib.hid (show (out ++ [q]) ++ putG p false (ps.drop (k + 1)) = putL ps p by rw [if_neg he] at heq; simpa using heq)
              have TL : (out ++ [q]).length ≤ k + 1 + 1 := by simp; omega
              have TF : (out ++ [q]).length ≤ k + 1 := by simp; omega
              clear heq he hn
              go_wp2_with fail
              refine wp_region_line (Bel wr) [(0, true), (1, true), (2, true), (3, true), (4, true), (5, true), (6, true), (7, true), (8, true), (9, true), (10, true), (11, true)] (by kernel_rfl) (by kernel_rfl) (fun _ _ d _ _ h => by cases d <;> exact h) (Bel.drew wr) ?_
              have hst := Bel.drew wr
              have inst : Nonempty (Of (Bel wr)) := ⟨⟨_, hst⟩⟩
              have g0 := bel_cell c0
              have g1 := bel_cell p0
              iterate 12 (refine line_read rfl (by kernel_rfl) (fun K hK => ?_); go_big_quiet_op; refine hK _ ?_; clear hK K)
              refine line_nil ?_
              have TO : OwnP wr.drew (w.heap.size + 1) (.slice va out.length vc) out := hT.own
              have TA : At w.heap.size p.vals wr.drew := hT.box.keep (fun _ => rfl)
              have TB := hT.bel.drew
              have ts : w.heap.size < wr.drew.heap.size := bsz
              clear hst inst g0 g1 c0 c1 c2 c3 c4 p0 hT hbs bsz
              generalize wr.drew = v1 at *
              have x0 := TA.cell 0 _ rfl
              have x1 := TA.cell 1 _ rfl
              have x2 := TA.cell 2 _ rfl
              have x3 := TA.cell 3 _ rfl
              have x4 := TA.cell 4 _ rfl
              obtain ⟨b', off', hab', -, m0, m1, m2, m3, m4⟩ := (HR.out.below (TB.mono hB)).at' hlt
              injection hab' with hab'
              injection hab' with ea eb
              subst ea
              subst eb
              rw [hq] at m0 m1 m2 m3 m4
              have y0 := TA.cell 0 _ rfl
              go_wp2_with fail
              refine wp_region_line (Bel v1) [(0, true), (1, true), (2, true), (3, true), (4, true), (5, true), (6, true), (7, true)] (by kernel_rfl) (by kernel_rfl) (fun _ _ d _ _ h => by cases d <;> exact h) (Bel.drew v1) ?_
              have hst := Bel.drew v1
              have inst : Nonempty (Of (Bel v1)) := ⟨⟨_, hst⟩⟩
              have g0 := bel_cell m0
              have g1 := bel_cell y0
              iterate 8 (refine line_read rfl (by kernel_rfl) (fun K hK => ?_); go_big_quiet_op; refine hK _ ?_; clear hK K)
              refine line_nil ?_
              have TO2 : OwnP v1.drew (w.heap.size + 1) _ _ := TO
              have TA2 : At w.heap.size p.vals v1.drew := TA.keep (fun _ => rfl)
              have TB2 := TB.drew
              have ts2 : w.heap.size < v1.drew.heap.size := ts
              clear hst inst g0 g1 m0 m1 m2 m3 m4 y0 TO TA TB ts
              generalize v1.drew = v2 at *
              obtain ⟨b', off', hab', -, m0, m1, m2, m3, m4⟩ := (HR.out.below (TB2.mono hB)).at' hlt
              injection hab' with hab'
              injection hab' with ea eb
              subst ea
              subst eb
              rw [hq] at m0 m1 m2 m3 m4
              go_wp2_with (at_builtin; refine wpList_append_src _ rfl (.tmp 64) (.tmp 69) 24 24 rfl (w.heap.size + 1) 26 i0 (P5 pin0) 5 48 Tryz.underlying24 hi0 hz0 hz1 hz2 rfl _ _ _ rfl (Own.alloc TO2 _) _ 1 q.vals rfl (src_new5 _ q _ _ _ Tryz.underlying24) (by simp only [maxLen]; first | omega | (simp only [List.length_append, List.length_cons, List.length_nil]; omega)) (by first | omega | (simp only [List.length_append, List.length_cons, List.length_nil]; omega)) (by simp; omega) ?_; intro v3 w3 hown hgrow hat)
              obtain ⟨O3, A3, B3⟩ := put_app TO2 TA2 TB2 hown hgrow
              clear hown hgrow hat TO2 TA2 TB2 m0 m1 m2 m3 m4
              go_wp2_with fail
              go_roundw
              case rel => exact ⟨k + 1, false, _, by omega, by go_num, rfl, ⟨O3, A3, B3, TE.out, TL, fun _ => TF⟩⟩
              case measure => simp [intOf]; omega
          · by_cases he : q.nm = p.nm
            · rw [decide_eq_true he] at Q2
              have TE := Lib.hid (show out ++ putG p true (ps.drop (k + 1)) = putL ps p by rw [if_pos he] at heq; simpa using heq)
              have TL : out.length ≤ k + 1 + 1 := by omega
              clear heq he
              go_wp2_with fail
              refine wp_region_line (Bel wr) [(0, true), (1, true), (2, true), (3, true), (4, true), (5, true), (6, true), (7, true), (8, true), (9, true), (10, true), (11, true)] (by kernel_rfl) (by kernel_rfl) (fun _ _ d _ _ h => by cases d <;> exact h) (Bel.drew wr) ?_
              have hst := Bel.drew wr
              have inst : Nonempty (Of (Bel wr)) := ⟨⟨_, hst⟩⟩
              iterate 3 (refine line_read rfl (by kernel_rfl) (fun K hK => ?_); go_big_quiet_op; refine hK _ ?_; clear hK K)
              iterate 8 (refine line_skip rfl (by kernel_rfl) ?_; simp only [Act.put, List.setIfInBounds_toArray, List.set_cons_zero, List.set_cons_succ])
              iterate 1 (refine line_read rfl (by kernel_rfl) (fun K hK => ?_); go_big_quiet_op; refine hK _ ?_; clear hK K)
              refine line_nil ?_
              have TO : OwnP wr.drew (w.heap.size + 1) (.slice va out.length vc) out := hT.own
              have TA : At w.heap.size p.vals wr.drew := hT.box.keep (fun _ => rfl)
              have TB := hT.bel.drew
              have ts : w.heap.size < wr.drew.heap.size := bsz
              clear hst inst c0 c1 c2 c3 c4 p0 hT hbs bsz
              generalize wr.drew = v1 at *
              obtain ⟨b', off', hab', -, m0, m1, m2, m3, m4⟩ := (HR.out.below (TB.mono hB)).at' hlt
              injection hab' with hab'
              injection hab' with ea eb
              subst ea
              subst eb
              rw [hq] at m0 m1 m2 m3 m4
              have y0 := TA.cell 0 _ rfl
              go_wp2_with fail
              refine wp_region_line (Bel v1) [(0, true), (1, true), (2, true), (3, true), (4, true), (5, true), (6, true), (7, true)] (by kernel_rfl) (by kernel_rfl) (fun _ _ d _ _ h => by cases d <;> exact h) (Bel.drew v1) ?_
              have hst := Bel.drew v1
              have inst : Nonempty (Of (Bel v1)) := ⟨⟨_, hst⟩⟩
              have g0 := bel_cell m0
              have g1 := bel_cell y0
              iterate 8 (refine line_read rfl (by kernel_rfl) (fun K hK => ?_); go_big_quiet_op; refine hK _ ?_; clear hK K)
              refine line_nil ?_
              have TO2 : OwnP v1.drew (w.heap.size + 1) _ _ := TO
              have TA2 : At w.heap.size p.vals v1.drew := TA.keep (fun _ => rfl)
              have TB2 := TB.drew
              have ts2 : w.heap.size < v1.drew.heap.size := ts
              clear hst inst g0 g1 m0 m1 m2 m3 m4 y0 TO TA TB ts
              generalize v1.drew = v2 at *
              go_wp2_with fail
              go_roundw
              case rel => exact ⟨k + 1, true, _, by omega, by go_num, rfl, ⟨TO2, TA2, TB2, TE.out, TL, fun h => by cases h⟩⟩
              case measure => simp [intOf]; omega
            · rw [decide_eq_false he] at Q2
              have TE := Lib.hid (show (out ++ [q]) ++ putG p true (ps.drop (k + 1)) = putL ps p by rw [if_neg he] at heq; simpa using heq)
              have TL : (out ++ [q]).length ≤ k + 1 + 1 := by simp; omega
              clear heq he
              go_wp2_with fail
              refine wp_region_line (Bel wr) [(0, true), (1, true), (2, true), (3, true), (4, true), (5, true), (6, true), (7, true), (8, true), (9, true), (10, true), (11, true)] (by kernel_rfl) (by kernel_rfl) (fun _ _ d _ _ h => by cases d <;> exact h) (Bel.drew wr) ?_
              have hst := Bel.drew wr
              have inst : Nonempty (Of (Bel wr)) := ⟨⟨_, hst⟩⟩
              iterate 3 (refine line_read rfl (by kernel_rfl) (fun K hK => ?_); go_big_quiet_op; refine hK _ ?_; clear hK K)
              iterate 8 (refine line_skip rfl (by kernel_rfl) ?_; simp only [Act.put, List.setIfInBounds_toArray, List.set_cons_zero, List.set_cons_succ])
              iterate 1 (refine line_read rfl (by kernel_rfl) (fun K hK => ?_); go_big_quiet_op; refine hK _ ?_; clear hK K)
              refine line_nil ?_
              have TO : OwnP wr.drew (w.heap.size + 1) (.slice va out.length vc) out := hT.own
              have TA : At w.heap.size p.vals wr.drew := hT.box.keep (fun _ => rfl)
              have TB := hT.bel.drew
              have ts : w.heap.size < wr.drew.heap.size := bsz
              clear hst inst c0 c1 c2 c3 c4 p0 hT hbs bsz
              generalize wr.drew = v1 at *
              obtain ⟨b', off', hab', -, m0, m1, m2, m3, m4⟩ := (HR.out.below (TB.mono hB)).at' hlt
              injection hab' with hab'
              injection hab' with ea eb
              subst ea
              subst eb
              rw [hq] at m0 m1 m2 m3 m4
              have y0 := TA.cell 0 _ rfl
              go_wp2_with fail
              refine wp_region_line (Bel v1) [(0, true), (1, true), (2, true), (3, true), (4, true), (5, true), (6, true), (7, true)] (by kernel_rfl) (by kernel_rfl) (fun _ _ d _ _ h => by cases d <;> exact h) (Bel.drew v1) ?_
              have hst := Bel.drew v1
              have inst : Nonempty (Of (Bel v1)) := ⟨⟨_, hst⟩⟩
              have g0 := bel_cell m0
              have g1 := bel_cell y0
              iterate 8 (refine line_read rfl (by kernel_rfl) (fun K hK => ?_); go_big_quiet_op; refine hK _ ?_; clear hK K)
              refine line_nil ?_
              have TO2 : OwnP v1.drew (w.heap.size + 1) _ _ := TO
              have TA2 : At w.heap.size p.vals v1.drew := TA.keep (fun _ => rfl)
              have TB2 := TB.drew
              have ts2 : w.heap.size < v1.drew.heap.size := ts
              clear hst inst g0 g1 m0 m1 m2 m3 m4 y0 TO TA TB ts
              generalize v1.drew = v2 at *
              obtain ⟨b', off', hab', -, m0, m1, m2, m3, m4⟩ := (HR.out.below (TB2.mono hB)).at' hlt
              injection hab' with hab'
              injection hab' with ea eb
              subst ea
              subst eb
              rw [hq] at m0 m1 m2 m3 m4
              go_wp2_with (at_builtin; refine wpList_append_src _ rfl (.tmp 64) (.tmp 69) 24 24 rfl (w.heap.size + 1) 26 i0 (P5 pin0) 5 48 Tryz.underlying24 hi0 hz0 hz1 hz2 rfl _ _ _ rfl (Own.alloc TO2 _) _ 1 q.vals rfl (src_new5 _ q _ _ _ Tryz.underlying24) (by simp only [maxLen]; first | omega | (simp only [List.length_append, List.length_cons, List.length_nil]; omega)) (by first | omega | (simp only [List.length_append, List.length_cons, List.length_nil]; omega)) (by simp; omega) ?_; intro v3 w3 hown hgrow hat)
              obtain ⟨O3, A3, B3⟩ := put_app TO2 TA2 TB2 hown hgrow
              clear hown hgrow hat TO2 TA2 TB2 m0 m1 m2 m3 m4
              go_wp2_with fail
              go_roundw
              case rel => exact ⟨k + 1, true, _, by omega, by go_num, rfl, ⟨O3, A3, B3, TE.out, TL, fun h => by cases h⟩⟩
              case measure => simp [intOf]; omega
        · obtain rfl : k = len := by omega
          have e : ps.drop k = [] := List.drop_of_length_le (by rw [hL.out]; omega)
          have heq := hT.eq
          rw [e] at heq
          have e2 : put1 ps p = putL ps p := by unfold put1; rw [if_pos e1]
          cases d
          · have hO := hT.own
            have hA := hT.box
            have hb := hT.bel
            have HE := Lib.hid (show out ++ [p] = putL ps p from heq)
            have x0 := hA.cell 0 _ rfl
            have x1 := hA.cell 1 _ rfl
            have x2 := hA.cell 2 _ rfl
            have x3 := hA.cell 3 _ rfl
            have x4 := hA.cell 4 _ rfl
            clear hT heq
            go_wp2_with (at_builtin; refine wpList_append_src _ rfl (.tmp 73) (.tmp 75) 24 24 rfl (w.heap.size + 1) 26 i0 (P5 pin0) 5 48 Tryz.underlying24 hi0 hz0 hz1 hz2 rfl _ _ _ rfl (Own.alloc hO _) _ 1 p.vals rfl (src_new5 _ p _ _ _ Tryz.underlying24) (by simp only [maxLen]; first | omega | (simp only [List.length_append, List.length_cons, List.length_nil]; omega)) (by first | omega | (simp only [List.length_append, List.length_cons, List.length_nil]; omega)) (by simp; omega) ?_; intro v3 w3 hown hgrow hat)
            obtain ⟨O3, A3, B3⟩ := put_app hO hA hb hown hgrow
            obtain ⟨a3, c3, rfl, -⟩ := O3.form
            have H := Lib.hid (And.intro (O3.less (by omega : w.heap.size ≤ w.heap.size + 1)) B3)
            clear hown hgrow hat O3 A3 B3
            go_wp2_with fail
            refine bodyPost_ret (v := .tuple #[.slice a3 (out ++ [p]).length c3, .int .i64 0]) (by simp [results, Tryz.results49, go_sem]) rfl ⟨_, _, _, by rw [e1], by rw [e2, ← HE.out]; exact H.out.1, H.out.2⟩
          · have hO := hT.own
            have hb := hT.bel
            have HE := Lib.hid (show out = putL ps p by simpa [putG] using heq)
            have H := Lib.hid (And.intro (hO.less (by omega : w.heap.size ≤ w.heap.size + 1)) hb)
            clear hT heq hO hb
            go_wp2_with fail
            refine bodyPost_ret (v := .tuple #[.slice va out.length vc, .int .i64 0]) (by simp [results, Tryz.results49, go_sem]) rfl ⟨_, _, _, by rw [e1], by rw [e2, ← HE.out]; exact H.out.1, H.out.2⟩
  · have hkl : k < len := by rw [← hL.out]; exact hk
    have hf' : findP ps p.nm = some (ps[k]?.getD pin0) := hf
    obtain ⟨b, off, ha, -⟩ := hR.at' hkl
    subst ha
    have HR := Lib.hid hR
    have hk0 : ¬ (k : Int) < 0 := by omega
    have hk1 : (0 : Int) ≤ k := by omega
    clear hR hf
    generalize hq0 : ps[k]?.getD pin0 = q0 at *
    have HQ := Lib.hid hq0
    clear hq0
    by_cases he : p.e ≤ q0.e
    · have e1 := put0_old hf' he
      have e2 : put1 ps p = [] := by unfold put1; rw [e1, if_neg (by decide)]
      clear hf'
      go_enter Tryz.func49, Tryz.ntmps49
      go_wp2_with fail
      generalize w.alloc (.cells #[.string p.n, .int .i64 p.a, .int .i64 p.b, .int .i64 p.e, .int .i64 p.u] 26) = W0 at *
      refine AT.mono ?_
      rintro r u1 ⟨rfl, b1⟩
      have A1' := A1.on b1
      have B1 := btr b0 b1
      have x0 := A1'.cell 0 _ rfl
      have x1 := A1'.cell 1 _ rfl
      have x2 := A1'.cell 2 _ rfl
      have x3 := A1'.cell 3 _ rfl
      have x4 := A1'.cell 4 _ rfl
      clear A1 b0 b1 AT
      obtain ⟨b', off', hab', -, c0, c1, c2, c3, c4⟩ := (HR.out.below (B1.mono hB)).at' hkl
      injection hab' with hab'
      injection hab' with ea eb
      subst ea
      subst eb
      rw [HQ.out] at c3
      go_wp2_with fail
      refine wp_region_line (Bel u1) [(0, true), (1, true), (2, true), (3, true), (4, true), (5, true), (6, true), (7, true), (8, true), (9, true), (10, true), (11, true)] (by kernel_rfl) (by kernel_rfl) (fun _ _ d _ _ h => by cases d <;> exact h) (Bel.drew u1) ?_
      have hst := Bel.drew u1
      have inst : Nonempty (Of (Bel u1)) := ⟨⟨_, hst⟩⟩
      have g0 := bel_cell c3
      have g1 := bel_cell x3
      iterate 12 (refine line_read rfl (by kernel_rfl) (fun K hK => ?_); go_big_quiet_op; refine hK _ ?_; clear hK K)
      refine line_nil ?_
      have B2 := btr B1 hst.out
      have A2 := A1'.on hst.out
      clear hst inst A1' B1 x0 x1 x2 x3 x4 c0 c1 c2 c3 c4 g0 g1
      have y0 := A2.cell 0 _ rfl
      have y1 := A2.cell 1 _ rfl
      have y2 := A2.cell 2 _ rfl
      have y3 := A2.cell 3 _ rfl
      have y4 := A2.cell 4 _ rfl
      go_wp2_with fail
      refine bodyPost_ret (v := .tuple #[.slice none 0 0, .int .i64 11]) (by simp [results, Tryz.results49, go_sem]) rfl ⟨none, 0, 0, by rw [e1], by rw [e2]; exact OwnP.nil _ _, B2⟩
    · have e1 := put0_young hf' he
      clear hf'
      go_enter Tryz.func49, Tryz.ntmps49
      go_wp2_with fail
      generalize w.alloc (.cells #[.string p.n, .int .i64 p.a, .int .i64 p.b, .int .i64 p.e, .int .i64 p.u] 26) = W0 at *
      refine AT.mono ?_
      rintro r u1 ⟨rfl, b1⟩
      have A1' := A1.on b1
      have B1 := btr b0 b1
      have x0 := A1'.cell 0 _ rfl
      have x1 := A1'.cell 1 _ rfl
      have x2 := A1'.cell 2 _ rfl
      have x3 := A1'.cell 3 _ rfl
      have x4 := A1'.cell 4 _ rfl
      clear A1 b0 b1 AT
      obtain ⟨b', off', hab', -, c0, c1, c2, c3, c4⟩ := (HR.out.below (B1.mono hB)).at' hkl
      injection hab' with hab'
      injection hab' with ea eb
      subst ea
      subst eb
      rw [HQ.out] at c3
      go_wp2_with fail
      refine wp_region_line (Bel u1) [(0, true), (1, true), (2, true), (3, true), (4, true), (5, true), (6, true), (7, true), (8, true), (9, true), (10, true), (11, true)] (by kernel_rfl) (by kernel_rfl) (fun _ _ d _ _ h => by cases d <;> exact h) (Bel.drew u1) ?_
      have hst := Bel.drew u1
      have inst : Nonempty (Of (Bel u1)) := ⟨⟨_, hst⟩⟩
      have g0 := bel_cell c3
      have g1 := bel_cell x3
      iterate 12 (refine line_read rfl (by kernel_rfl) (fun K hK => ?_); go_big_quiet_op; refine hK _ ?_; clear hK K)
      refine line_nil ?_
      have B2 := btr B1 hst.out
      have A2 := A1'.on hst.out
      clear hst inst A1' B1 x0 x1 x2 x3 x4 c0 c1 c2 c3 c4 g0 g1
      have y0 := A2.cell 0 _ rfl
      have y1 := A2.cell 1 _ rfl
      have y2 := A2.cell 2 _ rfl
      have y3 := A2.cell 3 _ rfl
      have y4 := A2.cell 4 _ rfl
      obtain ⟨i0, hi0, hz0, hz1, hz2⟩ := info_parts pin_info
      have lu : w.heap.size < u1.heap.size := A2.lt (by simp [PinD.vals])
      have B2' : Below w.heap.size w (u1.alloc (.cells #[] 26)).drew := bal B2 (.cells #[] 26)
      have T0 : PutRel w ps p 0 false (.slice (some ⟨u1.heap.size, 0, none⟩) 0 0) [] (u1.alloc (.cells #[] 26)).drew :=
        ⟨(Own.made u1 #[] 26 0 (by omega) (by simp) rfl).drew, (A2.alloc (.cells #[] 26)).keep (fun _ => rfl), B2', rfl, by simp, by simp⟩
      clear lu B2'
      go_wp2_with fail
      generalize (u1.alloc (.cells #[] 26)).drew = W1 at *
      clear A2 B2 y0 y1 y2 y3 y4
      go_loopw [7, 8, 9] (fun v dd i wr => ∃ (k : Nat) (d : Bool) (out : List PinD), k ≤ len ∧ i = .int .i64 k ∧ dd = .bool d ∧ PutRel w ps p k d v out wr) (fun _ _ i _ => len - (intOf i).toNat)
      case atStart => exact ⟨0, false, [], Nat.zero_le _, rfl, rfl, T0⟩
      case round =>
        obtain ⟨k, d, out, hk, rfl, rfl, hT⟩ := hrel
        clear T0
        have hbs := hT.bel.size
        have hlo := hT.len
        have hfw := hT.few
        have bsz := hT.box.lt (by simp [PinD.vals])
        obtain ⟨va, vc, hva, -⟩ := hT.own.form
        subst hva
        by_cases hlt : k < len
        · obtain ⟨b, off, hab, hbB, c0, c1, c2, c3, c4⟩ := (HR.out.below (hT.bel.mono hB)).at' hlt
          first | subst hab | (injection hab with hab; injection hab with ea eb; subst ea; subst eb)
          have heq := hT.eq
          rw [putG_step (ps := ps) (k := k) (by rw [hL.out]; exact hlt) p d] at heq
          have Q1 : Op.bytesLess (ps[k]?.getD pin0).n.toList p.n.toList = nlt (ps[k]?.getD pin0).nm p.nm := by rw [ByteArray.toList_eq, ByteArray.toList_eq]; rfl
          have Q2 : ((ps[k]?.getD pin0).n.toList == p.n.toList) = decide ((ps[k]?.getD pin0).nm = p.nm) := text_beq _ _
          generalize hq : ps[k]?.getD pin0 = q at *
          have p0 := hT.box.cell 0 _ rfl
          cases d
          · have hfw := hfw rfl
            cases hn : nlt q.nm p.nm
            · rw [hn] at Q1 heq
              by_cases he : q.nm = p.nm
              · rw [decide_eq_true he] at Q2
                have TE := Lib.hid (show (out ++ [p]) ++ putG p true (ps.drop (k + 1)) = putL ps p by rw [if_pos he] at heq; simpa using heq)
                have TL : (out ++ [p]).length ≤ k + 1 + 1 := by simp; omega
                clear heq he hn
                go_wp2_with fail
                refine wp_region_line (Bel wr) [(0, true), (1, true), (2, true), (3, true), (4, true), (5, true), (6, true), (7, true), (8, true), (9, true), (10, true), (11, true)] (by kernel_rfl) (by kernel_rfl) (fun _ _ d _ _ h => by cases d <;> exact h) (Bel.drew wr) ?_
                have hst := Bel.drew wr
                have inst : Nonempty (Of (Bel wr)) := ⟨⟨_, hst⟩⟩
                have g0 := bel_cell c0
                have g1 := bel_cell p0
                iterate 12 (refine line_read rfl (by kernel_rfl) (fun K hK => ?_); go_big_quiet_op; refine hK _ ?_; clear hK K)
                refine line_nil ?_
                have TO : OwnP wr.drew (w.heap.size + 1) (.slice va out.length vc) out := hT.own
                have TA : At w.heap.size p.vals wr.drew := hT.box.keep (fun _ => rfl)
                have TB := hT.bel.drew
                have ts : w.heap.size < wr.drew.heap.size := bsz
                clear hst inst g0 g1 c0 c1 c2 c3 c4 p0 hT hbs bsz
                generalize wr.drew = v1 at *
                have x0 := TA.cell 0 _ rfl
                have x1 := TA.cell 1 _ rfl
                have x2 := TA.cell 2 _ rfl
                have x3 := TA.cell 3 _ rfl
                have x4 := TA.cell 4 _ rfl
                go_wp2_with (at_builtin; refine wpList_append_src _ rfl (.tmp 52) (.tmp 54) 24 24 rfl (w.heap.size + 1) 26 i0 (P5 pin0) 5 48 Tryz.underlying24 hi0 hz0 hz1 hz2 rfl _ _ _ rfl (Own.alloc TO _) _ 1 p.vals rfl (src_new5 _ p _ _ _ Tryz.underlying24) (by simp only [maxLen]; first | omega | (simp only [List.length_append, List.length_cons, List.length_nil]; omega)) (by first | omega | (simp only [List.length_append, List.length_cons, List.length_nil]; omega)) (by simp; omega) ?_; intro v3 w3 hown hgrow hat)
                obtain ⟨TO', TA', TB'⟩ := put_app TO TA TB hown hgrow
                have ts' : w.heap.size < w3.heap.size := TA'.lt (by simp [PinD.vals])
                clear hown hgrow hat TO TA TB ts x0 x1 x2 x3 x4
                have TO := TO'
                have TA := TA'
                have TB := TB'
                have ts := ts'
                clear TO' TA' TB' ts'
                obtain ⟨b', off', hab', -, m0, m1, m2, m3, m4⟩ := (HR.out.below (TB.mono hB)).at' hlt
                injection hab' with hab'
                injection hab' with ea eb
                subst ea
                subst eb
                rw [hq] at m0 m1 m2 m3 m4
                have y0 := TA.cell 0 _ rfl
                go_wp2_with fail
                refine wp_region_line (Bel w3) [(0, true), (1, true), (2, true), (3, true), (4, true), (5, true), (6, true), (7, true)] (by kernel_rfl) (by kernel_rfl) (fun _ _ d _ _ h => by cases d <;> exact h) (Bel.drew w3) ?_
                have hst := Bel.drew w3
                have inst : Nonempty (Of (Bel w3)) := ⟨⟨_, hst⟩⟩
                have g0 := bel_cell m0
                have g1 := bel_cell y0
                iterate 8 (refine line_read rfl (by kernel_rfl) (fun K hK => ?_); go_big_quiet_op; refine hK _ ?_; clear hK K)
                refine line_nil ?_
                have TO2 : OwnP w3.drew (w.heap.size + 1) _ _ := TO
                have TA2 : At w.heap.size p.vals w3.drew := TA.keep (fun _ => rfl)
                have TB2 := TB.drew
                have ts2 : w.heap.size < w3.drew.heap.size := ts
                clear hst inst g0 g1 m0 m1 m2 m3 m4 y0 TO TA TB ts
                generalize w3.drew = v2 at *
                go_wp2_with fail
                go_roundw
                case rel => exact ⟨k + 1, true, _, by omega, by go_num, rfl, ⟨TO2, TA2, TB2, TE.out, TL, fun h => by cases h⟩⟩
                case measure => simp [intOf]; omega
              · rw [decide_eq_false he] at Q2
                have TE := Lib.hid (show ((out ++ [p]) ++ [q]) ++ putG p true (ps.drop (k + 1)) = putL ps p by rw [if_neg he] at heq; simpa using heq)
                have TL : ((out ++ [p]) ++ [q]).length ≤ k + 1 + 1 := by simp; omega
                clear heq he hn
                go_wp2_with fail
                refine wp_region_line (Bel wr) [(0, true), (1, true), (2, true), (3, true), (4, true), (5, true), (6, true), (7, true), (8, true), (9, true), (10, true), (11, true)] (by kernel_rfl) (by kernel_rfl) (fun _ _ d _ _ h => by cases d <;> exact h) (Bel.drew wr) ?_
                have hst := Bel.drew wr
                have inst : Nonempty (Of (Bel wr)) := ⟨⟨_, hst⟩⟩
                have g0 := bel_cell c0
                have g1 := bel_cell p0
                iterate 12 (refine line_read rfl (by kernel_rfl) (fun K hK => ?_); go_big_quiet_op; refine hK _ ?_; clear hK K)
                refine line_nil ?_
                have TO : OwnP wr.drew (w.heap.size + 1) (.slice va out.length vc) out := hT.own
                have TA : At w.heap.size p.vals wr.drew := hT.box.keep (fun _ => rfl)
                have TB := hT.bel.drew
                have ts : w.heap.size < wr.drew.heap.size := bsz
                clear hst inst g0 g1 c0 c1 c2 c3 c4 p0 hT hbs bsz
                generalize wr.drew = v1 at *
                have x0 := TA.cell 0 _ rfl
                have x1 := TA.cell 1 _ rfl
                have x2 := TA.cell 2 _ rfl
                have x3 := TA.cell 3 _ rfl
                have x4 := TA.cell 4 _ rfl
                go_wp2_with (at_builtin; refine wpList_append_src _ rfl (.tmp 52) (.tmp 54) 24 24 rfl (w.heap.size + 1) 26 i0 (P5 pin0) 5 48 Tryz.underlying24 hi0 hz0 hz1 hz2 rfl _ _ _ rfl (Own.alloc TO _) _ 1 p.vals rfl (src_new5 _ p _ _ _ Tryz.underlying24) (by simp only [maxLen]; first | omega | (simp only [List.length_append, List.length_cons, List.length_nil]; omega)) (by first | omega | (simp only [List.length_append, List.length_cons, List.length_nil]; omega)) (by simp; omega) ?_; intro v3 w3 hown hgrow hat)
                obtain ⟨TO', TA', TB'⟩ := put_app TO TA TB hown hgrow
                have ts' : w.heap.size < w3.heap.size := TA'.lt (by simp [PinD.vals])
                clear hown hgrow hat TO TA TB ts x0 x1 x2 x3 x4
                have TO := TO'
                have TA := TA'
                have TB := TB'
                have ts := ts'
                clear TO' TA' TB' ts'
                obtain ⟨b', off', hab', -, m0, m1, m2, m3, m4⟩ := (HR.out.below (TB.mono hB)).at' hlt
                injection hab' with hab'
                injection hab' with ea eb
                subst ea
                subst eb
                rw [hq] at m0 m1 m2 m3 m4
                have y0 := TA.cell 0 _ rfl
                go_wp2_with fail
                refine wp_region_line (Bel w3) [(0, true), (1, true), (2, true), (3, true), (4, true), (5, true), (6, true), (7, true)] (by kernel_rfl) (by kernel_rfl) (fun _ _ d _ _ h => by cases d <;> exact h) (Bel.drew w3) ?_
                have hst := Bel.drew w3
                have inst : Nonempty (Of (Bel w3)) := ⟨⟨_, hst⟩⟩
                have g0 := bel_cell m0
                have g1 := bel_cell y0
                iterate 8 (refine line_read rfl (by kernel_rfl) (fun K hK => ?_); go_big_quiet_op; refine hK _ ?_; clear hK K)
                refine line_nil ?_
                have TO2 : OwnP w3.drew (w.heap.size + 1) _ _ := TO
                have TA2 : At w.heap.size p.vals w3.drew := TA.keep (fun _ => rfl)
                have TB2 := TB.drew
                have ts2 : w.heap.size < w3.drew.heap.size := ts
                clear hst inst g0 g1 m0 m1 m2 m3 m4 y0 TO TA TB ts
                generalize w3.drew = v2 at *
                obtain ⟨b', off', hab', -, m0, m1, m2, m3, m4⟩ := (HR.out.below (TB2.mono hB)).at' hlt
                injection hab' with hab'
                injection hab' with ea eb
                subst ea
                subst eb
                rw [hq] at m0 m1 m2 m3 m4
                go_wp2_with (at_builtin; refine wpList_append_src _ rfl (.tmp 64) (.tmp 69) 24 24 rfl (w.heap.size + 1) 26 i0 (P5 pin0) 5 48 Tryz.underlying24 hi0 hz0 hz1 hz2 rfl _ _ _ rfl (Own.alloc TO2 _) _ 1 q.vals rfl (src_new5 _ q _ _ _ Tryz.underlying24) (by simp only [maxLen]; first | omega | (simp only [List.length_append, List.length_cons, List.length_nil]; omega)) (by first | omega | (simp only [List.length_append, List.length_cons, List.length_nil]; omega)) (by simp; omega) ?_; intro v3 w3 hown hgrow hat)
                obtain ⟨O3, A3, B3⟩ := put_app TO2 TA2 TB2 hown hgrow
                clear hown hgrow hat TO2 TA2 TB2 m0 m1 m2 m3 m4
                go_wp2_with fail
                go_roundw
                case rel => exact ⟨k + 1, true, _, by omega, by go_num, rfl, ⟨O3, A3, B3, TE.out, TL, fun h => by cases h⟩⟩
                case measure => simp [intOf]; omega
            · rw [hn] at Q1 heq
              have he : ¬ q.nm = p.nm := nlt_ne hn
              rw [decide_eq_false he] at Q2
              have TE := Lib.hid (show (out ++ [q]) ++ putG p false (ps.drop (k + 1)) = putL ps p by rw [if_neg he] at heq; simpa using heq)
              have TL : (out ++ [q]).length ≤ k + 1 + 1 := by simp; omega
              have TF : (out ++ [q]).length ≤ k + 1 := by simp; omega
              clear heq he hn
              go_wp2_with fail
              refine wp_region_line (Bel wr) [(0, true), (1, true), (2, true), (3, true), (4, true), (5, true), (6, true), (7, true), (8, true), (9, true), (10, true), (11, true)] (by kernel_rfl) (by kernel_rfl) (fun _ _ d _ _ h => by cases d <;> exact h) (Bel.drew wr) ?_
              have hst := Bel.drew wr
              have inst : Nonempty (Of (Bel wr)) := ⟨⟨_, hst⟩⟩
              have g0 := bel_cell c0
              have g1 := bel_cell p0
              iterate 12 (refine line_read rfl (by kernel_rfl) (fun K hK => ?_); go_big_quiet_op; refine hK _ ?_; clear hK K)
              refine line_nil ?_
              have TO : OwnP wr.drew (w.heap.size + 1) (.slice va out.length vc) out := hT.own
              have TA : At w.heap.size p.vals wr.drew := hT.box.keep (fun _ => rfl)
              have TB := hT.bel.drew
              have ts : w.heap.size < wr.drew.heap.size := bsz
              clear hst inst g0 g1 c0 c1 c2 c3 c4 p0 hT hbs bsz
              generalize wr.drew = v1 at *
              have x0 := TA.cell 0 _ rfl
              have x1 := TA.cell 1 _ rfl
              have x2 := TA.cell 2 _ rfl
              have x3 := TA.cell 3 _ rfl
              have x4 := TA.cell 4 _ rfl
              obtain ⟨b', off', hab', -, m0, m1, m2, m3, m4⟩ := (HR.out.below (TB.mono hB)).at' hlt
              injection hab' with hab'
              injection hab' with ea eb
              subst ea
              subst eb
              rw [hq] at m0 m1 m2 m3 m4
              have y0 := TA.cell 0 _ rfl
              go_wp2_with fail
              refine wp_region_line (Bel v1) [(0, true), (1, true), (2, true), (3, true), (4, true), (5, true), (6, true), (7, true)] (by kernel_rfl) (by kernel_rfl) (fun _ _ d _ _ h => by cases d <;> exact h) (Bel.drew v1) ?_
              have hst := Bel.drew v1
              have inst : Nonempty (Of (Bel v1)) := ⟨⟨_, hst⟩⟩
              have g0 := bel_cell m0
              have g1 := bel_cell y0
              iterate 8 (refine line_read rfl (by kernel_rfl) (fun K hK => ?_); go_big_quiet_op; refine hK _ ?_; clear hK K)
              refine line_nil ?_
              have TO2 : OwnP v1.drew (w.heap.size + 1) _ _ := TO
              have TA2 : At w.heap.size p.vals v1.drew := TA.keep (fun _ => rfl)
              have TB2 := TB.drew
              have ts2 : w.heap.size < v1.drew.heap.size := ts
              clear hst inst g0 g1 m0 m1 m2 m3 m4 y0 TO TA TB ts
              generalize v1.drew = v2 at *
              obtain ⟨b', off', hab', -, m0, m1, m2, m3, m4⟩ := (HR.out.below (TB2.mono hB)).at' hlt
              injection hab' with hab'
              injection hab' with ea eb
              subst ea
              subst eb
              rw [hq] at m0 m1 m2 m3 m4
              go_wp2_with (at_builtin; refine wpList_append_src _ rfl (.tmp 64) (.tmp 69) 24 24 rfl (w.heap.size + 1) 26 i0 (P5 pin0) 5 48 Tryz.underlying24 hi0 hz0 hz1 hz2 rfl _ _ _ rfl (Own.alloc TO2 _) _ 1 q.vals rfl (src_new5 _ q _ _ _ Tryz.underlying24) (by simp only [maxLen]; first | omega | (simp only [List.length_append, List.length_cons, List.length_nil]; omega)) (by first | omega | (simp only [List.length_append, List.length_cons, List.length_nil]; omega)) (by simp; omega) ?_; intro v3 w3 hown hgrow hat)
              obtain ⟨O3, A3, B3⟩ := put_app TO2 TA2 TB2 hown hgrow
              clear hown hgrow hat TO2 TA2 TB2 m0 m1 m2 m3 m4
              go_wp2_with fail
              go_roundw
              case rel => exact ⟨k + 1, false, _, by omega, by go_num, rfl, ⟨O3, A3, B3, TE.out, TL, fun _ => TF⟩⟩
              case measure => simp [intOf]; omega
          · by_cases he : q.nm = p.nm
            · rw [decide_eq_true he] at Q2
              have TE := Lib.hid (show out ++ putG p true (ps.drop (k + 1)) = putL ps p by rw [if_pos he] at heq; simpa using heq)
              have TL : out.length ≤ k + 1 + 1 := by omega
              clear heq he
              go_wp2_with fail
              refine wp_region_line (Bel wr) [(0, true), (1, true), (2, true), (3, true), (4, true), (5, true), (6, true), (7, true), (8, true), (9, true), (10, true), (11, true)] (by kernel_rfl) (by kernel_rfl) (fun _ _ d _ _ h => by cases d <;> exact h) (Bel.drew wr) ?_
              have hst := Bel.drew wr
              have inst : Nonempty (Of (Bel wr)) := ⟨⟨_, hst⟩⟩
              iterate 3 (refine line_read rfl (by kernel_rfl) (fun K hK => ?_); go_big_quiet_op; refine hK _ ?_; clear hK K)
              iterate 8 (refine line_skip rfl (by kernel_rfl) ?_; simp only [Act.put, List.setIfInBounds_toArray, List.set_cons_zero, List.set_cons_succ])
              iterate 1 (refine line_read rfl (by kernel_rfl) (fun K hK => ?_); go_big_quiet_op; refine hK _ ?_; clear hK K)
              refine line_nil ?_
              have TO : OwnP wr.drew (w.heap.size + 1) (.slice va out.length vc) out := hT.own
              have TA : At w.heap.size p.vals wr.drew := hT.box.keep (fun _ => rfl)
              have TB := hT.bel.drew
              have ts : w.heap.size < wr.drew.heap.size := bsz
              clear hst inst c0 c1 c2 c3 c4 p0 hT hbs bsz
              generalize wr.drew = v1 at *
              obtain ⟨b', off', hab', -, m0, m1, m2, m3, m4⟩ := (HR.out.below (TB.mono hB)).at' hlt
              injection hab' with hab'
              injection hab' with ea eb
              subst ea
              subst eb
              rw [hq] at m0 m1 m2 m3 m4
              have y0 := TA.cell 0 _ rfl
              go_wp2_with fail
              refine wp_region_line (Bel v1) [(0, true), (1, true), (2, true), (3, true), (4, true), (5, true), (6, true), (7, true)] (by kernel_rfl) (by kernel_rfl) (fun _ _ d _ _ h => by cases d <;> exact h) (Bel.drew v1) ?_
              have hst := Bel.drew v1
              have inst : Nonempty (Of (Bel v1)) := ⟨⟨_, hst⟩⟩
              have g0 := bel_cell m0
              have g1 := bel_cell y0
              iterate 8 (refine line_read rfl (by kernel_rfl) (fun K hK => ?_); go_big_quiet_op; refine hK _ ?_; clear hK K)
              refine line_nil ?_
              have TO2 : OwnP v1.drew (w.heap.size + 1) _ _ := TO
              have TA2 : At w.heap.size p.vals v1.drew := TA.keep (fun _ => rfl)
              have TB2 := TB.drew
              have ts2 : w.heap.size < v1.drew.heap.size := ts
              clear hst inst g0 g1 m0 m1 m2 m3 m4 y0 TO TA TB ts
              generalize v1.drew = v2 at *
              go_wp2_with fail
              go_roundw
              case rel => exact ⟨k + 1, true, _, by omega, by go_num, rfl, ⟨TO2, TA2, TB2, TE.out, TL, fun h => by cases h⟩⟩
              case measure => simp [intOf]; omega
            · rw [decide_eq_false he] at Q2
              have TE := Lib.hid (show (out ++ [q]) ++ putG p true (ps.drop (k + 1)) = putL ps p by rw [if_neg he] at heq; simpa using heq)
              have TL : (out ++ [q]).length ≤ k + 1 + 1 := by simp; omega
              clear heq he
              go_wp2_with fail
              refine wp_region_line (Bel wr) [(0, true), (1, true), (2, true), (3, true), (4, true), (5, true), (6, true), (7, true), (8, true), (9, true), (10, true), (11, true)] (by kernel_rfl) (by kernel_rfl) (fun _ _ d _ _ h => by cases d <;> exact h) (Bel.drew wr) ?_
              have hst := Bel.drew wr
              have inst : Nonempty (Of (Bel wr)) := ⟨⟨_, hst⟩⟩
              iterate 3 (refine line_read rfl (by kernel_rfl) (fun K hK => ?_); go_big_quiet_op; refine hK _ ?_; clear hK K)
              iterate 8 (refine line_skip rfl (by kernel_rfl) ?_; simp only [Act.put, List.setIfInBounds_toArray, List.set_cons_zero, List.set_cons_succ])
              iterate 1 (refine line_read rfl (by kernel_rfl) (fun K hK => ?_); go_big_quiet_op; refine hK _ ?_; clear hK K)
              refine line_nil ?_
              have TO : OwnP wr.drew (w.heap.size + 1) (.slice va out.length vc) out := hT.own
              have TA : At w.heap.size p.vals wr.drew := hT.box.keep (fun _ => rfl)
              have TB := hT.bel.drew
              have ts : w.heap.size < wr.drew.heap.size := bsz
              clear hst inst c0 c1 c2 c3 c4 p0 hT hbs bsz
              generalize wr.drew = v1 at *
              obtain ⟨b', off', hab', -, m0, m1, m2, m3, m4⟩ := (HR.out.below (TB.mono hB)).at' hlt
              injection hab' with hab'
              injection hab' with ea eb
              subst ea
              subst eb
              rw [hq] at m0 m1 m2 m3 m4
              have y0 := TA.cell 0 _ rfl
              go_wp2_with fail
              refine wp_region_line (Bel v1) [(0, true), (1, true), (2, true), (3, true), (4, true), (5, true), (6, true), (7, true)] (by kernel_rfl) (by kernel_rfl) (fun _ _ d _ _ h => by cases d <;> exact h) (Bel.drew v1) ?_
              have hst := Bel.drew v1
              have inst : Nonempty (Of (Bel v1)) := ⟨⟨_, hst⟩⟩
              have g0 := bel_cell m0
              have g1 := bel_cell y0
              iterate 8 (refine line_read rfl (by kernel_rfl) (fun K hK => ?_); go_big_quiet_op; refine hK _ ?_; clear hK K)
              refine line_nil ?_
              have TO2 : OwnP v1.drew (w.heap.size + 1) _ _ := TO
              have TA2 : At w.heap.size p.vals v1.drew := TA.keep (fun _ => rfl)
              have TB2 := TB.drew
              have ts2 : w.heap.size < v1.drew.heap.size := ts
              clear hst inst g0 g1 m0 m1 m2 m3 m4 y0 TO TA TB ts
              generalize v1.drew = v2 at *
              obtain ⟨b', off', hab', -, m0, m1, m2, m3, m4⟩ := (HR.out.below (TB2.mono hB)).at' hlt
              injection hab' with hab'
              injection hab' with ea eb
              subst ea
              subst eb
              rw [hq] at m0 m1 m2 m3 m4
              go_wp2_with (at_builtin; refine wpList_append_src _ rfl (.tmp 64) (.tmp 69) 24 24 rfl (w.heap.size + 1) 26 i0 (P5 pin0) 5 48 Tryz.underlying24 hi0 hz0 hz1 hz2 rfl _ _ _ rfl (Own.alloc TO2 _) _ 1 q.vals rfl (src_new5 _ q _ _ _ Tryz.underlying24) (by simp only [maxLen]; first | omega | (simp only [List.length_append, List.length_cons, List.length_nil]; omega)) (by first | omega | (simp only [List.length_append, List.length_cons, List.length_nil]; omega)) (by simp; omega) ?_; intro v3 w3 hown hgrow hat)
              obtain ⟨O3, A3, B3⟩ := put_app TO2 TA2 TB2 hown hgrow
              clear hown hgrow hat TO2 TA2 TB2 m0 m1 m2 m3 m4
              go_wp2_with fail
              go_roundw
              case rel => exact ⟨k + 1, true, _, by omega, by go_num, rfl, ⟨O3, A3, B3, TE.out, TL, fun h => by cases h⟩⟩
              case measure => simp [intOf]; omega
        · obtain rfl : k = len := by omega
          have e : ps.drop k = [] := List.drop_of_length_le (by rw [hL.out]; omega)
          have heq := hT.eq
          rw [e] at heq
          have e2 : put1 ps p = putL ps p := by unfold put1; rw [if_pos e1]
          cases d
          · have hO := hT.own
            have hA := hT.box
            have hb := hT.bel
            have HE := Lib.hid (show out ++ [p] = putL ps p from heq)
            have x0 := hA.cell 0 _ rfl
            have x1 := hA.cell 1 _ rfl
            have x2 := hA.cell 2 _ rfl
            have x3 := hA.cell 3 _ rfl
            have x4 := hA.cell 4 _ rfl
            clear hT heq
            go_wp2_with (at_builtin; refine wpList_append_src _ rfl (.tmp 73) (.tmp 75) 24 24 rfl (w.heap.size + 1) 26 i0 (P5 pin0) 5 48 Tryz.underlying24 hi0 hz0 hz1 hz2 rfl _ _ _ rfl (Own.alloc hO _) _ 1 p.vals rfl (src_new5 _ p _ _ _ Tryz.underlying24) (by simp only [maxLen]; first | omega | (simp only [List.length_append, List.length_cons, List.length_nil]; omega)) (by first | omega | (simp only [List.length_append, List.length_cons, List.length_nil]; omega)) (by simp; omega) ?_; intro v3 w3 hown hgrow hat)
            obtain ⟨O3, A3, B3⟩ := put_app hO hA hb hown hgrow
            obtain ⟨a3, c3, rfl, -⟩ := O3.form
            have H := Lib.hid (And.intro (O3.less (by omega : w.heap.size ≤ w.heap.size + 1)) B3)
            clear hown hgrow hat O3 A3 B3
            go_wp2_with fail
            refine bodyPost_ret (v := .tuple #[.slice a3 (out ++ [p]).length c3, .int .i64 0]) (by simp [results, Tryz.results49, go_sem]) rfl ⟨_, _, _, by rw [e1], by rw [e2, ← HE.out]; exact H.out.1, H.out.2⟩
          · have hO := hT.own
            have hb := hT.bel
            have HE := Lib.hid (show out = putL ps p by simpa [putG] using heq)
            have H := Lib.hid (And.intro (hO.less (by omega : w.heap.size ≤ w.heap.size + 1)) hb)
            clear hT heq hO hb
            go_wp2_with fail
            refine bodyPost_ret (v := .tuple #[.slice va out.length vc, .int .i64 0]) (by simp [results, Tryz.results49, go_sem]) rfl ⟨_, _, _, by rw [e1], by rw [e2, ← HE.out]; exact H.out.1, H.out.2⟩

theorem put0_code {ps : List PinD} {p : PinD} (h0 : pinsF ps = 0) (h1 : p.f = 0) : putC ps p = put0 ps p ∧ putR ps p = put1 ps p := by
  have hl := (pinsF_zero h0).1
  have e : putC ps p = put0 ps p := by
    cases hf : findP ps p.nm with
    | none =>
      by_cases h4 : ps.length = 4
      · rw [(putC_full h0 h1 hf h4).1, put0_full hf (by omega)]
      · rw [(putC_new h0 h1 hf h4).1, put0_new hf (by omega)]
    | some q =>
      by_cases he : p.e ≤ q.e
      · rw [(putC_old h0 h1 hf he).1, put0_old hf he]
      · rw [(putC_young h0 h1 hf he).1, put0_young hf he]
  exact ⟨e, by unfold putR put1; rw [e]⟩
theorem specPutPin_any (a : Option Addr) (len cap B : Nat) (ps : List PinD) (p : PinD) (w : World) (hR : PRow w B a len cap ps) (hB : B ≤ w.heap.size) (hn : p.n.size ≤ maxLen) :
    Calls Tryz.prog 18 #[.slice a len cap, P5 p] w (PinsRes (putC ps p) (putR ps p) w) := by
  have hL := Lib.hid hR.length
  have b0 := bal (bal (Below.refl _ w) (.cells #[.string p.n, .int .i64 p.a, .int .i64 p.b, .int .i64 p.e, .int .i64 p.u] 26)) (.cells #[.int .i64 0, .slice none 0 0] 30)
  have A1 : At w.heap.size p.vals ((w.alloc (.cells #[.string p.n, .int .i64 p.a, .int .i64 p.b, .int .i64 p.e, .int .i64 p.u] 26)).alloc (.cells #[.int .i64 0, .slice none 0 0] 30)) := (At.new w p.vals 26).alloc _
  have A2 := At.new (w.alloc (.cells #[.string p.n, .int .i64 p.a, .int .i64 p.b, .int .i64 p.e, .int .i64 p.u] 26)) [.int .i64 0, .slice none 0 0] 30
  rw [show (w.alloc (.cells #[.string p.n, .int .i64 p.a, .int .i64 p.b, .int .i64 p.e, .int .i64 p.u] 26)).heap.size = w.heap.size + 1 by simp] at A2
  have F := l7Pins_any a len cap B ps _ (hR.below (b0.mono hB)) (Nat.le_trans hB b0.size)
  by_cases h0 : pinsF ps = 0
  case neg =>
    rw [(putC_list h0).1, (putC_list h0).2]
    generalize pinsF ps = c at *
    clear hR
    go_enter Tryz.func18, Tryz.ntmps18
    go_wp2_with fail
    generalize (w.alloc (.cells #[.string p.n, .int .i64 p.a, .int .i64 p.b, .int .i64 p.e, .int .i64 p.u] 26)).alloc (.cells #[.int .i64 0, .slice none 0 0] 30) = W0 at *
    refine F.mono ?_
    rintro r u1 ⟨rfl, b1⟩
    have q0 := (A2.on b1).cell 0 _ rfl
    have q1 := (A2.on b1).cell 1 _ rfl
    have z0 := (A2.on b1).free 0 _ rfl
    have z1 := (A2.on b1).free 1 _ rfl
    have B1 := btr b0 b1
    clear A1 A2 b0 b1 F
    go_wp2_with fail
    refine bodyPost_ret (v := .agg #[.int .i64 c, .slice none 0 0]) (by simp [results, Tryz.results18, go_sem, q0, q1]) rfl ⟨none, 0, 0, rfl, OwnP.nil _ _, ?_⟩
    exact (by (iterate 2 (refine bset ?_ (by dsimp only; omega) _)); exact B1)
  rw [h0] at F
  have F2 := fun g w A => l7Fault_any g p w A hn
  by_cases h1 : p.f = 0
  case neg =>
    rw [(putC_pin h0 h1).1, (putC_pin h0 h1).2]
    clear hR
    go_enter Tryz.func18, Tryz.ntmps18
    go_wp2_with fail
    generalize (w.alloc (.cells #[.string p.n, .int .i64 p.a, .int .i64 p.b, .int .i64 p.e, .int .i64 p.u] 26)).alloc (.cells #[.int .i64 0, .slice none 0 0] 30) = W0 at *
    refine F.mono ?_
    rintro r u1 ⟨rfl, b1⟩
    go_wp2_with fail
    refine (F2 _ _ (A1.on b1)).mono ?_
    rintro r u2 ⟨rfl, b2⟩
    have bb := btr b1 b2
    have q0 := (A2.on bb).cell 0 _ rfl
    have q1 := (A2.on bb).cell 1 _ rfl
    have z0 := (A2.on bb).free 0 _ rfl
    have z1 := (A2.on bb).free 1 _ rfl
    have B1 := btr b0 bb
    clear A1 A2 b0 b1 b2 bb F F2
    go_wp2_with fail
    refine bodyPost_ret (v := .agg #[.int .i64 p.f, .slice none 0 0]) (by simp [results, Tryz.results18, go_sem, q0, q1]) rfl ⟨none, 0, 0, rfl, OwnP.nil _ _, ?_⟩
    exact (by (iterate 2 (refine bset ?_ (by dsimp only; omega) _)); exact B1)
  rw [h1] at F2
  have hl4 := (pinsF_zero h0).1
  rw [(put0_code h0 h1).1, (put0_code h0 h1).2]
  have LP := Lib.hid (fun (w1 : World) (h : Below w.heap.size w w1) => l7Put_any a len cap B ps p w1 (hR.below (h.mono hB)) (Nat.le_trans hB h.size) (by have := hL.out; omega))
  clear hR
  go_enter Tryz.func18, Tryz.ntmps18
  go_wp2_with fail
  generalize (w.alloc (.cells #[.string p.n, .int .i64 p.a, .int .i64 p.b, .int .i64 p.e, .int .i64 p.u] 26)).alloc (.cells #[.int .i64 0, .slice none 0 0] 30) = W0 at *
  refine F.mono ?_
  rintro r u1 ⟨rfl, b1⟩
  go_wp2_with fail
  refine (F2 _ _ (A1.on b1)).mono ?_
  rintro r u2 ⟨rfl, b2⟩
  have bb := btr b1 b2
  have B0 := btr b0 bb
  have x0 := (A1.on bb).cell 0 _ rfl
  have x1 := (A1.on bb).cell 1 _ rfl
  have x2 := (A1.on bb).cell 2 _ rfl
  have x3 := (A1.on bb).cell 3 _ rfl
  have x4 := (A1.on bb).cell 4 _ rfl
  go_wp2_with fail
  refine (LP.out _ B0).mono ?_
  rintro r u3 ⟨a3, n3, c3, rfl, O3, b3⟩
  have B1 := btr B0 b3
  have A3 := A2.on (btr bb b3)
  have q0 := A3.cell 0 _ rfl
  have q1 := A3.cell 1 _ rfl
  have z0 := A3.free 0 _ rfl
  have z1 := A3.free 1 _ rfl
  have lt2 := (A2.on bb).lt (by simp)
  have HO := Lib.hid O3
  clear A1 A2 A3 b0 b1 b2 b3 bb F F2 LP B0 x0 x1 x2 x3 x4 O3
  generalize put0 ps p = pc at *
  go_wp2_with fail
  refine bodyPost_ret (v := .agg #[.int .i64 pc, .slice a3 n3 c3]) (by simp [results, Tryz.results18, go_sem, q0, q1]) rfl ⟨a3, n3, c3, rfl, ?_, (by (iterate 2 (refine bset ?_ (by dsimp only; omega) _)); exact B1)⟩
  have hlt := Own.lt HO.out
  refine Own.setCell (Own.setCell (HO.out.less (by omega)) (fun k hk e => ?_) _) (fun k hk e => ?_) _
  · have := (hlt k hk).1; dsimp only at e; omega
  · have := (hlt k hk).1; dsimp only at e; omega
end Go.Proofs.YtcnpocppgghejaaGreatDoor
namespace Go.Proofs.YtcnpocppgghejaaGreatDoor
open Go.RowKit
set_option maxRecDepth 100000
set_option linter.unusedVariables false

/-- The bytes ahead of a pin's name; the bytes of a pin. -/
def headP (a b e u : Int) : List Int := M.two a ++ M.two b ++ [e] ++ M.two u
theorem headP_length (a b e u : Int) : (headP a b e u).length = 7 := rfl
def packP (p : PinD) : List Int := headP p.a p.b p.e p.u ++ M.textL p.n
def packPL (p : PinD) : List Int := if p.f = 0 then packP p else []
theorem packP_length (p : PinD) : (packP p).length = 7 + p.n.size := by
  unfold packP
  rw [List.length_append, headP_length, M.textL_length]
theorem pin_bounds {p : PinD} (h : p.f = 0) : p.n.size ≤ 20 ∧ M.sumB p.a = true ∧ M.sumB p.b = true ∧ (1 ≤ p.e ∧ p.e ≤ 200) ∧ M.sumB p.u = true := by
  obtain ⟨-, h1, h2, h3, h4, -⟩ := pinF_zero h
  refine ⟨pin_size h, pub_sum6 h1, ?_, by simpa [epB] using h3, ?_⟩
  · simp only [bakB, Bool.or_eq_true, decide_eq_true_eq] at h2
    rcases h2 with h2 | h2
    · rw [h2]; rfl
    · exact pub_sum6 h2
  · simp only [timB, decide_eq_true_eq] at h4
    simp only [M.sumB, decide_eq_true_eq]
    omega
theorem packP_byte {p : PinD} (h : p.f = 0) : ∀ z ∈ packP p, M.byteB z := by
  intro z hz
  obtain ⟨-, h1, h2, h3, h4⟩ := pin_bounds h
  simp only [packP, headP, List.mem_append] at hz
  rcases hz with (((hz | hz) | hz) | hz) | hz
  · exact two_byte h1 z hz
  · exact two_byte h2 z hz
  · simp only [List.mem_cons, List.not_mem_nil, or_false] at hz
    unfold M.byteB
    omega
  · exact two_byte h4 z hz
  · exact M.textL_byte p.n z hz
theorem packPL_len (p : PinD) : (packPL p).length ≤ 27 := by
  unfold packPL
  split
  · rename_i h
    have hb := (pin_bounds h).1
    rw [packP_length]
    omega
  · simp
theorem packPL_byte (p : PinD) : ∀ z ∈ packPL p, M.byteB z := by
  intro z hz
  unfold packPL at hz
  split at hz
  · rename_i h
    exact packP_byte h z hz
  · cases hz

theorem l7Pack_any (g : Nat) (p : PinD) (w : World) (hA : At g p.vals w) (h : p.f = 0) :
    Calls Tryz.prog 36 #[.pointer (some ⟨g, 0, none⟩)] w (Made (packP p) w) := by
  obtain ⟨hn, ha, hb, ⟨he0, he1⟩, hu⟩ := pin_bounds h
  have he2 : 0 ≤ p.e := by omega
  have hnm : p.n.size ≤ maxLen := size_max hn
  obtain ⟨i0, hi0, hz0, hz1, hz2⟩ := info_parts u8_info
  have hcv := fun (W : World) => run_bytes_of_string (P := Tryz.prog) W 9 22 5 p.n Tryz.underlying9 Tryz.underlying22 Tryz.underlying5
  have ltg := hA.lt (by simp [PinD.vals])
  clear h
  have d0 := hA.cell 0 _ rfl
  have d1 := hA.cell 1 _ rfl
  have d2 := hA.cell 2 _ rfl
  have d3 := hA.cell 3 _ rfl
  have d4 := hA.cell 4 _ rfl
  go_enter Tryz.func36, Tryz.ntmps36
  go_wp2_with fail
  refine wp_region_line (Bel w) [(0, true), (1, true), (2, true), (3, true), (5, true), (6, true), (7, true), (8, true), (4, false), (9, false), (10, false), (11, true)] (by kernel_rfl) (by kernel_rfl) (fun _ _ d _ _ h => by cases d <;> exact h) (Bel.drew w) ?_
  have hst := Bel.drew w
  have inst : Nonempty (Of (Bel w)) := ⟨⟨_, hst⟩⟩
  have u1 := bel_cell d1
  have u2 := bel_cell d2
  have eV := Lib.hid (show w.drew.heap.size = w.heap.size from rfl)
  generalize w.drew = V1 at *
  iterate 8 (refine line_read rfl (by kernel_rfl) (fun K hK => ?_); go_big_quiet_op; refine hK _ ?_; clear hK K)
  refine line_alone rfl (by kernel_rfl) (fun K hK => ?_)
  refine call_any (args := #[.int .i64 p.a]) rfl (by kernel_rfl) (by kernel_rfl) (l1Two_any p.a _ ha) ?_
  rintro e w3 ⟨rfl, rfl⟩
  have st3 := hst.on (bal (Below.refl _ V1) (.cells #[.int .u8 (p.a / 256), .int .u8 (p.a % 256)] 5))
  have O3 : OwnK .u8 (V1.alloc (.cells #[.int .u8 (p.a / 256), .int .u8 (p.a % 256)] 5)) w.heap.size (.slice (some ⟨V1.heap.size, 0, none⟩) 2 2) (M.two p.a) := own_lit (k := .u8) V1 (M.two p.a) 2 5 (B := w.heap.size) (by have := eV.out; omega) rfl (by simp only [maxLen]; omega)
  refine ⟨_, rfl, hK _ _ st3 ?_⟩
  clear hK K hst
  simp only [Act.put, List.setIfInBounds_toArray, List.set_cons_zero, List.set_cons_succ]
  generalize V1.alloc (.cells #[.int .u8 (p.a / 256), .int .u8 (p.a % 256)] 5) = V2 at *
  refine line_alone rfl (by kernel_rfl) (fun K hK => ?_)
  refine call_any (args := #[.int .i64 p.b]) rfl (by kernel_rfl) (by kernel_rfl) (l1Two_any p.b _ hb) ?_
  rintro e w4 ⟨rfl, rfl⟩
  have st4 := st3.on (bal (Below.refl _ V2) (.cells #[.int .u8 (p.b / 256), .int .u8 (p.b % 256)] 5))
  refine ⟨_, rfl, hK _ _ st4 ?_⟩
  clear hK K
  simp only [Act.put, List.setIfInBounds_toArray, List.set_cons_zero, List.set_cons_succ]
  refine line_alone rfl (by kernel_rfl) (fun K hK => ?_)
  refine wp_append_src _ (.tmp 8) (.tmp 13) 22 22 rfl w.heap.size 5 i0 (.int .u8 0) 1 1 Tryz.underlying22 hi0 hz0 hz1 hz2 rfl _ 2 ((M.two p.a).map (Value.int .u8)) rfl (Own.alloc O3 _) _ 2 [.int .u8 (p.b / 256), .int .u8 (p.b % 256)] rfl (src_new V2 _ 2 2 _ _ _ Tryz.underlying22 rfl (ints_oneCell .u8 [p.b / 256, p.b % 256])) (by simp only [maxLen]; omega) (by omega) (by have := st3.out.size; simp; omega) (fun v5 w5 hown hgrow hat => ?_)
  have b5 : Below w.heap.size w w5 := (Own.alloc O3 (.cells #[.int .u8 (p.b / 256), .int .u8 (p.b % 256)] 5)).grown st4.out (by have := st3.out.size; simp; omega) hgrow
  have O5 : OwnK .u8 w5 w.heap.size v5 (M.two p.a ++ M.two p.b) := by unfold OwnK; simpa [M.two] using hown
  refine hK _ _ ⟨b5⟩ ?_
  clear hK K st3 st4 O3 hown hgrow hat inst u1 u2 eV
  simp only [Act.put, List.setIfInBounds_toArray, List.set_cons_zero, List.set_cons_succ]
  have inst : Nonempty (Of (Bel w)) := ⟨⟨_, ⟨b5⟩⟩⟩
  iterate 1 (refine line_read rfl (by kernel_rfl) (fun K hK => ?_); go_big_quiet_op; refine hK _ ?_; clear hK K)
  refine line_nil ?_
  have S0 : Bel w w5.drew := ⟨b5.drew⟩
  have O5d : OwnK .u8 w5.drew w.heap.size v5 (M.two p.a ++ M.two p.b) := O5
  have hz5 : w.heap.size ≤ w5.drew.heap.size := b5.size
  clear inst b5 O5
  go_wp2_with fail
  refine wp_region_line (Bel w) [(0, true), (1, true), (2, true), (3, true), (4, true), (5, true), (8, true), (9, true), (10, true), (11, true), (6, false), (7, false), (12, false), (13, false), (14, true)] (by kernel_rfl) (by kernel_rfl) (fun _ _ d _ _ h => by cases d <;> exact h) S0 ?_
  have hst := S0
  have inst : Nonempty (Of (Bel w)) := ⟨⟨_, hst⟩⟩
  have u3 := bel_cell d3
  have u4 := bel_cell d4
  generalize w5.drew = V5 at *
  clear S0
  iterate 10 (refine line_read rfl (by kernel_rfl) (fun K hK => ?_); go_big_quiet_op; refine hK _ ?_; clear hK K)
  refine line_alone rfl (by kernel_rfl) (fun K hK => ?_)
  go_big_op
  refine hK _ _ (hst.on (bal (Below.refl _ V5) _)) ?_
  clear hK K
  have O6 := O5d.alloc (.cells #[.int .u8 p.e] 5)
  have st6 := hst.on (bal (Below.refl _ V5) (.cells #[.int .u8 p.e] 5))
  refine line_alone rfl (by kernel_rfl) (fun K hK => ?_)
  refine wp_append_src _ (.tmp 15) (.tmp 21) 22 22 rfl w.heap.size 5 i0 (.int .u8 0) 1 1 Tryz.underlying22 hi0 hz0 hz1 hz2 rfl _ 4 ((M.two p.a ++ M.two p.b).map (Value.int .u8)) rfl O6 _ 1 [.int .u8 p.e] rfl (src_new V5 _ 1 1 _ _ _ Tryz.underlying22 rfl (ints_oneCell .u8 [p.e])) (by simp only [maxLen]; omega) (by omega) (by simp; omega) (fun v7 w7 hown hgrow hat => ?_)
  have b7 : Below w.heap.size w w7 := Own.grown O6 st6.out st6.out.size hgrow
  have O7 : OwnK .u8 w7 w.heap.size v7 (M.two p.a ++ M.two p.b ++ [p.e]) := by unfold OwnK; simpa [M.two] using hown
  refine hK _ _ ⟨b7⟩ ?_
  clear hK K st6 O6 O5d hown hgrow hat hst
  simp only [Act.put, List.setIfInBounds_toArray, List.set_cons_zero, List.set_cons_succ]
  refine line_alone rfl (by kernel_rfl) (fun K hK => ?_)
  refine call_any (args := #[.int .i64 p.u]) rfl (by kernel_rfl) (by kernel_rfl) (l1Two_any p.u _ hu) ?_
  rintro e w8 ⟨rfl, rfl⟩
  have st8 : Bel w (w7.alloc (.cells #[.int .u8 (p.u / 256), .int .u8 (p.u % 256)] 5)) := ⟨bal b7 _⟩
  refine ⟨_, rfl, hK _ _ st8 ?_⟩
  clear hK K
  simp only [Act.put, List.setIfInBounds_toArray, List.set_cons_zero, List.set_cons_succ]
  refine line_alone rfl (by kernel_rfl) (fun K hK => ?_)
  refine wp_append_src _ (.tmp 22) (.tmp 27) 22 22 rfl w.heap.size 5 i0 (.int .u8 0) 1 1 Tryz.underlying22 hi0 hz0 hz1 hz2 rfl _ 5 ((M.two p.a ++ M.two p.b ++ [p.e]).map (Value.int .u8)) rfl (Own.alloc O7 _) _ 2 [.int .u8 (p.u / 256), .int .u8 (p.u % 256)] rfl (src_new w7 _ 2 2 _ _ _ Tryz.underlying22 rfl (ints_oneCell .u8 [p.u / 256, p.u % 256])) (by simp only [maxLen]; omega) (by omega) (by have := b7.size; simp; omega) (fun v9 w9 hown hgrow hat => ?_)
  have b9 : Below w.heap.size w w9 := (Own.alloc O7 (.cells #[.int .u8 (p.u / 256), .int .u8 (p.u % 256)] 5)).grown st8.out (by have := b7.size; simp; omega) hgrow
  have O9 : OwnK .u8 w9 w.heap.size v9 (headP p.a p.b p.e p.u) := by unfold OwnK headP; simpa [M.two] using hown
  refine hK _ _ ⟨b9⟩ ?_
  clear hK K st8 O7 b7 hown hgrow hat u3 u4 inst
  simp only [Act.put, List.setIfInBounds_toArray, List.set_cons_zero, List.set_cons_succ]
  have inst : Nonempty (Of (Bel w)) := ⟨⟨_, ⟨b9⟩⟩⟩
  iterate 1 (refine line_read rfl (by kernel_rfl) (fun K hK => ?_); go_big_quiet_op; refine hK _ ?_; clear hK K)
  refine line_nil ?_
  have hz4 := b9.size
  have x0 := (hA.on b9).cell 0 _ rfl
  have hsrc := text_src w9 p.n hnm
  have O10 := (O9.alloc (textObj w9 p.n 5)).drew
  have b10 := (bal b9 (textObj w9 p.n 5)).drew
  clear hA d0 d1 d2 d3 d4 inst
  go_wp2_with (at_builtin; refine wpList_append_src _ rfl (.tmp 29) (.tmp 34) 22 22 rfl w.heap.size 5 i0 (.int .u8 0) 1 1 Tryz.underlying22 hi0 hz0 hz1 hz2 rfl _ _ _ rfl O10 _ p.n.size _ rfl hsrc (by rw [headP_length]; simp only [maxLen]; omega) (by rw [headP_length]; omega) (by simp; omega) ?_; intro v5 w5 hown hgrow hat)
  have O11 : OwnK .u8 w5 w.heap.size v5 (packP p) := by
    unfold OwnK packP
    rw [List.length_append, M.textL_length]
    simpa using hown
  have b11 : Below w.heap.size w w5 := O10.grown b10 (by simp; omega) hgrow
  obtain ⟨a6, c6, hv6, -⟩ := O11.form
  have HT := Lib.hid (And.intro O11 b11)
  clear hown hgrow hat O10 O11 b10 b11 hsrc O9 b9 hcv
  subst hv6
  go_wp2_with fail
  go_ret
  exact ⟨_, _, _, rfl, HT.out.1, HT.out.2⟩
end Go.Proofs.YtcnpocppgghejaaGreatDoor
namespace Go.Proofs.YtcnpocppgghejaaGreatDoor
open Go.RowKit
set_option maxRecDepth 100000
set_option linter.unusedVariables false

/-- While something is drawn: the source, and the result's block. -/
structure DrwP (w0 : World) (a : Option Addr) (len cap : Nat) (zs : List Int) (p : Nat) (w : World) (rb : Nat) (rs : List Value) (cur : World) : Prop where
  draw : Draw w0 a len cap zs p cur
  grew : w.grownBy cur (some w0.heap.size)
  res : At rb rs cur
section
variable {w0 : World} {a : Option Addr} {len cap : Nat} {zs : List Int} {p p' : Nat} {w : World} {rb tb : Nat} {rs cs : List Value} {cur cur' : World}
theorem DrwP.only (h : DrwP w0 a len cap zs p w rb rs cur) (hO : Only w0.heap.size cur cur') (D : Draw w0 a len cap zs p' cur') (h1 : rb ≠ w0.heap.size) : DrwP w0 a len cap zs p' w rb rs cur' :=
  ⟨D, gtr h.grew hO.grown, h.res.only5 hO h1⟩
theorem DrwP.kept (h : DrwP w0 a len cap zs p w rb rs cur) (hO : cur.grownBy cur' (some w0.heap.size)) (D : Draw w0 a len cap zs p' cur') (h1 : rb ≠ w0.heap.size) : DrwP w0 a len cap zs p' w rb rs cur' :=
  ⟨D, gtr h.grew hO, h.res.kept hO (fun e => by injection e with e; exact h1 e)⟩
theorem DrwP.on (h : DrwP w0 a len cap zs p w rb rs cur) (hb : Below cur.heap.size cur cur') : DrwP w0 a len cap zs p w rb rs cur' := ⟨h.draw.below hb, gbe h.grew hb, h.res.on hb⟩
theorem DrwP.alloc (h : DrwP w0 a len cap zs p w rb rs cur) (o : Obj) : DrwP w0 a len cap zs p w rb rs (cur.alloc o) := ⟨h.draw.alloc o, gal h.grew o, h.res.alloc o⟩
/-- And a second block. -/
structure BentP (w0 : World) (a : Option Addr) (len cap : Nat) (zs : List Int) (p : Nat) (w : World) (rb : Nat) (rs : List Value) (tb : Nat) (cs : List Value) (cur : World) : Prop where
  drw : DrwP w0 a len cap zs p w rb rs cur
  one : At tb cs cur
theorem BentP.only (h : BentP w0 a len cap zs p w rb rs tb cs cur) (hO : Only w0.heap.size cur cur') (D : Draw w0 a len cap zs p' cur') (h1 : rb ≠ w0.heap.size) (h2 : tb ≠ w0.heap.size) : BentP w0 a len cap zs p' w rb rs tb cs cur' :=
  ⟨h.drw.only hO D h1, h.one.only5 hO h2⟩
theorem BentP.kept (h : BentP w0 a len cap zs p w rb rs tb cs cur) (hO : cur.grownBy cur' (some w0.heap.size)) (D : Draw w0 a len cap zs p' cur') (h1 : rb ≠ w0.heap.size) (h2 : tb ≠ w0.heap.size) : BentP w0 a len cap zs p' w rb rs tb cs cur' :=
  ⟨h.drw.kept hO D h1, h.one.kept hO (fun e => by injection e with e; exact h2 e)⟩
theorem BentP.alloc (h : BentP w0 a len cap zs p w rb rs tb cs cur) (o : Obj) : BentP w0 a len cap zs p w rb rs tb cs (cur.alloc o) := ⟨h.drw.alloc o, h.one.alloc o⟩
theorem BentP.put (i : Nat) (x : Value) (h : BentP w0 a len cap zs p w rb rs tb cs cur) (h1 : rb ≠ tb) (h2 : w0.heap.size < tb) (h3 : w.heap.size ≤ tb) : BentP w0 a len cap zs p w rb rs tb (cs.set i x) (cur.setCell ⟨tb, i, none⟩ x) :=
  ⟨⟨h.drw.draw.put h2 x, gset h.drw.grew h3 x, h.drw.res.setB (p := ⟨tb, i, none⟩) h1 x⟩, h.one.set i x⟩
end
/-- A pin was drawn. -/
def DPin (K : Nat) (Q : PinD → Prop) (w0 : World) (a : Option Addr) (len cap : Nat) (zs : List Int) (w : World) (e : Ending) (w' : World) : Prop :=
  ∃ (q : PinD) (p : Nat), Q q ∧ p ≤ K ∧ e = .returned (P5 q) ∧ Draw w0 a len cap zs p w' ∧ w.grownBy w' (some w0.heap.size)
theorem dl7Public {w0 : World} {a : Option Addr} {len cap : Nat} {zs : List Int} {p : Nat} {w : World} (D : Draw w0 a len cap zs p w) (hp : p ≤ 1000) :
    Calls Tryz.prog 64 #[.pointer (some ⟨w0.heap.size, 0, none⟩)] w fun r w' => ∃ v : Int, pubB v = true ∧ r = .returned (.int .i64 v) ∧ Draw w0 a len cap zs (p + 1) w' ∧ w.grownBy w' (some w0.heap.size) := by
  have g1 := key1
  go_enter Tryz.func64, Tryz.ntmps64
  go_wp2_with fail
  refine (dnext 4 D (by omega)).mono ?_
  rintro r w1 ⟨x, x0, x1, rfl, D1, O1⟩
  have hx : x < 4 := by omega
  have hpub := pub_base (a := 1 + x) (by omega) (by omega)
  clear x1 D
  go_wp2_with fail
  refine (l1Key_any _ _ (by omega) (by omega)).mono ?_
  rintro r w2 ⟨rfl, b2⟩
  generalize M.pw 4 (1 + x).toNat 2879 = v at *
  have HD := Lib.hid (And.intro (D1.below b2) (gbe O1.grown b2))
  clear D1 O1 b2
  go_wp2_with fail
  go_ret
  exact ⟨v, hpub, rfl, HD.out.1, HD.out.2⟩

theorem pub_two {v : Int} (h : pubB v = true) : 2 ≤ v := by
  simp only [pubB, inB, Bool.and_eq_true, decide_eq_true_eq] at h
  omega
theorem drawn_ok {n : ByteArray} {a b e u : Int} (hn : n.size ≤ 20 ∧ M.normF n.data.toList = 0) (ha : pubB a = true) (hb : b = 0 ∨ pubB b = true) (hba : b ≠ a) (he : 1 ≤ e ∧ e ≤ 200) (hu : 0 ≤ u ∧ u ≤ 9999) : (PinD.mk n a b e u).f = 0 := by
  refine pinF_yes hn.2 ?_ hba
  have h1 : bakB b = true := by
    unfold bakB
    rcases hb with hb | hb <;> simp [hb]
  have h2 : epB e = true := by simp [epB]; omega
  have h3 : timB u = true := by simp [timB]; omega
  simp [pinB, ha, h1, h2, h3]
abbrev pinZero : List Value := [.string { data := #[] }, .int .i64 0, .int .i64 0, .int .i64 0, .int .i64 0]
set_option maxHeartbeats 1000000 in
theorem dl7Draw {w0 : World} {a : Option Addr} {len cap : Nat} {zs : List Int} {p0 : Nat} {w : World} (D : Draw w0 a len cap zs p0 w) (hp0 : p0 ≤ 500) :
    Calls Tryz.prog 35 #[.pointer (some ⟨w0.heap.size, 0, none⟩)] w (DPin (p0 + 6) (fun q => q.f = 0) w0 a len cap zs w) := by
  have hlt := D.lt
  have R0 : DrwP w0 a len cap zs p0 w w.heap.size pinZero (w.alloc (.cells #[.string { data := #[] }, .int .i64 0, .int .i64 0, .int .i64 0, .int .i64 0] 26)) :=
    ⟨D.alloc _, gal (World.grownBy.refl w (some w0.heap.size)) _, At.new w pinZero 26⟩
  go_enter Tryz.func35, Tryz.ntmps35
  go_wp2_with fail
  generalize w.alloc (.cells #[.string { data := #[] }, .int .i64 0, .int .i64 0, .int .i64 0, .int .i64 0] 26) = W0 at *
  refine (dl5DrawName R0.draw (by omega)).mono ?_
  rintro r w1 ⟨n, hn, rfl, D1, g1⟩
  have HN := Lib.hid hn
  have R1 := R0.kept g1 D1 (by omega)
  clear D R0 D1 g1 hn
  go_wp2_with fail
  refine (dl7Public R1.draw (by omega)).mono ?_
  rintro r w2 ⟨ac, hac, rfl, D2, g2⟩
  have HAC := Lib.hid hac
  have R2 := R1.kept g2 D2 (by omega)
  clear R1 D2 g2 hac
  go_wp2_with fail
  refine (dnext 3 R2.draw (by omega)).mono ?_
  rintro r w3 ⟨e, e0, e1, rfl, D3, O3⟩
  have he : e < 3 := by omega
  have R3 := R2.only O3 D3 (by omega)
  clear R2 D3 O3 e1
  go_wp2_with fail
  refine (dpick [0, 50, 9999] 3 R3.draw (by omega) (by omega) (by omega) rfl 2).mono ?_
  rintro r w4 ⟨u, hu, rfl, D4, O4⟩
  have HU := Lib.hid (show 0 ≤ u ∧ u ≤ 9999 by simp at hu; omega)
  have R4 := (R3.alloc (.cells #[.int .i64 0, .int .i64 50, .int .i64 9999] 2)).only O4 D4 (by omega)
  have lt4 := R4.res.lt (by simp)
  have B4 : BentP w0 a len cap zs (p0 + 1 + 1 + 1 + 1) w w.heap.size pinZero w4.heap.size [.string n, .int .i64 ac, .int .i64 0, .int .i64 (1 + e), .int .i64 u] (w4.alloc (.cells #[.string n, .int .i64 ac, .int .i64 0, .int .i64 (1 + e), .int .i64 u] 26)) :=
    ⟨R4.alloc _, At.new w4 [.string n, .int .i64 ac, .int .i64 0, .int .i64 (1 + e), .int .i64 u] 26⟩
  clear R3 R4 D4 O4 hu
  go_wp2_with fail
  generalize w4.alloc (.cells #[.string n, .int .i64 ac, .int .i64 0, .int .i64 (1 + e), .int .i64 u] 26) = v4 at *
  refine (dl7Public B4.drw.draw (by omega)).mono ?_
  rintro r w5 ⟨b, hb, rfl, D5, g5⟩
  have HBB := Lib.hid hb
  have B5 := B4.kept g5 D5 (by omega) (by omega)
  have hac2 := pub_two HAC.out
  clear B4 D5 g5 hb
  by_cases hba : b = ac
  · subst hba
    have x0 := B5.one.cell 0 _ rfl
    have x1 := B5.one.cell 1 _ rfl
    have x2 := B5.one.cell 2 _ rfl
    have x3 := B5.one.cell 3 _ rfl
    have x4 := B5.one.cell 4 _ rfl
    have B6 := B5
    have q0 := B5.drw.res.cell 0 _ rfl
    have q1 := B5.drw.res.cell 1 _ rfl
    have q2 := B5.drw.res.cell 2 _ rfl
    have q3 := B5.drw.res.cell 3 _ rfl
    have q4 := B5.drw.res.cell 4 _ rfl
    have z0 := B5.drw.res.free 0 _ rfl
    have z1 := B5.drw.res.free 1 _ rfl
    have z2 := B5.drw.res.free 2 _ rfl
    have z3 := B5.drw.res.free 3 _ rfl
    have z4 := B5.drw.res.free 4 _ rfl
    have x0 := B5.one.cell 0 _ rfl
    have x1 := B5.one.cell 1 _ rfl
    have x2 := B5.one.cell 2 _ rfl
    have x3 := B5.one.cell 3 _ rfl
    have x4 := B5.one.cell 4 _ rfl
    have f0 := B5.one.free 0 _ rfl
    have f1 := B5.one.free 1 _ rfl
    have f2 := B5.one.free 2 _ rfl
    have f3 := B5.one.free 3 _ rfl
    have f4 := B5.one.free 4 _ rfl
    have hrb : w.heap.size ≠ w4.heap.size := by omega
    have HB := Lib.hid B6
    clear B5 B6
    go_wp2_with fail
    refine bodyPost_ret (v := P5 ⟨n, b, 0, 1 + e, u⟩) (by simp [results, Tryz.results35, go_sem, q0, q1, q2, q3, q4]) rfl ?_
    refine ⟨_, p0 + 1 + 1 + 1 + 1 + 1, drawn_ok HN.out HAC.out (.inl rfl) (by omega) (by omega) HU.out, by omega, rfl, ?hd, ?hg⟩
    case hd =>
      iterate 5 (refine Draw.put ?_ (by dsimp only; omega) _)
      exact HB.out.drw.draw
    case hg =>
      iterate 5 (refine gset ?_ (Nat.le_refl _) _)
      exact HB.out.drw.grew
  · have nba : (b == ac) = false := by rw [beq_eq_false_iff_ne]; exact hba
    have x0 := B5.one.cell 0 _ rfl
    have x1 := B5.one.cell 1 _ rfl
    have x2 := B5.one.cell 2 _ rfl
    have x3 := B5.one.cell 3 _ rfl
    have x4 := B5.one.cell 4 _ rfl
    go_wp2_with fail
    refine (l1Chance_any 2 B5.drw.draw (by omega)).mono ?_
    rintro r w6 ⟨c, rfl, D6, O6⟩
    have B6 := B5.only O6 D6 (by omega) (by omega)
    clear B5 D6 O6 x0 x1 x2 x3 x4
    cases c
    · have B7 := B6
      have q0 := B6.drw.res.cell 0 _ rfl
      have q1 := B6.drw.res.cell 1 _ rfl
      have q2 := B6.drw.res.cell 2 _ rfl
      have q3 := B6.drw.res.cell 3 _ rfl
      have q4 := B6.drw.res.cell 4 _ rfl
      have z0 := B6.drw.res.free 0 _ rfl
      have z1 := B6.drw.res.free 1 _ rfl
      have z2 := B6.drw.res.free 2 _ rfl
      have z3 := B6.drw.res.free 3 _ rfl
      have z4 := B6.drw.res.free 4 _ rfl
      have x0 := B6.one.cell 0 _ rfl
      have x1 := B6.one.cell 1 _ rfl
      have x2 := B6.one.cell 2 _ rfl
      have x3 := B6.one.cell 3 _ rfl
      have x4 := B6.one.cell 4 _ rfl
      have f0 := B6.one.free 0 _ rfl
      have f1 := B6.one.free 1 _ rfl
      have f2 := B6.one.free 2 _ rfl
      have f3 := B6.one.free 3 _ rfl
      have f4 := B6.one.free 4 _ rfl
      have hrb : w.heap.size ≠ w4.heap.size := by omega
      have HB := Lib.hid B7
      clear B6 B7
      go_wp2_with fail
      refine bodyPost_ret (v := P5 ⟨n, ac, 0, 1 + e, u⟩) (by simp [results, Tryz.results35, go_sem, q0, q1, q2, q3, q4]) rfl ?_
      refine ⟨_, p0 + 1 + 1 + 1 + 1 + 1 + 1, drawn_ok HN.out HAC.out (.inl rfl) (by omega) (by omega) HU.out, by omega, rfl, ?hd, ?hg⟩
      case hd =>
        iterate 5 (refine Draw.put ?_ (by dsimp only; omega) _)
        exact HB.out.drw.draw
      case hg =>
        iterate 5 (refine gset ?_ (Nat.le_refl _) _)
        exact HB.out.drw.grew
    · have B7 := B6.put 2 (.int .i64 b) (by omega) (by omega) (by omega)
      have q0 := B6.drw.res.cell 0 _ rfl
      have q1 := B6.drw.res.cell 1 _ rfl
      have q2 := B6.drw.res.cell 2 _ rfl
      have q3 := B6.drw.res.cell 3 _ rfl
      have q4 := B6.drw.res.cell 4 _ rfl
      have z0 := B6.drw.res.free 0 _ rfl
      have z1 := B6.drw.res.free 1 _ rfl
      have z2 := B6.drw.res.free 2 _ rfl
      have z3 := B6.drw.res.free 3 _ rfl
      have z4 := B6.drw.res.free 4 _ rfl
      have x0 := B6.one.cell 0 _ rfl
      have x1 := B6.one.cell 1 _ rfl
      have x2 := B6.one.cell 2 _ rfl
      have x3 := B6.one.cell 3 _ rfl
      have x4 := B6.one.cell 4 _ rfl
      have f0 := B6.one.free 0 _ rfl
      have f1 := B6.one.free 1 _ rfl
      have f2 := B6.one.free 2 _ rfl
      have f3 := B6.one.free 3 _ rfl
      have f4 := B6.one.free 4 _ rfl
      have hrb : w.heap.size ≠ w4.heap.size := by omega
      have HB := Lib.hid B7
      clear B6 B7
      go_wp2_with fail
      refine bodyPost_ret (v := P5 ⟨n, ac, b, 1 + e, u⟩) (by simp [results, Tryz.results35, go_sem, q0, q1, q2, q3, q4]) rfl ?_
      refine ⟨_, p0 + 1 + 1 + 1 + 1 + 1 + 1, drawn_ok HN.out HAC.out (.inr HBB.out) hba (by omega) HU.out, by omega, rfl, ?hd, ?hg⟩
      case hd =>
        iterate 5 (refine Draw.put ?_ (by dsimp only; omega) _)
        exact HB.out.drw.draw
      case hg =>
        iterate 5 (refine gset ?_ (Nat.le_refl _) _)
        exact HB.out.drw.grew

set_option maxHeartbeats 1000000 in
theorem dl7Bent {w0 : World} {a : Option Addr} {len cap : Nat} {zs : List Int} {p0 : Nat} {w : World} (D : Draw w0 a len cap zs p0 w) (hp0 : p0 ≤ 500) :
    Calls Tryz.prog 26 #[.pointer (some ⟨w0.heap.size, 0, none⟩)] w (DPin (p0 + 8) (fun q => q.n.size ≤ 21) w0 a len cap zs w) := by
  have hlt := D.lt
  have R0 : DrwP w0 a len cap zs p0 w w.heap.size pinZero (w.alloc (.cells #[.string { data := #[] }, .int .i64 0, .int .i64 0, .int .i64 0, .int .i64 0] 26)) :=
    ⟨D.alloc _, gal (World.grownBy.refl w (some w0.heap.size)) _, At.new w pinZero 26⟩
  go_enter Tryz.func26, Tryz.ntmps26
  go_wp2_with fail
  generalize w.alloc (.cells #[.string { data := #[] }, .int .i64 0, .int .i64 0, .int .i64 0, .int .i64 0] 26) = W0 at *
  refine (dl7Draw R0.draw hp0).mono ?_
  rintro r w4 ⟨⟨n, ac, bk, e, u⟩, p, hf, hp, rfl, D1, g1⟩
  have hn : n.size ≤ 21 := by have := pin_size hf; dsimp only at this; omega
  have R1 := R0.kept g1 D1 (by omega)
  have lt4 := R1.res.lt (by simp)
  have B1 : BentP w0 a len cap zs p w w.heap.size pinZero w4.heap.size [.string n, .int .i64 ac, .int .i64 bk, .int .i64 e, .int .i64 u] (w4.alloc (.cells #[.string n, .int .i64 ac, .int .i64 bk, .int .i64 e, .int .i64 u] 26)) :=
    ⟨R1.alloc _, At.new w4 [.string n, .int .i64 ac, .int .i64 bk, .int .i64 e, .int .i64 u] 26⟩
  clear D R0 R1 D1 g1 hf
  go_wp2_with fail
  generalize w4.alloc (.cells #[.string n, .int .i64 ac, .int .i64 bk, .int .i64 e, .int .i64 u] 26) = v4 at *
  refine (dnext 10 B1.drw.draw (by omega)).mono ?_
  rintro r w5 ⟨sw, t0, t1, rfl, D2, O2⟩
  have B2 := B1.only O2 D2 (by omega) (by omega)
  clear B1 D2 O2 t1
  by_cases e0 : sw = 0
  · subst e0
    go_wp2_with fail
    refine (dl5Bent B2.drw.draw (by omega)).mono ?_
    rintro r w6 ⟨m, hs, rfl, D3, g3⟩
    have B3 := B2.kept g3 D3 (by omega) (by omega)
    have B4 := B3.put 0 (.string m) (by omega) (by omega) (by omega)
    clear B2 D3 g3
    have q0 := B3.drw.res.cell 0 _ rfl
    have q1 := B3.drw.res.cell 1 _ rfl
    have q2 := B3.drw.res.cell 2 _ rfl
    have q3 := B3.drw.res.cell 3 _ rfl
    have q4 := B3.drw.res.cell 4 _ rfl
    have z0 := B3.drw.res.free 0 _ rfl
    have z1 := B3.drw.res.free 1 _ rfl
    have z2 := B3.drw.res.free 2 _ rfl
    have z3 := B3.drw.res.free 3 _ rfl
    have z4 := B3.drw.res.free 4 _ rfl
    have x0 := B3.one.cell 0 _ rfl
    have x1 := B3.one.cell 1 _ rfl
    have x2 := B3.one.cell 2 _ rfl
    have x3 := B3.one.cell 3 _ rfl
    have x4 := B3.one.cell 4 _ rfl
    have f0 := B3.one.free 0 _ rfl
    have f1 := B3.one.free 1 _ rfl
    have f2 := B3.one.free 2 _ rfl
    have f3 := B3.one.free 3 _ rfl
    have f4 := B3.one.free 4 _ rfl
    have hrb : w.heap.size ≠ w4.heap.size := by omega
    have HB := Lib.hid B4
    clear B3 B4
    go_wp2_with fail
    refine bodyPost_ret (v := P5 ⟨m, ac, bk, e, u⟩) (by simp [results, Tryz.results26, go_sem, q0, q1, q2, q3, q4]) rfl ?_
    refine ⟨_, p + 1 + 1, hs, by omega, rfl, ?hd, ?hg⟩
    case hd =>
      iterate 5 (refine Draw.put ?_ (by dsimp only; omega) _)
      exact HB.out.drw.draw
    case hg =>
      iterate 5 (refine gset ?_ (Nat.le_refl _) _)
      exact HB.out.drw.grew
  by_cases e1 : sw = 1
  · subst e1
    have y0 := B2.one.cell 0 _ rfl
    have y1 := B2.one.cell 1 _ rfl
    have y2 := B2.one.cell 2 _ rfl
    have y3 := B2.one.cell 3 _ rfl
    have y4 := B2.one.cell 4 _ rfl
    go_wp2_with fail
    refine (dpick [ac, 5] 2 B2.drw.draw (by omega) (by omega) (by omega) rfl 2).mono ?_
    rintro r w6 ⟨y, hy, rfl, D3, O3⟩
    have B3 := (B2.alloc (.cells #[.int .i64 ac, .int .i64 5] 2)).only O3 D3 (by omega) (by omega)
    have B4 := B3.put 2 (.int .i64 y) (by omega) (by omega) (by omega)
    clear B2 D3 O3 hy y0 y1 y2 y3 y4
    have q0 := B3.drw.res.cell 0 _ rfl
    have q1 := B3.drw.res.cell 1 _ rfl
    have q2 := B3.drw.res.cell 2 _ rfl
    have q3 := B3.drw.res.cell 3 _ rfl
    have q4 := B3.drw.res.cell 4 _ rfl
    have z0 := B3.drw.res.free 0 _ rfl
    have z1 := B3.drw.res.free 1 _ rfl
    have z2 := B3.drw.res.free 2 _ rfl
    have z3 := B3.drw.res.free 3 _ rfl
    have z4 := B3.drw.res.free 4 _ rfl
    have x0 := B3.one.cell 0 _ rfl
    have x1 := B3.one.cell 1 _ rfl
    have x2 := B3.one.cell 2 _ rfl
    have x3 := B3.one.cell 3 _ rfl
    have x4 := B3.one.cell 4 _ rfl
    have f0 := B3.one.free 0 _ rfl
    have f1 := B3.one.free 1 _ rfl
    have f2 := B3.one.free 2 _ rfl
    have f3 := B3.one.free 3 _ rfl
    have f4 := B3.one.free 4 _ rfl
    have hrb : w.heap.size ≠ w4.heap.size := by omega
    have HB := Lib.hid B4
    clear B3 B4
    go_wp2_with fail
    refine bodyPost_ret (v := P5 ⟨n, ac, y, e, u⟩) (by simp [results, Tryz.results26, go_sem, q0, q1, q2, q3, q4]) rfl ?_
    refine ⟨_, p + 1 + 1, hn, by omega, rfl, ?hd, ?hg⟩
    case hd =>
      iterate 5 (refine Draw.put ?_ (by dsimp only; omega) _)
      exact HB.out.drw.draw
    case hg =>
      iterate 5 (refine gset ?_ (Nat.le_refl _) _)
      exact HB.out.drw.grew
  by_cases e2 : sw = 2
  · subst e2
    go_wp2_with fail
    refine (dpick [0, 200, 201] 3 B2.drw.draw (by omega) (by omega) (by omega) rfl 2).mono ?_
    rintro r w6 ⟨y, hy, rfl, D3, O3⟩
    have B3 := (B2.alloc (.cells #[.int .i64 0, .int .i64 200, .int .i64 201] 2)).only O3 D3 (by omega) (by omega)
    have B4 := B3.put 3 (.int .i64 y) (by omega) (by omega) (by omega)
    clear B2 D3 O3 hy
    have q0 := B3.drw.res.cell 0 _ rfl
    have q1 := B3.drw.res.cell 1 _ rfl
    have q2 := B3.drw.res.cell 2 _ rfl
    have q3 := B3.drw.res.cell 3 _ rfl
    have q4 := B3.drw.res.cell 4 _ rfl
    have z0 := B3.drw.res.free 0 _ rfl
    have z1 := B3.drw.res.free 1 _ rfl
    have z2 := B3.drw.res.free 2 _ rfl
    have z3 := B3.drw.res.free 3 _ rfl
    have z4 := B3.drw.res.free 4 _ rfl
    have x0 := B3.one.cell 0 _ rfl
    have x1 := B3.one.cell 1 _ rfl
    have x2 := B3.one.cell 2 _ rfl
    have x3 := B3.one.cell 3 _ rfl
    have x4 := B3.one.cell 4 _ rfl
    have f0 := B3.one.free 0 _ rfl
    have f1 := B3.one.free 1 _ rfl
    have f2 := B3.one.free 2 _ rfl
    have f3 := B3.one.free 3 _ rfl
    have f4 := B3.one.free 4 _ rfl
    have hrb : w.heap.size ≠ w4.heap.size := by omega
    have HB := Lib.hid B4
    clear B3 B4
    go_wp2_with fail
    refine bodyPost_ret (v := P5 ⟨n, ac, bk, y, u⟩) (by simp [results, Tryz.results26, go_sem, q0, q1, q2, q3, q4]) rfl ?_
    refine ⟨_, p + 1 + 1, hn, by omega, rfl, ?hd, ?hg⟩
    case hd =>
      iterate 5 (refine Draw.put ?_ (by dsimp only; omega) _)
      exact HB.out.drw.draw
    case hg =>
      iterate 5 (refine gset ?_ (Nat.le_refl _) _)
      exact HB.out.drw.grew
  by_cases e3 : sw = 3
  · subst e3
    go_wp2_with fail
    refine (dpick [-1, 10000] 2 B2.drw.draw (by omega) (by omega) (by omega) rfl 2).mono ?_
    rintro r w6 ⟨y, hy, rfl, D3, O3⟩
    have B3 := (B2.alloc (.cells #[.int .i64 (-1), .int .i64 10000] 2)).only O3 D3 (by omega) (by omega)
    have B4 := B3.put 4 (.int .i64 y) (by omega) (by omega) (by omega)
    clear B2 D3 O3 hy
    have q0 := B3.drw.res.cell 0 _ rfl
    have q1 := B3.drw.res.cell 1 _ rfl
    have q2 := B3.drw.res.cell 2 _ rfl
    have q3 := B3.drw.res.cell 3 _ rfl
    have q4 := B3.drw.res.cell 4 _ rfl
    have z0 := B3.drw.res.free 0 _ rfl
    have z1 := B3.drw.res.free 1 _ rfl
    have z2 := B3.drw.res.free 2 _ rfl
    have z3 := B3.drw.res.free 3 _ rfl
    have z4 := B3.drw.res.free 4 _ rfl
    have x0 := B3.one.cell 0 _ rfl
    have x1 := B3.one.cell 1 _ rfl
    have x2 := B3.one.cell 2 _ rfl
    have x3 := B3.one.cell 3 _ rfl
    have x4 := B3.one.cell 4 _ rfl
    have f0 := B3.one.free 0 _ rfl
    have f1 := B3.one.free 1 _ rfl
    have f2 := B3.one.free 2 _ rfl
    have f3 := B3.one.free 3 _ rfl
    have f4 := B3.one.free 4 _ rfl
    have hrb : w.heap.size ≠ w4.heap.size := by omega
    have HB := Lib.hid B4
    clear B3 B4
    go_wp2_with fail
    refine bodyPost_ret (v := P5 ⟨n, ac, bk, e, y⟩) (by simp [results, Tryz.results26, go_sem, q0, q1, q2, q3, q4]) rfl ?_
    refine ⟨_, p + 1 + 1, hn, by omega, rfl, ?hd, ?hg⟩
    case hd =>
      iterate 5 (refine Draw.put ?_ (by dsimp only; omega) _)
      exact HB.out.drw.draw
    case hg =>
      iterate 5 (refine gset ?_ (Nat.le_refl _) _)
      exact HB.out.drw.grew
  · have n0 : (sw == 0) = false := by rw [beq_eq_false_iff_ne]; exact e0
    have n1 : (sw == 1) = false := by rw [beq_eq_false_iff_ne]; exact e1
    have n2 : (sw == 2) = false := by rw [beq_eq_false_iff_ne]; exact e2
    have n3 : (sw == 3) = false := by rw [beq_eq_false_iff_ne]; exact e3
    have B4 := B2
    have q0 := B2.drw.res.cell 0 _ rfl
    have q1 := B2.drw.res.cell 1 _ rfl
    have q2 := B2.drw.res.cell 2 _ rfl
    have q3 := B2.drw.res.cell 3 _ rfl
    have q4 := B2.drw.res.cell 4 _ rfl
    have z0 := B2.drw.res.free 0 _ rfl
    have z1 := B2.drw.res.free 1 _ rfl
    have z2 := B2.drw.res.free 2 _ rfl
    have z3 := B2.drw.res.free 3 _ rfl
    have z4 := B2.drw.res.free 4 _ rfl
    have x0 := B2.one.cell 0 _ rfl
    have x1 := B2.one.cell 1 _ rfl
    have x2 := B2.one.cell 2 _ rfl
    have x3 := B2.one.cell 3 _ rfl
    have x4 := B2.one.cell 4 _ rfl
    have f0 := B2.one.free 0 _ rfl
    have f1 := B2.one.free 1 _ rfl
    have f2 := B2.one.free 2 _ rfl
    have f3 := B2.one.free 3 _ rfl
    have f4 := B2.one.free 4 _ rfl
    have hrb : w.heap.size ≠ w4.heap.size := by omega
    have HB := Lib.hid B4
    clear B2 B4
    go_wp2_with fail
    refine bodyPost_ret (v := P5 ⟨n, ac, bk, e, u⟩) (by simp [results, Tryz.results26, go_sem, q0, q1, q2, q3, q4]) rfl ?_
    refine ⟨_, p + 1, hn, by omega, rfl, ?hd, ?hg⟩
    case hd =>
      iterate 5 (refine Draw.put ?_ (by dsimp only; omega) _)
      exact HB.out.drw.draw
    case hg =>
      iterate 5 (refine gset ?_ (Nat.le_refl _) _)
      exact HB.out.drw.grew
end Go.Proofs.YtcnpocppgghejaaGreatDoor
namespace Go.Proofs.YtcnpocppgghejaaGreatDoor
open Go.RowKit
set_option maxRecDepth 100000
set_option linter.unusedVariables false

theorem l1Digits_any (k : Nat) (w : World) (hk : k < 10) : Calls Tryz.prog 56 #[.int .i64 k] w fun e w' => ∃ t : ByteArray, t.size = 1 ∧ e = .returned (.string t) ∧ Below w.heap.size w w' := by
  have hO := own_lit (k := .u8) w [48 + (k : Int)] 1 5 (B := w.heap.size) (Nat.le_refl _) rfl (by simp only [maxLen]; omega)
  have hrow := Own.row hO (by intro z hz; simp at hz; subst hz; exact byte_wf (show M.byteB _ by unfold M.byteB; omega))
  have cv : (convert 22 9 (.slice (some ⟨w.heap.size, 0, none⟩) 1 1)).run Tryz.prog (w.alloc (.cells #[.int .u8 (48 + (k : Int))] 5)) = .ok (.string (strOf [48 + (k : Int)])) (w.alloc (.cells #[.int .u8 (48 + (k : Int))] 5)) := conv_row hrow
  have hs : (strOf [48 + (k : Int)]).size = 1 := rfl
  have hb := bal (Below.refl _ w) (.cells #[.int .u8 (48 + (k : Int))] 5)
  have HS := Lib.hid hs
  generalize strOf [48 + (k : Int)] = tx at *
  clear hO hrow hs
  have hk2 : (k : Int) < 10 := by omega
  go_enter Tryz.func56, Tryz.ntmps56
  go_wp2_with fail
  go_ret
  exact ⟨tx, HS.out, rfl, hb⟩

/-- Pins were drawn. -/
def DPins (K : Nat) (Q : List PinD → Prop) (w0 : World) (a : Option Addr) (len cap : Nat) (zs : List Int) (w : World) (e : Ending) (w' : World) : Prop :=
  ∃ (x : Option Addr) (n c : Nat) (ps : List PinD) (p : Nat), Q ps ∧ p ≤ K ∧ e = .returned (.slice x n c) ∧ OwnP w' w.heap.size (.slice x n c) ps ∧ Draw w0 a len cap zs p w' ∧ w.grownBy w' (some w0.heap.size)
theorem put1_ok {ps : List PinD} {q : PinD} (h : ∀ p ∈ ps, p.f = 0) (hq : q.f = 0) : (∀ p ∈ put1 ps q, p.f = 0) ∧ (put1 ps q).length ≤ ps.length + 1 := by
  unfold put1
  split
  · refine ⟨fun p hp => ?_, ?_⟩
    · rcases putL_mem hp with rfl | hp
      · exact hq
      · exact h p hp
    · have h2 := (putG_perm q ps).length_eq
      have h3 := List.length_filter_le (fun x => !decide (x.nm = q.nm)) ps
      unfold putL
      simp only [List.length_cons] at h2
      omega
  · exact ⟨by simp, by simp⟩
structure DLoop (w0 : World) (a : Option Addr) (len cap : Nat) (zs : List Int) (p0 : Nat) (w : World) (k : Nat) (x : Option Addr) (n c : Nat) (ps : List PinD) (cur : World) : Prop where
  draw : ∃ p, p + 6 * k ≤ p0 + 25 ∧ Draw w0 a len cap zs p cur
  grew : w.grownBy cur (some w0.heap.size)
  own : OwnP cur w.heap.size (.slice x n c) ps
  ok : ∀ p ∈ ps, p.f = 0
  few : ps.length + k ≤ 4
set_option maxHeartbeats 1000000 in
theorem dl7DrawPins {w0 : World} {a : Option Addr} {len cap : Nat} {zs : List Int} {p0 : Nat} {w : World} (D : Draw w0 a len cap zs p0 w) (hp0 : p0 ≤ 400) :
    Calls Tryz.prog 55 #[.pointer (some ⟨w0.heap.size, 0, none⟩)] w (DPins (p0 + 25) (fun ps => (∀ p ∈ ps, p.f = 0) ∧ ps.length ≤ 4) w0 a len cap zs w) := by
  have hlt := D.lt
  go_enter Tryz.func55, Tryz.ntmps55
  have O0 : OwnP (w.alloc (.cells #[] 26)) w.heap.size (.slice (some ⟨w.heap.size, 0, none⟩) 0 0) [] := Own.made w #[] 26 0 (Nat.le_refl _) (by simp) rfl
  go_wp2_with fail
  refine (dnext 5 (D.alloc _) (by omega)).mono ?_
  rintro r w1 ⟨v, v0, v1, rfl, D1, O1⟩
  have hv : v < 5 := by omega
  obtain ⟨v, rfl⟩ := Int.eq_ofNat_of_zero_le v0
  have T0 : DLoop w0 a len cap zs p0 w v (some ⟨w.heap.size, 0, none⟩) 0 0 [] w1 := ⟨⟨_, by omega, D1⟩, gtr (gal (World.grownBy.refl w _) _) O1.grown, Own.only O0 O1 (by omega), by simp, by simp; omega⟩
  clear O0 D D1 O1 v0 v1
  go_wp2_with fail
  go_loopw [3, 4] (fun x i wr => ∃ (k : Nat) (b : Option Addr) (n c : Nat) (ps : List PinD), k ≤ 4 ∧ i = .int .i64 k ∧ x = .slice b n c ∧ DLoop w0 a len cap zs p0 w k b n c ps wr) (fun _ i _ => (intOf i).toNat)
  case atStart => exact ⟨v, _, _, _, _, by omega, rfl, rfl, T0⟩
  case round =>
    obtain ⟨k, b, n, c, ps, hk, rfl, rfl, hT⟩ := hrel
    clear T0
    by_cases h0 : k = 0
    · subst h0
      obtain ⟨p, hp, DD⟩ := hT.draw
      have F := Lib.hid (show DPins (p0 + 25) (fun ps => (∀ p ∈ ps, p.f = 0) ∧ ps.length ≤ 4) w0 a len cap zs w (.returned (.slice b n c)) wr from ⟨b, n, c, ps, p, ⟨hT.ok, hT.few⟩, by omega, rfl, hT.own, DD, hT.grew⟩)
      clear hT DD
      go_wp2_with fail
      go_ret
      exact F.out
    · have hk0 : (0 : Int) < k := by omega
      obtain ⟨p, hp, DD⟩ := hT.draw
      have hgt : ∀ {u1 u2 : World} {v : Value} {qs : List PinD}, OwnP u1 w.heap.size v qs → u1.grownBy u2 (some w0.heap.size) → OwnP u2 w.heap.size v qs := fun h g => Own.keep h g.size fun k hk => g.block k (Own.lt h k hk).2 (fun e => by injection e with e; have := (Own.lt h k hk).1; omega)
      go_wp2_with fail
      refine (dl7Draw DD (by omega)).mono ?_
      rintro r w2 ⟨q, p2, hq, hp2, rfl, D2, g2⟩
      have Q2 := hgt hT.own g2
      have G2 := gtr hT.grew g2
      have hok := hT.ok
      have hfew := hT.few
      have R2 := Q2.row (fun x hx => by have := pin_size (hok x hx); simp only [maxLen]; omega)
      have hnl : n ≤ 1000 := by have := R2.length; omega
      have PT := l7Put_any b n c _ ps q w2 R2 (Nat.le_refl _) hnl
      have h1 := put1_ok hok hq
      clear DD g2 hT
      go_wp2_with fail
      refine PT.mono ?_
      rintro r w3 ⟨x3, n3, c3, rfl, O3, b3⟩
      clear PT R2
      by_cases hc : put0 ps q = 0
      · have T3 : DLoop w0 a len cap zs p0 w (k - 1) x3 n3 c3 (put1 ps q) w3 := ⟨⟨_, by omega, D2.below b3⟩, gbe G2 b3, O3.less G2.size, h1.1, by omega⟩
        clear D2 G2 Q2 b3 O3 h1
        rw [hc]
        go_wp2_with fail
        go_roundw
        case rel => exact ⟨k - 1, _, _, _, _, by omega, by go_num, rfl, T3⟩
        case measure => simp [intOf]; omega
      · have T3 : DLoop w0 a len cap zs p0 w (k - 1) b n c ps w3 := ⟨⟨_, by omega, D2.below b3⟩, gbe G2 b3, Q2.below b3, hok, by omega⟩
        have hc2 : (put0 ps q == 0) = false := by rw [beq_eq_false_iff_ne]; exact hc
        generalize put0 ps q = pc at *
        clear D2 G2 Q2 b3 O3 h1
        go_wp2_with fail
        go_roundw
        case rel => exact ⟨k - 1, _, _, _, _, by omega, by go_num, rfl, T3⟩
        case measure => simp [intOf]; omega
theorem gown {w u u' : World} {g : Nat} {row : Option Nat} (h : w.grownBy u (some g)) (k : u.grownBy u' row) (hr : ∀ i, row = some i → w.heap.size ≤ i) : w.grownBy u' (some g) :=
  ⟨k.os.trans h.os, k.tape.trans h.tape, k.output.trans h.output, Nat.le_trans h.size k.size, fun i hi hne => (k.block i (Nat.lt_of_lt_of_le hi h.size) (fun e => by have := hr i e.symm; omega)).trans (h.block i hi hne)⟩
structure DList (w0 : World) (a : Option Addr) (len cap : Nat) (zs : List Int) (p : Nat) (w : World) (v : Value) (ps : List PinD) (cur : World) : Prop where
  draw : Draw w0 a len cap zs p cur
  grew : w.grownBy cur (some w0.heap.size)
  own : OwnP cur w.heap.size v ps
theorem DList.app {w0 : World} {a : Option Addr} {len cap : Nat} {zs : List Int} {p : Nat} {w : World} {v v3 : Value} {ps : List PinD} {cur w3 : World} {o : Obj} {q : PinD} (h : DList w0 a len cap zs p w v ps cur) (hw : w0.heap.size < w.heap.size)
    (hown : Own w3 w.heap.size 5 v3 (ps.length + 1) (flat ps ++ q.vals)) (hg : (cur.alloc o).grownBy w3 v.ownBlock) : DList w0 a len cap zs p w v3 (ps ++ [q]) w3 := by
  have hl := fun k hk => (Own.lt h.own k hk).1
  refine ⟨(h.draw.alloc o).grown hg (fun k hk => by have := hl k hk; omega), gown (gal h.grew o) hg hl, ?_⟩
  unfold OwnP
  rw [flat_append, List.length_append]
  simpa [flat] using hown
theorem own_cells (w : World) (xs : List Value) (n s : Nat) (t : TypeId) (hl : xs.length = n * s) (hm : n ≤ maxLen) : Own (w.alloc (.cells xs.toArray t)) w.heap.size s (.slice (some ⟨w.heap.size, 0, none⟩) n n) n xs :=
  ⟨hl, .inr ⟨w.heap.size, n, rfl, Nat.le_refl _, by simp, Nat.le_refl _, hm, fun j u hu => (At.new w xs t).cell j u hu, fun j hj => by
    have h1 := (At.new w xs t).cell j (xs[j]'(by omega)) (by simp [show j < xs.length by omega])
    exact ⟨by rw [h1]; rfl, (At.new w xs t).free j (xs[j]'(by omega)) (by simp [show j < xs.length by omega])⟩⟩⟩
set_option maxHeartbeats 2000000 in
theorem dl7BentPins {w0 : World} {a : Option Addr} {len cap : Nat} {zs : List Int} {p0 : Nat} {w : World} (D : Draw w0 a len cap zs p0 w) (hp0 : p0 ≤ 400) :
    Calls Tryz.prog 25 #[.pointer (some ⟨w0.heap.size, 0, none⟩)] w (DPins (p0 + 40) (fun ps => (∀ p ∈ ps, p.n.size ≤ 21) ∧ ps.length ≤ 5) w0 a len cap zs w) := by
  have hlt := D.lt
  have hgt : ∀ {u1 u2 : World} {v : Value} {qs : List PinD}, OwnP u1 w.heap.size v qs → u1.grownBy u2 (some w0.heap.size) → OwnP u2 w.heap.size v qs := fun h g => Own.keep h g.size fun k hk => g.block k (Own.lt h k hk).2 (fun e => by injection e with e; have := (Own.lt h k hk).1; omega)
  obtain ⟨i0, hi0, hz0, hz1, hz2⟩ := info_parts pin_info
  go_enter Tryz.func25, Tryz.ntmps25
  go_wp2_with fail
  refine (dl7DrawPins D hp0).mono ?_
  rintro r w1 ⟨x, n, c, ps, p, ⟨hok, hfew⟩, hp, rfl, O1, D1, g1⟩
  have hsz : ∀ q ∈ ps, q.n.size ≤ 21 := fun q hq => by have := pin_size (hok q hq); omega
  have HSZ := Lib.hid hsz
  clear D hok hsz
  go_wp2_with fail
  refine (dnext 12 D1 (by omega)).mono ?_
  rintro r w2 ⟨sw, t0, t1, rfl, D2, O2⟩
  have Q2 := hgt O1 O2.grown
  have G2 := gtr g1 O2.grown
  clear O1 D1 g1 O2 t1
  by_cases e0 : sw = 0
  · subst e0
    go_wp2_with fail
    refine (dl7Bent D2 (by omega)).mono ?_
    rintro r w3' ⟨q, p3, hq, hp3, rfl, D3, g3⟩
    have L3 : DList w0 a len cap zs p3 w (.slice x n c) ps w3' := ⟨D3, gtr G2 g3, hgt Q2 g3⟩
    have sz3 := L3.grew.size
    have HQ := Lib.hid hq
    clear D3 g3 Q2 G2 D2 hq
    go_wp2_with (at_builtin; refine wpList_append_src _ rfl (.tmp 11) (.tmp 14) 24 24 rfl w.heap.size 26 i0 (P5 pin0) 5 48 Tryz.underlying24 hi0 hz0 hz1 hz2 rfl _ _ _ rfl (Own.alloc L3.own _) _ 1 (PinD.vals q) rfl (src_new5 _ q _ _ _ Tryz.underlying24) (by simp only [maxLen]; omega) (by omega) (by simp; omega) ?_; intro v3 w3 hown hgrow hat)
    have L4 := L3.app hlt hown hgrow
    obtain ⟨x4, c4, e4, -⟩ := L4.own.form
    subst e4
    clear hown hgrow hat L3 hi0 hz0 hz1 hz2
    go_wp2_with fail
    go_ret
    exact ⟨_, _, _, ps ++ [q], _, ⟨fun y hy => by rcases List.mem_append.1 hy with hy | hy; exact HSZ.out y hy; simp at hy; subst hy; exact HQ.out, by simp; omega⟩, by omega, rfl, L4.own, L4.draw, L4.grew⟩
  by_cases e1 : sw = 1
  · subst e1
    have hmk : (Instr.makeSlice 24 (.int .i64 5) (.int .i64 5)).run Tryz.prog w2 = .ok (.slice (some ⟨w2.heap.size, 0, none⟩) 5 5) (w2.alloc (.cells (flat (List.replicate 5 pin0)).toArray 26)) := by
      have := run_make (P := Tryz.prog) w2 24 26 i0 (P5 pin0) Tryz.underlying24 hi0 hz0 .i64 .i64 5 5 (by omega) (by omega) (by rw [hz2]; omega) (by omega)
      rw [hz1] at this
      have e5 : madeCells (P5 pin0).cells (Int.toNat 5 * 5) = (flat (List.replicate 5 pin0)).toArray := by kernel_rfl
      rw [e5] at this
      exact this
    have O5 : OwnP (w2.alloc (.cells (flat (List.replicate 5 pin0)).toArray 26)) w2.heap.size (.slice (some ⟨w2.heap.size, 0, none⟩) 5 5) (List.replicate 5 pin0) := own_cells w2 (flat (List.replicate 5 pin0)) 5 5 26 rfl (by simp only [maxLen]; omega)
    have F : DPins (p0 + 40) (fun ps => (∀ p ∈ ps, p.n.size ≤ 21) ∧ ps.length ≤ 5) w0 a len cap zs w (.returned (.slice (some ⟨w2.heap.size, 0, none⟩) 5 5)) (w2.alloc (.cells (flat (List.replicate 5 pin0)).toArray 26)) :=
      ⟨_, _, _, List.replicate 5 pin0, _, ⟨fun y hy => by rw [List.eq_of_mem_replicate hy]; exact Nat.zero_le _, by simp⟩, by omega, rfl, O5.less G2.size, D2.alloc _, gal G2 _⟩
    have HF := Lib.hid F
    generalize w2.alloc (.cells (flat (List.replicate 5 pin0)).toArray 26) = w5 at *
    clear F O5 hi0 hz0 hz1 hz2 Q2 G2 D2
    go_wp2_with fail
    go_ret
    exact HF.out
  by_cases e2 : sw = 2
  · subst e2
    have T0 : DList w0 a len cap zs (p + 1) w (.slice none 0 0) [] w2 := ⟨D2, G2, OwnP.nil _ _⟩
    clear Q2 D2 G2
    go_wp2_with fail
    go_loopw [3, 4] (fun v i wr => ∃ (k : Nat) (qs : List PinD), k ≤ 4 ∧ i = .int .i64 k ∧ qs.length = k ∧ (∀ q ∈ qs, q.n.size ≤ 21) ∧ DList w0 a len cap zs (p + 1) w v qs wr) (fun _ i _ => 4 - (intOf i).toNat)
    case atStart => exact ⟨0, [], by omega, rfl, rfl, by simp, T0⟩
    case round =>
      obtain ⟨k, qs, hk, rfl, hql, hqs, hT⟩ := hrel
      clear T0
      obtain ⟨vx, vc, hv, -⟩ := hT.own.form
      subst hv
      by_cases hk4 : k < 4
      · have hk4' : (k : Int) < 4 := by omega
        have HQ := Lib.hid hqs
        have HQL := Lib.hid hql
        clear hqs
        have DG := l1Digits_any k wr (by omega)
        go_wp2_with fail
        refine DG.mono ?_
        rintro r u1 ⟨tx, htx, rfl, b1⟩
        have hT1 : DList w0 a len cap zs (p + 1) w (.slice vx qs.length vc) qs u1 := ⟨hT.draw.below b1, gbe hT.grew b1, hT.own.below b1⟩
        have hsum : (⟨#[110]⟩ : ByteArray).size + tx.size ≤ 9223372036854775807 := by show 1 + tx.size ≤ _; omega
        have hadd := run_string_add_sum (P := Tryz.prog) u1 ⟨#[110]⟩ tx hsum
        have hns : ((⟨#[110]⟩ : ByteArray) ++ tx).size ≤ 21 := by
          have : ((⟨#[110]⟩ : ByteArray) ++ tx).size = 1 + tx.size := by simp [ByteArray.size_append]; rfl
          omega
        have HNS := Lib.hid hns
        have sz1 := hT1.grew.size
        clear hT DG b1 hns hql htx hsum
        generalize (⟨#[110]⟩ : ByteArray) ++ tx = nm at *
        have hqn : qs.length ≤ 4 := by have := HQL.out; omega
        go_wp2_with (at_builtin; refine wpList_append_src _ rfl (.tmp 25) (.tmp 30) 24 24 rfl w.heap.size 26 i0 (P5 pin0) 5 48 Tryz.underlying24 hi0 hz0 hz1 hz2 rfl _ _ _ rfl (Own.alloc hT1.own _) _ 1 (PinD.vals (PinD.mk nm 4 0 1 0)) rfl (src_new5 _ (PinD.mk nm 4 0 1 0) _ _ _ Tryz.underlying24) (by simp only [maxLen]; omega) (by omega) (by simp; omega) ?_; intro v3 w3 hown hgrow hat)
        have L4 := hT1.app hlt hown hgrow
        clear hown hgrow hat hT1
        go_wp2_with fail
        go_roundw
        case rel => exact ⟨k + 1, _, by omega, by go_num, by rw [List.length_append, HQL.out]; rfl, fun y hy => by rcases List.mem_append.1 hy with hy | hy; exact HQ.out y hy; simp at hy; subst hy; exact HNS.out, L4⟩
        case measure => simp [intOf]; omega
      · obtain rfl : k = 4 := by omega
        clear hi0 hz0 hz1 hz2
        have F := Lib.hid (show DPins (p0 + 40) (fun ps => (∀ p ∈ ps, p.n.size ≤ 21) ∧ ps.length ≤ 5) w0 a len cap zs w (.returned (.slice vx qs.length vc)) wr from ⟨_, _, _, qs, _, ⟨hqs, by omega⟩, by omega, rfl, hT.own, hT.draw, hT.grew⟩)
        clear hT hqs hql
        go_wp2_with fail
        go_ret
        exact F.out
  · have n0 : (sw == 0) = false := by rw [beq_eq_false_iff_ne]; exact e0
    have n1 : (sw == 1) = false := by rw [beq_eq_false_iff_ne]; exact e1
    have n2 : (sw == 2) = false := by rw [beq_eq_false_iff_ne]; exact e2
    clear hi0 hz0 hz1 hz2
    go_wp2_with fail
    go_ret
    exact ⟨_, _, _, ps, _, ⟨HSZ.out, by omega⟩, by omega, rfl, Q2, D2, G2⟩
end Go.Proofs.YtcnpocppgghejaaGreatDoor
namespace Go.Proofs.YtcnpocppgghejaaGreatDoor
open Go.RowKit
set_option maxRecDepth 100000
set_option linter.unusedVariables false

def DrawnPut (w : World) (r : Ending) (w' : World) : Prop := ∃ (x : Option Addr) (n c : Nat) (ps : List PinD) (q : PinD), r = .returned (.tuple #[.slice x n c, P5 q]) ∧ (∀ p ∈ ps, p.n.size ≤ 21) ∧ q.n.size ≤ 21 ∧ PRow w' w'.heap.size x n c ps ∧ Below w.heap.size w w'
def DrawnFind (w : World) (r : Ending) (w' : World) : Prop := ∃ (x : Option Addr) (n c : Nat) (ps : List PinD) (q : ByteArray), r = .returned (.tuple #[.slice x n c, .string q]) ∧ (∀ p ∈ ps, p.n.size ≤ 21) ∧ q.size ≤ 21 ∧ PRow w' w'.heap.size x n c ps ∧ Below w.heap.size w w'
def DrawnLive (w : World) (r : Ending) (w' : World) : Prop := ∃ (q : PinD) (t : Int), r = .returned (.tuple #[P5 q, .int .i64 t]) ∧ q.n.size ≤ 21 ∧ Below w.heap.size w w'
theorem m21 {ps : List PinD} (h : ∀ p ∈ ps, p.n.size ≤ 21) : ∀ p ∈ ps, p.n.size ≤ maxLen := fun p hp => by have := h p hp; simp only [maxLen]; omega

theorem OwnP.grew7 {u u' : World} {B g : Nat} {v : Value} {qs : List PinD} (h : OwnP u B v qs) (k : u.grownBy u' (some g)) (hg : g < B) : OwnP u' B v qs := Own.keep h k.size fun i hi => k.block i (Own.lt h i hi).2 (fun e => by injection e with e; have := (Own.lt h i hi).1; omega)
set_option maxHeartbeats 1000000 in
theorem DrawFindPin_any {a : Option Addr} {len cap : Nat} {zs : List Int} {w : World} (hR : Row .u8 w w.heap.size a len cap zs) :
    Calls Tryz.prog 7 #[.slice a len cap] w (DrawnFind w) := by
  go_enter Tryz.func7, Tryz.ntmps7
  go_wp2_with fail
  refine (dsource hR).mono ?_
  rintro r w1 ⟨rfl, D1⟩
  have lt1 := D1.lt
  go_wp2_with fail
  refine (dl7BentPins D1 (by omega)).mono ?_
  rintro r w2 ⟨x, n, c, ps, p, ⟨hs, hl⟩, hp, rfl, O2, D2, g2⟩
  have HS := Lib.hid hs
  clear D1 g2 hs
  go_wp2_with fail
  refine (l1Chance_any 2 D2 (by omega)).mono ?_
  rintro r w3 ⟨ch, rfl, D3, o3⟩
  have O3 : OwnP w3 w1.heap.size (.slice x n c) ps := Own.only O2 o3 lt1
  clear O2 D2 o3
  cases ch
  · go_wp2_with fail
    refine (dl5DrawName D3 (by omega)).mono ?_
    rintro r w4 ⟨q, hq, rfl, D4, g4⟩
    have F := Lib.hid (show DrawnFind w (.returned (.tuple #[.slice x n c, .string q])) w4 from ⟨x, n, c, ps, q, rfl, HS.out, by omega, (O3.grew7 g4 lt1).row (m21 HS.out), D4.bel⟩)
    clear D3 D4 g4 O3 hq
    go_wp2_with fail
    exact bodyPost_ret (v := .tuple #[.slice x n c, .string q]) (by simp [results, Tryz.results7, go_sem]) rfl F.out
  · go_wp2_with fail
    refine (dl5Bent D3 (by omega)).mono ?_
    rintro r w4 ⟨q, hq, rfl, D4, g4⟩
    have F := Lib.hid (show DrawnFind w (.returned (.tuple #[.slice x n c, .string q])) w4 from ⟨x, n, c, ps, q, rfl, HS.out, hq, (O3.grew7 g4 lt1).row (m21 HS.out), D4.bel⟩)
    clear D3 D4 g4 O3 hq
    go_wp2_with fail
    exact bodyPost_ret (v := .tuple #[.slice x n c, .string q]) (by simp [results, Tryz.results7, go_sem]) rfl F.out
set_option maxHeartbeats 1000000 in
theorem DrawPutPin_any {a : Option Addr} {len cap : Nat} {zs : List Int} {w : World} (hR : Row .u8 w w.heap.size a len cap zs) :
    Calls Tryz.prog 5 #[.slice a len cap] w (DrawnPut w) := by
  have A0 : At w.heap.size pinZero (w.alloc (.cells #[.string { data := #[] }, .int .i64 0, .int .i64 0, .int .i64 0, .int .i64 0] 26)) := At.new w pinZero 26
  have b0 := bal (Below.refl _ w) (.cells #[.string { data := #[] }, .int .i64 0, .int .i64 0, .int .i64 0, .int .i64 0] 26)
  have R0 := hR.on b0
  clear hR
  go_enter Tryz.func5, Tryz.ntmps5
  go_wp2_with fail
  generalize w.alloc (.cells #[.string { data := #[] }, .int .i64 0, .int .i64 0, .int .i64 0, .int .i64 0] 26) = W0 at *
  refine (dsource R0).mono ?_
  rintro r w1 ⟨rfl, D1⟩
  have lt1 := D1.lt
  have lt0 : w.heap.size < W0.heap.size := A0.lt (by simp)
  go_wp2_with fail
  refine (dl7BentPins D1 (by omega)).mono ?_
  rintro r w2 ⟨x, n, c, ps, p, ⟨hs, hl⟩, hp, rfl, O2, D2, g2⟩
  have HS := Lib.hid hs
  clear D1 g2 hs
  go_wp2_with fail
  refine (dl7Bent D2 (by omega)).mono ?_
  rintro r w3 ⟨q, p3, hq, hp3, rfl, D3, g3⟩
  have O3 := O2.grew7 g3 lt1
  have A3 := A0.on D3.bel
  have B3 := btr b0 D3.bel
  have q0 := A3.cell 0 _ rfl
  have q1 := A3.cell 1 _ rfl
  have q2 := A3.cell 2 _ rfl
  have q3 := A3.cell 3 _ rfl
  have q4 := A3.cell 4 _ rfl
  have z0 := A3.free 0 _ rfl
  have z1 := A3.free 1 _ rfl
  have z2 := A3.free 2 _ rfl
  have z3 := A3.free 3 _ rfl
  have z4 := A3.free 4 _ rfl
  have HO := Lib.hid (And.intro O3 (And.intro A3 B3))
  have HQ := Lib.hid hq
  clear D2 O2 D3 g3 O3 A3 B3 b0 A0 R0 hq
  go_wp2_with fail
  refine bodyPost_ret (v := .tuple #[.slice x n c, P5 q]) (by simp [results, Tryz.results5, go_sem, q0, q1, q2, q3, q4]) rfl ⟨x, n, c, ps, q, rfl, HS.out, HQ.out, ?_, (by (iterate 5 (refine bset ?_ (by dsimp only; omega) _)); exact HO.out.2.2)⟩
  have hne : ∀ k, Value.ownBlock (.slice x n c) = some k → k ≠ w.heap.size := fun k hk e => by have := (Own.lt HO.out.1 k hk).1; omega
  refine OwnP.row (B := w1.heap.size) ?_ (m21 HS.out)
  iterate 5 (refine Own.setCell ?_ hne _)
  exact HO.out.1
set_option maxHeartbeats 1000000 in
theorem DrawIsLive_any {a : Option Addr} {len cap : Nat} {zs : List Int} {w : World} (hR : Row .u8 w w.heap.size a len cap zs) :
    Calls Tryz.prog 9 #[.slice a len cap] w (DrawnLive w) := by
  have A0 : At w.heap.size pinZero (w.alloc (.cells #[.string { data := #[] }, .int .i64 0, .int .i64 0, .int .i64 0, .int .i64 0] 26)) := At.new w pinZero 26
  have b0 := bal (Below.refl _ w) (.cells #[.string { data := #[] }, .int .i64 0, .int .i64 0, .int .i64 0, .int .i64 0] 26)
  have R0 := hR.on b0
  clear hR
  go_enter Tryz.func9, Tryz.ntmps9
  go_wp2_with fail
  generalize w.alloc (.cells #[.string { data := #[] }, .int .i64 0, .int .i64 0, .int .i64 0, .int .i64 0] 26) = W0 at *
  refine (dsource R0).mono ?_
  rintro r w1 ⟨rfl, D1⟩
  go_wp2_with fail
  refine (dl7Bent D1 (by omega)).mono ?_
  rintro r w2 ⟨q, p, hq, hp, rfl, D2, g2⟩
  go_wp2_with fail
  refine (dpick [0, 50, 51, 9999, 10000, -1] 6 D2 (by omega) (by omega) (by omega) rfl 2).mono ?_
  rintro r w3 ⟨t, ht, rfl, D3, O3⟩
  have A3 := A0.on D3.bel
  have B3 := btr b0 D3.bel
  have q0 := A3.cell 0 _ rfl
  have q1 := A3.cell 1 _ rfl
  have q2 := A3.cell 2 _ rfl
  have q3 := A3.cell 3 _ rfl
  have q4 := A3.cell 4 _ rfl
  have z0 := A3.free 0 _ rfl
  have z1 := A3.free 1 _ rfl
  have z2 := A3.free 2 _ rfl
  have z3 := A3.free 3 _ rfl
  have z4 := A3.free 4 _ rfl
  have HO := Lib.hid (And.intro A3 B3)
  have HQ := Lib.hid hq
  clear D1 D2 D3 g2 O3 A3 B3 b0 A0 R0 hq ht
  go_wp2_with fail
  refine bodyPost_ret (v := .tuple #[P5 q, .int .i64 t]) (by simp [results, Tryz.results9, go_sem, q0, q1, q2, q3, q4]) rfl ⟨q, t, rfl, HQ.out, (by (iterate 5 (refine bset ?_ (by dsimp only; omega) _)); exact HO.out.2)⟩
set_option maxHeartbeats 1000000 in
theorem DrawReadPin_any {a : Option Addr} {len cap : Nat} {zs : List Int} {w : World} (hR : Row .u8 w w.heap.size a len cap zs) :
    Calls Tryz.prog 10 #[.slice a len cap] w (DrawnData w) := by
  go_enter Tryz.func10, Tryz.ntmps10
  go_wp2_with fail
  refine (dsource hR).mono ?_
  rintro r w1 ⟨rfl, D1⟩
  go_wp2_with fail
  refine (dl7Draw D1 (by omega)).mono ?_
  rintro r w5 ⟨q, p, hf, hp, rfl, D4, g4⟩
  have D5 := D4.alloc (.cells #[.string q.n, .int .i64 q.a, .int .i64 q.b, .int .i64 q.e, .int .i64 q.u] 26)
  have A5 : At w5.heap.size q.vals (w5.alloc (.cells #[.string q.n, .int .i64 q.a, .int .i64 q.b, .int .i64 q.e, .int .i64 q.u] 26)) := At.new w5 q.vals 26
  have P1 := fun g w hA => l7Pack_any g q w hA hf
  obtain ⟨m, hm⟩ : ∃ m, m = q.n.size := ⟨_, rfl⟩
  have hm20 : m ≤ 20 := by rw [hm]; exact (pin_bounds hf).1
  have hpl : (packP q).length = m + 7 := by rw [packP_length]; omega
  have hpw := fun z hz => byte_wf (packP_byte hf z hz)
  generalize packP q = ps at *
  have HPL := Lib.hid hpl
  have HPW := Lib.hid hpw
  clear D1 D4 g4 hpl hpw hf hm
  go_wp2_with fail
  generalize w5.alloc (.cells #[.string q.n, .int .i64 q.a, .int .i64 q.b, .int .i64 q.e, .int .i64 q.u] 26) = v5 at *
  refine (P1 _ _ A5).mono ?_
  rintro r w6 ⟨a6, n6, c6, rfl, O6, b6⟩
  have l6 : n6 = m + 7 := O6.len.trans HPL.out
  subst l6
  have D6 := D5.below b6
  have lt5 := D5.src.lt
  obtain ⟨g, rfl⟩ : ∃ g, a6 = some ⟨g, 0, none⟩ := by
    rcases O6.2 with ⟨e, hz⟩ | ⟨g, cp, e, _⟩
    · rw [HPL.out] at hz; omega
    · injection e with e1; exact ⟨g, e1⟩
  have hgw : w.heap.size < g := by have := (O6.lt g rfl).1; omega
  have hc6 : m + 7 ≤ c6 ∧ c6 ≤ maxLen := by
    rcases O6.2 with ⟨e, hz⟩ | ⟨g', cp, e, _, _, h1, h2, _⟩
    · cases e
    · injection e with e1 e2 e3; exact ⟨by rw [← e3] at h1; omega, by rw [e3]; exact h2⟩
  obtain ⟨hc1, hc2⟩ := hc6
  unfold maxLen at hc2
  have Q6 : OwnK .u8 w6 (w.heap.size + 1) (.slice (some ⟨g, 0, none⟩) (m + 7) c6) ps := O6.less (by omega)
  clear P1 A5 D5 O6 b6
  go_wp2_with fail
  refine (dnext 5 D6 (by omega)).mono ?_
  rintro r w7 ⟨sw, t0, t1, rfl, D7, O7⟩
  have Q7 : OwnK .u8 w7 (w.heap.size + 1) (.slice (some ⟨g, 0, none⟩) (m + 7) c6) ps := Own.only Q6 O7 (by omega)
  clear D6 Q6 O7 t1
  by_cases e0 : sw = 0
  · subst e0
    go_wp2_with fail
    refine (dnext _ D7 (by omega)).mono ?_
    rintro r w8 ⟨i, i0, i1, rfl, D8, O8⟩
    have i2 : i < m + 7 := by omega
    obtain ⟨i, rfl⟩ := Int.eq_ofNat_of_zero_le i0
    have i3 : i < m + 7 := by omega
    have Q8 : OwnK .u8 w8 (w.heap.size + 1) (.slice (some ⟨g, 0, none⟩) (m + 7) c6) ps := Own.only Q7 O8 (by omega)
    clear D7 Q7 O8 i0 i1
    go_wp2_with fail
    refine (dpick [0, 255, 65, 1] 4 D8 (by omega) (by omega) (by omega) rfl 2).mono ?_
    rintro r w9 ⟨x, hx, rfl, D9, O9⟩
    have hx' : 0 ≤ x ∧ x ≤ 255 := by simp at hx; omega
    obtain ⟨x0, x1⟩ := hx'
    have Q9 : OwnK .u8 w9 (w.heap.size + 1) (.slice (some ⟨g, 0, none⟩) (m + 7) c6) ps := Own.only (Own.alloc Q8 (.cells #[.int .i64 0, .int .i64 255, .int .i64 65, .int .i64 1] 2)) O9 (by omega)
    rcases Q9.2 with ⟨e, h0⟩ | ⟨g', c', e, hB8, hg8, hn8, hm8, hcell, hroom⟩
    · cases e
    injection e with e1 e2 e3
    injection e1 with e1
    injection e1 with e1 _ _
    subst e1
    subst e3
    obtain ⟨y, hy⟩ := Option.isSome_iff_exists.1 (hroom i (by omega)).1
    have hf := (hroom i (by omega)).2
    have Q10 := Q9.put (i := i) (m := x) (by rw [HPL.out]; exact i3)
    have b10 := bset D9.bel (p := ⟨g, i, none⟩) (by show w.heap.size ≤ g; omega) (.int .u8 x)
    have hw10 : ∀ z ∈ ps.set i x, (Lit.int .u8 z).wf = true := fun z hz => by
      rcases List.mem_or_eq_of_mem_set hz with h | h
      · exact HPW.out z h
      · subst h; exact u8_wf x0 (by omega)
    have F := Lib.hid (And.intro (Own.row Q10 hw10) b10)
    clear hx D8 D9 Q8 Q9 O9 hcell hroom e2 Q10 b10 hw10
    go_wp2_with fail
    go_ret
    exact ⟨_, _, _, _, rfl, by omega, F.out.1, F.out.2⟩
  by_cases e1 : sw = 1
  · subst e1
    go_wp2_with fail
    refine (dnext _ D7 (by omega)).mono ?_
    rintro r w8 ⟨i, i0, i1, rfl, D8, O8⟩
    obtain ⟨i, rfl⟩ := Int.eq_ofNat_of_zero_le i0
    have i3 : i < m + 7 := by omega
    have Q8 : OwnK .u8 w8 (w.heap.size + 1) (.slice (some ⟨g, 0, none⟩) (m + 7) c6) ps := Own.only Q7 O8 (by omega)
    have F := Lib.hid (And.intro ((Own.row Q8 HPW.out).upto i (by omega)) D8.bel)
    clear D7 Q7 O8 D8 Q8 i1
    go_wp2_with fail
    go_ret
    exact ⟨_, _, _, _, rfl, by omega, F.out.1, F.out.2⟩
  · have n0 : (sw == 0) = false := by rw [beq_eq_false_iff_ne]; exact e0
    have n1 : (sw == 1) = false := by rw [beq_eq_false_iff_ne]; exact e1
    have F := Lib.hid (And.intro (Own.row Q7 HPW.out) D7.bel)
    clear D7 Q7 e0 e1
    go_wp2_with fail
    go_ret
    exact ⟨_, _, _, _, rfl, by omega, F.out.1, F.out.2⟩

end Go.Proofs.YtcnpocppgghejaaGreatDoor
namespace Go.Proofs.YtcnpocppgghejaaGreatDoor
open Go.RowKit
set_option maxRecDepth 100000
set_option linter.unusedVariables false

/-- The name that stands in bytes. -/
def keyNm (zs : List Int) : List UInt8 := (zs.drop 4).map fun z => UInt8.ofNat z.toNat
theorem keyNm_str (zs : List Int) : strOf (zs.drop 4) = M.bs (keyNm zs) := by
  rw [← M.bs_data (strOf _), strOf, strOf_data]
  simp [keyNm]
def keyF (zs : List Int) : Int := M.tlsaF (keyNm zs) (zs.getD 0 0) (zs.getD 1 0) (256 * zs.getD 2 0 + zs.getD 3 0)
def keyOk (zs : List Int) : Bool := decide (4 ≤ zs.length) && decide (keyF zs = 0)
abbrev keyT (zs : List Int) : Value := T5 (if keyOk zs then 0 else 5) (M.bs (if keyOk zs then keyNm zs else [])) (if keyOk zs then zs.getD 0 0 else 0) (if keyOk zs then zs.getD 1 0 else 0) (if keyOk zs then 256 * zs.getD 2 0 + zs.getD 3 0 else 0)
theorem keyT_no {zs : List Int} (h : keyOk zs = false) : keyT zs = T5 5 { data := #[] } 0 0 0 := by simp [keyT, h, M.bs]
theorem keyT_yes {zs : List Int} (h : keyOk zs = true) : keyT zs = T5 0 (M.bs (keyNm zs)) (zs.getD 0 0) (zs.getD 1 0) (256 * zs.getD 2 0 + zs.getD 3 0) := by simp [keyT, h]
theorem keyOk_short {zs : List Int} (h : zs.length < 5) : keyOk zs = false := by
  unfold keyOk
  by_cases h4 : 4 ≤ zs.length
  · have e : keyNm zs = [] := by
      unfold keyNm
      rw [List.drop_of_length_le (by omega)]
      rfl
    have : keyF zs = 5 := by
      unfold keyF
      rw [e]
      have h5 : M.nameF [] = 5 := by decide
      have h6 : M.normF [] = 5 := by rw [M.normF_no (by rw [h5]; omega), h5]
      rw [M.tlsaF_norm (by rw [h6]; omega), h6]
    rw [this]
    simp
  · simp [h4]
/-- A supplied key lies in a block of its own. -/
def KeyAt (V : World) (n : ByteArray) (u m x : Int) (v : Value) (wx : World) : Prop := ∃ g, v = .pointer (some ⟨g, 0, none⟩) ∧ At g (TL4 n u m x) wx ∧ Below V.heap.size V wx ∧ V.heap.size ≤ g

/-- No byte makes no text, wherever it is taken from. -/
theorem conv_none (a a' : Option Addr) (c c' : Nat) (w : World) (hc : c ≤ maxLen) (hc' : c' ≤ maxLen) : (convert 22 9 (.slice a 0 c)).run Tryz.prog w = (convert 22 9 (.slice a' 0 c')).run Tryz.prog w := by
  have hR : ∀ (a : Option Addr) (c : Nat), c ≤ maxLen → Row .u8 w 0 a 0 c [] := fun a c hc => ⟨rfl, (fun _ h => by cases h), Nat.zero_le _, hc, fun h => absurd h (by omega)⟩
  rw [conv_row (hR a c hc), conv_row (hR a' c' hc')]

end Go.Proofs.YtcnpocppgghejaaGreatDoor
namespace Go.Proofs.YtcnpocppgghejaaGreatDoor
open Go.RowKit
set_option maxRecDepth 100000
set_option linter.unusedVariables false

/-- The name that stands in bytes; the pin. -/
def pinNm (zs : List Int) : List UInt8 := (zs.drop 7).map fun z => UInt8.ofNat z.toNat
theorem pinNm_str (zs : List Int) : strOf (zs.drop 7) = M.bs (pinNm zs) := by
  rw [← M.bs_data (strOf _), strOf, strOf_data]
  simp [pinNm]
def pinZ (zs : List Int) : PinD := ⟨M.bs (pinNm zs), 256 * zs.getD 0 0 + zs.getD 1 0, 256 * zs.getD 2 0 + zs.getD 3 0, zs.getD 4 0, 256 * zs.getD 5 0 + zs.getD 6 0⟩
def pinOk (zs : List Int) : Bool := decide (7 ≤ zs.length) && decide ((pinZ zs).f = 0)
def readC (zs : List Int) : Int := if pinOk zs then 0 else 5
def readR (zs : List Int) : PinD := if pinOk zs then pinZ zs else pin0
theorem pinOk_short {zs : List Int} (h : zs.length < 8) : pinOk zs = false := by
  unfold pinOk
  by_cases h7 : 7 ≤ zs.length
  · have e : (pinZ zs).nm = [] := by
      show (M.bs (pinNm zs)).data.toList = []
      rw [M.bs_list]
      unfold pinNm
      rw [List.drop_of_length_le (by omega)]
      rfl
    have : (pinZ zs).f = 5 := by
      unfold PinD.f
      rw [e]
      have h5 : M.nameF [] = 5 := by decide
      have h6 : M.normF [] = 5 := by rw [M.normF_no (by rw [h5]; omega), h5]
      rw [pinF_norm (by rw [h6]; omega), h6]
    rw [this]
    simp
  · simp [h7]
theorem pinZ_size (zs : List Int) (h : zs.length ≤ maxLen) : (pinZ zs).n.size ≤ maxLen := by
  show (M.bs (pinNm zs)).size ≤ maxLen
  rw [M.bs_size]
  simp only [pinNm, List.length_map, List.length_drop]
  omega
/-- A pin lies in a block of its own. -/
def PinAt (V : World) (p : PinD) (v : Value) (wx : World) : Prop := ∃ g, v = .pointer (some ⟨g, 0, none⟩) ∧ At g p.vals wx ∧ Below V.heap.size V wx ∧ V.heap.size ≤ g

theorem implReadPin_any (a : Option Addr) (len cap B : Nat) (zs : List Int) (w : World) (hR : Row .u8 w B a len cap zs) (hB : B ≤ w.heap.size) :
    Calls Tryz.prog 11 #[.slice a len cap] w fun r w' => r = .returned (R6 (readC zs) (readR zs)) ∧ Below w.heap.size w w' := by
  have hlen := hR.fits
  have hmost := hR.most
  have b0 := bal (Below.refl _ w) (.cells #[.int .i64 0, .string { data := #[] }, .int .i64 0, .int .i64 0, .int .i64 0, .int .i64 0] 35)
  have A0 := At.new w [.int .i64 0, .string { data := #[] }, .int .i64 0, .int .i64 0, .int .i64 0, .int .i64 0] 35
  have hzl := hR.length
  by_cases h7 : len < 7
  · have eno : pinOk zs = false := pinOk_short (by omega)
    rw [show readC zs = 5 by simp [readC, eno], show readR zs = pin0 by simp [readR, eno]]
    have h7' : (len : Int) < 7 := by omega
    have b5 := bal (Below.refl _ w) (.cells #[.int .i64 5, .string { data := #[] }, .int .i64 0, .int .i64 0, .int .i64 0, .int .i64 0] 35)
    unfold maxLen at hmost
    clear hR
    go_enter Tryz.func11, Tryz.ntmps11
    go_wp2_with fail
    exact bodyPost_ret (v := R6 5 ⟨{ data := #[] }, 0, 0, 0, 0⟩) (by simp [results, Tryz.results11, go_sem]) rfl ⟨rfl, b5⟩
  obtain ⟨b, off, rfl, hb, hc⟩ := hR.cells (by omega)
  have z0 := hR.byte 0
  have z1 := hR.byte 1
  have z2 := hR.byte 2
  have z3 := hR.byte 3
  have z4 := hR.byte 4
  have z5 := hR.byte 5
  have z6 := hR.byte 6
  have d0 := cell_keep b0 (hc 0 (by omega))
  rw [Nat.add_zero] at d0
  have d1 := cell_keep b0 (hc 1 (by omega))
  have d2 := cell_keep b0 (hc 2 (by omega))
  have d3 := cell_keep b0 (hc 3 (by omega))
  have d4 := cell_keep b0 (hc 4 (by omega))
  have d5 := cell_keep b0 (hc 5 (by omega))
  have d6 := cell_keep b0 (hc 6 (by omega))
  have R1 := hR.below (b0.mono hB)
  have hWB : B ≤ (w.alloc (.cells #[.int .i64 0, .string { data := #[] }, .int .i64 0, .int .i64 0, .int .i64 0, .int .i64 0] 35)).heap.size := by simp; omega
  have hsub := fun (w' : World) (R : Row .u8 w' B (some ⟨b, off, none⟩) len cap zs) => conv_row (R.sub 7 (len - 7) (cap - 7) (by omega) (by omega) (by omega))
  have edrop : (zs.drop 7).take (len - 7) = zs.drop 7 := List.take_of_length_le (by simp; omega)
  simp only [edrop, pinNm_str] at hsub
  have T0 := fun (w' : World) d0 d1 => readTwo_any b off len cap (zs.getD 0 0) (zs.getD 1 0) w' (by omega) (by omega) (by omega) d0 d1 z0.1 z0.2 z1.1 z1.2
  have T1 := fun (w' : World) d2 d3 => readTwo_any b (off + 2) (len - 2) (cap - 2) (zs.getD 2 0) (zs.getD 3 0) w' (by omega) (by omega) (by omega) d2 d3 z2.1 z2.2 z3.1 z3.2
  have T2 := fun (w' : World) d5 d6 => readTwo_any b (off + 5) (len - 5) (cap - 5) (zs.getD 5 0) (zs.getD 6 0) w' (by omega) (by omega) (by omega) d5 d6 z5.1 z5.2 z6.1 z6.2
  have hF := fun w => implPinFault_any (pinZ zs) w (pinZ_size zs (by rw [hzl]; omega))
  have hm2 := hmost
  unfold maxLen at hm2
  have h7' : ¬ (len : Int) < 7 := by omega
  have hC : readC zs = if (pinZ zs).f = 0 then 0 else 5 := by
    by_cases h : (pinZ zs).f = 0
    · simp [readC, pinOk, h, hzl]; omega
    · simp [readC, pinOk, h]
  have hP : readR zs = if (pinZ zs).f = 0 then pinZ zs else pin0 := by
    by_cases h : (pinZ zs).f = 0
    · simp [readR, pinOk, h, hzl]; omega
    · simp [readR, pinOk, h]
  rw [hC, hP]
  have eZ : pinZ zs = ⟨M.bs (pinNm zs), 256 * zs.getD 0 0 + zs.getD 1 0, 256 * zs.getD 2 0 + zs.getD 3 0, zs.getD 4 0, 256 * zs.getD 5 0 + zs.getD 6 0⟩ := rfl
  generalize pinZ zs = Z at *
  generalize M.bs (pinNm zs) = N at *
  generalize zs.getD 0 0 = y0 at *
  generalize zs.getD 1 0 = y1 at *
  generalize zs.getD 2 0 = y2 at *
  generalize zs.getD 3 0 = y3 at *
  generalize zs.getD 4 0 = y4 at *
  generalize zs.getD 5 0 = y5 at *
  generalize zs.getD 6 0 = y6 at *
  clear hR hc hC hP edrop hmost
  have EZ := Lib.hid eZ
  clear eZ
  go_enter Tryz.func11, Tryz.ntmps11
  go_upto_region 3 with fail
  generalize w.alloc (.cells #[.int .i64 0, .string { data := #[] }, .int .i64 0, .int .i64 0, .int .i64 0, .int .i64 0] 35) = W0 at *
  go_cut [3] from 8 to 23 (fun v' wx => ∃ g, v' = .pointer (some ⟨g, 0, none⟩) ∧ At g [.string N, .int .i64 (256 * y0 + y1), .int .i64 (256 * y2 + y3), .int .i64 y4, .int .i64 (256 * y5 + y6)] wx ∧ Below W0.heap.size W0 wx ∧ W0.heap.size ≤ g)
  case first =>
    refine wp_region_fork (Bel W0) (by kernel_rfl) (Bel.drew W0) ?_
    have hst : (Bel W0) _ := (Bel.drew W0)
    have inst : Nonempty (Of (Bel W0)) := ⟨⟨_, hst⟩⟩
    have u4 := bel_cell d4
    have cv : ∀ z : Of (Bel W0), (convert 22 9 (.slice (if cap = 7 then some ⟨b, off, none⟩ else some ⟨b, off + 7, none⟩) (len - 7) (cap - 7))).run Tryz.prog z.val = .ok (.string N) z.val := fun z => by
      have h := hsub _ (R1.below (z.prop.out.mono hWB))
      split
      · rename_i hcap
        have e := conv_none (some ⟨b, off, none⟩) (some ⟨b, off + 7, none⟩) (cap - 7) (cap - 7) z.val (by simp only [maxLen]; omega) (by simp only [maxLen]; omega)
        rw [show len - 7 = 0 by omega] at h ⊢
        rw [e]
        exact h
      · exact h
    generalize W0.drew = V1 at *
    refine any_seg 6 [(0, true), (1, true), (2, true), (3, true), (5, true), (6, true), (8, true), (9, true), (10, true), (11, true), (12, true), (13, true)] (by kernel_rfl) (fun _ _ d _ _ h => by cases d <;> exact h) ?_
    iterate 12 (refine line_read rfl (by kernel_rfl) (fun K hK => ?_); go_big_quiet_op; refine hK _ ?_; clear hK K)
    refine line_nil ?_
    clear cv u4
    generalize (if cap = 7 then some (⟨b, off, none⟩ : Addr) else some ⟨b, off + 7, none⟩) = ad
    have szV1 := hst.out.size
    refine any_fork 4 16 (by kernel_rfl) rfl rfl (by kernel_rfl) (by kernel_rfl) (fun K hK => ?_) (fun K hK => ?_)
    · refine call_any (args := #[.slice (some ⟨b, off, none⟩) len cap]) rfl (by kernel_rfl) (by kernel_rfl) (T0 _ (cell_keep hst.out d0) (cell_keep hst.out d1)) ?_
      rintro e x1 ⟨rfl, hbn⟩
      have hst2 := hst.on hbn
      refine ⟨_, rfl, hK _ _ hst2 ?_⟩
      clear hK K hst hbn
      have hst := hst2
      clear hst2
      simp only [Act.put, List.setIfInBounds_toArray, List.set_cons_zero, List.set_cons_succ]
      refine any_fork 7 16 (by kernel_rfl) rfl rfl (by kernel_rfl) (by kernel_rfl) (fun K hK => ?_) (fun K hK => ?_)
      · refine call_any (args := #[.slice (some ⟨b, off + 2, none⟩) (len - 2) (cap - 2)]) rfl (by kernel_rfl) (by kernel_rfl) (T1 _ (cell_keep hst.out d2) (cell_keep hst.out d3)) ?_
        rintro e x2 ⟨rfl, hbn⟩
        have hst2 := hst.on hbn
        refine ⟨_, rfl, hK _ _ hst2 ?_⟩
        clear hK K hst hbn
        have hst := hst2
        clear hst2
        simp only [Act.put, List.setIfInBounds_toArray, List.set_cons_zero, List.set_cons_succ]
        refine any_fork 14 16 (by kernel_rfl) rfl rfl (by kernel_rfl) (by kernel_rfl) (fun K hK => ?_) (fun K hK => ?_)
        · refine call_any (args := #[.slice (some ⟨b, off + 5, none⟩) (len - 5) (cap - 5)]) rfl (by kernel_rfl) (by kernel_rfl) (T2 _ (cell_keep hst.out d5) (cell_keep hst.out d6)) ?_
          rintro e x3 ⟨rfl, hbn⟩
          have hst2 := hst.on hbn
          refine ⟨_, rfl, hK _ _ hst2 ?_⟩
          clear hK K hst hbn
          have hst := hst2
          clear hst2
          simp only [Act.put, List.setIfInBounds_toArray, List.set_cons_zero, List.set_cons_succ]
          refine any_rest [(15, true), (16, false), (17, false)] (by kernel_rfl) (fun _ _ d _ _ h => by cases d <;> exact h) ?_
          refine line_readv (v := .agg #[.string N, .int .i64 (256 * y0 + y1), .int .i64 (256 * y2 + y3), .int .i64 y4, .int .i64 (256 * y5 + y6)]) rfl (by kernel_rfl) (fun _ => by kernel_rfl) ?_
          simp only [Act.put, List.setIfInBounds_toArray, List.set_cons_zero, List.set_cons_succ]
          refine line_alone rfl (by kernel_rfl) (fun K hK => ?_)
          go_big_op
          have hst2 := hst.on (bal (Below.refl _ x3) (.cells #[.string { data := #[] }, .int .i64 0, .int .i64 0, .int .i64 0, .int .i64 0] 26))
          have A := At.new x3 [.string { data := #[] }, .int .i64 0, .int .i64 0, .int .i64 0, .int .i64 0] 26
          have leA : W0.heap.size ≤ x3.heap.size := hst.out.size
          refine hK _ _ hst2 ?_
          clear hK K hst
          have hst := hst2
          clear hst2
          generalize x3.alloc (.cells #[.string { data := #[] }, .int .i64 0, .int .i64 0, .int .i64 0, .int .i64 0] 26) = xa at *
          have p0 := A.cell 0 _ rfl
          have p1 := A.cell 1 _ rfl
          have p2 := A.cell 2 _ rfl
          have p3 := A.cell 3 _ rfl
          have p4 := A.cell 4 _ rfl
          have f0 := A.free 0 _ rfl
          have f1 := A.free 1 _ rfl
          have f2 := A.free 2 _ rfl
          have f3 := A.free 3 _ rfl
          have f4 := A.free 4 _ rfl
          refine line_alone rfl (by kernel_rfl) (fun K hK => ?_)
          go_big_op
          refine hK _ _ (⟨(by (iterate 5 (refine bset ?_ (by dsimp only; omega) _)); exact hst.out)⟩) ?_
          clear hK K
          have A9 := (((((A.set 0 (.string N)).set 1 (.int .i64 (256 * y0 + y1))).set 2 (.int .i64 (256 * y2 + y3))).set 3 (.int .i64 y4)).set 4 (.int .i64 (256 * y5 + y6)))
          refine line_nil ?_
          go_wp2_with fail
          go_meet
          case rel => exact ⟨_, rfl, A9, (by (iterate 5 (refine bset ?_ (by dsimp only; omega) _)); exact hst.out), leA⟩
        · go_big_op
          have hst2 := hst.on (bal (Below.refl _ x2) (.cells #[.string { data := #[] }, .int .i64 0, .int .i64 0, .int .i64 0, .int .i64 0] 26))
          have A := At.new x2 [.string { data := #[] }, .int .i64 0, .int .i64 0, .int .i64 0, .int .i64 0] 26
          have leA : W0.heap.size ≤ x2.heap.size := hst.out.size
          refine hK _ _ hst2 ?_
          clear hK K hst
          have hst := hst2
          clear hst2
          generalize x2.alloc (.cells #[.string { data := #[] }, .int .i64 0, .int .i64 0, .int .i64 0, .int .i64 0] 26) = xa at *
          refine any_rest [(14, false), (15, true), (17, false)] (by kernel_rfl) (fun _ _ d _ _ h => by cases d <;> exact h) ?_
          refine line_alone rfl (by kernel_rfl) (fun K hK => ?_)
          refine call_any (args := #[.slice (some ⟨b, off + 5, none⟩) (len - 5) (cap - 5)]) rfl (by kernel_rfl) (by kernel_rfl) (T2 _ (cell_keep hst.out d5) (cell_keep hst.out d6)) ?_
          rintro e x4 ⟨rfl, hbn⟩
          have hst2 := hst.on hbn
          have A2 := A.on hbn
          clear A
          have A := A2
          clear A2
          refine ⟨_, rfl, hK _ _ hst2 ?_⟩
          clear hK K hst hbn
          have hst := hst2
          clear hst2
          simp only [Act.put, List.setIfInBounds_toArray, List.set_cons_zero, List.set_cons_succ]
          refine line_readv (v := .agg #[.string N, .int .i64 (256 * y0 + y1), .int .i64 (256 * y2 + y3), .int .i64 y4, .int .i64 (256 * y5 + y6)]) rfl (by kernel_rfl) (fun _ => by kernel_rfl) ?_
          simp only [Act.put, List.setIfInBounds_toArray, List.set_cons_zero, List.set_cons_succ]
          have p0 := A.cell 0 _ rfl
          have p1 := A.cell 1 _ rfl
          have p2 := A.cell 2 _ rfl
          have p3 := A.cell 3 _ rfl
          have p4 := A.cell 4 _ rfl
          have f0 := A.free 0 _ rfl
          have f1 := A.free 1 _ rfl
          have f2 := A.free 2 _ rfl
          have f3 := A.free 3 _ rfl
          have f4 := A.free 4 _ rfl
          refine line_alone rfl (by kernel_rfl) (fun K hK => ?_)
          go_big_op
          refine hK _ _ (⟨(by (iterate 5 (refine bset ?_ (by dsimp only; omega) _)); exact hst.out)⟩) ?_
          clear hK K
          have A9 := (((((A.set 0 (.string N)).set 1 (.int .i64 (256 * y0 + y1))).set 2 (.int .i64 (256 * y2 + y3))).set 3 (.int .i64 y4)).set 4 (.int .i64 (256 * y5 + y6)))
          refine line_nil ?_
          go_wp2_with fail
          go_meet
          case rel => exact ⟨_, rfl, A9, (by (iterate 5 (refine bset ?_ (by dsimp only; omega) _)); exact hst.out), leA⟩
      · go_big_op
        have hst2 := hst.on (bal (Below.refl _ x1) (.cells #[.string { data := #[] }, .int .i64 0, .int .i64 0, .int .i64 0, .int .i64 0] 26))
        have A := At.new x1 [.string { data := #[] }, .int .i64 0, .int .i64 0, .int .i64 0, .int .i64 0] 26
        have leA : W0.heap.size ≤ x1.heap.size := hst.out.size
        refine hK _ _ hst2 ?_
        clear hK K hst
        have hst := hst2
        clear hst2
        generalize x1.alloc (.cells #[.string { data := #[] }, .int .i64 0, .int .i64 0, .int .i64 0, .int .i64 0] 26) = xa at *
        refine any_rest [(7, false), (14, false), (15, true), (17, false)] (by kernel_rfl) (fun _ _ d _ _ h => by cases d <;> exact h) ?_
        refine line_alone rfl (by kernel_rfl) (fun K hK => ?_)
        refine call_any (args := #[.slice (some ⟨b, off + 2, none⟩) (len - 2) (cap - 2)]) rfl (by kernel_rfl) (by kernel_rfl) (T1 _ (cell_keep hst.out d2) (cell_keep hst.out d3)) ?_
        rintro e x5 ⟨rfl, hbn⟩
        have hst2 := hst.on hbn
        have A2 := A.on hbn
        clear A
        have A := A2
        clear A2
        refine ⟨_, rfl, hK _ _ hst2 ?_⟩
        clear hK K hst hbn
        have hst := hst2
        clear hst2
        simp only [Act.put, List.setIfInBounds_toArray, List.set_cons_zero, List.set_cons_succ]
        refine line_alone rfl (by kernel_rfl) (fun K hK => ?_)
        refine call_any (args := #[.slice (some ⟨b, off + 5, none⟩) (len - 5) (cap - 5)]) rfl (by kernel_rfl) (by kernel_rfl) (T2 _ (cell_keep hst.out d5) (cell_keep hst.out d6)) ?_
        rintro e x6 ⟨rfl, hbn⟩
        have hst2 := hst.on hbn
        have A2 := A.on hbn
        clear A
        have A := A2
        clear A2
        refine ⟨_, rfl, hK _ _ hst2 ?_⟩
        clear hK K hst hbn
        have hst := hst2
        clear hst2
        simp only [Act.put, List.setIfInBounds_toArray, List.set_cons_zero, List.set_cons_succ]
        refine line_readv (v := .agg #[.string N, .int .i64 (256 * y0 + y1), .int .i64 (256 * y2 + y3), .int .i64 y4, .int .i64 (256 * y5 + y6)]) rfl (by kernel_rfl) (fun _ => by kernel_rfl) ?_
        simp only [Act.put, List.setIfInBounds_toArray, List.set_cons_zero, List.set_cons_succ]
        have p0 := A.cell 0 _ rfl
        have p1 := A.cell 1 _ rfl
        have p2 := A.cell 2 _ rfl
        have p3 := A.cell 3 _ rfl
        have p4 := A.cell 4 _ rfl
        have f0 := A.free 0 _ rfl
        have f1 := A.free 1 _ rfl
        have f2 := A.free 2 _ rfl
        have f3 := A.free 3 _ rfl
        have f4 := A.free 4 _ rfl
        refine line_alone rfl (by kernel_rfl) (fun K hK => ?_)
        go_big_op
        refine hK _ _ (⟨(by (iterate 5 (refine bset ?_ (by dsimp only; omega) _)); exact hst.out)⟩) ?_
        clear hK K
        have A9 := (((((A.set 0 (.string N)).set 1 (.int .i64 (256 * y0 + y1))).set 2 (.int .i64 (256 * y2 + y3))).set 3 (.int .i64 y4)).set 4 (.int .i64 (256 * y5 + y6)))
        refine line_nil ?_
        go_wp2_with fail
        go_meet
        case rel => exact ⟨_, rfl, A9, (by (iterate 5 (refine bset ?_ (by dsimp only; omega) _)); exact hst.out), leA⟩
    · go_big_op
      have hst2 := hst.on (bal (Below.refl _ V1) (.cells #[.string { data := #[] }, .int .i64 0, .int .i64 0, .int .i64 0, .int .i64 0] 26))
      have A := At.new V1 [.string { data := #[] }, .int .i64 0, .int .i64 0, .int .i64 0, .int .i64 0] 26
      have leA : W0.heap.size ≤ V1.heap.size := hst.out.size
      refine hK _ _ hst2 ?_
      clear hK K hst
      have hst := hst2
      clear hst2
      generalize V1.alloc (.cells #[.string { data := #[] }, .int .i64 0, .int .i64 0, .int .i64 0, .int .i64 0] 26) = xa at *
      refine any_rest [(4, false), (7, false), (14, false), (15, true), (17, false)] (by kernel_rfl) (fun _ _ d _ _ h => by cases d <;> exact h) ?_
      refine line_alone rfl (by kernel_rfl) (fun K hK => ?_)
      refine call_any (args := #[.slice (some ⟨b, off, none⟩) len cap]) rfl (by kernel_rfl) (by kernel_rfl) (T0 _ (cell_keep hst.out d0) (cell_keep hst.out d1)) ?_
      rintro e x7 ⟨rfl, hbn⟩
      have hst2 := hst.on hbn
      have A2 := A.on hbn
      clear A
      have A := A2
      clear A2
      refine ⟨_, rfl, hK _ _ hst2 ?_⟩
      clear hK K hst hbn
      have hst := hst2
      clear hst2
      simp only [Act.put, List.setIfInBounds_toArray, List.set_cons_zero, List.set_cons_succ]
      refine line_alone rfl (by kernel_rfl) (fun K hK => ?_)
      refine call_any (args := #[.slice (some ⟨b, off + 2, none⟩) (len - 2) (cap - 2)]) rfl (by kernel_rfl) (by kernel_rfl) (T1 _ (cell_keep hst.out d2) (cell_keep hst.out d3)) ?_
      rintro e x8 ⟨rfl, hbn⟩
      have hst2 := hst.on hbn
      have A2 := A.on hbn
      clear A
      have A := A2
      clear A2
      refine ⟨_, rfl, hK _ _ hst2 ?_⟩
      clear hK K hst hbn
      have hst := hst2
      clear hst2
      simp only [Act.put, List.setIfInBounds_toArray, List.set_cons_zero, List.set_cons_succ]
      refine line_alone rfl (by kernel_rfl) (fun K hK => ?_)
      refine call_any (args := #[.slice (some ⟨b, off + 5, none⟩) (len - 5) (cap - 5)]) rfl (by kernel_rfl) (by kernel_rfl) (T2 _ (cell_keep hst.out d5) (cell_keep hst.out d6)) ?_
      rintro e x9 ⟨rfl, hbn⟩
      have hst2 := hst.on hbn
      have A2 := A.on hbn
      clear A
      have A := A2
      clear A2
      refine ⟨_, rfl, hK _ _ hst2 ?_⟩
      clear hK K hst hbn
      have hst := hst2
      clear hst2
      simp only [Act.put, List.setIfInBounds_toArray, List.set_cons_zero, List.set_cons_succ]
      refine line_readv (v := .agg #[.string N, .int .i64 (256 * y0 + y1), .int .i64 (256 * y2 + y3), .int .i64 y4, .int .i64 (256 * y5 + y6)]) rfl (by kernel_rfl) (fun _ => by kernel_rfl) ?_
      simp only [Act.put, List.setIfInBounds_toArray, List.set_cons_zero, List.set_cons_succ]
      have p0 := A.cell 0 _ rfl
      have p1 := A.cell 1 _ rfl
      have p2 := A.cell 2 _ rfl
      have p3 := A.cell 3 _ rfl
      have p4 := A.cell 4 _ rfl
      have f0 := A.free 0 _ rfl
      have f1 := A.free 1 _ rfl
      have f2 := A.free 2 _ rfl
      have f3 := A.free 3 _ rfl
      have f4 := A.free 4 _ rfl
      refine line_alone rfl (by kernel_rfl) (fun K hK => ?_)
      go_big_op
      refine hK _ _ (⟨(by (iterate 5 (refine bset ?_ (by dsimp only; omega) _)); exact hst.out)⟩) ?_
      clear hK K
      have A9 := (((((A.set 0 (.string N)).set 1 (.int .i64 (256 * y0 + y1))).set 2 (.int .i64 (256 * y2 + y3))).set 3 (.int .i64 y4)).set 4 (.int .i64 (256 * y5 + y6)))
      refine line_nil ?_
      go_wp2_with fail
      go_meet
      case rel => exact ⟨_, rfl, A9, (by (iterate 5 (refine bset ?_ (by dsimp only; omega) _)); exact hst.out), leA⟩
  case rest =>
    obtain ⟨g, rfl, A1, b1, hg⟩ := hcut
    have x0 := A1.cell 0 _ rfl
    have x1 := A1.cell 1 _ rfl
    have x2 := A1.cell 2 _ rfl
    have x3 := A1.cell 3 _ rfl
    have x4 := A1.cell 4 _ rfl
    have ltA := A1.lt (by simp)
    have eZ := EZ.out
    by_cases hcd : Z.f = 0
    · rw [hcd] at hF
      have HW := Lib.hid hcd
      clear hcd
      subst eZ
      go_wp2_with fail
      refine (hF _).mono ?_
      rintro r w2 ⟨rfl, b2⟩
      have s0 := (A1.on b2).cell 0 _ rfl
      have s1 := (A1.on b2).cell 1 _ rfl
      have s2 := (A1.on b2).cell 2 _ rfl
      have s3 := (A1.on b2).cell 3 _ rfl
      have s4 := (A1.on b2).cell 4 _ rfl
      have bb := btr b1 b2
      have p0 := (A0.on bb).cell 0 _ rfl
      have p1 := (A0.on bb).cell 1 _ rfl
      have p2 := (A0.on bb).cell 2 _ rfl
      have p3 := (A0.on bb).cell 3 _ rfl
      have p4 := (A0.on bb).cell 4 _ rfl
      have p5 := (A0.on bb).cell 5 _ rfl
      have z0 := (A0.on bb).free 0 _ rfl
      have z1 := (A0.on bb).free 1 _ rfl
      have z2 := (A0.on bb).free 2 _ rfl
      have z3 := (A0.on bb).free 3 _ rfl
      have z4 := (A0.on bb).free 4 _ rfl
      have z5 := (A0.on bb).free 5 _ rfl
      have B3 := btr b0 bb
      clear A1 A0 b1 b2 bb x0 x1 x2 x3 x4 hF
      go_wp2_with fail
      refine bodyPost_ret (v := R6 0 ⟨N, 256 * y0 + y1, 256 * y2 + y3, y4, 256 * y5 + y6⟩) (by simp [results, Tryz.results11, go_sem, p0, p1, p2, p3, p4, p5]) rfl ⟨by first | rfl | (rw [if_pos HW.out]; rfl), ?_⟩
      exact (by (iterate 6 (refine bset ?_ (by dsimp only; omega) _)); exact B3)
    · have HW := Lib.hid hcd
      have hcd2 := hcd
      generalize hZ : Z.f = cd at hF hcd2
      have q : (cd == 0) = false := by simpa using hcd2
      clear hcd
      subst eZ
      go_wp2_with fail
      refine (hF _).mono ?_
      rintro r w2 ⟨rfl, b2⟩
      have bb := btr b1 b2
      have p0 := (A0.on bb).cell 0 _ rfl
      have p1 := (A0.on bb).cell 1 _ rfl
      have p2 := (A0.on bb).cell 2 _ rfl
      have p3 := (A0.on bb).cell 3 _ rfl
      have p4 := (A0.on bb).cell 4 _ rfl
      have p5 := (A0.on bb).cell 5 _ rfl
      have z0 := (A0.on bb).free 0 _ rfl
      have z1 := (A0.on bb).free 1 _ rfl
      have z2 := (A0.on bb).free 2 _ rfl
      have z3 := (A0.on bb).free 3 _ rfl
      have z4 := (A0.on bb).free 4 _ rfl
      have z5 := (A0.on bb).free 5 _ rfl
      have B3 := btr b0 bb
      clear A1 A0 b1 b2 bb x0 x1 x2 x3 x4 hF
      go_wp2_with fail
      refine bodyPost_ret (v := R6 5 ⟨{ data := #[] }, 0, 0, 0, 0⟩) (by simp [results, Tryz.results11, go_sem, p0, p1, p2, p3, p4, p5]) rfl ⟨by first | rfl | (rw [if_neg HW.out]; rfl), ?_⟩
      exact (by (iterate 6 (refine bset ?_ (by dsimp only; omega) _)); exact B3)

/-- What the model reads: the pin, and whether it is one. -/
def PinRead (zs : List Int) (w : World) (e : Ending) (w' : World) : Prop := ∃ p : PinD, e = .returned (.tuple #[P5 p, .bool (pinOk zs)]) ∧ (pinOk zs = true → p = pinZ zs) ∧ Below w.heap.size w w'
theorem l7Read_any (a : Option Addr) (len cap B : Nat) (zs : List Int) (w : World) (hR : Row .u8 w B a len cap zs) (hB : B ≤ w.heap.size) :
    Calls Tryz.prog 47 #[.slice a len cap] w (PinRead zs w) := by
  have hlen := hR.fits
  have hmost := hR.most
  have b0 := bal (Below.refl _ w) (.cells #[.string { data := #[] }, .int .i64 0, .int .i64 0, .int .i64 0, .int .i64 0] 26)
  have A0 := At.new w [.string { data := #[] }, .int .i64 0, .int .i64 0, .int .i64 0, .int .i64 0] 26
  have hzl := hR.length
  by_cases h7 : len < 8
  · have eno : pinOk zs = false := pinOk_short (by omega)
    have F : PinRead zs w (.returned (.tuple #[P5 pin0, .bool false])) (w.alloc (.cells #[.string { data := #[] }, .int .i64 0, .int .i64 0, .int .i64 0, .int .i64 0] 26)) := ⟨pin0, by rw [eno], (fun h => by rw [eno] at h; cases h), b0⟩
    have h7' : (len : Int) < 8 := by omega
    unfold maxLen at hmost
    clear hR
    go_enter Tryz.func47, Tryz.ntmps47
    go_wp2_with fail
    exact bodyPost_ret (v := .tuple #[P5 ⟨{ data := #[] }, 0, 0, 0, 0⟩, .bool false]) (by simp [results, Tryz.results47, go_sem]) rfl F
  obtain ⟨b, off, rfl, hb, hc⟩ := hR.cells (by omega)
  have z0 := hR.byte 0
  have z1 := hR.byte 1
  have z2 := hR.byte 2
  have z3 := hR.byte 3
  have z4 := hR.byte 4
  have z5 := hR.byte 5
  have z6 := hR.byte 6
  have d0 := cell_keep b0 (hc 0 (by omega))
  have d1 := cell_keep b0 (hc 1 (by omega))
  have d2 := cell_keep b0 (hc 2 (by omega))
  have d3 := cell_keep b0 (hc 3 (by omega))
  have d4 := cell_keep b0 (hc 4 (by omega))
  have d5 := cell_keep b0 (hc 5 (by omega))
  have d6 := cell_keep b0 (hc 6 (by omega))
  have R1 := hR.below (b0.mono hB)
  have hWB : B ≤ (w.alloc (.cells #[.string { data := #[] }, .int .i64 0, .int .i64 0, .int .i64 0, .int .i64 0] 26)).heap.size := by simp; omega
  have hsub := fun (w' : World) (R : Row .u8 w' B (some ⟨b, off, none⟩) len cap zs) => conv_row (R.sub 7 (len - 7) (cap - 7) (by omega) (by omega) (by omega))
  have edrop : (zs.drop 7).take (len - 7) = zs.drop 7 := List.take_of_length_le (by simp; omega)
  simp only [edrop, pinNm_str] at hsub
  have T0 := fun (w' : World) d0 d1 => l1At_any b off len cap 0 (zs.getD 0 0) (zs.getD 1 0) w' (by omega) (by omega) hlen hmost d0 d1 z0.1 z0.2 z1.1 z1.2
  have T1 := fun (w' : World) d2 d3 => l1At_any b off len cap 2 (zs.getD 2 0) (zs.getD 3 0) w' (by omega) (by omega) hlen hmost d2 d3 z2.1 z2.2 z3.1 z3.2
  have T2 := fun (w' : World) d5 d6 => l1At_any b off len cap 5 (zs.getD 5 0) (zs.getD 6 0) w' (by omega) (by omega) hlen hmost d5 d6 z5.1 z5.2 z6.1 z6.2
  have hF := fun g w A => l7Fault_any g (pinZ zs) w A (pinZ_size zs (by rw [hzl]; omega))
  have hm2 := hmost
  unfold maxLen at hm2
  have h7' : ¬ (len : Int) < 8 := by omega
  have hOk : pinOk zs = ((pinZ zs).f == 0) := by
    unfold pinOk
    rw [decide_eq_true (show 7 ≤ zs.length by omega), Bool.true_and]
    by_cases h : (pinZ zs).f = 0 <;> simp [h]
  have HP := Lib.hid (fun (w' : World) (hb : Below w.heap.size w w') => show PinRead zs w (.returned (.tuple #[P5 (pinZ zs), .bool ((pinZ zs).f == 0)])) w' from ⟨pinZ zs, by rw [hOk], fun _ => rfl, hb⟩)
  have eZ : pinZ zs = ⟨M.bs (pinNm zs), 256 * zs.getD 0 0 + zs.getD 1 0, 256 * zs.getD 2 0 + zs.getD 3 0, zs.getD 4 0, 256 * zs.getD 5 0 + zs.getD 6 0⟩ := rfl
  clear hOk
  generalize HQ : PinRead zs w = Q at *
  clear HQ
  generalize pinZ zs = Z at *
  generalize M.bs (pinNm zs) = N at *
  generalize zs.getD 0 0 = y0 at *
  generalize zs.getD 1 0 = y1 at *
  generalize zs.getD 2 0 = y2 at *
  generalize zs.getD 3 0 = y3 at *
  generalize zs.getD 4 0 = y4 at *
  generalize zs.getD 5 0 = y5 at *
  generalize zs.getD 6 0 = y6 at *
  clear hR hc edrop hmost
  have EZ := Lib.hid eZ
  clear eZ
  go_enter Tryz.func47, Tryz.ntmps47
  go_upto_region 3 with fail
  generalize w.alloc (.cells #[.string { data := #[] }, .int .i64 0, .int .i64 0, .int .i64 0, .int .i64 0] 26) = W0 at *
  go_cut [4] from 10 to 23 (fun v' wx => ∃ g, v' = .pointer (some ⟨g, 0, none⟩) ∧ At g [.string N, .int .i64 (256 * y0 + y1), .int .i64 (256 * y2 + y3), .int .i64 y4, .int .i64 (256 * y5 + y6)] wx ∧ Below W0.heap.size W0 wx ∧ W0.heap.size ≤ g)
  case first =>
    refine wp_region_fork (Bel W0) (by kernel_rfl) (Bel.drew W0) ?_
    have hst : (Bel W0) _ := (Bel.drew W0)
    have inst : Nonempty (Of (Bel W0)) := ⟨⟨_, hst⟩⟩
    have u4 := bel_cell d4
    have cv : ∀ z : Of (Bel W0), (convert 22 9 (.slice (some ⟨b, off + 7, none⟩) (len - 7) (cap - 7))).run Tryz.prog z.val = .ok (.string N) z.val := fun z => hsub _ (R1.below (z.prop.out.mono hWB))
    generalize W0.drew = V1 at *
    refine any_seg 6 [(0, true), (2, true), (4, true), (5, true), (6, true), (7, true), (8, true), (10, true), (11, true), (12, true)] (by kernel_rfl) (fun _ _ d _ _ h => by cases d <;> exact h) ?_
    iterate 10 (refine line_read rfl (by kernel_rfl) (fun K hK => ?_); go_big_quiet_op; refine hK _ ?_; clear hK K)
    refine line_nil ?_
    clear cv u4
    have szV1 := hst.out.size
    refine any_fork 1 14 (by kernel_rfl) rfl rfl (by kernel_rfl) (by kernel_rfl) (fun K hK => ?_) (fun K hK => ?_)
    · refine call_any (args := #[.slice (some ⟨b, off, none⟩) len cap, .int .i64 0]) rfl (by kernel_rfl) (by kernel_rfl) (T0 _ (cell_keep hst.out d0) (cell_keep hst.out d1)) ?_
      rintro e x1 ⟨rfl, hbn⟩
      have hst2 := hst.on hbn
      refine ⟨_, rfl, hK _ _ hst2 ?_⟩
      clear hK K hst hbn
      have hst := hst2
      clear hst2
      simp only [Act.put, List.setIfInBounds_toArray, List.set_cons_zero, List.set_cons_succ]
      refine any_fork 3 14 (by kernel_rfl) rfl rfl (by kernel_rfl) (by kernel_rfl) (fun K hK => ?_) (fun K hK => ?_)
      · refine call_any (args := #[.slice (some ⟨b, off, none⟩) len cap, .int .i64 2]) rfl (by kernel_rfl) (by kernel_rfl) (T1 _ (cell_keep hst.out d2) (cell_keep hst.out d3)) ?_
        rintro e x2 ⟨rfl, hbn⟩
        have hst2 := hst.on hbn
        refine ⟨_, rfl, hK _ _ hst2 ?_⟩
        clear hK K hst hbn
        have hst := hst2
        clear hst2
        simp only [Act.put, List.setIfInBounds_toArray, List.set_cons_zero, List.set_cons_succ]
        refine any_fork 9 14 (by kernel_rfl) rfl rfl (by kernel_rfl) (by kernel_rfl) (fun K hK => ?_) (fun K hK => ?_)
        · refine call_any (args := #[.slice (some ⟨b, off, none⟩) len cap, .int .i64 5]) rfl (by kernel_rfl) (by kernel_rfl) (T2 _ (cell_keep hst.out d5) (cell_keep hst.out d6)) ?_
          rintro e x3 ⟨rfl, hbn⟩
          have hst2 := hst.on hbn
          refine ⟨_, rfl, hK _ _ hst2 ?_⟩
          clear hK K hst hbn
          have hst := hst2
          clear hst2
          simp only [Act.put, List.setIfInBounds_toArray, List.set_cons_zero, List.set_cons_succ]
          refine any_rest [(13, true), (14, false), (15, false)] (by kernel_rfl) (fun _ _ d _ _ h => by cases d <;> exact h) ?_
          refine line_readv (v := .agg #[.string N, .int .i64 (256 * y0 + y1), .int .i64 (256 * y2 + y3), .int .i64 y4, .int .i64 (256 * y5 + y6)]) rfl (by kernel_rfl) (fun _ => by kernel_rfl) ?_
          simp only [Act.put, List.setIfInBounds_toArray, List.set_cons_zero, List.set_cons_succ]
          refine line_alone rfl (by kernel_rfl) (fun K hK => ?_)
          go_big_op
          have hst2 := hst.on (bal (Below.refl _ x3) (.cells #[.string { data := #[] }, .int .i64 0, .int .i64 0, .int .i64 0, .int .i64 0] 26))
          have A := At.new x3 [.string { data := #[] }, .int .i64 0, .int .i64 0, .int .i64 0, .int .i64 0] 26
          have leA : W0.heap.size ≤ x3.heap.size := hst.out.size
          refine hK _ _ hst2 ?_
          clear hK K hst
          have hst := hst2
          clear hst2
          generalize x3.alloc (.cells #[.string { data := #[] }, .int .i64 0, .int .i64 0, .int .i64 0, .int .i64 0] 26) = xa at *
          have p0 := A.cell 0 _ rfl
          have p1 := A.cell 1 _ rfl
          have p2 := A.cell 2 _ rfl
          have p3 := A.cell 3 _ rfl
          have p4 := A.cell 4 _ rfl
          have f0 := A.free 0 _ rfl
          have f1 := A.free 1 _ rfl
          have f2 := A.free 2 _ rfl
          have f3 := A.free 3 _ rfl
          have f4 := A.free 4 _ rfl
          refine line_alone rfl (by kernel_rfl) (fun K hK => ?_)
          go_big_op
          refine hK _ _ (⟨(by (iterate 5 (refine bset ?_ (by dsimp only; omega) _)); exact hst.out)⟩) ?_
          clear hK K
          have A9 := (((((A.set 0 (.string N)).set 1 (.int .i64 (256 * y0 + y1))).set 2 (.int .i64 (256 * y2 + y3))).set 3 (.int .i64 y4)).set 4 (.int .i64 (256 * y5 + y6)))
          refine line_nil ?_
          go_wp2_with fail
          go_meet
          case rel => exact ⟨_, rfl, A9, (by (iterate 5 (refine bset ?_ (by dsimp only; omega) _)); exact hst.out), leA⟩
        · go_big_op
          have hst2 := hst.on (bal (Below.refl _ x2) (.cells #[.string { data := #[] }, .int .i64 0, .int .i64 0, .int .i64 0, .int .i64 0] 26))
          have A := At.new x2 [.string { data := #[] }, .int .i64 0, .int .i64 0, .int .i64 0, .int .i64 0] 26
          have leA : W0.heap.size ≤ x2.heap.size := hst.out.size
          refine hK _ _ hst2 ?_
          clear hK K hst
          have hst := hst2
          clear hst2
          generalize x2.alloc (.cells #[.string { data := #[] }, .int .i64 0, .int .i64 0, .int .i64 0, .int .i64 0] 26) = xa at *
          refine any_rest [(9, false), (13, true), (15, false)] (by kernel_rfl) (fun _ _ d _ _ h => by cases d <;> exact h) ?_
          refine line_alone rfl (by kernel_rfl) (fun K hK => ?_)
          refine call_any (args := #[.slice (some ⟨b, off, none⟩) len cap, .int .i64 5]) rfl (by kernel_rfl) (by kernel_rfl) (T2 _ (cell_keep hst.out d5) (cell_keep hst.out d6)) ?_
          rintro e x4 ⟨rfl, hbn⟩
          have hst2 := hst.on hbn
          have A2 := A.on hbn
          clear A
          have A := A2
          clear A2
          refine ⟨_, rfl, hK _ _ hst2 ?_⟩
          clear hK K hst hbn
          have hst := hst2
          clear hst2
          simp only [Act.put, List.setIfInBounds_toArray, List.set_cons_zero, List.set_cons_succ]
          refine line_readv (v := .agg #[.string N, .int .i64 (256 * y0 + y1), .int .i64 (256 * y2 + y3), .int .i64 y4, .int .i64 (256 * y5 + y6)]) rfl (by kernel_rfl) (fun _ => by kernel_rfl) ?_
          simp only [Act.put, List.setIfInBounds_toArray, List.set_cons_zero, List.set_cons_succ]
          have p0 := A.cell 0 _ rfl
          have p1 := A.cell 1 _ rfl
          have p2 := A.cell 2 _ rfl
          have p3 := A.cell 3 _ rfl
          have p4 := A.cell 4 _ rfl
          have f0 := A.free 0 _ rfl
          have f1 := A.free 1 _ rfl
          have f2 := A.free 2 _ rfl
          have f3 := A.free 3 _ rfl
          have f4 := A.free 4 _ rfl
          refine line_alone rfl (by kernel_rfl) (fun K hK => ?_)
          go_big_op
          refine hK _ _ (⟨(by (iterate 5 (refine bset ?_ (by dsimp only; omega) _)); exact hst.out)⟩) ?_
          clear hK K
          have A9 := (((((A.set 0 (.string N)).set 1 (.int .i64 (256 * y0 + y1))).set 2 (.int .i64 (256 * y2 + y3))).set 3 (.int .i64 y4)).set 4 (.int .i64 (256 * y5 + y6)))
          refine line_nil ?_
          go_wp2_with fail
          go_meet
          case rel => exact ⟨_, rfl, A9, (by (iterate 5 (refine bset ?_ (by dsimp only; omega) _)); exact hst.out), leA⟩
      · go_big_op
        have hst2 := hst.on (bal (Below.refl _ x1) (.cells #[.string { data := #[] }, .int .i64 0, .int .i64 0, .int .i64 0, .int .i64 0] 26))
        have A := At.new x1 [.string { data := #[] }, .int .i64 0, .int .i64 0, .int .i64 0, .int .i64 0] 26
        have leA : W0.heap.size ≤ x1.heap.size := hst.out.size
        refine hK _ _ hst2 ?_
        clear hK K hst
        have hst := hst2
        clear hst2
        generalize x1.alloc (.cells #[.string { data := #[] }, .int .i64 0, .int .i64 0, .int .i64 0, .int .i64 0] 26) = xa at *
        refine any_rest [(3, false), (9, false), (13, true), (15, false)] (by kernel_rfl) (fun _ _ d _ _ h => by cases d <;> exact h) ?_
        refine line_alone rfl (by kernel_rfl) (fun K hK => ?_)
        refine call_any (args := #[.slice (some ⟨b, off, none⟩) len cap, .int .i64 2]) rfl (by kernel_rfl) (by kernel_rfl) (T1 _ (cell_keep hst.out d2) (cell_keep hst.out d3)) ?_
        rintro e x5 ⟨rfl, hbn⟩
        have hst2 := hst.on hbn
        have A2 := A.on hbn
        clear A
        have A := A2
        clear A2
        refine ⟨_, rfl, hK _ _ hst2 ?_⟩
        clear hK K hst hbn
        have hst := hst2
        clear hst2
        simp only [Act.put, List.setIfInBounds_toArray, List.set_cons_zero, List.set_cons_succ]
        refine line_alone rfl (by kernel_rfl) (fun K hK => ?_)
        refine call_any (args := #[.slice (some ⟨b, off, none⟩) len cap, .int .i64 5]) rfl (by kernel_rfl) (by kernel_rfl) (T2 _ (cell_keep hst.out d5) (cell_keep hst.out d6)) ?_
        rintro e x6 ⟨rfl, hbn⟩
        have hst2 := hst.on hbn
        have A2 := A.on hbn
        clear A
        have A := A2
        clear A2
        refine ⟨_, rfl, hK _ _ hst2 ?_⟩
        clear hK K hst hbn
        have hst := hst2
        clear hst2
        simp only [Act.put, List.setIfInBounds_toArray, List.set_cons_zero, List.set_cons_succ]
        refine line_readv (v := .agg #[.string N, .int .i64 (256 * y0 + y1), .int .i64 (256 * y2 + y3), .int .i64 y4, .int .i64 (256 * y5 + y6)]) rfl (by kernel_rfl) (fun _ => by kernel_rfl) ?_
        simp only [Act.put, List.setIfInBounds_toArray, List.set_cons_zero, List.set_cons_succ]
        have p0 := A.cell 0 _ rfl
        have p1 := A.cell 1 _ rfl
        have p2 := A.cell 2 _ rfl
        have p3 := A.cell 3 _ rfl
        have p4 := A.cell 4 _ rfl
        have f0 := A.free 0 _ rfl
        have f1 := A.free 1 _ rfl
        have f2 := A.free 2 _ rfl
        have f3 := A.free 3 _ rfl
        have f4 := A.free 4 _ rfl
        refine line_alone rfl (by kernel_rfl) (fun K hK => ?_)
        go_big_op
        refine hK _ _ (⟨(by (iterate 5 (refine bset ?_ (by dsimp only; omega) _)); exact hst.out)⟩) ?_
        clear hK K
        have A9 := (((((A.set 0 (.string N)).set 1 (.int .i64 (256 * y0 + y1))).set 2 (.int .i64 (256 * y2 + y3))).set 3 (.int .i64 y4)).set 4 (.int .i64 (256 * y5 + y6)))
        refine line_nil ?_
        go_wp2_with fail
        go_meet
        case rel => exact ⟨_, rfl, A9, (by (iterate 5 (refine bset ?_ (by dsimp only; omega) _)); exact hst.out), leA⟩
    · go_big_op
      have hst2 := hst.on (bal (Below.refl _ V1) (.cells #[.string { data := #[] }, .int .i64 0, .int .i64 0, .int .i64 0, .int .i64 0] 26))
      have A := At.new V1 [.string { data := #[] }, .int .i64 0, .int .i64 0, .int .i64 0, .int .i64 0] 26
      have leA : W0.heap.size ≤ V1.heap.size := hst.out.size
      refine hK _ _ hst2 ?_
      clear hK K hst
      have hst := hst2
      clear hst2
      generalize V1.alloc (.cells #[.string { data := #[] }, .int .i64 0, .int .i64 0, .int .i64 0, .int .i64 0] 26) = xa at *
      refine any_rest [(1, false), (3, false), (9, false), (13, true), (15, false)] (by kernel_rfl) (fun _ _ d _ _ h => by cases d <;> exact h) ?_
      refine line_alone rfl (by kernel_rfl) (fun K hK => ?_)
      refine call_any (args := #[.slice (some ⟨b, off, none⟩) len cap, .int .i64 0]) rfl (by kernel_rfl) (by kernel_rfl) (T0 _ (cell_keep hst.out d0) (cell_keep hst.out d1)) ?_
      rintro e x7 ⟨rfl, hbn⟩
      have hst2 := hst.on hbn
      have A2 := A.on hbn
      clear A
      have A := A2
      clear A2
      refine ⟨_, rfl, hK _ _ hst2 ?_⟩
      clear hK K hst hbn
      have hst := hst2
      clear hst2
      simp only [Act.put, List.setIfInBounds_toArray, List.set_cons_zero, List.set_cons_succ]
      refine line_alone rfl (by kernel_rfl) (fun K hK => ?_)
      refine call_any (args := #[.slice (some ⟨b, off, none⟩) len cap, .int .i64 2]) rfl (by kernel_rfl) (by kernel_rfl) (T1 _ (cell_keep hst.out d2) (cell_keep hst.out d3)) ?_
      rintro e x8 ⟨rfl, hbn⟩
      have hst2 := hst.on hbn
      have A2 := A.on hbn
      clear A
      have A := A2
      clear A2
      refine ⟨_, rfl, hK _ _ hst2 ?_⟩
      clear hK K hst hbn
      have hst := hst2
      clear hst2
      simp only [Act.put, List.setIfInBounds_toArray, List.set_cons_zero, List.set_cons_succ]
      refine line_alone rfl (by kernel_rfl) (fun K hK => ?_)
      refine call_any (args := #[.slice (some ⟨b, off, none⟩) len cap, .int .i64 5]) rfl (by kernel_rfl) (by kernel_rfl) (T2 _ (cell_keep hst.out d5) (cell_keep hst.out d6)) ?_
      rintro e x9 ⟨rfl, hbn⟩
      have hst2 := hst.on hbn
      have A2 := A.on hbn
      clear A
      have A := A2
      clear A2
      refine ⟨_, rfl, hK _ _ hst2 ?_⟩
      clear hK K hst hbn
      have hst := hst2
      clear hst2
      simp only [Act.put, List.setIfInBounds_toArray, List.set_cons_zero, List.set_cons_succ]
      refine line_readv (v := .agg #[.string N, .int .i64 (256 * y0 + y1), .int .i64 (256 * y2 + y3), .int .i64 y4, .int .i64 (256 * y5 + y6)]) rfl (by kernel_rfl) (fun _ => by kernel_rfl) ?_
      simp only [Act.put, List.setIfInBounds_toArray, List.set_cons_zero, List.set_cons_succ]
      have p0 := A.cell 0 _ rfl
      have p1 := A.cell 1 _ rfl
      have p2 := A.cell 2 _ rfl
      have p3 := A.cell 3 _ rfl
      have p4 := A.cell 4 _ rfl
      have f0 := A.free 0 _ rfl
      have f1 := A.free 1 _ rfl
      have f2 := A.free 2 _ rfl
      have f3 := A.free 3 _ rfl
      have f4 := A.free 4 _ rfl
      refine line_alone rfl (by kernel_rfl) (fun K hK => ?_)
      go_big_op
      refine hK _ _ (⟨(by (iterate 5 (refine bset ?_ (by dsimp only; omega) _)); exact hst.out)⟩) ?_
      clear hK K
      have A9 := (((((A.set 0 (.string N)).set 1 (.int .i64 (256 * y0 + y1))).set 2 (.int .i64 (256 * y2 + y3))).set 3 (.int .i64 y4)).set 4 (.int .i64 (256 * y5 + y6)))
      refine line_nil ?_
      go_wp2_with fail
      go_meet
      case rel => exact ⟨_, rfl, A9, (by (iterate 5 (refine bset ?_ (by dsimp only; omega) _)); exact hst.out), leA⟩
  case rest =>
    obtain ⟨g, rfl, A1, b1, hg⟩ := hcut
    have eZ := EZ.out
    have ltA := A1.lt (by simp)
    have lt0 : w.heap.size < W0.heap.size := A0.lt (by simp)
    generalize Z.f = cd at *
    subst eZ
    go_wp2_with fail
    have S0 : Hold w g [.string N, .int .i64 (256 * y0 + y1), .int .i64 (256 * y2 + y3), .int .i64 y4, .int .i64 (256 * y5 + y6)] wc.drew := ⟨(btr b0 b1).drew, A1.on (bdrew wc)⟩
    have AA := (A0.on b1).on (bdrew wc)
    refine wp_region_line (Hold w g [.string N, .int .i64 (256 * y0 + y1), .int .i64 (256 * y2 + y3), .int .i64 y4, .int .i64 (256 * y5 + y6)]) [(0, true), (1, false), (2, true), (3, false), (4, true)] (by kernel_rfl) (by kernel_rfl) (fun _ _ d _ _ h => by cases d <;> exact h) S0 ?_
    have hst := S0
    have inst : Nonempty (Of (Hold w g [.string N, .int .i64 (256 * y0 + y1), .int .i64 (256 * y2 + y3), .int .i64 y4, .int .i64 (256 * y5 + y6)])) := ⟨⟨_, hst⟩⟩
    have q0 := hold_cell (W := w) (g := g) (cs := [.string N, .int .i64 (256 * y0 + y1), .int .i64 (256 * y2 + y3), .int .i64 y4, .int .i64 (256 * y5 + y6)]) 0 _ rfl
    have q1 := hold_cell (W := w) (g := g) (cs := [.string N, .int .i64 (256 * y0 + y1), .int .i64 (256 * y2 + y3), .int .i64 y4, .int .i64 (256 * y5 + y6)]) 1 _ rfl
    have q2 := hold_cell (W := w) (g := g) (cs := [.string N, .int .i64 (256 * y0 + y1), .int .i64 (256 * y2 + y3), .int .i64 y4, .int .i64 (256 * y5 + y6)]) 2 _ rfl
    have q3 := hold_cell (W := w) (g := g) (cs := [.string N, .int .i64 (256 * y0 + y1), .int .i64 (256 * y2 + y3), .int .i64 y4, .int .i64 (256 * y5 + y6)]) 3 _ rfl
    have q4 := hold_cell (W := w) (g := g) (cs := [.string N, .int .i64 (256 * y0 + y1), .int .i64 (256 * y2 + y3), .int .i64 y4, .int .i64 (256 * y5 + y6)]) 4 _ rfl
    clear S0 A1 A0 b1 b0
    generalize wc.drew = V2 at *
    iterate 1 (refine line_read rfl (by kernel_rfl) (fun K hK => ?_); go_big_quiet_op; refine hK _ ?_; clear hK K)
    clear q0 q1 q2 q3 q4
    refine line_alone rfl (by kernel_rfl) (fun K hK => ?_)
    refine call_any (args := #[.pointer (some ⟨g, 0, none⟩)]) rfl (by kernel_rfl) (by kernel_rfl) (hF _ _ hst.at') ?_
    rintro e x9 ⟨rfl, hbn⟩
    have hst2 := hst.on hbn
    have AA2 := AA.on hbn
    refine ⟨_, rfl, hK _ _ hst2 ?_⟩
    clear hK K hst hbn AA
    have hst := hst2
    clear hst2
    simp only [Act.put, List.setIfInBounds_toArray, List.set_cons_zero, List.set_cons_succ]
    iterate 1 (refine line_read rfl (by kernel_rfl) (fun K hK => ?_); go_big_quiet_op; refine hK _ ?_; clear hK K)
    have p0 := AA2.cell 0 _ rfl
    have p1 := AA2.cell 1 _ rfl
    have p2 := AA2.cell 2 _ rfl
    have p3 := AA2.cell 3 _ rfl
    have p4 := AA2.cell 4 _ rfl
    have z0 := AA2.free 0 _ rfl
    have z1 := AA2.free 1 _ rfl
    have z2 := AA2.free 2 _ rfl
    have z3 := AA2.free 3 _ rfl
    have z4 := AA2.free 4 _ rfl
    refine line_alone rfl (by kernel_rfl) (fun K hK => ?_)
    go_big_op
    refine hK _ _ ((by (iterate 5 (refine Hold.setB ?_ (by dsimp only; omega) (by dsimp only; omega) _)); exact hst)) ?_
    clear hK K
    iterate 1 (refine line_read rfl (by kernel_rfl) (fun K hK => ?_); go_big_quiet_op; refine hK _ ?_; clear hK K)
    refine line_nil ?_
    have HB := Lib.hid hst.bel
    clear hst inst AA2
    go_wp2_with fail
    refine bodyPost_ret (v := .tuple #[P5 ⟨N, 256 * y0 + y1, 256 * y2 + y3, y4, 256 * y5 + y6⟩, .bool (cd == 0)]) (by simp [results, Tryz.results47, go_sem, p0, p1, p2, p3, p4]) rfl (HP.out _ ?_)
    exact (by (iterate 5 (refine bset ?_ (by dsimp only; omega) _)); exact HB.out)
theorem specReadPin_any (a : Option Addr) (len cap B : Nat) (zs : List Int) (w : World) (hR : Row .u8 w B a len cap zs) (hB : B ≤ w.heap.size) :
    Calls Tryz.prog 15 #[.slice a len cap] w fun r w' => r = .returned (R6 (readC zs) (readR zs)) ∧ Below w.heap.size w w' := by
  have b0 := bal (Below.refl _ w) (.cells #[.int .i64 0, .string { data := #[] }, .int .i64 0, .int .i64 0, .int .i64 0, .int .i64 0] 35)
  have A0 := At.new w [.int .i64 0, .string { data := #[] }, .int .i64 0, .int .i64 0, .int .i64 0, .int .i64 0] 35
  have F := l7Read_any a len cap B zs _ (hR.below (b0.mono hB)) (Nat.le_trans hB b0.size)
  clear hR
  cases hk : pinOk zs
  · rw [show readC zs = 5 by simp [readC, hk], show readR zs = pin0 by simp [readR, hk]]
    go_enter Tryz.func15, Tryz.ntmps15
    go_wp2_with fail
    generalize w.alloc (.cells #[.int .i64 0, .string { data := #[] }, .int .i64 0, .int .i64 0, .int .i64 0, .int .i64 0] 35) = W0 at *
    refine F.mono ?_
    rintro r u1 ⟨p, rfl, -, b1⟩
    rw [hk]
    have q0 := (A0.on b1).cell 0 _ rfl
    have q1 := (A0.on b1).cell 1 _ rfl
    have q2 := (A0.on b1).cell 2 _ rfl
    have q3 := (A0.on b1).cell 3 _ rfl
    have q4 := (A0.on b1).cell 4 _ rfl
    have q5 := (A0.on b1).cell 5 _ rfl
    have z0 := (A0.on b1).free 0 _ rfl
    have z1 := (A0.on b1).free 1 _ rfl
    have z2 := (A0.on b1).free 2 _ rfl
    have z3 := (A0.on b1).free 3 _ rfl
    have z4 := (A0.on b1).free 4 _ rfl
    have z5 := (A0.on b1).free 5 _ rfl
    have lt1 := (A0.on b1).lt (by simp)
    have B1 := btr b0 b1
    clear A0 b0 b1 F
    go_wp2_with fail
    refine bodyPost_ret (v := R6 5 ⟨{ data := #[] }, 0, 0, 0, 0⟩) (by simp [results, Tryz.results15, go_sem, q0, q1, q2, q3, q4, q5, lt1]) rfl ⟨rfl, ?_⟩
    exact bal (by (iterate 6 (refine bset ?_ (by dsimp only; omega) _)); exact B1) _
  · rw [show readC zs = 0 by simp [readC, hk], show readR zs = pinZ zs by simp [readR, hk]]
    generalize eZ : pinZ zs = Z at *
    have EZ := Lib.hid eZ
    clear eZ
    go_enter Tryz.func15, Tryz.ntmps15
    go_wp2_with fail
    generalize w.alloc (.cells #[.int .i64 0, .string { data := #[] }, .int .i64 0, .int .i64 0, .int .i64 0, .int .i64 0] 35) = W0 at *
    refine F.mono ?_
    rintro r u1 ⟨p, rfl, hp, b1⟩
    obtain rfl : p = Z := (hp hk).trans EZ.out
    rw [hk]
    have q0 := (A0.on b1).cell 0 _ rfl
    have q1 := (A0.on b1).cell 1 _ rfl
    have q2 := (A0.on b1).cell 2 _ rfl
    have q3 := (A0.on b1).cell 3 _ rfl
    have q4 := (A0.on b1).cell 4 _ rfl
    have q5 := (A0.on b1).cell 5 _ rfl
    have z0 := (A0.on b1).free 0 _ rfl
    have z1 := (A0.on b1).free 1 _ rfl
    have z2 := (A0.on b1).free 2 _ rfl
    have z3 := (A0.on b1).free 3 _ rfl
    have z4 := (A0.on b1).free 4 _ rfl
    have z5 := (A0.on b1).free 5 _ rfl
    have lt1 := (A0.on b1).lt (by simp)
    have B1 := btr b0 b1
    clear A0 b0 b1 F hp
    go_wp2_with fail
    refine bodyPost_ret (v := R6 0 p) (by simp [results, Tryz.results15, go_sem, q0, q1, q2, q3, q4, q5, lt1]) rfl ⟨rfl, ?_⟩
    exact bal (by (iterate 6 (refine bset ?_ (by dsimp only; omega) _)); exact B1) _
end Go.Proofs.YtcnpocppgghejaaGreatDoor
namespace Go.Proofs.YtcnpocppgghejaaGreatDoor
open Go.RowKit
set_option maxRecDepth 100000
set_option linter.unusedVariables false

def pinEq (p q : PinD) : Bool := decide (p.n.toList = q.n.toList ∧ p.a = q.a ∧ p.b = q.b ∧ p.e = q.e ∧ p.u = q.u)
theorem pinEq_iff (p q : PinD) : pinEq p q = true ↔ p = q := by
  obtain ⟨n, a, b, e, u⟩ := p
  obtain ⟨n', a', b', e', u'⟩ := q
  simp only [pinEq, decide_eq_true_eq, PinD.mk.injEq, ByteArray.toList_eq]
  exact ⟨fun ⟨h, r⟩ => ⟨nm_inj h, r⟩, fun ⟨h, r⟩ => ⟨by rw [h], r⟩⟩
theorem pinEq_self (p : PinD) : pinEq p p = true := (pinEq_iff p p).2 rfl
theorem pin_eq (p q : PinD) (w : World) : (Op.equalIn 10000 26 (P5 p) (P5 q)).run Tryz.prog w = .ok (pinEq p q) w := by
  have u3 := Tryz.underlying2
  have a3 := Tryz.isAgg2
  have z3 := Tryz.sizeOf2
  have u9 := Tryz.underlying9
  have a9 := Tryz.isAgg9
  have z9 := Tryz.sizeOf9
  have hS : Tryz.prog.underlying 26 = some (.struct (Tryz.prog.fieldsOf 26)) := by kernel_rfl
  have hp : Tryz.prog.stoodInHeld 26 = false := by kernel_rfl
  rw [show (10000 : Nat) = 9999 + 1 from rfl, run_equalIn_agg w 9999 26 _ _ hS hp]
  simp only [Program.fieldsOf, Tryz.underlying26]
  go_simp
  unfold pinEq
  by_cases h0 : p.n.toList = q.n.toList <;> by_cases h1 : p.a = q.a <;> by_cases h2 : p.b = q.b <;> by_cases h3 : p.e = q.e <;> by_cases h4 : p.u = q.u <;> simp only [h0, h1, h2, h3, h4, if_true, if_false, and_true, and_false, and_self, decide_true, decide_false]
theorem pin_neq (p q : PinD) (w : World) : (binOp .neq 26 (P5 p) (P5 q)).run Tryz.prog w = .ok (.bool (!pinEq p q)) w := by
  rw [run_neq_struct, pin_eq]
  rfl
theorem pin_eql (p q : PinD) (w : World) : (binOp .eql 26 (P5 p) (P5 q)).run Tryz.prog w = .ok (.bool (pinEq p q)) w := by
  rw [run_eql_struct, pin_eq]
  rfl
theorem pin_guard (op : BinOp) (x y : Operand) (p q : PinD) (w : World) : (eqGuard op 26 x y (P5 p) (P5 q)).run Tryz.prog w = .ok () w := run_eqGuard_agg w op 26 x y _ _ (by kernel_rfl)

def sameL : List PinD → List PinD → Bool
  | [], [] => true
  | p :: r, q :: s => pinEq p q && sameL r s
  | _, _ => false
theorem sameL_self : ∀ ps : List PinD, sameL ps ps = true
  | [] => rfl
  | p :: r => by rw [sameL, pinEq_self, sameL_self r]; rfl
theorem sameL_len : ∀ {ps qs : List PinD}, ps.length ≠ qs.length → sameL ps qs = false
  | [], [], h => absurd rfl h
  | [], _ :: _, _ => rfl
  | _ :: _, [], _ => rfl
  | p :: r, q :: s, h => by rw [sameL, sameL_len (ps := r) (qs := s) (by simpa using h), Bool.and_false]
theorem sameL_step {ps qs : List PinD} {k : Nat} (h1 : k < ps.length) (h2 : k < qs.length) : sameL (ps.drop k) (qs.drop k) = (pinEq (ps[k]?.getD pin0) (qs[k]?.getD pin0) && sameL (ps.drop (k + 1)) (qs.drop (k + 1))) := by
  have e : ∀ {ps : List PinD}, k < ps.length → ps.drop k = (ps[k]?.getD pin0) :: ps.drop (k + 1) := fun hk => by
    rw [List.drop_eq_getElem_cons hk, List.getElem?_eq_getElem hk]
    rfl
  rw [e h1, e h2]
  rfl
def SameRel (w : World) (ps qs : List PinD) (t : Bool) (k : Nat) (wr : World) : Prop := sameL (ps.drop k) (qs.drop k) = t ∧ Below w.heap.size w wr
theorem slicesEqual_any (a b : Option Addr) (n m c1 c2 B : Nat) (ps qs : List PinD) (w : World) (hR : PRow w B a n c1 ps) (hQ : PRow w B b m c2 qs) (hB : B ≤ w.heap.size) :
    Calls Tryz.prog 54 #[.slice a n c1, .slice b m c2] w fun e w' => e = .returned (.bool (sameL ps qs)) ∧ Below w.heap.size w w' := by
  have f1 := hR.fits
  have m1 := hR.most
  have f2 := hQ.fits
  have m2 := hQ.most
  unfold maxLen at m1 m2
  have L1 := Lib.hid hR.length
  have L2 := Lib.hid hQ.length
  by_cases hnm : n = m
  · subst hnm
    have T0 : SameRel w ps qs (sameL ps qs) 0 w := ⟨rfl, Below.refl _ _⟩
    generalize sameL ps qs = t at *
    go_enter Tryz.func54, Tryz.ntmps54
    go_wp2_with fail
    go_loopw [13] (fun i wr => ∃ k : Nat, k ≤ n ∧ i = .int .i64 k ∧ SameRel w ps qs t k wr) (fun i _ => n - (intOf i).toNat)
    case atStart => exact ⟨0, Nat.zero_le _, rfl, T0⟩
    case round =>
      obtain ⟨k, hk, rfl, ht, hb⟩ := hrel
      by_cases hlt : k < n
      · obtain ⟨b1, o1, ha1, hb1, c0, c1, c2, c3, c4⟩ := (hR.below (hb.mono hB)).at' hlt
        obtain ⟨b2, o2, ha2, hb2, d0, d1, d2, d3, d4⟩ := (hQ.below (hb.mono hB)).at' hlt
        have hs := sameL_step (k := k) (ps := ps) (qs := qs) (by rw [L1.out]; exact hlt) (by rw [L2.out]; exact hlt)
        rw [ht] at hs
        have N := fun w => pin_neq (ps[k]?.getD pin0) (qs[k]?.getD pin0) w
        have G := fun op x y w => pin_guard op x y (ps[k]?.getD pin0) (qs[k]?.getD pin0) w
        have HB := Lib.hid hb
        clear hb hR hQ ht T0
        subst ha1
        subst ha2
        generalize ps[k]?.getD pin0 = p at *
        generalize qs[k]?.getD pin0 = q at *
        generalize pinEq p q = c at *
        cases c
        · rw [Bool.false_and] at hs
          subst hs
          go_wp2_with fail
          refine wp_region_line (Bel wr) [(0, true), (1, true), (2, true), (3, true), (4, true), (5, true), (6, true), (7, true), (8, true)] (by kernel_rfl) (by kernel_rfl) (fun _ _ d _ _ h => by cases d <;> exact h) (Bel.drew wr) ?_
          have hst := Bel.drew wr
          have inst : Nonempty (Of (Bel wr)) := ⟨⟨_, hst⟩⟩
          have q0 := bel_cell c0
          have q1 := bel_cell c1
          have q2 := bel_cell c2
          have q3 := bel_cell c3
          have q4 := bel_cell c4
          have y0 := bel_cell d0
          have y1 := bel_cell d1
          have y2 := bel_cell d2
          have y3 := bel_cell d3
          have y4 := bel_cell d4
          iterate 9 (refine line_read rfl (by kernel_rfl) (fun K hK => ?_); go_big_quiet_op; refine hK _ ?_; clear hK K)
          refine line_nil ?_
          have bb := btr HB.out hst.out
          clear hst inst q0 q1 q2 q3 q4 y0 y1 y2 y3 y4 c0 c1 c2 c3 c4 d0 d1 d2 d3 d4 HB N G
          go_wp2_with fail
          go_ret
          exact ⟨rfl, bb⟩
        · rw [Bool.true_and] at hs
          have HS := Lib.hid hs
          clear hs
          go_wp2_with fail
          refine wp_region_line (Bel wr) [(0, true), (1, true), (2, true), (3, true), (4, true), (5, true), (6, true), (7, true), (8, true)] (by kernel_rfl) (by kernel_rfl) (fun _ _ d _ _ h => by cases d <;> exact h) (Bel.drew wr) ?_
          have hst := Bel.drew wr
          have inst : Nonempty (Of (Bel wr)) := ⟨⟨_, hst⟩⟩
          have q0 := bel_cell c0
          have q1 := bel_cell c1
          have q2 := bel_cell c2
          have q3 := bel_cell c3
          have q4 := bel_cell c4
          have y0 := bel_cell d0
          have y1 := bel_cell d1
          have y2 := bel_cell d2
          have y3 := bel_cell d3
          have y4 := bel_cell d4
          iterate 9 (refine line_read rfl (by kernel_rfl) (fun K hK => ?_); go_big_quiet_op; refine hK _ ?_; clear hK K)
          refine line_nil ?_
          have bb := btr HB.out hst.out
          clear hst inst q0 q1 q2 q3 q4 y0 y1 y2 y3 y4 c0 c1 c2 c3 c4 d0 d1 d2 d3 d4 HB N G
          go_wp2_with fail
          go_roundw
          case rel => exact ⟨k + 1, by omega, by go_num, HS.out.symm, bb⟩
          case measure => simp [intOf]; omega
      · obtain rfl : k = n := by omega
        have e1 : ps.drop k = [] := List.drop_of_length_le (by rw [L1.out]; omega)
        have e2 : qs.drop k = [] := List.drop_of_length_le (by rw [L2.out]; omega)
        rw [e1, e2] at ht
        have ht' : true = t := ht
        subst ht'
        clear ht e1 e2
        go_wp2_with fail
        go_ret
        exact ⟨rfl, hb⟩
  · have hl : ps.length ≠ qs.length := by rw [L1.out, L2.out]; exact hnm
    rw [sameL_len hl]
    have hnm' : ((n : Int) == (m : Int)) = false := by
      rw [beq_eq_false_iff_ne]
      omega
    clear hR hQ hl
    go_enter Tryz.func54, Tryz.ntmps54
    go_wp2_with fail
    go_ret
    exact ⟨rfl, Below.refl _ _⟩
theorem implSamePins_any (a b : Option Addr) (n m c1 c2 B : Nat) (ps qs : List PinD) (w : World) (hR : PRow w B a n c1 ps) (hQ : PRow w B b m c2 qs) (hB : B ≤ w.heap.size) :
    Calls Tryz.prog 23 #[.slice a n c1, .slice b m c2] w fun e w' => e = .returned (.bool (sameL ps qs)) ∧ Below w.heap.size w w' := by
  have S := slicesEqual_any a b n m c1 c2 B ps qs w hR hQ hB
  generalize sameL ps qs = t at *
  clear hR hQ
  go_enter Tryz.func23, Tryz.ntmps23
  go_wp2_with fail
  refine S.mono ?_
  rintro r u1 ⟨rfl, b1⟩
  go_wp2_with fail
  go_ret
  exact ⟨rfl, b1⟩
end Go.Proofs.YtcnpocppgghejaaGreatDoor
namespace Go.Proofs.YtcnpocppgghejaaGreatDoor
open Go.RowKit
set_option maxRecDepth 100000
set_option linter.unusedVariables false

theorem two_back7 {x y : Int} (hx : M.byteB x) (hy : M.byteB y) : M.two (256 * x + y) = [x, y] := by
  unfold M.byteB at hx hy
  unfold M.two
  congr 1
  · omega
  · congr 1
    omega
theorem byte_back7 {z : Int} (h : M.byteB z) : ((UInt8.ofNat z.toNat).toNat : Int) = z := by
  unfold M.byteB at h
  simp
  omega
theorem pin_pack {zs : List Int} (hb : ∀ z ∈ zs, M.byteB z) (h : pinOk zs = true) : (pinZ zs).f = 0 ∧ packPL (pinZ zs) = zs := by
  simp only [pinOk, Bool.and_eq_true, decide_eq_true_eq] at h
  obtain ⟨h7, hf⟩ := h
  refine ⟨hf, ?_⟩
  unfold packPL
  rw [if_pos hf]
  match zs, h7, hb with
  | z0 :: z1 :: z2 :: z3 :: z4 :: z5 :: z6 :: r, _, hb =>
    have ht : M.textL (M.bs (r.map fun z => UInt8.ofNat z.toNat)) = r := by
      unfold M.textL
      rw [M.bs_list, List.map_map]
      have : r.map ((fun c : UInt8 => (c.toNat : Int)) ∘ fun z => UInt8.ofNat z.toNat) = r.map id := List.map_congr_left fun z hz => byte_back7 (hb z (by simp [hz]))
      rw [this, List.map_id]
    show (M.two (256 * z0 + z1) ++ M.two (256 * z2 + z3) ++ [z4] ++ M.two (256 * z5 + z6)) ++ M.textL (M.bs (r.map fun z => UInt8.ofNat z.toNat)) = _
    rw [ht, two_back7 (hb z0 (by simp)) (hb z1 (by simp)), two_back7 (hb z2 (by simp)) (hb z3 (by simp)), two_back7 (hb z5 (by simp)) (hb z6 (by simp))]
    rfl
theorem read_cases {zs : List Int} (hb : ∀ z ∈ zs, M.byteB z) : readC zs = 5 ∨ (readC zs = 0 ∧ (readR zs).f = 0 ∧ packPL (readR zs) = zs) := by
  unfold readC readR
  cases h : pinOk zs
  · exact .inl rfl
  · obtain ⟨h1, h2⟩ := pin_pack hb h
    exact .inr ⟨rfl, h1, h2⟩
theorem sum_val7 {v : Int} (h : M.sumB v = true) : 256 * (v / 256) + v % 256 = v := by omega
theorem pin_back {p : PinD} (h : p.f = 0) : readR (packPL p) = p ∧ readC (packPL p) = 0 := by
  obtain ⟨-, h1, h2, h3, h4⟩ := pin_bounds h
  have e : pinZ (packP p) = p := by
    obtain ⟨n, a, b, e, u⟩ := p
    have en : pinNm (packP ⟨n, a, b, e, u⟩) = n.data.toList := by
      have : (packP ⟨n, a, b, e, u⟩).drop 7 = M.textL n := rfl
      unfold pinNm
      rw [this]
      unfold M.textL
      rw [List.map_map]
      have : n.data.toList.map ((fun z : Int => UInt8.ofNat z.toNat) ∘ fun c : UInt8 => (c.toNat : Int)) = n.data.toList.map id := List.map_congr_left fun c _ => by simp
      rw [this, List.map_id]
    show PinD.mk (M.bs (pinNm (packP ⟨n, a, b, e, u⟩))) (256 * (a / 256) + a % 256) (256 * (b / 256) + b % 256) e (256 * (u / 256) + u % 256) = _
    rw [en, M.bs_data, sum_val7 h1, sum_val7 h2, sum_val7 h4]
  have ok : pinOk (packP p) = true := by
    unfold pinOk
    rw [e, h, packP_length]
    simp
  have ep : packPL p = packP p := by simp [packPL, h]
  rw [ep]
  unfold readR readC
  rw [ok, e]
  exact ⟨rfl, rfl⟩
/-- What holds once a pin was put. -/
structure PutOk (ps : List PinD) (p : PinD) : Prop where
  fp : p.f = 0
  fr : pinsF (putR ps p) = 0
  fc : findC (putR ps p) p.n.data.toList = 0
  ff : findR (putR ps p) p.n.data.toList = p
  old : putC (putR ps p) p = 11
  was : findC ps p.n.data.toList ≠ 0 ∨ (findC ps p.n.data.toList = 0 ∧ (findR ps p.n.data.toList).e < p.e)
theorem put_ok {ps : List PinD} {p : PinD} (h : putC ps p = 0) : PutOk ps p := by
  have h0 : pinsF ps = 0 := by
    by_cases e : pinsF ps = 0
    · exact e
    · exact absurd ((putC_list (p := p) e).1.symm.trans h) e
  have h1 : p.f = 0 := by
    by_cases e : p.f = 0
    · exact e
    · exact absurd ((putC_pin h0 e).1.symm.trans h) e
  obtain ⟨hl, hf, hr⟩ := pinsF_zero h0
  have er : putR ps p = putL ps p := by unfold putR; rw [if_pos h]
  have hmem : p ∈ putL ps p := (putG_perm p ps).mem_iff.2 (by simp)
  have hr2 := putL_rise p hr
  have hf2 : ∀ q ∈ putL ps p, q.f = 0 := fun q hq => by
    rcases putL_mem hq with rfl | hq
    · exact h1
    · exact hf q hq
  have hlen : (putL ps p).length = (Others ps p).length + 1 := by
    exact (putG_perm p ps).length_eq.trans (List.length_cons ..)
  have hl2 : (putL ps p).length ≤ 4 := by
    rw [hlen]
    cases hq : findP ps p.nm with
    | none =>
      have h4 : ps.length ≠ 4 := fun e => by have := (putC_full h0 h1 hq e).1; omega
      rw [others_none hq]
      omega
    | some q =>
      have := others_lt hq
      omega
  have hp2 := pinsF_make hl2 hf2 hr2
  have hfd : findP (putL ps p) p.nm = some p := findP_of hr2 hmem
  obtain ⟨hn, hb⟩ := M.normF_zero (pinF_zero h1).1
  have hn' : M.nameF p.n.data.toList = 0 := hn
  have hb' : M.nrm p.n.data.toList = p.nm := hb
  refine ⟨h1, by rw [er]; exact hp2, ?_, ?_, ?_, ?_⟩
  · unfold findC
    rw [er, hp2, hn', hb', hfd]
    simp
  · unfold findR
    rw [er, hp2, hn', hb', hfd]
    simp
  · unfold putC
    rw [er, hp2, h1, hfd]
    simp
  · have ec : findC ps p.n.data.toList = match findP ps p.nm with | some _ => 0 | none => 4 := by
      unfold findC
      rw [h0, hn', hb']
      simp only [ne_eq, not_true_eq_false, if_false]
      cases findP ps p.nm <;> rfl
    have efr : findR ps p.n.data.toList = (findP ps p.nm).getD pin0 := by
      unfold findR
      rw [h0, hn', hb']
      simp
    cases hq : findP ps p.nm with
    | none =>
      rw [hq] at ec
      left
      rw [ec]
      decide
    | some q =>
      rw [hq] at ec efr
      right
      refine ⟨ec, ?_⟩
      rw [efr]
      show q.e < p.e
      have : putC ps p = if q.e ≥ p.e then 11 else 0 := by
        unfold putC
        rw [h0, h1, hq]
        simp
      rw [this] at h
      split at h
      · cases h
      · omega
theorem putR_names7 {ps : List PinD} {p : PinD} (h : ∀ q ∈ ps, q.n.size ≤ maxLen) (hp : p.n.size ≤ maxLen) : ∀ q ∈ putR ps p, q.n.size ≤ maxLen := by
  intro q hq
  unfold putR at hq
  split at hq
  · rcases putL_mem hq with rfl | hq
    · exact hp
    · exact h q hq
  · cases hq
theorem OwnP.len7 {w : World} {B : Nat} {a : Option Addr} {len cap : Nat} {ps : List PinD} (h : OwnP w B (.slice a len cap) ps) : len = ps.length := by
  obtain ⟨a', c', e, -⟩ := h.form
  injection e
theorem pr0 (c : Int) (n : ByteArray) (a b e u : Int) (w : World) : Sem.run Tryz.prog (Instr.field 35 (.agg #[.int .i64 c, .string n, .int .i64 a, .int .i64 b, .int .i64 e, .int .i64 u]) 0) w = .ok (.int .i64 c) w := by kernel_rfl
theorem pr1 (c : Int) (n : ByteArray) (a b e u : Int) (w : World) : Sem.run Tryz.prog (Instr.field 35 (.agg #[.int .i64 c, .string n, .int .i64 a, .int .i64 b, .int .i64 e, .int .i64 u]) 1) w = .ok (.agg #[.string n, .int .i64 a, .int .i64 b, .int .i64 e, .int .i64 u]) w := by kernel_rfl
theorem by7 (c : Int) (a : Option Addr) (n k : Nat) (w : World) : Sem.run Tryz.prog (Instr.field 44 (.agg #[.int .i64 c, .slice a n k]) 1) w = .ok (.slice a n k) w := by kernel_rfl
theorem ps0 (c : Int) (a : Option Addr) (n k : Nat) (w : World) : Sem.run Tryz.prog (Instr.field 30 (.agg #[.int .i64 c, .slice a n k]) 0) w = .ok (.int .i64 c) w := by kernel_rfl
theorem ps1 (c : Int) (a : Option Addr) (n k : Nat) (w : World) : Sem.run Tryz.prog (Instr.field 30 (.agg #[.int .i64 c, .slice a n k]) 1) w = .ok (.slice a n k) w := by kernel_rfl
theorem pin_neq7 (n : ByteArray) (a b e u : Int) (w : World) : (binOp .neq 26 (.agg #[.string n, .int .i64 a, .int .i64 b, .int .i64 e, .int .i64 u]) (.agg #[.string n, .int .i64 a, .int .i64 b, .int .i64 e, .int .i64 u])).run Tryz.prog w = .ok (.bool false) w := by
  have := pin_neq ⟨n, a, b, e, u⟩ ⟨n, a, b, e, u⟩ w
  rw [pinEq_self] at this
  exact this
theorem pin_eql7 (n : ByteArray) (a b e u : Int) (w : World) : (binOp .eql 26 (.agg #[.string n, .int .i64 a, .int .i64 b, .int .i64 e, .int .i64 u]) (.agg #[.string n, .int .i64 a, .int .i64 b, .int .i64 e, .int .i64 u])).run Tryz.prog w = .ok (.bool true) w := by
  have := pin_eql ⟨n, a, b, e, u⟩ ⟨n, a, b, e, u⟩ w
  rw [pinEq_self] at this
  exact this
theorem pin_guard7 (op : BinOp) (x y : Operand) (n : ByteArray) (a b e u : Int) (w : World) : (eqGuard op 26 x y (.agg #[.string n, .int .i64 a, .int .i64 b, .int .i64 e, .int .i64 u]) (.agg #[.string n, .int .i64 a, .int .i64 b, .int .i64 e, .int .i64 u])).run Tryz.prog w = .ok () w := pin_guard op x y ⟨n, a, b, e, u⟩ ⟨n, a, b, e, u⟩ w
end Go.Proofs.YtcnpocppgghejaaGreatDoor
namespace Go.Proofs.YtcnpocppgghejaaGreatDoor
open Go.RowKit
set_option maxRecDepth 100000
set_option linter.unusedVariables false

/-- A slice that holds two bytes does not lie in a block of one. -/
theorem two_else {w : World} {B : Nat} {v : Value} {a : Int} {x : Value} {t : TypeId} {g k : Nat} (h : OwnK .u8 w B v ([] ++ M.two a)) (he : w.heap[g]? = some (.cells #[x] t)) (hk : v.ownBlock = some k) (ek : k = g) : False := by
  subst ek
  rcases h.2 with ⟨rfl, h0⟩ | ⟨g', c, rfl, _, _, _, _, hcell, _⟩
  · simp [Value.ownBlock] at hk
  · simp [Value.ownBlock] at hk
    subst hk
    have := hcell 1 (.int .u8 (a % 256)) (by simp [M.two])
    unfold World.cell? at this
    rw [he] at this
    simp at this
theorem implPackPin_any (p : PinD) (w : World) (hn : p.n.size ≤ maxLen) :
    Calls Tryz.prog 17 #[P5 p] w (BytesRes p.f (packPL p) w) := by
  have b0 := bal (bal (Below.refl _ w) (.cells #[.string p.n, .int .i64 p.a, .int .i64 p.b, .int .i64 p.e, .int .i64 p.u] 26)) (.cells #[.int .i64 0, .slice none 0 0] 44)
  have A1 : At w.heap.size p.vals ((w.alloc (.cells #[.string p.n, .int .i64 p.a, .int .i64 p.b, .int .i64 p.e, .int .i64 p.u] 26)).alloc (.cells #[.int .i64 0, .slice none 0 0] 44)) := (At.new w p.vals 26).alloc _
  have A2 := At.new (w.alloc (.cells #[.string p.n, .int .i64 p.a, .int .i64 p.b, .int .i64 p.e, .int .i64 p.u] 26)) [.int .i64 0, .slice none 0 0] 44
  simp only [World.size_alloc] at A2
  have F := fun w => implPinFault_any p w hn
  by_cases h : p.f = 0
  · have e : packPL p = packP p := by simp [packPL, h]
    rw [e]
    obtain ⟨hn20, ha, hb, ⟨he0, he1⟩, hu⟩ := pin_bounds h
    have he2 : 0 ≤ p.e := by omega
    obtain ⟨i0, hi0, hz0, hz1, hz2⟩ := info_parts u8_info
    have hmk : ∀ W : World, (Instr.makeSlice 22 (.int .i64 0) (.int .i64 (7 + (p.n.size : Int)))).run Tryz.prog W = .ok (.slice (some ⟨W.heap.size, 0, none⟩) 0 (7 + p.n.size)) (W.alloc (.cells (madeCells #[.int .u8 0] (7 + p.n.size)) 5)) := by
      intro W
      have := run_make (P := Tryz.prog) W 22 5 i0 (.int .u8 0) Tryz.underlying22 hi0 hz0 .i64 .i64 0 (7 + p.n.size) (by omega) (by omega) (by rw [hz2]; omega) (by omega)
      simpa [hz1, Value.cells, show (7 + (p.n.size : Int)).toNat = 7 + p.n.size by omega] using this
    simp only [h] at F ⊢
    clear e h
    go_enter Tryz.func17, Tryz.ntmps17
    go_wp2_with fail
    generalize (w.alloc (.cells #[.string p.n, .int .i64 p.a, .int .i64 p.b, .int .i64 p.e, .int .i64 p.u] 26)).alloc (.cells #[.int .i64 0, .slice none 0 0] 44) = W0 at *
    refine (F _).mono ?_
    rintro r V ⟨rfl, h1⟩
    have bV := btr b0 h1
    have AV := A1.on h1
    have AR := A2.on h1
    have ltV := AR.lt (by simp)
    have d0 := AV.cell 0 _ rfl
    have d1 := AV.cell 1 _ rfl
    have d2 := AV.cell 2 _ rfl
    have d3 := AV.cell 3 _ rfl
    have d4 := AV.cell 4 _ rfl
    clear b0 h1 A1 A2 F
    have O1 : OwnK .u8 (V.alloc (.cells (madeCells #[.int .u8 0] (7 + p.n.size)) 5)).drew V.heap.size (.slice (some ⟨V.heap.size, 0, none⟩) 0 (7 + p.n.size)) [] := by
      have := Own.made (size := 1) (B := V.heap.size) V (madeCells #[.int .u8 0] (7 + p.n.size)) 5 (7 + p.n.size) (Nat.le_refl _) (by simp only [maxLen]; omega) (by rw [size_madeCells]; omega)
      simpa [OwnK] using this.drew
    have S0 : Bel V (V.alloc (.cells (madeCells #[.int .u8 0] (7 + p.n.size)) 5)).drew := ⟨(bal (Below.refl _ V) _).drew⟩
    go_wp2_with fail
    refine wp_region_fork (Bel V) (by kernel_rfl) (S0) ?_
    have hst : (Bel V) _ := (S0)
    have inst : Nonempty (Of (Bel V)) := ⟨⟨_, hst⟩⟩
    have u1 := bel_cell d1
    have u2 := bel_cell d2
    have u3 := bel_cell d3
    generalize (V.alloc (.cells (madeCells #[.int .u8 0] (7 + p.n.size)) 5)).drew = V1 at *
    clear S0
    refine any_seg 5 [(0, true), (1, true), (2, true), (4, true), (5, true), (7, true), (8, true), (9, true)] (by kernel_rfl) (fun _ _ d _ _ h => by cases d <;> exact h) ?_
    iterate 8 (refine line_read rfl (by kernel_rfl) (fun K hK => ?_); go_big_quiet_op; refine hK _ ?_; clear hK K)
    refine line_nil ?_
    clear u1 u2 u3 inst
    have hzV1 := hst.out.size
    refine any_fork 3 10 (by kernel_rfl) rfl rfl (by kernel_rfl) (by kernel_rfl) (fun K hK => ?_) (fun K hK => ?_)
    · refine call_any (args := #[.slice (some ⟨V.heap.size, 0, none⟩) 0 (7 + p.n.size), .int .i64 p.a]) rfl (by kernel_rfl) (by kernel_rfl) (appendTwo_any _ p.a V.heap.size [] _ O1 hzV1 ha (by simp)) ?_
      rintro e w3 ⟨v3, rfl, O3, g3⟩
      have b3 : Below V.heap.size V w3 := Own.grown O1 hst.out hzV1 g3
      refine ⟨_, rfl, hK _ _ ⟨b3⟩ ?_⟩
      clear hK K
      simp only [Act.put, List.setIfInBounds_toArray, List.set_cons_zero, List.set_cons_succ]
      have hz3 := b3.size
      clear O1 hst g3 hzV1
      refine any_fork 6 10 (by kernel_rfl) rfl rfl (by kernel_rfl) (by kernel_rfl) (fun K hK => ?_) (fun K hK => ?_)
      · refine call_any (args := #[v3, .int .i64 p.b]) rfl (by kernel_rfl) (by kernel_rfl) (appendTwo_any _ p.b V.heap.size ([] ++ M.two p.a) _ O3 hz3 hb (by simp [M.two])) ?_
        rintro e w6 ⟨v6, rfl, O6, g6⟩
        have b6 : Below V.heap.size V w6 := Own.grown O3 b3 hz3 g6
        refine ⟨_, rfl, hK _ _ ⟨b6⟩ ?_⟩
        clear hK K
        simp only [Act.put, List.setIfInBounds_toArray, List.set_cons_zero, List.set_cons_succ]
        have hz6 := b6.size
        clear O3 b3 hz3 g6
        refine any_rest [(10, false), (11, false), (12, true)] (by kernel_rfl) (fun _ _ d _ _ h => by cases d <;> exact h) ?_
        refine line_alone rfl (by kernel_rfl) (fun K hK => ?_)
        go_big_op
        refine hK _ _ (⟨bal b6 _⟩) ?_
        clear hK K
        have O10 : OwnK .u8 (w6.alloc (.cells #[.int .u8 p.e] 5)) V.heap.size v6 (M.two p.a ++ M.two p.b) := Own.alloc O6 _
        have b10 := bal b6 (.cells #[.int .u8 p.e] 5)
        have hz10 := b10.size
        have hsr := src_new (P := Tryz.prog) w6 [.int .u8 p.e] 1 1 5 22 5 Tryz.underlying22 rfl (ints_oneCell .u8 [p.e])
        refine line_alone rfl (by kernel_rfl) (fun K hK => ?_)
        refine wp_append_src _ (.tmp 22) (.tmp 26) 22 22 rfl V.heap.size 5 i0 (.int .u8 0) 1 1 Tryz.underlying22 hi0 hz0 hz1 hz2 rfl _ 4 ((M.two p.a ++ M.two p.b).map (Value.int .u8)) rfl O10 _ 1 [.int .u8 p.e] rfl hsr (by simp only [maxLen]; omega) (by omega) hz10 (fun v11 w11 hown hgrow hat => ?_)
        have b11 : Below V.heap.size V w11 := Own.grown O10 b10 hz10 hgrow
        have O11 : OwnK .u8 w11 V.heap.size v11 (M.two p.a ++ M.two p.b ++ [p.e]) := by unfold OwnK; simpa [M.two] using hown
        refine hK _ _ ⟨b11⟩ ?_
        clear hK K hown hgrow hat
        simp only [Act.put, List.setIfInBounds_toArray, List.set_cons_zero, List.set_cons_succ]
        clear O10 b10 hz10 hsr O6 b6 hz6
        have inst : Nonempty (Of (Bel V)) := ⟨⟨_, ⟨b11⟩⟩⟩
        iterate 1 (refine line_read rfl (by kernel_rfl) (fun K hK => ?_); go_big_quiet_op; refine hK _ ?_; clear hK K)
        refine line_nil ?_
        have S6 : Hold w w.heap.size p.vals w11.drew := ⟨(btr bV b11).drew, (AV.on b11).on (bdrew _)⟩
        have b11d : Below V.heap.size V w11.drew := b11.drew
        have O11d : OwnK .u8 w11.drew V.heap.size v11 (M.two p.a ++ M.two p.b ++ [p.e]) := O11
        have hz11 : V.heap.size ≤ w11.drew.heap.size := b11.size
        clear inst b11 O11
        go_wp2_with fail
        refine wp_region_line (Hold w w.heap.size p.vals) [(0, true), (1, true), (2, true), (4, true), (5, true), (3, false), (6, false), (7, true), (8, false)] (by kernel_rfl) (by kernel_rfl) (fun _ _ d _ _ h => by cases d <;> exact h) S6 ?_
        have hst := S6
        have inst : Nonempty (Of (Hold w w.heap.size p.vals)) := ⟨⟨_, hst⟩⟩
        have k0 := hold_cell (W := w) (g := w.heap.size) (cs := p.vals) 0 _ rfl
        have k4 := hold_cell (W := w) (g := w.heap.size) (cs := p.vals) 4 _ rfl
        generalize w11.drew = V6 at *
        iterate 5 (refine line_read rfl (by kernel_rfl) (fun K hK => ?_); go_big_quiet_op; refine hK _ ?_; clear hK K)
        clear k0 k4 S6 hst
        refine line_alone rfl (by kernel_rfl) (fun K hK => ?_)
        refine call_any (args := #[v11, .int .i64 p.u]) rfl (by kernel_rfl) (by kernel_rfl) (appendTwo_any _ p.u V.heap.size _ V6 O11d hz11 hu (by simp [M.two])) ?_
        rintro e w12 ⟨v12, rfl, O12, g12⟩
        have b12 : Below V.heap.size V w12 := Own.grown O11d b11d hz11 g12
        refine ⟨_, rfl, hK _ _ ⟨btr bV b12, AV.on b12⟩ ?_⟩
        clear hK K O11d g12 b11d hz11
        simp only [Act.put, List.setIfInBounds_toArray, List.set_cons_zero, List.set_cons_succ]
        have hz12 := b12.size
        have O12' : OwnK .u8 w12 V.heap.size v12 (headP p.a p.b p.e p.u) := O12
        have hsrc := Src.ofString (P := Tryz.prog) w12 (tx := 9) Tryz.underlying9 p.n
        refine line_alone rfl (by kernel_rfl) (fun K hK => ?_)
        refine wp_append_src _ (.tmp 31) (.tmp 33) 22 9 rfl V.heap.size 5 i0 (.int .u8 0) 1 1 Tryz.underlying22 hi0 hz0 hz1 hz2 rfl _ _ _ rfl O12' _ p.n.size _ rfl hsrc (by rw [headP_length]; simp only [maxLen]; omega) (by rw [headP_length]; omega) hz12 (fun v13 w13 hown hgrow hat => ?_)
        have b13 : Below V.heap.size V w13 := O12'.grown b12 hz12 hgrow
        obtain ⟨a13, c13, hv13, -⟩ := Own.form hown
        have O13 : OwnK .u8 w13 V.heap.size v13 (packP p) := by
          unfold OwnK packP
          rw [List.length_append, M.textL_length, List.map_append]
          have e : (M.textL p.n).map (Value.int .u8) = byteCells p.n := by simp [M.textL, byteCells, List.map_map, Function.comp_def]
          rw [e]
          exact hown
        subst hv13
        refine hK _ _ ⟨btr bV b13, AV.on b13⟩ ?_
        clear hK K hown hgrow hat O12 O12' hsrc
        simp only [Act.put, List.setIfInBounds_toArray, List.set_cons_zero, List.set_cons_succ]
        refine line_readv (v := .agg #[.int .i64 0, .slice a13 ((headP p.a p.b p.e p.u).length + p.n.size) c13]) rfl (by kernel_rfl) (fun _ => by kernel_rfl) ?_
        simp only [Act.put, List.setIfInBounds_toArray, List.set_cons_zero, List.set_cons_succ]
        have AR13 := AR.on b13
        have q0 := AR13.cell 0 _ rfl
        have q1 := AR13.cell 1 _ rfl
        have z0 := AR13.free 0 _ rfl
        have z1 := AR13.free 1 _ rfl
        refine line_alone rfl (by kernel_rfl) (fun K hK => ?_)
        go_big_op
        refine hK _ _ ((by (iterate 2 (refine Hold.setB ?_ (by dsimp only; omega) (by dsimp only; omega) _)); exact ⟨btr bV b13, AV.on b13⟩)) ?_
        clear hK K
        refine line_nil ?_
        have HT := Lib.hid (And.intro O13 (btr bV b13))
        clear O13 b13 AR13 inst AV AR
        go_wp2_with fail
        refine bodyPost_ret (v := .agg #[.int .i64 0, .slice a13 ((headP p.a p.b p.e p.u).length + p.n.size) c13]) (by simp [results, Tryz.results17, go_sem, q0, q1]) rfl ?_
        exact ⟨_, _, _, rfl, (by (iterate 2 (refine Own.setCell ?_ (fun g hg => by have := (HT.out.1.lt g hg).1; dsimp only; omega) _)); exact HT.out.1.less (by omega)), (by (iterate 2 (refine bset ?_ (by dsimp only; omega) _)); exact HT.out.2)⟩
      · go_big_op
        have bX := bal b3 (.cells #[.int .u8 p.e] 5)
        have O3X : OwnK .u8 (w3.alloc (.cells #[.int .u8 p.e] 5)) V.heap.size v3 ([] ++ M.two p.a) := Own.alloc O3 _
        have eX : (w3.alloc (.cells #[.int .u8 p.e] 5)).heap[w3.heap.size]? = some (.cells #[.int .u8 p.e] 5) := (MapKept.heap_alloc w3 _).1
        have hlX : w3.heap.size < (w3.alloc (.cells #[.int .u8 p.e] 5)).heap.size := by simp
        have hnX : ∀ k, v3.ownBlock = some k → k ≠ w3.heap.size := fun k hk => by have := (Own.lt O3 k hk).2; omega
        refine hK _ _ ⟨bX⟩ ?_
        clear hK K O3 b3
        generalize w3.alloc (.cells #[.int .u8 p.e] 5) = X at *
        refine any_rest [(6, false), (11, false), (12, true)] (by kernel_rfl) (fun _ _ d _ _ h => by cases d <;> exact h) ?_
        have hzX := bX.size
        refine line_alone rfl (by kernel_rfl) (fun K hK => ?_)
        refine call_any (args := #[v3, .int .i64 p.b]) rfl (by kernel_rfl) (by kernel_rfl) (appendTwo_any _ p.b V.heap.size ([] ++ M.two p.a) _ O3X hzX hb (by simp [M.two])) ?_
        rintro e w6 ⟨v6, rfl, O6, g6⟩
        have b6 : Below V.heap.size V w6 := Own.grown O3X bX hzX g6
        refine ⟨_, rfl, hK _ _ ⟨b6⟩ ?_⟩
        clear hK K
        simp only [Act.put, List.setIfInBounds_toArray, List.set_cons_zero, List.set_cons_succ]
        have e6 := (g6.block w3.heap.size hlX (fun e => hnX _ e.symm rfl)).trans eX
        have hz6 := b6.size
        have O10 : OwnK .u8 w6 V.heap.size v6 (M.two p.a ++ M.two p.b) := O6
        have hsr := src_at (P := Tryz.prog) w3.heap.size [.int .u8 p.e] 1 1 5 22 5 Tryz.underlying22 rfl (ints_oneCell .u8 [p.e]) e6
        clear O3X bX eX hlX hnX hzX g6 e6
        refine line_alone rfl (by kernel_rfl) (fun K hK => ?_)
        refine wp_append_src _ (.tmp 22) (.tmp 26) 22 22 rfl V.heap.size 5 i0 (.int .u8 0) 1 1 Tryz.underlying22 hi0 hz0 hz1 hz2 rfl _ 4 ((M.two p.a ++ M.two p.b).map (Value.int .u8)) rfl O10 _ 1 [.int .u8 p.e] rfl hsr (by simp only [maxLen]; omega) (by omega) hz6 (fun v11 w11 hown hgrow hat => ?_)
        have b11 : Below V.heap.size V w11 := Own.grown O10 b6 hz6 hgrow
        have O11 : OwnK .u8 w11 V.heap.size v11 (M.two p.a ++ M.two p.b ++ [p.e]) := by unfold OwnK; simpa [M.two] using hown
        refine hK _ _ ⟨b11⟩ ?_
        clear hK K hown hgrow hat
        simp only [Act.put, List.setIfInBounds_toArray, List.set_cons_zero, List.set_cons_succ]
        clear O10 O6 b6 hz6 hsr
        have inst : Nonempty (Of (Bel V)) := ⟨⟨_, ⟨b11⟩⟩⟩
        iterate 1 (refine line_read rfl (by kernel_rfl) (fun K hK => ?_); go_big_quiet_op; refine hK _ ?_; clear hK K)
        refine line_nil ?_
        have S6 : Hold w w.heap.size p.vals w11.drew := ⟨(btr bV b11).drew, (AV.on b11).on (bdrew _)⟩
        have b11d : Below V.heap.size V w11.drew := b11.drew
        have O11d : OwnK .u8 w11.drew V.heap.size v11 (M.two p.a ++ M.two p.b ++ [p.e]) := O11
        have hz11 : V.heap.size ≤ w11.drew.heap.size := b11.size
        clear inst b11 O11
        go_wp2_with fail
        refine wp_region_line (Hold w w.heap.size p.vals) [(0, true), (1, true), (2, true), (4, true), (5, true), (3, false), (6, false), (7, true), (8, false)] (by kernel_rfl) (by kernel_rfl) (fun _ _ d _ _ h => by cases d <;> exact h) S6 ?_
        have hst := S6
        have inst : Nonempty (Of (Hold w w.heap.size p.vals)) := ⟨⟨_, hst⟩⟩
        have k0 := hold_cell (W := w) (g := w.heap.size) (cs := p.vals) 0 _ rfl
        have k4 := hold_cell (W := w) (g := w.heap.size) (cs := p.vals) 4 _ rfl
        generalize w11.drew = V6 at *
        iterate 5 (refine line_read rfl (by kernel_rfl) (fun K hK => ?_); go_big_quiet_op; refine hK _ ?_; clear hK K)
        clear k0 k4 S6 hst
        refine line_alone rfl (by kernel_rfl) (fun K hK => ?_)
        refine call_any (args := #[v11, .int .i64 p.u]) rfl (by kernel_rfl) (by kernel_rfl) (appendTwo_any _ p.u V.heap.size _ V6 O11d hz11 hu (by simp [M.two])) ?_
        rintro e w12 ⟨v12, rfl, O12, g12⟩
        have b12 : Below V.heap.size V w12 := Own.grown O11d b11d hz11 g12
        refine ⟨_, rfl, hK _ _ ⟨btr bV b12, AV.on b12⟩ ?_⟩
        clear hK K O11d g12 b11d hz11
        simp only [Act.put, List.setIfInBounds_toArray, List.set_cons_zero, List.set_cons_succ]
        have hz12 := b12.size
        have O12' : OwnK .u8 w12 V.heap.size v12 (headP p.a p.b p.e p.u) := O12
        have hsrc := Src.ofString (P := Tryz.prog) w12 (tx := 9) Tryz.underlying9 p.n
        refine line_alone rfl (by kernel_rfl) (fun K hK => ?_)
        refine wp_append_src _ (.tmp 31) (.tmp 33) 22 9 rfl V.heap.size 5 i0 (.int .u8 0) 1 1 Tryz.underlying22 hi0 hz0 hz1 hz2 rfl _ _ _ rfl O12' _ p.n.size _ rfl hsrc (by rw [headP_length]; simp only [maxLen]; omega) (by rw [headP_length]; omega) hz12 (fun v13 w13 hown hgrow hat => ?_)
        have b13 : Below V.heap.size V w13 := O12'.grown b12 hz12 hgrow
        obtain ⟨a13, c13, hv13, -⟩ := Own.form hown
        have O13 : OwnK .u8 w13 V.heap.size v13 (packP p) := by
          unfold OwnK packP
          rw [List.length_append, M.textL_length, List.map_append]
          have e : (M.textL p.n).map (Value.int .u8) = byteCells p.n := by simp [M.textL, byteCells, List.map_map, Function.comp_def]
          rw [e]
          exact hown
        subst hv13
        refine hK _ _ ⟨btr bV b13, AV.on b13⟩ ?_
        clear hK K hown hgrow hat O12 O12' hsrc
        simp only [Act.put, List.setIfInBounds_toArray, List.set_cons_zero, List.set_cons_succ]
        refine line_readv (v := .agg #[.int .i64 0, .slice a13 ((headP p.a p.b p.e p.u).length + p.n.size) c13]) rfl (by kernel_rfl) (fun _ => by kernel_rfl) ?_
        simp only [Act.put, List.setIfInBounds_toArray, List.set_cons_zero, List.set_cons_succ]
        have AR13 := AR.on b13
        have q0 := AR13.cell 0 _ rfl
        have q1 := AR13.cell 1 _ rfl
        have z0 := AR13.free 0 _ rfl
        have z1 := AR13.free 1 _ rfl
        refine line_alone rfl (by kernel_rfl) (fun K hK => ?_)
        go_big_op
        refine hK _ _ ((by (iterate 2 (refine Hold.setB ?_ (by dsimp only; omega) (by dsimp only; omega) _)); exact ⟨btr bV b13, AV.on b13⟩)) ?_
        clear hK K
        refine line_nil ?_
        have HT := Lib.hid (And.intro O13 (btr bV b13))
        clear O13 b13 AR13 inst AV AR
        go_wp2_with fail
        refine bodyPost_ret (v := .agg #[.int .i64 0, .slice a13 ((headP p.a p.b p.e p.u).length + p.n.size) c13]) (by simp [results, Tryz.results17, go_sem, q0, q1]) rfl ?_
        exact ⟨_, _, _, rfl, (by (iterate 2 (refine Own.setCell ?_ (fun g hg => by have := (HT.out.1.lt g hg).1; dsimp only; omega) _)); exact HT.out.1.less (by omega)), (by (iterate 2 (refine bset ?_ (by dsimp only; omega) _)); exact HT.out.2)⟩
    · go_big_op
      have bX := bal hst.out (.cells #[.int .u8 p.e] 5)
      have O1X : OwnK .u8 (V1.alloc (.cells #[.int .u8 p.e] 5)) V.heap.size (.slice (some ⟨V.heap.size, 0, none⟩) 0 (7 + p.n.size)) [] := Own.alloc O1 _
      have eX : (V1.alloc (.cells #[.int .u8 p.e] 5)).heap[V1.heap.size]? = some (.cells #[.int .u8 p.e] 5) := (MapKept.heap_alloc V1 _).1
      have hlX : V1.heap.size < (V1.alloc (.cells #[.int .u8 p.e] 5)).heap.size := by simp
      have hltV := (Own.lt O1 V.heap.size rfl).2
      refine hK _ _ ⟨bX⟩ ?_
      clear hK K O1 hst
      generalize V1.alloc (.cells #[.int .u8 p.e] 5) = X at *
      refine any_rest [(3, false), (6, false), (11, false), (12, true)] (by kernel_rfl) (fun _ _ d _ _ h => by cases d <;> exact h) ?_
      have hzX := bX.size
      refine line_alone rfl (by kernel_rfl) (fun K hK => ?_)
      refine call_any (args := #[.slice (some ⟨V.heap.size, 0, none⟩) 0 (7 + p.n.size), .int .i64 p.a]) rfl (by kernel_rfl) (by kernel_rfl) (appendTwo_any _ p.a V.heap.size [] _ O1X hzX ha (by simp)) ?_
      rintro e w3 ⟨v3, rfl, O3, g3⟩
      have b3 : Below V.heap.size V w3 := Own.grown O1X bX hzX g3
      refine ⟨_, rfl, hK _ _ ⟨b3⟩ ?_⟩
      clear hK K
      simp only [Act.put, List.setIfInBounds_toArray, List.set_cons_zero, List.set_cons_succ]
      have hz3 := b3.size
      have e3 := (g3.block V1.heap.size hlX (fun e => by simp [Value.ownBlock] at e; omega)).trans eX
      have hl3 : V1.heap.size < w3.heap.size := Nat.lt_of_lt_of_le hlX g3.size
      have hn3 : ∀ k, v3.ownBlock = some k → k ≠ V1.heap.size := fun k hk ek => two_else O3 e3 hk ek
      refine line_alone rfl (by kernel_rfl) (fun K hK => ?_)
      refine call_any (args := #[v3, .int .i64 p.b]) rfl (by kernel_rfl) (by kernel_rfl) (appendTwo_any _ p.b V.heap.size ([] ++ M.two p.a) _ O3 hz3 hb (by simp [M.two])) ?_
      rintro e w6 ⟨v6, rfl, O6, g6⟩
      have b6 : Below V.heap.size V w6 := Own.grown O3 b3 hz3 g6
      refine ⟨_, rfl, hK _ _ ⟨b6⟩ ?_⟩
      clear hK K
      simp only [Act.put, List.setIfInBounds_toArray, List.set_cons_zero, List.set_cons_succ]
      have e6 := (g6.block V1.heap.size hl3 (fun e => hn3 _ e.symm rfl)).trans e3
      have hz6 := b6.size
      have O10 : OwnK .u8 w6 V.heap.size v6 (M.two p.a ++ M.two p.b) := O6
      have hsr := src_at (P := Tryz.prog) V1.heap.size [.int .u8 p.e] 1 1 5 22 5 Tryz.underlying22 rfl (ints_oneCell .u8 [p.e]) e6
      clear O1X bX eX hlX hzX g3 g6 e3 e6 hl3 hn3 O3 b3 hz3
      refine line_alone rfl (by kernel_rfl) (fun K hK => ?_)
      refine wp_append_src _ (.tmp 22) (.tmp 26) 22 22 rfl V.heap.size 5 i0 (.int .u8 0) 1 1 Tryz.underlying22 hi0 hz0 hz1 hz2 rfl _ 4 ((M.two p.a ++ M.two p.b).map (Value.int .u8)) rfl O10 _ 1 [.int .u8 p.e] rfl hsr (by simp only [maxLen]; omega) (by omega) hz6 (fun v11 w11 hown hgrow hat => ?_)
      have b11 : Below V.heap.size V w11 := Own.grown O10 b6 hz6 hgrow
      have O11 : OwnK .u8 w11 V.heap.size v11 (M.two p.a ++ M.two p.b ++ [p.e]) := by unfold OwnK; simpa [M.two] using hown
      refine hK _ _ ⟨b11⟩ ?_
      clear hK K hown hgrow hat
      simp only [Act.put, List.setIfInBounds_toArray, List.set_cons_zero, List.set_cons_succ]
      clear O10 O6 b6 hz6 hsr
      have inst : Nonempty (Of (Bel V)) := ⟨⟨_, ⟨b11⟩⟩⟩
      iterate 1 (refine line_read rfl (by kernel_rfl) (fun K hK => ?_); go_big_quiet_op; refine hK _ ?_; clear hK K)
      refine line_nil ?_
      have S6 : Hold w w.heap.size p.vals w11.drew := ⟨(btr bV b11).drew, (AV.on b11).on (bdrew _)⟩
      have b11d : Below V.heap.size V w11.drew := b11.drew
      have O11d : OwnK .u8 w11.drew V.heap.size v11 (M.two p.a ++ M.two p.b ++ [p.e]) := O11
      have hz11 : V.heap.size ≤ w11.drew.heap.size := b11.size
      clear inst b11 O11
      go_wp2_with fail
      refine wp_region_line (Hold w w.heap.size p.vals) [(0, true), (1, true), (2, true), (4, true), (5, true), (3, false), (6, false), (7, true), (8, false)] (by kernel_rfl) (by kernel_rfl) (fun _ _ d _ _ h => by cases d <;> exact h) S6 ?_
      have hst := S6
      have inst : Nonempty (Of (Hold w w.heap.size p.vals)) := ⟨⟨_, hst⟩⟩
      have k0 := hold_cell (W := w) (g := w.heap.size) (cs := p.vals) 0 _ rfl
      have k4 := hold_cell (W := w) (g := w.heap.size) (cs := p.vals) 4 _ rfl
      generalize w11.drew = V6 at *
      iterate 5 (refine line_read rfl (by kernel_rfl) (fun K hK => ?_); go_big_quiet_op; refine hK _ ?_; clear hK K)
      clear k0 k4 S6 hst
      refine line_alone rfl (by kernel_rfl) (fun K hK => ?_)
      refine call_any (args := #[v11, .int .i64 p.u]) rfl (by kernel_rfl) (by kernel_rfl) (appendTwo_any _ p.u V.heap.size _ V6 O11d hz11 hu (by simp [M.two])) ?_
      rintro e w12 ⟨v12, rfl, O12, g12⟩
      have b12 : Below V.heap.size V w12 := Own.grown O11d b11d hz11 g12
      refine ⟨_, rfl, hK _ _ ⟨btr bV b12, AV.on b12⟩ ?_⟩
      clear hK K O11d g12 b11d hz11
      simp only [Act.put, List.setIfInBounds_toArray, List.set_cons_zero, List.set_cons_succ]
      have hz12 := b12.size
      have O12' : OwnK .u8 w12 V.heap.size v12 (headP p.a p.b p.e p.u) := O12
      have hsrc := Src.ofString (P := Tryz.prog) w12 (tx := 9) Tryz.underlying9 p.n
      refine line_alone rfl (by kernel_rfl) (fun K hK => ?_)
      refine wp_append_src _ (.tmp 31) (.tmp 33) 22 9 rfl V.heap.size 5 i0 (.int .u8 0) 1 1 Tryz.underlying22 hi0 hz0 hz1 hz2 rfl _ _ _ rfl O12' _ p.n.size _ rfl hsrc (by rw [headP_length]; simp only [maxLen]; omega) (by rw [headP_length]; omega) hz12 (fun v13 w13 hown hgrow hat => ?_)
      have b13 : Below V.heap.size V w13 := O12'.grown b12 hz12 hgrow
      obtain ⟨a13, c13, hv13, -⟩ := Own.form hown
      have O13 : OwnK .u8 w13 V.heap.size v13 (packP p) := by
        unfold OwnK packP
        rw [List.length_append, M.textL_length, List.map_append]
        have e : (M.textL p.n).map (Value.int .u8) = byteCells p.n := by simp [M.textL, byteCells, List.map_map, Function.comp_def]
        rw [e]
        exact hown
      subst hv13
      refine hK _ _ ⟨btr bV b13, AV.on b13⟩ ?_
      clear hK K hown hgrow hat O12 O12' hsrc
      simp only [Act.put, List.setIfInBounds_toArray, List.set_cons_zero, List.set_cons_succ]
      refine line_readv (v := .agg #[.int .i64 0, .slice a13 ((headP p.a p.b p.e p.u).length + p.n.size) c13]) rfl (by kernel_rfl) (fun _ => by kernel_rfl) ?_
      simp only [Act.put, List.setIfInBounds_toArray, List.set_cons_zero, List.set_cons_succ]
      have AR13 := AR.on b13
      have q0 := AR13.cell 0 _ rfl
      have q1 := AR13.cell 1 _ rfl
      have z0 := AR13.free 0 _ rfl
      have z1 := AR13.free 1 _ rfl
      refine line_alone rfl (by kernel_rfl) (fun K hK => ?_)
      go_big_op
      refine hK _ _ ((by (iterate 2 (refine Hold.setB ?_ (by dsimp only; omega) (by dsimp only; omega) _)); exact ⟨btr bV b13, AV.on b13⟩)) ?_
      clear hK K
      refine line_nil ?_
      have HT := Lib.hid (And.intro O13 (btr bV b13))
      clear O13 b13 AR13 inst AV AR
      go_wp2_with fail
      refine bodyPost_ret (v := .agg #[.int .i64 0, .slice a13 ((headP p.a p.b p.e p.u).length + p.n.size) c13]) (by simp [results, Tryz.results17, go_sem, q0, q1]) rfl ?_
      exact ⟨_, _, _, rfl, (by (iterate 2 (refine Own.setCell ?_ (fun g hg => by have := (HT.out.1.lt g hg).1; dsimp only; omega) _)); exact HT.out.1.less (by omega)), (by (iterate 2 (refine bset ?_ (by dsimp only; omega) _)); exact HT.out.2)⟩
  · have e : packPL p = [] := by simp [packPL, h]
    rw [e]
    generalize p.f = cd at *
    clear e
    go_enter Tryz.func17, Tryz.ntmps17
    go_wp2_with fail
    generalize (w.alloc (.cells #[.string p.n, .int .i64 p.a, .int .i64 p.b, .int .i64 p.e, .int .i64 p.u] 26)).alloc (.cells #[.int .i64 0, .slice none 0 0] 44) = W0 at *
    refine (F _).mono ?_
    rintro r w1 ⟨rfl, b1⟩
    have q0 := (A2.on b1).cell 0 _ rfl
    have q1 := (A2.on b1).cell 1 _ rfl
    have z0 := (A2.on b1).free 0 _ rfl
    have z1 := (A2.on b1).free 1 _ rfl
    have hb := btr b0 b1
    clear A1 A2 b0 b1 F
    go_wp2_with fail
    refine bodyPost_ret (v := .agg #[.int .i64 cd, .slice none 0 0]) (by simp [results, Tryz.results17, go_sem, q0, q1]) rfl ?_
    exact ⟨_, _, _, rfl, Own.nil _ _ _, (by (iterate 2 (refine bset ?_ (by dsimp only; omega) _)); exact hb)⟩
end Go.Proofs.YtcnpocppgghejaaGreatDoor
namespace Go.Proofs.YtcnpocppgghejaaGreatDoor
open Go.RowKit
set_option maxRecDepth 100000
set_option linter.unusedVariables false

def liveB (p : PinD) (t : Int) : Bool := decide (p.f = 0) && timB t && decide (t ≤ p.u)
theorem implIsLive_any (p : PinD) (t : Int) (w : World) (hn : p.n.size ≤ maxLen) :
    Calls Tryz.prog 13 #[P5 p, .int .i64 t] w fun e w' => e = .returned (.bool (liveB p t)) ∧ Below w.heap.size w w' := by
  have b0 := bal (Below.refl _ w) (.cells #[.string p.n, .int .i64 p.a, .int .i64 p.b, .int .i64 p.e, .int .i64 p.u] 26)
  have A0 : At w.heap.size p.vals (w.alloc (.cells #[.string p.n, .int .i64 p.a, .int .i64 p.b, .int .i64 p.e, .int .i64 p.u] 26)) := At.new w p.vals 26
  have F := fun w => implPinFault_any p w hn
  by_cases h0 : p.f = 0
  · rw [h0] at F
    cases ht : timB t
    · rw [show liveB p t = false by simp [liveB, ht]]
      go_enter Tryz.func13, Tryz.ntmps13
      go_wp2_with fail
      generalize w.alloc (.cells #[.string p.n, .int .i64 p.a, .int .i64 p.b, .int .i64 p.e, .int .i64 p.u] 26) = W0 at *
      refine (F _).mono ?_
      rintro r u1 ⟨rfl, b1⟩
      have c4 := (A0.on b1).cell 4 _ rfl
      have B1 := btr b0 b1
      clear A0 b0 b1 F
      go_wp2_with fail
      refine (isTime_any _ _).mono ?_
      rintro r w' ⟨rfl, rfl⟩
      go_wp2_with fail
      go_ret
      exact ⟨rfl, B1⟩
    by_cases hu : t ≤ p.u
    · rw [show liveB p t = true by simp [liveB, h0, ht, hu]]
      go_enter Tryz.func13, Tryz.ntmps13
      go_wp2_with fail
      generalize w.alloc (.cells #[.string p.n, .int .i64 p.a, .int .i64 p.b, .int .i64 p.e, .int .i64 p.u] 26) = W0 at *
      refine (F _).mono ?_
      rintro r u1 ⟨rfl, b1⟩
      have c4 := (A0.on b1).cell 4 _ rfl
      have B1 := btr b0 b1
      clear A0 b0 b1 F
      go_wp2_with fail
      refine (isTime_any _ _).mono ?_
      rintro r w' ⟨rfl, rfl⟩
      go_wp2_with fail
      go_ret
      exact ⟨rfl, B1⟩
    · rw [show liveB p t = false by simp [liveB, hu]]
      go_enter Tryz.func13, Tryz.ntmps13
      go_wp2_with fail
      generalize w.alloc (.cells #[.string p.n, .int .i64 p.a, .int .i64 p.b, .int .i64 p.e, .int .i64 p.u] 26) = W0 at *
      refine (F _).mono ?_
      rintro r u1 ⟨rfl, b1⟩
      have c4 := (A0.on b1).cell 4 _ rfl
      have B1 := btr b0 b1
      clear A0 b0 b1 F
      go_wp2_with fail
      refine (isTime_any _ _).mono ?_
      rintro r w' ⟨rfl, rfl⟩
      go_wp2_with fail
      go_ret
      exact ⟨by simpa using hu, B1⟩
  · rw [show liveB p t = false by simp [liveB, h0]]
    generalize p.f = c at *
    have q0 : (c == 0) = false := by simpa using h0
    go_enter Tryz.func13, Tryz.ntmps13
    go_wp2_with fail
    generalize w.alloc (.cells #[.string p.n, .int .i64 p.a, .int .i64 p.b, .int .i64 p.e, .int .i64 p.u] 26) = W0 at *
    refine (F _).mono ?_
    rintro r u1 ⟨rfl, b1⟩
    have c4 := (A0.on b1).cell 4 _ rfl
    have B1 := btr b0 b1
    clear A0 b0 b1 F
    go_wp2_with fail
    go_ret
    exact ⟨rfl, B1⟩
theorem l7Live_any (g : Nat) (p : PinD) (t : Int) (w : World) (A : At g p.vals w) : Calls Tryz.prog 46 #[.pointer (some ⟨g, 0, none⟩), .int .i64 t] w fun e w' => e = .returned (.bool (decide (t ≤ p.u))) ∧ Below w.heap.size w w' := by
  have c4 := A.cell 4 _ rfl
  go_enter Tryz.func46, Tryz.ntmps46
  go_wp2_with fail
  go_ret
  exact ⟨rfl, Below.refl _ _⟩
theorem specIsLive_any (p : PinD) (t : Int) (w : World) (hn : p.n.size ≤ maxLen) :
    Calls Tryz.prog 14 #[P5 p, .int .i64 t] w fun e w' => e = .returned (.bool (liveB p t)) ∧ Below w.heap.size w w' := by
  have b0 := bal (Below.refl _ w) (.cells #[.string p.n, .int .i64 p.a, .int .i64 p.b, .int .i64 p.e, .int .i64 p.u] 26)
  have A0 : At w.heap.size p.vals (w.alloc (.cells #[.string p.n, .int .i64 p.a, .int .i64 p.b, .int .i64 p.e, .int .i64 p.u] 26)) := At.new w p.vals 26
  have F := fun g w A => l7Fault_any g p w A hn
  by_cases h0 : p.f = 0
  · rw [h0] at F
    cases ht : timB t
    · rw [show liveB p t = false by simp [liveB, ht]]
      go_enter Tryz.func14, Tryz.ntmps14
      go_wp2_with fail
      generalize w.alloc (.cells #[.string p.n, .int .i64 p.a, .int .i64 p.b, .int .i64 p.e, .int .i64 p.u] 26) = W0 at *
      refine (F _ _ A0).mono ?_
      rintro r u1 ⟨rfl, b1⟩
      have A1 := A0.on b1
      have B1 := btr b0 b1
      clear A0 b0 b1 F
      go_wp2_with fail
      refine (l7Time_any _ _).mono ?_
      rintro r w' ⟨rfl, rfl⟩
      go_wp2_with fail
      go_ret
      exact ⟨rfl, B1⟩
    have e : liveB p t = decide (t ≤ p.u) := by simp [liveB, h0, ht]
    rw [e]
    have L := fun g w A => l7Live_any g p t w A
    generalize decide (t ≤ p.u) = c at *
    clear e
    go_enter Tryz.func14, Tryz.ntmps14
    go_wp2_with fail
    generalize w.alloc (.cells #[.string p.n, .int .i64 p.a, .int .i64 p.b, .int .i64 p.e, .int .i64 p.u] 26) = W0 at *
    refine (F _ _ A0).mono ?_
    rintro r u1 ⟨rfl, b1⟩
    have A1 := A0.on b1
    have B1 := btr b0 b1
    clear A0 b0 b1 F
    go_wp2_with fail
    refine (l7Time_any _ _).mono ?_
    rintro r w' ⟨rfl, rfl⟩
    go_wp2_with fail
    refine (L _ _ A1).mono ?_
    rintro r u2 ⟨rfl, b2⟩
    have B2 := btr B1 b2
    go_wp2_with fail
    go_ret
    exact ⟨rfl, B2⟩
  · rw [show liveB p t = false by simp [liveB, h0]]
    generalize p.f = c at *
    have q0 : (c == 0) = false := by simpa using h0
    go_enter Tryz.func14, Tryz.ntmps14
    go_wp2_with fail
    generalize w.alloc (.cells #[.string p.n, .int .i64 p.a, .int .i64 p.b, .int .i64 p.e, .int .i64 p.u] 26) = W0 at *
    refine (F _ _ A0).mono ?_
    rintro r u1 ⟨rfl, b1⟩
    have A1 := A0.on b1
    have B1 := btr b0 b1
    clear A0 b0 b1 F
    go_wp2_with fail
    go_ret
    exact ⟨rfl, B1⟩
end Go.Proofs.YtcnpocppgghejaaGreatDoor
namespace Go.Proofs.YtcnpocppgghejaaGreatDoor
open Go.RowKit
set_option maxRecDepth 100000

/-- A list of numbers that was drawn so far. -/
structure LRel (w0 : World) (a : Option Addr) (len cap : Nat) (zs : List Int) (p b : Nat) (v : Value) (wr : World) : Prop where
  own : ∃ zs', zs'.length ≤ b ∧ OwnK .i64 wr (w0.heap.size + 1) v zs' ∧ ∀ z ∈ zs', (Lit.int .i64 z).wf = true
  draw : Draw w0 a len cap zs p wr
section
variable {w0 : World} {a : Option Addr} {len cap : Nat} {zs : List Int} {p p' b : Nat} {v : Value} {w w' : World}
theorem LRel.only (h : LRel w0 a len cap zs p b v w) (hO : Only w0.heap.size w w') (D : Draw w0 a len cap zs p' w') : LRel w0 a len cap zs p' b v w' := by
  obtain ⟨zs', h1, h2, h3⟩ := h.own
  exact ⟨⟨zs', h1, h2.only hO (by omega), h3⟩, D⟩
theorem LRel.alloc (h : LRel w0 a len cap zs p b v w) (o : Obj) : LRel w0 a len cap zs p b v (w.alloc o) := by
  obtain ⟨zs', h1, h2, h3⟩ := h.own
  exact ⟨⟨zs', h1, h2.alloc o, h3⟩, h.draw.alloc o⟩
theorem LRel.kept (h : LRel w0 a len cap zs p b v w) (hg : w.grownBy w' (some w0.heap.size)) (D : Draw w0 a len cap zs p' w') : LRel w0 a len cap zs p' b v w' := by
  obtain ⟨zs', h1, h2, h3⟩ := h.own
  exact ⟨⟨zs', h1, h2.kept hg (.inr (fun e => by have := (h2.lt _ e).1; omega)), h3⟩, D⟩
end
theorem i64_wf {x : Int} (h0 : -9223372036854775808 ≤ x) (h1 : x ≤ 9223372036854775807) : (Lit.int .i64 x).wf = true := by
  simp [Lit.wf, IntKind.min, IntKind.max, IntKind.signed, IntKind.bits]; omega

theorem rows_info2 : (Tryz.prog.info? 22).map (fun i => (i.zero, i.size, i.bytes)) = some (some (.slice none 0 0), 1, 24) := by kernel_rfl
/-- A list of pieces that was drawn so far. -/
structure GRel (w0 : World) (a : Option Addr) (len cap : Nat) (zs : List Int) (p b : Nat) (v : Value) (wr : World) : Prop where
  own : ∃ rows, rows.length ≤ b ∧ Own2 wr (w0.heap.size + 1) v rows
  draw : Draw w0 a len cap zs p wr
section
variable {w0 : World} {a : Option Addr} {len cap : Nat} {zs : List Int} {p p' b : Nat} {v : Value} {w w' : World}
theorem GRel.only (h : GRel w0 a len cap zs p b v w) (hO : Only w0.heap.size w w') (D : Draw w0 a len cap zs p' w') : GRel w0 a len cap zs p' b v w' := by
  obtain ⟨rows, h1, h2⟩ := h.own
  exact ⟨⟨rows, h1, h2.only hO (by omega)⟩, D⟩
theorem GRel.alloc (h : GRel w0 a len cap zs p b v w) (o : Obj) : GRel w0 a len cap zs p b v (w.alloc o) := by
  obtain ⟨rows, h1, h2⟩ := h.own
  exact ⟨⟨rows, h1, h2.alloc o⟩, h.draw.alloc o⟩
theorem GRel.kept (h : GRel w0 a len cap zs p b v w) (hg : w.grownBy w' (some w0.heap.size)) (D : Draw w0 a len cap zs p' w') : GRel w0 a len cap zs p' b v w' := by
  obtain ⟨rows, h1, h2⟩ := h.own
  exact ⟨⟨rows, h1, h2.kept hg (by omega)⟩, D⟩
end
theorem slice_oneCell (a : Option Addr) (n c : Nat) : ∀ u ∈ [Value.slice a n c], u.oneCell' = true := by
  intro u hu
  simp at hu
  subst hu
  rfl
theorem step_row {w0 w1 w2 wb : World} {a : Option Addr} {len cap : Nat} {zs : List Int} {p b : Nat} {v v' : Value} {rows : List (Value × List Int)} {a' : Option Addr} {n' c' : Nat} {zs' : List Int}
    (h : Own2 w1 (w0.heap.size + 1) v rows) (hb : rows.length ≤ b) (hlt : ∀ k, v.ownBlock = some k → k < wb.heap.size) (hB : w0.heap.size < wb.heap.size) (ho : OwnK .u8 w1 wb.heap.size (.slice a' n' c') zs') (hz : ∀ z ∈ zs', (Lit.int .u8 z).wf = true)
    (hn : Own w2 (w0.heap.size + 1) 1 v' (rows.length + 1) (rows.map (·.1) ++ [.slice a' n' c'])) (hg : w1.grownBy w2 v.ownBlock) (hat : v'.ownBlock = v.ownBlock ∨ v'.ownBlock = some w1.heap.size) (D : Draw w0 a len cap zs p w1) :
    GRel w0 a len cap zs p (b + 1) v' w2 := by
  refine ⟨⟨rows ++ [(.slice a' n' c', zs')], by simp; omega, h.more (ho.less (by omega)) hz (fun k hk e => ?_) hn hg hat⟩, D.grown hg (fun k hk => by have := (h.own.lt k hk).1; omega)⟩
  have h1 := (ho.lt k hk).1
  have h2 := hlt k e
  omega

/-- Two slices of bytes that read alike. -/
theorem lwBytes_any {B : Nat} {a b : Option Addr} {n1 n2 c1 c2 : Nat} {zs : List Int} {w : World} (hR : Row .u8 w B a n1 c1 zs) (hQ : Row .u8 w B b n2 c2 zs) :
    Calls Tryz.prog 16 #[.slice a n1 c1, .slice b n2 c2] w fun r w' => r = .returned (.bool true) ∧ w = w' := by
  have k1 := conv_row hR
  have k2 := conv_row hQ
  clear hR hQ
  generalize strOf zs = S at k1 k2
  go_enter Tryz.func16, Tryz.ntmps16
  go_wp2_with fail
  go_ret
  simp

end Go.Proofs.YtcnpocppgghejaaGreatDoor
namespace Go.Proofs.YtcnpocppgghejaaGreatDoor
open Go.RowKit Go.Extern.Stop Go.Stop Go.Extern

abbrev hdl (t : Nat) : Value := .pointer (some ⟨4, t, none⟩)
abbrev rval (t : Nat) (a : Addr) (f : Int) : Value := .agg #[hdl t, .pointer (some a), .int .u64 f]

theorem rl_method {P : Program} {w : World} {z : Sem Value} {f : TypeId → Addr → Nat → Nat → Sem Value} {v : Value} {t : TypeId} {a : Addr} {k : Nat} (h : (ReflectliteValue.parts v).run P w = .ok (some (t, a, k)) w) :
    (ReflectliteValue.method z f #[v]).run P w = (f t a k (k % 32)).run P w := by
  rw [show ReflectliteValue.method z f #[v] = ReflectliteValue.parts v >>= _ from rfl]
  simp only [Sem.run_bind, h, Result.andThen]
end Go.Proofs.YtcnpocppgghejaaGreatDoor
namespace Go.Proofs.YtcnpocppgghejaaGreatDoor
open Go.ChangeShapes Go.WideShapes Go.ChangeAt Go.RowKit

theorem own : ownKnob Tryz.prog.godebug = none := by kernel_rfl
theorem laidOut : laidOutB Tryz.prog = true := by kernel_rfl

/-- Each named variable is there, and its type can be read. -/
def varsOk (P : Program) (names : List String) : Bool :=
  names.all fun n => match P.globalNamed n with
    | some g => match (P.globals[g]?).map (·.type) with
      | some t => P.readableRec t && decide (t < P.types.size)
      | Option.none => false
    | Option.none => false
theorem vars_keep {H : Type} {enc : TypeId × Value → H} {P : Program} (hl : laidOutB P = true) {W W' : World} (bel : Below W.heap.size W W') : ∀ (names : List String) (gs : List (DataW H)) (q : List MemPlace),
    varsOk P names = true → DataW.TrodVars enc P W (fun _ => true) names gs q → (∀ x ∈ q, x.block < W.heap.size) → DataW.TrodVars enc P W' (fun b => decide (b < W.heap.size)) names gs q
  | [], gs, q, _, h, _ => by
    obtain ⟨rfl, rfl⟩ := trodVars_none h
    exact rfl
  | n :: r, [], q, _, h, _ => by simp [DataW.TrodVars] at h
  | n :: r, d :: ds, q, hok, h, hlt => by
    obtain ⟨g, t, cs, fuel, p, q2, h1, h2, h3, h4, h5, rfl⟩ := h
    simp only [varsOk, List.all_cons, Bool.and_eq_true] at hok
    obtain ⟨ho, hor⟩ := hok
    simp only [h1, h2, Bool.and_eq_true, decide_eq_true_eq] at ho
    have hg : g < W.heap.size := by
      rcases Nat.lt_or_ge g W.heap.size with hlt | hge
      · exact hlt
      · simp [World.var?, h1, Array.getElem?_eq_none hge] at h3
    have hT : DataW.Trod enc P W 0 (fun _ => true) true t (.agg cs) d p := ⟨fuel, h4⟩
    obtain ⟨fuel', h4'⟩ := Below.trod hl ho.1 ho.2 hT bel (fun x hx => hlt x (by simp [hx]))
    exact ⟨g, t, cs, fuel', p, q2, h1, h2, var?_below bel h1 hg h3, h4', vars_keep hl bel r ds q2 hor h5 (fun x hx => hlt x (by simp [hx])), rfl⟩

/-- An array of words that reads as it is listed holds these words, cell for cell. -/
theorem cells_of_words {H : Type} {enc : TypeId × Value → H} {P : Program} {w : World} {base : Nat} {sp : Nat → Bool} {held : Bool} {fuel : Nat} {t e : TypeId} {n : Nat} {cs : List Value} {ss : List (List UInt8)} {p : List MemPlace}
    (ht : P.underlying t = some (.array n e)) (he : P.underlying e = some .string) (hce : P.cellsOf e = 1) (hct : P.cellsOf t = n)
    (h : DataW.trod enc P w base sp held fuel t cs = some (.agg (ss.map fun s => .lit (.string s)), p)) : cs = ss.map fun s => Value.string ⟨s.toArray⟩ := by
  cases fuel with
  | zero => simp [DataW.trod] at h
  | succ fuel =>
    simp only [DataW.trod, ht, hce, hct, Nat.mul_one] at h
    split at h
    · rename_i hl
      obtain ⟨xs, hm, hx⟩ := Option.map_eq_some_iff.1 h
      have hxs : xs.map (·.1) = ss.map fun s => (DataW.lit (.string s) : DataW H) := by
        have := congrArg Prod.fst hx
        simpa using this
      have hxl : xs.length = n := by simpa using Lib.mapM_length hm
      have hzl : ss.length = n := by
        have := congrArg List.length hxs
        simp at this
        omega
      apply List.ext_getElem?
      intro i
      by_cases hi : i < n
      · obtain ⟨b, hb, hf⟩ := Lib.mapM_at hm i i (by simp [hi])
        obtain ⟨s, hc, rfl, _⟩ := DataW.trod_string he hf
        have h1 : cs[i]? = some (.string s) := by
          have := congrArg (·[0]?) hc
          simpa [List.getElem?_take, List.getElem?_drop] using this
        have h2 : (xs.map (·.1))[i]? = some (DataW.lit (.string s.data.toList) : DataW H) := by simp [hb]
        rw [hxs] at h2
        simp only [List.getElem?_map, Option.map_eq_some_iff, DataW.lit.injEq, Lit.string.injEq] at h2
        obtain ⟨z', hz', e'⟩ := h2
        rw [h1]
        simp [hz', e']
      · rw [List.getElem?_eq_none (by omega), List.getElem?_eq_none (by simp; omega)]
    · cases h

theorem cWord : Tryz.prog.cellsOf 9 = 1 := by kernel_rfl
theorem rowErrT : ((List.range 178).filter fun t => Tryz.prog.rowNamed t [101, 114, 114, 111, 114]) = [103] := by kernel_rfl
theorem sizeErrT : Tryz.prog.types.size = 178 := by kernel_rfl
/-- A world for the witness: the settled one, its tables holding what their initialisers lay. -/
noncomputable def laidWorld (os : Os) : World :=
  { World.holding Tryz.prog os ⟨#[], #[], []⟩ with heap := ((World.holding Tryz.prog os ⟨#[], #[], []⟩).heap
    ) }
end Go.Proofs.YtcnpocppgghejaaGreatDoor
namespace Go.Proofs.YtcnpocppgghejaaGreatDoor
open Go.ChangeShapes Go.WideShapes Go.ChangeAt Go.RowKit

/-- Without them. -/
def listN : List (String × DataW Unit) := [("unicode/utf8.acceptRanges", Rows.laid_unicode_utf8_acceptRanges), ("unicode.CaseRanges", Rows.laid_unicode_CaseRanges), ("unicode/utf8.first", Rows.laid_unicode_utf8_first)]

theorem laid_mem {P : Program} {w : World} : ∀ (l : List (String × DataW Unit)) (ps : List MemPlace), DataW.LaidVars P w l ps → ∀ n d, (n, d) ∈ l →
    ∃ g t cs fuel p, P.globalNamed n = some g ∧ (P.globals[g]?).map (·.type) = some t ∧ w.var? P n = some cs ∧ DataW.trod (fun _ => ()) P w 0 (fun _ => true) false fuel t cs.toList = some (d, p)
  | [], _, _, n, d, h => by cases h
  | (n', d') :: r, ps, ⟨g, t, cs, fuel, p, q, h1, h2, h3, h4, h5, _⟩, n, d, h => by
    rcases List.mem_cons.1 h with e | h
    · injection e with e1 e2
      subst e1
      subst e2
      exact ⟨g, t, cs, fuel, p, h1, h2, h3, h4⟩
    · exact laid_mem r q h5 n d h
theorem witness_tabs {H : Type} {enc : TypeId × Value → H} {C : Checked} {os : Os} {f : FuncId} {fn : Func} {s : OpenSpec} {conds : List PathCond} {apart : Bool} {laid : List (String × DataW Unit)} (modest : Bool) (w0 : World) (args : Array Value) (hos : w0.os = os)
    (hsh : (w0.forCall (fun _ _ => 0) ⟨#[], args, []⟩).Shaped C.prog)
    (hok : Input.okWideB C.prog (w0.forCall (fun _ _ => 0) ⟨#[], args, []⟩) f ⟨#[], args, []⟩ = true)
    (hrow : s.preRow enc C.prog fn conds apart laid (w0.forCall (fun _ _ => 0) ⟨#[], args, []⟩).memory args) :
    ∃ (w : World) (tape : Tape) (i : Input), w.os = os ∧ (w.forCall tape i).Shaped C.prog ∧ i.vars = [] ∧ Input.okWide C.prog (w.forCall tape i) .any w.heap.size f i ∧
      s.preRow enc C.prog fn conds apart laid (w.forCall tape i).memory i.args ∧ ({ modest := modest } : Assume).holds C.prog (lone (Frame.enter C.prog f i.args .normal) [] (w.forCall tape i)) :=
  ⟨w0, fun _ _ => 0, ⟨#[], args, []⟩, hos, hsh, (Input.okWide_of_okWideB (base := 0) hok).1, (Input.okWide_of_okWideB hok).2, hrow, by
    simp only [Assume.holds]
    exact ⟨by simp, by simp, fun _ => Modest.zero, by simp, by simp⟩⟩

theorem shapedN (os : Os) (args : Array Value) : ((World.laidAll Tryz.prog os listN).forCall (fun _ _ => 0) ⟨#[], args, []⟩).Shaped Tryz.prog := World.shaped_of_ZipB (by kernel_rfl) (by kernel_rfl)
theorem metN (os : Os) (args : Array Value) : laidMetH Tryz.prog listN ((World.laidAll Tryz.prog os listN).forCall (fun _ _ => 0) ⟨#[], args, []⟩).memory := by
  rw [MakeChecks.laidMetH_plain _ _ _ (by kernel_rfl)]
  exact laidMet_laidAll _ (by kernel_rfl) (by kernel_rfl)

end Go.Proofs.YtcnpocppgghejaaGreatDoor
