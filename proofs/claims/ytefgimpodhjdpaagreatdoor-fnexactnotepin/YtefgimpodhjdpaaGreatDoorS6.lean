/- Texts of this seat that several laws rest on, laid into one. Conditions: as each theorem states. -/
import Derived.Test.YtefgimpodhjdpaaGreatDoorS2
import Derived.Test.YtefgimpodhjdpaaGreatDoorS4
import Derived.Test.YtefgimpodhjdpaaGreatDoorS5
import Derived.Deep.CutRange
namespace Go.Proofs.YtefgimpodhjdpaaGreatDoor
open Go.RowKit
set_option maxRecDepth 100000
set_option linter.unusedVariables false

/-- What putting a pin among any others answers. -/
def put0 (ps : List PinD) (p : PinD) : Int := match findP ps p.nm with
  | some q => if q.e ≥ p.e then 11 else 0
  | none => if 4 ≤ ps.length then 7 else 0
theorem put0_old {ps : List PinD} {p q : PinD} (hq : findP ps p.nm = some q) (h : p.e ≤ q.e) : put0 ps p = 11 := by unfold put0; rw [hq]; simp only; rw [if_pos h]
theorem put0_young {ps : List PinD} {p q : PinD} (hq : findP ps p.nm = some q) (h : ¬ p.e ≤ q.e) : put0 ps p = 0 := by unfold put0; rw [hq]; simp only; rw [if_neg h]
theorem put0_full {ps : List PinD} {p : PinD} (hq : findP ps p.nm = none) (h : 4 ≤ ps.length) : put0 ps p = 7 := by unfold put0; rw [hq]; simp only; rw [if_pos h]
theorem put0_new {ps : List PinD} {p : PinD} (hq : findP ps p.nm = none) (h : ¬ 4 ≤ ps.length) : put0 ps p = 0 := by unfold put0; rw [hq]; simp only; rw [if_neg h]
def put1 (ps : List PinD) (p : PinD) : List PinD := if put0 ps p = 0 then putL ps p else []
/-- Where the model stands behind k pins. -/
structure PutRel (w : World) (ps : List PinD) (p : PinD) (k : Nat) (d : Bool) (v : Value) (out : List PinD) (wr : World) : Prop where
  own : OwnP wr (w.heap.size + 1) v out
  box : At w.heap.size p.vals wr
  bel : Below w.heap.size w wr
  eq : out ++ putG p d (ps.drop k) = putL ps p
  len : out.length ≤ k + 1
  few : d = false → out.length ≤ k
theorem putG_step {ps : List PinD} {k : Nat} (hk : k < ps.length) (p : PinD) (d : Bool) : putG p d (ps.drop k) = (if !d && !nlt (ps[k]?.getD pin0).nm p.nm then [p] else []) ++ (if (ps[k]?.getD pin0).nm = p.nm then [] else [ps[k]?.getD pin0]) ++ putG p (d || !nlt (ps[k]?.getD pin0).nm p.nm) (ps.drop (k + 1)) := by
  have e : ps.drop k = (ps[k]?.getD pin0) :: ps.drop (k + 1) := by
    rw [List.drop_eq_getElem_cons hk, List.getElem?_eq_getElem hk]
    rfl
  rw [e]
  rfl
theorem put_app {w wr w3 : World} {p x : PinD} {v v3 : Value} {out : List PinD} {o : Obj} (hO : OwnP wr (w.heap.size + 1) v out) (hA : At w.heap.size p.vals wr) (hb : Below w.heap.size w wr)
    (hown : Own w3 (w.heap.size + 1) 5 v3 (out.length + 1) (flat out ++ x.vals)) (hg : (wr.alloc o).grownBy w3 v.ownBlock) : OwnP w3 (w.heap.size + 1) v3 (out ++ [x]) ∧ At w.heap.size p.vals w3 ∧ Below w.heap.size w w3 := by
  refine ⟨?_, (hA.alloc o).kept hg (fun e => ?_), (bal hb o).grown hg (bal hb o).size (fun k e => ?_)⟩
  · unfold OwnP
    rw [flat_append, List.length_append]
    simpa [flat] using hown
  · have := (Own.lt hO _ e.symm).1
    omega
  · have := (Own.lt hO k e).1
    omega
def Put0 (ps : List PinD) (p : PinD) (w : World) (e : Ending) (w' : World) : Prop := ∃ a n cap, e = .returned (.tuple #[.slice a n cap, .int .i64 (put0 ps p)]) ∧ OwnP w' w.heap.size (.slice a n cap) (put1 ps p) ∧ Below w.heap.size w w'
set_option maxHeartbeats 8000000 in
theorem l7Put_any (a : Option Addr) (len cap B : Nat) (ps : List PinD) (p : PinD) (w : World) (hR : PRow w B a len cap ps) (hB : B ≤ w.heap.size) (hl : len ≤ 1000) :
    Calls Tryz.prog 124 #[.slice a len cap, P5 p] w (Put0 ps p w) := by
  have hL := Lib.hid hR.length
  have hm := hR.most
  have hfit := hR.fits
  unfold maxLen at hm
  have b0 := bal (Below.refl _ w) (.cells #[.string p.n, .int .i64 p.a, .int .i64 p.b, .int .i64 p.e, .int .i64 p.u] 31)
  have A1 : At w.heap.size p.vals (w.alloc (.cells #[.string p.n, .int .i64 p.a, .int .i64 p.b, .int .i64 p.e, .int .i64 p.u] 31)) := At.new w p.vals 31
  have AT := l7At_any a len cap B ps p.n _ (hR.below (b0.mono hB)) (Nat.le_trans hB b0.size)
  have AS : (findP ps p.nm = none ∧ atI ps p.n.data.toList 0 = -1) ∨ _ := atI_spec ps p.n.data.toList 0
  generalize atI ps p.n.data.toList 0 = t at *
  rcases AS with ⟨hf, rfl⟩ | ⟨k, hk, rfl, hf⟩
  · by_cases h4 : 4 ≤ len
    · have e1 := put0_full hf (by rw [hL.out]; exact h4)
      have e2 : put1 ps p = [] := by unfold put1; rw [e1, if_neg (by decide)]
      have h4' : (4 : Int) ≤ len := by omega
      clear hR
      go_enter Tryz.func124, Tryz.ntmps124
      go_wp2_with fail
      generalize w.alloc (.cells #[.string p.n, .int .i64 p.a, .int .i64 p.b, .int .i64 p.e, .int .i64 p.u] 31) = W0 at *
      refine AT.mono ?_
      rintro r u1 ⟨rfl, b1⟩
      have A1' := A1.on b1
      have B1 := btr b0 b1
      have x0 := A1'.cell 0 _ rfl
      have x1 := A1'.cell 1 _ rfl
      have x2 := A1'.cell 2 _ rfl
      have x3 := A1'.cell 3 _ rfl
      have x4 := A1'.cell 4 _ rfl
      clear A1 b0 b1 AT
      go_wp2_with fail
      refine wp_region_line (Bel u1) [(0, true), (1, true), (2, true), (3, true), (4, true), (5, true), (6, true), (7, true), (8, true), (9, true), (10, true), (11, true)] (by kernel_rfl) (by kernel_rfl) (fun _ _ d _ _ h => by cases d <;> exact h) (Bel.drew u1) ?_
      have hst := Bel.drew u1
      have inst : Nonempty (Of (Bel u1)) := ⟨⟨_, hst⟩⟩
      iterate 3 (refine line_read rfl (by kernel_rfl) (fun K hK => ?_); go_big_quiet_op; refine hK _ ?_; clear hK K)
      iterate 8 (refine line_skip rfl (by kernel_rfl) ?_; simp only [Act.put, List.setIfInBounds_toArray, List.set_cons_zero, List.set_cons_succ])
      iterate 1 (refine line_read rfl (by kernel_rfl) (fun K hK => ?_); go_big_quiet_op; refine hK _ ?_; clear hK K)
      refine line_nil ?_
      have B2 := btr B1 hst.out
      have A2 := A1'.on hst.out
      clear hst inst A1' B1 x0 x1 x2 x3 x4
      have y0 := A2.cell 0 _ rfl
      have y1 := A2.cell 1 _ rfl
      have y2 := A2.cell 2 _ rfl
      have y3 := A2.cell 3 _ rfl
      have y4 := A2.cell 4 _ rfl
      go_wp2_with fail
      refine bodyPost_ret (v := .tuple #[.slice none 0 0, .int .i64 7]) (by simp [results, Tryz.results124, go_sem]) rfl ⟨none, 0, 0, by rw [e1], by rw [e2]; exact OwnP.nil _ _, B2⟩
    · have e1 := put0_new hf (by rw [hL.out]; exact h4)
      have h4' : ¬ (4 : Int) ≤ len := by omega
      have HR := Lib.hid hR
      clear hR
      go_enter Tryz.func124, Tryz.ntmps124
      go_wp2_with fail
      generalize w.alloc (.cells #[.string p.n, .int .i64 p.a, .int .i64 p.b, .int .i64 p.e, .int .i64 p.u] 31) = W0 at *
      refine AT.mono ?_
      rintro r u1 ⟨rfl, b1⟩
      have A1' := A1.on b1
      have B1 := btr b0 b1
      have x0 := A1'.cell 0 _ rfl
      have x1 := A1'.cell 1 _ rfl
      have x2 := A1'.cell 2 _ rfl
      have x3 := A1'.cell 3 _ rfl
      have x4 := A1'.cell 4 _ rfl
      clear A1 b0 b1 AT
      go_wp2_with fail
      refine wp_region_line (Bel u1) [(0, true), (1, true), (2, true), (3, true), (4, true), (5, true), (6, true), (7, true), (8, true), (9, true), (10, true), (11, true)] (by kernel_rfl) (by kernel_rfl) (fun _ _ d _ _ h => by cases d <;> exact h) (Bel.drew u1) ?_
      have hst := Bel.drew u1
      have inst : Nonempty (Of (Bel u1)) := ⟨⟨_, hst⟩⟩
      iterate 3 (refine line_read rfl (by kernel_rfl) (fun K hK => ?_); go_big_quiet_op; refine hK _ ?_; clear hK K)
      iterate 8 (refine line_skip rfl (by kernel_rfl) ?_; simp only [Act.put, List.setIfInBounds_toArray, List.set_cons_zero, List.set_cons_succ])
      iterate 1 (refine line_read rfl (by kernel_rfl) (fun K hK => ?_); go_big_quiet_op; refine hK _ ?_; clear hK K)
      refine line_nil ?_
      have B2 := btr B1 hst.out
      have A2 := A1'.on hst.out
      clear hst inst A1' B1 x0 x1 x2 x3 x4
      have y0 := A2.cell 0 _ rfl
      have y1 := A2.cell 1 _ rfl
      have y2 := A2.cell 2 _ rfl
      have y3 := A2.cell 3 _ rfl
      have y4 := A2.cell 4 _ rfl
      obtain ⟨i0, hi0, hz0, hz1, hz2⟩ := info_parts pin_info
      have lu : w.heap.size < u1.heap.size := A2.lt (by simp [PinD.vals])
      have B2' : Below w.heap.size w (u1.alloc (.cells #[] 31)).drew := bal B2 (.cells #[] 31)
      have T0 : PutRel w ps p 0 false (.slice (some ⟨u1.heap.size, 0, none⟩) 0 0) [] (u1.alloc (.cells #[] 31)).drew :=
        ⟨(Own.made u1 #[] 31 0 (by omega) (by simp) rfl).drew, (A2.alloc (.cells #[] 31)).keep (fun _ => rfl), B2', rfl, by simp, by simp⟩
      clear lu B2'
      go_wp2_with fail
      generalize (u1.alloc (.cells #[] 31)).drew = W1 at *
      clear A2 B2 y0 y1 y2 y3 y4
      go_loopw [7, 8, 9] (fun v dd i wr => ∃ (k : Nat) (d : Bool) (out : List PinD), k ≤ len ∧ i = .int .i64 k ∧ dd = .bool d ∧ PutRel w ps p k d v out wr) (fun _ _ i _ => len - (intOf i).toNat)
      case atStart => exact ⟨0, false, [], Nat.zero_le _, rfl, rfl, T0⟩
      case round =>
        obtain ⟨k, d, out, hk, rfl, rfl, hT⟩ := hrel
        clear T0
        have hbs := hT.bel.size
        have hlo := hT.len
        have hfw := hT.few
        have bsz := hT.box.lt (by simp [PinD.vals])
        obtain ⟨va, vc, hva, -⟩ := hT.own.form
        subst hva
        by_cases hlt : k < len
        · obtain ⟨b, off, hab, hbB, c0, c1, c2, c3, c4⟩ := (HR.out.below (hT.bel.mono hB)).at' hlt
          first | subst hab | (injection hab with hab; injection hab with ea eb; subst ea; subst eb)
          have heq := hT.eq
          rw [putG_step (ps := ps) (k := k) (by rw [hL.out]; exact hlt) p d] at heq
          have Q1 : Op.bytesLess (ps[k]?.getD pin0).n.toList p.n.toList = nlt (ps[k]?.getD pin0).nm p.nm := by rw [ByteArray.toList_eq, ByteArray.toList_eq]; rfl
          have Q2 : ((ps[k]?.getD pin0).n.toList == p.n.toList) = decide ((ps[k]?.getD pin0).nm = p.nm) := text_beq _ _
          generalize hq : ps[k]?.getD pin0 = q at *
          have p0 := hT.box.cell 0 _ rfl
          cases d
          · have hfw := hfw rfl
            cases hn : nlt q.nm p.nm
            · rw [hn] at Q1 heq
              by_cases he : q.nm = p.nm
              · rw [decide_eq_true he] at Q2
                have TE := Lib.hid (show (out ++ [p]) ++ putG p true (ps.drop (k + 1)) = putL ps p by rw [if_pos he] at heq; simpa using heq)
                have TL : (out ++ [p]).length ≤ k + 1 + 1 := by simp; omega
                clear heq he hn
                go_wp2_with fail
                refine wp_region_line (Bel wr) [(0, true), (1, true), (2, true), (3, true), (4, true), (5, true), (6, true), (7, true), (8, true), (9, true), (10, true), (11, true)] (by kernel_rfl) (by kernel_rfl) (fun _ _ d _ _ h => by cases d <;> exact h) (Bel.drew wr) ?_
                have hst := Bel.drew wr
                have inst : Nonempty (Of (Bel wr)) := ⟨⟨_, hst⟩⟩
                have g0 := bel_cell c0
                have g1 := bel_cell p0
                iterate 12 (refine line_read rfl (by kernel_rfl) (fun K hK => ?_); go_big_quiet_op; refine hK _ ?_; clear hK K)
                refine line_nil ?_
                have TO : OwnP wr.drew (w.heap.size + 1) (.slice va out.length vc) out := hT.own
                have TA : At w.heap.size p.vals wr.drew := hT.box.keep (fun _ => rfl)
                have TB := hT.bel.drew
                have ts : w.heap.size < wr.drew.heap.size := bsz
                clear hst inst g0 g1 c0 c1 c2 c3 c4 p0 hT hbs bsz
                generalize wr.drew = v1 at *
                have x0 := TA.cell 0 _ rfl
                have x1 := TA.cell 1 _ rfl
                have x2 := TA.cell 2 _ rfl
                have x3 := TA.cell 3 _ rfl
                have x4 := TA.cell 4 _ rfl
                go_wp2_with (at_builtin; refine wpList_append_src _ rfl (.tmp 52) (.tmp 54) 24 24 rfl (w.heap.size + 1) 31 i0 (P5 pin0) 5 48 Tryz.underlying24 hi0 hz0 hz1 hz2 rfl _ _ _ rfl (Own.alloc TO _) _ 1 p.vals rfl (src_new5 _ p _ _ _ Tryz.underlying24) (by simp only [maxLen]; first | omega | (simp only [List.length_append, List.length_cons, List.length_nil]; omega)) (by first | omega | (simp only [List.length_append, List.length_cons, List.length_nil]; omega)) (by simp; omega) ?_; intro v3 w3 hown hgrow hat)
                obtain ⟨TO', TA', TB'⟩ := put_app TO TA TB hown hgrow
                have ts' : w.heap.size < w3.heap.size := TA'.lt (by simp [PinD.vals])
                clear hown hgrow hat TO TA TB ts x0 x1 x2 x3 x4
                have TO := TO'
                have TA := TA'
                have TB := TB'
                have ts := ts'
                clear TO' TA' TB' ts'
                obtain ⟨b', off', hab', -, m0, m1, m2, m3, m4⟩ := (HR.out.below (TB.mono hB)).at' hlt
                injection hab' with hab'
                injection hab' with ea eb
                subst ea
                subst eb
                rw [hq] at m0 m1 m2 m3 m4
                have y0 := TA.cell 0 _ rfl
                go_wp2_with fail
                refine wp_region_line (Bel w3) [(0, true), (1, true), (2, true), (3, true), (4, true), (5, true), (6, true), (7, true)] (by kernel_rfl) (by kernel_rfl) (fun _ _ d _ _ h => by cases d <;> exact h) (Bel.drew w3) ?_
                have hst := Bel.drew w3
                have inst : Nonempty (Of (Bel w3)) := ⟨⟨_, hst⟩⟩
                have g0 := bel_cell m0
                have g1 := bel_cell y0
                iterate 8 (refine line_read rfl (by kernel_rfl) (fun K hK => ?_); go_big_quiet_op; refine hK _ ?_; clear hK K)
                refine line_nil ?_
                have TO2 : OwnP w3.drew (w.heap.size + 1) _ _ := TO
                have TA2 : At w.heap.size p.vals w3.drew := TA.keep (fun _ => rfl)
                have TB2 := TB.drew
                have ts2 : w.heap.size < w3.drew.heap.size := ts
                clear hst inst g0 g1 m0 m1 m2 m3 m4 y0 TO TA TB ts
                generalize w3.drew = v2 at *
                go_wp2_with fail
                go_roundw
                case rel => exact ⟨k + 1, true, _, by omega, by go_num, rfl, ⟨TO2, TA2, TB2, TE.out, TL, fun h => by cases h⟩⟩
                case measure => simp [intOf]; omega
              · rw [decide_eq_false he] at Q2
                have TE := Lib.hid (show ((out ++ [p]) ++ [q]) ++ putG p true (ps.drop (k + 1)) = putL ps p by rw [if_neg he] at heq; simpa using heq)
                have TL : ((out ++ [p]) ++ [q]).length ≤ k + 1 + 1 := by simp; omega
                clear heq he hn
                go_wp2_with fail
                refine wp_region_line (Bel wr) [(0, true), (1, true), (2, true), (3, true), (4, true), (5, true), (6, true), (7, true), (8, true), (9, true), (10, true), (11, true)] (by kernel_rfl) (by kernel_rfl) (fun _ _ d _ _ h => by cases d <;> exact h) (Bel.drew wr) ?_
                have hst := Bel.drew wr
                have inst : Nonempty (Of (Bel wr)) := ⟨⟨_, hst⟩⟩
                have g0 := bel_cell c0
                have g1 := bel_cell p0
                iterate 12 (refine line_read rfl (by kernel_rfl) (fun K hK => ?_); go_big_quiet_op; refine hK _ ?_; clear hK K)
                refine line_nil ?_
                have TO : OwnP wr.drew (w.heap.size + 1) (.slice va out.length vc) out := hT.own
                have TA : At w.heap.size p.vals wr.drew := hT.box.keep (fun _ => rfl)
                have TB := hT.bel.drew
                have ts : w.heap.size < wr.drew.heap.size := bsz
                clear hst inst g0 g1 c0 c1 c2 c3 c4 p0 hT hbs bsz
                generalize wr.drew = v1 at *
                have x0 := TA.cell 0 _ rfl
                have x1 := TA.cell 1 _ rfl
                have x2 := TA.cell 2 _ rfl
                have x3 := TA.cell 3 _ rfl
                have x4 := TA.cell 4 _ rfl
                go_wp2_with (at_builtin; refine wpList_append_src _ rfl (.tmp 52) (.tmp 54) 24 24 rfl (w.heap.size + 1) 31 i0 (P5 pin0) 5 48 Tryz.underlying24 hi0 hz0 hz1 hz2 rfl _ _ _ rfl (Own.alloc TO _) _ 1 p.vals rfl (src_new5 _ p _ _ _ Tryz.underlying24) (by simp only [maxLen]; first | omega | (simp only [List.length_append, List.length_cons, List.length_nil]; omega)) (by first | omega | (simp only [List.length_append, List.length_cons, List.length_nil]; omega)) (by simp; omega) ?_; intro v3 w3 hown hgrow hat)
                obtain ⟨TO', TA', TB'⟩ := put_app TO TA TB hown hgrow
                have ts' : w.heap.size < w3.heap.size := TA'.lt (by simp [PinD.vals])
                clear hown hgrow hat TO TA TB ts x0 x1 x2 x3 x4
                have TO := TO'
                have TA := TA'
                have TB := TB'
                have ts := ts'
                clear TO' TA' TB' ts'
                obtain ⟨b', off', hab', -, m0, m1, m2, m3, m4⟩ := (HR.out.below (TB.mono hB)).at' hlt
                injection hab' with hab'
                injection hab' with ea eb
                subst ea
                subst eb
                rw [hq] at m0 m1 m2 m3 m4
                have y0 := TA.cell 0 _ rfl
                go_wp2_with fail
                refine wp_region_line (Bel w3) [(0, true), (1, true), (2, true), (3, true), (4, true), (5, true), (6, true), (7, true)] (by kernel_rfl) (by kernel_rfl) (fun _ _ d _ _ h => by cases d <;> exact h) (Bel.drew w3) ?_
                have hst := Bel.drew w3
                have inst : Nonempty (Of (Bel w3)) := ⟨⟨_, hst⟩⟩
                have g0 := bel_cell m0
                have g1 := bel_cell y0
                iterate 8 (refine line_read rfl (by kernel_rfl) (fun K hK => ?_); go_big_quiet_op; refine hK _ ?_; clear hK K)
                refine line_nil ?_
                have TO2 : OwnP w3.drew (w.heap.size + 1) _ _ := TO
                have TA2 : At w.heap.size p.vals w3.drew := TA.keep (fun _ => rfl)
                have TB2 := TB.drew
                have ts2 : w.heap.size < w3.drew.heap.size := ts
                clear hst inst g0 g1 m0 m1 m2 m3 m4 y0 TO TA TB ts
                generalize w3.drew = v2 at *
                obtain ⟨b', off', hab', -, m0, m1, m2, m3, m4⟩ := (HR.out.below (TB2.mono hB)).at' hlt
                injection hab' with hab'
                injection hab' with ea eb
                subst ea
                subst eb
                rw [hq] at m0 m1 m2 m3 m4
                go_wp2_with (at_builtin; refine wpList_append_src _ rfl (.tmp 64) (.tmp 69) 24 24 rfl (w.heap.size + 1) 31 i0 (P5 pin0) 5 48 Tryz.underlying24 hi0 hz0 hz1 hz2 rfl _ _ _ rfl (Own.alloc TO2 _) _ 1 q.vals rfl (src_new5 _ q _ _ _ Tryz.underlying24) (by simp only [maxLen]; first | omega | (simp only [List.length_append, List.length_cons, List.length_nil]; omega)) (by first | omega | (simp only [List.length_append, List.length_cons, List.length_nil]; omega)) (by simp; omega) ?_; intro v3 w3 hown hgrow hat)
                obtain ⟨O3, A3, B3⟩ := put_app TO2 TA2 TB2 hown hgrow
                clear hown hgrow hat TO2 TA2 TB2 m0 m1 m2 m3 m4
                go_wp2_with fail
                go_roundw
                case rel => exact ⟨k + 1, true, _, by omega, by go_num, rfl, ⟨O3, A3, B3, TE.out, TL, fun h => by cases h⟩⟩
                case measure => simp [intOf]; omega
            · rw [hn] at Q1 heq
              have he : ¬ q.nm = p.nm := nlt_ne hn
              rw [decide_eq_false he] at Q2
              have TE := Lib.hid (show (out ++ [q]) ++ putG p false (ps.drop (k + 1)) = putL ps p by rw [if_neg he] at heq; simpa using heq)
              have TL : (out ++ [q]).length ≤ k + 1 + 1 := by simp; omega
              have TF : (out ++ [q]).length ≤ k + 1 := by simp; omega
              clear heq he hn
              go_wp2_with fail
              refine wp_region_line (Bel wr) [(0, true), (1, true), (2, true), (3, true), (4, true), (5, true), (6, true), (7, true), (8, true), (9, true), (10, true), (11, true)] (by kernel_rfl) (by kernel_rfl) (fun _ _ d _ _ h => by cases d <;> exact h) (Bel.drew wr) ?_
              have hst := Bel.drew wr
              have inst : Nonempty (Of (Bel wr)) := ⟨⟨_, hst⟩⟩
              have g0 := bel_cell c0
              have g1 := bel_cell p0
              iterate 12 (refine line_read rfl (by kernel_rfl) (fun K hK => ?_); go_big_quiet_op; refine hK _ ?_; clear hK K)
              refine line_nil ?_
              have TO : OwnP wr.drew (w.heap.size + 1) (.slice va out.length vc) out := hT.own
              have TA : At w.heap.size p.vals wr.drew := hT.box.keep (fun _ => rfl)
              have TB := hT.bel.drew
              have ts : w.heap.size < wr.drew.heap.size := bsz
              clear hst inst g0 g1 c0 c1 c2 c3 c4 p0 hT hbs bsz
              generalize wr.drew = v1 at *
              have x0 := TA.cell 0 _ rfl
              have x1 := TA.cell 1 _ rfl
              have x2 := TA.cell 2 _ rfl
              have x3 := TA.cell 3 _ rfl
              have x4 := TA.cell 4 _ rfl
              obtain ⟨b', off', hab', -, m0, m1, m2, m3, m4⟩ := (HR.out.below (TB.mono hB)).at' hlt
              injection hab' with hab'
              injection hab' with ea eb
              subst ea
              subst eb
              rw [hq] at m0 m1 m2 m3 m4
              have y0 := TA.cell 0 _ rfl
              go_wp2_with fail
              refine wp_region_line (Bel v1) [(0, true), (1, true), (2, true), (3, true), (4, true), (5, true), (6, true), (7, true)] (by kernel_rfl) (by kernel_rfl) (fun _ _ d _ _ h => by cases d <;> exact h) (Bel.drew v1) ?_
              have hst := Bel.drew v1
              have inst : Nonempty (Of (Bel v1)) := ⟨⟨_, hst⟩⟩
              have g0 := bel_cell m0
              have g1 := bel_cell y0
              iterate 8 (refine line_read rfl (by kernel_rfl) (fun K hK => ?_); go_big_quiet_op; refine hK _ ?_; clear hK K)
              refine line_nil ?_
              have TO2 : OwnP v1.drew (w.heap.size + 1) _ _ := TO
              have TA2 : At w.heap.size p.vals v1.drew := TA.keep (fun _ => rfl)
              have TB2 := TB.drew
              have ts2 : w.heap.size < v1.drew.heap.size := ts
              clear hst inst g0 g1 m0 m1 m2 m3 m4 y0 TO TA TB ts
              generalize v1.drew = v2 at *
              obtain ⟨b', off', hab', -, m0, m1, m2, m3, m4⟩ := (HR.out.below (TB2.mono hB)).at' hlt
              injection hab' with hab'
              injection hab' with ea eb
              subst ea
              subst eb
              rw [hq] at m0 m1 m2 m3 m4
              go_wp2_with (at_builtin; refine wpList_append_src _ rfl (.tmp 64) (.tmp 69) 24 24 rfl (w.heap.size + 1) 31 i0 (P5 pin0) 5 48 Tryz.underlying24 hi0 hz0 hz1 hz2 rfl _ _ _ rfl (Own.alloc TO2 _) _ 1 q.vals rfl (src_new5 _ q _ _ _ Tryz.underlying24) (by simp only [maxLen]; first | omega | (simp only [List.length_append, List.length_cons, List.length_nil]; omega)) (by first | omega | (simp only [List.length_append, List.length_cons, List.length_nil]; omega)) (by simp; omega) ?_; intro v3 w3 hown hgrow hat)
              obtain ⟨O3, A3, B3⟩ := put_app TO2 TA2 TB2 hown hgrow
              clear hown hgrow hat TO2 TA2 TB2 m0 m1 m2 m3 m4
              go_wp2_with fail
              go_roundw
              case rel => exact ⟨k + 1, false, _, by omega, by go_num, rfl, ⟨O3, A3, B3, TE.out, TL, fun _ => TF⟩⟩
              case measure => simp [intOf]; omega
          · by_cases he : q.nm = p.nm
            · rw [decide_eq_true he] at Q2
              have TE := Lib.hid (show out ++ putG p true (ps.drop (k + 1)) = putL ps p by rw [if_pos he] at heq; simpa using heq)
              have TL : out.length ≤ k + 1 + 1 := by omega
              clear heq he
              go_wp2_with fail
              refine wp_region_line (Bel wr) [(0, true), (1, true), (2, true), (3, true), (4, true), (5, true), (6, true), (7, true), (8, true), (9, true), (10, true), (11, true)] (by kernel_rfl) (by kernel_rfl) (fun _ _ d _ _ h => by cases d <;> exact h) (Bel.drew wr) ?_
              have hst := Bel.drew wr
              have inst : Nonempty (Of (Bel wr)) := ⟨⟨_, hst⟩⟩
              iterate 3 (refine line_read rfl (by kernel_rfl) (fun K hK => ?_); go_big_quiet_op; refine hK _ ?_; clear hK K)
              iterate 8 (refine line_skip rfl (by kernel_rfl) ?_; simp only [Act.put, List.setIfInBounds_toArray, List.set_cons_zero, List.set_cons_succ])
              iterate 1 (refine line_read rfl (by kernel_rfl) (fun K hK => ?_); go_big_quiet_op; refine hK _ ?_; clear hK K)
              refine line_nil ?_
              have TO : OwnP wr.drew (w.heap.size + 1) (.slice va out.length vc) out := hT.own
              have TA : At w.heap.size p.vals wr.drew := hT.box.keep (fun _ => rfl)
              have TB := hT.bel.drew
              have ts : w.heap.size < wr.drew.heap.size := bsz
              clear hst inst c0 c1 c2 c3 c4 p0 hT hbs bsz
              generalize wr.drew = v1 at *
              obtain ⟨b', off', hab', -, m0, m1, m2, m3, m4⟩ := (HR.out.below (TB.mono hB)).at' hlt
              injection hab' with hab'
              injection hab' with ea eb
              subst ea
              subst eb
              rw [hq] at m0 m1 m2 m3 m4
              have y0 := TA.cell 0 _ rfl
              go_wp2_with fail
              refine wp_region_line (Bel v1) [(0, true), (1, true), (2, true), (3, true), (4, true), (5, true), (6, true), (7, true)] (by kernel_rfl) (by kernel_rfl) (fun _ _ d _ _ h => by cases d <;> exact h) (Bel.drew v1) ?_
              have hst := Bel.drew v1
              have inst : Nonempty (Of (Bel v1)) := ⟨⟨_, hst⟩⟩
              have g0 := bel_cell m0
              have g1 := bel_cell y0
              iterate 8 (refine line_read rfl (by kernel_rfl) (fun K hK => ?_); go_big_quiet_op; refine hK _ ?_; clear hK K)
              refine line_nil ?_
              have TO2 : OwnP v1.drew (w.heap.size + 1) _ _ := TO
              have TA2 : At w.heap.size p.vals v1.drew := TA.keep (fun _ => rfl)
              have TB2 := TB.drew
              have ts2 : w.heap.size < v1.drew.heap.size := ts
              clear hst inst g0 g1 m0 m1 m2 m3 m4 y0 TO TA TB ts
              generalize v1.drew = v2 at *
              go_wp2_with fail
              go_roundw
              case rel => exact ⟨k + 1, true, _, by omega, by go_num, rfl, ⟨TO2, TA2, TB2, TE.out, TL, fun h => by cases h⟩⟩
              case measure => simp [intOf]; omega
            · rw [decide_eq_false he] at Q2
              have TE := Lib.hid (show (out ++ [q]) ++ putG p true (ps.drop (k + 1)) = putL ps p by rw [if_neg he] at heq; simpa using heq)
              have TL : (out ++ [q]).length ≤ k + 1 + 1 := by simp; omega
              clear heq he
              go_wp2_with fail
              refine wp_region_line (Bel wr) [(0, true), (1, true), (2, true), (3, true), (4, true), (5, true), (6, true), (7, true), (8, true), (9, true), (10, true), (11, true)] (by kernel_rfl) (by kernel_rfl) (fun _ _ d _ _ h => by cases d <;> exact h) (Bel.drew wr) ?_
              have hst := Bel.drew wr
              have inst : Nonempty (Of (Bel wr)) := ⟨⟨_, hst⟩⟩
              iterate 3 (refine line_read rfl (by kernel_rfl) (fun K hK => ?_); go_big_quiet_op; refine hK _ ?_; clear hK K)
              iterate 8 (refine line_skip rfl (by kernel_rfl) ?_; simp only [Act.put, List.setIfInBounds_toArray, List.set_cons_zero, List.set_cons_succ])
              iterate 1 (refine line_read rfl (by kernel_rfl) (fun K hK => ?_); go_big_quiet_op; refine hK _ ?_; clear hK K)
              refine line_nil ?_
              have TO : OwnP wr.drew (w.heap.size + 1) (.slice va out.length vc) out := hT.own
              have TA : At w.heap.size p.vals wr.drew := hT.box.keep (fun _ => rfl)
              have TB := hT.bel.drew
              have ts : w.heap.size < wr.drew.heap.size := bsz
              clear hst inst c0 c1 c2 c3 c4 p0 hT hbs bsz
              generalize wr.drew = v1 at *
              obtain ⟨b', off', hab', -, m0, m1, m2, m3, m4⟩ := (HR.out.below (TB.mono hB)).at' hlt
              injection hab' with hab'
              injection hab' with ea eb
              subst ea
              subst eb
              rw [hq] at m0 m1 m2 m3 m4
              have y0 := TA.cell 0 _ rfl
              go_wp2_with fail
              refine wp_region_line (Bel v1) [(0, true), (1, true), (2, true), (3, true), (4, true), (5, true), (6, true), (7, true)] (by kernel_rfl) (by kernel_rfl) (fun _ _ d _ _ h => by cases d <;> exact h) (Bel.drew v1) ?_
              have hst := Bel.drew v1
              have inst : Nonempty (Of (Bel v1)) := ⟨⟨_, hst⟩⟩
              have g0 := bel_cell m0
              have g1 := bel_cell y0
              iterate 8 (refine line_read rfl (by kernel_rfl) (fun K hK => ?_); go_big_quiet_op; refine hK _ ?_; clear hK K)
              refine line_nil ?_
              have TO2 : OwnP v1.drew (w.heap.size + 1) _ _ := TO
              have TA2 : At w.heap.size p.vals v1.drew := TA.keep (fun _ => rfl)
              have TB2 := TB.drew
              have ts2 : w.heap.size < v1.drew.heap.size := ts
              clear hst inst g0 g1 m0 m1 m2 m3 m4 y0 TO TA TB ts
              generalize v1.drew = v2 at *
              obtain ⟨b', off', hab', -, m0, m1, m2, m3, m4⟩ := (HR.out.below (TB2.mono hB)).at' hlt
              injection hab' with hab'
              injection hab' with ea eb
              subst ea
              subst eb
              rw [hq] at m0 m1 m2 m3 m4
              go_wp2_with (at_builtin; refine wpList_append_src _ rfl (.tmp 64) (.tmp 69) 24 24 rfl (w.heap.size + 1) 31 i0 (P5 pin0) 5 48 Tryz.underlying24 hi0 hz0 hz1 hz2 rfl _ _ _ rfl (Own.alloc TO2 _) _ 1 q.vals rfl (src_new5 _ q _ _ _ Tryz.underlying24) (by simp only [maxLen]; first | omega | (simp only [List.length_append, List.length_cons, List.length_nil]; omega)) (by first | omega | (simp only [List.length_append, List.length_cons, List.length_nil]; omega)) (by simp; omega) ?_; intro v3 w3 hown hgrow hat)
              obtain ⟨O3, A3, B3⟩ := put_app TO2 TA2 TB2 hown hgrow
              clear hown hgrow hat TO2 TA2 TB2 m0 m1 m2 m3 m4
              go_wp2_with fail
              go_roundw
              case rel => exact ⟨k + 1, true, _, by omega, by go_num, rfl, ⟨O3, A3, B3, TE.out, TL, fun h => by cases h⟩⟩
              case measure => simp [intOf]; omega
        · obtain rfl : k = len := by omega
          have e : ps.drop k = [] := List.drop_of_length_le (by rw [hL.out]; omega)
          have heq := hT.eq
          rw [e] at heq
          have e2 : put1 ps p = putL ps p := by unfold put1; rw [if_pos e1]
          cases d
          · have hO := hT.own
            have hA := hT.box
            have hb := hT.bel
            have HE := Lib.hid (show out ++ [p] = putL ps p from heq)
            have x0 := hA.cell 0 _ rfl
            have x1 := hA.cell 1 _ rfl
            have x2 := hA.cell 2 _ rfl
            have x3 := hA.cell 3 _ rfl
            have x4 := hA.cell 4 _ rfl
            clear hT heq
            go_wp2_with (at_builtin; refine wpList_append_src _ rfl (.tmp 73) (.tmp 75) 24 24 rfl (w.heap.size + 1) 31 i0 (P5 pin0) 5 48 Tryz.underlying24 hi0 hz0 hz1 hz2 rfl _ _ _ rfl (Own.alloc hO _) _ 1 p.vals rfl (src_new5 _ p _ _ _ Tryz.underlying24) (by simp only [maxLen]; first | omega | (simp only [List.length_append, List.length_cons, List.length_nil]; omega)) (by first | omega | (simp only [List.length_append, List.length_cons, List.length_nil]; omega)) (by simp; omega) ?_; intro v3 w3 hown hgrow hat)
            obtain ⟨O3, A3, B3⟩ := put_app hO hA hb hown hgrow
            obtain ⟨a3, c3, rfl, -⟩ := O3.form
            have H := Lib.hid (And.intro (O3.less (by omega : w.heap.size ≤ w.heap.size + 1)) B3)
            clear hown hgrow hat O3 A3 B3
            go_wp2_with fail
            refine bodyPost_ret (v := .tuple #[.slice a3 (out ++ [p]).length c3, .int .i64 0]) (by simp [results, Tryz.results124, go_sem]) rfl ⟨_, _, _, by rw [e1], by rw [e2, ← HE.out]; exact H.out.1, H.out.2⟩
          · have hO := hT.own
            have hb := hT.bel
            have HE := Lib.hid (show out = putL ps p by simpa [putG] using heq)
            have H := Lib.hid (And.intro (hO.less (by omega : w.heap.size ≤ w.heap.size + 1)) hb)
            clear hT heq hO hb
            go_wp2_with fail
            refine bodyPost_ret (v := .tuple #[.slice va out.length vc, .int .i64 0]) (by simp [results, Tryz.results124, go_sem]) rfl ⟨_, _, _, by rw [e1], by rw [e2, ← HE.out]; exact H.out.1, H.out.2⟩
  · have hkl : k < len := by rw [← hL.out]; exact hk
    have hf' : findP ps p.nm = some (ps[k]?.getD pin0) := hf
    obtain ⟨b, off, ha, -⟩ := hR.at' hkl
    subst ha
    have HR := Lib.hid hR
    have hk0 : ¬ (k : Int) < 0 := by omega
    have hk1 : (0 : Int) ≤ k := by omega
    clear hR hf
    generalize hq0 : ps[k]?.getD pin0 = q0 at *
    have HQ := Lib.hid hq0
    clear hq0
    by_cases he : p.e ≤ q0.e
    · have e1 := put0_old hf' he
      have e2 : put1 ps p = [] := by unfold put1; rw [e1, if_neg (by decide)]
      clear hf'
      go_enter Tryz.func124, Tryz.ntmps124
      go_wp2_with fail
      generalize w.alloc (.cells #[.string p.n, .int .i64 p.a, .int .i64 p.b, .int .i64 p.e, .int .i64 p.u] 31) = W0 at *
      refine AT.mono ?_
      rintro r u1 ⟨rfl, b1⟩
      have A1' := A1.on b1
      have B1 := btr b0 b1
      have x0 := A1'.cell 0 _ rfl
      have x1 := A1'.cell 1 _ rfl
      have x2 := A1'.cell 2 _ rfl
      have x3 := A1'.cell 3 _ rfl
      have x4 := A1'.cell 4 _ rfl
      clear A1 b0 b1 AT
      obtain ⟨b', off', hab', -, c0, c1, c2, c3, c4⟩ := (HR.out.below (B1.mono hB)).at' hkl
      injection hab' with hab'
      injection hab' with ea eb
      subst ea
      subst eb
      rw [HQ.out] at c3
      go_wp2_with fail
      refine wp_region_line (Bel u1) [(0, true), (1, true), (2, true), (3, true), (4, true), (5, true), (6, true), (7, true), (8, true), (9, true), (10, true), (11, true)] (by kernel_rfl) (by kernel_rfl) (fun _ _ d _ _ h => by cases d <;> exact h) (Bel.drew u1) ?_
      have hst := Bel.drew u1
      have inst : Nonempty (Of (Bel u1)) := ⟨⟨_, hst⟩⟩
      have g0 := bel_cell c3
      have g1 := bel_cell x3
      iterate 12 (refine line_read rfl (by kernel_rfl) (fun K hK => ?_); go_big_quiet_op; refine hK _ ?_; clear hK K)
      refine line_nil ?_
      have B2 := btr B1 hst.out
      have A2 := A1'.on hst.out
      clear hst inst A1' B1 x0 x1 x2 x3 x4 c0 c1 c2 c3 c4 g0 g1
      have y0 := A2.cell 0 _ rfl
      have y1 := A2.cell 1 _ rfl
      have y2 := A2.cell 2 _ rfl
      have y3 := A2.cell 3 _ rfl
      have y4 := A2.cell 4 _ rfl
      go_wp2_with fail
      refine bodyPost_ret (v := .tuple #[.slice none 0 0, .int .i64 11]) (by simp [results, Tryz.results124, go_sem]) rfl ⟨none, 0, 0, by rw [e1], by rw [e2]; exact OwnP.nil _ _, B2⟩
    · have e1 := put0_young hf' he
      clear hf'
      go_enter Tryz.func124, Tryz.ntmps124
      go_wp2_with fail
      generalize w.alloc (.cells #[.string p.n, .int .i64 p.a, .int .i64 p.b, .int .i64 p.e, .int .i64 p.u] 31) = W0 at *
      refine AT.mono ?_
      rintro r u1 ⟨rfl, b1⟩
      have A1' := A1.on b1
      have B1 := btr b0 b1
      have x0 := A1'.cell 0 _ rfl
      have x1 := A1'.cell 1 _ rfl
      have x2 := A1'.cell 2 _ rfl
      have x3 := A1'.cell 3 _ rfl
      have x4 := A1'.cell 4 _ rfl
      clear A1 b0 b1 AT
      obtain ⟨b', off', hab', -, c0, c1, c2, c3, c4⟩ := (HR.out.below (B1.mono hB)).at' hkl
      injection hab' with hab'
      injection hab' with ea eb
      subst ea
      subst eb
      rw [HQ.out] at c3
      go_wp2_with fail
      refine wp_region_line (Bel u1) [(0, true), (1, true), (2, true), (3, true), (4, true), (5, true), (6, true), (7, true), (8, true), (9, true), (10, true), (11, true)] (by kernel_rfl) (by kernel_rfl) (fun _ _ d _ _ h => by cases d <;> exact h) (Bel.drew u1) ?_
      have hst := Bel.drew u1
      have inst : Nonempty (Of (Bel u1)) := ⟨⟨_, hst⟩⟩
      have g0 := bel_cell c3
      have g1 := bel_cell x3
      iterate 12 (refine line_read rfl (by kernel_rfl) (fun K hK => ?_); go_big_quiet_op; refine hK _ ?_; clear hK K)
      refine line_nil ?_
      have B2 := btr B1 hst.out
      have A2 := A1'.on hst.out
      clear hst inst A1' B1 x0 x1 x2 x3 x4 c0 c1 c2 c3 c4 g0 g1
      have y0 := A2.cell 0 _ rfl
      have y1 := A2.cell 1 _ rfl
      have y2 := A2.cell 2 _ rfl
      have y3 := A2.cell 3 _ rfl
      have y4 := A2.cell 4 _ rfl
      obtain ⟨i0, hi0, hz0, hz1, hz2⟩ := info_parts pin_info
      have lu : w.heap.size < u1.heap.size := A2.lt (by simp [PinD.vals])
      have B2' : Below w.heap.size w (u1.alloc (.cells #[] 31)).drew := bal B2 (.cells #[] 31)
      have T0 : PutRel w ps p 0 false (.slice (some ⟨u1.heap.size, 0, none⟩) 0 0) [] (u1.alloc (.cells #[] 31)).drew :=
        ⟨(Own.made u1 #[] 31 0 (by omega) (by simp) rfl).drew, (A2.alloc (.cells #[] 31)).keep (fun _ => rfl), B2', rfl, by simp, by simp⟩
      clear lu B2'
      go_wp2_with fail
      generalize (u1.alloc (.cells #[] 31)).drew = W1 at *
      clear A2 B2 y0 y1 y2 y3 y4
      go_loopw [7, 8, 9] (fun v dd i wr => ∃ (k : Nat) (d : Bool) (out : List PinD), k ≤ len ∧ i = .int .i64 k ∧ dd = .bool d ∧ PutRel w ps p k d v out wr) (fun _ _ i _ => len - (intOf i).toNat)
      case atStart => exact ⟨0, false, [], Nat.zero_le _, rfl, rfl, T0⟩
      case round =>
        obtain ⟨k, d, out, hk, rfl, rfl, hT⟩ := hrel
        clear T0
        have hbs := hT.bel.size
        have hlo := hT.len
        have hfw := hT.few
        have bsz := hT.box.lt (by simp [PinD.vals])
        obtain ⟨va, vc, hva, -⟩ := hT.own.form
        subst hva
        by_cases hlt : k < len
        · obtain ⟨b, off, hab, hbB, c0, c1, c2, c3, c4⟩ := (HR.out.below (hT.bel.mono hB)).at' hlt
          first | subst hab | (injection hab with hab; injection hab with ea eb; subst ea; subst eb)
          have heq := hT.eq
          rw [putG_step (ps := ps) (k := k) (by rw [hL.out]; exact hlt) p d] at heq
          have Q1 : Op.bytesLess (ps[k]?.getD pin0).n.toList p.n.toList = nlt (ps[k]?.getD pin0).nm p.nm := by rw [ByteArray.toList_eq, ByteArray.toList_eq]; rfl
          have Q2 : ((ps[k]?.getD pin0).n.toList == p.n.toList) = decide ((ps[k]?.getD pin0).nm = p.nm) := text_beq _ _
          generalize hq : ps[k]?.getD pin0 = q at *
          have p0 := hT.box.cell 0 _ rfl
          cases d
          · have hfw := hfw rfl
            cases hn : nlt q.nm p.nm
            · rw [hn] at Q1 heq
              by_cases he : q.nm = p.nm
              · rw [decide_eq_true he] at Q2
                have TE := Lib.hid (show (out ++ [p]) ++ putG p true (ps.drop (k + 1)) = putL ps p by rw [if_pos he] at heq; simpa using heq)
                have TL : (out ++ [p]).length ≤ k + 1 + 1 := by simp; omega
                clear heq he hn
                go_wp2_with fail
                refine wp_region_line (Bel wr) [(0, true), (1, true), (2, true), (3, true), (4, true), (5, true), (6, true), (7, true), (8, true), (9, true), (10, true), (11, true)] (by kernel_rfl) (by kernel_rfl) (fun _ _ d _ _ h => by cases d <;> exact h) (Bel.drew wr) ?_
                have hst := Bel.drew wr
                have inst : Nonempty (Of (Bel wr)) := ⟨⟨_, hst⟩⟩
                have g0 := bel_cell c0
                have g1 := bel_cell p0
                iterate 12 (refine line_read rfl (by kernel_rfl) (fun K hK => ?_); go_big_quiet_op; refine hK _ ?_; clear hK K)
                refine line_nil ?_
                have TO : OwnP wr.drew (w.heap.size + 1) (.slice va out.length vc) out := hT.own
                have TA : At w.heap.size p.vals wr.drew := hT.box.keep (fun _ => rfl)
                have TB := hT.bel.drew
                have ts : w.heap.size < wr.drew.heap.size := bsz
                clear hst inst g0 g1 c0 c1 c2 c3 c4 p0 hT hbs bsz
                generalize wr.drew = v1 at *
                have x0 := TA.cell 0 _ rfl
                have x1 := TA.cell 1 _ rfl
                have x2 := TA.cell 2 _ rfl
                have x3 := TA.cell 3 _ rfl
                have x4 := TA.cell 4 _ rfl
                go_wp2_with (at_builtin; refine wpList_append_src _ rfl (.tmp 52) (.tmp 54) 24 24 rfl (w.heap.size + 1) 31 i0 (P5 pin0) 5 48 Tryz.underlying24 hi0 hz0 hz1 hz2 rfl _ _ _ rfl (Own.alloc TO _) _ 1 p.vals rfl (src_new5 _ p _ _ _ Tryz.underlying24) (by simp only [maxLen]; first | omega | (simp only [List.length_append, List.length_cons, List.length_nil]; omega)) (by first | omega | (simp only [List.length_append, List.length_cons, List.length_nil]; omega)) (by simp; omega) ?_; intro v3 w3 hown hgrow hat)
                obtain ⟨TO', TA', TB'⟩ := put_app TO TA TB hown hgrow
                have ts' : w.heap.size < w3.heap.size := TA'.lt (by simp [PinD.vals])
                clear hown hgrow hat TO TA TB ts x0 x1 x2 x3 x4
                have TO := TO'
                have TA := TA'
                have TB := TB'
                have ts := ts'
                clear TO' TA' TB' ts'
                obtain ⟨b', off', hab', -, m0, m1, m2, m3, m4⟩ := (HR.out.below (TB.mono hB)).at' hlt
                injection hab' with hab'
                injection hab' with ea eb
                subst ea
                subst eb
                rw [hq] at m0 m1 m2 m3 m4
                have y0 := TA.cell 0 _ rfl
                go_wp2_with fail
                refine wp_region_line (Bel w3) [(0, true), (1, true), (2, true), (3, true), (4, true), (5, true), (6, true), (7, true)] (by kernel_rfl) (by kernel_rfl) (fun _ _ d _ _ h => by cases d <;> exact h) (Bel.drew w3) ?_
                have hst := Bel.drew w3
                have inst : Nonempty (Of (Bel w3)) := ⟨⟨_, hst⟩⟩
                have g0 := bel_cell m0
                have g1 := bel_cell y0
                iterate 8 (refine line_read rfl (by kernel_rfl) (fun K hK => ?_); go_big_quiet_op; refine hK _ ?_; clear hK K)
                refine line_nil ?_
                have TO2 : OwnP w3.drew (w.heap.size + 1) _ _ := TO
                have TA2 : At w.heap.size p.vals w3.drew := TA.keep (fun _ => rfl)
                have TB2 := TB.drew
                have ts2 : w.heap.size < w3.drew.heap.size := ts
                clear hst inst g0 g1 m0 m1 m2 m3 m4 y0 TO TA TB ts
                generalize w3.drew = v2 at *
                go_wp2_with fail
                go_roundw
                case rel => exact ⟨k + 1, true, _, by omega, by go_num, rfl, ⟨TO2, TA2, TB2, TE.out, TL, fun h => by cases h⟩⟩
                case measure => simp [intOf]; omega
              · rw [decide_eq_false he] at Q2
                have TE := Lib.hid (show ((out ++ [p]) ++ [q]) ++ putG p true (ps.drop (k + 1)) = putL ps p by rw [if_neg he] at heq; simpa using heq)
                have TL : ((out ++ [p]) ++ [q]).length ≤ k + 1 + 1 := by simp; omega
                clear heq he hn
                go_wp2_with fail
                refine wp_region_line (Bel wr) [(0, true), (1, true), (2, true), (3, true), (4, true), (5, true), (6, true), (7, true), (8, true), (9, true), (10, true), (11, true)] (by kernel_rfl) (by kernel_rfl) (fun _ _ d _ _ h => by cases d <;> exact h) (Bel.drew wr) ?_
                have hst := Bel.drew wr
                have inst : Nonempty (Of (Bel wr)) := ⟨⟨_, hst⟩⟩
                have g0 := bel_cell c0
                have g1 := bel_cell p0
                iterate 12 (refine line_read rfl (by kernel_rfl) (fun K hK => ?_); go_big_quiet_op; refine hK _ ?_; clear hK K)
                refine line_nil ?_
                have TO : OwnP wr.drew (w.heap.size + 1) (.slice va out.length vc) out := hT.own
                have TA : At w.heap.size p.vals wr.drew := hT.box.keep (fun _ => rfl)
                have TB := hT.bel.drew
                have ts : w.heap.size < wr.drew.heap.size := bsz
                clear hst inst g0 g1 c0 c1 c2 c3 c4 p0 hT hbs bsz
                generalize wr.drew = v1 at *
                have x0 := TA.cell 0 _ rfl
                have x1 := TA.cell 1 _ rfl
                have x2 := TA.cell 2 _ rfl
                have x3 := TA.cell 3 _ rfl
                have x4 := TA.cell 4 _ rfl
                go_wp2_with (at_builtin; refine wpList_append_src _ rfl (.tmp 52) (.tmp 54) 24 24 rfl (w.heap.size + 1) 31 i0 (P5 pin0) 5 48 Tryz.underlying24 hi0 hz0 hz1 hz2 rfl _ _ _ rfl (Own.alloc TO _) _ 1 p.vals rfl (src_new5 _ p _ _ _ Tryz.underlying24) (by simp only [maxLen]; first | omega | (simp only [List.length_append, List.length_cons, List.length_nil]; omega)) (by first | omega | (simp only [List.length_append, List.length_cons, List.length_nil]; omega)) (by simp; omega) ?_; intro v3 w3 hown hgrow hat)
                obtain ⟨TO', TA', TB'⟩ := put_app TO TA TB hown hgrow
                have ts' : w.heap.size < w3.heap.size := TA'.lt (by simp [PinD.vals])
                clear hown hgrow hat TO TA TB ts x0 x1 x2 x3 x4
                have TO := TO'
                have TA := TA'
                have TB := TB'
                have ts := ts'
                clear TO' TA' TB' ts'
                obtain ⟨b', off', hab', -, m0, m1, m2, m3, m4⟩ := (HR.out.below (TB.mono hB)).at' hlt
                injection hab' with hab'
                injection hab' with ea eb
                subst ea
                subst eb
                rw [hq] at m0 m1 m2 m3 m4
                have y0 := TA.cell 0 _ rfl
                go_wp2_with fail
                refine wp_region_line (Bel w3) [(0, true), (1, true), (2, true), (3, true), (4, true), (5, true), (6, true), (7, true)] (by kernel_rfl) (by kernel_rfl) (fun _ _ d _ _ h => by cases d <;> exact h) (Bel.drew w3) ?_
                have hst := Bel.drew w3
                have inst : Nonempty (Of (Bel w3)) := ⟨⟨_, hst⟩⟩
                have g0 := bel_cell m0
                have g1 := bel_cell y0
                iterate 8 (refine line_read rfl (by kernel_rfl) (fun K hK => ?_); go_big_quiet_op; refine hK _ ?_; clear hK K)
                refine line_nil ?_
                have TO2 : OwnP w3.drew (w.heap.size + 1) _ _ := TO
                have TA2 : At w.heap.size p.vals w3.drew := TA.keep (fun _ => rfl)
                have TB2 := TB.drew
                have ts2 : w.heap.size < w3.drew.heap.size := ts
                clear hst inst g0 g1 m0 m1 m2 m3 m4 y0 TO TA TB ts
                generalize w3.drew = v2 at *
                obtain ⟨b', off', hab', -, m0, m1, m2, m3, m4⟩ := (HR.out.below (TB2.mono hB)).at' hlt
                injection hab' with hab'
                injection hab' with ea eb
                subst ea
                subst eb
                rw [hq] at m0 m1 m2 m3 m4
                go_wp2_with (at_builtin; refine wpList_append_src _ rfl (.tmp 64) (.tmp 69) 24 24 rfl (w.heap.size + 1) 31 i0 (P5 pin0) 5 48 Tryz.underlying24 hi0 hz0 hz1 hz2 rfl _ _ _ rfl (Own.alloc TO2 _) _ 1 q.vals rfl (src_new5 _ q _ _ _ Tryz.underlying24) (by simp only [maxLen]; first | omega | (simp only [List.length_append, List.length_cons, List.length_nil]; omega)) (by first | omega | (simp only [List.length_append, List.length_cons, List.length_nil]; omega)) (by simp; omega) ?_; intro v3 w3 hown hgrow hat)
                obtain ⟨O3, A3, B3⟩ := put_app TO2 TA2 TB2 hown hgrow
                clear hown hgrow hat TO2 TA2 TB2 m0 m1 m2 m3 m4
                go_wp2_with fail
                go_roundw
                case rel => exact ⟨k + 1, true, _, by omega, by go_num, rfl, ⟨O3, A3, B3, TE.out, TL, fun h => by cases h⟩⟩
                case measure => simp [intOf]; omega
            · rw [hn] at Q1 heq
              have he : ¬ q.nm = p.nm := nlt_ne hn
              rw [decide_eq_false he] at Q2
              have TE := Lib.hid (show (out ++ [q]) ++ putG p false (ps.drop (k + 1)) = putL ps p by rw [if_neg he] at heq; simpa using heq)
              have TL : (out ++ [q]).length ≤ k + 1 + 1 := by simp; omega
              have TF : (out ++ [q]).length ≤ k + 1 := by simp; omega
              clear heq he hn
              go_wp2_with fail
              refine wp_region_line (Bel wr) [(0, true), (1, true), (2, true), (3, true), (4, true), (5, true), (6, true), (7, true), (8, true), (9, true), (10, true), (11, true)] (by kernel_rfl) (by kernel_rfl) (fun _ _ d _ _ h => by cases d <;> exact h) (Bel.drew wr) ?_
              have hst := Bel.drew wr
              have inst : Nonempty (Of (Bel wr)) := ⟨⟨_, hst⟩⟩
              have g0 := bel_cell c0
              have g1 := bel_cell p0
              iterate 12 (refine line_read rfl (by kernel_rfl) (fun K hK => ?_); go_big_quiet_op; refine hK _ ?_; clear hK K)
              refine line_nil ?_
              have TO : OwnP wr.drew (w.heap.size + 1) (.slice va out.length vc) out := hT.own
              have TA : At w.heap.size p.vals wr.drew := hT.box.keep (fun _ => rfl)
              have TB := hT.bel.drew
              have ts : w.heap.size < wr.drew.heap.size := bsz
              clear hst inst g0 g1 c0 c1 c2 c3 c4 p0 hT hbs bsz
              generalize wr.drew = v1 at *
              have x0 := TA.cell 0 _ rfl
              have x1 := TA.cell 1 _ rfl
              have x2 := TA.cell 2 _ rfl
              have x3 := TA.cell 3 _ rfl
              have x4 := TA.cell 4 _ rfl
              obtain ⟨b', off', hab', -, m0, m1, m2, m3, m4⟩ := (HR.out.below (TB.mono hB)).at' hlt
              injection hab' with hab'
              injection hab' with ea eb
              subst ea
              subst eb
              rw [hq] at m0 m1 m2 m3 m4
              have y0 := TA.cell 0 _ rfl
              go_wp2_with fail
              refine wp_region_line (Bel v1) [(0, true), (1, true), (2, true), (3, true), (4, true), (5, true), (6, true), (7, true)] (by kernel_rfl) (by kernel_rfl) (fun _ _ d _ _ h => by cases d <;> exact h) (Bel.drew v1) ?_
              have hst := Bel.drew v1
              have inst : Nonempty (Of (Bel v1)) := ⟨⟨_, hst⟩⟩
              have g0 := bel_cell m0
              have g1 := bel_cell y0
              iterate 8 (refine line_read rfl (by kernel_rfl) (fun K hK => ?_); go_big_quiet_op; refine hK _ ?_; clear hK K)
              refine line_nil ?_
              have TO2 : OwnP v1.drew (w.heap.size + 1) _ _ := TO
              have TA2 : At w.heap.size p.vals v1.drew := TA.keep (fun _ => rfl)
              have TB2 := TB.drew
              have ts2 : w.heap.size < v1.drew.heap.size := ts
              clear hst inst g0 g1 m0 m1 m2 m3 m4 y0 TO TA TB ts
              generalize v1.drew = v2 at *
              obtain ⟨b', off', hab', -, m0, m1, m2, m3, m4⟩ := (HR.out.below (TB2.mono hB)).at' hlt
              injection hab' with hab'
              injection hab' with ea eb
              subst ea
              subst eb
              rw [hq] at m0 m1 m2 m3 m4
              go_wp2_with (at_builtin; refine wpList_append_src _ rfl (.tmp 64) (.tmp 69) 24 24 rfl (w.heap.size + 1) 31 i0 (P5 pin0) 5 48 Tryz.underlying24 hi0 hz0 hz1 hz2 rfl _ _ _ rfl (Own.alloc TO2 _) _ 1 q.vals rfl (src_new5 _ q _ _ _ Tryz.underlying24) (by simp only [maxLen]; first | omega | (simp only [List.length_append, List.length_cons, List.length_nil]; omega)) (by first | omega | (simp only [List.length_append, List.length_cons, List.length_nil]; omega)) (by simp; omega) ?_; intro v3 w3 hown hgrow hat)
              obtain ⟨O3, A3, B3⟩ := put_app TO2 TA2 TB2 hown hgrow
              clear hown hgrow hat TO2 TA2 TB2 m0 m1 m2 m3 m4
              go_wp2_with fail
              go_roundw
              case rel => exact ⟨k + 1, false, _, by omega, by go_num, rfl, ⟨O3, A3, B3, TE.out, TL, fun _ => TF⟩⟩
              case measure => simp [intOf]; omega
          · by_cases he : q.nm = p.nm
            · rw [decide_eq_true he] at Q2
              have TE := Lib.hid (show out ++ putG p true (ps.drop (k + 1)) = putL ps p by rw [if_pos he] at heq; simpa using heq)
              have TL : out.length ≤ k + 1 + 1 := by omega
              clear heq he
              go_wp2_with fail
              refine wp_region_line (Bel wr) [(0, true), (1, true), (2, true), (3, true), (4, true), (5, true), (6, true), (7, true), (8, true), (9, true), (10, true), (11, true)] (by kernel_rfl) (by kernel_rfl) (fun _ _ d _ _ h => by cases d <;> exact h) (Bel.drew wr) ?_
              have hst := Bel.drew wr
              have inst : Nonempty (Of (Bel wr)) := ⟨⟨_, hst⟩⟩
              iterate 3 (refine line_read rfl (by kernel_rfl) (fun K hK => ?_); go_big_quiet_op; refine hK _ ?_; clear hK K)
              iterate 8 (refine line_skip rfl (by kernel_rfl) ?_; simp only [Act.put, List.setIfInBounds_toArray, List.set_cons_zero, List.set_cons_succ])
              iterate 1 (refine line_read rfl (by kernel_rfl) (fun K hK => ?_); go_big_quiet_op; refine hK _ ?_; clear hK K)
              refine line_nil ?_
              have TO : OwnP wr.drew (w.heap.size + 1) (.slice va out.length vc) out := hT.own
              have TA : At w.heap.size p.vals wr.drew := hT.box.keep (fun _ => rfl)
              have TB := hT.bel.drew
              have ts : w.heap.size < wr.drew.heap.size := bsz
              clear hst inst c0 c1 c2 c3 c4 p0 hT hbs bsz
              generalize wr.drew = v1 at *
              obtain ⟨b', off', hab', -, m0, m1, m2, m3, m4⟩ := (HR.out.below (TB.mono hB)).at' hlt
              injection hab' with hab'
              injection hab' with ea eb
              subst ea
              subst eb
              rw [hq] at m0 m1 m2 m3 m4
              have y0 := TA.cell 0 _ rfl
              go_wp2_with fail
              refine wp_region_line (Bel v1) [(0, true), (1, true), (2, true), (3, true), (4, true), (5, true), (6, true), (7, true)] (by kernel_rfl) (by kernel_rfl) (fun _ _ d _ _ h => by cases d <;> exact h) (Bel.drew v1) ?_
              have hst := Bel.drew v1
              have inst : Nonempty (Of (Bel v1)) := ⟨⟨_, hst⟩⟩
              have g0 := bel_cell m0
              have g1 := bel_cell y0
              iterate 8 (refine line_read rfl (by kernel_rfl) (fun K hK => ?_); go_big_quiet_op; refine hK _ ?_; clear hK K)
              refine line_nil ?_
              have TO2 : OwnP v1.drew (w.heap.size + 1) _ _ := TO
              have TA2 : At w.heap.size p.vals v1.drew := TA.keep (fun _ => rfl)
              have TB2 := TB.drew
              have ts2 : w.heap.size < v1.drew.heap.size := ts
              clear hst inst g0 g1 m0 m1 m2 m3 m4 y0 TO TA TB ts
              generalize v1.drew = v2 at *
              go_wp2_with fail
              go_roundw
              case rel => exact ⟨k + 1, true, _, by omega, by go_num, rfl, ⟨TO2, TA2, TB2, TE.out, TL, fun h => by cases h⟩⟩
              case measure => simp [intOf]; omega
            · rw [decide_eq_false he] at Q2
              have TE := Lib.hid (show (out ++ [q]) ++ putG p true (ps.drop (k + 1)) = putL ps p by rw [if_neg he] at heq; simpa using heq)
              have TL : (out ++ [q]).length ≤ k + 1 + 1 := by simp; omega
              clear heq he
              go_wp2_with fail
              refine wp_region_line (Bel wr) [(0, true), (1, true), (2, true), (3, true), (4, true), (5, true), (6, true), (7, true), (8, true), (9, true), (10, true), (11, true)] (by kernel_rfl) (by kernel_rfl) (fun _ _ d _ _ h => by cases d <;> exact h) (Bel.drew wr) ?_
              have hst := Bel.drew wr
              have inst : Nonempty (Of (Bel wr)) := ⟨⟨_, hst⟩⟩
              iterate 3 (refine line_read rfl (by kernel_rfl) (fun K hK => ?_); go_big_quiet_op; refine hK _ ?_; clear hK K)
              iterate 8 (refine line_skip rfl (by kernel_rfl) ?_; simp only [Act.put, List.setIfInBounds_toArray, List.set_cons_zero, List.set_cons_succ])
              iterate 1 (refine line_read rfl (by kernel_rfl) (fun K hK => ?_); go_big_quiet_op; refine hK _ ?_; clear hK K)
              refine line_nil ?_
              have TO : OwnP wr.drew (w.heap.size + 1) (.slice va out.length vc) out := hT.own
              have TA : At w.heap.size p.vals wr.drew := hT.box.keep (fun _ => rfl)
              have TB := hT.bel.drew
              have ts : w.heap.size < wr.drew.heap.size := bsz
              clear hst inst c0 c1 c2 c3 c4 p0 hT hbs bsz
              generalize wr.drew = v1 at *
              obtain ⟨b', off', hab', -, m0, m1, m2, m3, m4⟩ := (HR.out.below (TB.mono hB)).at' hlt
              injection hab' with hab'
              injection hab' with ea eb
              subst ea
              subst eb
              rw [hq] at m0 m1 m2 m3 m4
              have y0 := TA.cell 0 _ rfl
              go_wp2_with fail
              refine wp_region_line (Bel v1) [(0, true), (1, true), (2, true), (3, true), (4, true), (5, true), (6, true), (7, true)] (by kernel_rfl) (by kernel_rfl) (fun _ _ d _ _ h => by cases d <;> exact h) (Bel.drew v1) ?_
              have hst := Bel.drew v1
              have inst : Nonempty (Of (Bel v1)) := ⟨⟨_, hst⟩⟩
              have g0 := bel_cell m0
              have g1 := bel_cell y0
              iterate 8 (refine line_read rfl (by kernel_rfl) (fun K hK => ?_); go_big_quiet_op; refine hK _ ?_; clear hK K)
              refine line_nil ?_
              have TO2 : OwnP v1.drew (w.heap.size + 1) _ _ := TO
              have TA2 : At w.heap.size p.vals v1.drew := TA.keep (fun _ => rfl)
              have TB2 := TB.drew
              have ts2 : w.heap.size < v1.drew.heap.size := ts
              clear hst inst g0 g1 m0 m1 m2 m3 m4 y0 TO TA TB ts
              generalize v1.drew = v2 at *
              obtain ⟨b', off', hab', -, m0, m1, m2, m3, m4⟩ := (HR.out.below (TB2.mono hB)).at' hlt
              injection hab' with hab'
              injection hab' with ea eb
              subst ea
              subst eb
              rw [hq] at m0 m1 m2 m3 m4
              go_wp2_with (at_builtin; refine wpList_append_src _ rfl (.tmp 64) (.tmp 69) 24 24 rfl (w.heap.size + 1) 31 i0 (P5 pin0) 5 48 Tryz.underlying24 hi0 hz0 hz1 hz2 rfl _ _ _ rfl (Own.alloc TO2 _) _ 1 q.vals rfl (src_new5 _ q _ _ _ Tryz.underlying24) (by simp only [maxLen]; first | omega | (simp only [List.length_append, List.length_cons, List.length_nil]; omega)) (by first | omega | (simp only [List.length_append, List.length_cons, List.length_nil]; omega)) (by simp; omega) ?_; intro v3 w3 hown hgrow hat)
              obtain ⟨O3, A3, B3⟩ := put_app TO2 TA2 TB2 hown hgrow
              clear hown hgrow hat TO2 TA2 TB2 m0 m1 m2 m3 m4
              go_wp2_with fail
              go_roundw
              case rel => exact ⟨k + 1, true, _, by omega, by go_num, rfl, ⟨O3, A3, B3, TE.out, TL, fun h => by cases h⟩⟩
              case measure => simp [intOf]; omega
        · obtain rfl : k = len := by omega
          have e : ps.drop k = [] := List.drop_of_length_le (by rw [hL.out]; omega)
          have heq := hT.eq
          rw [e] at heq
          have e2 : put1 ps p = putL ps p := by unfold put1; rw [if_pos e1]
          cases d
          · have hO := hT.own
            have hA := hT.box
            have hb := hT.bel
            have HE := Lib.hid (show out ++ [p] = putL ps p from heq)
            have x0 := hA.cell 0 _ rfl
            have x1 := hA.cell 1 _ rfl
            have x2 := hA.cell 2 _ rfl
            have x3 := hA.cell 3 _ rfl
            have x4 := hA.cell 4 _ rfl
            clear hT heq
            go_wp2_with (at_builtin; refine wpList_append_src _ rfl (.tmp 73) (.tmp 75) 24 24 rfl (w.heap.size + 1) 31 i0 (P5 pin0) 5 48 Tryz.underlying24 hi0 hz0 hz1 hz2 rfl _ _ _ rfl (Own.alloc hO _) _ 1 p.vals rfl (src_new5 _ p _ _ _ Tryz.underlying24) (by simp only [maxLen]; first | omega | (simp only [List.length_append, List.length_cons, List.length_nil]; omega)) (by first | omega | (simp only [List.length_append, List.length_cons, List.length_nil]; omega)) (by simp; omega) ?_; intro v3 w3 hown hgrow hat)
            obtain ⟨O3, A3, B3⟩ := put_app hO hA hb hown hgrow
            obtain ⟨a3, c3, rfl, -⟩ := O3.form
            have H := Lib.hid (And.intro (O3.less (by omega : w.heap.size ≤ w.heap.size + 1)) B3)
            clear hown hgrow hat O3 A3 B3
            go_wp2_with fail
            refine bodyPost_ret (v := .tuple #[.slice a3 (out ++ [p]).length c3, .int .i64 0]) (by simp [results, Tryz.results124, go_sem]) rfl ⟨_, _, _, by rw [e1], by rw [e2, ← HE.out]; exact H.out.1, H.out.2⟩
          · have hO := hT.own
            have hb := hT.bel
            have HE := Lib.hid (show out = putL ps p by simpa [putG] using heq)
            have H := Lib.hid (And.intro (hO.less (by omega : w.heap.size ≤ w.heap.size + 1)) hb)
            clear hT heq hO hb
            go_wp2_with fail
            refine bodyPost_ret (v := .tuple #[.slice va out.length vc, .int .i64 0]) (by simp [results, Tryz.results124, go_sem]) rfl ⟨_, _, _, by rw [e1], by rw [e2, ← HE.out]; exact H.out.1, H.out.2⟩

theorem put0_code {ps : List PinD} {p : PinD} (h0 : pinsF ps = 0) (h1 : p.f = 0) : putC ps p = put0 ps p ∧ putR ps p = put1 ps p := by
  have hl := (pinsF_zero h0).1
  have e : putC ps p = put0 ps p := by
    cases hf : findP ps p.nm with
    | none =>
      by_cases h4 : ps.length = 4
      · rw [(putC_full h0 h1 hf h4).1, put0_full hf (by omega)]
      · rw [(putC_new h0 h1 hf h4).1, put0_new hf (by omega)]
    | some q =>
      by_cases he : p.e ≤ q.e
      · rw [(putC_old h0 h1 hf he).1, put0_old hf he]
      · rw [(putC_young h0 h1 hf he).1, put0_young hf he]
  exact ⟨e, by unfold putR put1; rw [e]⟩
end Go.Proofs.YtefgimpodhjdpaaGreatDoor
namespace Go.Proofs.YtefgimpodhjdpaaGreatDoor
open Go.RowKit
set_option maxRecDepth 100000
set_option linter.unusedVariables false

/-- The bytes ahead of a supplied key's name. -/
def headT (u m v : Int) : List Int := [u, m] ++ M.two v
theorem headT_length (u m v : Int) : (headT u m v).length = 4 := rfl
def HeadT (V : World) (zs : List Int) (v : Value) (wx : World) : Prop := OwnK .u8 wx V.heap.size v zs ∧ Below V.heap.size V wx
/-- The bytes of a supplied key. -/
def packT (n : ByteArray) (u m v : Int) : List Int := headT u m v ++ M.textL n
def packTL (n : ByteArray) (u m v : Int) : List Int := if M.tlsaF n.data.toList u m v = 0 then packT n u m v else []
theorem tlsa_bounds {n : ByteArray} {u m v : Int} (h : M.tlsaF n.data.toList u m v = 0) : n.size ≤ 20 ∧ 0 ≤ u ∧ u ≤ 3 ∧ 0 ≤ m ∧ m ≤ 1 ∧ M.sumB v = true := by
  obtain ⟨h1, h2, h3⟩ := M.tlsaF_parts h
  have h4 := (M.nameF_zero (M.normF_zero (M.tlsaF_zero h).1).1).1
  have hL : n.data.toList.length = n.size := by simp
  simp only [M.useB, M.matB, decide_eq_true_eq] at h1 h2
  exact ⟨by omega, h1.1, h1.2, h2.1, h2.2, h3⟩
theorem text_src (w : World) (s : ByteArray) (hs : s.size ≤ maxLen) :
    Go.Src Tryz.prog 1 22 (.slice (some ⟨w.heap.size, 0, none⟩) s.size (grownCap w s.size 0 5)) s.size ((M.textL s).map (Value.int .u8)) (w.alloc (textObj w s 5)).drew := by
  have R := Own.row (own_text w s 5 hs) (fun z hz => byte_wf (M.textL_byte s z hz))
  have R2 : Row .u8 (w.alloc (textObj w s 5)).drew (w.alloc (textObj w s 5)).heap.size (some ⟨w.heap.size, 0, none⟩) s.size (grownCap w s.size 0 5) (M.textL s) := R.keep (fun _ _ => rfl)
  exact R2.src Tryz.underlying22

end Go.Proofs.YtefgimpodhjdpaaGreatDoor
namespace Go.Proofs.YtefgimpodhjdpaaGreatDoor
open Go.RowKit
set_option maxRecDepth 100000
set_option linter.unusedVariables false

/-- The name that stands in bytes. -/
def keyNm (zs : List Int) : List UInt8 := (zs.drop 4).map fun z => UInt8.ofNat z.toNat
theorem keyNm_str (zs : List Int) : strOf (zs.drop 4) = M.bs (keyNm zs) := by
  rw [← M.bs_data (strOf _), strOf, strOf_data]
  simp [keyNm]
def keyF (zs : List Int) : Int := M.tlsaF (keyNm zs) (zs.getD 0 0) (zs.getD 1 0) (256 * zs.getD 2 0 + zs.getD 3 0)
def keyOk (zs : List Int) : Bool := decide (4 ≤ zs.length) && decide (keyF zs = 0)
abbrev keyT (zs : List Int) : Value := T5 (if keyOk zs then 0 else 5) (M.bs (if keyOk zs then keyNm zs else [])) (if keyOk zs then zs.getD 0 0 else 0) (if keyOk zs then zs.getD 1 0 else 0) (if keyOk zs then 256 * zs.getD 2 0 + zs.getD 3 0 else 0)
theorem keyT_no {zs : List Int} (h : keyOk zs = false) : keyT zs = T5 5 { data := #[] } 0 0 0 := by simp [keyT, h, M.bs]
theorem keyT_yes {zs : List Int} (h : keyOk zs = true) : keyT zs = T5 0 (M.bs (keyNm zs)) (zs.getD 0 0) (zs.getD 1 0) (256 * zs.getD 2 0 + zs.getD 3 0) := by simp [keyT, h]
theorem keyOk_short {zs : List Int} (h : zs.length < 5) : keyOk zs = false := by
  unfold keyOk
  by_cases h4 : 4 ≤ zs.length
  · have e : keyNm zs = [] := by
      unfold keyNm
      rw [List.drop_of_length_le (by omega)]
      rfl
    have : keyF zs = 5 := by
      unfold keyF
      rw [e]
      have h5 : M.nameF [] = 5 := by decide
      have h6 : M.normF [] = 5 := by rw [M.normF_no (by rw [h5]; omega), h5]
      rw [M.tlsaF_norm (by rw [h6]; omega), h6]
    rw [this]
    simp
  · simp [h4]
/-- A supplied key lies in a block of its own. -/
def KeyAt (V : World) (n : ByteArray) (u m x : Int) (v : Value) (wx : World) : Prop := ∃ g, v = .pointer (some ⟨g, 0, none⟩) ∧ At g (TL4 n u m x) wx ∧ Below V.heap.size V wx ∧ V.heap.size ≤ g

/-- No byte makes no text, wherever it is taken from. -/
theorem conv_none (a a' : Option Addr) (c c' : Nat) (w : World) (hc : c ≤ maxLen) (hc' : c' ≤ maxLen) : (convert 22 9 (.slice a 0 c)).run Tryz.prog w = (convert 22 9 (.slice a' 0 c')).run Tryz.prog w := by
  have hR : ∀ (a : Option Addr) (c : Nat), c ≤ maxLen → Row .u8 w 0 a 0 c [] := fun a c hc => ⟨rfl, (fun _ h => by cases h), Nat.zero_le _, hc, fun h => absurd h (by omega)⟩
  rw [conv_row (hR a c hc), conv_row (hR a' c' hc')]

end Go.Proofs.YtefgimpodhjdpaaGreatDoor
