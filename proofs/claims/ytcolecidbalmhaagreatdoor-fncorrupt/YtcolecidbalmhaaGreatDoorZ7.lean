/- Texts of this seat that several laws rest on, laid into one. Conditions: as each theorem states. -/
import Derived.Test.YtcolecidbalmhaaGreatDoorZ3
import Derived.Test.YtcolecidbalmhaaGreatDoorZ4
import Derived.Test.YtcolecidbalmhaaGreatDoorZ5
import Derived.Test.YtcolecidbalmhaaGreatDoorZ6
namespace Go.Proofs.YtcolecidbalmhaaGreatDoor
open Go.RowKit
set_option maxRecDepth 100000
set_option linter.unusedVariables false

/-- What putting a pin among any others answers. -/
def put0 (ps : List PinD) (p : PinD) : Int := match findP ps p.nm with
  | some q => if q.e ≥ p.e then 11 else 0
  | none => if 4 ≤ ps.length then 7 else 0
theorem put0_old {ps : List PinD} {p q : PinD} (hq : findP ps p.nm = some q) (h : p.e ≤ q.e) : put0 ps p = 11 := by unfold put0; rw [hq]; simp only; rw [if_pos h]
theorem put0_young {ps : List PinD} {p q : PinD} (hq : findP ps p.nm = some q) (h : ¬ p.e ≤ q.e) : put0 ps p = 0 := by unfold put0; rw [hq]; simp only; rw [if_neg h]
theorem put0_full {ps : List PinD} {p : PinD} (hq : findP ps p.nm = none) (h : 4 ≤ ps.length) : put0 ps p = 7 := by unfold put0; rw [hq]; simp only; rw [if_pos h]
theorem put0_new {ps : List PinD} {p : PinD} (hq : findP ps p.nm = none) (h : ¬ 4 ≤ ps.length) : put0 ps p = 0 := by unfold put0; rw [hq]; simp only; rw [if_neg h]
def put1 (ps : List PinD) (p : PinD) : List PinD := if put0 ps p = 0 then putL ps p else []
/-- Where the model stands behind k pins. -/
structure PutRel (w : World) (ps : List PinD) (p : PinD) (k : Nat) (d : Bool) (v : Value) (out : List PinD) (wr : World) : Prop where
  own : OwnP wr (w.heap.size + 1) v out
  box : At w.heap.size p.vals wr
  bel : Below w.heap.size w wr
  eq : out ++ putG p d (ps.drop k) = putL ps p
  len : out.length ≤ k + 1
  few : d = false → out.length ≤ k
theorem putG_step {ps : List PinD} {k : Nat} (hk : k < ps.length) (p : PinD) (d : Bool) : putG p d (ps.drop k) = (if !d && !nlt (ps[k]?.getD pin0).nm p.nm then [p] else []) ++ (if (ps[k]?.getD pin0).nm = p.nm then [] else [ps[k]?.getD pin0]) ++ putG p (d || !nlt (ps[k]?.getD pin0).nm p.nm) (ps.drop (k + 1)) := by
  have e : ps.drop k = (ps[k]?.getD pin0) :: ps.drop (k + 1) := by
    rw [List.drop_eq_getElem_cons hk, List.getElem?_eq_getElem hk]
    rfl
  rw [e]
  rfl
theorem put_app {w wr w3 : World} {p x : PinD} {v v3 : Value} {out : List PinD} {o : Obj} (hO : OwnP wr (w.heap.size + 1) v out) (hA : At w.heap.size p.vals wr) (hb : Below w.heap.size w wr)
    (hown : Own w3 (w.heap.size + 1) 5 v3 (out.length + 1) (flat out ++ x.vals)) (hg : (wr.alloc o).grownBy w3 v.ownBlock) : OwnP w3 (w.heap.size + 1) v3 (out ++ [x]) ∧ At w.heap.size p.vals w3 ∧ Below w.heap.size w w3 := by
  refine ⟨?_, (hA.alloc o).kept hg (fun e => ?_), (bal hb o).grown hg (bal hb o).size (fun k e => ?_)⟩
  · unfold OwnP
    rw [flat_append, List.length_append]
    simpa [flat] using hown
  · have := (Own.lt hO _ e.symm).1
    omega
  · have := (Own.lt hO k e).1
    omega
def Put0 (ps : List PinD) (p : PinD) (w : World) (e : Ending) (w' : World) : Prop := ∃ a n cap, e = .returned (.tuple #[.slice a n cap, .int .i64 (put0 ps p)]) ∧ OwnP w' w.heap.size (.slice a n cap) (put1 ps p) ∧ Below w.heap.size w w'
set_option maxHeartbeats 8000000 in
theorem l7Put_any (a : Option Addr) (len cap B : Nat) (ps : List PinD) (p : PinD) (w : World) (hR : PRow w B a len cap ps) (hB : B ≤ w.heap.size) (hl : len ≤ 1000) :
    Calls Tryz.prog 152 #[.slice a len cap, P5 p] w (Put0 ps p w) := by
  have hL := Lib.hid hR.length
  have hm := hR.most
  have hfit := hR.fits
  unfold maxLen at hm
  have b0 := bal (Below.refl _ w) (.cells #[.string p.n, .int .i64 p.a, .int .i64 p.b, .int .i64 p.e, .int .i64 p.u] 31)
  have A1 : At w.heap.size p.vals (w.alloc (.cells #[.string p.n, .int .i64 p.a, .int .i64 p.b, .int .i64 p.e, .int .i64 p.u] 31)) := At.new w p.vals 31
  have AT := l7At_any a len cap B ps p.n _ (hR.below (b0.mono hB)) (Nat.le_trans hB b0.size)
  have AS : (findP ps p.nm = none ∧ atI ps p.n.data.toList 0 = -1) ∨ _ := atI_spec ps p.n.data.toList 0
  generalize atI ps p.n.data.toList 0 = t at *
  rcases AS with ⟨hf, rfl⟩ | ⟨k, hk, rfl, hf⟩
  · by_cases h4 : 4 ≤ len
    · have e1 := put0_full hf (by rw [hL.out]; exact h4)
      have e2 : put1 ps p = [] := by unfold put1; rw [e1, if_neg (by decide)]
      have h4' : (4 : Int) ≤ len := by omega
      clear hR
      go_enter Tryz.func152, Tryz.ntmps152
      go_wp2_with fail
      generalize w.alloc (.cells #[.string p.n, .int .i64 p.a, .int .i64 p.b, .int .i64 p.e, .int .i64 p.u] 31) = W0 at *
      refine AT.mono ?_
      rintro r u1 ⟨rfl, b1⟩
      have A1' := A1.on b1
      have B1 := btr b0 b1
      have x0 := A1'.cell 0 _ rfl
      have x1 := A1'.cell 1 _ rfl
      have x2 := A1'.cell 2 _ rfl
      have x3 := A1'.cell 3 _ rfl
      have x4 := A1'.cell 4 _ rfl
      clear A1 b0 b1 AT
      go_wp2_with fail
      refine wp_region_line (Bel u1) [(0, true), (1, true), (2, true), (3, true), (4, true), (5, true), (6, true), (7, true), (8, true), (9, true), (10, true), (11, true)] (by kernel_rfl) (by kernel_rfl) (fun _ _ d _ _ h => by cases d <;> exact h) (Bel.drew u1) ?_
      have hst := Bel.drew u1
      have inst : Nonempty (Of (Bel u1)) := ⟨⟨_, hst⟩⟩
      iterate 3 (refine line_read rfl (by kernel_rfl) (fun K hK => ?_); go_big_quiet_op; refine hK _ ?_; clear hK K)
      iterate 8 (refine line_skip rfl (by kernel_rfl) ?_; simp only [Act.put, List.setIfInBounds_toArray, List.set_cons_zero, List.set_cons_succ])
      iterate 1 (refine line_read rfl (by kernel_rfl) (fun K hK => ?_); go_big_quiet_op; refine hK _ ?_; clear hK K)
      refine line_nil ?_
      have B2 := btr B1 hst.out
      have A2 := A1'.on hst.out
      clear hst inst A1' B1 x0 x1 x2 x3 x4
      have y0 := A2.cell 0 _ rfl
      have y1 := A2.cell 1 _ rfl
      have y2 := A2.cell 2 _ rfl
      have y3 := A2.cell 3 _ rfl
      have y4 := A2.cell 4 _ rfl
      go_wp2_with fail
      refine bodyPost_ret (v := .tuple #[.slice none 0 0, .int .i64 7]) (by simp [results, Tryz.results152, go_sem]) rfl ⟨none, 0, 0, by rw [e1], by rw [e2]; exact OwnP.nil _ _, B2⟩
    · have e1 := put0_new hf (by rw [hL.out]; exact h4)
      have h4' : ¬ (4 : Int) ≤ len := by omega
      have HR := Lib.hid hR
      clear hR
      go_enter Tryz.func152, Tryz.ntmps152
      go_wp2_with fail
      generalize w.alloc (.cells #[.string p.n, .int .i64 p.a, .int .i64 p.b, .int .i64 p.e, .int .i64 p.u] 31) = W0 at *
      refine AT.mono ?_
      rintro r u1 ⟨rfl, b1⟩
      have A1' := A1.on b1
      have B1 := btr b0 b1
      have x0 := A1'.cell 0 _ rfl
      have x1 := A1'.cell 1 _ rfl
      have x2 := A1'.cell 2 _ rfl
      have x3 := A1'.cell 3 _ rfl
      have x4 := A1'.cell 4 _ rfl
      clear A1 b0 b1 AT
      go_wp2_with fail
      refine wp_region_line (Bel u1) [(0, true), (1, true), (2, true), (3, true), (4, true), (5, true), (6, true), (7, true), (8, true), (9, true), (10, true), (11, true)] (by kernel_rfl) (by kernel_rfl) (fun _ _ d _ _ h => by cases d <;> exact h) (Bel.drew u1) ?_
      have hst := Bel.drew u1
      have inst : Nonempty (Of (Bel u1)) := ⟨⟨_, hst⟩⟩
      iterate 3 (refine line_read rfl (by kernel_rfl) (fun K hK => ?_); go_big_quiet_op; refine hK _ ?_; clear hK K)
      iterate 8 (refine line_skip rfl (by kernel_rfl) ?_; simp only [Act.put, List.setIfInBounds_toArray, List.set_cons_zero, List.set_cons_succ])
      iterate 1 (refine line_read rfl (by kernel_rfl) (fun K hK => ?_); go_big_quiet_op; refine hK _ ?_; clear hK K)
      refine line_nil ?_
      have B2 := btr B1 hst.out
      have A2 := A1'.on hst.out
      clear hst inst A1' B1 x0 x1 x2 x3 x4
      have y0 := A2.cell 0 _ rfl
      have y1 := A2.cell 1 _ rfl
      have y2 := A2.cell 2 _ rfl
      have y3 := A2.cell 3 _ rfl
      have y4 := A2.cell 4 _ rfl
      obtain ⟨i0, hi0, hz0, hz1, hz2⟩ := info_parts pin_info
      have lu : w.heap.size < u1.heap.size := A2.lt (by simp [PinD.vals])
      have B2' : Below w.heap.size w (u1.alloc (.cells #[] 31)).drew := bal B2 (.cells #[] 31)
      have T0 : PutRel w ps p 0 false (.slice (some ⟨u1.heap.size, 0, none⟩) 0 0) [] (u1.alloc (.cells #[] 31)).drew :=
        ⟨(Own.made u1 #[] 31 0 (by omega) (by simp) rfl).drew, (A2.alloc (.cells #[] 31)).keep (fun _ => rfl), B2', rfl, by simp, by simp⟩
      clear lu B2'
      go_wp2_with fail
      generalize (u1.alloc (.cells #[] 31)).drew = W1 at *
      clear A2 B2 y0 y1 y2 y3 y4
      go_loopw [7, 8, 9] (fun v dd i wr => ∃ (k : Nat) (d : Bool) (out : List PinD), k ≤ len ∧ i = .int .i64 k ∧ dd = .bool d ∧ PutRel w ps p k d v out wr) (fun _ _ i _ => len - (intOf i).toNat)
      case atStart => exact ⟨0, false, [], Nat.zero_le _, rfl, rfl, T0⟩
      case round =>
        obtain ⟨k, d, out, hk, rfl, rfl, hT⟩ := hrel
        clear T0
        have hbs := hT.bel.size
        have hlo := hT.len
        have hfw := hT.few
        have bsz := hT.box.lt (by simp [PinD.vals])
        obtain ⟨va, vc, hva, -⟩ := hT.own.form
        subst hva
        by_cases hlt : k < len
        · obtain ⟨b, off, hab, hbB, c0, c1, c2, c3, c4⟩ := (HR.out.below (hT.bel.mono hB)).at' hlt
          first | subst hab | (injection hab with hab; injection hab with ea eb; subst ea; subst eb)
          have heq := hT.eq
          rw [putG_step (ps := ps) (k := k) (by rw [hL.out]; exact hlt) p d] at heq
          have Q1 : Op.bytesLess (ps[k]?.getD pin0).n.toList p.n.toList = nlt (ps[k]?.getD pin0).nm p.nm := by rw [ByteArray.toList_eq, ByteArray.toList_eq]; rfl
          have Q2 : ((ps[k]?.getD pin0).n.toList == p.n.toList) = decide ((ps[k]?.getD pin0).nm = p.nm) := text_beq _ _
          generalize hq : ps[k]?.getD pin0 = q at *
          have p0 := hT.box.cell 0 _ rfl
          cases d
          · have hfw := hfw rfl
            cases hn : nlt q.nm p.nm
            · rw [hn] at Q1 heq
              by_cases he : q.nm = p.nm
              · rw [decide_eq_true he] at Q2
                have TE := Lib.hid (show (out ++ [p]) ++ putG p true (ps.drop (k + 1)) = putL ps p by rw [if_pos he] at heq; simpa using heq)
                have TL : (out ++ [p]).length ≤ k + 1 + 1 := by simp; omega
                clear heq he hn
                go_wp2_with fail
                refine wp_region_line (Bel wr) [(0, true), (1, true), (2, true), (3, true), (4, true), (5, true), (6, true), (7, true), (8, true), (9, true), (10, true), (11, true)] (by kernel_rfl) (by kernel_rfl) (fun _ _ d _ _ h => by cases d <;> exact h) (Bel.drew wr) ?_
                have hst := Bel.drew wr
                have inst : Nonempty (Of (Bel wr)) := ⟨⟨_, hst⟩⟩
                have g0 := bel_cell c0
                have g1 := bel_cell p0
                iterate 12 (refine line_read rfl (by kernel_rfl) (fun K hK => ?_); go_big_quiet_op; refine hK _ ?_; clear hK K)
                refine line_nil ?_
                have TO : OwnP wr.drew (w.heap.size + 1) (.slice va out.length vc) out := hT.own
                have TA : At w.heap.size p.vals wr.drew := hT.box.keep (fun _ => rfl)
                have TB := hT.bel.drew
                have ts : w.heap.size < wr.drew.heap.size := bsz
                clear hst inst g0 g1 c0 c1 c2 c3 c4 p0 hT hbs bsz
                generalize wr.drew = v1 at *
                have x0 := TA.cell 0 _ rfl
                have x1 := TA.cell 1 _ rfl
                have x2 := TA.cell 2 _ rfl
                have x3 := TA.cell 3 _ rfl
                have x4 := TA.cell 4 _ rfl
                go_wp2_with (at_builtin; refine wpList_append_src _ rfl (.tmp 52) (.tmp 54) 24 24 rfl (w.heap.size + 1) 31 i0 (P5 pin0) 5 48 Tryz.underlying24 hi0 hz0 hz1 hz2 rfl _ _ _ rfl (Own.alloc TO _) _ 1 p.vals rfl (src_new5 _ p _ _ _ Tryz.underlying24) (by simp only [maxLen]; first | omega | (simp only [List.length_append, List.length_cons, List.length_nil]; omega)) (by first | omega | (simp only [List.length_append, List.length_cons, List.length_nil]; omega)) (by simp; omega) ?_; intro v3 w3 hown hgrow hat)
                obtain ⟨TO', TA', TB'⟩ := put_app TO TA TB hown hgrow
                have ts' : w.heap.size < w3.heap.size := TA'.lt (by simp [PinD.vals])
                clear hown hgrow hat TO TA TB ts x0 x1 x2 x3 x4
                have TO := TO'
                have TA := TA'
                have TB := TB'
                have ts := ts'
                clear TO' TA' TB' ts'
                obtain ⟨b', off', hab', -, m0, m1, m2, m3, m4⟩ := (HR.out.below (TB.mono hB)).at' hlt
                injection hab' with hab'
                injection hab' with ea eb
                subst ea
                subst eb
                rw [hq] at m0 m1 m2 m3 m4
                have y0 := TA.cell 0 _ rfl
                go_wp2_with fail
                refine wp_region_line (Bel w3) [(0, true), (1, true), (2, true), (3, true), (4, true), (5, true), (6, true), (7, true)] (by kernel_rfl) (by kernel_rfl) (fun _ _ d _ _ h => by cases d <;> exact h) (Bel.drew w3) ?_
                have hst := Bel.drew w3
                have inst : Nonempty (Of (Bel w3)) := ⟨⟨_, hst⟩⟩
                have g0 := bel_cell m0
                have g1 := bel_cell y0
                iterate 8 (refine line_read rfl (by kernel_rfl) (fun K hK => ?_); go_big_quiet_op; refine hK _ ?_; clear hK K)
                refine line_nil ?_
                have TO2 : OwnP w3.drew (w.heap.size + 1) _ _ := TO
                have TA2 : At w.heap.size p.vals w3.drew := TA.keep (fun _ => rfl)
                have TB2 := TB.drew
                have ts2 : w.heap.size < w3.drew.heap.size := ts
                clear hst inst g0 g1 m0 m1 m2 m3 m4 y0 TO TA TB ts
                generalize w3.drew = v2 at *
                go_wp2_with fail
                go_roundw
                case rel => exact ⟨k + 1, true, _, by omega, by go_num, rfl, ⟨TO2, TA2, TB2, TE.out, TL, fun h => by cases h⟩⟩
                case measure => simp [intOf]; omega
              · rw [decide_eq_false he] at Q2
                have TE := Lib.hid (show ((out ++ [p]) ++ [q]) ++ putG p true (ps.drop (k + 1)) = putL ps p by rw [if_neg he] at heq; simpa using heq)
                have TL : ((out ++ [p]) ++ [q]).length ≤ k + 1 + 1 := by simp; omega
                clear heq he hn
                go_wp2_with fail
                refine wp_region_line (Bel wr) [(0, true), (1, true), (2, true), (3, true), (4, true), (5, true), (6, true), (7, true), (8, true), (9, true), (10, true), (11, true)] (by kernel_rfl) (by kernel_rfl) (fun _ _ d _ _ h => by cases d <;> exact h) (Bel.drew wr) ?_
                have hst := Bel.drew wr
                have inst : Nonempty (Of (Bel wr)) := ⟨⟨_, hst⟩⟩
                have g0 := bel_cell c0
                have g1 := bel_cell p0
                iterate 12 (refine line_read rfl (by kernel_rfl) (fun K hK => ?_); go_big_quiet_op; refine hK _ ?_; clear hK K)
                refine line_nil ?_
                have TO : OwnP wr.drew (w.heap.size + 1) (.slice va out.length vc) out := hT.own
                have TA : At w.heap.size p.vals wr.drew := hT.box.keep (fun _ => rfl)
                have TB := hT.bel.drew
                have ts : w.heap.size < wr.drew.heap.size := bsz
                clear hst inst g0 g1 c0 c1 c2 c3 c4 p0 hT hbs bsz
                generalize wr.drew = v1 at *
                have x0 := TA.cell 0 _ rfl
                have x1 := TA.cell 1 _ rfl
                have x2 := TA.cell 2 _ rfl
                have x3 := TA.cell 3 _ rfl
                have x4 := TA.cell 4 _ rfl
                go_wp2_with (at_builtin; refine wpList_append_src _ rfl (.tmp 52) (.tmp 54) 24 24 rfl (w.heap.size + 1) 31 i0 (P5 pin0) 5 48 Tryz.underlying24 hi0 hz0 hz1 hz2 rfl _ _ _ rfl (Own.alloc TO _) _ 1 p.vals rfl (src_new5 _ p _ _ _ Tryz.underlying24) (by simp only [maxLen]; first | omega | (simp only [List.length_append, List.length_cons, List.length_nil]; omega)) (by first | omega | (simp only [List.length_append, List.length_cons, List.length_nil]; omega)) (by simp; omega) ?_; intro v3 w3 hown hgrow hat)
                obtain ⟨TO', TA', TB'⟩ := put_app TO TA TB hown hgrow
                have ts' : w.heap.size < w3.heap.size := TA'.lt (by simp [PinD.vals])
                clear hown hgrow hat TO TA TB ts x0 x1 x2 x3 x4
                have TO := TO'
                have TA := TA'
                have TB := TB'
                have ts := ts'
                clear TO' TA' TB' ts'
                obtain ⟨b', off', hab', -, m0, m1, m2, m3, m4⟩ := (HR.out.below (TB.mono hB)).at' hlt
                injection hab' with hab'
                injection hab' with ea eb
                subst ea
                subst eb
                rw [hq] at m0 m1 m2 m3 m4
                have y0 := TA.cell 0 _ rfl
                go_wp2_with fail
                refine wp_region_line (Bel w3) [(0, true), (1, true), (2, true), (3, true), (4, true), (5, true), (6, true), (7, true)] (by kernel_rfl) (by kernel_rfl) (fun _ _ d _ _ h => by cases d <;> exact h) (Bel.drew w3) ?_
                have hst := Bel.drew w3
                have inst : Nonempty (Of (Bel w3)) := ⟨⟨_, hst⟩⟩
                have g0 := bel_cell m0
                have g1 := bel_cell y0
                iterate 8 (refine line_read rfl (by kernel_rfl) (fun K hK => ?_); go_big_quiet_op; refine hK _ ?_; clear hK K)
                refine line_nil ?_
                have TO2 : OwnP w3.drew (w.heap.size + 1) _ _ := TO
                have TA2 : At w.heap.size p.vals w3.drew := TA.keep (fun _ => rfl)
                have TB2 := TB.drew
                have ts2 : w.heap.size < w3.drew.heap.size := ts
                clear hst inst g0 g1 m0 m1 m2 m3 m4 y0 TO TA TB ts
                generalize w3.drew = v2 at *
                obtain ⟨b', off', hab', -, m0, m1, m2, m3, m4⟩ := (HR.out.below (TB2.mono hB)).at' hlt
                injection hab' with hab'
                injection hab' with ea eb
                subst ea
                subst eb
                rw [hq] at m0 m1 m2 m3 m4
                go_wp2_with (at_builtin; refine wpList_append_src _ rfl (.tmp 64) (.tmp 69) 24 24 rfl (w.heap.size + 1) 31 i0 (P5 pin0) 5 48 Tryz.underlying24 hi0 hz0 hz1 hz2 rfl _ _ _ rfl (Own.alloc TO2 _) _ 1 q.vals rfl (src_new5 _ q _ _ _ Tryz.underlying24) (by simp only [maxLen]; first | omega | (simp only [List.length_append, List.length_cons, List.length_nil]; omega)) (by first | omega | (simp only [List.length_append, List.length_cons, List.length_nil]; omega)) (by simp; omega) ?_; intro v3 w3 hown hgrow hat)
                obtain ⟨O3, A3, B3⟩ := put_app TO2 TA2 TB2 hown hgrow
                clear hown hgrow hat TO2 TA2 TB2 m0 m1 m2 m3 m4
                go_wp2_with fail
                go_roundw
                case rel => exact ⟨k + 1, true, _, by omega, by go_num, rfl, ⟨O3, A3, B3, TE.out, TL, fun h => by cases h⟩⟩
                case measure => simp [intOf]; omega
            · rw [hn] at Q1 heq
              have he : ¬ q.nm = p.nm := nlt_ne hn
              rw [decide_eq_false he] at Q2
              have TE := Lib.hid (show (out ++ [q]) ++ putG p false (ps.drop (k + 1)) = putL ps p by rw [if_neg he] at heq; simpa using heq)
              have TL : (out ++ [q]).length ≤ k + 1 + 1 := by simp; omega
              have TF : (out ++ [q]).length ≤ k + 1 := by simp; omega
              clear heq he hn
              go_wp2_with fail
              refine wp_region_line (Bel wr) [(0, true), (1, true), (2, true), (3, true), (4, true), (5, true), (6, true), (7, true), (8, true), (9, true), (10, true), (11, true)] (by kernel_rfl) (by kernel_rfl) (fun _ _ d _ _ h => by cases d <;> exact h) (Bel.drew wr) ?_
              have hst := Bel.drew wr
              have inst : Nonempty (Of (Bel wr)) := ⟨⟨_, hst⟩⟩
              have g0 := bel_cell c0
              have g1 := bel_cell p0
              iterate 12 (refine line_read rfl (by kernel_rfl) (fun K hK => ?_); go_big_quiet_op; refine hK _ ?_; clear hK K)
              refine line_nil ?_
              have TO : OwnP wr.drew (w.heap.size + 1) (.slice va out.length vc) out := hT.own
              have TA : At w.heap.size p.vals wr.drew := hT.box.keep (fun _ => rfl)
              have TB := hT.bel.drew
              have ts : w.heap.size < wr.drew.heap.size := bsz
              clear hst inst g0 g1 c0 c1 c2 c3 c4 p0 hT hbs bsz
              generalize wr.drew = v1 at *
              have x0 := TA.cell 0 _ rfl
              have x1 := TA.cell 1 _ rfl
              have x2 := TA.cell 2 _ rfl
              have x3 := TA.cell 3 _ rfl
              have x4 := TA.cell 4 _ rfl
              obtain ⟨b', off', hab', -, m0, m1, m2, m3, m4⟩ := (HR.out.below (TB.mono hB)).at' hlt
              injection hab' with hab'
              injection hab' with ea eb
              subst ea
              subst eb
              rw [hq] at m0 m1 m2 m3 m4
              have y0 := TA.cell 0 _ rfl
              go_wp2_with fail
              refine wp_region_line (Bel v1) [(0, true), (1, true), (2, true), (3, true), (4, true), (5, true), (6, true), (7, true)] (by kernel_rfl) (by kernel_rfl) (fun _ _ d _ _ h => by cases d <;> exact h) (Bel.drew v1) ?_
              have hst := Bel.drew v1
              have inst : Nonempty (Of (Bel v1)) := ⟨⟨_, hst⟩⟩
              have g0 := bel_cell m0
              have g1 := bel_cell y0
              iterate 8 (refine line_read rfl (by kernel_rfl) (fun K hK => ?_); go_big_quiet_op; refine hK _ ?_; clear hK K)
              refine line_nil ?_
              have TO2 : OwnP v1.drew (w.heap.size + 1) _ _ := TO
              have TA2 : At w.heap.size p.vals v1.drew := TA.keep (fun _ => rfl)
              have TB2 := TB.drew
              have ts2 : w.heap.size < v1.drew.heap.size := ts
              clear hst inst g0 g1 m0 m1 m2 m3 m4 y0 TO TA TB ts
              generalize v1.drew = v2 at *
              obtain ⟨b', off', hab', -, m0, m1, m2, m3, m4⟩ := (HR.out.below (TB2.mono hB)).at' hlt
              injection hab' with hab'
              injection hab' with ea eb
              subst ea
              subst eb
              rw [hq] at m0 m1 m2 m3 m4
              go_wp2_with (at_builtin; refine wpList_append_src _ rfl (.tmp 64) (.tmp 69) 24 24 rfl (w.heap.size + 1) 31 i0 (P5 pin0) 5 48 Tryz.underlying24 hi0 hz0 hz1 hz2 rfl _ _ _ rfl (Own.alloc TO2 _) _ 1 q.vals rfl (src_new5 _ q _ _ _ Tryz.underlying24) (by simp only [maxLen]; first | omega | (simp only [List.length_append, List.length_cons, List.length_nil]; omega)) (by first | omega | (simp only [List.length_append, List.length_cons, List.length_nil]; omega)) (by simp; omega) ?_; intro v3 w3 hown hgrow hat)
              obtain ⟨O3, A3, B3⟩ := put_app TO2 TA2 TB2 hown hgrow
              clear hown hgrow hat TO2 TA2 TB2 m0 m1 m2 m3 m4
              go_wp2_with fail
              go_roundw
              case rel => exact ⟨k + 1, false, _, by omega, by go_num, rfl, ⟨O3, A3, B3, TE.out, TL, fun _ => TF⟩⟩
              case measure => simp [intOf]; omega
          · by_cases he : q.nm = p.nm
            · rw [decide_eq_true he] at Q2
              have TE := Lib.hid (show out ++ putG p true (ps.drop (k + 1)) = putL ps p by rw [if_pos he] at heq; simpa using heq)
              have TL : out.length ≤ k + 1 + 1 := by omega
              clear heq he
              go_wp2_with fail
              refine wp_region_line (Bel wr) [(0, true), (1, true), (2, true), (3, true), (4, true), (5, true), (6, true), (7, true), (8, true), (9, true), (10, true), (11, true)] (by kernel_rfl) (by kernel_rfl) (fun _ _ d _ _ h => by cases d <;> exact h) (Bel.drew wr) ?_
              have hst := Bel.drew wr
              have inst : Nonempty (Of (Bel wr)) := ⟨⟨_, hst⟩⟩
              iterate 3 (refine line_read rfl (by kernel_rfl) (fun K hK => ?_); go_big_quiet_op; refine hK _ ?_; clear hK K)
              iterate 8 (refine line_skip rfl (by kernel_rfl) ?_; simp only [Act.put, List.setIfInBounds_toArray, List.set_cons_zero, List.set_cons_succ])
              iterate 1 (refine line_read rfl (by kernel_rfl) (fun K hK => ?_); go_big_quiet_op; refine hK _ ?_; clear hK K)
              refine line_nil ?_
              have TO : OwnP wr.drew (w.heap.size + 1) (.slice va out.length vc) out := hT.own
              have TA : At w.heap.size p.vals wr.drew := hT.box.keep (fun _ => rfl)
              have TB := hT.bel.drew
              have ts : w.heap.size < wr.drew.heap.size := bsz
              clear hst inst c0 c1 c2 c3 c4 p0 hT hbs bsz
              generalize wr.drew = v1 at *
              obtain ⟨b', off', hab', -, m0, m1, m2, m3, m4⟩ := (HR.out.below (TB.mono hB)).at' hlt
              injection hab' with hab'
              injection hab' with ea eb
              subst ea
              subst eb
              rw [hq] at m0 m1 m2 m3 m4
              have y0 := TA.cell 0 _ rfl
              go_wp2_with fail
              refine wp_region_line (Bel v1) [(0, true), (1, true), (2, true), (3, true), (4, true), (5, true), (6, true), (7, true)] (by kernel_rfl) (by kernel_rfl) (fun _ _ d _ _ h => by cases d <;> exact h) (Bel.drew v1) ?_
              have hst := Bel.drew v1
              have inst : Nonempty (Of (Bel v1)) := ⟨⟨_, hst⟩⟩
              have g0 := bel_cell m0
              have g1 := bel_cell y0
              iterate 8 (refine line_read rfl (by kernel_rfl) (fun K hK => ?_); go_big_quiet_op; refine hK _ ?_; clear hK K)
              refine line_nil ?_
              have TO2 : OwnP v1.drew (w.heap.size + 1) _ _ := TO
              have TA2 : At w.heap.size p.vals v1.drew := TA.keep (fun _ => rfl)
              have TB2 := TB.drew
              have ts2 : w.heap.size < v1.drew.heap.size := ts
              clear hst inst g0 g1 m0 m1 m2 m3 m4 y0 TO TA TB ts
              generalize v1.drew = v2 at *
              go_wp2_with fail
              go_roundw
              case rel => exact ⟨k + 1, true, _, by omega, by go_num, rfl, ⟨TO2, TA2, TB2, TE.out, TL, fun h => by cases h⟩⟩
              case measure => simp [intOf]; omega
            · rw [decide_eq_false he] at Q2
              have TE := Lib.hid (show (out ++ [q]) ++ putG p true (ps.drop (k + 1)) = putL ps p by rw [if_neg he] at heq; simpa using heq)
              have TL : (out ++ [q]).length ≤ k + 1 + 1 := by simp; omega
              clear heq he
              go_wp2_with fail
              refine wp_region_line (Bel wr) [(0, true), (1, true), (2, true), (3, true), (4, true), (5, true), (6, true), (7, true), (8, true), (9, true), (10, true), (11, true)] (by kernel_rfl) (by kernel_rfl) (fun _ _ d _ _ h => by cases d <;> exact h) (Bel.drew wr) ?_
              have hst := Bel.drew wr
              have inst : Nonempty (Of (Bel wr)) := ⟨⟨_, hst⟩⟩
              iterate 3 (refine line_read rfl (by kernel_rfl) (fun K hK => ?_); go_big_quiet_op; refine hK _ ?_; clear hK K)
              iterate 8 (refine line_skip rfl (by kernel_rfl) ?_; simp only [Act.put, List.setIfInBounds_toArray, List.set_cons_zero, List.set_cons_succ])
              iterate 1 (refine line_read rfl (by kernel_rfl) (fun K hK => ?_); go_big_quiet_op; refine hK _ ?_; clear hK K)
              refine line_nil ?_
              have TO : OwnP wr.drew (w.heap.size + 1) (.slice va out.length vc) out := hT.own
              have TA : At w.heap.size p.vals wr.drew := hT.box.keep (fun _ => rfl)
              have TB := hT.bel.drew
              have ts : w.heap.size < wr.drew.heap.size := bsz
              clear hst inst c0 c1 c2 c3 c4 p0 hT hbs bsz
              generalize wr.drew = v1 at *
              obtain ⟨b', off', hab', -, m0, m1, m2, m3, m4⟩ := (HR.out.below (TB.mono hB)).at' hlt
              injection hab' with hab'
              injection hab' with ea eb
              subst ea
              subst eb
              rw [hq] at m0 m1 m2 m3 m4
              have y0 := TA.cell 0 _ rfl
              go_wp2_with fail
              refine wp_region_line (Bel v1) [(0, true), (1, true), (2, true), (3, true), (4, true), (5, true), (6, true), (7, true)] (by kernel_rfl) (by kernel_rfl) (fun _ _ d _ _ h => by cases d <;> exact h) (Bel.drew v1) ?_
              have hst := Bel.drew v1
              have inst : Nonempty (Of (Bel v1)) := ⟨⟨_, hst⟩⟩
              have g0 := bel_cell m0
              have g1 := bel_cell y0
              iterate 8 (refine line_read rfl (by kernel_rfl) (fun K hK => ?_); go_big_quiet_op; refine hK _ ?_; clear hK K)
              refine line_nil ?_
              have TO2 : OwnP v1.drew (w.heap.size + 1) _ _ := TO
              have TA2 : At w.heap.size p.vals v1.drew := TA.keep (fun _ => rfl)
              have TB2 := TB.drew
              have ts2 : w.heap.size < v1.drew.heap.size := ts
              clear hst inst g0 g1 m0 m1 m2 m3 m4 y0 TO TA TB ts
              generalize v1.drew = v2 at *
              obtain ⟨b', off', hab', -, m0, m1, m2, m3, m4⟩ := (HR.out.below (TB2.mono hB)).at' hlt
              injection hab' with hab'
              injection hab' with ea eb
              subst ea
              subst eb
              rw [hq] at m0 m1 m2 m3 m4
              go_wp2_with (at_builtin; refine wpList_append_src _ rfl (.tmp 64) (.tmp 69) 24 24 rfl (w.heap.size + 1) 31 i0 (P5 pin0) 5 48 Tryz.underlying24 hi0 hz0 hz1 hz2 rfl _ _ _ rfl (Own.alloc TO2 _) _ 1 q.vals rfl (src_new5 _ q _ _ _ Tryz.underlying24) (by simp only [maxLen]; first | omega | (simp only [List.length_append, List.length_cons, List.length_nil]; omega)) (by first | omega | (simp only [List.length_append, List.length_cons, List.length_nil]; omega)) (by simp; omega) ?_; intro v3 w3 hown hgrow hat)
              obtain ⟨O3, A3, B3⟩ := put_app TO2 TA2 TB2 hown hgrow
              clear hown hgrow hat TO2 TA2 TB2 m0 m1 m2 m3 m4
              go_wp2_with fail
              go_roundw
              case rel => exact ⟨k + 1, true, _, by omega, by go_num, rfl, ⟨O3, A3, B3, TE.out, TL, fun h => by cases h⟩⟩
              case measure => simp [intOf]; omega
        · obtain rfl : k = len := by omega
          have e : ps.drop k = [] := List.drop_of_length_le (by rw [hL.out]; omega)
          have heq := hT.eq
          rw [e] at heq
          have e2 : put1 ps p = putL ps p := by unfold put1; rw [if_pos e1]
          cases d
          · have hO := hT.own
            have hA := hT.box
            have hb := hT.bel
            have HE := Lib.hid (show out ++ [p] = putL ps p from heq)
            have x0 := hA.cell 0 _ rfl
            have x1 := hA.cell 1 _ rfl
            have x2 := hA.cell 2 _ rfl
            have x3 := hA.cell 3 _ rfl
            have x4 := hA.cell 4 _ rfl
            clear hT heq
            go_wp2_with (at_builtin; refine wpList_append_src _ rfl (.tmp 73) (.tmp 75) 24 24 rfl (w.heap.size + 1) 31 i0 (P5 pin0) 5 48 Tryz.underlying24 hi0 hz0 hz1 hz2 rfl _ _ _ rfl (Own.alloc hO _) _ 1 p.vals rfl (src_new5 _ p _ _ _ Tryz.underlying24) (by simp only [maxLen]; first | omega | (simp only [List.length_append, List.length_cons, List.length_nil]; omega)) (by first | omega | (simp only [List.length_append, List.length_cons, List.length_nil]; omega)) (by simp; omega) ?_; intro v3 w3 hown hgrow hat)
            obtain ⟨O3, A3, B3⟩ := put_app hO hA hb hown hgrow
            obtain ⟨a3, c3, rfl, -⟩ := O3.form
            have H := Lib.hid (And.intro (O3.less (by omega : w.heap.size ≤ w.heap.size + 1)) B3)
            clear hown hgrow hat O3 A3 B3
            go_wp2_with fail
            refine bodyPost_ret (v := .tuple #[.slice a3 (out ++ [p]).length c3, .int .i64 0]) (by simp [results, Tryz.results152, go_sem]) rfl ⟨_, _, _, by rw [e1], by rw [e2, ← HE.out]; exact H.out.1, H.out.2⟩
          · have hO := hT.own
            have hb := hT.bel
            have HE := Lib.hid (show out = putL ps p by simpa [putG] using heq)
            have H := Lib.hid (And.intro (hO.less (by omega : w.heap.size ≤ w.heap.size + 1)) hb)
            clear hT heq hO hb
            go_wp2_with fail
            refine bodyPost_ret (v := .tuple #[.slice va out.length vc, .int .i64 0]) (by simp [results, Tryz.results152, go_sem]) rfl ⟨_, _, _, by rw [e1], by rw [e2, ← HE.out]; exact H.out.1, H.out.2⟩
  · have hkl : k < len := by rw [← hL.out]; exact hk
    have hf' : findP ps p.nm = some (ps[k]?.getD pin0) := hf
    obtain ⟨b, off, ha, -⟩ := hR.at' hkl
    subst ha
    have HR := Lib.hid hR
    have hk0 : ¬ (k : Int) < 0 := by omega
    have hk1 : (0 : Int) ≤ k := by omega
    clear hR hf
    generalize hq0 : ps[k]?.getD pin0 = q0 at *
    have HQ := Lib.hid hq0
    clear hq0
    by_cases he : p.e ≤ q0.e
    · have e1 := put0_old hf' he
      have e2 : put1 ps p = [] := by unfold put1; rw [e1, if_neg (by decide)]
      clear hf'
      go_enter Tryz.func152, Tryz.ntmps152
      go_wp2_with fail
      generalize w.alloc (.cells #[.string p.n, .int .i64 p.a, .int .i64 p.b, .int .i64 p.e, .int .i64 p.u] 31) = W0 at *
      refine AT.mono ?_
      rintro r u1 ⟨rfl, b1⟩
      have A1' := A1.on b1
      have B1 := btr b0 b1
      have x0 := A1'.cell 0 _ rfl
      have x1 := A1'.cell 1 _ rfl
      have x2 := A1'.cell 2 _ rfl
      have x3 := A1'.cell 3 _ rfl
      have x4 := A1'.cell 4 _ rfl
      clear A1 b0 b1 AT
      obtain ⟨b', off', hab', -, c0, c1, c2, c3, c4⟩ := (HR.out.below (B1.mono hB)).at' hkl
      injection hab' with hab'
      injection hab' with ea eb
      subst ea
      subst eb
      rw [HQ.out] at c3
      go_wp2_with fail
      refine wp_region_line (Bel u1) [(0, true), (1, true), (2, true), (3, true), (4, true), (5, true), (6, true), (7, true), (8, true), (9, true), (10, true), (11, true)] (by kernel_rfl) (by kernel_rfl) (fun _ _ d _ _ h => by cases d <;> exact h) (Bel.drew u1) ?_
      have hst := Bel.drew u1
      have inst : Nonempty (Of (Bel u1)) := ⟨⟨_, hst⟩⟩
      have g0 := bel_cell c3
      have g1 := bel_cell x3
      iterate 12 (refine line_read rfl (by kernel_rfl) (fun K hK => ?_); go_big_quiet_op; refine hK _ ?_; clear hK K)
      refine line_nil ?_
      have B2 := btr B1 hst.out
      have A2 := A1'.on hst.out
      clear hst inst A1' B1 x0 x1 x2 x3 x4 c0 c1 c2 c3 c4 g0 g1
      have y0 := A2.cell 0 _ rfl
      have y1 := A2.cell 1 _ rfl
      have y2 := A2.cell 2 _ rfl
      have y3 := A2.cell 3 _ rfl
      have y4 := A2.cell 4 _ rfl
      go_wp2_with fail
      refine bodyPost_ret (v := .tuple #[.slice none 0 0, .int .i64 11]) (by simp [results, Tryz.results152, go_sem]) rfl ⟨none, 0, 0, by rw [e1], by rw [e2]; exact OwnP.nil _ _, B2⟩
    · have e1 := put0_young hf' he
      clear hf'
      go_enter Tryz.func152, Tryz.ntmps152
      go_wp2_with fail
      generalize w.alloc (.cells #[.string p.n, .int .i64 p.a, .int .i64 p.b, .int .i64 p.e, .int .i64 p.u] 31) = W0 at *
      refine AT.mono ?_
      rintro r u1 ⟨rfl, b1⟩
      have A1' := A1.on b1
      have B1 := btr b0 b1
      have x0 := A1'.cell 0 _ rfl
      have x1 := A1'.cell 1 _ rfl
      have x2 := A1'.cell 2 _ rfl
      have x3 := A1'.cell 3 _ rfl
      have x4 := A1'.cell 4 _ rfl
      clear A1 b0 b1 AT
      obtain ⟨b', off', hab', -, c0, c1, c2, c3, c4⟩ := (HR.out.below (B1.mono hB)).at' hkl
      injection hab' with hab'
      injection hab' with ea eb
      subst ea
      subst eb
      rw [HQ.out] at c3
      go_wp2_with fail
      refine wp_region_line (Bel u1) [(0, true), (1, true), (2, true), (3, true), (4, true), (5, true), (6, true), (7, true), (8, true), (9, true), (10, true), (11, true)] (by kernel_rfl) (by kernel_rfl) (fun _ _ d _ _ h => by cases d <;> exact h) (Bel.drew u1) ?_
      have hst := Bel.drew u1
      have inst : Nonempty (Of (Bel u1)) := ⟨⟨_, hst⟩⟩
      have g0 := bel_cell c3
      have g1 := bel_cell x3
      iterate 12 (refine line_read rfl (by kernel_rfl) (fun K hK => ?_); go_big_quiet_op; refine hK _ ?_; clear hK K)
      refine line_nil ?_
      have B2 := btr B1 hst.out
      have A2 := A1'.on hst.out
      clear hst inst A1' B1 x0 x1 x2 x3 x4 c0 c1 c2 c3 c4 g0 g1
      have y0 := A2.cell 0 _ rfl
      have y1 := A2.cell 1 _ rfl
      have y2 := A2.cell 2 _ rfl
      have y3 := A2.cell 3 _ rfl
      have y4 := A2.cell 4 _ rfl
      obtain ⟨i0, hi0, hz0, hz1, hz2⟩ := info_parts pin_info
      have lu : w.heap.size < u1.heap.size := A2.lt (by simp [PinD.vals])
      have B2' : Below w.heap.size w (u1.alloc (.cells #[] 31)).drew := bal B2 (.cells #[] 31)
      have T0 : PutRel w ps p 0 false (.slice (some ⟨u1.heap.size, 0, none⟩) 0 0) [] (u1.alloc (.cells #[] 31)).drew :=
        ⟨(Own.made u1 #[] 31 0 (by omega) (by simp) rfl).drew, (A2.alloc (.cells #[] 31)).keep (fun _ => rfl), B2', rfl, by simp, by simp⟩
      clear lu B2'
      go_wp2_with fail
      generalize (u1.alloc (.cells #[] 31)).drew = W1 at *
      clear A2 B2 y0 y1 y2 y3 y4
      go_loopw [7, 8, 9] (fun v dd i wr => ∃ (k : Nat) (d : Bool) (out : List PinD), k ≤ len ∧ i = .int .i64 k ∧ dd = .bool d ∧ PutRel w ps p k d v out wr) (fun _ _ i _ => len - (intOf i).toNat)
      case atStart => exact ⟨0, false, [], Nat.zero_le _, rfl, rfl, T0⟩
      case round =>
        obtain ⟨k, d, out, hk, rfl, rfl, hT⟩ := hrel
        clear T0
        have hbs := hT.bel.size
        have hlo := hT.len
        have hfw := hT.few
        have bsz := hT.box.lt (by simp [PinD.vals])
        obtain ⟨va, vc, hva, -⟩ := hT.own.form
        subst hva
        by_cases hlt : k < len
        · obtain ⟨b, off, hab, hbB, c0, c1, c2, c3, c4⟩ := (HR.out.below (hT.bel.mono hB)).at' hlt
          first | subst hab | (injection hab with hab; injection hab with ea eb; subst ea; subst eb)
          have heq := hT.eq
          rw [putG_step (ps := ps) (k := k) (by rw [hL.out]; exact hlt) p d] at heq
          have Q1 : Op.bytesLess (ps[k]?.getD pin0).n.toList p.n.toList = nlt (ps[k]?.getD pin0).nm p.nm := by rw [ByteArray.toList_eq, ByteArray.toList_eq]; rfl
          have Q2 : ((ps[k]?.getD pin0).n.toList == p.n.toList) = decide ((ps[k]?.getD pin0).nm = p.nm) := text_beq _ _
          generalize hq : ps[k]?.getD pin0 = q at *
          have p0 := hT.box.cell 0 _ rfl
          cases d
          · have hfw := hfw rfl
            cases hn : nlt q.nm p.nm
            · rw [hn] at Q1 heq
              by_cases he : q.nm = p.nm
              · rw [decide_eq_true he] at Q2
                have TE := Lib.hid (show (out ++ [p]) ++ putG p true (ps.drop (k + 1)) = putL ps p by rw [if_pos he] at heq; simpa using heq)
                have TL : (out ++ [p]).length ≤ k + 1 + 1 := by simp; omega
                clear heq he hn
                go_wp2_with fail
                refine wp_region_line (Bel wr) [(0, true), (1, true), (2, true), (3, true), (4, true), (5, true), (6, true), (7, true), (8, true), (9, true), (10, true), (11, true)] (by kernel_rfl) (by kernel_rfl) (fun _ _ d _ _ h => by cases d <;> exact h) (Bel.drew wr) ?_
                have hst := Bel.drew wr
                have inst : Nonempty (Of (Bel wr)) := ⟨⟨_, hst⟩⟩
                have g0 := bel_cell c0
                have g1 := bel_cell p0
                iterate 12 (refine line_read rfl (by kernel_rfl) (fun K hK => ?_); go_big_quiet_op; refine hK _ ?_; clear hK K)
                refine line_nil ?_
                have TO : OwnP wr.drew (w.heap.size + 1) (.slice va out.length vc) out := hT.own
                have TA : At w.heap.size p.vals wr.drew := hT.box.keep (fun _ => rfl)
                have TB := hT.bel.drew
                have ts : w.heap.size < wr.drew.heap.size := bsz
                clear hst inst g0 g1 c0 c1 c2 c3 c4 p0 hT hbs bsz
                generalize wr.drew = v1 at *
                have x0 := TA.cell 0 _ rfl
                have x1 := TA.cell 1 _ rfl
                have x2 := TA.cell 2 _ rfl
                have x3 := TA.cell 3 _ rfl
                have x4 := TA.cell 4 _ rfl
                go_wp2_with (at_builtin; refine wpList_append_src _ rfl (.tmp 52) (.tmp 54) 24 24 rfl (w.heap.size + 1) 31 i0 (P5 pin0) 5 48 Tryz.underlying24 hi0 hz0 hz1 hz2 rfl _ _ _ rfl (Own.alloc TO _) _ 1 p.vals rfl (src_new5 _ p _ _ _ Tryz.underlying24) (by simp only [maxLen]; first | omega | (simp only [List.length_append, List.length_cons, List.length_nil]; omega)) (by first | omega | (simp only [List.length_append, List.length_cons, List.length_nil]; omega)) (by simp; omega) ?_; intro v3 w3 hown hgrow hat)
                obtain ⟨TO', TA', TB'⟩ := put_app TO TA TB hown hgrow
                have ts' : w.heap.size < w3.heap.size := TA'.lt (by simp [PinD.vals])
                clear hown hgrow hat TO TA TB ts x0 x1 x2 x3 x4
                have TO := TO'
                have TA := TA'
                have TB := TB'
                have ts := ts'
                clear TO' TA' TB' ts'
                obtain ⟨b', off', hab', -, m0, m1, m2, m3, m4⟩ := (HR.out.below (TB.mono hB)).at' hlt
                injection hab' with hab'
                injection hab' with ea eb
                subst ea
                subst eb
                rw [hq] at m0 m1 m2 m3 m4
                have y0 := TA.cell 0 _ rfl
                go_wp2_with fail
                refine wp_region_line (Bel w3) [(0, true), (1, true), (2, true), (3, true), (4, true), (5, true), (6, true), (7, true)] (by kernel_rfl) (by kernel_rfl) (fun _ _ d _ _ h => by cases d <;> exact h) (Bel.drew w3) ?_
                have hst := Bel.drew w3
                have inst : Nonempty (Of (Bel w3)) := ⟨⟨_, hst⟩⟩
                have g0 := bel_cell m0
                have g1 := bel_cell y0
                iterate 8 (refine line_read rfl (by kernel_rfl) (fun K hK => ?_); go_big_quiet_op; refine hK _ ?_; clear hK K)
                refine line_nil ?_
                have TO2 : OwnP w3.drew (w.heap.size + 1) _ _ := TO
                have TA2 : At w.heap.size p.vals w3.drew := TA.keep (fun _ => rfl)
                have TB2 := TB.drew
                have ts2 : w.heap.size < w3.drew.heap.size := ts
                clear hst inst g0 g1 m0 m1 m2 m3 m4 y0 TO TA TB ts
                generalize w3.drew = v2 at *
                go_wp2_with fail
                go_roundw
                case rel => exact ⟨k + 1, true, _, by omega, by go_num, rfl, ⟨TO2, TA2, TB2, TE.out, TL, fun h => by cases h⟩⟩
                case measure => simp [intOf]; omega
              · rw [decide_eq_false he] at Q2
                have TE := Lib.hid (show ((out ++ [p]) ++ [q]) ++ putG p true (ps.drop (k + 1)) = putL ps p by rw [if_neg he] at heq; simpa using heq)
                have TL : ((out ++ [p]) ++ [q]).length ≤ k + 1 + 1 := by simp; omega
                clear heq he hn
                go_wp2_with fail
                refine wp_region_line (Bel wr) [(0, true), (1, true), (2, true), (3, true), (4, true), (5, true), (6, true), (7, true), (8, true), (9, true), (10, true), (11, true)] (by kernel_rfl) (by kernel_rfl) (fun _ _ d _ _ h => by cases d <;> exact h) (Bel.drew wr) ?_
                have hst := Bel.drew wr
                have inst : Nonempty (Of (Bel wr)) := ⟨⟨_, hst⟩⟩
                have g0 := bel_cell c0
                have g1 := bel_cell p0
                iterate 12 (refine line_read rfl (by kernel_rfl) (fun K hK => ?_); go_big_quiet_op; refine hK _ ?_; clear hK K)
                refine line_nil ?_
                have TO : OwnP wr.drew (w.heap.size + 1) (.slice va out.length vc) out := hT.own
                have TA : At w.heap.size p.vals wr.drew := hT.box.keep (fun _ => rfl)
                have TB := hT.bel.drew
                have ts : w.heap.size < wr.drew.heap.size := bsz
                clear hst inst g0 g1 c0 c1 c2 c3 c4 p0 hT hbs bsz
                generalize wr.drew = v1 at *
                have x0 := TA.cell 0 _ rfl
                have x1 := TA.cell 1 _ rfl
                have x2 := TA.cell 2 _ rfl
                have x3 := TA.cell 3 _ rfl
                have x4 := TA.cell 4 _ rfl
                go_wp2_with (at_builtin; refine wpList_append_src _ rfl (.tmp 52) (.tmp 54) 24 24 rfl (w.heap.size + 1) 31 i0 (P5 pin0) 5 48 Tryz.underlying24 hi0 hz0 hz1 hz2 rfl _ _ _ rfl (Own.alloc TO _) _ 1 p.vals rfl (src_new5 _ p _ _ _ Tryz.underlying24) (by simp only [maxLen]; first | omega | (simp only [List.length_append, List.length_cons, List.length_nil]; omega)) (by first | omega | (simp only [List.length_append, List.length_cons, List.length_nil]; omega)) (by simp; omega) ?_; intro v3 w3 hown hgrow hat)
                obtain ⟨TO', TA', TB'⟩ := put_app TO TA TB hown hgrow
                have ts' : w.heap.size < w3.heap.size := TA'.lt (by simp [PinD.vals])
                clear hown hgrow hat TO TA TB ts x0 x1 x2 x3 x4
                have TO := TO'
                have TA := TA'
                have TB := TB'
                have ts := ts'
                clear TO' TA' TB' ts'
                obtain ⟨b', off', hab', -, m0, m1, m2, m3, m4⟩ := (HR.out.below (TB.mono hB)).at' hlt
                injection hab' with hab'
                injection hab' with ea eb
                subst ea
                subst eb
                rw [hq] at m0 m1 m2 m3 m4
                have y0 := TA.cell 0 _ rfl
                go_wp2_with fail
                refine wp_region_line (Bel w3) [(0, true), (1, true), (2, true), (3, true), (4, true), (5, true), (6, true), (7, true)] (by kernel_rfl) (by kernel_rfl) (fun _ _ d _ _ h => by cases d <;> exact h) (Bel.drew w3) ?_
                have hst := Bel.drew w3
                have inst : Nonempty (Of (Bel w3)) := ⟨⟨_, hst⟩⟩
                have g0 := bel_cell m0
                have g1 := bel_cell y0
                iterate 8 (refine line_read rfl (by kernel_rfl) (fun K hK => ?_); go_big_quiet_op; refine hK _ ?_; clear hK K)
                refine line_nil ?_
                have TO2 : OwnP w3.drew (w.heap.size + 1) _ _ := TO
                have TA2 : At w.heap.size p.vals w3.drew := TA.keep (fun _ => rfl)
                have TB2 := TB.drew
                have ts2 : w.heap.size < w3.drew.heap.size := ts
                clear hst inst g0 g1 m0 m1 m2 m3 m4 y0 TO TA TB ts
                generalize w3.drew = v2 at *
                obtain ⟨b', off', hab', -, m0, m1, m2, m3, m4⟩ := (HR.out.below (TB2.mono hB)).at' hlt
                injection hab' with hab'
                injection hab' with ea eb
                subst ea
                subst eb
                rw [hq] at m0 m1 m2 m3 m4
                go_wp2_with (at_builtin; refine wpList_append_src _ rfl (.tmp 64) (.tmp 69) 24 24 rfl (w.heap.size + 1) 31 i0 (P5 pin0) 5 48 Tryz.underlying24 hi0 hz0 hz1 hz2 rfl _ _ _ rfl (Own.alloc TO2 _) _ 1 q.vals rfl (src_new5 _ q _ _ _ Tryz.underlying24) (by simp only [maxLen]; first | omega | (simp only [List.length_append, List.length_cons, List.length_nil]; omega)) (by first | omega | (simp only [List.length_append, List.length_cons, List.length_nil]; omega)) (by simp; omega) ?_; intro v3 w3 hown hgrow hat)
                obtain ⟨O3, A3, B3⟩ := put_app TO2 TA2 TB2 hown hgrow
                clear hown hgrow hat TO2 TA2 TB2 m0 m1 m2 m3 m4
                go_wp2_with fail
                go_roundw
                case rel => exact ⟨k + 1, true, _, by omega, by go_num, rfl, ⟨O3, A3, B3, TE.out, TL, fun h => by cases h⟩⟩
                case measure => simp [intOf]; omega
            · rw [hn] at Q1 heq
              have he : ¬ q.nm = p.nm := nlt_ne hn
              rw [decide_eq_false he] at Q2
              have TE := Lib.hid (show (out ++ [q]) ++ putG p false (ps.drop (k + 1)) = putL ps p by rw [if_neg he] at heq; simpa using heq)
              have TL : (out ++ [q]).length ≤ k + 1 + 1 := by simp; omega
              have TF : (out ++ [q]).length ≤ k + 1 := by simp; omega
              clear heq he hn
              go_wp2_with fail
              refine wp_region_line (Bel wr) [(0, true), (1, true), (2, true), (3, true), (4, true), (5, true), (6, true), (7, true), (8, true), (9, true), (10, true), (11, true)] (by kernel_rfl) (by kernel_rfl) (fun _ _ d _ _ h => by cases d <;> exact h) (Bel.drew wr) ?_
              have hst := Bel.drew wr
              have inst : Nonempty (Of (Bel wr)) := ⟨⟨_, hst⟩⟩
              have g0 := bel_cell c0
              have g1 := bel_cell p0
              iterate 12 (refine line_read rfl (by kernel_rfl) (fun K hK => ?_); go_big_quiet_op; refine hK _ ?_; clear hK K)
              refine line_nil ?_
              have TO : OwnP wr.drew (w.heap.size + 1) (.slice va out.length vc) out := hT.own
              have TA : At w.heap.size p.vals wr.drew := hT.box.keep (fun _ => rfl)
              have TB := hT.bel.drew
              have ts : w.heap.size < wr.drew.heap.size := bsz
              clear hst inst g0 g1 c0 c1 c2 c3 c4 p0 hT hbs bsz
              generalize wr.drew = v1 at *
              have x0 := TA.cell 0 _ rfl
              have x1 := TA.cell 1 _ rfl
              have x2 := TA.cell 2 _ rfl
              have x3 := TA.cell 3 _ rfl
              have x4 := TA.cell 4 _ rfl
              obtain ⟨b', off', hab', -, m0, m1, m2, m3, m4⟩ := (HR.out.below (TB.mono hB)).at' hlt
              injection hab' with hab'
              injection hab' with ea eb
              subst ea
              subst eb
              rw [hq] at m0 m1 m2 m3 m4
              have y0 := TA.cell 0 _ rfl
              go_wp2_with fail
              refine wp_region_line (Bel v1) [(0, true), (1, true), (2, true), (3, true), (4, true), (5, true), (6, true), (7, true)] (by kernel_rfl) (by kernel_rfl) (fun _ _ d _ _ h => by cases d <;> exact h) (Bel.drew v1) ?_
              have hst := Bel.drew v1
              have inst : Nonempty (Of (Bel v1)) := ⟨⟨_, hst⟩⟩
              have g0 := bel_cell m0
              have g1 := bel_cell y0
              iterate 8 (refine line_read rfl (by kernel_rfl) (fun K hK => ?_); go_big_quiet_op; refine hK _ ?_; clear hK K)
              refine line_nil ?_
              have TO2 : OwnP v1.drew (w.heap.size + 1) _ _ := TO
              have TA2 : At w.heap.size p.vals v1.drew := TA.keep (fun _ => rfl)
              have TB2 := TB.drew
              have ts2 : w.heap.size < v1.drew.heap.size := ts
              clear hst inst g0 g1 m0 m1 m2 m3 m4 y0 TO TA TB ts
              generalize v1.drew = v2 at *
              obtain ⟨b', off', hab', -, m0, m1, m2, m3, m4⟩ := (HR.out.below (TB2.mono hB)).at' hlt
              injection hab' with hab'
              injection hab' with ea eb
              subst ea
              subst eb
              rw [hq] at m0 m1 m2 m3 m4
              go_wp2_with (at_builtin; refine wpList_append_src _ rfl (.tmp 64) (.tmp 69) 24 24 rfl (w.heap.size + 1) 31 i0 (P5 pin0) 5 48 Tryz.underlying24 hi0 hz0 hz1 hz2 rfl _ _ _ rfl (Own.alloc TO2 _) _ 1 q.vals rfl (src_new5 _ q _ _ _ Tryz.underlying24) (by simp only [maxLen]; first | omega | (simp only [List.length_append, List.length_cons, List.length_nil]; omega)) (by first | omega | (simp only [List.length_append, List.length_cons, List.length_nil]; omega)) (by simp; omega) ?_; intro v3 w3 hown hgrow hat)
              obtain ⟨O3, A3, B3⟩ := put_app TO2 TA2 TB2 hown hgrow
              clear hown hgrow hat TO2 TA2 TB2 m0 m1 m2 m3 m4
              go_wp2_with fail
              go_roundw
              case rel => exact ⟨k + 1, false, _, by omega, by go_num, rfl, ⟨O3, A3, B3, TE.out, TL, fun _ => TF⟩⟩
              case measure => simp [intOf]; omega
          · by_cases he : q.nm = p.nm
            · rw [decide_eq_true he] at Q2
              have TE := Lib.hid (show out ++ putG p true (ps.drop (k + 1)) = putL ps p by rw [if_pos he] at heq; simpa using heq)
              have TL : out.length ≤ k + 1 + 1 := by omega
              clear heq he
              go_wp2_with fail
              refine wp_region_line (Bel wr) [(0, true), (1, true), (2, true), (3, true), (4, true), (5, true), (6, true), (7, true), (8, true), (9, true), (10, true), (11, true)] (by kernel_rfl) (by kernel_rfl) (fun _ _ d _ _ h => by cases d <;> exact h) (Bel.drew wr) ?_
              have hst := Bel.drew wr
              have inst : Nonempty (Of (Bel wr)) := ⟨⟨_, hst⟩⟩
              iterate 3 (refine line_read rfl (by kernel_rfl) (fun K hK => ?_); go_big_quiet_op; refine hK _ ?_; clear hK K)
              iterate 8 (refine line_skip rfl (by kernel_rfl) ?_; simp only [Act.put, List.setIfInBounds_toArray, List.set_cons_zero, List.set_cons_succ])
              iterate 1 (refine line_read rfl (by kernel_rfl) (fun K hK => ?_); go_big_quiet_op; refine hK _ ?_; clear hK K)
              refine line_nil ?_
              have TO : OwnP wr.drew (w.heap.size + 1) (.slice va out.length vc) out := hT.own
              have TA : At w.heap.size p.vals wr.drew := hT.box.keep (fun _ => rfl)
              have TB := hT.bel.drew
              have ts : w.heap.size < wr.drew.heap.size := bsz
              clear hst inst c0 c1 c2 c3 c4 p0 hT hbs bsz
              generalize wr.drew = v1 at *
              obtain ⟨b', off', hab', -, m0, m1, m2, m3, m4⟩ := (HR.out.below (TB.mono hB)).at' hlt
              injection hab' with hab'
              injection hab' with ea eb
              subst ea
              subst eb
              rw [hq] at m0 m1 m2 m3 m4
              have y0 := TA.cell 0 _ rfl
              go_wp2_with fail
              refine wp_region_line (Bel v1) [(0, true), (1, true), (2, true), (3, true), (4, true), (5, true), (6, true), (7, true)] (by kernel_rfl) (by kernel_rfl) (fun _ _ d _ _ h => by cases d <;> exact h) (Bel.drew v1) ?_
              have hst := Bel.drew v1
              have inst : Nonempty (Of (Bel v1)) := ⟨⟨_, hst⟩⟩
              have g0 := bel_cell m0
              have g1 := bel_cell y0
              iterate 8 (refine line_read rfl (by kernel_rfl) (fun K hK => ?_); go_big_quiet_op; refine hK _ ?_; clear hK K)
              refine line_nil ?_
              have TO2 : OwnP v1.drew (w.heap.size + 1) _ _ := TO
              have TA2 : At w.heap.size p.vals v1.drew := TA.keep (fun _ => rfl)
              have TB2 := TB.drew
              have ts2 : w.heap.size < v1.drew.heap.size := ts
              clear hst inst g0 g1 m0 m1 m2 m3 m4 y0 TO TA TB ts
              generalize v1.drew = v2 at *
              go_wp2_with fail
              go_roundw
              case rel => exact ⟨k + 1, true, _, by omega, by go_num, rfl, ⟨TO2, TA2, TB2, TE.out, TL, fun h => by cases h⟩⟩
              case measure => simp [intOf]; omega
            · rw [decide_eq_false he] at Q2
              have TE := Lib.hid (show (out ++ [q]) ++ putG p true (ps.drop (k + 1)) = putL ps p by rw [if_neg he] at heq; simpa using heq)
              have TL : (out ++ [q]).length ≤ k + 1 + 1 := by simp; omega
              clear heq he
              go_wp2_with fail
              refine wp_region_line (Bel wr) [(0, true), (1, true), (2, true), (3, true), (4, true), (5, true), (6, true), (7, true), (8, true), (9, true), (10, true), (11, true)] (by kernel_rfl) (by kernel_rfl) (fun _ _ d _ _ h => by cases d <;> exact h) (Bel.drew wr) ?_
              have hst := Bel.drew wr
              have inst : Nonempty (Of (Bel wr)) := ⟨⟨_, hst⟩⟩
              iterate 3 (refine line_read rfl (by kernel_rfl) (fun K hK => ?_); go_big_quiet_op; refine hK _ ?_; clear hK K)
              iterate 8 (refine line_skip rfl (by kernel_rfl) ?_; simp only [Act.put, List.setIfInBounds_toArray, List.set_cons_zero, List.set_cons_succ])
              iterate 1 (refine line_read rfl (by kernel_rfl) (fun K hK => ?_); go_big_quiet_op; refine hK _ ?_; clear hK K)
              refine line_nil ?_
              have TO : OwnP wr.drew (w.heap.size + 1) (.slice va out.length vc) out := hT.own
              have TA : At w.heap.size p.vals wr.drew := hT.box.keep (fun _ => rfl)
              have TB := hT.bel.drew
              have ts : w.heap.size < wr.drew.heap.size := bsz
              clear hst inst c0 c1 c2 c3 c4 p0 hT hbs bsz
              generalize wr.drew = v1 at *
              obtain ⟨b', off', hab', -, m0, m1, m2, m3, m4⟩ := (HR.out.below (TB.mono hB)).at' hlt
              injection hab' with hab'
              injection hab' with ea eb
              subst ea
              subst eb
              rw [hq] at m0 m1 m2 m3 m4
              have y0 := TA.cell 0 _ rfl
              go_wp2_with fail
              refine wp_region_line (Bel v1) [(0, true), (1, true), (2, true), (3, true), (4, true), (5, true), (6, true), (7, true)] (by kernel_rfl) (by kernel_rfl) (fun _ _ d _ _ h => by cases d <;> exact h) (Bel.drew v1) ?_
              have hst := Bel.drew v1
              have inst : Nonempty (Of (Bel v1)) := ⟨⟨_, hst⟩⟩
              have g0 := bel_cell m0
              have g1 := bel_cell y0
              iterate 8 (refine line_read rfl (by kernel_rfl) (fun K hK => ?_); go_big_quiet_op; refine hK _ ?_; clear hK K)
              refine line_nil ?_
              have TO2 : OwnP v1.drew (w.heap.size + 1) _ _ := TO
              have TA2 : At w.heap.size p.vals v1.drew := TA.keep (fun _ => rfl)
              have TB2 := TB.drew
              have ts2 : w.heap.size < v1.drew.heap.size := ts
              clear hst inst g0 g1 m0 m1 m2 m3 m4 y0 TO TA TB ts
              generalize v1.drew = v2 at *
              obtain ⟨b', off', hab', -, m0, m1, m2, m3, m4⟩ := (HR.out.below (TB2.mono hB)).at' hlt
              injection hab' with hab'
              injection hab' with ea eb
              subst ea
              subst eb
              rw [hq] at m0 m1 m2 m3 m4
              go_wp2_with (at_builtin; refine wpList_append_src _ rfl (.tmp 64) (.tmp 69) 24 24 rfl (w.heap.size + 1) 31 i0 (P5 pin0) 5 48 Tryz.underlying24 hi0 hz0 hz1 hz2 rfl _ _ _ rfl (Own.alloc TO2 _) _ 1 q.vals rfl (src_new5 _ q _ _ _ Tryz.underlying24) (by simp only [maxLen]; first | omega | (simp only [List.length_append, List.length_cons, List.length_nil]; omega)) (by first | omega | (simp only [List.length_append, List.length_cons, List.length_nil]; omega)) (by simp; omega) ?_; intro v3 w3 hown hgrow hat)
              obtain ⟨O3, A3, B3⟩ := put_app TO2 TA2 TB2 hown hgrow
              clear hown hgrow hat TO2 TA2 TB2 m0 m1 m2 m3 m4
              go_wp2_with fail
              go_roundw
              case rel => exact ⟨k + 1, true, _, by omega, by go_num, rfl, ⟨O3, A3, B3, TE.out, TL, fun h => by cases h⟩⟩
              case measure => simp [intOf]; omega
        · obtain rfl : k = len := by omega
          have e : ps.drop k = [] := List.drop_of_length_le (by rw [hL.out]; omega)
          have heq := hT.eq
          rw [e] at heq
          have e2 : put1 ps p = putL ps p := by unfold put1; rw [if_pos e1]
          cases d
          · have hO := hT.own
            have hA := hT.box
            have hb := hT.bel
            have HE := Lib.hid (show out ++ [p] = putL ps p from heq)
            have x0 := hA.cell 0 _ rfl
            have x1 := hA.cell 1 _ rfl
            have x2 := hA.cell 2 _ rfl
            have x3 := hA.cell 3 _ rfl
            have x4 := hA.cell 4 _ rfl
            clear hT heq
            go_wp2_with (at_builtin; refine wpList_append_src _ rfl (.tmp 73) (.tmp 75) 24 24 rfl (w.heap.size + 1) 31 i0 (P5 pin0) 5 48 Tryz.underlying24 hi0 hz0 hz1 hz2 rfl _ _ _ rfl (Own.alloc hO _) _ 1 p.vals rfl (src_new5 _ p _ _ _ Tryz.underlying24) (by simp only [maxLen]; first | omega | (simp only [List.length_append, List.length_cons, List.length_nil]; omega)) (by first | omega | (simp only [List.length_append, List.length_cons, List.length_nil]; omega)) (by simp; omega) ?_; intro v3 w3 hown hgrow hat)
            obtain ⟨O3, A3, B3⟩ := put_app hO hA hb hown hgrow
            obtain ⟨a3, c3, rfl, -⟩ := O3.form
            have H := Lib.hid (And.intro (O3.less (by omega : w.heap.size ≤ w.heap.size + 1)) B3)
            clear hown hgrow hat O3 A3 B3
            go_wp2_with fail
            refine bodyPost_ret (v := .tuple #[.slice a3 (out ++ [p]).length c3, .int .i64 0]) (by simp [results, Tryz.results152, go_sem]) rfl ⟨_, _, _, by rw [e1], by rw [e2, ← HE.out]; exact H.out.1, H.out.2⟩
          · have hO := hT.own
            have hb := hT.bel
            have HE := Lib.hid (show out = putL ps p by simpa [putG] using heq)
            have H := Lib.hid (And.intro (hO.less (by omega : w.heap.size ≤ w.heap.size + 1)) hb)
            clear hT heq hO hb
            go_wp2_with fail
            refine bodyPost_ret (v := .tuple #[.slice va out.length vc, .int .i64 0]) (by simp [results, Tryz.results152, go_sem]) rfl ⟨_, _, _, by rw [e1], by rw [e2, ← HE.out]; exact H.out.1, H.out.2⟩

theorem put0_code {ps : List PinD} {p : PinD} (h0 : pinsF ps = 0) (h1 : p.f = 0) : putC ps p = put0 ps p ∧ putR ps p = put1 ps p := by
  have hl := (pinsF_zero h0).1
  have e : putC ps p = put0 ps p := by
    cases hf : findP ps p.nm with
    | none =>
      by_cases h4 : ps.length = 4
      · rw [(putC_full h0 h1 hf h4).1, put0_full hf (by omega)]
      · rw [(putC_new h0 h1 hf h4).1, put0_new hf (by omega)]
    | some q =>
      by_cases he : p.e ≤ q.e
      · rw [(putC_old h0 h1 hf he).1, put0_old hf he]
      · rw [(putC_young h0 h1 hf he).1, put0_young hf he]
  exact ⟨e, by unfold putR put1; rw [e]⟩
end Go.Proofs.YtcolecidbalmhaaGreatDoor
namespace Go.Proofs.YtcolecidbalmhaaGreatDoor
open Go.RowKit
set_option maxRecDepth 100000
set_option linter.unusedVariables false

/-- The bytes ahead of a pin's name; the bytes of a pin. -/
def headP (a b e u : Int) : List Int := M.two a ++ M.two b ++ [e] ++ M.two u
theorem headP_length (a b e u : Int) : (headP a b e u).length = 7 := rfl
def packP (p : PinD) : List Int := headP p.a p.b p.e p.u ++ M.textL p.n
def packPL (p : PinD) : List Int := if p.f = 0 then packP p else []
theorem packP_length (p : PinD) : (packP p).length = 7 + p.n.size := by
  unfold packP
  rw [List.length_append, headP_length, M.textL_length]
theorem pin_bounds {p : PinD} (h : p.f = 0) : p.n.size ≤ 20 ∧ M.sumB p.a = true ∧ M.sumB p.b = true ∧ (1 ≤ p.e ∧ p.e ≤ 200) ∧ M.sumB p.u = true := by
  obtain ⟨-, h1, h2, h3, h4, -⟩ := pinF_zero h
  refine ⟨pin_size h, pub_sum6 h1, ?_, by simpa [epB] using h3, ?_⟩
  · simp only [bakB, Bool.or_eq_true, decide_eq_true_eq] at h2
    rcases h2 with h2 | h2
    · rw [h2]; rfl
    · exact pub_sum6 h2
  · simp only [timB, decide_eq_true_eq] at h4
    simp only [M.sumB, decide_eq_true_eq]
    omega
theorem packP_byte {p : PinD} (h : p.f = 0) : ∀ z ∈ packP p, M.byteB z := by
  intro z hz
  obtain ⟨-, h1, h2, h3, h4⟩ := pin_bounds h
  simp only [packP, headP, List.mem_append] at hz
  rcases hz with (((hz | hz) | hz) | hz) | hz
  · exact two_byte h1 z hz
  · exact two_byte h2 z hz
  · simp only [List.mem_cons, List.not_mem_nil, or_false] at hz
    unfold M.byteB
    omega
  · exact two_byte h4 z hz
  · exact M.textL_byte p.n z hz
theorem l7Pack_any (g : Nat) (p : PinD) (w : World) (hA : At g p.vals w) (h : p.f = 0) :
    Calls Tryz.prog 162 #[.pointer (some ⟨g, 0, none⟩)] w (Made (packP p) w) := by
  obtain ⟨hn, ha, hb, ⟨he0, he1⟩, hu⟩ := pin_bounds h
  have he2 : 0 ≤ p.e := by omega
  have hnm : p.n.size ≤ maxLen := size_max hn
  obtain ⟨i0, hi0, hz0, hz1, hz2⟩ := info_parts u8_info
  have hcv := fun (W : World) => run_bytes_of_string (P := Tryz.prog) W 9 22 5 p.n Tryz.underlying9 Tryz.underlying22 Tryz.underlying5
  have ltg := hA.lt (by simp [PinD.vals])
  clear h
  have d0 := hA.cell 0 _ rfl
  have d1 := hA.cell 1 _ rfl
  have d2 := hA.cell 2 _ rfl
  have d3 := hA.cell 3 _ rfl
  have d4 := hA.cell 4 _ rfl
  go_enter Tryz.func162, Tryz.ntmps162
  go_wp2_with fail
  refine wp_region_line (Bel w) [(0, true), (1, true), (2, true), (3, true), (5, true), (6, true), (7, true), (8, true), (4, false), (9, false), (10, false), (11, true)] (by kernel_rfl) (by kernel_rfl) (fun _ _ d _ _ h => by cases d <;> exact h) (Bel.drew w) ?_
  have hst := Bel.drew w
  have inst : Nonempty (Of (Bel w)) := ⟨⟨_, hst⟩⟩
  have u1 := bel_cell d1
  have u2 := bel_cell d2
  have eV := Lib.hid (show w.drew.heap.size = w.heap.size from rfl)
  generalize w.drew = V1 at *
  iterate 8 (refine line_read rfl (by kernel_rfl) (fun K hK => ?_); go_big_quiet_op; refine hK _ ?_; clear hK K)
  refine line_alone rfl (by kernel_rfl) (fun K hK => ?_)
  refine call_any (args := #[.int .i64 p.a]) rfl (by kernel_rfl) (by kernel_rfl) (l1Two_any p.a _ ha) ?_
  rintro e w3 ⟨rfl, rfl⟩
  have st3 := hst.on (bal (Below.refl _ V1) (.cells #[.int .u8 (p.a / 256), .int .u8 (p.a % 256)] 5))
  have O3 : OwnK .u8 (V1.alloc (.cells #[.int .u8 (p.a / 256), .int .u8 (p.a % 256)] 5)) w.heap.size (.slice (some ⟨V1.heap.size, 0, none⟩) 2 2) (M.two p.a) := own_lit (k := .u8) V1 (M.two p.a) 2 5 (B := w.heap.size) (by have := eV.out; omega) rfl (by simp only [maxLen]; omega)
  refine ⟨_, rfl, hK _ _ st3 ?_⟩
  clear hK K hst
  simp only [Act.put, List.setIfInBounds_toArray, List.set_cons_zero, List.set_cons_succ]
  generalize V1.alloc (.cells #[.int .u8 (p.a / 256), .int .u8 (p.a % 256)] 5) = V2 at *
  refine line_alone rfl (by kernel_rfl) (fun K hK => ?_)
  refine call_any (args := #[.int .i64 p.b]) rfl (by kernel_rfl) (by kernel_rfl) (l1Two_any p.b _ hb) ?_
  rintro e w4 ⟨rfl, rfl⟩
  have st4 := st3.on (bal (Below.refl _ V2) (.cells #[.int .u8 (p.b / 256), .int .u8 (p.b % 256)] 5))
  refine ⟨_, rfl, hK _ _ st4 ?_⟩
  clear hK K
  simp only [Act.put, List.setIfInBounds_toArray, List.set_cons_zero, List.set_cons_succ]
  refine line_alone rfl (by kernel_rfl) (fun K hK => ?_)
  refine wp_append_src _ (.tmp 8) (.tmp 13) 22 22 rfl w.heap.size 5 i0 (.int .u8 0) 1 1 Tryz.underlying22 hi0 hz0 hz1 hz2 rfl _ 2 ((M.two p.a).map (Value.int .u8)) rfl (Own.alloc O3 _) _ 2 [.int .u8 (p.b / 256), .int .u8 (p.b % 256)] rfl (src_new V2 _ 2 2 _ _ _ Tryz.underlying22 rfl (ints_oneCell .u8 [p.b / 256, p.b % 256])) (by simp only [maxLen]; omega) (by omega) (by have := st3.out.size; simp; omega) (fun v5 w5 hown hgrow hat => ?_)
  have b5 : Below w.heap.size w w5 := (Own.alloc O3 (.cells #[.int .u8 (p.b / 256), .int .u8 (p.b % 256)] 5)).grown st4.out (by have := st3.out.size; simp; omega) hgrow
  have O5 : OwnK .u8 w5 w.heap.size v5 (M.two p.a ++ M.two p.b) := by unfold OwnK; simpa [M.two] using hown
  refine hK _ _ ⟨b5⟩ ?_
  clear hK K st3 st4 O3 hown hgrow hat inst u1 u2 eV
  simp only [Act.put, List.setIfInBounds_toArray, List.set_cons_zero, List.set_cons_succ]
  have inst : Nonempty (Of (Bel w)) := ⟨⟨_, ⟨b5⟩⟩⟩
  iterate 1 (refine line_read rfl (by kernel_rfl) (fun K hK => ?_); go_big_quiet_op; refine hK _ ?_; clear hK K)
  refine line_nil ?_
  have S0 : Bel w w5.drew := ⟨b5.drew⟩
  have O5d : OwnK .u8 w5.drew w.heap.size v5 (M.two p.a ++ M.two p.b) := O5
  have hz5 : w.heap.size ≤ w5.drew.heap.size := b5.size
  clear inst b5 O5
  go_wp2_with fail
  refine wp_region_line (Bel w) [(0, true), (1, true), (2, true), (3, true), (4, true), (5, true), (8, true), (9, true), (10, true), (11, true), (6, false), (7, false), (12, false), (13, false), (14, true)] (by kernel_rfl) (by kernel_rfl) (fun _ _ d _ _ h => by cases d <;> exact h) S0 ?_
  have hst := S0
  have inst : Nonempty (Of (Bel w)) := ⟨⟨_, hst⟩⟩
  have u3 := bel_cell d3
  have u4 := bel_cell d4
  generalize w5.drew = V5 at *
  clear S0
  iterate 10 (refine line_read rfl (by kernel_rfl) (fun K hK => ?_); go_big_quiet_op; refine hK _ ?_; clear hK K)
  refine line_alone rfl (by kernel_rfl) (fun K hK => ?_)
  go_big_op
  refine hK _ _ (hst.on (bal (Below.refl _ V5) _)) ?_
  clear hK K
  have O6 := O5d.alloc (.cells #[.int .u8 p.e] 5)
  have st6 := hst.on (bal (Below.refl _ V5) (.cells #[.int .u8 p.e] 5))
  refine line_alone rfl (by kernel_rfl) (fun K hK => ?_)
  refine wp_append_src _ (.tmp 15) (.tmp 21) 22 22 rfl w.heap.size 5 i0 (.int .u8 0) 1 1 Tryz.underlying22 hi0 hz0 hz1 hz2 rfl _ 4 ((M.two p.a ++ M.two p.b).map (Value.int .u8)) rfl O6 _ 1 [.int .u8 p.e] rfl (src_new V5 _ 1 1 _ _ _ Tryz.underlying22 rfl (ints_oneCell .u8 [p.e])) (by simp only [maxLen]; omega) (by omega) (by simp; omega) (fun v7 w7 hown hgrow hat => ?_)
  have b7 : Below w.heap.size w w7 := Own.grown O6 st6.out st6.out.size hgrow
  have O7 : OwnK .u8 w7 w.heap.size v7 (M.two p.a ++ M.two p.b ++ [p.e]) := by unfold OwnK; simpa [M.two] using hown
  refine hK _ _ ⟨b7⟩ ?_
  clear hK K st6 O6 O5d hown hgrow hat hst
  simp only [Act.put, List.setIfInBounds_toArray, List.set_cons_zero, List.set_cons_succ]
  refine line_alone rfl (by kernel_rfl) (fun K hK => ?_)
  refine call_any (args := #[.int .i64 p.u]) rfl (by kernel_rfl) (by kernel_rfl) (l1Two_any p.u _ hu) ?_
  rintro e w8 ⟨rfl, rfl⟩
  have st8 : Bel w (w7.alloc (.cells #[.int .u8 (p.u / 256), .int .u8 (p.u % 256)] 5)) := ⟨bal b7 _⟩
  refine ⟨_, rfl, hK _ _ st8 ?_⟩
  clear hK K
  simp only [Act.put, List.setIfInBounds_toArray, List.set_cons_zero, List.set_cons_succ]
  refine line_alone rfl (by kernel_rfl) (fun K hK => ?_)
  refine wp_append_src _ (.tmp 22) (.tmp 27) 22 22 rfl w.heap.size 5 i0 (.int .u8 0) 1 1 Tryz.underlying22 hi0 hz0 hz1 hz2 rfl _ 5 ((M.two p.a ++ M.two p.b ++ [p.e]).map (Value.int .u8)) rfl (Own.alloc O7 _) _ 2 [.int .u8 (p.u / 256), .int .u8 (p.u % 256)] rfl (src_new w7 _ 2 2 _ _ _ Tryz.underlying22 rfl (ints_oneCell .u8 [p.u / 256, p.u % 256])) (by simp only [maxLen]; omega) (by omega) (by have := b7.size; simp; omega) (fun v9 w9 hown hgrow hat => ?_)
  have b9 : Below w.heap.size w w9 := (Own.alloc O7 (.cells #[.int .u8 (p.u / 256), .int .u8 (p.u % 256)] 5)).grown st8.out (by have := b7.size; simp; omega) hgrow
  have O9 : OwnK .u8 w9 w.heap.size v9 (headP p.a p.b p.e p.u) := by unfold OwnK headP; simpa [M.two] using hown
  refine hK _ _ ⟨b9⟩ ?_
  clear hK K st8 O7 b7 hown hgrow hat u3 u4 inst
  simp only [Act.put, List.setIfInBounds_toArray, List.set_cons_zero, List.set_cons_succ]
  have inst : Nonempty (Of (Bel w)) := ⟨⟨_, ⟨b9⟩⟩⟩
  iterate 1 (refine line_read rfl (by kernel_rfl) (fun K hK => ?_); go_big_quiet_op; refine hK _ ?_; clear hK K)
  refine line_nil ?_
  have hz4 := b9.size
  have x0 := (hA.on b9).cell 0 _ rfl
  have hsrc := text_src w9 p.n hnm
  have O10 := (O9.alloc (textObj w9 p.n 5)).drew
  have b10 := (bal b9 (textObj w9 p.n 5)).drew
  clear hA d0 d1 d2 d3 d4 inst
  go_wp2_with (at_builtin; refine wpList_append_src _ rfl (.tmp 29) (.tmp 34) 22 22 rfl w.heap.size 5 i0 (.int .u8 0) 1 1 Tryz.underlying22 hi0 hz0 hz1 hz2 rfl _ _ _ rfl O10 _ p.n.size _ rfl hsrc (by rw [headP_length]; simp only [maxLen]; omega) (by rw [headP_length]; omega) (by simp; omega) ?_; intro v5 w5 hown hgrow hat)
  have O11 : OwnK .u8 w5 w.heap.size v5 (packP p) := by
    unfold OwnK packP
    rw [List.length_append, M.textL_length]
    simpa using hown
  have b11 : Below w.heap.size w w5 := O10.grown b10 (by simp; omega) hgrow
  obtain ⟨a6, c6, hv6, -⟩ := O11.form
  have HT := Lib.hid (And.intro O11 b11)
  clear hown hgrow hat O10 O11 b10 b11 hsrc O9 b9 hcv
  subst hv6
  go_wp2_with fail
  go_ret
  exact ⟨_, _, _, rfl, HT.out.1, HT.out.2⟩
end Go.Proofs.YtcolecidbalmhaaGreatDoor
namespace Go.Proofs.YtcolecidbalmhaaGreatDoor
open Go.RowKit
set_option maxRecDepth 100000
set_option linter.unusedVariables false

/-- While something is drawn: the source, and the result's block. -/
structure DrwP (w0 : World) (a : Option Addr) (len cap : Nat) (zs : List Int) (p : Nat) (w : World) (rb : Nat) (rs : List Value) (cur : World) : Prop where
  draw : Draw w0 a len cap zs p cur
  grew : w.grownBy cur (some w0.heap.size)
  res : At rb rs cur
section
variable {w0 : World} {a : Option Addr} {len cap : Nat} {zs : List Int} {p p' : Nat} {w : World} {rb tb : Nat} {rs cs : List Value} {cur cur' : World}
theorem DrwP.only (h : DrwP w0 a len cap zs p w rb rs cur) (hO : Only w0.heap.size cur cur') (D : Draw w0 a len cap zs p' cur') (h1 : rb ≠ w0.heap.size) : DrwP w0 a len cap zs p' w rb rs cur' :=
  ⟨D, gtr h.grew hO.grown, h.res.only5 hO h1⟩
theorem DrwP.kept (h : DrwP w0 a len cap zs p w rb rs cur) (hO : cur.grownBy cur' (some w0.heap.size)) (D : Draw w0 a len cap zs p' cur') (h1 : rb ≠ w0.heap.size) : DrwP w0 a len cap zs p' w rb rs cur' :=
  ⟨D, gtr h.grew hO, h.res.kept hO (fun e => by injection e with e; exact h1 e)⟩
theorem DrwP.on (h : DrwP w0 a len cap zs p w rb rs cur) (hb : Below cur.heap.size cur cur') : DrwP w0 a len cap zs p w rb rs cur' := ⟨h.draw.below hb, gbe h.grew hb, h.res.on hb⟩
theorem DrwP.alloc (h : DrwP w0 a len cap zs p w rb rs cur) (o : Obj) : DrwP w0 a len cap zs p w rb rs (cur.alloc o) := ⟨h.draw.alloc o, gal h.grew o, h.res.alloc o⟩
/-- And a second block. -/
structure BentP (w0 : World) (a : Option Addr) (len cap : Nat) (zs : List Int) (p : Nat) (w : World) (rb : Nat) (rs : List Value) (tb : Nat) (cs : List Value) (cur : World) : Prop where
  drw : DrwP w0 a len cap zs p w rb rs cur
  one : At tb cs cur
theorem BentP.only (h : BentP w0 a len cap zs p w rb rs tb cs cur) (hO : Only w0.heap.size cur cur') (D : Draw w0 a len cap zs p' cur') (h1 : rb ≠ w0.heap.size) (h2 : tb ≠ w0.heap.size) : BentP w0 a len cap zs p' w rb rs tb cs cur' :=
  ⟨h.drw.only hO D h1, h.one.only5 hO h2⟩
theorem BentP.kept (h : BentP w0 a len cap zs p w rb rs tb cs cur) (hO : cur.grownBy cur' (some w0.heap.size)) (D : Draw w0 a len cap zs p' cur') (h1 : rb ≠ w0.heap.size) (h2 : tb ≠ w0.heap.size) : BentP w0 a len cap zs p' w rb rs tb cs cur' :=
  ⟨h.drw.kept hO D h1, h.one.kept hO (fun e => by injection e with e; exact h2 e)⟩
theorem BentP.alloc (h : BentP w0 a len cap zs p w rb rs tb cs cur) (o : Obj) : BentP w0 a len cap zs p w rb rs tb cs (cur.alloc o) := ⟨h.drw.alloc o, h.one.alloc o⟩
theorem BentP.put (i : Nat) (x : Value) (h : BentP w0 a len cap zs p w rb rs tb cs cur) (h1 : rb ≠ tb) (h2 : w0.heap.size < tb) (h3 : w.heap.size ≤ tb) : BentP w0 a len cap zs p w rb rs tb (cs.set i x) (cur.setCell ⟨tb, i, none⟩ x) :=
  ⟨⟨h.drw.draw.put h2 x, gset h.drw.grew h3 x, h.drw.res.setB (p := ⟨tb, i, none⟩) h1 x⟩, h.one.set i x⟩
end
/-- A pin was drawn. -/
def DPin (K : Nat) (Q : PinD → Prop) (w0 : World) (a : Option Addr) (len cap : Nat) (zs : List Int) (w : World) (e : Ending) (w' : World) : Prop :=
  ∃ (q : PinD) (p : Nat), Q q ∧ p ≤ K ∧ e = .returned (P5 q) ∧ Draw w0 a len cap zs p w' ∧ w.grownBy w' (some w0.heap.size)
theorem dl7Public {w0 : World} {a : Option Addr} {len cap : Nat} {zs : List Int} {p : Nat} {w : World} (D : Draw w0 a len cap zs p w) (hp : p ≤ 1000) :
    Calls Tryz.prog 140 #[.pointer (some ⟨w0.heap.size, 0, none⟩)] w fun r w' => ∃ v : Int, pubB v = true ∧ r = .returned (.int .i64 v) ∧ Draw w0 a len cap zs (p + 1) w' ∧ w.grownBy w' (some w0.heap.size) := by
  have g1 := key1
  go_enter Tryz.func140, Tryz.ntmps140
  go_wp2_with fail
  refine (dnext 4 D (by omega)).mono ?_
  rintro r w1 ⟨x, x0, x1, rfl, D1, O1⟩
  have hx : x < 4 := by omega
  have hpub := pub_base (a := 1 + x) (by omega) (by omega)
  clear x1 D
  go_wp2_with fail
  refine (l1Key_any _ _ (by omega) (by omega)).mono ?_
  rintro r w2 ⟨rfl, b2⟩
  generalize M.pw 4 (1 + x).toNat 2879 = v at *
  have HD := Lib.hid (And.intro (D1.below b2) (gbe O1.grown b2))
  clear D1 O1 b2
  go_wp2_with fail
  go_ret
  exact ⟨v, hpub, rfl, HD.out.1, HD.out.2⟩

theorem pub_two {v : Int} (h : pubB v = true) : 2 ≤ v := by
  simp only [pubB, inB, Bool.and_eq_true, decide_eq_true_eq] at h
  omega
theorem drawn_ok {n : ByteArray} {a b e u : Int} (hn : n.size ≤ 20 ∧ M.normF n.data.toList = 0) (ha : pubB a = true) (hb : b = 0 ∨ pubB b = true) (hba : b ≠ a) (he : 1 ≤ e ∧ e ≤ 200) (hu : 0 ≤ u ∧ u ≤ 9999) : (PinD.mk n a b e u).f = 0 := by
  refine pinF_yes hn.2 ?_ hba
  have h1 : bakB b = true := by
    unfold bakB
    rcases hb with hb | hb <;> simp [hb]
  have h2 : epB e = true := by simp [epB]; omega
  have h3 : timB u = true := by simp [timB]; omega
  simp [pinB, ha, h1, h2, h3]
abbrev pinZero : List Value := [.string { data := #[] }, .int .i64 0, .int .i64 0, .int .i64 0, .int .i64 0]
set_option maxHeartbeats 1000000 in
theorem dl7Draw {w0 : World} {a : Option Addr} {len cap : Nat} {zs : List Int} {p0 : Nat} {w : World} (D : Draw w0 a len cap zs p0 w) (hp0 : p0 ≤ 500) :
    Calls Tryz.prog 73 #[.pointer (some ⟨w0.heap.size, 0, none⟩)] w (DPin (p0 + 6) (fun q => q.f = 0) w0 a len cap zs w) := by
  have hlt := D.lt
  have R0 : DrwP w0 a len cap zs p0 w w.heap.size pinZero (w.alloc (.cells #[.string { data := #[] }, .int .i64 0, .int .i64 0, .int .i64 0, .int .i64 0] 31)) :=
    ⟨D.alloc _, gal (World.grownBy.refl w (some w0.heap.size)) _, At.new w pinZero 31⟩
  go_enter Tryz.func73, Tryz.ntmps73
  go_wp2_with fail
  generalize w.alloc (.cells #[.string { data := #[] }, .int .i64 0, .int .i64 0, .int .i64 0, .int .i64 0] 31) = W0 at *
  refine (dl5DrawName R0.draw (by omega)).mono ?_
  rintro r w1 ⟨n, hn, rfl, D1, g1⟩
  have HN := Lib.hid hn
  have R1 := R0.kept g1 D1 (by omega)
  clear D R0 D1 g1 hn
  go_wp2_with fail
  refine (dl7Public R1.draw (by omega)).mono ?_
  rintro r w2 ⟨ac, hac, rfl, D2, g2⟩
  have HAC := Lib.hid hac
  have R2 := R1.kept g2 D2 (by omega)
  clear R1 D2 g2 hac
  go_wp2_with fail
  refine (dnext 3 R2.draw (by omega)).mono ?_
  rintro r w3 ⟨e, e0, e1, rfl, D3, O3⟩
  have he : e < 3 := by omega
  have R3 := R2.only O3 D3 (by omega)
  clear R2 D3 O3 e1
  go_wp2_with fail
  refine (dpick [0, 50, 9999] 3 R3.draw (by omega) (by omega) (by omega) rfl 2).mono ?_
  rintro r w4 ⟨u, hu, rfl, D4, O4⟩
  have HU := Lib.hid (show 0 ≤ u ∧ u ≤ 9999 by simp at hu; omega)
  have R4 := (R3.alloc (.cells #[.int .i64 0, .int .i64 50, .int .i64 9999] 2)).only O4 D4 (by omega)
  have lt4 := R4.res.lt (by simp)
  have B4 : BentP w0 a len cap zs (p0 + 1 + 1 + 1 + 1) w w.heap.size pinZero w4.heap.size [.string n, .int .i64 ac, .int .i64 0, .int .i64 (1 + e), .int .i64 u] (w4.alloc (.cells #[.string n, .int .i64 ac, .int .i64 0, .int .i64 (1 + e), .int .i64 u] 31)) :=
    ⟨R4.alloc _, At.new w4 [.string n, .int .i64 ac, .int .i64 0, .int .i64 (1 + e), .int .i64 u] 31⟩
  clear R3 R4 D4 O4 hu
  go_wp2_with fail
  generalize w4.alloc (.cells #[.string n, .int .i64 ac, .int .i64 0, .int .i64 (1 + e), .int .i64 u] 31) = v4 at *
  refine (dl7Public B4.drw.draw (by omega)).mono ?_
  rintro r w5 ⟨b, hb, rfl, D5, g5⟩
  have HBB := Lib.hid hb
  have B5 := B4.kept g5 D5 (by omega) (by omega)
  have hac2 := pub_two HAC.out
  clear B4 D5 g5 hb
  by_cases hba : b = ac
  · subst hba
    have x0 := B5.one.cell 0 _ rfl
    have x1 := B5.one.cell 1 _ rfl
    have x2 := B5.one.cell 2 _ rfl
    have x3 := B5.one.cell 3 _ rfl
    have x4 := B5.one.cell 4 _ rfl
    have B6 := B5
    have q0 := B5.drw.res.cell 0 _ rfl
    have q1 := B5.drw.res.cell 1 _ rfl
    have q2 := B5.drw.res.cell 2 _ rfl
    have q3 := B5.drw.res.cell 3 _ rfl
    have q4 := B5.drw.res.cell 4 _ rfl
    have z0 := B5.drw.res.free 0 _ rfl
    have z1 := B5.drw.res.free 1 _ rfl
    have z2 := B5.drw.res.free 2 _ rfl
    have z3 := B5.drw.res.free 3 _ rfl
    have z4 := B5.drw.res.free 4 _ rfl
    have x0 := B5.one.cell 0 _ rfl
    have x1 := B5.one.cell 1 _ rfl
    have x2 := B5.one.cell 2 _ rfl
    have x3 := B5.one.cell 3 _ rfl
    have x4 := B5.one.cell 4 _ rfl
    have f0 := B5.one.free 0 _ rfl
    have f1 := B5.one.free 1 _ rfl
    have f2 := B5.one.free 2 _ rfl
    have f3 := B5.one.free 3 _ rfl
    have f4 := B5.one.free 4 _ rfl
    have hrb : w.heap.size ≠ w4.heap.size := by omega
    have HB := Lib.hid B6
    clear B5 B6
    go_wp2_with fail
    refine bodyPost_ret (v := P5 ⟨n, b, 0, 1 + e, u⟩) (by simp [results, Tryz.results73, go_sem, q0, q1, q2, q3, q4]) rfl ?_
    refine ⟨_, p0 + 1 + 1 + 1 + 1 + 1, drawn_ok HN.out HAC.out (.inl rfl) (by omega) (by omega) HU.out, by omega, rfl, ?hd, ?hg⟩
    case hd =>
      iterate 5 (refine Draw.put ?_ (by dsimp only; omega) _)
      exact HB.out.drw.draw
    case hg =>
      iterate 5 (refine gset ?_ (Nat.le_refl _) _)
      exact HB.out.drw.grew
  · have nba : (b == ac) = false := by rw [beq_eq_false_iff_ne]; exact hba
    have x0 := B5.one.cell 0 _ rfl
    have x1 := B5.one.cell 1 _ rfl
    have x2 := B5.one.cell 2 _ rfl
    have x3 := B5.one.cell 3 _ rfl
    have x4 := B5.one.cell 4 _ rfl
    go_wp2_with fail
    refine (l1Chance_any 2 B5.drw.draw (by omega)).mono ?_
    rintro r w6 ⟨c, rfl, D6, O6⟩
    have B6 := B5.only O6 D6 (by omega) (by omega)
    clear B5 D6 O6 x0 x1 x2 x3 x4
    cases c
    · have B7 := B6
      have q0 := B6.drw.res.cell 0 _ rfl
      have q1 := B6.drw.res.cell 1 _ rfl
      have q2 := B6.drw.res.cell 2 _ rfl
      have q3 := B6.drw.res.cell 3 _ rfl
      have q4 := B6.drw.res.cell 4 _ rfl
      have z0 := B6.drw.res.free 0 _ rfl
      have z1 := B6.drw.res.free 1 _ rfl
      have z2 := B6.drw.res.free 2 _ rfl
      have z3 := B6.drw.res.free 3 _ rfl
      have z4 := B6.drw.res.free 4 _ rfl
      have x0 := B6.one.cell 0 _ rfl
      have x1 := B6.one.cell 1 _ rfl
      have x2 := B6.one.cell 2 _ rfl
      have x3 := B6.one.cell 3 _ rfl
      have x4 := B6.one.cell 4 _ rfl
      have f0 := B6.one.free 0 _ rfl
      have f1 := B6.one.free 1 _ rfl
      have f2 := B6.one.free 2 _ rfl
      have f3 := B6.one.free 3 _ rfl
      have f4 := B6.one.free 4 _ rfl
      have hrb : w.heap.size ≠ w4.heap.size := by omega
      have HB := Lib.hid B7
      clear B6 B7
      go_wp2_with fail
      refine bodyPost_ret (v := P5 ⟨n, ac, 0, 1 + e, u⟩) (by simp [results, Tryz.results73, go_sem, q0, q1, q2, q3, q4]) rfl ?_
      refine ⟨_, p0 + 1 + 1 + 1 + 1 + 1 + 1, drawn_ok HN.out HAC.out (.inl rfl) (by omega) (by omega) HU.out, by omega, rfl, ?hd, ?hg⟩
      case hd =>
        iterate 5 (refine Draw.put ?_ (by dsimp only; omega) _)
        exact HB.out.drw.draw
      case hg =>
        iterate 5 (refine gset ?_ (Nat.le_refl _) _)
        exact HB.out.drw.grew
    · have B7 := B6.put 2 (.int .i64 b) (by omega) (by omega) (by omega)
      have q0 := B6.drw.res.cell 0 _ rfl
      have q1 := B6.drw.res.cell 1 _ rfl
      have q2 := B6.drw.res.cell 2 _ rfl
      have q3 := B6.drw.res.cell 3 _ rfl
      have q4 := B6.drw.res.cell 4 _ rfl
      have z0 := B6.drw.res.free 0 _ rfl
      have z1 := B6.drw.res.free 1 _ rfl
      have z2 := B6.drw.res.free 2 _ rfl
      have z3 := B6.drw.res.free 3 _ rfl
      have z4 := B6.drw.res.free 4 _ rfl
      have x0 := B6.one.cell 0 _ rfl
      have x1 := B6.one.cell 1 _ rfl
      have x2 := B6.one.cell 2 _ rfl
      have x3 := B6.one.cell 3 _ rfl
      have x4 := B6.one.cell 4 _ rfl
      have f0 := B6.one.free 0 _ rfl
      have f1 := B6.one.free 1 _ rfl
      have f2 := B6.one.free 2 _ rfl
      have f3 := B6.one.free 3 _ rfl
      have f4 := B6.one.free 4 _ rfl
      have hrb : w.heap.size ≠ w4.heap.size := by omega
      have HB := Lib.hid B7
      clear B6 B7
      go_wp2_with fail
      refine bodyPost_ret (v := P5 ⟨n, ac, b, 1 + e, u⟩) (by simp [results, Tryz.results73, go_sem, q0, q1, q2, q3, q4]) rfl ?_
      refine ⟨_, p0 + 1 + 1 + 1 + 1 + 1 + 1, drawn_ok HN.out HAC.out (.inr HBB.out) hba (by omega) HU.out, by omega, rfl, ?hd, ?hg⟩
      case hd =>
        iterate 5 (refine Draw.put ?_ (by dsimp only; omega) _)
        exact HB.out.drw.draw
      case hg =>
        iterate 5 (refine gset ?_ (Nat.le_refl _) _)
        exact HB.out.drw.grew

set_option maxHeartbeats 1000000 in
theorem dl7Bent {w0 : World} {a : Option Addr} {len cap : Nat} {zs : List Int} {p0 : Nat} {w : World} (D : Draw w0 a len cap zs p0 w) (hp0 : p0 ≤ 500) :
    Calls Tryz.prog 66 #[.pointer (some ⟨w0.heap.size, 0, none⟩)] w (DPin (p0 + 8) (fun q => q.n.size ≤ 21) w0 a len cap zs w) := by
  have hlt := D.lt
  have R0 : DrwP w0 a len cap zs p0 w w.heap.size pinZero (w.alloc (.cells #[.string { data := #[] }, .int .i64 0, .int .i64 0, .int .i64 0, .int .i64 0] 31)) :=
    ⟨D.alloc _, gal (World.grownBy.refl w (some w0.heap.size)) _, At.new w pinZero 31⟩
  go_enter Tryz.func66, Tryz.ntmps66
  go_wp2_with fail
  generalize w.alloc (.cells #[.string { data := #[] }, .int .i64 0, .int .i64 0, .int .i64 0, .int .i64 0] 31) = W0 at *
  refine (dl7Draw R0.draw hp0).mono ?_
  rintro r w4 ⟨⟨n, ac, bk, e, u⟩, p, hf, hp, rfl, D1, g1⟩
  have hn : n.size ≤ 21 := by have := pin_size hf; dsimp only at this; omega
  have R1 := R0.kept g1 D1 (by omega)
  have lt4 := R1.res.lt (by simp)
  have B1 : BentP w0 a len cap zs p w w.heap.size pinZero w4.heap.size [.string n, .int .i64 ac, .int .i64 bk, .int .i64 e, .int .i64 u] (w4.alloc (.cells #[.string n, .int .i64 ac, .int .i64 bk, .int .i64 e, .int .i64 u] 31)) :=
    ⟨R1.alloc _, At.new w4 [.string n, .int .i64 ac, .int .i64 bk, .int .i64 e, .int .i64 u] 31⟩
  clear D R0 R1 D1 g1 hf
  go_wp2_with fail
  generalize w4.alloc (.cells #[.string n, .int .i64 ac, .int .i64 bk, .int .i64 e, .int .i64 u] 31) = v4 at *
  refine (dnext 10 B1.drw.draw (by omega)).mono ?_
  rintro r w5 ⟨sw, t0, t1, rfl, D2, O2⟩
  have B2 := B1.only O2 D2 (by omega) (by omega)
  clear B1 D2 O2 t1
  by_cases e0 : sw = 0
  · subst e0
    go_wp2_with fail
    refine (dl5Bent B2.drw.draw (by omega)).mono ?_
    rintro r w6 ⟨m, hs, rfl, D3, g3⟩
    have B3 := B2.kept g3 D3 (by omega) (by omega)
    have B4 := B3.put 0 (.string m) (by omega) (by omega) (by omega)
    clear B2 D3 g3
    have q0 := B3.drw.res.cell 0 _ rfl
    have q1 := B3.drw.res.cell 1 _ rfl
    have q2 := B3.drw.res.cell 2 _ rfl
    have q3 := B3.drw.res.cell 3 _ rfl
    have q4 := B3.drw.res.cell 4 _ rfl
    have z0 := B3.drw.res.free 0 _ rfl
    have z1 := B3.drw.res.free 1 _ rfl
    have z2 := B3.drw.res.free 2 _ rfl
    have z3 := B3.drw.res.free 3 _ rfl
    have z4 := B3.drw.res.free 4 _ rfl
    have x0 := B3.one.cell 0 _ rfl
    have x1 := B3.one.cell 1 _ rfl
    have x2 := B3.one.cell 2 _ rfl
    have x3 := B3.one.cell 3 _ rfl
    have x4 := B3.one.cell 4 _ rfl
    have f0 := B3.one.free 0 _ rfl
    have f1 := B3.one.free 1 _ rfl
    have f2 := B3.one.free 2 _ rfl
    have f3 := B3.one.free 3 _ rfl
    have f4 := B3.one.free 4 _ rfl
    have hrb : w.heap.size ≠ w4.heap.size := by omega
    have HB := Lib.hid B4
    clear B3 B4
    go_wp2_with fail
    refine bodyPost_ret (v := P5 ⟨m, ac, bk, e, u⟩) (by simp [results, Tryz.results66, go_sem, q0, q1, q2, q3, q4]) rfl ?_
    refine ⟨_, p + 1 + 1, hs, by omega, rfl, ?hd, ?hg⟩
    case hd =>
      iterate 5 (refine Draw.put ?_ (by dsimp only; omega) _)
      exact HB.out.drw.draw
    case hg =>
      iterate 5 (refine gset ?_ (Nat.le_refl _) _)
      exact HB.out.drw.grew
  by_cases e1 : sw = 1
  · subst e1
    have y0 := B2.one.cell 0 _ rfl
    have y1 := B2.one.cell 1 _ rfl
    have y2 := B2.one.cell 2 _ rfl
    have y3 := B2.one.cell 3 _ rfl
    have y4 := B2.one.cell 4 _ rfl
    go_wp2_with fail
    refine (dpick [ac, 5] 2 B2.drw.draw (by omega) (by omega) (by omega) rfl 2).mono ?_
    rintro r w6 ⟨y, hy, rfl, D3, O3⟩
    have B3 := (B2.alloc (.cells #[.int .i64 ac, .int .i64 5] 2)).only O3 D3 (by omega) (by omega)
    have B4 := B3.put 2 (.int .i64 y) (by omega) (by omega) (by omega)
    clear B2 D3 O3 hy y0 y1 y2 y3 y4
    have q0 := B3.drw.res.cell 0 _ rfl
    have q1 := B3.drw.res.cell 1 _ rfl
    have q2 := B3.drw.res.cell 2 _ rfl
    have q3 := B3.drw.res.cell 3 _ rfl
    have q4 := B3.drw.res.cell 4 _ rfl
    have z0 := B3.drw.res.free 0 _ rfl
    have z1 := B3.drw.res.free 1 _ rfl
    have z2 := B3.drw.res.free 2 _ rfl
    have z3 := B3.drw.res.free 3 _ rfl
    have z4 := B3.drw.res.free 4 _ rfl
    have x0 := B3.one.cell 0 _ rfl
    have x1 := B3.one.cell 1 _ rfl
    have x2 := B3.one.cell 2 _ rfl
    have x3 := B3.one.cell 3 _ rfl
    have x4 := B3.one.cell 4 _ rfl
    have f0 := B3.one.free 0 _ rfl
    have f1 := B3.one.free 1 _ rfl
    have f2 := B3.one.free 2 _ rfl
    have f3 := B3.one.free 3 _ rfl
    have f4 := B3.one.free 4 _ rfl
    have hrb : w.heap.size ≠ w4.heap.size := by omega
    have HB := Lib.hid B4
    clear B3 B4
    go_wp2_with fail
    refine bodyPost_ret (v := P5 ⟨n, ac, y, e, u⟩) (by simp [results, Tryz.results66, go_sem, q0, q1, q2, q3, q4]) rfl ?_
    refine ⟨_, p + 1 + 1, hn, by omega, rfl, ?hd, ?hg⟩
    case hd =>
      iterate 5 (refine Draw.put ?_ (by dsimp only; omega) _)
      exact HB.out.drw.draw
    case hg =>
      iterate 5 (refine gset ?_ (Nat.le_refl _) _)
      exact HB.out.drw.grew
  by_cases e2 : sw = 2
  · subst e2
    go_wp2_with fail
    refine (dpick [0, 200, 201] 3 B2.drw.draw (by omega) (by omega) (by omega) rfl 2).mono ?_
    rintro r w6 ⟨y, hy, rfl, D3, O3⟩
    have B3 := (B2.alloc (.cells #[.int .i64 0, .int .i64 200, .int .i64 201] 2)).only O3 D3 (by omega) (by omega)
    have B4 := B3.put 3 (.int .i64 y) (by omega) (by omega) (by omega)
    clear B2 D3 O3 hy
    have q0 := B3.drw.res.cell 0 _ rfl
    have q1 := B3.drw.res.cell 1 _ rfl
    have q2 := B3.drw.res.cell 2 _ rfl
    have q3 := B3.drw.res.cell 3 _ rfl
    have q4 := B3.drw.res.cell 4 _ rfl
    have z0 := B3.drw.res.free 0 _ rfl
    have z1 := B3.drw.res.free 1 _ rfl
    have z2 := B3.drw.res.free 2 _ rfl
    have z3 := B3.drw.res.free 3 _ rfl
    have z4 := B3.drw.res.free 4 _ rfl
    have x0 := B3.one.cell 0 _ rfl
    have x1 := B3.one.cell 1 _ rfl
    have x2 := B3.one.cell 2 _ rfl
    have x3 := B3.one.cell 3 _ rfl
    have x4 := B3.one.cell 4 _ rfl
    have f0 := B3.one.free 0 _ rfl
    have f1 := B3.one.free 1 _ rfl
    have f2 := B3.one.free 2 _ rfl
    have f3 := B3.one.free 3 _ rfl
    have f4 := B3.one.free 4 _ rfl
    have hrb : w.heap.size ≠ w4.heap.size := by omega
    have HB := Lib.hid B4
    clear B3 B4
    go_wp2_with fail
    refine bodyPost_ret (v := P5 ⟨n, ac, bk, y, u⟩) (by simp [results, Tryz.results66, go_sem, q0, q1, q2, q3, q4]) rfl ?_
    refine ⟨_, p + 1 + 1, hn, by omega, rfl, ?hd, ?hg⟩
    case hd =>
      iterate 5 (refine Draw.put ?_ (by dsimp only; omega) _)
      exact HB.out.drw.draw
    case hg =>
      iterate 5 (refine gset ?_ (Nat.le_refl _) _)
      exact HB.out.drw.grew
  by_cases e3 : sw = 3
  · subst e3
    go_wp2_with fail
    refine (dpick [-1, 10000] 2 B2.drw.draw (by omega) (by omega) (by omega) rfl 2).mono ?_
    rintro r w6 ⟨y, hy, rfl, D3, O3⟩
    have B3 := (B2.alloc (.cells #[.int .i64 (-1), .int .i64 10000] 2)).only O3 D3 (by omega) (by omega)
    have B4 := B3.put 4 (.int .i64 y) (by omega) (by omega) (by omega)
    clear B2 D3 O3 hy
    have q0 := B3.drw.res.cell 0 _ rfl
    have q1 := B3.drw.res.cell 1 _ rfl
    have q2 := B3.drw.res.cell 2 _ rfl
    have q3 := B3.drw.res.cell 3 _ rfl
    have q4 := B3.drw.res.cell 4 _ rfl
    have z0 := B3.drw.res.free 0 _ rfl
    have z1 := B3.drw.res.free 1 _ rfl
    have z2 := B3.drw.res.free 2 _ rfl
    have z3 := B3.drw.res.free 3 _ rfl
    have z4 := B3.drw.res.free 4 _ rfl
    have x0 := B3.one.cell 0 _ rfl
    have x1 := B3.one.cell 1 _ rfl
    have x2 := B3.one.cell 2 _ rfl
    have x3 := B3.one.cell 3 _ rfl
    have x4 := B3.one.cell 4 _ rfl
    have f0 := B3.one.free 0 _ rfl
    have f1 := B3.one.free 1 _ rfl
    have f2 := B3.one.free 2 _ rfl
    have f3 := B3.one.free 3 _ rfl
    have f4 := B3.one.free 4 _ rfl
    have hrb : w.heap.size ≠ w4.heap.size := by omega
    have HB := Lib.hid B4
    clear B3 B4
    go_wp2_with fail
    refine bodyPost_ret (v := P5 ⟨n, ac, bk, e, y⟩) (by simp [results, Tryz.results66, go_sem, q0, q1, q2, q3, q4]) rfl ?_
    refine ⟨_, p + 1 + 1, hn, by omega, rfl, ?hd, ?hg⟩
    case hd =>
      iterate 5 (refine Draw.put ?_ (by dsimp only; omega) _)
      exact HB.out.drw.draw
    case hg =>
      iterate 5 (refine gset ?_ (Nat.le_refl _) _)
      exact HB.out.drw.grew
  · have n0 : (sw == 0) = false := by rw [beq_eq_false_iff_ne]; exact e0
    have n1 : (sw == 1) = false := by rw [beq_eq_false_iff_ne]; exact e1
    have n2 : (sw == 2) = false := by rw [beq_eq_false_iff_ne]; exact e2
    have n3 : (sw == 3) = false := by rw [beq_eq_false_iff_ne]; exact e3
    have B4 := B2
    have q0 := B2.drw.res.cell 0 _ rfl
    have q1 := B2.drw.res.cell 1 _ rfl
    have q2 := B2.drw.res.cell 2 _ rfl
    have q3 := B2.drw.res.cell 3 _ rfl
    have q4 := B2.drw.res.cell 4 _ rfl
    have z0 := B2.drw.res.free 0 _ rfl
    have z1 := B2.drw.res.free 1 _ rfl
    have z2 := B2.drw.res.free 2 _ rfl
    have z3 := B2.drw.res.free 3 _ rfl
    have z4 := B2.drw.res.free 4 _ rfl
    have x0 := B2.one.cell 0 _ rfl
    have x1 := B2.one.cell 1 _ rfl
    have x2 := B2.one.cell 2 _ rfl
    have x3 := B2.one.cell 3 _ rfl
    have x4 := B2.one.cell 4 _ rfl
    have f0 := B2.one.free 0 _ rfl
    have f1 := B2.one.free 1 _ rfl
    have f2 := B2.one.free 2 _ rfl
    have f3 := B2.one.free 3 _ rfl
    have f4 := B2.one.free 4 _ rfl
    have hrb : w.heap.size ≠ w4.heap.size := by omega
    have HB := Lib.hid B4
    clear B2 B4
    go_wp2_with fail
    refine bodyPost_ret (v := P5 ⟨n, ac, bk, e, u⟩) (by simp [results, Tryz.results66, go_sem, q0, q1, q2, q3, q4]) rfl ?_
    refine ⟨_, p + 1, hn, by omega, rfl, ?hd, ?hg⟩
    case hd =>
      iterate 5 (refine Draw.put ?_ (by dsimp only; omega) _)
      exact HB.out.drw.draw
    case hg =>
      iterate 5 (refine gset ?_ (Nat.le_refl _) _)
      exact HB.out.drw.grew
end Go.Proofs.YtcolecidbalmhaaGreatDoor
namespace Go.Proofs.YtcolecidbalmhaaGreatDoor
open Go.RowKit
set_option maxRecDepth 100000
set_option linter.unusedVariables false

theorem l1Digits_any (k : Nat) (w : World) (hk : k < 10) : Calls Tryz.prog 193 #[.int .i64 k] w fun e w' => ∃ t : ByteArray, t.size = 1 ∧ e = .returned (.string t) ∧ Below w.heap.size w w' := by
  have hO := own_lit (k := .u8) w [48 + (k : Int)] 1 5 (B := w.heap.size) (Nat.le_refl _) rfl (by simp only [maxLen]; omega)
  have hrow := Own.row hO (by intro z hz; simp at hz; subst hz; exact byte_wf (show M.byteB _ by unfold M.byteB; omega))
  have cv : (convert 22 9 (.slice (some ⟨w.heap.size, 0, none⟩) 1 1)).run Tryz.prog (w.alloc (.cells #[.int .u8 (48 + (k : Int))] 5)) = .ok (.string (strOf [48 + (k : Int)])) (w.alloc (.cells #[.int .u8 (48 + (k : Int))] 5)) := conv_row hrow
  have hs : (strOf [48 + (k : Int)]).size = 1 := rfl
  have hb := bal (Below.refl _ w) (.cells #[.int .u8 (48 + (k : Int))] 5)
  have HS := Lib.hid hs
  generalize strOf [48 + (k : Int)] = tx at *
  clear hO hrow hs
  have hk2 : (k : Int) < 10 := by omega
  go_enter Tryz.func193, Tryz.ntmps193
  go_wp2_with fail
  go_ret
  exact ⟨tx, HS.out, rfl, hb⟩

/-- Pins were drawn. -/
def DPins (K : Nat) (Q : List PinD → Prop) (w0 : World) (a : Option Addr) (len cap : Nat) (zs : List Int) (w : World) (e : Ending) (w' : World) : Prop :=
  ∃ (x : Option Addr) (n c : Nat) (ps : List PinD) (p : Nat), Q ps ∧ p ≤ K ∧ e = .returned (.slice x n c) ∧ OwnP w' w.heap.size (.slice x n c) ps ∧ Draw w0 a len cap zs p w' ∧ w.grownBy w' (some w0.heap.size)
theorem put1_ok {ps : List PinD} {q : PinD} (h : ∀ p ∈ ps, p.f = 0) (hq : q.f = 0) : (∀ p ∈ put1 ps q, p.f = 0) ∧ (put1 ps q).length ≤ ps.length + 1 := by
  unfold put1
  split
  · refine ⟨fun p hp => ?_, ?_⟩
    · rcases putL_mem hp with rfl | hp
      · exact hq
      · exact h p hp
    · have h2 := (putG_perm q ps).length_eq
      have h3 := List.length_filter_le (fun x => !decide (x.nm = q.nm)) ps
      unfold putL
      simp only [List.length_cons] at h2
      omega
  · exact ⟨by simp, by simp⟩
structure DLoop (w0 : World) (a : Option Addr) (len cap : Nat) (zs : List Int) (p0 : Nat) (w : World) (k : Nat) (x : Option Addr) (n c : Nat) (ps : List PinD) (cur : World) : Prop where
  draw : ∃ p, p + 6 * k ≤ p0 + 25 ∧ Draw w0 a len cap zs p cur
  grew : w.grownBy cur (some w0.heap.size)
  own : OwnP cur w.heap.size (.slice x n c) ps
  ok : ∀ p ∈ ps, p.f = 0
  few : ps.length + k ≤ 4
set_option maxHeartbeats 1000000 in
theorem dl7DrawPins {w0 : World} {a : Option Addr} {len cap : Nat} {zs : List Int} {p0 : Nat} {w : World} (D : Draw w0 a len cap zs p0 w) (hp0 : p0 ≤ 400) :
    Calls Tryz.prog 165 #[.pointer (some ⟨w0.heap.size, 0, none⟩)] w (DPins (p0 + 25) (fun ps => (∀ p ∈ ps, p.f = 0) ∧ ps.length ≤ 4) w0 a len cap zs w) := by
  have hlt := D.lt
  go_enter Tryz.func165, Tryz.ntmps165
  have O0 : OwnP (w.alloc (.cells #[] 31)) w.heap.size (.slice (some ⟨w.heap.size, 0, none⟩) 0 0) [] := Own.made w #[] 31 0 (Nat.le_refl _) (by simp) rfl
  go_wp2_with fail
  refine (dnext 5 (D.alloc _) (by omega)).mono ?_
  rintro r w1 ⟨v, v0, v1, rfl, D1, O1⟩
  have hv : v < 5 := by omega
  obtain ⟨v, rfl⟩ := Int.eq_ofNat_of_zero_le v0
  have T0 : DLoop w0 a len cap zs p0 w v (some ⟨w.heap.size, 0, none⟩) 0 0 [] w1 := ⟨⟨_, by omega, D1⟩, gtr (gal (World.grownBy.refl w _) _) O1.grown, Own.only O0 O1 (by omega), by simp, by simp; omega⟩
  clear O0 D D1 O1 v0 v1
  go_wp2_with fail
  go_loopw [3, 4] (fun x i wr => ∃ (k : Nat) (b : Option Addr) (n c : Nat) (ps : List PinD), k ≤ 4 ∧ i = .int .i64 k ∧ x = .slice b n c ∧ DLoop w0 a len cap zs p0 w k b n c ps wr) (fun _ i _ => (intOf i).toNat)
  case atStart => exact ⟨v, _, _, _, _, by omega, rfl, rfl, T0⟩
  case round =>
    obtain ⟨k, b, n, c, ps, hk, rfl, rfl, hT⟩ := hrel
    clear T0
    by_cases h0 : k = 0
    · subst h0
      obtain ⟨p, hp, DD⟩ := hT.draw
      have F := Lib.hid (show DPins (p0 + 25) (fun ps => (∀ p ∈ ps, p.f = 0) ∧ ps.length ≤ 4) w0 a len cap zs w (.returned (.slice b n c)) wr from ⟨b, n, c, ps, p, ⟨hT.ok, hT.few⟩, by omega, rfl, hT.own, DD, hT.grew⟩)
      clear hT DD
      go_wp2_with fail
      go_ret
      exact F.out
    · have hk0 : (0 : Int) < k := by omega
      obtain ⟨p, hp, DD⟩ := hT.draw
      have hgt : ∀ {u1 u2 : World} {v : Value} {qs : List PinD}, OwnP u1 w.heap.size v qs → u1.grownBy u2 (some w0.heap.size) → OwnP u2 w.heap.size v qs := fun h g => Own.keep h g.size fun k hk => g.block k (Own.lt h k hk).2 (fun e => by injection e with e; have := (Own.lt h k hk).1; omega)
      go_wp2_with fail
      refine (dl7Draw DD (by omega)).mono ?_
      rintro r w2 ⟨q, p2, hq, hp2, rfl, D2, g2⟩
      have Q2 := hgt hT.own g2
      have G2 := gtr hT.grew g2
      have hok := hT.ok
      have hfew := hT.few
      have R2 := Q2.row (fun x hx => by have := pin_size (hok x hx); simp only [maxLen]; omega)
      have hnl : n ≤ 1000 := by have := R2.length; omega
      have PT := l7Put_any b n c _ ps q w2 R2 (Nat.le_refl _) hnl
      have h1 := put1_ok hok hq
      clear DD g2 hT
      go_wp2_with fail
      refine PT.mono ?_
      rintro r w3 ⟨x3, n3, c3, rfl, O3, b3⟩
      clear PT R2
      by_cases hc : put0 ps q = 0
      · have T3 : DLoop w0 a len cap zs p0 w (k - 1) x3 n3 c3 (put1 ps q) w3 := ⟨⟨_, by omega, D2.below b3⟩, gbe G2 b3, O3.less G2.size, h1.1, by omega⟩
        clear D2 G2 Q2 b3 O3 h1
        rw [hc]
        go_wp2_with fail
        go_roundw
        case rel => exact ⟨k - 1, _, _, _, _, by omega, by go_num, rfl, T3⟩
        case measure => simp [intOf]; omega
      · have T3 : DLoop w0 a len cap zs p0 w (k - 1) b n c ps w3 := ⟨⟨_, by omega, D2.below b3⟩, gbe G2 b3, Q2.below b3, hok, by omega⟩
        have hc2 : (put0 ps q == 0) = false := by rw [beq_eq_false_iff_ne]; exact hc
        generalize put0 ps q = pc at *
        clear D2 G2 Q2 b3 O3 h1
        go_wp2_with fail
        go_roundw
        case rel => exact ⟨k - 1, _, _, _, _, by omega, by go_num, rfl, T3⟩
        case measure => simp [intOf]; omega
theorem gown {w u u' : World} {g : Nat} {row : Option Nat} (h : w.grownBy u (some g)) (k : u.grownBy u' row) (hr : ∀ i, row = some i → w.heap.size ≤ i) : w.grownBy u' (some g) :=
  ⟨k.os.trans h.os, k.tape.trans h.tape, k.output.trans h.output, Nat.le_trans h.size k.size, fun i hi hne => (k.block i (Nat.lt_of_lt_of_le hi h.size) (fun e => by have := hr i e.symm; omega)).trans (h.block i hi hne)⟩
structure DList (w0 : World) (a : Option Addr) (len cap : Nat) (zs : List Int) (p : Nat) (w : World) (v : Value) (ps : List PinD) (cur : World) : Prop where
  draw : Draw w0 a len cap zs p cur
  grew : w.grownBy cur (some w0.heap.size)
  own : OwnP cur w.heap.size v ps
theorem DList.app {w0 : World} {a : Option Addr} {len cap : Nat} {zs : List Int} {p : Nat} {w : World} {v v3 : Value} {ps : List PinD} {cur w3 : World} {o : Obj} {q : PinD} (h : DList w0 a len cap zs p w v ps cur) (hw : w0.heap.size < w.heap.size)
    (hown : Own w3 w.heap.size 5 v3 (ps.length + 1) (flat ps ++ q.vals)) (hg : (cur.alloc o).grownBy w3 v.ownBlock) : DList w0 a len cap zs p w v3 (ps ++ [q]) w3 := by
  have hl := fun k hk => (Own.lt h.own k hk).1
  refine ⟨(h.draw.alloc o).grown hg (fun k hk => by have := hl k hk; omega), gown (gal h.grew o) hg hl, ?_⟩
  unfold OwnP
  rw [flat_append, List.length_append]
  simpa [flat] using hown
theorem own_cells (w : World) (xs : List Value) (n s : Nat) (t : TypeId) (hl : xs.length = n * s) (hm : n ≤ maxLen) : Own (w.alloc (.cells xs.toArray t)) w.heap.size s (.slice (some ⟨w.heap.size, 0, none⟩) n n) n xs :=
  ⟨hl, .inr ⟨w.heap.size, n, rfl, Nat.le_refl _, by simp, Nat.le_refl _, hm, fun j u hu => (At.new w xs t).cell j u hu, fun j hj => by
    have h1 := (At.new w xs t).cell j (xs[j]'(by omega)) (by simp [show j < xs.length by omega])
    exact ⟨by rw [h1]; rfl, (At.new w xs t).free j (xs[j]'(by omega)) (by simp [show j < xs.length by omega])⟩⟩⟩
set_option maxHeartbeats 2000000 in
theorem dl7BentPins {w0 : World} {a : Option Addr} {len cap : Nat} {zs : List Int} {p0 : Nat} {w : World} (D : Draw w0 a len cap zs p0 w) (hp0 : p0 ≤ 400) :
    Calls Tryz.prog 133 #[.pointer (some ⟨w0.heap.size, 0, none⟩)] w (DPins (p0 + 40) (fun ps => (∀ p ∈ ps, p.n.size ≤ 21) ∧ ps.length ≤ 5) w0 a len cap zs w) := by
  have hlt := D.lt
  have hgt : ∀ {u1 u2 : World} {v : Value} {qs : List PinD}, OwnP u1 w.heap.size v qs → u1.grownBy u2 (some w0.heap.size) → OwnP u2 w.heap.size v qs := fun h g => Own.keep h g.size fun k hk => g.block k (Own.lt h k hk).2 (fun e => by injection e with e; have := (Own.lt h k hk).1; omega)
  obtain ⟨i0, hi0, hz0, hz1, hz2⟩ := info_parts pin_info
  go_enter Tryz.func133, Tryz.ntmps133
  go_wp2_with fail
  refine (dl7DrawPins D hp0).mono ?_
  rintro r w1 ⟨x, n, c, ps, p, ⟨hok, hfew⟩, hp, rfl, O1, D1, g1⟩
  have hsz : ∀ q ∈ ps, q.n.size ≤ 21 := fun q hq => by have := pin_size (hok q hq); omega
  have HSZ := Lib.hid hsz
  clear D hok hsz
  go_wp2_with fail
  refine (dnext 12 D1 (by omega)).mono ?_
  rintro r w2 ⟨sw, t0, t1, rfl, D2, O2⟩
  have Q2 := hgt O1 O2.grown
  have G2 := gtr g1 O2.grown
  clear O1 D1 g1 O2 t1
  by_cases e0 : sw = 0
  · subst e0
    go_wp2_with fail
    refine (dl7Bent D2 (by omega)).mono ?_
    rintro r w3' ⟨q, p3, hq, hp3, rfl, D3, g3⟩
    have L3 : DList w0 a len cap zs p3 w (.slice x n c) ps w3' := ⟨D3, gtr G2 g3, hgt Q2 g3⟩
    have sz3 := L3.grew.size
    have HQ := Lib.hid hq
    clear D3 g3 Q2 G2 D2 hq
    go_wp2_with (at_builtin; refine wpList_append_src _ rfl (.tmp 11) (.tmp 14) 24 24 rfl w.heap.size 31 i0 (P5 pin0) 5 48 Tryz.underlying24 hi0 hz0 hz1 hz2 rfl _ _ _ rfl (Own.alloc L3.own _) _ 1 (PinD.vals q) rfl (src_new5 _ q _ _ _ Tryz.underlying24) (by simp only [maxLen]; omega) (by omega) (by simp; omega) ?_; intro v3 w3 hown hgrow hat)
    have L4 := L3.app hlt hown hgrow
    obtain ⟨x4, c4, e4, -⟩ := L4.own.form
    subst e4
    clear hown hgrow hat L3 hi0 hz0 hz1 hz2
    go_wp2_with fail
    go_ret
    exact ⟨_, _, _, ps ++ [q], _, ⟨fun y hy => by rcases List.mem_append.1 hy with hy | hy; exact HSZ.out y hy; simp at hy; subst hy; exact HQ.out, by simp; omega⟩, by omega, rfl, L4.own, L4.draw, L4.grew⟩
  by_cases e1 : sw = 1
  · subst e1
    have hmk : (Instr.makeSlice 24 (.int .i64 5) (.int .i64 5)).run Tryz.prog w2 = .ok (.slice (some ⟨w2.heap.size, 0, none⟩) 5 5) (w2.alloc (.cells (flat (List.replicate 5 pin0)).toArray 31)) := by
      have := run_make (P := Tryz.prog) w2 24 31 i0 (P5 pin0) Tryz.underlying24 hi0 hz0 .i64 .i64 5 5 (by omega) (by omega) (by rw [hz2]; omega) (by omega)
      rw [hz1] at this
      have e5 : madeCells (P5 pin0).cells (Int.toNat 5 * 5) = (flat (List.replicate 5 pin0)).toArray := by kernel_rfl
      rw [e5] at this
      exact this
    have O5 : OwnP (w2.alloc (.cells (flat (List.replicate 5 pin0)).toArray 31)) w2.heap.size (.slice (some ⟨w2.heap.size, 0, none⟩) 5 5) (List.replicate 5 pin0) := own_cells w2 (flat (List.replicate 5 pin0)) 5 5 31 rfl (by simp only [maxLen]; omega)
    have F : DPins (p0 + 40) (fun ps => (∀ p ∈ ps, p.n.size ≤ 21) ∧ ps.length ≤ 5) w0 a len cap zs w (.returned (.slice (some ⟨w2.heap.size, 0, none⟩) 5 5)) (w2.alloc (.cells (flat (List.replicate 5 pin0)).toArray 31)) :=
      ⟨_, _, _, List.replicate 5 pin0, _, ⟨fun y hy => by rw [List.eq_of_mem_replicate hy]; exact Nat.zero_le _, by simp⟩, by omega, rfl, O5.less G2.size, D2.alloc _, gal G2 _⟩
    have HF := Lib.hid F
    generalize w2.alloc (.cells (flat (List.replicate 5 pin0)).toArray 31) = w5 at *
    clear F O5 hi0 hz0 hz1 hz2 Q2 G2 D2
    go_wp2_with fail
    go_ret
    exact HF.out
  by_cases e2 : sw = 2
  · subst e2
    have T0 : DList w0 a len cap zs (p + 1) w (.slice none 0 0) [] w2 := ⟨D2, G2, OwnP.nil _ _⟩
    clear Q2 D2 G2
    go_wp2_with fail
    go_loopw [3, 4] (fun v i wr => ∃ (k : Nat) (qs : List PinD), k ≤ 4 ∧ i = .int .i64 k ∧ qs.length = k ∧ (∀ q ∈ qs, q.n.size ≤ 21) ∧ DList w0 a len cap zs (p + 1) w v qs wr) (fun _ i _ => 4 - (intOf i).toNat)
    case atStart => exact ⟨0, [], by omega, rfl, rfl, by simp, T0⟩
    case round =>
      obtain ⟨k, qs, hk, rfl, hql, hqs, hT⟩ := hrel
      clear T0
      obtain ⟨vx, vc, hv, -⟩ := hT.own.form
      subst hv
      by_cases hk4 : k < 4
      · have hk4' : (k : Int) < 4 := by omega
        have HQ := Lib.hid hqs
        have HQL := Lib.hid hql
        clear hqs
        have DG := l1Digits_any k wr (by omega)
        go_wp2_with fail
        refine DG.mono ?_
        rintro r u1 ⟨tx, htx, rfl, b1⟩
        have hT1 : DList w0 a len cap zs (p + 1) w (.slice vx qs.length vc) qs u1 := ⟨hT.draw.below b1, gbe hT.grew b1, hT.own.below b1⟩
        have hsum : (⟨#[110]⟩ : ByteArray).size + tx.size ≤ 9223372036854775807 := by show 1 + tx.size ≤ _; omega
        have hadd := run_string_add_sum (P := Tryz.prog) u1 ⟨#[110]⟩ tx hsum
        have hns : ((⟨#[110]⟩ : ByteArray) ++ tx).size ≤ 21 := by
          have : ((⟨#[110]⟩ : ByteArray) ++ tx).size = 1 + tx.size := by simp [ByteArray.size_append]; rfl
          omega
        have HNS := Lib.hid hns
        have sz1 := hT1.grew.size
        clear hT DG b1 hns hql htx hsum
        generalize (⟨#[110]⟩ : ByteArray) ++ tx = nm at *
        have hqn : qs.length ≤ 4 := by have := HQL.out; omega
        go_wp2_with (at_builtin; refine wpList_append_src _ rfl (.tmp 25) (.tmp 30) 24 24 rfl w.heap.size 31 i0 (P5 pin0) 5 48 Tryz.underlying24 hi0 hz0 hz1 hz2 rfl _ _ _ rfl (Own.alloc hT1.own _) _ 1 (PinD.vals (PinD.mk nm 4 0 1 0)) rfl (src_new5 _ (PinD.mk nm 4 0 1 0) _ _ _ Tryz.underlying24) (by simp only [maxLen]; omega) (by omega) (by simp; omega) ?_; intro v3 w3 hown hgrow hat)
        have L4 := hT1.app hlt hown hgrow
        clear hown hgrow hat hT1
        go_wp2_with fail
        go_roundw
        case rel => exact ⟨k + 1, _, by omega, by go_num, by rw [List.length_append, HQL.out]; rfl, fun y hy => by rcases List.mem_append.1 hy with hy | hy; exact HQ.out y hy; simp at hy; subst hy; exact HNS.out, L4⟩
        case measure => simp [intOf]; omega
      · obtain rfl : k = 4 := by omega
        clear hi0 hz0 hz1 hz2
        have F := Lib.hid (show DPins (p0 + 40) (fun ps => (∀ p ∈ ps, p.n.size ≤ 21) ∧ ps.length ≤ 5) w0 a len cap zs w (.returned (.slice vx qs.length vc)) wr from ⟨_, _, _, qs, _, ⟨hqs, by omega⟩, by omega, rfl, hT.own, hT.draw, hT.grew⟩)
        clear hT hqs hql
        go_wp2_with fail
        go_ret
        exact F.out
  · have n0 : (sw == 0) = false := by rw [beq_eq_false_iff_ne]; exact e0
    have n1 : (sw == 1) = false := by rw [beq_eq_false_iff_ne]; exact e1
    have n2 : (sw == 2) = false := by rw [beq_eq_false_iff_ne]; exact e2
    clear hi0 hz0 hz1 hz2
    go_wp2_with fail
    go_ret
    exact ⟨_, _, _, ps, _, ⟨HSZ.out, by omega⟩, by omega, rfl, Q2, D2, G2⟩
end Go.Proofs.YtcolecidbalmhaaGreatDoor
namespace Go.Proofs.YtcolecidbalmhaaGreatDoor
open Go.RowKit
set_option maxRecDepth 100000
set_option linter.unusedVariables false

def DrawnPut (w : World) (r : Ending) (w' : World) : Prop := ∃ (x : Option Addr) (n c : Nat) (ps : List PinD) (q : PinD), r = .returned (.tuple #[.slice x n c, P5 q]) ∧ (∀ p ∈ ps, p.n.size ≤ 21) ∧ q.n.size ≤ 21 ∧ PRow w' w'.heap.size x n c ps ∧ Below w.heap.size w w'
def DrawnFind (w : World) (r : Ending) (w' : World) : Prop := ∃ (x : Option Addr) (n c : Nat) (ps : List PinD) (q : ByteArray), r = .returned (.tuple #[.slice x n c, .string q]) ∧ (∀ p ∈ ps, p.n.size ≤ 21) ∧ q.size ≤ 21 ∧ PRow w' w'.heap.size x n c ps ∧ Below w.heap.size w w'
def DrawnLive (w : World) (r : Ending) (w' : World) : Prop := ∃ (q : PinD) (t : Int), r = .returned (.tuple #[P5 q, .int .i64 t]) ∧ q.n.size ≤ 21 ∧ Below w.heap.size w w'
end Go.Proofs.YtcolecidbalmhaaGreatDoor
