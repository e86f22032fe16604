/- Texts of this seat that several laws rest on, laid into one. Conditions: as each theorem states. -/
import Derived.Test.YtcolecidbalmhaaGreatDoorZ7
import Derived.Test.YtcolecidbalmhaaGreatDoorZ8
import Derived.Test.YtcolecidbalmhaaGreatDoorZ9
import Derived.Test.YtcolecidbalmhaaGreatDoorZ13
import Derived.Defers
namespace Go.Proofs.YtcolecidbalmhaaGreatDoor
open Go.RowKit
set_option maxRecDepth 100000
set_option linter.unusedVariables false

end Go.Proofs.YtcolecidbalmhaaGreatDoor
namespace Go.Proofs.YtcolecidbalmhaaGreatDoor
open Go.RowKit
set_option maxRecDepth 100000
set_option linter.unusedVariables false

section
variable {P : Program} {S : World → Prop} {Q : Exit → Act → World → Prop} {a : Act} {w : World} {i : Nat} {o : Oper} {r : List (Nat × Bool)} {l : List Oper} {C : Act → World → Prop}
end
/-- A pin and a journal. -/
structure PJ (g : Nat) (pv : List Value) (j : Nat) (J : List Value) (cur : World) : Prop where
  A : At g pv cur
  J : JB j J cur
section
variable {g j : Nat} {pv J : List Value} {cur cur' : World}
theorem PJ.on (h : PJ g pv j J cur) (hb : Below cur.heap.size cur cur') : PJ g pv j J cur' := ⟨h.A.on hb, h.J.on hb⟩
theorem PJ.setB (h : PJ g pv j J cur) {p : Addr} (h1 : g ≠ p.block) (h2 : j ≠ p.block) (u : Value) : PJ g pv j J (cur.setCell p u) := ⟨h.A.setB h1 u, h.J.setB h2 u⟩
theorem PJ.q (i : Nat) (v : Value) (h : pv[i]? = some v) : ∀ z : Of (PJ g pv j J), z.val.cell? ⟨g, i, none⟩ = some v := fun z => z.prop.A.cell i v h
end
/-- The records of a disk of new memory were stored into a result. -/
def Wrote (g : Nat) (rs : List (List Int)) (x : Int) (w : World) (w' : World) : Prop :=
  ∃ (w1 : World) (a : Option Addr) (n c : Nat) (xs : List Value), w' = (w1.setCell ⟨g, 2, none⟩ (.slice a n c)).setCell ⟨g, 3, none⟩ (.int .i64 x) ∧ OwnG w1 w.heap.size w1.heap.size (.slice a n c) rs xs ∧ Below w.heap.size w w1
end Go.Proofs.YtcolecidbalmhaaGreatDoor
namespace Go.Proofs.YtcolecidbalmhaaGreatDoor
open Go.RowKit
set_option maxRecDepth 100000
set_option linter.unusedVariables false

theorem beginN (a1 : Option Addr) (n1 c1 : Nat) (a2 : Option Addr) (n2 c2 : Nat) (x : Int) (p : PinD) (w : World) :
    Below w.heap.size w (((w.alloc (.cells #[.slice a1 n1 c1, .slice a2 n2 c2, .int .i64 x] 29)).alloc (.cells #[.string p.n, .int .i64 p.a, .int .i64 p.b, .int .i64 p.e, .int .i64 p.u] 31)).alloc (.cells #[.int .i64 0, .slice none 0 0, .slice none 0 0, .int .i64 0] 35)) ∧
    At w.heap.size (S3L a1 n1 c1 a2 n2 c2 x) (((w.alloc (.cells #[.slice a1 n1 c1, .slice a2 n2 c2, .int .i64 x] 29)).alloc (.cells #[.string p.n, .int .i64 p.a, .int .i64 p.b, .int .i64 p.e, .int .i64 p.u] 31)).alloc (.cells #[.int .i64 0, .slice none 0 0, .slice none 0 0, .int .i64 0] 35)) ∧
    At (w.heap.size + 1) p.vals (((w.alloc (.cells #[.slice a1 n1 c1, .slice a2 n2 c2, .int .i64 x] 29)).alloc (.cells #[.string p.n, .int .i64 p.a, .int .i64 p.b, .int .i64 p.e, .int .i64 p.u] 31)).alloc (.cells #[.int .i64 0, .slice none 0 0, .slice none 0 0, .int .i64 0] 35)) ∧
    At (w.heap.size + 1 + 1) zero9 (((w.alloc (.cells #[.slice a1 n1 c1, .slice a2 n2 c2, .int .i64 x] 29)).alloc (.cells #[.string p.n, .int .i64 p.a, .int .i64 p.b, .int .i64 p.e, .int .i64 p.u] 31)).alloc (.cells #[.int .i64 0, .slice none 0 0, .slice none 0 0, .int .i64 0] 35)) := by
  have b0 := bal (bal (bal (Below.refl _ w) (.cells #[.slice a1 n1 c1, .slice a2 n2 c2, .int .i64 x] 29)) (.cells #[.string p.n, .int .i64 p.a, .int .i64 p.b, .int .i64 p.e, .int .i64 p.u] 31)) (.cells #[.int .i64 0, .slice none 0 0, .slice none 0 0, .int .i64 0] 35)
  have A0 := ((At.new w (S3L a1 n1 c1 a2 n2 c2 x) 29).alloc (.cells #[.string p.n, .int .i64 p.a, .int .i64 p.b, .int .i64 p.e, .int .i64 p.u] 31)).alloc (.cells #[.int .i64 0, .slice none 0 0, .slice none 0 0, .int .i64 0] 35)
  have P0 := (At.new (w.alloc (.cells #[.slice a1 n1 c1, .slice a2 n2 c2, .int .i64 x] 29)) p.vals 31).alloc (.cells #[.int .i64 0, .slice none 0 0, .slice none 0 0, .int .i64 0] 35)
  have R0 := At.new ((w.alloc (.cells #[.slice a1 n1 c1, .slice a2 n2 c2, .int .i64 x] 29)).alloc (.cells #[.string p.n, .int .i64 p.a, .int .i64 p.b, .int .i64 p.e, .int .i64 p.u] 31)) zero9 35
  rw [World.size_alloc] at P0
  rw [World.size_alloc, World.size_alloc] at R0
  exact ⟨b0, A0, P0, R0⟩
theorem noteS_no {s : StoreD} {p : PinD} (h : noteC s p ≠ 0) : noteS s p = store0 := by unfold noteS; rw [if_neg h]
end Go.Proofs.YtcolecidbalmhaaGreatDoor
namespace Go.Proofs.YtcolecidbalmhaaGreatDoor
open Go.RowKit
set_option maxRecDepth 100000
set_option linter.unusedVariables false

section
variable {W wr : World} {j r d lo : Nat} {J rv : List Value} {pv v : Value} {x : Int} {ps : List PinD} {zss : List (List Int)} {xs : List Value}
theorem KSt.got (h : KSt W j r d J rv pv v x ps zss xs lo wr) (hn : ∀ p ∈ ps, p.n.size ≤ maxLen) (hw : ∀ zs ∈ zss, ∀ z ∈ zs, (Lit.int .u8 z).wf = true) : SOwn wr (r + 1) wr.heap.size pv v ⟨ps, ⟨zss, x⟩⟩ :=
  SOwn.mk' (W := W) (mid := lo) h.O h.rl (fun k e => (h.ob k e).1) h.G h.lo2 hn hw
end
set_option maxHeartbeats 2000000 in
theorem l9Note_any (g0 : Nat) (a1 : Option Addr) (n1 c1 : Nat) (a2 : Option Addr) (n2 c2 B : Nat) (s : StoreD) (p : PinD) (w : World) (hS : SAt w g0 B a1 n1 c1 a2 n2 c2 s) (hB : B ≤ w.heap.size) (h0 : storeF s = 0) (hpf : p.f = 0) :
    Calls Tryz.prog 82 #[.pointer (some ⟨g0, 0, none⟩), P5 p] w (StoreRes (noteC s p) (noteS s p) w) := by
  have b0 := bal (bal (Below.refl _ w) (.cells #[.string p.n, .int .i64 p.a, .int .i64 p.b, .int .i64 p.e, .int .i64 p.u] 31)) (.cells #[.int .i64 0, .slice none 0 0, .slice none 0 0, .int .i64 0] 35)
  have P0 := (At.new w p.vals 31).alloc (.cells #[.int .i64 0, .slice none 0 0, .slice none 0 0, .int .i64 0] 35)
  have R0 := At.new (w.alloc (.cells #[.string p.n, .int .i64 p.a, .int .i64 p.b, .int .i64 p.e, .int .i64 p.u] 31)) zero9 35
  rw [World.size_alloc] at R0
  have HR0 := Lib.hid (show At (w.heap.size + 1) zero9 ((w.alloc (.cells #[.string p.n, .int .i64 p.a, .int .i64 p.b, .int .i64 p.e, .int .i64 p.u] 31)).alloc (.cells #[.int .i64 0, .slice none 0 0, .slice none 0 0, .int .i64 0] 35)) from R0)
  have HH0 := Lib.hid (show Hold2 w g0 (S3L a1 n1 c1 a2 n2 c2 s.d.s) w.heap.size p.vals ((w.alloc (.cells #[.string p.n, .int .i64 p.a, .int .i64 p.b, .int .i64 p.e, .int .i64 p.u] 31)).alloc (.cells #[.int .i64 0, .slice none 0 0, .slice none 0 0, .int .i64 0] 35)) from ⟨b0, hS.A.on b0, P0⟩)
  have HR := Lib.hid (fun (w' : World) (h : Below w.heap.size w w') => hS.R.below (h.mono hB))
  have hRw := hS.R.wf
  have hln := hS.R.ps.length
  have hrn := hS.R.rs.length
  have hg0 : g0 < w.heap.size := hS.A.lt (by simp [S3L])
  clear hS b0 P0 R0
  obtain ⟨ho, hp⟩ := storeF_zero h0
  obtain ⟨h12, hlong, _, _⟩ := diskF_zero (openC_zero ho).1
  have hps := storeF_pins h0
  obtain ⟨hp4, -, -⟩ := pinsF_zero hps
  obtain ⟨hc0, hr0⟩ := put0_code hps hpf
  have pp := fun (w' : World) (h : Below w.heap.size w w') => l7Put_any a1 n1 c1 B s.ps p w' (HR.out w' h).ps (Nat.le_trans hB h.size) (by rw [← hln]; omega)
  unfold Put0 at pp
  rw [← hc0, ← hr0] at pp
  by_cases hput : putC s.ps p = 0
  case neg =>
    have ec := noteC_put h0 hput
    rw [noteS_no (by rw [ec]; exact hput), ec]
    have PP := Lib.hid pp
    clear pp ec h0 ho hp h12 hlong hRw HR hln hrn hps hp4 hc0 hr0
    generalize putR s.ps p = qs at *
    generalize putC s.ps p = cp at *
    have q9 : (cp != 0) = true := by simpa using hput
    have q8 : decide (cp = 0) = false := by simpa using hput
    go_enter Tryz.func82, Tryz.ntmps82
    go_wp2_with fail
    generalize (w.alloc (.cells #[.string p.n, .int .i64 p.a, .int .i64 p.b, .int .i64 p.e, .int .i64 p.u] 31)).alloc (.cells #[.int .i64 0, .slice none 0 0, .slice none 0 0, .int .i64 0] 35) = W0 at *
    refine wp_region_line (Hold2 w g0 (S3L a1 n1 c1 a2 n2 c2 s.d.s) w.heap.size p.vals) [(0, true), (1, true), (2, true), (3, true), (4, true), (5, false), (6, true), (7, true), (8, true), (9, true), (10, true)] (by kernel_rfl) (by kernel_rfl) (fun _ _ d _ _ h => by cases d <;> exact h) (HH0.out.on (bdrew _)) ?_
    have hst := HH0.out.on (bdrew _)
    have HR1 := Lib.hid (HR0.out.on (bdrew W0))
    have inst : Nonempty (Of (Hold2 w g0 (S3L a1 n1 c1 a2 n2 c2 s.d.s) w.heap.size p.vals)) := ⟨⟨_, hst⟩⟩
    have x0 := Hold2.q1 (W := w) (g1 := g0) (c1 := S3L a1 n1 c1 a2 n2 c2 s.d.s) (g2 := w.heap.size) (c2 := p.vals) 0 _ rfl
    have y0 := Hold2.q2 (W := w) (g1 := g0) (c1 := S3L a1 n1 c1 a2 n2 c2 s.d.s) (g2 := w.heap.size) (c2 := p.vals) 0 _ rfl
    have y1 := Hold2.q2 (W := w) (g1 := g0) (c1 := S3L a1 n1 c1 a2 n2 c2 s.d.s) (g2 := w.heap.size) (c2 := p.vals) 1 _ rfl
    have y2 := Hold2.q2 (W := w) (g1 := g0) (c1 := S3L a1 n1 c1 a2 n2 c2 s.d.s) (g2 := w.heap.size) (c2 := p.vals) 2 _ rfl
    have y3 := Hold2.q2 (W := w) (g1 := g0) (c1 := S3L a1 n1 c1 a2 n2 c2 s.d.s) (g2 := w.heap.size) (c2 := p.vals) 3 _ rfl
    have y4 := Hold2.q2 (W := w) (g1 := g0) (c1 := S3L a1 n1 c1 a2 n2 c2 s.d.s) (g2 := w.heap.size) (c2 := p.vals) 4 _ rfl
    clear HH0 HR0
    generalize W0.drew = V1 at *
    iterate 5 (refine line_read rfl (by kernel_rfl) (fun K hK => ?_); go_big_quiet_op; refine hK _ ?_; clear hK K)
    refine line_alone rfl (by kernel_rfl) (fun K hK => ?_)
    refine call_any (args := #[.slice a1 n1 c1, P5 p]) rfl (by kernel_rfl) (by kernel_rfl) (PP.out _ hst.bel) ?_
    rintro e x2 ⟨a3, n3, c3, rfl, O3, b3⟩
    have hst2 := hst.on b3
    have HO3 := Lib.hid O3
    have HR3 := Lib.hid (HR1.out.on b3)
    have hltV : w.heap.size + 1 < V1.heap.size := HR1.out.lt (by simp [zero9])
    have hltX : V1.heap.size ≤ x2.heap.size := b3.size
    refine ⟨_, rfl, hK _ _ hst2 ?_⟩
    clear hK K hst b3 O3 HR1 x0 y0 y1 y2 y3 y4
    have hst := hst2
    clear hst2
    simp only [Act.put, List.setIfInBounds_toArray, List.set_cons_zero, List.set_cons_succ]
    iterate 5 (refine line_read rfl (by kernel_rfl) (fun K hK => ?_); go_big_quiet_op; refine hK _ ?_; clear hK K)
    refine line_nil ?_
    have HST := Lib.hid hst
    clear hst inst
    go_wp2_with fail
    refine (l9Bad_any cp _).mono ?_
    rintro r u9 ⟨rfl, b9⟩
    have R9 := (HR3.out).on b9
    have B9 := btr HST.out.bel b9
    unfold zero9 at R9
    have q0 := R9.cell 0 _ rfl
    have q1 := R9.cell 1 _ rfl
    have q2 := R9.cell 2 _ rfl
    have q3 := R9.cell 3 _ rfl
    have f0 := R9.free 0 _ rfl
    have f1 := R9.free 1 _ rfl
    have f2 := R9.free 2 _ rfl
    have f3 := R9.free 3 _ rfl
    clear b9 R9
    go_wp2_with fail
    refine bodyPost_ret (v := V4 cp none 0 0 none 0 0 0) (by simp [results, Tryz.results82, go_sem, V4, q0, q1, q2, q3]) rfl ⟨none, 0, 0, none, 0, 0, rfl, SOwn.nil _ _ ?_, ?_⟩
    · exact Nat.le_trans B9.size (by simp [World.setCell])
    · exact (by (iterate 4 (refine bset ?_ (by dsimp only; omega) _)); exact B9)
  rw [hput] at pp
  by_cases hfull : 12 ≤ s.d.rs.length
  · have ec := noteC_full h0 hput hfull
    rw [noteS_no (by rw [ec]; decide), ec]
    have PP := Lib.hid pp
    have hf2 : (12 : Int) ≤ n2 := by rw [← hrn]; omega
    clear pp ec h0 ho hp h12 hlong hRw HR hput hfull hln hrn hps hp4 hc0 hr0
    generalize putR s.ps p = qs at *
    go_enter Tryz.func82, Tryz.ntmps82
    go_wp2_with fail
    generalize (w.alloc (.cells #[.string p.n, .int .i64 p.a, .int .i64 p.b, .int .i64 p.e, .int .i64 p.u] 31)).alloc (.cells #[.int .i64 0, .slice none 0 0, .slice none 0 0, .int .i64 0] 35) = W0 at *
    refine wp_region_line (Hold2 w g0 (S3L a1 n1 c1 a2 n2 c2 s.d.s) w.heap.size p.vals) [(0, true), (1, true), (2, true), (3, true), (4, true), (5, false), (6, true), (7, true), (8, true), (9, true), (10, true)] (by kernel_rfl) (by kernel_rfl) (fun _ _ d _ _ h => by cases d <;> exact h) (HH0.out.on (bdrew _)) ?_
    have hst := HH0.out.on (bdrew _)
    have HR1 := Lib.hid (HR0.out.on (bdrew W0))
    have inst : Nonempty (Of (Hold2 w g0 (S3L a1 n1 c1 a2 n2 c2 s.d.s) w.heap.size p.vals)) := ⟨⟨_, hst⟩⟩
    have x0 := Hold2.q1 (W := w) (g1 := g0) (c1 := S3L a1 n1 c1 a2 n2 c2 s.d.s) (g2 := w.heap.size) (c2 := p.vals) 0 _ rfl
    have y0 := Hold2.q2 (W := w) (g1 := g0) (c1 := S3L a1 n1 c1 a2 n2 c2 s.d.s) (g2 := w.heap.size) (c2 := p.vals) 0 _ rfl
    have y1 := Hold2.q2 (W := w) (g1 := g0) (c1 := S3L a1 n1 c1 a2 n2 c2 s.d.s) (g2 := w.heap.size) (c2 := p.vals) 1 _ rfl
    have y2 := Hold2.q2 (W := w) (g1 := g0) (c1 := S3L a1 n1 c1 a2 n2 c2 s.d.s) (g2 := w.heap.size) (c2 := p.vals) 2 _ rfl
    have y3 := Hold2.q2 (W := w) (g1 := g0) (c1 := S3L a1 n1 c1 a2 n2 c2 s.d.s) (g2 := w.heap.size) (c2 := p.vals) 3 _ rfl
    have y4 := Hold2.q2 (W := w) (g1 := g0) (c1 := S3L a1 n1 c1 a2 n2 c2 s.d.s) (g2 := w.heap.size) (c2 := p.vals) 4 _ rfl
    clear HH0 HR0
    generalize W0.drew = V1 at *
    iterate 5 (refine line_read rfl (by kernel_rfl) (fun K hK => ?_); go_big_quiet_op; refine hK _ ?_; clear hK K)
    refine line_alone rfl (by kernel_rfl) (fun K hK => ?_)
    refine call_any (args := #[.slice a1 n1 c1, P5 p]) rfl (by kernel_rfl) (by kernel_rfl) (PP.out _ hst.bel) ?_
    rintro e x2 ⟨a3, n3, c3, rfl, O3, b3⟩
    have hst2 := hst.on b3
    have HO3 := Lib.hid O3
    have HR3 := Lib.hid (HR1.out.on b3)
    have hltV : w.heap.size + 1 < V1.heap.size := HR1.out.lt (by simp [zero9])
    have hltX : V1.heap.size ≤ x2.heap.size := b3.size
    refine ⟨_, rfl, hK _ _ hst2 ?_⟩
    clear hK K hst b3 O3 HR1 x0 y0 y1 y2 y3 y4
    have hst := hst2
    clear hst2
    simp only [Act.put, List.setIfInBounds_toArray, List.set_cons_zero, List.set_cons_succ]
    iterate 5 (refine line_read rfl (by kernel_rfl) (fun K hK => ?_); go_big_quiet_op; refine hK _ ?_; clear hK K)
    refine line_nil ?_
    have HST := Lib.hid hst
    clear hst inst
    have e1 := HST.out.a1.cell 1 _ rfl
    go_wp2_with fail
    refine (l9Bad_any 7 _).mono ?_
    rintro r u9 ⟨rfl, b9⟩
    have R9 := (HR3.out).on b9
    have B9 := btr HST.out.bel b9
    unfold zero9 at R9
    have q0 := R9.cell 0 _ rfl
    have q1 := R9.cell 1 _ rfl
    have q2 := R9.cell 2 _ rfl
    have q3 := R9.cell 3 _ rfl
    have f0 := R9.free 0 _ rfl
    have f1 := R9.free 1 _ rfl
    have f2 := R9.free 2 _ rfl
    have f3 := R9.free 3 _ rfl
    clear b9 R9
    go_wp2_with fail
    refine bodyPost_ret (v := V4 7 none 0 0 none 0 0 0) (by simp [results, Tryz.results82, go_sem, V4, q0, q1, q2, q3]) rfl ⟨none, 0, 0, none, 0, 0, rfl, SOwn.nil _ _ ?_, ?_⟩
    · exact Nat.le_trans B9.size (by simp [World.setCell])
    · exact (by (iterate 4 (refine bset ?_ (by dsimp only; omega) _)); exact B9)
  have ec := noteC_yes h0 hput hfull
  have hlt12 : s.d.rs.length < 12 := by omega
  have es : noteS s p = noted s p := by unfold noteS; rw [if_pos ec]
  have er : putR s.ps p = putL s.ps p := by unfold putR; rw [if_pos hput]
  have HNM := Lib.hid (right_names (storeF_pins (noted_f h0 hput hlt12)))
  have HW : Hid (∀ zs ∈ s.d.rs ++ [recP p], ∀ z ∈ zs, (Lit.int .u8 z).wf = true) := Lib.hid (fun zs hz z hzz => by
    rcases List.mem_append.1 hz with hz | hz
    · exact hRw zs hz z hzz
    · rw [List.mem_singleton] at hz
      subst hz
      exact byte_wf (recP_byte hpf z hzz))
  rw [es, ec]
  rw [er] at pp
  have PP := Lib.hid pp
  have hf2 : ¬ (12 : Int) ≤ n2 := by rw [← hrn]; omega
  have CP := Lib.hid (fun (w' : World) (h : Below w.heap.size w w') => l9Copy_any a1 n1 c1 a2 n2 c2 B s w' (HR.out w' h) (Nat.le_trans hB h.size) hp4 h12 hlong)
  have RC := Lib.hid (fun (w' : World) (A : At w.heap.size p.vals w') => l9Record_any w.heap.size 0 p w' (fun w2 hb => l7Pack_any w.heap.size p w2 (A.on hb) hpf) hpf)
  clear pp ec h0 ho hp h12 hlong hRw HR hput hfull hpf es er hln hrn hps hp4 hc0 hr0
  show Calls Tryz.prog 82 #[.pointer (some ⟨g0, 0, none⟩), P5 p] w (StoreRes 0 ⟨putL s.ps p, ⟨s.d.rs ++ [recP p], s.d.s⟩⟩ w)
  have HNM : Hid (∀ q ∈ putL s.ps p, q.n.size ≤ maxLen) := HNM
  generalize putL s.ps p = qs at *
  generalize recP p = zs at *
  go_enter Tryz.func82, Tryz.ntmps82
  go_wp2_with fail
  generalize (w.alloc (.cells #[.string p.n, .int .i64 p.a, .int .i64 p.b, .int .i64 p.e, .int .i64 p.u] 31)).alloc (.cells #[.int .i64 0, .slice none 0 0, .slice none 0 0, .int .i64 0] 35) = W0 at *
  refine wp_region_line (Hold2 w g0 (S3L a1 n1 c1 a2 n2 c2 s.d.s) w.heap.size p.vals) [(0, true), (1, true), (2, true), (3, true), (4, true), (5, false), (6, true), (7, true), (8, true), (9, true), (10, true)] (by kernel_rfl) (by kernel_rfl) (fun _ _ d _ _ h => by cases d <;> exact h) (HH0.out.on (bdrew _)) ?_
  have hst := HH0.out.on (bdrew _)
  have HR1 := Lib.hid (HR0.out.on (bdrew W0))
  have inst : Nonempty (Of (Hold2 w g0 (S3L a1 n1 c1 a2 n2 c2 s.d.s) w.heap.size p.vals)) := ⟨⟨_, hst⟩⟩
  have x0 := Hold2.q1 (W := w) (g1 := g0) (c1 := S3L a1 n1 c1 a2 n2 c2 s.d.s) (g2 := w.heap.size) (c2 := p.vals) 0 _ rfl
  have y0 := Hold2.q2 (W := w) (g1 := g0) (c1 := S3L a1 n1 c1 a2 n2 c2 s.d.s) (g2 := w.heap.size) (c2 := p.vals) 0 _ rfl
  have y1 := Hold2.q2 (W := w) (g1 := g0) (c1 := S3L a1 n1 c1 a2 n2 c2 s.d.s) (g2 := w.heap.size) (c2 := p.vals) 1 _ rfl
  have y2 := Hold2.q2 (W := w) (g1 := g0) (c1 := S3L a1 n1 c1 a2 n2 c2 s.d.s) (g2 := w.heap.size) (c2 := p.vals) 2 _ rfl
  have y3 := Hold2.q2 (W := w) (g1 := g0) (c1 := S3L a1 n1 c1 a2 n2 c2 s.d.s) (g2 := w.heap.size) (c2 := p.vals) 3 _ rfl
  have y4 := Hold2.q2 (W := w) (g1 := g0) (c1 := S3L a1 n1 c1 a2 n2 c2 s.d.s) (g2 := w.heap.size) (c2 := p.vals) 4 _ rfl
  clear HH0 HR0
  generalize W0.drew = V1 at *
  iterate 5 (refine line_read rfl (by kernel_rfl) (fun K hK => ?_); go_big_quiet_op; refine hK _ ?_; clear hK K)
  refine line_alone rfl (by kernel_rfl) (fun K hK => ?_)
  refine call_any (args := #[.slice a1 n1 c1, P5 p]) rfl (by kernel_rfl) (by kernel_rfl) (PP.out _ hst.bel) ?_
  rintro e x2 ⟨a3, n3, c3, rfl, O3, b3⟩
  have hst2 := hst.on b3
  have HO3 := Lib.hid O3
  have HR3 := Lib.hid (HR1.out.on b3)
  have hltV : w.heap.size + 1 < V1.heap.size := HR1.out.lt (by simp [zero9])
  have hltX : V1.heap.size ≤ x2.heap.size := b3.size
  refine ⟨_, rfl, hK _ _ hst2 ?_⟩
  clear hK K hst b3 O3 HR1 x0 y0 y1 y2 y3 y4
  have hst := hst2
  clear hst2
  simp only [Act.put, List.setIfInBounds_toArray, List.set_cons_zero, List.set_cons_succ]
  iterate 5 (refine line_read rfl (by kernel_rfl) (fun K hK => ?_); go_big_quiet_op; refine hK _ ?_; clear hK K)
  refine line_nil ?_
  have HST := Lib.hid hst
  clear hst inst
  have d0 := HST.out.a1.cell 0 _ rfl
  have d1 := HST.out.a1.cell 1 _ rfl
  have d2 := HST.out.a1.cell 2 _ rfl
  go_wp2_with fail
  refine (CP.out _ HST.out.bel).mono ?_
  rintro r u2 ⟨a4, c4, a5, c5, rfl, SO, b2⟩
  obtain ⟨mid, xs, hm1, hm2, -, -, hG, -, -⟩ := SO
  have b23 := bal (Below.refl _ u2) (.cells #[.slice a4 s.ps.length c4, .slice a5 s.d.rs.length c5, .int .i64 s.d.s] 29)
  have D3 := Lib.hid (show At u2.heap.size [.slice a4 s.ps.length c4, .slice a5 s.d.rs.length c5, .int .i64 s.d.s] (u2.alloc (.cells #[.slice a4 s.ps.length c4, .slice a5 s.d.rs.length c5, .int .i64 s.d.s] 29)) from At.new u2 [.slice a4 s.ps.length c4, .slice a5 s.d.rs.length c5, .int .i64 s.d.s] 29)
  have b3 := btr b2 b23
  have HST3 := Lib.hid (HST.out.on b3)
  have R3 := Lib.hid (HR3.out.on b3)
  have O3 := Lib.hid (HO3.out.below b3)
  have G3 := Lib.hid (hG.below b23)
  have hO3 := Lib.hid (fun k e => (Own.lt HO3.out k e))
  have hg2 : u2.heap.size < (u2.alloc (.cells #[.slice a4 s.ps.length c4, .slice a5 s.d.rs.length c5, .int .i64 s.d.s] 29)).heap.size := by simp
  clear d0 d1 d2 b2 b23 b3 hG HST HR3 HO3 CP PP
  go_upto_region 7 with fail
  generalize u2.alloc (.cells #[.slice a4 s.ps.length c4, .slice a5 s.d.rs.length c5, .int .i64 s.d.s] 29) = W3 at *
  generalize u2.heap.size = g at *
  have d0 := D3.out.cell 0 _ rfl
  have d1 := D3.out.cell 1 _ rfl
  have d2 := D3.out.cell 2 _ rfl
  have f0 := D3.out.free 0 _ rfl
  have f1 := D3.out.free 1 _ rfl
  have f2 := D3.out.free 2 _ rfl
  go_upto_region 8 with fail
  have hd1 : g ≠ w.heap.size := by omega
  have hd2 : g ≠ w.heap.size + 1 := by omega
  have hd0 : w.heap.size ≤ g := by omega
  have hs4 : (W3.setCell ⟨g, 0, none⟩ (.slice a3 n3 c3)).heap.size = W3.heap.size := by simp [World.setCell]
  have S4 : KSt w w.heap.size (w.heap.size + 1) g p.vals zero9 (.slice a3 n3 c3) (.slice a5 s.d.rs.length c5) s.d.s qs s.d.rs xs mid (W3.setCell ⟨g, 0, none⟩ (.slice a3 n3 c3)) :=
    ⟨HST3.out.a2.setB (p := ⟨g, 0, none⟩) (Ne.symm hd1) _, R3.out.setB (p := ⟨g, 0, none⟩) (Ne.symm hd2) _, by simpa using D3.out.set 0 (.slice a3 n3 c3),
     Own.setCell (O3.out.less (by omega)) (p := ⟨g, 0, none⟩) (fun k e => by have := (hO3.out k e).2; show k ≠ g; omega) _,
     fun k e => by have := (hO3.out k e).2; omega,
     (G3.out.setCell (p := ⟨g, 0, none⟩) (.inr (Nat.le_refl _)) _).more (by rw [hs4]; omega) (Nat.le_refl _),
     bset HST3.out.bel hd0 _,
     fun k e => by have h1 := (G3.out.own.lt k e).1; have h2 := G3.out.lt k e; omega,
     fun i u k hu e => by
       obtain ⟨q1, q2, -⟩ := G3.out.row i u hu
       have h1 := (Own.lt q1 k e).1
       have h2 := q2 k e
       omega,
     by omega, by omega, by rw [hs4]; omega, hd0⟩
  have hmid : w.heap.size + 1 + 1 ≤ mid := by omega
  clear d0 d1 d2 f0 f1 f2 hs4 HST3 R3 O3 G3 D3 hO3
  generalize W3.setCell ⟨g, 0, none⟩ (.slice a3 n3 c3) = W4 at *
  have HS := Lib.hid S4
  obtain ⟨i0, hi0, hz0, hz1, hz2⟩ := info_parts slices_info
  have H0 := Lib.hid (show Hold w w.heap.size p.vals W4.drew from ⟨S4.B.drew, S4.P.on (bdrew W4)⟩)
  have HT1 := Lib.hid (S4.on (bdrew W4))
  clear S4 HS
  go_wp2_with fail
  refine wp_region_fork (Hold w w.heap.size p.vals) (by kernel_rfl) (H0.out) ?_
  have hst : (Hold w w.heap.size p.vals) _ := (H0.out)
  have inst : Nonempty (Of (Hold w w.heap.size p.vals)) := ⟨⟨_, hst⟩⟩
  clear H0
  generalize W4.drew = V4' at *
  refine any_seg 7 [(0, true), (1, true)] (by kernel_rfl) (fun _ _ d _ _ h => by cases d <;> exact h) ?_
  iterate 2 (refine line_read rfl (by kernel_rfl) (fun K hK => ?_); go_big_quiet_op; refine hK _ ?_; clear hK K)
  refine line_nil ?_
  refine any_fork 2 3 (by kernel_rfl) rfl rfl (by kernel_rfl) (by kernel_rfl) (fun K hK => ?_) (fun K hK => ?_)
  · have e1 := (HT1.out).D.cell 1 _ rfl
    go_big_op
    refine hK _ _ hst ?_
    clear hK K e1
    refine any_rest [(3, false), (4, false), (5, false), (6, true), (7, true), (8, false)] (by kernel_rfl) (fun _ _ d _ _ h => by cases d <;> exact h) ?_
    refine line_alone rfl (by kernel_rfl) (fun K hK => ?_)
    refine call_any (args := #[.pointer (some ⟨w.heap.size, 0, none⟩)]) rfl (by kernel_rfl) (by kernel_rfl) (RC.out _ hst.at') ?_
    rintro e x6 ⟨a6, n6, c6, rfl, O6, b6⟩
    have hst2 := hst.on b6
    refine ⟨_, rfl, hK _ _ hst2 ?_⟩
    clear hK K hst
    have hst := hst2
    clear hst2
    simp only [Act.put, List.setIfInBounds_toArray, List.set_cons_zero, List.set_cons_succ]
    refine line_alone rfl (by kernel_rfl) (fun K hK => ?_)
    go_big_op
    have SR := Lib.hid (src_new (P := Tryz.prog) x6 [.slice a6 n6 c6] 1 1 22 25 22 Tryz.underlying25 rfl (by intro u hu; simp at hu; subst hu; rfl))
    have b7 := btr b6 (bal (Below.refl _ x6) (.cells #[.slice a6 n6 c6] 22))
    have O7 := Lib.hid (O6.alloc (.cells #[.slice a6 n6 c6] 22))
    have hst2 := hst.on (bal (Below.refl _ x6) (.cells #[.slice a6 n6 c6] 22))
    refine hK _ _ hst2 ?_
    clear hK K hst O6 b6
    have hst := hst2
    clear hst2
    have hc7 : (x6.alloc (.cells [Value.slice a6 n6 c6].toArray 22)) = x6.alloc (.cells #[.slice a6 n6 c6] 22) := rfl
    rw [hc7] at SR
    clear hc7
    generalize x6.alloc (.cells #[.slice a6 n6 c6] 22) = x7 at *
    generalize x6.heap.size = lit at *
    refine line_alone rfl (by kernel_rfl) (fun K hK => ?_)
    have HT7 := Lib.hid (HT1.out.on b7)
    refine wp_append_src _ (.tmp 37) (.tmp 39) 25 25 rfl mid 22 i0 (.slice none 0 0) 1 24 Tryz.underlying25 hi0 hz0 hz1 hz2 rfl (.slice a5 s.d.rs.length c5) s.d.rs.length xs rfl HT7.out.G.own _ 1 [.slice a6 n6 c6] rfl SR.out (by simp only [maxLen]; omega) (by omega) HT7.out.lo2 (fun v8 w8 hown hgrow hat => ?_)
    obtain ⟨a8, c8, hv8, -⟩ := Own.form hown
    subst hv8
    have T8 := Lib.hid (HT1.out.app b7 O7.out hown hgrow hat hd1 hd2 (by simp [PinD.vals]) (by simp [zero9]))
    have D8 := HT7.out.D.kept hgrow (fun e => (HT7.out.off g e.symm).2.2 rfl)
    have P8 := HT7.out.P.kept hgrow (fun e => (HT7.out.off w.heap.size e.symm).1 rfl)
    have B8 : Below w.heap.size w w8 := HT7.out.B.grown hgrow HT7.out.B.size fun k e => Nat.le_trans HT7.out.lo1 (HT7.out.G.own.lt k e).1
    have hst2 : Hold w w.heap.size p.vals w8 := ⟨B8, P8⟩
    refine hK _ _ hst2 ?_
    clear hK K hst hown hgrow hat O7 SR HT7 b7 B8 P8
    have hst := hst2
    clear hst2
    simp only [Act.put, List.setIfInBounds_toArray, List.set_cons_zero, List.set_cons_succ]
    have z0 := D8.cell 0 _ rfl
    have z1 := D8.cell 1 _ rfl
    have z2 := D8.cell 2 _ rfl
    have f0 := D8.free 0 _ rfl
    have f1 := D8.free 1 _ rfl
    have f2 := D8.free 2 _ rfl
    iterate 2 (refine line_read rfl (by kernel_rfl) (fun K hK => ?_); go_big_quiet_op; refine hK _ ?_; clear hK K)
    refine line_alone rfl (by kernel_rfl) (fun K hK => ?_)
    go_big_op
    refine hK _ _ (hst.setB (p := ⟨g, 1, none⟩) hd0 (Ne.symm hd1) _) ?_
    clear hK K
    refine line_nil ?_
    clear z0 z1 z2 f0 f1 f2 D8 HT1 RC hst inst
    have SO9 := T8.out.got HNM.out HW.out
    have R9 := T8.out.R
    have D9 := T8.out.D
    have B9 := T8.out.B
    generalize w8.setCell ⟨g, 1, none⟩ (.slice a8 (s.d.rs.length + 1) c8) = W9 at *
    have HS9 := Lib.hid (SO9.res (w := w) (r := w.heap.size + 1) (by omega) (by omega) (.int .i64 0) (.slice a3 n3 c3) (.slice a8 (s.d.rs.length + 1) c8) (.int .i64 s.d.s))
    have HB9 := Lib.hid B9
    clear SO9 B9 T8
    have z0 := D9.cell 0 _ rfl
    have z1 := D9.cell 1 _ rfl
    have z2 := D9.cell 2 _ rfl
    unfold zero9 at R9
    have q0 := R9.cell 0 _ rfl
    have q1 := R9.cell 1 _ rfl
    have q2 := R9.cell 2 _ rfl
    have q3 := R9.cell 3 _ rfl
    have f0 := R9.free 0 _ rfl
    have f1 := R9.free 1 _ rfl
    have f2 := R9.free 2 _ rfl
    have f3 := R9.free 3 _ rfl
    clear D9 R9
    go_wp2_with fail
    refine bodyPost_ret (v := V4 0 a3 n3 c3 a8 (s.d.rs.length + 1) c8 s.d.s) (by simp [results, Tryz.results82, go_sem, V4, q0, q1, q2, q3]) rfl ⟨a3, n3, c3, a8, s.d.rs.length + 1, c8, rfl, HS9.out, ?_⟩
    exact (by (iterate 4 (refine bset ?_ (by dsimp only; omega) _)); exact HB9.out)
  · refine call_any (args := #[.pointer (some ⟨w.heap.size, 0, none⟩)]) rfl (by kernel_rfl) (by kernel_rfl) (RC.out _ hst.at') ?_
    rintro e x6 ⟨a6, n6, c6, rfl, O6, b6⟩
    have hst2 := hst.on b6
    refine ⟨_, rfl, hK _ _ hst2 ?_⟩
    clear hK K hst
    have hst := hst2
    clear hst2
    simp only [Act.put, List.setIfInBounds_toArray, List.set_cons_zero, List.set_cons_succ]
    refine any_fork 2 4 (by kernel_rfl) rfl rfl (by kernel_rfl) (by kernel_rfl) (fun K hK => ?_) (fun K hK => ?_)
    · have e1 := (HT1.out.on b6).D.cell 1 _ rfl
      go_big_op
      refine hK _ _ hst ?_
      clear hK K e1
      refine any_rest [(4, false), (5, false), (6, true), (7, true), (8, false)] (by kernel_rfl) (fun _ _ d _ _ h => by cases d <;> exact h) ?_
      refine line_alone rfl (by kernel_rfl) (fun K hK => ?_)
      go_big_op
      have SR := Lib.hid (src_new (P := Tryz.prog) x6 [.slice a6 n6 c6] 1 1 22 25 22 Tryz.underlying25 rfl (by intro u hu; simp at hu; subst hu; rfl))
      have b7 := btr b6 (bal (Below.refl _ x6) (.cells #[.slice a6 n6 c6] 22))
      have O7 := Lib.hid (O6.alloc (.cells #[.slice a6 n6 c6] 22))
      have hst2 := hst.on (bal (Below.refl _ x6) (.cells #[.slice a6 n6 c6] 22))
      refine hK _ _ hst2 ?_
      clear hK K hst O6 b6
      have hst := hst2
      clear hst2
      have hc7 : (x6.alloc (.cells [Value.slice a6 n6 c6].toArray 22)) = x6.alloc (.cells #[.slice a6 n6 c6] 22) := rfl
      rw [hc7] at SR
      clear hc7
      generalize x6.alloc (.cells #[.slice a6 n6 c6] 22) = x7 at *
      generalize x6.heap.size = lit at *
      refine line_alone rfl (by kernel_rfl) (fun K hK => ?_)
      have HT7 := Lib.hid (HT1.out.on b7)
      refine wp_append_src _ (.tmp 37) (.tmp 39) 25 25 rfl mid 22 i0 (.slice none 0 0) 1 24 Tryz.underlying25 hi0 hz0 hz1 hz2 rfl (.slice a5 s.d.rs.length c5) s.d.rs.length xs rfl HT7.out.G.own _ 1 [.slice a6 n6 c6] rfl SR.out (by simp only [maxLen]; omega) (by omega) HT7.out.lo2 (fun v8 w8 hown hgrow hat => ?_)
      obtain ⟨a8, c8, hv8, -⟩ := Own.form hown
      subst hv8
      have T8 := Lib.hid (HT1.out.app b7 O7.out hown hgrow hat hd1 hd2 (by simp [PinD.vals]) (by simp [zero9]))
      have D8 := HT7.out.D.kept hgrow (fun e => (HT7.out.off g e.symm).2.2 rfl)
      have P8 := HT7.out.P.kept hgrow (fun e => (HT7.out.off w.heap.size e.symm).1 rfl)
      have B8 : Below w.heap.size w w8 := HT7.out.B.grown hgrow HT7.out.B.size fun k e => Nat.le_trans HT7.out.lo1 (HT7.out.G.own.lt k e).1
      have hst2 : Hold w w.heap.size p.vals w8 := ⟨B8, P8⟩
      refine hK _ _ hst2 ?_
      clear hK K hst hown hgrow hat O7 SR HT7 b7 B8 P8
      have hst := hst2
      clear hst2
      simp only [Act.put, List.setIfInBounds_toArray, List.set_cons_zero, List.set_cons_succ]
      have z0 := D8.cell 0 _ rfl
      have z1 := D8.cell 1 _ rfl
      have z2 := D8.cell 2 _ rfl
      have f0 := D8.free 0 _ rfl
      have f1 := D8.free 1 _ rfl
      have f2 := D8.free 2 _ rfl
      iterate 2 (refine line_read rfl (by kernel_rfl) (fun K hK => ?_); go_big_quiet_op; refine hK _ ?_; clear hK K)
      refine line_alone rfl (by kernel_rfl) (fun K hK => ?_)
      go_big_op
      refine hK _ _ (hst.setB (p := ⟨g, 1, none⟩) hd0 (Ne.symm hd1) _) ?_
      clear hK K
      refine line_nil ?_
      clear z0 z1 z2 f0 f1 f2 D8 HT1 RC hst inst
      have SO9 := T8.out.got HNM.out HW.out
      have R9 := T8.out.R
      have D9 := T8.out.D
      have B9 := T8.out.B
      generalize w8.setCell ⟨g, 1, none⟩ (.slice a8 (s.d.rs.length + 1) c8) = W9 at *
      have HS9 := Lib.hid (SO9.res (w := w) (r := w.heap.size + 1) (by omega) (by omega) (.int .i64 0) (.slice a3 n3 c3) (.slice a8 (s.d.rs.length + 1) c8) (.int .i64 s.d.s))
      have HB9 := Lib.hid B9
      clear SO9 B9 T8
      have z0 := D9.cell 0 _ rfl
      have z1 := D9.cell 1 _ rfl
      have z2 := D9.cell 2 _ rfl
      unfold zero9 at R9
      have q0 := R9.cell 0 _ rfl
      have q1 := R9.cell 1 _ rfl
      have q2 := R9.cell 2 _ rfl
      have q3 := R9.cell 3 _ rfl
      have f0 := R9.free 0 _ rfl
      have f1 := R9.free 1 _ rfl
      have f2 := R9.free 2 _ rfl
      have f3 := R9.free 3 _ rfl
      clear D9 R9
      go_wp2_with fail
      refine bodyPost_ret (v := V4 0 a3 n3 c3 a8 (s.d.rs.length + 1) c8 s.d.s) (by simp [results, Tryz.results82, go_sem, V4, q0, q1, q2, q3]) rfl ⟨a3, n3, c3, a8, s.d.rs.length + 1, c8, rfl, HS9.out, ?_⟩
      exact (by (iterate 4 (refine bset ?_ (by dsimp only; omega) _)); exact HB9.out)
    · go_big_op
      have SR := Lib.hid (src_new (P := Tryz.prog) x6 [.slice a6 n6 c6] 1 1 22 25 22 Tryz.underlying25 rfl (by intro u hu; simp at hu; subst hu; rfl))
      have b7 := btr b6 (bal (Below.refl _ x6) (.cells #[.slice a6 n6 c6] 22))
      have O7 := Lib.hid (O6.alloc (.cells #[.slice a6 n6 c6] 22))
      have hst2 := hst.on (bal (Below.refl _ x6) (.cells #[.slice a6 n6 c6] 22))
      refine hK _ _ hst2 ?_
      clear hK K hst O6 b6
      have hst := hst2
      clear hst2
      have hc7 : (x6.alloc (.cells [Value.slice a6 n6 c6].toArray 22)) = x6.alloc (.cells #[.slice a6 n6 c6] 22) := rfl
      rw [hc7] at SR
      clear hc7
      generalize x6.alloc (.cells #[.slice a6 n6 c6] 22) = x7 at *
      generalize x6.heap.size = lit at *
      refine any_rest [(2, false), (5, false), (6, true), (7, true), (8, false)] (by kernel_rfl) (fun _ _ d _ _ h => by cases d <;> exact h) ?_
      refine line_alone rfl (by kernel_rfl) (fun K hK => ?_)
      have e1 := (HT1.out.on b7).D.cell 1 _ rfl
      go_big_op
      refine hK _ _ hst ?_
      clear hK K e1
      refine line_alone rfl (by kernel_rfl) (fun K hK => ?_)
      have HT7 := Lib.hid (HT1.out.on b7)
      refine wp_append_src _ (.tmp 37) (.tmp 39) 25 25 rfl mid 22 i0 (.slice none 0 0) 1 24 Tryz.underlying25 hi0 hz0 hz1 hz2 rfl (.slice a5 s.d.rs.length c5) s.d.rs.length xs rfl HT7.out.G.own _ 1 [.slice a6 n6 c6] rfl SR.out (by simp only [maxLen]; omega) (by omega) HT7.out.lo2 (fun v8 w8 hown hgrow hat => ?_)
      obtain ⟨a8, c8, hv8, -⟩ := Own.form hown
      subst hv8
      have T8 := Lib.hid (HT1.out.app b7 O7.out hown hgrow hat hd1 hd2 (by simp [PinD.vals]) (by simp [zero9]))
      have D8 := HT7.out.D.kept hgrow (fun e => (HT7.out.off g e.symm).2.2 rfl)
      have P8 := HT7.out.P.kept hgrow (fun e => (HT7.out.off w.heap.size e.symm).1 rfl)
      have B8 : Below w.heap.size w w8 := HT7.out.B.grown hgrow HT7.out.B.size fun k e => Nat.le_trans HT7.out.lo1 (HT7.out.G.own.lt k e).1
      have hst2 : Hold w w.heap.size p.vals w8 := ⟨B8, P8⟩
      refine hK _ _ hst2 ?_
      clear hK K hst hown hgrow hat O7 SR HT7 b7 B8 P8
      have hst := hst2
      clear hst2
      simp only [Act.put, List.setIfInBounds_toArray, List.set_cons_zero, List.set_cons_succ]
      have z0 := D8.cell 0 _ rfl
      have z1 := D8.cell 1 _ rfl
      have z2 := D8.cell 2 _ rfl
      have f0 := D8.free 0 _ rfl
      have f1 := D8.free 1 _ rfl
      have f2 := D8.free 2 _ rfl
      iterate 2 (refine line_read rfl (by kernel_rfl) (fun K hK => ?_); go_big_quiet_op; refine hK _ ?_; clear hK K)
      refine line_alone rfl (by kernel_rfl) (fun K hK => ?_)
      go_big_op
      refine hK _ _ (hst.setB (p := ⟨g, 1, none⟩) hd0 (Ne.symm hd1) _) ?_
      clear hK K
      refine line_nil ?_
      clear z0 z1 z2 f0 f1 f2 D8 HT1 RC hst inst
      have SO9 := T8.out.got HNM.out HW.out
      have R9 := T8.out.R
      have D9 := T8.out.D
      have B9 := T8.out.B
      generalize w8.setCell ⟨g, 1, none⟩ (.slice a8 (s.d.rs.length + 1) c8) = W9 at *
      have HS9 := Lib.hid (SO9.res (w := w) (r := w.heap.size + 1) (by omega) (by omega) (.int .i64 0) (.slice a3 n3 c3) (.slice a8 (s.d.rs.length + 1) c8) (.int .i64 s.d.s))
      have HB9 := Lib.hid B9
      clear SO9 B9 T8
      have z0 := D9.cell 0 _ rfl
      have z1 := D9.cell 1 _ rfl
      have z2 := D9.cell 2 _ rfl
      unfold zero9 at R9
      have q0 := R9.cell 0 _ rfl
      have q1 := R9.cell 1 _ rfl
      have q2 := R9.cell 2 _ rfl
      have q3 := R9.cell 3 _ rfl
      have f0 := R9.free 0 _ rfl
      have f1 := R9.free 1 _ rfl
      have f2 := R9.free 2 _ rfl
      have f3 := R9.free 3 _ rfl
      clear D9 R9
      go_wp2_with fail
      refine bodyPost_ret (v := V4 0 a3 n3 c3 a8 (s.d.rs.length + 1) c8 s.d.s) (by simp [results, Tryz.results82, go_sem, V4, q0, q1, q2, q3]) rfl ⟨a3, n3, c3, a8, s.d.rs.length + 1, c8, rfl, HS9.out, ?_⟩
      exact (by (iterate 4 (refine bset ?_ (by dsimp only; omega) _)); exact HB9.out)
end Go.Proofs.YtcolecidbalmhaaGreatDoor
namespace Go.Proofs.YtcolecidbalmhaaGreatDoor
open Go.RowKit
set_option maxRecDepth 100000
set_option linter.unusedVariables false

set_option maxHeartbeats 1000000 in
theorem specNotePin_any (a1 : Option Addr) (n1 c1 : Nat) (a2 : Option Addr) (n2 c2 B : Nat) (s : StoreD) (p : PinD) (w : World) (hR : SRow w B a1 n1 c1 a2 n2 c2 s) (hB : B ≤ w.heap.size) (hpn : p.n.size ≤ maxLen) :
    Calls Tryz.prog 21 #[S3 a1 n1 c1 a2 n2 c2 s.d.s, P5 p] w (StoreRes (noteC s p) (noteS s p) w) := by
  obtain ⟨b0, A0, P0, R0⟩ := beginN a1 n1 c1 a2 n2 c2 s.d.s p w
  have HR0 := Lib.hid R0
  have HA0 := Lib.hid A0
  have HP0 := Lib.hid P0
  have HB0 := Lib.hid b0
  have HR := Lib.hid (fun (w' : World) (h : Below w.heap.size w w') => hR.below (h.mono hB))
  have F0 := l9Fault_any w.heap.size a1 n1 c1 a2 n2 c2 B s _ ⟨A0, hR.below (b0.mono hB)⟩ (Nat.le_trans hB b0.size)
  clear A0 P0 R0 b0 hR
  by_cases h0 : storeF s = 0
  case neg =>
    have ec := noteC_bad (p := p) h0
    rw [noteS_no (by rw [ec]; exact h0), ec]
    generalize storeF s = cd at *
    have q9 : (cd != 0) = true := by simpa using h0
    have q8 : decide (cd = 0) = false := by simpa using h0
    clear HR ec
    go_enter Tryz.func21, Tryz.ntmps21
    go_wp2_with fail
    generalize ((w.alloc (.cells #[.slice a1 n1 c1, .slice a2 n2 c2, .int .i64 s.d.s] 29)).alloc (.cells #[.string p.n, .int .i64 p.a, .int .i64 p.b, .int .i64 p.e, .int .i64 p.u] 31)).alloc (.cells #[.int .i64 0, .slice none 0 0, .slice none 0 0, .int .i64 0] 35) = W0 at *
    refine F0.mono ?_
    rintro r u1 ⟨rfl, b1⟩
    have B1 := Lib.hid (btr HB0.out b1)
    have R1 := Lib.hid (HR0.out.on b1)
    have A1 := Lib.hid (HA0.out.on b1)
    have P1 := Lib.hid (HP0.out.on b1)
    clear b1 F0 HB0 HR0 HA0 HP0
    go_wp2_with fail
    refine (l9Bad_any cd _).mono ?_
    rintro r u9 ⟨rfl, b9⟩
    have R9 := (R1.out).on b9
    have B9 := btr B1.out b9
    unfold zero9 at R9
    have q0 := R9.cell 0 _ rfl
    have q1 := R9.cell 1 _ rfl
    have q2 := R9.cell 2 _ rfl
    have q3 := R9.cell 3 _ rfl
    have f0 := R9.free 0 _ rfl
    have f1 := R9.free 1 _ rfl
    have f2 := R9.free 2 _ rfl
    have f3 := R9.free 3 _ rfl
    clear b9 R9
    go_wp2_with fail
    refine bodyPost_ret (v := V4 cd none 0 0 none 0 0 0) (by simp [results, Tryz.results21, go_sem, V4, q0, q1, q2, q3]) rfl ⟨none, 0, 0, none, 0, 0, rfl, SOwn.nil _ _ ?_, ?_⟩
    · exact Nat.le_trans B9.size (by simp [World.setCell])
    · exact (by (iterate 4 (refine bset ?_ (by dsimp only; omega) _)); exact B9)
  rw [h0] at F0
  by_cases hpf : p.f = 0
  case neg =>
    have ep : putC s.ps p = p.f := by
      have := storeF_pins h0
      unfold putC
      rw [if_neg (by omega), if_pos hpf]
    have ec := noteC_put (p := p) h0 (by rw [ep]; exact hpf)
    rw [noteS_no (by rw [ec, ep]; exact hpf), ec, ep]
    have q9 : (p.f != 0) = true := by simpa using hpf
    have q8 : decide (p.f = 0) = false := by simpa using hpf
    clear HR ec ep h0
    go_enter Tryz.func21, Tryz.ntmps21
    go_wp2_with fail
    generalize ((w.alloc (.cells #[.slice a1 n1 c1, .slice a2 n2 c2, .int .i64 s.d.s] 29)).alloc (.cells #[.string p.n, .int .i64 p.a, .int .i64 p.b, .int .i64 p.e, .int .i64 p.u] 31)).alloc (.cells #[.int .i64 0, .slice none 0 0, .slice none 0 0, .int .i64 0] 35) = W0 at *
    refine F0.mono ?_
    rintro r u1 ⟨rfl, b1⟩
    have B1 := Lib.hid (btr HB0.out b1)
    have R1 := Lib.hid (HR0.out.on b1)
    have A1 := Lib.hid (HA0.out.on b1)
    have P1 := Lib.hid (HP0.out.on b1)
    clear b1 F0 HB0 HR0 HA0 HP0
    go_wp2_with fail
    refine (l7Fault_any _ p _ P1.out hpn).mono ?_
    rintro r u2 ⟨rfl, b2⟩
    have B2 := Lib.hid (btr B1.out b2)
    have R2 := Lib.hid (R1.out.on b2)
    have A2 := Lib.hid (A1.out.on b2)
    have P2 := Lib.hid (P1.out.on b2)
    clear b2 B1 R1 A1 P1
    go_wp2_with fail
    refine (l9Bad_any p.f _).mono ?_
    rintro r u9 ⟨rfl, b9⟩
    have R9 := (R2.out).on b9
    have B9 := btr B2.out b9
    unfold zero9 at R9
    have q0 := R9.cell 0 _ rfl
    have q1 := R9.cell 1 _ rfl
    have q2 := R9.cell 2 _ rfl
    have q3 := R9.cell 3 _ rfl
    have f0 := R9.free 0 _ rfl
    have f1 := R9.free 1 _ rfl
    have f2 := R9.free 2 _ rfl
    have f3 := R9.free 3 _ rfl
    clear b9 R9
    go_wp2_with fail
    refine bodyPost_ret (v := V4 p.f none 0 0 none 0 0 0) (by simp [results, Tryz.results21, go_sem, V4, q0, q1, q2, q3]) rfl ⟨none, 0, 0, none, 0, 0, rfl, SOwn.nil _ _ ?_, ?_⟩
    · exact Nat.le_trans B9.size (by simp [World.setCell])
    · exact (by (iterate 4 (refine bset ?_ (by dsimp only; omega) _)); exact B9)
  have LN := Lib.hid (fun (w' : World) (hb : Below w.heap.size w w') (A : At w.heap.size (S3L a1 n1 c1 a2 n2 c2 s.d.s) w') => l9Note_any w.heap.size a1 n1 c1 a2 n2 c2 B s p w' ⟨A, HR.out w' hb⟩ (Nat.le_trans hB hb.size) h0 hpf)
  unfold StoreRes at LN
  have hnc : hpf = hpf := rfl
  clear HR h0
  generalize noteC s p = C at *
  generalize noteS s p = S at *
  go_enter Tryz.func21, Tryz.ntmps21
  go_wp2_with fail
  generalize ((w.alloc (.cells #[.slice a1 n1 c1, .slice a2 n2 c2, .int .i64 s.d.s] 29)).alloc (.cells #[.string p.n, .int .i64 p.a, .int .i64 p.b, .int .i64 p.e, .int .i64 p.u] 31)).alloc (.cells #[.int .i64 0, .slice none 0 0, .slice none 0 0, .int .i64 0] 35) = W0 at *
  refine F0.mono ?_
  rintro r u1 ⟨rfl, b1⟩
  have B1 := Lib.hid (btr HB0.out b1)
  have R1 := Lib.hid (HR0.out.on b1)
  have A1 := Lib.hid (HA0.out.on b1)
  have P1 := Lib.hid (HP0.out.on b1)
  clear b1 F0 HB0 HR0 HA0 HP0
  go_wp2_with fail
  refine (l7Fault_any _ p _ P1.out hpn).mono ?_
  rintro r u2 ⟨rfl, b2⟩
  have B2 := Lib.hid (btr B1.out b2)
  have R2 := Lib.hid (R1.out.on b2)
  have A2 := Lib.hid (A1.out.on b2)
  have P2 := Lib.hid (P1.out.on b2)
  clear b2 B1 R1 A1 P1
  rw [hpf]
  have p0 := P2.out.cell 0 _ rfl
  have p1 := P2.out.cell 1 _ rfl
  have p2 := P2.out.cell 2 _ rfl
  have p3 := P2.out.cell 3 _ rfl
  have p4 := P2.out.cell 4 _ rfl
  go_wp2_with fail
  refine (LN.out _ B2.out A2.out).mono ?_
  rintro r u9 ⟨a3, n3, c3, a4, n4, c4, rfl, SO9, b9⟩
  have R9 := R2.out.on b9
  have B9 := btr B2.out b9
  have HS9 := Lib.hid (SO9.res (w := w) (r := w.heap.size + 1 + 1) (R2.out.lt (by decide)) B2.out.size (.int .i64 C) (.slice a3 n3 c3) (.slice a4 n4 c4) (.int .i64 S.d.s))
  unfold zero9 at R9
  have q0 := R9.cell 0 _ rfl
  have q1 := R9.cell 1 _ rfl
  have q2 := R9.cell 2 _ rfl
  have q3 := R9.cell 3 _ rfl
  have f0 := R9.free 0 _ rfl
  have f1 := R9.free 1 _ rfl
  have f2 := R9.free 2 _ rfl
  have f3 := R9.free 3 _ rfl
  clear R9 b9 SO9 p0 p1 p2 p3 p4
  go_wp2_with fail
  refine bodyPost_ret (v := V4 C a3 n3 c3 a4 n4 c4 S.d.s) (by simp [results, Tryz.results21, go_sem, V4, q0, q1, q2, q3]) rfl ⟨a3, n3, c3, a4, n4, c4, rfl, HS9.out, ?_⟩
  exact (by (iterate 4 (refine bset ?_ (by dsimp only; omega) _)); exact B9)
end Go.Proofs.YtcolecidbalmhaaGreatDoor
namespace Go.Proofs.YtcolecidbalmhaaGreatDoor
open Go.RowKit
set_option maxRecDepth 100000
set_option linter.unusedVariables false

/-- No error where the code is 0, else one that has that code. -/
def Err8 (c : Int) (w : World) (r : Ending) (w' : World) : Prop := ∃ e, (c = 0 → e = .nilIface) ∧ (c ≠ 0 → ErrC1 c e) ∧ r = .returned e ∧ Below w.heap.size w w'
theorem Err8.nil {w w' : World} (hb : Below w.heap.size w w') : Err8 0 w (.returned .nilIface) w' := ⟨_, fun _ => rfl, fun h => absurd rfl h, rfl, hb⟩
end Go.Proofs.YtcolecidbalmhaaGreatDoor
namespace Go.Proofs.YtcolecidbalmhaaGreatDoor
open Go.RowKit
set_option maxRecDepth 100000
set_option linter.unusedVariables false

set_option maxHeartbeats 2000000 in
theorem specApplyRoll_any (a : Option Addr) (len cap B : Nat) (ps : List PinD) (r : RollD) (t : Int) (w : World) (hR : PRow w B a len cap ps) (hB : B ≤ w.heap.size) (hn : r.p.n.size ≤ maxLen) :
    Calls Tryz.prog 81 #[.slice a len cap, R8 r, .int .i64 t] w (PinsRes (applyC ps r t) (applyL ps r t) w) := by
  have hL := Lib.hid hR.length
  have hf := hR.fits
  have hm := hR.most
  unfold maxLen at hm
  have hN := Lib.hid hR.names
  have b0 := bal (bal (Below.refl _ w) (.cells #[.string r.p.n, .int .i64 r.p.a, .int .i64 r.p.b, .int .i64 r.p.e, .int .i64 r.p.u, .int .i64 r.b, .int .i64 r.x, .int .i64 r.y] 40)) (.cells #[.int .i64 0, .slice none 0 0] 120)
  have Q0 : At w.heap.size r.vals ((w.alloc (.cells #[.string r.p.n, .int .i64 r.p.a, .int .i64 r.p.b, .int .i64 r.p.e, .int .i64 r.p.u, .int .i64 r.b, .int .i64 r.x, .int .i64 r.y] 40)).alloc (.cells #[.int .i64 0, .slice none 0 0] 120)) := (At.new w r.vals 40).alloc _
  have Z0 : At (w.heap.size + 1) [.int .i64 0, .slice none 0 0] ((w.alloc (.cells #[.string r.p.n, .int .i64 r.p.a, .int .i64 r.p.b, .int .i64 r.p.e, .int .i64 r.p.u, .int .i64 r.b, .int .i64 r.x, .int .i64 r.y] 40)).alloc (.cells #[.int .i64 0, .slice none 0 0] 120)) := At.newN (w := w.alloc (.cells #[.string r.p.n, .int .i64 r.p.a, .int .i64 r.p.b, .int .i64 r.p.e, .int .i64 r.p.u, .int .i64 r.b, .int .i64 r.x, .int .i64 r.y] 40)) [.int .i64 0, .slice none 0 0] 120 (by simp)
  have F := l7Pins_any a len cap B ps _ (hR.below (b0.mono hB)) (Nat.le_trans hB b0.size)
  have G := fun g w A => l8Fault_any g r w A hn
  by_cases h0 : pinsF ps = 0
  case neg =>
    rw [(applyC_list h0).1, (applyC_list h0).2]
    generalize pinsF ps = c at *
    have q0 : (c == 0) = false := by simpa using h0
    clear hR
    go_enter Tryz.func81, Tryz.ntmps81
    go_wp2_with fail
    generalize (w.alloc (.cells #[.string r.p.n, .int .i64 r.p.a, .int .i64 r.p.b, .int .i64 r.p.e, .int .i64 r.p.u, .int .i64 r.b, .int .i64 r.x, .int .i64 r.y] 40)).alloc (.cells #[.int .i64 0, .slice none 0 0] 120) = W0 at *
    refine F.mono ?_
    rintro e u1 ⟨rfl, b1⟩
    have Q1 := Q0.on b1
    have Z1 := Z0.on b1
    have B1 := btr b0 b1
    clear Q0 Z0 b0 b1 F
    have z0 := Z1.cell 0 _ rfl
    have z1 := Z1.cell 1 _ rfl
    have h0 := Z1.free 0 _ rfl
    have h1 := Z1.free 1 _ rfl
    have HB := Lib.hid B1
    clear Z1 B1
    go_wp2_with fail
    refine bodyPost_ret (v := .agg #[.int .i64 c, .slice none 0 0]) (by simp [results, Tryz.results81, go_sem, z0, z1]) rfl ⟨none, 0, 0, rfl, OwnP.nil _ _, ?_⟩
    exact (by (iterate 2 (refine bset ?_ (by dsimp only; omega) _)); exact HB.out)
  rw [h0] at F
  by_cases h1 : r.f = 0
  case neg =>
    rw [(applyC_roll h0 h1).1, (applyC_roll h0 h1).2]
    generalize r.f = c at *
    have q0 : (c == 0) = false := by simpa using h1
    clear hR
    go_enter Tryz.func81, Tryz.ntmps81
    go_wp2_with fail
    generalize (w.alloc (.cells #[.string r.p.n, .int .i64 r.p.a, .int .i64 r.p.b, .int .i64 r.p.e, .int .i64 r.p.u, .int .i64 r.b, .int .i64 r.x, .int .i64 r.y] 40)).alloc (.cells #[.int .i64 0, .slice none 0 0] 120) = W0 at *
    refine F.mono ?_
    rintro e u1 ⟨rfl, b1⟩
    have Q1 := Q0.on b1
    have Z1 := Z0.on b1
    have B1 := btr b0 b1
    clear Q0 Z0 b0 b1 F
    go_wp2_with fail
    refine (G _ _ Q1).mono ?_
    rintro e u2 ⟨rfl, b2⟩
    have Q2 := Q1.on b2
    have Z2 := Z1.on b2
    have B2 := btr B1 b2
    clear Q1 Z1 B1 b2 G
    have z0 := Z2.cell 0 _ rfl
    have z1 := Z2.cell 1 _ rfl
    have h0 := Z2.free 0 _ rfl
    have h1 := Z2.free 1 _ rfl
    have HB := Lib.hid B2
    clear Z2 B2
    go_wp2_with fail
    refine bodyPost_ret (v := .agg #[.int .i64 c, .slice none 0 0]) (by simp [results, Tryz.results81, go_sem, z0, z1]) rfl ⟨none, 0, 0, rfl, OwnP.nil _ _, ?_⟩
    exact (by (iterate 2 (refine bset ?_ (by dsimp only; omega) _)); exact HB.out)
  rw [h1] at G
  have AT := Lib.hid (fun (w1 : World) (h : Below w.heap.size w w1) => l7At_any a len cap B ps r.p.n w1 (hR.below (h.mono hB)) (Nat.le_trans hB h.size))
  rcases atI_spec ps r.p.n.data.toList 0 with ⟨hfn, hat⟩ | ⟨k, hk, hat, hfs⟩
  · have e := applyC_none (t := t) h0 h1 hfn
    rw [e.1, e.2]
    rw [hat] at AT
    clear e hR h0 h1 hfn hat
    go_enter Tryz.func81, Tryz.ntmps81
    go_wp2_with fail
    generalize (w.alloc (.cells #[.string r.p.n, .int .i64 r.p.a, .int .i64 r.p.b, .int .i64 r.p.e, .int .i64 r.p.u, .int .i64 r.b, .int .i64 r.x, .int .i64 r.y] 40)).alloc (.cells #[.int .i64 0, .slice none 0 0] 120) = W0 at *
    refine F.mono ?_
    rintro e u1 ⟨rfl, b1⟩
    have Q1 := Q0.on b1
    have Z1 := Z0.on b1
    have B1 := btr b0 b1
    clear Q0 Z0 b0 b1 F
    go_wp2_with fail
    refine (G _ _ Q1).mono ?_
    rintro e u2 ⟨rfl, b2⟩
    have Q2 := Q1.on b2
    have Z2 := Z1.on b2
    have B2 := btr B1 b2
    clear Q1 Z1 B1 b2 G
    have c0 := Q2.cell 0 _ rfl
    go_wp2_with fail
    refine (AT.out _ B2).mono ?_
    rintro e u3 ⟨rfl, b3⟩
    have Q3 := Q2.on b3
    have Z3 := Z2.on b3
    have B3 := btr B2 b3
    clear Q2 Z2 B2 b3 AT c0
    have z0 := Z3.cell 0 _ rfl
    have z1 := Z3.cell 1 _ rfl
    have h0 := Z3.free 0 _ rfl
    have h1 := Z3.free 1 _ rfl
    have HB := Lib.hid B3
    clear Z3 B3
    go_wp2_with fail
    refine bodyPost_ret (v := .agg #[.int .i64 4, .slice none 0 0]) (by simp [results, Tryz.results81, go_sem, z0, z1]) rfl ⟨none, 0, 0, rfl, OwnP.nil _ _, ?_⟩
    exact (by (iterate 2 (refine bset ?_ (by dsimp only; omega) _)); exact HB.out)
  · rw [hat] at AT
    have hkl : k < len := by rw [← hL.out]; exact hk
    have RW := Lib.hid (fun (w1 : World) (h : Below w.heap.size w w1) => (hR.below (h.mono hB)).at' hkl)
    have hqn := hR.name hkl
    have LP := Lib.hid (fun (w1 : World) (h : Below w.heap.size w w1) => l7Put_any a len cap B ps r.p w1 (hR.below (h.mono hB)) (Nat.le_trans hB h.size) (by have := (pinsF_zero h0).1; have := hL.out; omega))
    have hrp := (rollF_zero h1).1
    by_cases h2 : checkF (ps[k]?.getD pin0) r t = 0
    · have e := applyC_put (t := t) h0 h1 hfs h2
      rw [e.1, e.2, (put0_code h0 hrp).1, (put0_code h0 hrp).2]
      have CK := fun w => specCheckRoll_any (ps[k]?.getD pin0) r t w hqn hn
      rw [h2] at CK
      clear e hR h0 h1 hat hfs h2 hrp
      generalize hq : ps[k]?.getD pin0 = q at *
      go_enter Tryz.func81, Tryz.ntmps81
      go_wp2_with fail
      generalize (w.alloc (.cells #[.string r.p.n, .int .i64 r.p.a, .int .i64 r.p.b, .int .i64 r.p.e, .int .i64 r.p.u, .int .i64 r.b, .int .i64 r.x, .int .i64 r.y] 40)).alloc (.cells #[.int .i64 0, .slice none 0 0] 120) = W0 at *
      refine F.mono ?_
      rintro e u1 ⟨rfl, b1⟩
      have Q1 := Q0.on b1
      have Z1 := Z0.on b1
      have B1 := btr b0 b1
      clear Q0 Z0 b0 b1 F
      go_wp2_with fail
      refine (G _ _ Q1).mono ?_
      rintro e u2 ⟨rfl, b2⟩
      have Q2 := Q1.on b2
      have Z2 := Z1.on b2
      have B2 := btr B1 b2
      clear Q1 Z1 B1 b2 G
      have c0 := Q2.cell 0 _ rfl
      go_wp2_with fail
      refine (AT.out _ B2).mono ?_
      rintro e u3 ⟨rfl, b3⟩
      have Q3 := Q2.on b3
      have Z3 := Z2.on b3
      have B3 := btr B2 b3
      clear Q2 Z2 B2 b3 AT c0
      have hka : ((0 : Int) + (k : Nat)) = k := by omega
      obtain ⟨b, off, hab, hbB, c0, c1, c2, c3, c4⟩ := RW.out _ B3
      have HK1 := Lib.hid hq
      clear hq
      subst hab
      have d0 := Q3.cell 0 _ rfl
      have d1 := Q3.cell 1 _ rfl
      have d2 := Q3.cell 2 _ rfl
      have d3 := Q3.cell 3 _ rfl
      have d4 := Q3.cell 4 _ rfl
      have d5 := Q3.cell 5 _ rfl
      have d6 := Q3.cell 6 _ rfl
      have d7 := Q3.cell 7 _ rfl
      go_wp2_with fail
      refine wp_region_line (Bel u3) [(0, true), (1, true), (2, true), (3, true), (4, true), (5, true), (6, false), (7, true)] (by kernel_rfl) (by kernel_rfl) (fun _ _ d _ _ h => by cases d <;> exact h) (Bel.drew u3) ?_
      have hst := Bel.drew u3
      have inst : Nonempty (Of (Bel u3)) := ⟨⟨_, hst⟩⟩
      have q0 := bel_cell c0
      have q1 := bel_cell c1
      have q2 := bel_cell c2
      have q3 := bel_cell c3
      have q4 := bel_cell c4
      have y0 := bel_cell d0
      have y1 := bel_cell d1
      have y2 := bel_cell d2
      have y3 := bel_cell d3
      have y4 := bel_cell d4
      have y5 := bel_cell d5
      have y6 := bel_cell d6
      have y7 := bel_cell d7
      iterate 6 (refine line_read rfl (by kernel_rfl) (fun K hK => ?_); go_big_quiet_op; refine hK _ ?_; clear hK K)
      refine line_alone rfl (by kernel_rfl) (fun K hK => ?_)
      refine call_wp (args := #[P5 q, R8 r, .int .i64 t]) rfl (by kernel_rfl) (by kernel_rfl) (CK _) (fun wn hbn => ?_)
      have hst2 := hst.on hbn
      refine hK _ _ hst2 ?_
      clear hK K hst hbn
      have hst := hst2
      clear hst2
      simp only [Act.put, List.setIfInBounds_toArray, List.set_cons_zero, List.set_cons_succ]
      iterate 1 (refine line_read rfl (by kernel_rfl) (fun K hK => ?_); go_big_quiet_op; refine hK _ ?_; clear hK K)
      refine line_nil ?_
      have B4 := btr B3 hst.out
      have Q4 := Q3.on hst.out
      have Z4 := Z3.on hst.out
      clear hst inst q0 q1 q2 q3 q4 y0 y1 y2 y3 y4 y5 y6 y7 c0 c1 c2 c3 c4 d0 d1 d2 d3 d4 d5 d6 d7 Q3 Z3 B3 CK
      have d0 := Q4.cell 0 _ rfl
      have d1 := Q4.cell 1 _ rfl
      have d2 := Q4.cell 2 _ rfl
      have d3 := Q4.cell 3 _ rfl
      have d4 := Q4.cell 4 _ rfl
      go_wp2_with fail
      refine (LP.out _ B4).mono ?_
      rintro e u5 ⟨a5, n5, c5, rfl, O5, b5⟩
      generalize put0 ps r.p = pc at *
      generalize put1 ps r.p = zs at *
      have lt5 := Z4.lt (by simp)
      have Z5 := Z4.on b5
      have B5 := btr B4 b5
      have HO := Lib.hid O5
      clear Q4 Z4 B4 b5 LP O5 d0 d1 d2 d3 d4
      have z0 := Z5.cell 0 _ rfl
      have z1 := Z5.cell 1 _ rfl
      have h0 := Z5.free 0 _ rfl
      have h1 := Z5.free 1 _ rfl
      have HB := Lib.hid B5
      clear Z5 B5
      go_wp2_with fail
      refine bodyPost_ret (v := .agg #[.int .i64 pc, .slice a5 n5 c5]) (by simp [results, Tryz.results81, go_sem, z0, z1]) rfl ⟨a5, n5, c5, rfl, ?_, (by (iterate 2 (refine bset ?_ (by dsimp only; omega) _)); exact HB.out)⟩
      have hlt := Own.lt HO.out
      refine Own.setCell (Own.setCell (HO.out.less (by omega)) (fun k hk e => ?_) _) (fun k hk e => ?_) _
      · have := (hlt k hk).1; dsimp only at e; omega
      · have := (hlt k hk).1; dsimp only at e; omega
    · have e := applyC_check (t := t) h0 h1 hfs h2
      rw [e.1, e.2]
      have CK := fun w => specCheckRoll_any (ps[k]?.getD pin0) r t w hqn hn
      generalize checkF (ps[k]?.getD pin0) r t = c at *
      have n0 : (c == 0) = false := by simpa using h2
      clear e hR h0 h1 hat hfs hrp LP
      generalize hq : ps[k]?.getD pin0 = q at *
      go_enter Tryz.func81, Tryz.ntmps81
      go_wp2_with fail
      generalize (w.alloc (.cells #[.string r.p.n, .int .i64 r.p.a, .int .i64 r.p.b, .int .i64 r.p.e, .int .i64 r.p.u, .int .i64 r.b, .int .i64 r.x, .int .i64 r.y] 40)).alloc (.cells #[.int .i64 0, .slice none 0 0] 120) = W0 at *
      refine F.mono ?_
      rintro e u1 ⟨rfl, b1⟩
      have Q1 := Q0.on b1
      have Z1 := Z0.on b1
      have B1 := btr b0 b1
      clear Q0 Z0 b0 b1 F
      go_wp2_with fail
      refine (G _ _ Q1).mono ?_
      rintro e u2 ⟨rfl, b2⟩
      have Q2 := Q1.on b2
      have Z2 := Z1.on b2
      have B2 := btr B1 b2
      clear Q1 Z1 B1 b2 G
      have c0 := Q2.cell 0 _ rfl
      go_wp2_with fail
      refine (AT.out _ B2).mono ?_
      rintro e u3 ⟨rfl, b3⟩
      have Q3 := Q2.on b3
      have Z3 := Z2.on b3
      have B3 := btr B2 b3
      clear Q2 Z2 B2 b3 AT c0
      have hka : ((0 : Int) + (k : Nat)) = k := by omega
      obtain ⟨b, off, hab, hbB, c0, c1, c2, c3, c4⟩ := RW.out _ B3
      have HK1 := Lib.hid hq
      clear hq
      subst hab
      have d0 := Q3.cell 0 _ rfl
      have d1 := Q3.cell 1 _ rfl
      have d2 := Q3.cell 2 _ rfl
      have d3 := Q3.cell 3 _ rfl
      have d4 := Q3.cell 4 _ rfl
      have d5 := Q3.cell 5 _ rfl
      have d6 := Q3.cell 6 _ rfl
      have d7 := Q3.cell 7 _ rfl
      go_wp2_with fail
      refine wp_region_line (Bel u3) [(0, true), (1, true), (2, true), (3, true), (4, true), (5, true), (6, false), (7, true)] (by kernel_rfl) (by kernel_rfl) (fun _ _ d _ _ h => by cases d <;> exact h) (Bel.drew u3) ?_
      have hst := Bel.drew u3
      have inst : Nonempty (Of (Bel u3)) := ⟨⟨_, hst⟩⟩
      have q0 := bel_cell c0
      have q1 := bel_cell c1
      have q2 := bel_cell c2
      have q3 := bel_cell c3
      have q4 := bel_cell c4
      have y0 := bel_cell d0
      have y1 := bel_cell d1
      have y2 := bel_cell d2
      have y3 := bel_cell d3
      have y4 := bel_cell d4
      have y5 := bel_cell d5
      have y6 := bel_cell d6
      have y7 := bel_cell d7
      iterate 6 (refine line_read rfl (by kernel_rfl) (fun K hK => ?_); go_big_quiet_op; refine hK _ ?_; clear hK K)
      refine line_alone rfl (by kernel_rfl) (fun K hK => ?_)
      refine call_wp (args := #[P5 q, R8 r, .int .i64 t]) rfl (by kernel_rfl) (by kernel_rfl) (CK _) (fun wn hbn => ?_)
      have hst2 := hst.on hbn
      refine hK _ _ hst2 ?_
      clear hK K hst hbn
      have hst := hst2
      clear hst2
      simp only [Act.put, List.setIfInBounds_toArray, List.set_cons_zero, List.set_cons_succ]
      iterate 1 (refine line_read rfl (by kernel_rfl) (fun K hK => ?_); go_big_quiet_op; refine hK _ ?_; clear hK K)
      refine line_nil ?_
      have B4 := btr B3 hst.out
      have Q4 := Q3.on hst.out
      have Z4 := Z3.on hst.out
      clear hst inst q0 q1 q2 q3 q4 y0 y1 y2 y3 y4 y5 y6 y7 c0 c1 c2 c3 c4 d0 d1 d2 d3 d4 d5 d6 d7 Q3 Z3 B3 CK
      have z0 := Z4.cell 0 _ rfl
      have z1 := Z4.cell 1 _ rfl
      have h0 := Z4.free 0 _ rfl
      have h1 := Z4.free 1 _ rfl
      have HB := Lib.hid B4
      clear Z4 B4
      go_wp2_with fail
      refine bodyPost_ret (v := .agg #[.int .i64 c, .slice none 0 0]) (by simp [results, Tryz.results81, go_sem, z0, z1]) rfl ⟨none, 0, 0, rfl, OwnP.nil _ _, ?_⟩
      exact (by (iterate 2 (refine bset ?_ (by dsimp only; omega) _)); exact HB.out)

/-- The pin that was looked up, in a block of its own. -/
def Looked (W : World) (o : Option PinD) (v1 v2 : Value) (wx : World) : Prop := ∃ ob, v1 = .pointer (some ⟨ob, 0, none⟩) ∧ v2 = .bool o.isSome ∧ At ob (o.getD pin0).vals wx ∧ Below W.heap.size W wx
end Go.Proofs.YtcolecidbalmhaaGreatDoor
namespace Go.Proofs.YtcolecidbalmhaaGreatDoor
open Go.RowKit
set_option maxRecDepth 100000
set_option linter.unusedVariables false

theorem rollSt_no {s : StoreD} {r : RollD} {t : Int} (h : rollC s r t ≠ 0) : rollSt s r t = store0 := by unfold rollSt; rw [if_neg h]
theorem beginRo (a1 : Option Addr) (n1 c1 : Nat) (a2 : Option Addr) (n2 c2 : Nat) (s : StoreD) (r : RollD) (w : World) :
    Below w.heap.size w (((w.alloc (.cells #[.slice a1 n1 c1, .slice a2 n2 c2, .int .i64 s.d.s] 29)).alloc (.cells #[.string r.p.n, .int .i64 r.p.a, .int .i64 r.p.b, .int .i64 r.p.e, .int .i64 r.p.u, .int .i64 r.b, .int .i64 r.x, .int .i64 r.y] 40)).alloc (.cells #[.int .i64 0, .slice none 0 0, .slice none 0 0, .int .i64 0] 35)) ∧
    At w.heap.size (S3L a1 n1 c1 a2 n2 c2 s.d.s) (((w.alloc (.cells #[.slice a1 n1 c1, .slice a2 n2 c2, .int .i64 s.d.s] 29)).alloc (.cells #[.string r.p.n, .int .i64 r.p.a, .int .i64 r.p.b, .int .i64 r.p.e, .int .i64 r.p.u, .int .i64 r.b, .int .i64 r.x, .int .i64 r.y] 40)).alloc (.cells #[.int .i64 0, .slice none 0 0, .slice none 0 0, .int .i64 0] 35)) ∧
    At (w.heap.size + 1) r.vals (((w.alloc (.cells #[.slice a1 n1 c1, .slice a2 n2 c2, .int .i64 s.d.s] 29)).alloc (.cells #[.string r.p.n, .int .i64 r.p.a, .int .i64 r.p.b, .int .i64 r.p.e, .int .i64 r.p.u, .int .i64 r.b, .int .i64 r.x, .int .i64 r.y] 40)).alloc (.cells #[.int .i64 0, .slice none 0 0, .slice none 0 0, .int .i64 0] 35)) ∧
    At (w.heap.size + 1 + 1) zero9 (((w.alloc (.cells #[.slice a1 n1 c1, .slice a2 n2 c2, .int .i64 s.d.s] 29)).alloc (.cells #[.string r.p.n, .int .i64 r.p.a, .int .i64 r.p.b, .int .i64 r.p.e, .int .i64 r.p.u, .int .i64 r.b, .int .i64 r.x, .int .i64 r.y] 40)).alloc (.cells #[.int .i64 0, .slice none 0 0, .slice none 0 0, .int .i64 0] 35)) := by
  have b0 := bal (bal (bal (Below.refl _ w) (.cells #[.slice a1 n1 c1, .slice a2 n2 c2, .int .i64 s.d.s] 29)) (.cells #[.string r.p.n, .int .i64 r.p.a, .int .i64 r.p.b, .int .i64 r.p.e, .int .i64 r.p.u, .int .i64 r.b, .int .i64 r.x, .int .i64 r.y] 40)) (.cells #[.int .i64 0, .slice none 0 0, .slice none 0 0, .int .i64 0] 35)
  have A0 := ((At.new w (S3L a1 n1 c1 a2 n2 c2 s.d.s) 29).alloc (.cells #[.string r.p.n, .int .i64 r.p.a, .int .i64 r.p.b, .int .i64 r.p.e, .int .i64 r.p.u, .int .i64 r.b, .int .i64 r.x, .int .i64 r.y] 40)).alloc (.cells #[.int .i64 0, .slice none 0 0, .slice none 0 0, .int .i64 0] 35)
  have P0 := (At.new (w.alloc (.cells #[.slice a1 n1 c1, .slice a2 n2 c2, .int .i64 s.d.s] 29)) r.vals 40).alloc (.cells #[.int .i64 0, .slice none 0 0, .slice none 0 0, .int .i64 0] 35)
  have R0 := At.new ((w.alloc (.cells #[.slice a1 n1 c1, .slice a2 n2 c2, .int .i64 s.d.s] 29)).alloc (.cells #[.string r.p.n, .int .i64 r.p.a, .int .i64 r.p.b, .int .i64 r.p.e, .int .i64 r.p.u, .int .i64 r.b, .int .i64 r.x, .int .i64 r.y] 40)) zero9 35
  rw [World.size_alloc] at P0
  rw [World.size_alloc, World.size_alloc] at R0
  exact ⟨b0, A0, P0, R0⟩
set_option maxHeartbeats 2000000 in
theorem specRollStore_any (a1 : Option Addr) (n1 c1 : Nat) (a2 : Option Addr) (n2 c2 B : Nat) (s : StoreD) (r : RollD) (t : Int) (w : World) (hR : SRow w B a1 n1 c1 a2 n2 c2 s) (hB : B ≤ w.heap.size) (hpn : r.p.n.size ≤ maxLen) :
    Calls Tryz.prog 17 #[S3 a1 n1 c1 a2 n2 c2 s.d.s, R8 r, .int .i64 t] w (StoreRes (rollC s r t) (rollSt s r t) w) := by
  obtain ⟨b0, A0, P0, R0⟩ := beginRo a1 n1 c1 a2 n2 c2 s r w
  have HR0 := Lib.hid R0
  have HA0 := Lib.hid A0
  have HP0 := Lib.hid P0
  have HB0 := Lib.hid b0
  have HR := Lib.hid (fun (w' : World) (h : Below w.heap.size w w') => hR.below (h.mono hB))
  have F0 := l9Fault_any w.heap.size a1 n1 c1 a2 n2 c2 B s _ ⟨A0, hR.below (b0.mono hB)⟩ (Nat.le_trans hB b0.size)
  clear A0 P0 R0 b0 hR
  by_cases h0 : storeF s = 0
  case neg =>
    have ec := rollC_bad (r := r) (t := t) h0
    rw [rollSt_no (by rw [ec]; exact h0), ec]
    generalize storeF s = cd at *
    have q9 : (cd != 0) = true := by simpa using h0
    have q8 : decide (cd = 0) = false := by simpa using h0
    clear HR ec
    have d0 := HA0.out.cell 0 _ rfl
    have d1 := HA0.out.cell 1 _ rfl
    have d2 := HA0.out.cell 2 _ rfl
    go_enter Tryz.func17, Tryz.ntmps17
    go_wp2_with fail
    generalize ((w.alloc (.cells #[.slice a1 n1 c1, .slice a2 n2 c2, .int .i64 s.d.s] 29)).alloc (.cells #[.string r.p.n, .int .i64 r.p.a, .int .i64 r.p.b, .int .i64 r.p.e, .int .i64 r.p.u, .int .i64 r.b, .int .i64 r.x, .int .i64 r.y] 40)).alloc (.cells #[.int .i64 0, .slice none 0 0, .slice none 0 0, .int .i64 0] 35) = W0 at *
    refine F0.mono ?_
    rintro e1 u1 ⟨rfl, b1⟩
    have B1 := Lib.hid (btr HB0.out b1)
    have R1 := Lib.hid (HR0.out.on b1)
    have A1 := Lib.hid (HA0.out.on b1)
    have P1 := Lib.hid (HP0.out.on b1)
    clear d0 d1 d2 b1 F0 HB0 HR0 HA0 HP0
    go_wp2_with fail
    refine (l9Bad_any cd _).mono ?_
    rintro r u9 ⟨rfl, b9⟩
    have R9 := (R1.out).on b9
    have B9 := btr B1.out b9
    unfold zero9 at R9
    have q0 := R9.cell 0 _ rfl
    have q1 := R9.cell 1 _ rfl
    have q2 := R9.cell 2 _ rfl
    have q3 := R9.cell 3 _ rfl
    have f0 := R9.free 0 _ rfl
    have f1 := R9.free 1 _ rfl
    have f2 := R9.free 2 _ rfl
    have f3 := R9.free 3 _ rfl
    clear b9 R9
    go_wp2_with fail
    refine bodyPost_ret (v := V4 cd none 0 0 none 0 0 0) (by simp [results, Tryz.results17, go_sem, V4, q0, q1, q2, q3]) rfl ⟨none, 0, 0, none, 0, 0, rfl, SOwn.nil _ _ ?_, ?_⟩
    · exact Nat.le_trans B9.size (by simp [World.setCell])
    · exact (by (iterate 4 (refine bset ?_ (by dsimp only; omega) _)); exact B9)
  rw [h0] at F0
  have ap := fun (w' : World) (h : Below w.heap.size w w') => specApplyRoll_any a1 n1 c1 B s.ps r t w' (HR.out w' h).ps (Nat.le_trans hB h.size) hpn
  unfold PinsRes at ap
  by_cases ha : applyC s.ps r t = 0
  case neg =>
    have ec := rollC_app h0 ha
    rw [rollSt_no (by rw [ec]; exact ha), ec]
    have AP := Lib.hid ap
    clear ap HR ec h0
    generalize applyL s.ps r t = qs at *
    generalize applyC s.ps r t = cd at *
    have q9 : (cd != 0) = true := by simpa using ha
    have q8 : decide (cd = 0) = false := by simpa using ha
    have d0 := HA0.out.cell 0 _ rfl
    have d1 := HA0.out.cell 1 _ rfl
    have d2 := HA0.out.cell 2 _ rfl
    go_enter Tryz.func17, Tryz.ntmps17
    go_wp2_with fail
    generalize ((w.alloc (.cells #[.slice a1 n1 c1, .slice a2 n2 c2, .int .i64 s.d.s] 29)).alloc (.cells #[.string r.p.n, .int .i64 r.p.a, .int .i64 r.p.b, .int .i64 r.p.e, .int .i64 r.p.u, .int .i64 r.b, .int .i64 r.x, .int .i64 r.y] 40)).alloc (.cells #[.int .i64 0, .slice none 0 0, .slice none 0 0, .int .i64 0] 35) = W0 at *
    refine F0.mono ?_
    rintro e1 u1 ⟨rfl, b1⟩
    have B1 := Lib.hid (btr HB0.out b1)
    have R1 := Lib.hid (HR0.out.on b1)
    have A1 := Lib.hid (HA0.out.on b1)
    have P1 := Lib.hid (HP0.out.on b1)
    clear d0 d1 d2 b1 F0 HB0 HR0 HA0 HP0
    have d0 := A1.out.cell 0 _ rfl
    have d1 := A1.out.cell 1 _ rfl
    have d2 := A1.out.cell 2 _ rfl
    have p0 := P1.out.cell 0 _ rfl
    have p1 := P1.out.cell 1 _ rfl
    have p2 := P1.out.cell 2 _ rfl
    have p3 := P1.out.cell 3 _ rfl
    have p4 := P1.out.cell 4 _ rfl
    have p5 := P1.out.cell 5 _ rfl
    have p6 := P1.out.cell 6 _ rfl
    have p7 := P1.out.cell 7 _ rfl
    go_wp2_with fail
    refine (AP.out _ B1.out).mono ?_
    rintro e2 u4 ⟨a4, n4, c4, rfl, O4, b4⟩
    have b45 := btr b4 (bal (Below.refl _ u4) (.cells #[.int .i64 cd, .slice a4 n4 c4] 120))
    have T5 := Lib.hid (show At u4.heap.size [.int .i64 cd, .slice a4 n4 c4] (u4.alloc (.cells #[.int .i64 cd, .slice a4 n4 c4] 120)) from At.new u4 [.int .i64 cd, .slice a4 n4 c4] 120)
    have R5 := Lib.hid (R1.out.on b45)
    have A5 := Lib.hid (A1.out.on b45)
    have P5' := Lib.hid (P1.out.on b45)
    have B5 := Lib.hid (btr B1.out b45)
    clear d0 d1 d2 p0 p1 p2 p3 p4 p5 p6 p7 b4 b45 O4 R1 A1 P1 B1
    go_upto_region 5 with fail
    generalize u4.alloc (.cells #[.int .i64 cd, .slice a4 n4 c4] 120) = W5 at *
    have t0 := T5.out.cell 0 _ rfl
    have t1 := T5.out.cell 1 _ rfl
    go_wp2_with fail
    refine (l9Bad_any cd _).mono ?_
    rintro r u9 ⟨rfl, b9⟩
    have R9 := (R5.out).on b9
    have B9 := btr B5.out b9
    unfold zero9 at R9
    have q0 := R9.cell 0 _ rfl
    have q1 := R9.cell 1 _ rfl
    have q2 := R9.cell 2 _ rfl
    have q3 := R9.cell 3 _ rfl
    have f0 := R9.free 0 _ rfl
    have f1 := R9.free 1 _ rfl
    have f2 := R9.free 2 _ rfl
    have f3 := R9.free 3 _ rfl
    clear b9 R9
    go_wp2_with fail
    refine bodyPost_ret (v := V4 cd none 0 0 none 0 0 0) (by simp [results, Tryz.results17, go_sem, V4, q0, q1, q2, q3]) rfl ⟨none, 0, 0, none, 0, 0, rfl, SOwn.nil _ _ ?_, ?_⟩
    · exact Nat.le_trans B9.size (by simp [World.setCell])
    · exact (by (iterate 4 (refine bset ?_ (by dsimp only; omega) _)); exact B9)
  rw [ha] at ap
  have AP := Lib.hid ap
  obtain ⟨ec, es⟩ := rollC_note h0 ha
  rw [ec, es]
  have hpf : r.p.f = 0 := (put_ok (applyC_zero ha).2.2.choose_spec.2.2.1).fp
  have NP := Lib.hid (fun (w' : World) (hb : Below w.heap.size w w') (A : At w.heap.size (S3L a1 n1 c1 a2 n2 c2 s.d.s) w') => l9Note_any w.heap.size a1 n1 c1 a2 n2 c2 B s r.p w' ⟨A, HR.out w' hb⟩ (Nat.le_trans hB hb.size) h0 hpf)
  unfold StoreRes at NP
  clear ap HR ec es h0 ha
  generalize applyL s.ps r t = qs at *
  generalize noteC s r.p = C at *
  generalize noteS s r.p = S at *
  have d0 := HA0.out.cell 0 _ rfl
  have d1 := HA0.out.cell 1 _ rfl
  have d2 := HA0.out.cell 2 _ rfl
  go_enter Tryz.func17, Tryz.ntmps17
  go_wp2_with fail
  generalize ((w.alloc (.cells #[.slice a1 n1 c1, .slice a2 n2 c2, .int .i64 s.d.s] 29)).alloc (.cells #[.string r.p.n, .int .i64 r.p.a, .int .i64 r.p.b, .int .i64 r.p.e, .int .i64 r.p.u, .int .i64 r.b, .int .i64 r.x, .int .i64 r.y] 40)).alloc (.cells #[.int .i64 0, .slice none 0 0, .slice none 0 0, .int .i64 0] 35) = W0 at *
  refine F0.mono ?_
  rintro e1 u1 ⟨rfl, b1⟩
  have B1 := Lib.hid (btr HB0.out b1)
  have R1 := Lib.hid (HR0.out.on b1)
  have A1 := Lib.hid (HA0.out.on b1)
  have P1 := Lib.hid (HP0.out.on b1)
  clear d0 d1 d2 b1 F0 HB0 HR0 HA0 HP0
  have d0 := A1.out.cell 0 _ rfl
  have d1 := A1.out.cell 1 _ rfl
  have d2 := A1.out.cell 2 _ rfl
  have p0 := P1.out.cell 0 _ rfl
  have p1 := P1.out.cell 1 _ rfl
  have p2 := P1.out.cell 2 _ rfl
  have p3 := P1.out.cell 3 _ rfl
  have p4 := P1.out.cell 4 _ rfl
  have p5 := P1.out.cell 5 _ rfl
  have p6 := P1.out.cell 6 _ rfl
  have p7 := P1.out.cell 7 _ rfl
  go_wp2_with fail
  refine (AP.out _ B1.out).mono ?_
  rintro e2 u4 ⟨a4, n4, c4, rfl, O4, b4⟩
  have b45 := btr b4 (bal (Below.refl _ u4) (.cells #[.int .i64 0, .slice a4 n4 c4] 120))
  have T5 := Lib.hid (show At u4.heap.size [.int .i64 0, .slice a4 n4 c4] (u4.alloc (.cells #[.int .i64 0, .slice a4 n4 c4] 120)) from At.new u4 [.int .i64 0, .slice a4 n4 c4] 120)
  have R5 := Lib.hid (R1.out.on b45)
  have A5 := Lib.hid (A1.out.on b45)
  have P5' := Lib.hid (P1.out.on b45)
  have B5 := Lib.hid (btr B1.out b45)
  clear d0 d1 d2 p0 p1 p2 p3 p4 p5 p6 p7 b4 b45 O4 R1 A1 P1 B1
  go_upto_region 5 with fail
  generalize u4.alloc (.cells #[.int .i64 0, .slice a4 n4 c4] 120) = W5 at *
  have t0 := T5.out.cell 0 _ rfl
  have t1 := T5.out.cell 1 _ rfl
  have d0 := A5.out.cell 0 _ rfl
  have d1 := A5.out.cell 1 _ rfl
  have d2 := A5.out.cell 2 _ rfl
  have p0 := P5'.out.cell 0 _ rfl
  have p1 := P5'.out.cell 1 _ rfl
  have p2 := P5'.out.cell 2 _ rfl
  have p3 := P5'.out.cell 3 _ rfl
  have p4 := P5'.out.cell 4 _ rfl
  have p5 := P5'.out.cell 5 _ rfl
  have p6 := P5'.out.cell 6 _ rfl
  have p7 := P5'.out.cell 7 _ rfl
  go_wp2_with fail
  refine (NP.out _ B5.out A5.out).mono ?_
  rintro e3 u9 ⟨a3, n3, c3, a6, n6, c6, rfl, SO9, b9⟩
  have R9 := R5.out.on b9
  have B9 := btr B5.out b9
  have HS9 := Lib.hid (SO9.res (w := w) (r := w.heap.size + 1 + 1) (R5.out.lt (by decide)) B5.out.size (.int .i64 C) (.slice a3 n3 c3) (.slice a6 n6 c6) (.int .i64 S.d.s))
  unfold zero9 at R9
  clear t0 t1 d0 d1 d2 p0 p1 p2 p3 p4 p5 p6 p7
  have q0 := R9.cell 0 _ rfl
  have q1 := R9.cell 1 _ rfl
  have q2 := R9.cell 2 _ rfl
  have q3 := R9.cell 3 _ rfl
  have f0 := R9.free 0 _ rfl
  have f1 := R9.free 1 _ rfl
  have f2 := R9.free 2 _ rfl
  have f3 := R9.free 3 _ rfl
  clear R9 b9 SO9
  go_wp2_with fail
  refine bodyPost_ret (v := V4 C a3 n3 c3 a6 n6 c6 S.d.s) (by simp [results, Tryz.results17, go_sem, V4, q0, q1, q2, q3]) rfl ⟨a3, n3, c3, a6, n6, c6, rfl, HS9.out, ?_⟩
  exact (by (iterate 4 (refine bset ?_ (by dsimp only; omega) _)); exact B9)
end Go.Proofs.YtcolecidbalmhaaGreatDoor
