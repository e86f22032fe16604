/- Texts of this seat that several laws rest on, laid into one. Conditions: as each theorem states. -/
import Derived.Test.YtefgimpodhjdpaaGreatDoorS6
import Derived.Test.YtefgimpodhjdpaaGreatDoorS13
namespace Go.Proofs.YtefgimpodhjdpaaGreatDoor
open Go.RowKit
set_option maxRecDepth 100000
set_option linter.unusedVariables false

section
variable {W wr : World} {j r d lo : Nat} {J rv : List Value} {pv v : Value} {x : Int} {ps : List PinD} {zss : List (List Int)} {xs : List Value}
theorem KSt.got (h : KSt W j r d J rv pv v x ps zss xs lo wr) (hn : ∀ p ∈ ps, p.n.size ≤ maxLen) (hw : ∀ zs ∈ zss, ∀ z ∈ zs, (Lit.int .u8 z).wf = true) : SOwn wr (r + 1) wr.heap.size pv v ⟨ps, ⟨zss, x⟩⟩ :=
  SOwn.mk' (W := W) (mid := lo) h.O h.rl (fun k e => (h.ob k e).1) h.G h.lo2 hn hw
end
set_option maxHeartbeats 2000000 in
theorem l9Note_any (g0 : Nat) (a1 : Option Addr) (n1 c1 : Nat) (a2 : Option Addr) (n2 c2 B : Nat) (s : StoreD) (p : PinD) (w : World) (hS : SAt w g0 B a1 n1 c1 a2 n2 c2 s) (hB : B ≤ w.heap.size) (h0 : storeF s = 0) (hpf : p.f = 0) :
    Calls Tryz.prog 74 #[.pointer (some ⟨g0, 0, none⟩), P5 p] w (StoreRes (noteC s p) (noteS s p) w) := by
  have b0 := bal (bal (Below.refl _ w) (.cells #[.string p.n, .int .i64 p.a, .int .i64 p.b, .int .i64 p.e, .int .i64 p.u] 31)) (.cells #[.int .i64 0, .slice none 0 0, .slice none 0 0, .int .i64 0] 35)
  have P0 := (At.new w p.vals 31).alloc (.cells #[.int .i64 0, .slice none 0 0, .slice none 0 0, .int .i64 0] 35)
  have R0 := At.new (w.alloc (.cells #[.string p.n, .int .i64 p.a, .int .i64 p.b, .int .i64 p.e, .int .i64 p.u] 31)) zero9 35
  rw [World.size_alloc] at R0
  have HR0 := Lib.hid (show At (w.heap.size + 1) zero9 ((w.alloc (.cells #[.string p.n, .int .i64 p.a, .int .i64 p.b, .int .i64 p.e, .int .i64 p.u] 31)).alloc (.cells #[.int .i64 0, .slice none 0 0, .slice none 0 0, .int .i64 0] 35)) from R0)
  have HH0 := Lib.hid (show Hold2 w g0 (S3L a1 n1 c1 a2 n2 c2 s.d.s) w.heap.size p.vals ((w.alloc (.cells #[.string p.n, .int .i64 p.a, .int .i64 p.b, .int .i64 p.e, .int .i64 p.u] 31)).alloc (.cells #[.int .i64 0, .slice none 0 0, .slice none 0 0, .int .i64 0] 35)) from ⟨b0, hS.A.on b0, P0⟩)
  have HR := Lib.hid (fun (w' : World) (h : Below w.heap.size w w') => hS.R.below (h.mono hB))
  have hRw := hS.R.wf
  have hln := hS.R.ps.length
  have hrn := hS.R.rs.length
  have hg0 : g0 < w.heap.size := hS.A.lt (by simp [S3L])
  clear hS b0 P0 R0
  obtain ⟨ho, hp⟩ := storeF_zero h0
  obtain ⟨h12, hlong, _, _⟩ := diskF_zero (openC_zero ho).1
  have hps := storeF_pins h0
  obtain ⟨hp4, -, -⟩ := pinsF_zero hps
  obtain ⟨hc0, hr0⟩ := put0_code hps hpf
  have pp := fun (w' : World) (h : Below w.heap.size w w') => l7Put_any a1 n1 c1 B s.ps p w' (HR.out w' h).ps (Nat.le_trans hB h.size) (by rw [← hln]; omega)
  unfold Put0 at pp
  rw [← hc0, ← hr0] at pp
  by_cases hput : putC s.ps p = 0
  case neg =>
    have ec := noteC_put h0 hput
    rw [noteS_no (by rw [ec]; exact hput), ec]
    have PP := Lib.hid pp
    clear pp ec h0 ho hp h12 hlong hRw HR hln hrn hps hp4 hc0 hr0
    generalize putR s.ps p = qs at *
    generalize putC s.ps p = cp at *
    have q9 : (cp != 0) = true := by simpa using hput
    have q8 : decide (cp = 0) = false := by simpa using hput
    go_enter Tryz.func74, Tryz.ntmps74
    go_wp2_with fail
    generalize (w.alloc (.cells #[.string p.n, .int .i64 p.a, .int .i64 p.b, .int .i64 p.e, .int .i64 p.u] 31)).alloc (.cells #[.int .i64 0, .slice none 0 0, .slice none 0 0, .int .i64 0] 35) = W0 at *
    refine wp_region_line (Hold2 w g0 (S3L a1 n1 c1 a2 n2 c2 s.d.s) w.heap.size p.vals) [(0, true), (1, true), (2, true), (3, true), (4, true), (5, false), (6, true), (7, true), (8, true), (9, true), (10, true)] (by kernel_rfl) (by kernel_rfl) (fun _ _ d _ _ h => by cases d <;> exact h) (HH0.out.on (bdrew _)) ?_
    have hst := HH0.out.on (bdrew _)
    have HR1 := Lib.hid (HR0.out.on (bdrew W0))
    have inst : Nonempty (Of (Hold2 w g0 (S3L a1 n1 c1 a2 n2 c2 s.d.s) w.heap.size p.vals)) := ⟨⟨_, hst⟩⟩
    have x0 := Hold2.q1 (W := w) (g1 := g0) (c1 := S3L a1 n1 c1 a2 n2 c2 s.d.s) (g2 := w.heap.size) (c2 := p.vals) 0 _ rfl
    have y0 := Hold2.q2 (W := w) (g1 := g0) (c1 := S3L a1 n1 c1 a2 n2 c2 s.d.s) (g2 := w.heap.size) (c2 := p.vals) 0 _ rfl
    have y1 := Hold2.q2 (W := w) (g1 := g0) (c1 := S3L a1 n1 c1 a2 n2 c2 s.d.s) (g2 := w.heap.size) (c2 := p.vals) 1 _ rfl
    have y2 := Hold2.q2 (W := w) (g1 := g0) (c1 := S3L a1 n1 c1 a2 n2 c2 s.d.s) (g2 := w.heap.size) (c2 := p.vals) 2 _ rfl
    have y3 := Hold2.q2 (W := w) (g1 := g0) (c1 := S3L a1 n1 c1 a2 n2 c2 s.d.s) (g2 := w.heap.size) (c2 := p.vals) 3 _ rfl
    have y4 := Hold2.q2 (W := w) (g1 := g0) (c1 := S3L a1 n1 c1 a2 n2 c2 s.d.s) (g2 := w.heap.size) (c2 := p.vals) 4 _ rfl
    clear HH0 HR0
    generalize W0.drew = V1 at *
    iterate 5 (refine line_read rfl (by kernel_rfl) (fun K hK => ?_); go_big_quiet_op; refine hK _ ?_; clear hK K)
    refine line_alone rfl (by kernel_rfl) (fun K hK => ?_)
    refine call_any (args := #[.slice a1 n1 c1, P5 p]) rfl (by kernel_rfl) (by kernel_rfl) (PP.out _ hst.bel) ?_
    rintro e x2 ⟨a3, n3, c3, rfl, O3, b3⟩
    have hst2 := hst.on b3
    have HO3 := Lib.hid O3
    have HR3 := Lib.hid (HR1.out.on b3)
    have hltV : w.heap.size + 1 < V1.heap.size := HR1.out.lt (by simp [zero9])
    have hltX : V1.heap.size ≤ x2.heap.size := b3.size
    refine ⟨_, rfl, hK _ _ hst2 ?_⟩
    clear hK K hst b3 O3 HR1 x0 y0 y1 y2 y3 y4
    have hst := hst2
    clear hst2
    simp only [Act.put, List.setIfInBounds_toArray, List.set_cons_zero, List.set_cons_succ]
    iterate 5 (refine line_read rfl (by kernel_rfl) (fun K hK => ?_); go_big_quiet_op; refine hK _ ?_; clear hK K)
    refine line_nil ?_
    have HST := Lib.hid hst
    clear hst inst
    go_wp2_with fail
    refine (l9Bad_any cp _).mono ?_
    rintro r u9 ⟨rfl, b9⟩
    have R9 := (HR3.out).on b9
    have B9 := btr HST.out.bel b9
    unfold zero9 at R9
    have q0 := R9.cell 0 _ rfl
    have q1 := R9.cell 1 _ rfl
    have q2 := R9.cell 2 _ rfl
    have q3 := R9.cell 3 _ rfl
    have f0 := R9.free 0 _ rfl
    have f1 := R9.free 1 _ rfl
    have f2 := R9.free 2 _ rfl
    have f3 := R9.free 3 _ rfl
    clear b9 R9
    go_wp2_with fail
    refine bodyPost_ret (v := V4 cp none 0 0 none 0 0 0) (by simp [results, Tryz.results74, go_sem, V4, q0, q1, q2, q3]) rfl ⟨none, 0, 0, none, 0, 0, rfl, SOwn.nil _ _ ?_, ?_⟩
    · exact Nat.le_trans B9.size (by simp [World.setCell])
    · exact (by (iterate 4 (refine bset ?_ (by dsimp only; omega) _)); exact B9)
  rw [hput] at pp
  by_cases hfull : 12 ≤ s.d.rs.length
  · have ec := noteC_full h0 hput hfull
    rw [noteS_no (by rw [ec]; decide), ec]
    have PP := Lib.hid pp
    have hf2 : (12 : Int) ≤ n2 := by rw [← hrn]; omega
    clear pp ec h0 ho hp h12 hlong hRw HR hput hfull hln hrn hps hp4 hc0 hr0
    generalize putR s.ps p = qs at *
    go_enter Tryz.func74, Tryz.ntmps74
    go_wp2_with fail
    generalize (w.alloc (.cells #[.string p.n, .int .i64 p.a, .int .i64 p.b, .int .i64 p.e, .int .i64 p.u] 31)).alloc (.cells #[.int .i64 0, .slice none 0 0, .slice none 0 0, .int .i64 0] 35) = W0 at *
    refine wp_region_line (Hold2 w g0 (S3L a1 n1 c1 a2 n2 c2 s.d.s) w.heap.size p.vals) [(0, true), (1, true), (2, true), (3, true), (4, true), (5, false), (6, true), (7, true), (8, true), (9, true), (10, true)] (by kernel_rfl) (by kernel_rfl) (fun _ _ d _ _ h => by cases d <;> exact h) (HH0.out.on (bdrew _)) ?_
    have hst := HH0.out.on (bdrew _)
    have HR1 := Lib.hid (HR0.out.on (bdrew W0))
    have inst : Nonempty (Of (Hold2 w g0 (S3L a1 n1 c1 a2 n2 c2 s.d.s) w.heap.size p.vals)) := ⟨⟨_, hst⟩⟩
    have x0 := Hold2.q1 (W := w) (g1 := g0) (c1 := S3L a1 n1 c1 a2 n2 c2 s.d.s) (g2 := w.heap.size) (c2 := p.vals) 0 _ rfl
    have y0 := Hold2.q2 (W := w) (g1 := g0) (c1 := S3L a1 n1 c1 a2 n2 c2 s.d.s) (g2 := w.heap.size) (c2 := p.vals) 0 _ rfl
    have y1 := Hold2.q2 (W := w) (g1 := g0) (c1 := S3L a1 n1 c1 a2 n2 c2 s.d.s) (g2 := w.heap.size) (c2 := p.vals) 1 _ rfl
    have y2 := Hold2.q2 (W := w) (g1 := g0) (c1 := S3L a1 n1 c1 a2 n2 c2 s.d.s) (g2 := w.heap.size) (c2 := p.vals) 2 _ rfl
    have y3 := Hold2.q2 (W := w) (g1 := g0) (c1 := S3L a1 n1 c1 a2 n2 c2 s.d.s) (g2 := w.heap.size) (c2 := p.vals) 3 _ rfl
    have y4 := Hold2.q2 (W := w) (g1 := g0) (c1 := S3L a1 n1 c1 a2 n2 c2 s.d.s) (g2 := w.heap.size) (c2 := p.vals) 4 _ rfl
    clear HH0 HR0
    generalize W0.drew = V1 at *
    iterate 5 (refine line_read rfl (by kernel_rfl) (fun K hK => ?_); go_big_quiet_op; refine hK _ ?_; clear hK K)
    refine line_alone rfl (by kernel_rfl) (fun K hK => ?_)
    refine call_any (args := #[.slice a1 n1 c1, P5 p]) rfl (by kernel_rfl) (by kernel_rfl) (PP.out _ hst.bel) ?_
    rintro e x2 ⟨a3, n3, c3, rfl, O3, b3⟩
    have hst2 := hst.on b3
    have HO3 := Lib.hid O3
    have HR3 := Lib.hid (HR1.out.on b3)
    have hltV : w.heap.size + 1 < V1.heap.size := HR1.out.lt (by simp [zero9])
    have hltX : V1.heap.size ≤ x2.heap.size := b3.size
    refine ⟨_, rfl, hK _ _ hst2 ?_⟩
    clear hK K hst b3 O3 HR1 x0 y0 y1 y2 y3 y4
    have hst := hst2
    clear hst2
    simp only [Act.put, List.setIfInBounds_toArray, List.set_cons_zero, List.set_cons_succ]
    iterate 5 (refine line_read rfl (by kernel_rfl) (fun K hK => ?_); go_big_quiet_op; refine hK _ ?_; clear hK K)
    refine line_nil ?_
    have HST := Lib.hid hst
    clear hst inst
    have e1 := HST.out.a1.cell 1 _ rfl
    go_wp2_with fail
    refine (l9Bad_any 7 _).mono ?_
    rintro r u9 ⟨rfl, b9⟩
    have R9 := (HR3.out).on b9
    have B9 := btr HST.out.bel b9
    unfold zero9 at R9
    have q0 := R9.cell 0 _ rfl
    have q1 := R9.cell 1 _ rfl
    have q2 := R9.cell 2 _ rfl
    have q3 := R9.cell 3 _ rfl
    have f0 := R9.free 0 _ rfl
    have f1 := R9.free 1 _ rfl
    have f2 := R9.free 2 _ rfl
    have f3 := R9.free 3 _ rfl
    clear b9 R9
    go_wp2_with fail
    refine bodyPost_ret (v := V4 7 none 0 0 none 0 0 0) (by simp [results, Tryz.results74, go_sem, V4, q0, q1, q2, q3]) rfl ⟨none, 0, 0, none, 0, 0, rfl, SOwn.nil _ _ ?_, ?_⟩
    · exact Nat.le_trans B9.size (by simp [World.setCell])
    · exact (by (iterate 4 (refine bset ?_ (by dsimp only; omega) _)); exact B9)
  have ec := noteC_yes h0 hput hfull
  have hlt12 : s.d.rs.length < 12 := by omega
  have es : noteS s p = noted s p := by unfold noteS; rw [if_pos ec]
  have er : putR s.ps p = putL s.ps p := by unfold putR; rw [if_pos hput]
  have HNM := Lib.hid (right_names (storeF_pins (noted_f h0 hput hlt12)))
  have HW : Hid (∀ zs ∈ s.d.rs ++ [recP p], ∀ z ∈ zs, (Lit.int .u8 z).wf = true) := Lib.hid (fun zs hz z hzz => by
    rcases List.mem_append.1 hz with hz | hz
    · exact hRw zs hz z hzz
    · rw [List.mem_singleton] at hz
      subst hz
      exact byte_wf (recP_byte hpf z hzz))
  rw [es, ec]
  rw [er] at pp
  have PP := Lib.hid pp
  have hf2 : ¬ (12 : Int) ≤ n2 := by rw [← hrn]; omega
  have CP := Lib.hid (fun (w' : World) (h : Below w.heap.size w w') => l9Copy_any a1 n1 c1 a2 n2 c2 B s w' (HR.out w' h) (Nat.le_trans hB h.size) hp4 h12 hlong)
  have RC := Lib.hid (fun (w' : World) (A : At w.heap.size p.vals w') => l9Record_any w.heap.size 0 p w' (fun w2 hb => l7Pack_any w.heap.size p w2 (A.on hb) hpf) hpf)
  clear pp ec h0 ho hp h12 hlong hRw HR hput hfull hpf es er hln hrn hps hp4 hc0 hr0
  show Calls Tryz.prog 74 #[.pointer (some ⟨g0, 0, none⟩), P5 p] w (StoreRes 0 ⟨putL s.ps p, ⟨s.d.rs ++ [recP p], s.d.s⟩⟩ w)
  have HNM : Hid (∀ q ∈ putL s.ps p, q.n.size ≤ maxLen) := HNM
  generalize putL s.ps p = qs at *
  generalize recP p = zs at *
  go_enter Tryz.func74, Tryz.ntmps74
  go_wp2_with fail
  generalize (w.alloc (.cells #[.string p.n, .int .i64 p.a, .int .i64 p.b, .int .i64 p.e, .int .i64 p.u] 31)).alloc (.cells #[.int .i64 0, .slice none 0 0, .slice none 0 0, .int .i64 0] 35) = W0 at *
  refine wp_region_line (Hold2 w g0 (S3L a1 n1 c1 a2 n2 c2 s.d.s) w.heap.size p.vals) [(0, true), (1, true), (2, true), (3, true), (4, true), (5, false), (6, true), (7, true), (8, true), (9, true), (10, true)] (by kernel_rfl) (by kernel_rfl) (fun _ _ d _ _ h => by cases d <;> exact h) (HH0.out.on (bdrew _)) ?_
  have hst := HH0.out.on (bdrew _)
  have HR1 := Lib.hid (HR0.out.on (bdrew W0))
  have inst : Nonempty (Of (Hold2 w g0 (S3L a1 n1 c1 a2 n2 c2 s.d.s) w.heap.size p.vals)) := ⟨⟨_, hst⟩⟩
  have x0 := Hold2.q1 (W := w) (g1 := g0) (c1 := S3L a1 n1 c1 a2 n2 c2 s.d.s) (g2 := w.heap.size) (c2 := p.vals) 0 _ rfl
  have y0 := Hold2.q2 (W := w) (g1 := g0) (c1 := S3L a1 n1 c1 a2 n2 c2 s.d.s) (g2 := w.heap.size) (c2 := p.vals) 0 _ rfl
  have y1 := Hold2.q2 (W := w) (g1 := g0) (c1 := S3L a1 n1 c1 a2 n2 c2 s.d.s) (g2 := w.heap.size) (c2 := p.vals) 1 _ rfl
  have y2 := Hold2.q2 (W := w) (g1 := g0) (c1 := S3L a1 n1 c1 a2 n2 c2 s.d.s) (g2 := w.heap.size) (c2 := p.vals) 2 _ rfl
  have y3 := Hold2.q2 (W := w) (g1 := g0) (c1 := S3L a1 n1 c1 a2 n2 c2 s.d.s) (g2 := w.heap.size) (c2 := p.vals) 3 _ rfl
  have y4 := Hold2.q2 (W := w) (g1 := g0) (c1 := S3L a1 n1 c1 a2 n2 c2 s.d.s) (g2 := w.heap.size) (c2 := p.vals) 4 _ rfl
  clear HH0 HR0
  generalize W0.drew = V1 at *
  iterate 5 (refine line_read rfl (by kernel_rfl) (fun K hK => ?_); go_big_quiet_op; refine hK _ ?_; clear hK K)
  refine line_alone rfl (by kernel_rfl) (fun K hK => ?_)
  refine call_any (args := #[.slice a1 n1 c1, P5 p]) rfl (by kernel_rfl) (by kernel_rfl) (PP.out _ hst.bel) ?_
  rintro e x2 ⟨a3, n3, c3, rfl, O3, b3⟩
  have hst2 := hst.on b3
  have HO3 := Lib.hid O3
  have HR3 := Lib.hid (HR1.out.on b3)
  have hltV : w.heap.size + 1 < V1.heap.size := HR1.out.lt (by simp [zero9])
  have hltX : V1.heap.size ≤ x2.heap.size := b3.size
  refine ⟨_, rfl, hK _ _ hst2 ?_⟩
  clear hK K hst b3 O3 HR1 x0 y0 y1 y2 y3 y4
  have hst := hst2
  clear hst2
  simp only [Act.put, List.setIfInBounds_toArray, List.set_cons_zero, List.set_cons_succ]
  iterate 5 (refine line_read rfl (by kernel_rfl) (fun K hK => ?_); go_big_quiet_op; refine hK _ ?_; clear hK K)
  refine line_nil ?_
  have HST := Lib.hid hst
  clear hst inst
  have d0 := HST.out.a1.cell 0 _ rfl
  have d1 := HST.out.a1.cell 1 _ rfl
  have d2 := HST.out.a1.cell 2 _ rfl
  go_wp2_with fail
  refine (CP.out _ HST.out.bel).mono ?_
  rintro r u2 ⟨a4, c4, a5, c5, rfl, SO, b2⟩
  obtain ⟨mid, xs, hm1, hm2, -, -, hG, -, -⟩ := SO
  have b23 := bal (Below.refl _ u2) (.cells #[.slice a4 s.ps.length c4, .slice a5 s.d.rs.length c5, .int .i64 s.d.s] 29)
  have D3 := Lib.hid (show At u2.heap.size [.slice a4 s.ps.length c4, .slice a5 s.d.rs.length c5, .int .i64 s.d.s] (u2.alloc (.cells #[.slice a4 s.ps.length c4, .slice a5 s.d.rs.length c5, .int .i64 s.d.s] 29)) from At.new u2 [.slice a4 s.ps.length c4, .slice a5 s.d.rs.length c5, .int .i64 s.d.s] 29)
  have b3 := btr b2 b23
  have HST3 := Lib.hid (HST.out.on b3)
  have R3 := Lib.hid (HR3.out.on b3)
  have O3 := Lib.hid (HO3.out.below b3)
  have G3 := Lib.hid (hG.below b23)
  have hO3 := Lib.hid (fun k e => (Own.lt HO3.out k e))
  have hg2 : u2.heap.size < (u2.alloc (.cells #[.slice a4 s.ps.length c4, .slice a5 s.d.rs.length c5, .int .i64 s.d.s] 29)).heap.size := by simp
  clear d0 d1 d2 b2 b23 b3 hG HST HR3 HO3 CP PP
  go_upto_region 7 with fail
  generalize u2.alloc (.cells #[.slice a4 s.ps.length c4, .slice a5 s.d.rs.length c5, .int .i64 s.d.s] 29) = W3 at *
  generalize u2.heap.size = g at *
  have d0 := D3.out.cell 0 _ rfl
  have d1 := D3.out.cell 1 _ rfl
  have d2 := D3.out.cell 2 _ rfl
  have f0 := D3.out.free 0 _ rfl
  have f1 := D3.out.free 1 _ rfl
  have f2 := D3.out.free 2 _ rfl
  go_upto_region 8 with fail
  have hd1 : g ≠ w.heap.size := by omega
  have hd2 : g ≠ w.heap.size + 1 := by omega
  have hd0 : w.heap.size ≤ g := by omega
  have hs4 : (W3.setCell ⟨g, 0, none⟩ (.slice a3 n3 c3)).heap.size = W3.heap.size := by simp [World.setCell]
  have S4 : KSt w w.heap.size (w.heap.size + 1) g p.vals zero9 (.slice a3 n3 c3) (.slice a5 s.d.rs.length c5) s.d.s qs s.d.rs xs mid (W3.setCell ⟨g, 0, none⟩ (.slice a3 n3 c3)) :=
    ⟨HST3.out.a2.setB (p := ⟨g, 0, none⟩) (Ne.symm hd1) _, R3.out.setB (p := ⟨g, 0, none⟩) (Ne.symm hd2) _, by simpa using D3.out.set 0 (.slice a3 n3 c3),
     Own.setCell (O3.out.less (by omega)) (p := ⟨g, 0, none⟩) (fun k e => by have := (hO3.out k e).2; show k ≠ g; omega) _,
     fun k e => by have := (hO3.out k e).2; omega,
     (G3.out.setCell (p := ⟨g, 0, none⟩) (.inr (Nat.le_refl _)) _).more (by rw [hs4]; omega) (Nat.le_refl _),
     bset HST3.out.bel hd0 _,
     fun k e => by have h1 := (G3.out.own.lt k e).1; have h2 := G3.out.lt k e; omega,
     fun i u k hu e => by
       obtain ⟨q1, q2, -⟩ := G3.out.row i u hu
       have h1 := (Own.lt q1 k e).1
       have h2 := q2 k e
       omega,
     by omega, by omega, by rw [hs4]; omega, hd0⟩
  have hmid : w.heap.size + 1 + 1 ≤ mid := by omega
  clear d0 d1 d2 f0 f1 f2 hs4 HST3 R3 O3 G3 D3 hO3
  generalize W3.setCell ⟨g, 0, none⟩ (.slice a3 n3 c3) = W4 at *
  have HS := Lib.hid S4
  obtain ⟨i0, hi0, hz0, hz1, hz2⟩ := info_parts slices_info
  have H0 := Lib.hid (show Hold w w.heap.size p.vals W4.drew from ⟨S4.B.drew, S4.P.on (bdrew W4)⟩)
  have HT1 := Lib.hid (S4.on (bdrew W4))
  clear S4 HS
  go_wp2_with fail
  refine wp_region_fork (Hold w w.heap.size p.vals) (by kernel_rfl) (H0.out) ?_
  have hst : (Hold w w.heap.size p.vals) _ := (H0.out)
  have inst : Nonempty (Of (Hold w w.heap.size p.vals)) := ⟨⟨_, hst⟩⟩
  clear H0
  generalize W4.drew = V4' at *
  refine any_seg 7 [(0, true), (1, true)] (by kernel_rfl) (fun _ _ d _ _ h => by cases d <;> exact h) ?_
  iterate 2 (refine line_read rfl (by kernel_rfl) (fun K hK => ?_); go_big_quiet_op; refine hK _ ?_; clear hK K)
  refine line_nil ?_
  refine any_fork 2 3 (by kernel_rfl) rfl rfl (by kernel_rfl) (by kernel_rfl) (fun K hK => ?_) (fun K hK => ?_)
  · have e1 := (HT1.out).D.cell 1 _ rfl
    go_big_op
    refine hK _ _ hst ?_
    clear hK K e1
    refine any_rest [(3, false), (4, false), (5, false), (6, true), (7, true), (8, false)] (by kernel_rfl) (fun _ _ d _ _ h => by cases d <;> exact h) ?_
    refine line_alone rfl (by kernel_rfl) (fun K hK => ?_)
    refine call_any (args := #[.pointer (some ⟨w.heap.size, 0, none⟩)]) rfl (by kernel_rfl) (by kernel_rfl) (RC.out _ hst.at') ?_
    rintro e x6 ⟨a6, n6, c6, rfl, O6, b6⟩
    have hst2 := hst.on b6
    refine ⟨_, rfl, hK _ _ hst2 ?_⟩
    clear hK K hst
    have hst := hst2
    clear hst2
    simp only [Act.put, List.setIfInBounds_toArray, List.set_cons_zero, List.set_cons_succ]
    refine line_alone rfl (by kernel_rfl) (fun K hK => ?_)
    go_big_op
    have SR := Lib.hid (src_new (P := Tryz.prog) x6 [.slice a6 n6 c6] 1 1 22 25 22 Tryz.underlying25 rfl (by intro u hu; simp at hu; subst hu; rfl))
    have b7 := btr b6 (bal (Below.refl _ x6) (.cells #[.slice a6 n6 c6] 22))
    have O7 := Lib.hid (O6.alloc (.cells #[.slice a6 n6 c6] 22))
    have hst2 := hst.on (bal (Below.refl _ x6) (.cells #[.slice a6 n6 c6] 22))
    refine hK _ _ hst2 ?_
    clear hK K hst O6 b6
    have hst := hst2
    clear hst2
    have hc7 : (x6.alloc (.cells [Value.slice a6 n6 c6].toArray 22)) = x6.alloc (.cells #[.slice a6 n6 c6] 22) := rfl
    rw [hc7] at SR
    clear hc7
    generalize x6.alloc (.cells #[.slice a6 n6 c6] 22) = x7 at *
    generalize x6.heap.size = lit at *
    refine line_alone rfl (by kernel_rfl) (fun K hK => ?_)
    have HT7 := Lib.hid (HT1.out.on b7)
    refine wp_append_src _ (.tmp 37) (.tmp 39) 25 25 rfl mid 22 i0 (.slice none 0 0) 1 24 Tryz.underlying25 hi0 hz0 hz1 hz2 rfl (.slice a5 s.d.rs.length c5) s.d.rs.length xs rfl HT7.out.G.own _ 1 [.slice a6 n6 c6] rfl SR.out (by simp only [maxLen]; omega) (by omega) HT7.out.lo2 (fun v8 w8 hown hgrow hat => ?_)
    obtain ⟨a8, c8, hv8, -⟩ := Own.form hown
    subst hv8
    have T8 := Lib.hid (HT1.out.app b7 O7.out hown hgrow hat hd1 hd2 (by simp [PinD.vals]) (by simp [zero9]))
    have D8 := HT7.out.D.kept hgrow (fun e => (HT7.out.off g e.symm).2.2 rfl)
    have P8 := HT7.out.P.kept hgrow (fun e => (HT7.out.off w.heap.size e.symm).1 rfl)
    have B8 : Below w.heap.size w w8 := HT7.out.B.grown hgrow HT7.out.B.size fun k e => Nat.le_trans HT7.out.lo1 (HT7.out.G.own.lt k e).1
    have hst2 : Hold w w.heap.size p.vals w8 := ⟨B8, P8⟩
    refine hK _ _ hst2 ?_
    clear hK K hst hown hgrow hat O7 SR HT7 b7 B8 P8
    have hst := hst2
    clear hst2
    simp only [Act.put, List.setIfInBounds_toArray, List.set_cons_zero, List.set_cons_succ]
    have z0 := D8.cell 0 _ rfl
    have z1 := D8.cell 1 _ rfl
    have z2 := D8.cell 2 _ rfl
    have f0 := D8.free 0 _ rfl
    have f1 := D8.free 1 _ rfl
    have f2 := D8.free 2 _ rfl
    iterate 2 (refine line_read rfl (by kernel_rfl) (fun K hK => ?_); go_big_quiet_op; refine hK _ ?_; clear hK K)
    refine line_alone rfl (by kernel_rfl) (fun K hK => ?_)
    go_big_op
    refine hK _ _ (hst.setB (p := ⟨g, 1, none⟩) hd0 (Ne.symm hd1) _) ?_
    clear hK K
    refine line_nil ?_
    clear z0 z1 z2 f0 f1 f2 D8 HT1 RC hst inst
    have SO9 := T8.out.got HNM.out HW.out
    have R9 := T8.out.R
    have D9 := T8.out.D
    have B9 := T8.out.B
    generalize w8.setCell ⟨g, 1, none⟩ (.slice a8 (s.d.rs.length + 1) c8) = W9 at *
    have HS9 := Lib.hid (SO9.res (w := w) (r := w.heap.size + 1) (by omega) (by omega) (.int .i64 0) (.slice a3 n3 c3) (.slice a8 (s.d.rs.length + 1) c8) (.int .i64 s.d.s))
    have HB9 := Lib.hid B9
    clear SO9 B9 T8
    have z0 := D9.cell 0 _ rfl
    have z1 := D9.cell 1 _ rfl
    have z2 := D9.cell 2 _ rfl
    unfold zero9 at R9
    have q0 := R9.cell 0 _ rfl
    have q1 := R9.cell 1 _ rfl
    have q2 := R9.cell 2 _ rfl
    have q3 := R9.cell 3 _ rfl
    have f0 := R9.free 0 _ rfl
    have f1 := R9.free 1 _ rfl
    have f2 := R9.free 2 _ rfl
    have f3 := R9.free 3 _ rfl
    clear D9 R9
    go_wp2_with fail
    refine bodyPost_ret (v := V4 0 a3 n3 c3 a8 (s.d.rs.length + 1) c8 s.d.s) (by simp [results, Tryz.results74, go_sem, V4, q0, q1, q2, q3]) rfl ⟨a3, n3, c3, a8, s.d.rs.length + 1, c8, rfl, HS9.out, ?_⟩
    exact (by (iterate 4 (refine bset ?_ (by dsimp only; omega) _)); exact HB9.out)
  · refine call_any (args := #[.pointer (some ⟨w.heap.size, 0, none⟩)]) rfl (by kernel_rfl) (by kernel_rfl) (RC.out _ hst.at') ?_
    rintro e x6 ⟨a6, n6, c6, rfl, O6, b6⟩
    have hst2 := hst.on b6
    refine ⟨_, rfl, hK _ _ hst2 ?_⟩
    clear hK K hst
    have hst := hst2
    clear hst2
    simp only [Act.put, List.setIfInBounds_toArray, List.set_cons_zero, List.set_cons_succ]
    refine any_fork 2 4 (by kernel_rfl) rfl rfl (by kernel_rfl) (by kernel_rfl) (fun K hK => ?_) (fun K hK => ?_)
    · have e1 := (HT1.out.on b6).D.cell 1 _ rfl
      go_big_op
      refine hK _ _ hst ?_
      clear hK K e1
      refine any_rest [(4, false), (5, false), (6, true), (7, true), (8, false)] (by kernel_rfl) (fun _ _ d _ _ h => by cases d <;> exact h) ?_
      refine line_alone rfl (by kernel_rfl) (fun K hK => ?_)
      go_big_op
      have SR := Lib.hid (src_new (P := Tryz.prog) x6 [.slice a6 n6 c6] 1 1 22 25 22 Tryz.underlying25 rfl (by intro u hu; simp at hu; subst hu; rfl))
      have b7 := btr b6 (bal (Below.refl _ x6) (.cells #[.slice a6 n6 c6] 22))
      have O7 := Lib.hid (O6.alloc (.cells #[.slice a6 n6 c6] 22))
      have hst2 := hst.on (bal (Below.refl _ x6) (.cells #[.slice a6 n6 c6] 22))
      refine hK _ _ hst2 ?_
      clear hK K hst O6 b6
      have hst := hst2
      clear hst2
      have hc7 : (x6.alloc (.cells [Value.slice a6 n6 c6].toArray 22)) = x6.alloc (.cells #[.slice a6 n6 c6] 22) := rfl
      rw [hc7] at SR
      clear hc7
      generalize x6.alloc (.cells #[.slice a6 n6 c6] 22) = x7 at *
      generalize x6.heap.size = lit at *
      refine line_alone rfl (by kernel_rfl) (fun K hK => ?_)
      have HT7 := Lib.hid (HT1.out.on b7)
      refine wp_append_src _ (.tmp 37) (.tmp 39) 25 25 rfl mid 22 i0 (.slice none 0 0) 1 24 Tryz.underlying25 hi0 hz0 hz1 hz2 rfl (.slice a5 s.d.rs.length c5) s.d.rs.length xs rfl HT7.out.G.own _ 1 [.slice a6 n6 c6] rfl SR.out (by simp only [maxLen]; omega) (by omega) HT7.out.lo2 (fun v8 w8 hown hgrow hat => ?_)
      obtain ⟨a8, c8, hv8, -⟩ := Own.form hown
      subst hv8
      have T8 := Lib.hid (HT1.out.app b7 O7.out hown hgrow hat hd1 hd2 (by simp [PinD.vals]) (by simp [zero9]))
      have D8 := HT7.out.D.kept hgrow (fun e => (HT7.out.off g e.symm).2.2 rfl)
      have P8 := HT7.out.P.kept hgrow (fun e => (HT7.out.off w.heap.size e.symm).1 rfl)
      have B8 : Below w.heap.size w w8 := HT7.out.B.grown hgrow HT7.out.B.size fun k e => Nat.le_trans HT7.out.lo1 (HT7.out.G.own.lt k e).1
      have hst2 : Hold w w.heap.size p.vals w8 := ⟨B8, P8⟩
      refine hK _ _ hst2 ?_
      clear hK K hst hown hgrow hat O7 SR HT7 b7 B8 P8
      have hst := hst2
      clear hst2
      simp only [Act.put, List.setIfInBounds_toArray, List.set_cons_zero, List.set_cons_succ]
      have z0 := D8.cell 0 _ rfl
      have z1 := D8.cell 1 _ rfl
      have z2 := D8.cell 2 _ rfl
      have f0 := D8.free 0 _ rfl
      have f1 := D8.free 1 _ rfl
      have f2 := D8.free 2 _ rfl
      iterate 2 (refine line_read rfl (by kernel_rfl) (fun K hK => ?_); go_big_quiet_op; refine hK _ ?_; clear hK K)
      refine line_alone rfl (by kernel_rfl) (fun K hK => ?_)
      go_big_op
      refine hK _ _ (hst.setB (p := ⟨g, 1, none⟩) hd0 (Ne.symm hd1) _) ?_
      clear hK K
      refine line_nil ?_
      clear z0 z1 z2 f0 f1 f2 D8 HT1 RC hst inst
      have SO9 := T8.out.got HNM.out HW.out
      have R9 := T8.out.R
      have D9 := T8.out.D
      have B9 := T8.out.B
      generalize w8.setCell ⟨g, 1, none⟩ (.slice a8 (s.d.rs.length + 1) c8) = W9 at *
      have HS9 := Lib.hid (SO9.res (w := w) (r := w.heap.size + 1) (by omega) (by omega) (.int .i64 0) (.slice a3 n3 c3) (.slice a8 (s.d.rs.length + 1) c8) (.int .i64 s.d.s))
      have HB9 := Lib.hid B9
      clear SO9 B9 T8
      have z0 := D9.cell 0 _ rfl
      have z1 := D9.cell 1 _ rfl
      have z2 := D9.cell 2 _ rfl
      unfold zero9 at R9
      have q0 := R9.cell 0 _ rfl
      have q1 := R9.cell 1 _ rfl
      have q2 := R9.cell 2 _ rfl
      have q3 := R9.cell 3 _ rfl
      have f0 := R9.free 0 _ rfl
      have f1 := R9.free 1 _ rfl
      have f2 := R9.free 2 _ rfl
      have f3 := R9.free 3 _ rfl
      clear D9 R9
      go_wp2_with fail
      refine bodyPost_ret (v := V4 0 a3 n3 c3 a8 (s.d.rs.length + 1) c8 s.d.s) (by simp [results, Tryz.results74, go_sem, V4, q0, q1, q2, q3]) rfl ⟨a3, n3, c3, a8, s.d.rs.length + 1, c8, rfl, HS9.out, ?_⟩
      exact (by (iterate 4 (refine bset ?_ (by dsimp only; omega) _)); exact HB9.out)
    · go_big_op
      have SR := Lib.hid (src_new (P := Tryz.prog) x6 [.slice a6 n6 c6] 1 1 22 25 22 Tryz.underlying25 rfl (by intro u hu; simp at hu; subst hu; rfl))
      have b7 := btr b6 (bal (Below.refl _ x6) (.cells #[.slice a6 n6 c6] 22))
      have O7 := Lib.hid (O6.alloc (.cells #[.slice a6 n6 c6] 22))
      have hst2 := hst.on (bal (Below.refl _ x6) (.cells #[.slice a6 n6 c6] 22))
      refine hK _ _ hst2 ?_
      clear hK K hst O6 b6
      have hst := hst2
      clear hst2
      have hc7 : (x6.alloc (.cells [Value.slice a6 n6 c6].toArray 22)) = x6.alloc (.cells #[.slice a6 n6 c6] 22) := rfl
      rw [hc7] at SR
      clear hc7
      generalize x6.alloc (.cells #[.slice a6 n6 c6] 22) = x7 at *
      generalize x6.heap.size = lit at *
      refine any_rest [(2, false), (5, false), (6, true), (7, true), (8, false)] (by kernel_rfl) (fun _ _ d _ _ h => by cases d <;> exact h) ?_
      refine line_alone rfl (by kernel_rfl) (fun K hK => ?_)
      have e1 := (HT1.out.on b7).D.cell 1 _ rfl
      go_big_op
      refine hK _ _ hst ?_
      clear hK K e1
      refine line_alone rfl (by kernel_rfl) (fun K hK => ?_)
      have HT7 := Lib.hid (HT1.out.on b7)
      refine wp_append_src _ (.tmp 37) (.tmp 39) 25 25 rfl mid 22 i0 (.slice none 0 0) 1 24 Tryz.underlying25 hi0 hz0 hz1 hz2 rfl (.slice a5 s.d.rs.length c5) s.d.rs.length xs rfl HT7.out.G.own _ 1 [.slice a6 n6 c6] rfl SR.out (by simp only [maxLen]; omega) (by omega) HT7.out.lo2 (fun v8 w8 hown hgrow hat => ?_)
      obtain ⟨a8, c8, hv8, -⟩ := Own.form hown
      subst hv8
      have T8 := Lib.hid (HT1.out.app b7 O7.out hown hgrow hat hd1 hd2 (by simp [PinD.vals]) (by simp [zero9]))
      have D8 := HT7.out.D.kept hgrow (fun e => (HT7.out.off g e.symm).2.2 rfl)
      have P8 := HT7.out.P.kept hgrow (fun e => (HT7.out.off w.heap.size e.symm).1 rfl)
      have B8 : Below w.heap.size w w8 := HT7.out.B.grown hgrow HT7.out.B.size fun k e => Nat.le_trans HT7.out.lo1 (HT7.out.G.own.lt k e).1
      have hst2 : Hold w w.heap.size p.vals w8 := ⟨B8, P8⟩
      refine hK _ _ hst2 ?_
      clear hK K hst hown hgrow hat O7 SR HT7 b7 B8 P8
      have hst := hst2
      clear hst2
      simp only [Act.put, List.setIfInBounds_toArray, List.set_cons_zero, List.set_cons_succ]
      have z0 := D8.cell 0 _ rfl
      have z1 := D8.cell 1 _ rfl
      have z2 := D8.cell 2 _ rfl
      have f0 := D8.free 0 _ rfl
      have f1 := D8.free 1 _ rfl
      have f2 := D8.free 2 _ rfl
      iterate 2 (refine line_read rfl (by kernel_rfl) (fun K hK => ?_); go_big_quiet_op; refine hK _ ?_; clear hK K)
      refine line_alone rfl (by kernel_rfl) (fun K hK => ?_)
      go_big_op
      refine hK _ _ (hst.setB (p := ⟨g, 1, none⟩) hd0 (Ne.symm hd1) _) ?_
      clear hK K
      refine line_nil ?_
      clear z0 z1 z2 f0 f1 f2 D8 HT1 RC hst inst
      have SO9 := T8.out.got HNM.out HW.out
      have R9 := T8.out.R
      have D9 := T8.out.D
      have B9 := T8.out.B
      generalize w8.setCell ⟨g, 1, none⟩ (.slice a8 (s.d.rs.length + 1) c8) = W9 at *
      have HS9 := Lib.hid (SO9.res (w := w) (r := w.heap.size + 1) (by omega) (by omega) (.int .i64 0) (.slice a3 n3 c3) (.slice a8 (s.d.rs.length + 1) c8) (.int .i64 s.d.s))
      have HB9 := Lib.hid B9
      clear SO9 B9 T8
      have z0 := D9.cell 0 _ rfl
      have z1 := D9.cell 1 _ rfl
      have z2 := D9.cell 2 _ rfl
      unfold zero9 at R9
      have q0 := R9.cell 0 _ rfl
      have q1 := R9.cell 1 _ rfl
      have q2 := R9.cell 2 _ rfl
      have q3 := R9.cell 3 _ rfl
      have f0 := R9.free 0 _ rfl
      have f1 := R9.free 1 _ rfl
      have f2 := R9.free 2 _ rfl
      have f3 := R9.free 3 _ rfl
      clear D9 R9
      go_wp2_with fail
      refine bodyPost_ret (v := V4 0 a3 n3 c3 a8 (s.d.rs.length + 1) c8 s.d.s) (by simp [results, Tryz.results74, go_sem, V4, q0, q1, q2, q3]) rfl ⟨a3, n3, c3, a8, s.d.rs.length + 1, c8, rfl, HS9.out, ?_⟩
      exact (by (iterate 4 (refine bset ?_ (by dsimp only; omega) _)); exact HB9.out)
end Go.Proofs.YtefgimpodhjdpaaGreatDoor
namespace Go.Proofs.YtefgimpodhjdpaaGreatDoor
open Go.RowKit
set_option maxRecDepth 100000
set_option linter.unusedVariables false

set_option maxHeartbeats 1000000 in
theorem specNotePin_any (a1 : Option Addr) (n1 c1 : Nat) (a2 : Option Addr) (n2 c2 B : Nat) (s : StoreD) (p : PinD) (w : World) (hR : SRow w B a1 n1 c1 a2 n2 c2 s) (hB : B ≤ w.heap.size) (hpn : p.n.size ≤ maxLen) :
    Calls Tryz.prog 25 #[S3 a1 n1 c1 a2 n2 c2 s.d.s, P5 p] w (StoreRes (noteC s p) (noteS s p) w) := by
  obtain ⟨b0, A0, P0, R0⟩ := beginN a1 n1 c1 a2 n2 c2 s.d.s p w
  have HR0 := Lib.hid R0
  have HA0 := Lib.hid A0
  have HP0 := Lib.hid P0
  have HB0 := Lib.hid b0
  have HR := Lib.hid (fun (w' : World) (h : Below w.heap.size w w') => hR.below (h.mono hB))
  have F0 := l9Fault_any w.heap.size a1 n1 c1 a2 n2 c2 B s _ ⟨A0, hR.below (b0.mono hB)⟩ (Nat.le_trans hB b0.size)
  clear A0 P0 R0 b0 hR
  by_cases h0 : storeF s = 0
  case neg =>
    have ec := noteC_bad (p := p) h0
    rw [noteS_no (by rw [ec]; exact h0), ec]
    generalize storeF s = cd at *
    have q9 : (cd != 0) = true := by simpa using h0
    have q8 : decide (cd = 0) = false := by simpa using h0
    clear HR ec
    go_enter Tryz.func25, Tryz.ntmps25
    go_wp2_with fail
    generalize ((w.alloc (.cells #[.slice a1 n1 c1, .slice a2 n2 c2, .int .i64 s.d.s] 29)).alloc (.cells #[.string p.n, .int .i64 p.a, .int .i64 p.b, .int .i64 p.e, .int .i64 p.u] 31)).alloc (.cells #[.int .i64 0, .slice none 0 0, .slice none 0 0, .int .i64 0] 35) = W0 at *
    refine F0.mono ?_
    rintro r u1 ⟨rfl, b1⟩
    have B1 := Lib.hid (btr HB0.out b1)
    have R1 := Lib.hid (HR0.out.on b1)
    have A1 := Lib.hid (HA0.out.on b1)
    have P1 := Lib.hid (HP0.out.on b1)
    clear b1 F0 HB0 HR0 HA0 HP0
    go_wp2_with fail
    refine (l9Bad_any cd _).mono ?_
    rintro r u9 ⟨rfl, b9⟩
    have R9 := (R1.out).on b9
    have B9 := btr B1.out b9
    unfold zero9 at R9
    have q0 := R9.cell 0 _ rfl
    have q1 := R9.cell 1 _ rfl
    have q2 := R9.cell 2 _ rfl
    have q3 := R9.cell 3 _ rfl
    have f0 := R9.free 0 _ rfl
    have f1 := R9.free 1 _ rfl
    have f2 := R9.free 2 _ rfl
    have f3 := R9.free 3 _ rfl
    clear b9 R9
    go_wp2_with fail
    refine bodyPost_ret (v := V4 cd none 0 0 none 0 0 0) (by simp [results, Tryz.results25, go_sem, V4, q0, q1, q2, q3]) rfl ⟨none, 0, 0, none, 0, 0, rfl, SOwn.nil _ _ ?_, ?_⟩
    · exact Nat.le_trans B9.size (by simp [World.setCell])
    · exact (by (iterate 4 (refine bset ?_ (by dsimp only; omega) _)); exact B9)
  rw [h0] at F0
  by_cases hpf : p.f = 0
  case neg =>
    have ep : putC s.ps p = p.f := by
      have := storeF_pins h0
      unfold putC
      rw [if_neg (by omega), if_pos hpf]
    have ec := noteC_put (p := p) h0 (by rw [ep]; exact hpf)
    rw [noteS_no (by rw [ec, ep]; exact hpf), ec, ep]
    have q9 : (p.f != 0) = true := by simpa using hpf
    have q8 : decide (p.f = 0) = false := by simpa using hpf
    clear HR ec ep h0
    go_enter Tryz.func25, Tryz.ntmps25
    go_wp2_with fail
    generalize ((w.alloc (.cells #[.slice a1 n1 c1, .slice a2 n2 c2, .int .i64 s.d.s] 29)).alloc (.cells #[.string p.n, .int .i64 p.a, .int .i64 p.b, .int .i64 p.e, .int .i64 p.u] 31)).alloc (.cells #[.int .i64 0, .slice none 0 0, .slice none 0 0, .int .i64 0] 35) = W0 at *
    refine F0.mono ?_
    rintro r u1 ⟨rfl, b1⟩
    have B1 := Lib.hid (btr HB0.out b1)
    have R1 := Lib.hid (HR0.out.on b1)
    have A1 := Lib.hid (HA0.out.on b1)
    have P1 := Lib.hid (HP0.out.on b1)
    clear b1 F0 HB0 HR0 HA0 HP0
    go_wp2_with fail
    refine (l7Fault_any _ p _ P1.out hpn).mono ?_
    rintro r u2 ⟨rfl, b2⟩
    have B2 := Lib.hid (btr B1.out b2)
    have R2 := Lib.hid (R1.out.on b2)
    have A2 := Lib.hid (A1.out.on b2)
    have P2 := Lib.hid (P1.out.on b2)
    clear b2 B1 R1 A1 P1
    go_wp2_with fail
    refine (l9Bad_any p.f _).mono ?_
    rintro r u9 ⟨rfl, b9⟩
    have R9 := (R2.out).on b9
    have B9 := btr B2.out b9
    unfold zero9 at R9
    have q0 := R9.cell 0 _ rfl
    have q1 := R9.cell 1 _ rfl
    have q2 := R9.cell 2 _ rfl
    have q3 := R9.cell 3 _ rfl
    have f0 := R9.free 0 _ rfl
    have f1 := R9.free 1 _ rfl
    have f2 := R9.free 2 _ rfl
    have f3 := R9.free 3 _ rfl
    clear b9 R9
    go_wp2_with fail
    refine bodyPost_ret (v := V4 p.f none 0 0 none 0 0 0) (by simp [results, Tryz.results25, go_sem, V4, q0, q1, q2, q3]) rfl ⟨none, 0, 0, none, 0, 0, rfl, SOwn.nil _ _ ?_, ?_⟩
    · exact Nat.le_trans B9.size (by simp [World.setCell])
    · exact (by (iterate 4 (refine bset ?_ (by dsimp only; omega) _)); exact B9)
  have LN := Lib.hid (fun (w' : World) (hb : Below w.heap.size w w') (A : At w.heap.size (S3L a1 n1 c1 a2 n2 c2 s.d.s) w') => l9Note_any w.heap.size a1 n1 c1 a2 n2 c2 B s p w' ⟨A, HR.out w' hb⟩ (Nat.le_trans hB hb.size) h0 hpf)
  unfold StoreRes at LN
  have hnc : hpf = hpf := rfl
  clear HR h0
  generalize noteC s p = C at *
  generalize noteS s p = S at *
  go_enter Tryz.func25, Tryz.ntmps25
  go_wp2_with fail
  generalize ((w.alloc (.cells #[.slice a1 n1 c1, .slice a2 n2 c2, .int .i64 s.d.s] 29)).alloc (.cells #[.string p.n, .int .i64 p.a, .int .i64 p.b, .int .i64 p.e, .int .i64 p.u] 31)).alloc (.cells #[.int .i64 0, .slice none 0 0, .slice none 0 0, .int .i64 0] 35) = W0 at *
  refine F0.mono ?_
  rintro r u1 ⟨rfl, b1⟩
  have B1 := Lib.hid (btr HB0.out b1)
  have R1 := Lib.hid (HR0.out.on b1)
  have A1 := Lib.hid (HA0.out.on b1)
  have P1 := Lib.hid (HP0.out.on b1)
  clear b1 F0 HB0 HR0 HA0 HP0
  go_wp2_with fail
  refine (l7Fault_any _ p _ P1.out hpn).mono ?_
  rintro r u2 ⟨rfl, b2⟩
  have B2 := Lib.hid (btr B1.out b2)
  have R2 := Lib.hid (R1.out.on b2)
  have A2 := Lib.hid (A1.out.on b2)
  have P2 := Lib.hid (P1.out.on b2)
  clear b2 B1 R1 A1 P1
  rw [hpf]
  have p0 := P2.out.cell 0 _ rfl
  have p1 := P2.out.cell 1 _ rfl
  have p2 := P2.out.cell 2 _ rfl
  have p3 := P2.out.cell 3 _ rfl
  have p4 := P2.out.cell 4 _ rfl
  go_wp2_with fail
  refine (LN.out _ B2.out A2.out).mono ?_
  rintro r u9 ⟨a3, n3, c3, a4, n4, c4, rfl, SO9, b9⟩
  have R9 := R2.out.on b9
  have B9 := btr B2.out b9
  have HS9 := Lib.hid (SO9.res (w := w) (r := w.heap.size + 1 + 1) (R2.out.lt (by decide)) B2.out.size (.int .i64 C) (.slice a3 n3 c3) (.slice a4 n4 c4) (.int .i64 S.d.s))
  unfold zero9 at R9
  have q0 := R9.cell 0 _ rfl
  have q1 := R9.cell 1 _ rfl
  have q2 := R9.cell 2 _ rfl
  have q3 := R9.cell 3 _ rfl
  have f0 := R9.free 0 _ rfl
  have f1 := R9.free 1 _ rfl
  have f2 := R9.free 2 _ rfl
  have f3 := R9.free 3 _ rfl
  clear R9 b9 SO9 p0 p1 p2 p3 p4
  go_wp2_with fail
  refine bodyPost_ret (v := V4 C a3 n3 c3 a4 n4 c4 S.d.s) (by simp [results, Tryz.results25, go_sem, V4, q0, q1, q2, q3]) rfl ⟨a3, n3, c3, a4, n4, c4, rfl, HS9.out, ?_⟩
  exact (by (iterate 4 (refine bset ?_ (by dsimp only; omega) _)); exact B9)
end Go.Proofs.YtefgimpodhjdpaaGreatDoor
