/- Texts of this seat that several laws rest on, laid into one. Conditions: as each theorem states. -/
import Derived.Test.YtcolecidbalmhaaGreatDoorS1
import Derived.Test.YtcolecidbalmhaaGreatDoorS7
import Derived.Test.YtcolecidbalmhaaGreatDoorS11
import Derived.Defers
import Derived.LaidEql
import Derived.Stop.Asserts
import Derived.RowKitTokens
import Derived.Laws.IdiomCopy
namespace Go.Proofs.YtcolecidbalmhaaGreatDoor
open Go.RowKit
set_option maxRecDepth 100000
set_option linter.unusedVariables false

end Go.Proofs.YtcolecidbalmhaaGreatDoor
namespace Go.Proofs.YtcolecidbalmhaaGreatDoor
open Go.RowKit
set_option maxRecDepth 100000
set_option linter.unusedVariables false

section
variable {P : Program} {S : World → Prop} {Q : Exit → Act → World → Prop} {a : Act} {w : World} {i : Nat} {o : Oper} {r : List (Nat × Bool)} {l : List Oper} {C : Act → World → Prop}
theorem line_jour (cs : List Value) (x : Operand) (g : Nat) (ho : l[i]? = some o) (hw : Region.wanted o (yielded l.toArray a.tmps) = true) (hop : o.op = .load 114 x) (hx : a.eval x = .pointer (some ⟨g, 0, none⟩)) (hS : ∀ w', S w' → JB g cs w')
    (hi : (Tryz.prog.info? 114).map (·.size) = some cs.toArray.size) (h : LineP Tryz.prog l.toArray S Q C r (a.put o.dst (.agg cs.toArray)) w) : LineP Tryz.prog l.toArray S Q C ((i, true) :: r) a w := by
  refine line_read ho hw fun K hK => ⟨.agg cs.toArray, fun w' hx' => ?_, hK _ h⟩
  obtain ⟨z, rfl⟩ := hx'
  have hr : (execOp a.eval o).run Tryz.prog z.val = .ok (.value (.agg cs.toArray)) z.val := by
    unfold execOp
    simp only [hop, hx, Instr.loadAt, Instr.sureAddr, Sem.run_bind, Sem.run_pure, Result.andThen_ok, run_loadVar_row z.val g 114 114 cs.toArray (0, 0) _ (hS _ z.prop) Tryz.underlying114 rfl hi]
  unfold Oper.quietAt
  rw [hr]
  exact ⟨rfl, rfl⟩
end
/-- A pin and a journal. -/
structure PJ (g : Nat) (pv : List Value) (j : Nat) (J : List Value) (cur : World) : Prop where
  A : At g pv cur
  J : JB j J cur
section
variable {g j : Nat} {pv J : List Value} {cur cur' : World}
theorem PJ.on (h : PJ g pv j J cur) (hb : Below cur.heap.size cur cur') : PJ g pv j J cur' := ⟨h.A.on hb, h.J.on hb⟩
theorem PJ.setB (h : PJ g pv j J cur) {p : Addr} (h1 : g ≠ p.block) (h2 : j ≠ p.block) (u : Value) : PJ g pv j J (cur.setCell p u) := ⟨h.A.setB h1 u, h.J.setB h2 u⟩
theorem PJ.q (i : Nat) (v : Value) (h : pv[i]? = some v) : ∀ z : Of (PJ g pv j J), z.val.cell? ⟨g, i, none⟩ = some v := fun z => z.prop.A.cell i v h
end
theorem note_idle (g j b : Nat) (c : Int) (v1 v2 : Value) (x : Int) (w : World) (A : At g [.int .i64 c, v1, v2, .int .i64 x] w) (h : c ≠ 0) :
    CallsD Tryz.prog 68 #[.pointer (some ⟨g, 0, none⟩), .pointer (some ⟨j, 0, none⟩), .pointer (some ⟨b, 0, none⟩)] .returning w fun e u' w' => u' = .returning ∧ (e = .returned (.tuple #[]) ∧ w' = w) := by
  have c0 := A.cell 0 _ rfl
  have q9 : (c == 0) = false := by simpa using h
  have q8 : decide (c = 0) = false := by simpa using h
  go_enter_d Tryz.func68, Tryz.ntmps68
  go_wp2_with fail
  exact ⟨rfl, .tuple #[], by simp [results, Tryz.results68], rfl, rfl⟩
/-- The records of a disk of new memory were stored into a result. -/
def Wrote (g : Nat) (rs : List (List Int)) (x : Int) (w : World) (w' : World) : Prop :=
  ∃ (w1 : World) (a : Option Addr) (n c : Nat) (xs : List Value), w' = (w1.setCell ⟨g, 2, none⟩ (.slice a n c)).setCell ⟨g, 3, none⟩ (.int .i64 x) ∧ OwnG w1 w.heap.size w1.heap.size (.slice a n c) rs xs ∧ Below w.heap.size w w1
set_option maxHeartbeats 1000000 in
theorem note_write (g j b : Nat) (v1 : Value) (x y : Int) (p : PinD) (rs : List (List Int)) (w : World) (A : At g [.int .i64 0, v1, .slice none 0 0, .int .i64 y] w) (hA : At b p.vals w) (hJ : JB j (jall rs x) w) (h : p.f = 0) (hn : rs.length < 12) (hl : rs.any longR = false) (hw : ∀ zs ∈ rs, ∀ z ∈ zs, (Lit.int .u8 z).wf = true)
    (h1 : b ≠ g) (h2 : j ≠ g) :
    CallsD Tryz.prog 68 #[.pointer (some ⟨g, 0, none⟩), .pointer (some ⟨j, 0, none⟩), .pointer (some ⟨b, 0, none⟩)] .returning w fun e u' w' => u' = .returning ∧ (e = .returned (.tuple #[]) ∧ Wrote g (rs ++ [recP p]) x w w') := by
  have HFJ := Lib.hid (jall_fit rs x)
  have PR := Lib.hid (fun w' => pinRecord_any p w' h)
  have HPW := Lib.hid (fun z hz => byte_wf (recP_byte h z hz))
  have hsh := recP_short h
  have hp40 : (recP p).length ≤ 40 := by simpa [longR] using hsh
  have WA := Lib.hid (fun (a : Option Addr) (n c : Nat) (w' : World) (h : Row .u8 w' w'.heap.size a n c (recP p)) => withAll_any rs x (recP p) a n c w'.heap.size w' h (Nat.le_refl _) hn (by rw [← h.length]; exact hp40))
  have dk := fun (w' : World) => disk_any (rs ++ [recP p]) (rs ++ [recP p]).length x w' (Nat.le_refl _) (by rw [List.length_append]; simp; omega) (by rw [List.any_append, hl]; simp [hsh]) (fun zs hz z hzz => by
    rcases List.mem_append.1 hz with hz | hz
    · exact hw zs hz z hzz
    · rw [List.mem_singleton] at hz
      subst hz
      exact byte_wf (recP_byte h z hzz))
  simp only [← jall_def, List.take_length] at dk
  have DK := Lib.hid dk
  have H0 := Lib.hid (show PJ b p.vals j (jall rs x) w.drew from ⟨hA.on (bdrew _), hJ.on (bdrew _)⟩)
  have HA := Lib.hid (A.on (bdrew w))
  have hB0 := Lib.hid (bdrew w)
  have c0 := A.cell 0 _ rfl
  clear dk hp40 hsh hl hw hn hA hJ h A
  generalize jall rs x = J at *
  generalize jall (rs ++ [recP p]) x = J2 at *
  generalize rs ++ [recP p] = rs2 at *
  generalize recP p = zs at *
  go_enter_d Tryz.func68, Tryz.ntmps68
  go_wp2_with fail
  refine wp_region_line (PJ b p.vals j J) [(0, true), (1, true), (2, false), (3, false), (4, false), (5, true), (6, true), (7, false)] (by kernel_rfl) (by kernel_rfl) (fun _ _ d _ _ h => by cases d <;> exact h) H0.out ?_
  have hst := H0.out
  have inst : Nonempty (Of (PJ b p.vals j J)) := ⟨⟨_, hst⟩⟩
  have u0 := PJ.q (g := b) (pv := p.vals) (j := j) (J := J) 0 _ rfl
  have u1 := PJ.q (g := b) (pv := p.vals) (j := j) (J := J) 1 _ rfl
  have u2 := PJ.q (g := b) (pv := p.vals) (j := j) (J := J) 2 _ rfl
  have u3 := PJ.q (g := b) (pv := p.vals) (j := j) (J := J) 3 _ rfl
  have u4 := PJ.q (g := b) (pv := p.vals) (j := j) (J := J) 4 _ rfl
  clear H0 c0
  generalize w.drew = V1 at *
  refine line_jour J (.tmp 1) j rfl (by kernel_rfl) rfl rfl (fun w' h => h.J) HFJ.out ?_
  simp only [Act.put, List.setIfInBounds_toArray, List.set_cons_zero, List.set_cons_succ]
  iterate 1 (refine line_read rfl (by kernel_rfl) (fun K hK => ?_); go_big_quiet_op; refine hK _ ?_; clear hK K)
  clear u0 u1 u2 u3 u4
  refine line_alone rfl (by kernel_rfl) (fun K hK => ?_)
  refine call_any (args := #[P5 p]) rfl (by kernel_rfl) (by kernel_rfl) (PR.out _) ?_
  rintro e x6 ⟨a6, n6, c6, rfl, O6, b6⟩
  have hst2 := hst.on b6
  have R6 := Own.row O6 HPW.out
  refine ⟨_, rfl, hK _ _ hst2 ?_⟩
  clear hK K hst O6
  have hst := hst2
  clear hst2
  simp only [Act.put, List.setIfInBounds_toArray, List.set_cons_zero, List.set_cons_succ]
  refine line_alone rfl (by kernel_rfl) (fun K hK => ?_)
  refine call_wp (args := #[.agg J.toArray, .slice a6 n6 c6]) rfl (by kernel_rfl) (by kernel_rfl) (WA.out _ _ _ _ R6) (fun x7 b7 => ?_)
  have hst2 := hst.on b7
  refine hK _ _ hst2 ?_
  clear hK K hst R6
  have hst := hst2
  clear hst2
  simp only [Act.put, List.setIfInBounds_toArray, List.set_cons_zero, List.set_cons_succ]
  refine line_alone rfl (by kernel_rfl) (fun K hK => ?_)
  refine call_any (args := #[.agg J2.toArray]) rfl (by kernel_rfl) (by kernel_rfl) (DK.out _) ?_
  rintro e x8 ⟨a8, n8, c8, xs, rfl, G8, b8⟩
  have hst2 := hst.on b8
  have b18 := btr b6 (btr b7 b8)
  have A8 := HA.out.on b18
  have B8 := btr hB0.out b18
  have G9 := Lib.hid (G8.less (btr hB0.out (btr b6 b7)).size)
  have HB8 := Lib.hid B8
  refine ⟨_, rfl, hK _ _ hst2 ?_⟩
  clear hK K hst G8
  have hst := hst2
  clear hst2
  simp only [Act.put, List.setIfInBounds_toArray, List.set_cons_zero, List.set_cons_succ]
  iterate 2 (refine line_read rfl (by kernel_rfl) (fun K hK => ?_); go_big_quiet_op; refine hK _ ?_; clear hK K)
  have q0 := A8.cell 0 _ rfl
  have q1 := A8.cell 1 _ rfl
  have q2 := A8.cell 2 _ rfl
  have q3 := A8.cell 3 _ rfl
  have f0 := A8.free 0 _ rfl
  have f1 := A8.free 1 _ rfl
  have f2 := A8.free 2 _ rfl
  have f3 := A8.free 3 _ rfl
  refine line_alone rfl (by kernel_rfl) (fun K hK => ?_)
  go_big_op
  refine hK _ _ ((hst.setB (p := ⟨g, 2, none⟩) h1 h2 _).setB (p := ⟨g, 3, none⟩) h1 h2 _) ?_
  clear hK K
  refine line_nil ?_
  clear hst inst q0 q1 q2 q3 f0 f1 f2 f3 A8 B8 b6 b7 b8 b18
  first | exact ⟨rfl, .tuple #[], by simp [results, Tryz.results68], rfl, x8, a8, n8, c8, xs, rfl, G9.out, HB8.out⟩ | (go_wp2_with fail; exact ⟨rfl, .tuple #[], by simp [results, Tryz.results68], rfl, x8, a8, n8, c8, xs, rfl, G9.out, HB8.out⟩)
end Go.Proofs.YtcolecidbalmhaaGreatDoor
namespace Go.Proofs.YtcolecidbalmhaaGreatDoor
open Go.RowKit
set_option maxRecDepth 100000
set_option linter.unusedVariables false

theorem beginN (a1 : Option Addr) (n1 c1 : Nat) (a2 : Option Addr) (n2 c2 : Nat) (x : Int) (p : PinD) (w : World) :
    Below w.heap.size w (((w.alloc (.cells #[.slice a1 n1 c1, .slice a2 n2 c2, .int .i64 x] 29)).alloc (.cells #[.string p.n, .int .i64 p.a, .int .i64 p.b, .int .i64 p.e, .int .i64 p.u] 31)).alloc (.cells #[.int .i64 0, .slice none 0 0, .slice none 0 0, .int .i64 0] 35)) ∧
    At w.heap.size (S3L a1 n1 c1 a2 n2 c2 x) (((w.alloc (.cells #[.slice a1 n1 c1, .slice a2 n2 c2, .int .i64 x] 29)).alloc (.cells #[.string p.n, .int .i64 p.a, .int .i64 p.b, .int .i64 p.e, .int .i64 p.u] 31)).alloc (.cells #[.int .i64 0, .slice none 0 0, .slice none 0 0, .int .i64 0] 35)) ∧
    At (w.heap.size + 1) p.vals (((w.alloc (.cells #[.slice a1 n1 c1, .slice a2 n2 c2, .int .i64 x] 29)).alloc (.cells #[.string p.n, .int .i64 p.a, .int .i64 p.b, .int .i64 p.e, .int .i64 p.u] 31)).alloc (.cells #[.int .i64 0, .slice none 0 0, .slice none 0 0, .int .i64 0] 35)) ∧
    At (w.heap.size + 1 + 1) zero9 (((w.alloc (.cells #[.slice a1 n1 c1, .slice a2 n2 c2, .int .i64 x] 29)).alloc (.cells #[.string p.n, .int .i64 p.a, .int .i64 p.b, .int .i64 p.e, .int .i64 p.u] 31)).alloc (.cells #[.int .i64 0, .slice none 0 0, .slice none 0 0, .int .i64 0] 35)) := by
  have b0 := bal (bal (bal (Below.refl _ w) (.cells #[.slice a1 n1 c1, .slice a2 n2 c2, .int .i64 x] 29)) (.cells #[.string p.n, .int .i64 p.a, .int .i64 p.b, .int .i64 p.e, .int .i64 p.u] 31)) (.cells #[.int .i64 0, .slice none 0 0, .slice none 0 0, .int .i64 0] 35)
  have A0 := ((At.new w (S3L a1 n1 c1 a2 n2 c2 x) 29).alloc (.cells #[.string p.n, .int .i64 p.a, .int .i64 p.b, .int .i64 p.e, .int .i64 p.u] 31)).alloc (.cells #[.int .i64 0, .slice none 0 0, .slice none 0 0, .int .i64 0] 35)
  have P0 := (At.new (w.alloc (.cells #[.slice a1 n1 c1, .slice a2 n2 c2, .int .i64 x] 29)) p.vals 31).alloc (.cells #[.int .i64 0, .slice none 0 0, .slice none 0 0, .int .i64 0] 35)
  have R0 := At.new ((w.alloc (.cells #[.slice a1 n1 c1, .slice a2 n2 c2, .int .i64 x] 29)).alloc (.cells #[.string p.n, .int .i64 p.a, .int .i64 p.b, .int .i64 p.e, .int .i64 p.u] 31)) zero9 35
  rw [World.size_alloc] at P0
  rw [World.size_alloc, World.size_alloc] at R0
  exact ⟨b0, A0, P0, R0⟩
theorem noteS_no {s : StoreD} {p : PinD} (h : noteC s p ≠ 0) : noteS s p = store0 := by unfold noteS; rw [if_neg h]
set_option maxHeartbeats 4000000 in
theorem implNotePin_any (a1 : Option Addr) (n1 c1 : Nat) (a2 : Option Addr) (n2 c2 B : Nat) (s : StoreD) (p : PinD) (w : World) (hR : SRow w B a1 n1 c1 a2 n2 c2 s) (hB : B ≤ w.heap.size) (hpn : p.n.size ≤ maxLen) :
    Calls Tryz.prog 12 #[S3 a1 n1 c1 a2 n2 c2 s.d.s, P5 p] w (StoreRes (noteC s p) (noteS s p) w) := by
  obtain ⟨b0, A0, P0, R0⟩ := beginN a1 n1 c1 a2 n2 c2 s.d.s p w
  have HR0 := Lib.hid R0
  have HA0 := Lib.hid A0
  have HP0 := Lib.hid P0
  have HB0 := Lib.hid b0
  have hmf : ∀ (fn : Fn) (first cap : Array Value) (w : World), (Instr.makeFunc fn first cap).run Tryz.prog w = .ok (.func fn first cap) w := fun _ _ _ _ => rfl
  have hRw := hR.wf
  have HR := Lib.hid (fun (w' : World) (h : Below w.heap.size w w') => hR.below (h.mono hB))
  have F0 := implStoreFault_any a1 n1 c1 a2 n2 c2 B s _ (hR.below (b0.mono hB)) (Nat.le_trans hB b0.size)
  clear A0 P0 R0 b0 hR
  by_cases h0 : storeF s = 0
  case neg =>
    have ec := noteC_bad (p := p) h0
    rw [noteS_no (by rw [ec]; exact h0), ec]
    generalize storeF s = cd at *
    have q9 : (cd != 0) = true := by simpa using h0
    have q8 : decide (cd = 0) = false := by simpa using h0
    clear HR ec
    have d0 := HA0.out.cell 0 _ rfl
    have d1 := HA0.out.cell 1 _ rfl
    have d2 := HA0.out.cell 2 _ rfl
    go_enter_defers Tryz.func12, Tryz.ntmps12
    go_wp2_with fail
    generalize ((w.alloc (.cells #[.slice a1 n1 c1, .slice a2 n2 c2, .int .i64 s.d.s] 29)).alloc (.cells #[.string p.n, .int .i64 p.a, .int .i64 p.b, .int .i64 p.e, .int .i64 p.u] 31)).alloc (.cells #[.int .i64 0, .slice none 0 0, .slice none 0 0, .int .i64 0] 35) = W0 at *
    refine F0.mono ?_
    rintro r u1 ⟨rfl, b1⟩
    have B1 := Lib.hid (btr HB0.out b1)
    have R1 := Lib.hid (HR0.out.on b1)
    have A1 := Lib.hid (HA0.out.on b1)
    have P1 := Lib.hid (HP0.out.on b1)
    clear d0 d1 d2 b1 F0 HB0 HR0 HA0 HP0
    have R9 := R1.out
    have HB9 := Lib.hid (show Below w.heap.size w ((((u1.setCell ⟨w.heap.size + 1 + 1, 0, none⟩ (.int .i64 cd)).setCell ⟨w.heap.size + 1 + 1, 1, none⟩ (.slice none 0 0)).setCell ⟨w.heap.size + 1 + 1, 2, none⟩ (.slice none 0 0)).setCell ⟨w.heap.size + 1 + 1, 3, none⟩ (.int .i64 0)) from (by (iterate 4 (refine bset ?_ (by dsimp only; omega) _)); exact B1.out))
    unfold zero9 at R9
    have q0 := R9.cell 0 _ rfl
    have q1 := R9.cell 1 _ rfl
    have q2 := R9.cell 2 _ rfl
    have q3 := R9.cell 3 _ rfl
    have f0 := R9.free 0 _ rfl
    have f1 := R9.free 1 _ rfl
    have f2 := R9.free 2 _ rfl
    have f3 := R9.free 3 _ rfl
    clear R9
    go_wp2_with fail
    exact ⟨V4 cd none 0 0 none 0 0 0, by simp [results, Tryz.results12, go_sem, V4, q0, q1, q2, q3], none, 0, 0, none, 0, 0, rfl, SOwn.nil _ _ HB9.out.size, HB9.out⟩
  obtain ⟨ho, hp⟩ := storeF_zero h0
  obtain ⟨h12, hlong, _, _⟩ := diskF_zero (openC_zero ho).1
  rw [h0] at F0
  have JO := Lib.hid (fun (w' : World) (h : Below w.heap.size w w') => journalOf_any a2 n2 c2 B s.d.rs s.d.s w' (HR.out w' h).rs (Nat.le_trans hB h.size) h12 hlong)
  have pp := fun (w' : World) (h : Below w.heap.size w w') => implPutPin_any a1 n1 c1 B s.ps p w' (HR.out w' h).ps (Nat.le_trans hB h.size) hpn
  have hct := jall_count s.d.rs s.d.s
  have HFJ := Lib.hid (jall_fit s.d.rs s.d.s)
  have HOJ := Lib.hid (jall_one s.d.rs s.d.s)
  have HLJ := Lib.hid (jall_old [] s.d.rs 0 s.d.s)
  have hz := (zero_of_info jour_info).1
  rw [← jall_nil] at hz
  generalize jall [] 0 = E at *
  unfold PinsRes at pp
  by_cases hput : putC s.ps p = 0
  case neg =>
    have ec := noteC_put h0 hput
    rw [noteS_no (by rw [ec]; exact hput), ec]
    have PP := Lib.hid pp
    clear pp ec h0 ho hp h12 hlong hRw HR
    generalize putR s.ps p = qs at *
    generalize putC s.ps p = cp at *
    generalize jall s.d.rs s.d.s = J at *
    have q9 : (cp != 0) = true := by simpa using hput
    have q8 : decide (cp = 0) = false := by simpa using hput
    have d0 := HA0.out.cell 0 _ rfl
    have d1 := HA0.out.cell 1 _ rfl
    have d2 := HA0.out.cell 2 _ rfl
    go_enter_defers Tryz.func12, Tryz.ntmps12
    go_wp2_with fail
    generalize ((w.alloc (.cells #[.slice a1 n1 c1, .slice a2 n2 c2, .int .i64 s.d.s] 29)).alloc (.cells #[.string p.n, .int .i64 p.a, .int .i64 p.b, .int .i64 p.e, .int .i64 p.u] 31)).alloc (.cells #[.int .i64 0, .slice none 0 0, .slice none 0 0, .int .i64 0] 35) = W0 at *
    refine F0.mono ?_
    rintro r u1 ⟨rfl, b1⟩
    have B1 := Lib.hid (btr HB0.out b1)
    have R1 := Lib.hid (HR0.out.on b1)
    have A1 := Lib.hid (HA0.out.on b1)
    have P1 := Lib.hid (HP0.out.on b1)
    clear d0 d1 d2 b1 F0 HB0 HR0 HA0 HP0
    have d0 := A1.out.cell 0 _ rfl
    have d1 := A1.out.cell 1 _ rfl
    have d2 := A1.out.cell 2 _ rfl
    have hlt1 : w.heap.size + 1 + 1 < u1.heap.size := R1.out.lt (by simp [zero9])
    go_wp2_with fail
    refine (JO.out _ B1.out).mono ?_
    rintro r u2 ⟨rfl, b2⟩
    have Q2 := (JB.new u2 E).row J
    have hlt2 : u1.heap.size ≤ u2.heap.size := b2.size
    have b3 := btr b2 (brow (bal (Below.refl _ u2) (.cells E.toArray 114)) (Nat.le_refl _) J.toArray)
    have R3 := Lib.hid (R1.out.on b3)
    have A3 := Lib.hid (A1.out.on b3)
    have P3 := Lib.hid (P1.out.on b3)
    have B3 := Lib.hid (btr B1.out b3)
    clear d0 d1 d2 b2 b3 A1 R1 P1 B1
    go_upto_region 5 with (refine store_jour J E rfl (.tmp 6) (.tmp 16) rfl u2.heap.size rfl rfl (JB.new u2 E) HFJ.out HLJ.out HOJ.out ?_)
    generalize (u2.alloc (.cells E.toArray 114)).setRow u2.heap.size J.toArray = W3 at *
    have HQ2 := Lib.hid Q2
    clear Q2
    generalize u2.heap.size = j at *
    have d0 := A3.out.cell 0 _ rfl
    have d1 := A3.out.cell 1 _ rfl
    have d2 := A3.out.cell 2 _ rfl
    have p0 := P3.out.cell 0 _ rfl
    have p1 := P3.out.cell 1 _ rfl
    have p2 := P3.out.cell 2 _ rfl
    have p3 := P3.out.cell 3 _ rfl
    have p4 := P3.out.cell 4 _ rfl
    go_wp2_with fail
    refine (PP.out _ B3.out).mono ?_
    rintro r u4 ⟨a4, n4, c4, rfl, O4, b4⟩
    have b45 := btr b4 (bal (Below.refl _ u4) (.cells #[.int .i64 cp, .slice a4 n4 c4] 120))
    have T5 := Lib.hid (show At u4.heap.size [.int .i64 cp, .slice a4 n4 c4] (u4.alloc (.cells #[.int .i64 cp, .slice a4 n4 c4] 120)) from At.new u4 [.int .i64 cp, .slice a4 n4 c4] 120)
    have HO5 := Lib.hid (O4.below (bal (Below.refl _ u4) (.cells #[.int .i64 cp, .slice a4 n4 c4] 120)))
    have hlt3 : j < W3.heap.size := HQ2.out.lt
    have R5 := Lib.hid (R3.out.on b45)
    have P5' := Lib.hid (P3.out.on b45)
    have Q5 := Lib.hid (HQ2.out.on b45)
    have B5 := Lib.hid (btr B3.out b45)
    have hlt4 : W3.heap.size ≤ u4.heap.size := b4.size
    clear d0 d1 d2 p0 p1 p2 p3 p4 b4 b45 O4 R3 A3 P3 B3 HQ2
    go_upto_region 7 with fail
    generalize u4.alloc (.cells #[.int .i64 cp, .slice a4 n4 c4] 120) = W5 at *
    have t0 := T5.out.cell 0 _ rfl
    have t1 := T5.out.cell 1 _ rfl
    have R9 := R5.out
    have Q9 := Q5.out
    unfold zero9 at R9
    have q0 := R9.cell 0 _ rfl
    have q1 := R9.cell 1 _ rfl
    have q2 := R9.cell 2 _ rfl
    have q3 := R9.cell 3 _ rfl
    have f0 := R9.free 0 _ rfl
    have f1 := R9.free 1 _ rfl
    have f2 := R9.free 2 _ rfl
    have f3 := R9.free 3 _ rfl
    have R10 : At (w.heap.size + 1 + 1) [.int .i64 cp, .slice none 0 0, .slice none 0 0, .int .i64 0] ((((W5.setCell ⟨w.heap.size + 1 + 1, 0, none⟩ (.int .i64 cp)).setCell ⟨w.heap.size + 1 + 1, 1, none⟩ (.slice none 0 0)).setCell ⟨w.heap.size + 1 + 1, 2, none⟩ (.slice none 0 0)).setCell ⟨w.heap.size + 1 + 1, 3, none⟩ (.int .i64 0)) := by simpa using (((R9.set 0 (.int .i64 cp)).set 1 (.slice none 0 0)).set 2 (.slice none 0 0)).set 3 (.int .i64 0)
    have HR10 := Lib.hid R10
    have HB10 := Lib.hid (show Below w.heap.size w ((((W5.setCell ⟨w.heap.size + 1 + 1, 0, none⟩ (.int .i64 cp)).setCell ⟨w.heap.size + 1 + 1, 1, none⟩ (.slice none 0 0)).setCell ⟨w.heap.size + 1 + 1, 2, none⟩ (.slice none 0 0)).setCell ⟨w.heap.size + 1 + 1, 3, none⟩ (.int .i64 0)) from (by (iterate 4 (refine bset ?_ (by dsimp only; omega) _)); exact B5.out))
    clear R9 Q9 R10
    go_wp2_with fail
    refine leaves_cons (f := 68) (args := #[.pointer (some ⟨w.heap.size + 1 + 1, 0, none⟩), .pointer (some ⟨j, 0, none⟩), .pointer (some ⟨w.heap.size + 1, 0, none⟩)]) (by simp) (by simp [go_sem]) ?_
    refine (note_idle _ _ _ cp _ _ _ _ HR10.out hput).mono ?_
    rintro e u' w2 ⟨rfl, rfl, rfl⟩
    clear q0 q1 q2 q3 f0 f1 f2 f3
    have q0 := HR10.out.cell 0 _ rfl
    have q1 := HR10.out.cell 1 _ rfl
    have q2 := HR10.out.cell 2 _ rfl
    have q3 := HR10.out.cell 3 _ rfl
    exact ⟨V4 cp none 0 0 none 0 0 0, by simp [results, Tryz.results12, go_sem, V4, q0, q1, q2, q3], none, 0, 0, none, 0, 0, rfl, SOwn.nil _ _ HB10.out.size, HB10.out⟩
  rw [hput] at pp
  by_cases hfull : 12 ≤ s.d.rs.length
  · have ec := noteC_full h0 hput hfull
    rw [noteS_no (by rw [ec]; decide), ec]
    have PP := Lib.hid pp
    have hr12 : (s.d.rs.length : Int) = 12 := by have : s.d.rs.length ≤ 12 := h12; omega
    rw [hr12] at hct
    clear pp ec h0 ho hp h12 hlong hRw HR hput hr12 hfull
    generalize putR s.ps p = qs at *
    generalize jall s.d.rs s.d.s = J at *
    have d0 := HA0.out.cell 0 _ rfl
    have d1 := HA0.out.cell 1 _ rfl
    have d2 := HA0.out.cell 2 _ rfl
    go_enter_defers Tryz.func12, Tryz.ntmps12
    go_wp2_with fail
    generalize ((w.alloc (.cells #[.slice a1 n1 c1, .slice a2 n2 c2, .int .i64 s.d.s] 29)).alloc (.cells #[.string p.n, .int .i64 p.a, .int .i64 p.b, .int .i64 p.e, .int .i64 p.u] 31)).alloc (.cells #[.int .i64 0, .slice none 0 0, .slice none 0 0, .int .i64 0] 35) = W0 at *
    refine F0.mono ?_
    rintro r u1 ⟨rfl, b1⟩
    have B1 := Lib.hid (btr HB0.out b1)
    have R1 := Lib.hid (HR0.out.on b1)
    have A1 := Lib.hid (HA0.out.on b1)
    have P1 := Lib.hid (HP0.out.on b1)
    clear d0 d1 d2 b1 F0 HB0 HR0 HA0 HP0
    have d0 := A1.out.cell 0 _ rfl
    have d1 := A1.out.cell 1 _ rfl
    have d2 := A1.out.cell 2 _ rfl
    have hlt1 : w.heap.size + 1 + 1 < u1.heap.size := R1.out.lt (by simp [zero9])
    go_wp2_with fail
    refine (JO.out _ B1.out).mono ?_
    rintro r u2 ⟨rfl, b2⟩
    have Q2 := (JB.new u2 E).row J
    have hlt2 : u1.heap.size ≤ u2.heap.size := b2.size
    have b3 := btr b2 (brow (bal (Below.refl _ u2) (.cells E.toArray 114)) (Nat.le_refl _) J.toArray)
    have R3 := Lib.hid (R1.out.on b3)
    have A3 := Lib.hid (A1.out.on b3)
    have P3 := Lib.hid (P1.out.on b3)
    have B3 := Lib.hid (btr B1.out b3)
    clear d0 d1 d2 b2 b3 A1 R1 P1 B1
    go_upto_region 5 with (refine store_jour J E rfl (.tmp 6) (.tmp 16) rfl u2.heap.size rfl rfl (JB.new u2 E) HFJ.out HLJ.out HOJ.out ?_)
    generalize (u2.alloc (.cells E.toArray 114)).setRow u2.heap.size J.toArray = W3 at *
    have HQ2 := Lib.hid Q2
    clear Q2
    generalize u2.heap.size = j at *
    have d0 := A3.out.cell 0 _ rfl
    have d1 := A3.out.cell 1 _ rfl
    have d2 := A3.out.cell 2 _ rfl
    have p0 := P3.out.cell 0 _ rfl
    have p1 := P3.out.cell 1 _ rfl
    have p2 := P3.out.cell 2 _ rfl
    have p3 := P3.out.cell 3 _ rfl
    have p4 := P3.out.cell 4 _ rfl
    go_wp2_with fail
    refine (PP.out _ B3.out).mono ?_
    rintro r u4 ⟨a4, n4, c4, rfl, O4, b4⟩
    have b45 := btr b4 (bal (Below.refl _ u4) (.cells #[.int .i64 0, .slice a4 n4 c4] 120))
    have T5 := Lib.hid (show At u4.heap.size [.int .i64 0, .slice a4 n4 c4] (u4.alloc (.cells #[.int .i64 0, .slice a4 n4 c4] 120)) from At.new u4 [.int .i64 0, .slice a4 n4 c4] 120)
    have HO5 := Lib.hid (O4.below (bal (Below.refl _ u4) (.cells #[.int .i64 0, .slice a4 n4 c4] 120)))
    have hlt3 : j < W3.heap.size := HQ2.out.lt
    have R5 := Lib.hid (R3.out.on b45)
    have P5' := Lib.hid (P3.out.on b45)
    have Q5 := Lib.hid (HQ2.out.on b45)
    have B5 := Lib.hid (btr B3.out b45)
    have hlt4 : W3.heap.size ≤ u4.heap.size := b4.size
    clear d0 d1 d2 p0 p1 p2 p3 p4 b4 b45 O4 R3 A3 P3 B3 HQ2
    go_upto_region 7 with fail
    generalize u4.alloc (.cells #[.int .i64 0, .slice a4 n4 c4] 120) = W5 at *
    have t0 := T5.out.cell 0 _ rfl
    have t1 := T5.out.cell 1 _ rfl
    have cc := Q5.out.at hct
    have R9 := R5.out
    have Q9 := Q5.out
    unfold zero9 at R9
    have q0 := R9.cell 0 _ rfl
    have q1 := R9.cell 1 _ rfl
    have q2 := R9.cell 2 _ rfl
    have q3 := R9.cell 3 _ rfl
    have f0 := R9.free 0 _ rfl
    have f1 := R9.free 1 _ rfl
    have f2 := R9.free 2 _ rfl
    have f3 := R9.free 3 _ rfl
    have R10 : At (w.heap.size + 1 + 1) [.int .i64 7, .slice none 0 0, .slice none 0 0, .int .i64 0] ((((W5.setCell ⟨w.heap.size + 1 + 1, 0, none⟩ (.int .i64 7)).setCell ⟨w.heap.size + 1 + 1, 1, none⟩ (.slice none 0 0)).setCell ⟨w.heap.size + 1 + 1, 2, none⟩ (.slice none 0 0)).setCell ⟨w.heap.size + 1 + 1, 3, none⟩ (.int .i64 0)) := by simpa using (((R9.set 0 (.int .i64 7)).set 1 (.slice none 0 0)).set 2 (.slice none 0 0)).set 3 (.int .i64 0)
    have HR10 := Lib.hid R10
    have HB10 := Lib.hid (show Below w.heap.size w ((((W5.setCell ⟨w.heap.size + 1 + 1, 0, none⟩ (.int .i64 7)).setCell ⟨w.heap.size + 1 + 1, 1, none⟩ (.slice none 0 0)).setCell ⟨w.heap.size + 1 + 1, 2, none⟩ (.slice none 0 0)).setCell ⟨w.heap.size + 1 + 1, 3, none⟩ (.int .i64 0)) from (by (iterate 4 (refine bset ?_ (by dsimp only; omega) _)); exact B5.out))
    clear R9 Q9 R10
    go_wp2_with fail
    refine leaves_cons (f := 68) (args := #[.pointer (some ⟨w.heap.size + 1 + 1, 0, none⟩), .pointer (some ⟨j, 0, none⟩), .pointer (some ⟨w.heap.size + 1, 0, none⟩)]) (by simp) (by simp [go_sem]) ?_
    refine (note_idle _ _ _ 7 _ _ _ _ HR10.out (by decide)).mono ?_
    rintro e u' w2 ⟨rfl, rfl, rfl⟩
    clear q0 q1 q2 q3 f0 f1 f2 f3
    have q0 := HR10.out.cell 0 _ rfl
    have q1 := HR10.out.cell 1 _ rfl
    have q2 := HR10.out.cell 2 _ rfl
    have q3 := HR10.out.cell 3 _ rfl
    exact ⟨V4 7 none 0 0 none 0 0 0, by simp [results, Tryz.results12, go_sem, V4, q0, q1, q2, q3], none, 0, 0, none, 0, 0, rfl, SOwn.nil _ _ HB10.out.size, HB10.out⟩
  have ec := noteC_yes h0 hput hfull
  have hpf := (put_ok hput).fp
  have hlt12 : s.d.rs.length < 12 := by omega
  have es : noteS s p = noted s p := by unfold noteS; rw [if_pos ec]
  have er : putR s.ps p = putL s.ps p := by unfold putR; rw [if_pos hput]
  have HNM := Lib.hid (right_names (storeF_pins (noted_f h0 hput hlt12)))
  have HW : Hid (∀ zs ∈ s.d.rs ++ [recP p], ∀ z ∈ zs, (Lit.int .u8 z).wf = true) := Lib.hid (fun zs hz z hzz => by
    rcases List.mem_append.1 hz with hz | hz
    · exact hRw zs hz z hzz
    · rw [List.mem_singleton] at hz
      subst hz
      exact byte_wf (recP_byte hpf z hzz))
  rw [es, ec]
  rw [er] at pp
  have PP := Lib.hid pp
  have NW := Lib.hid (fun (g j b : Nat) (v1 : Value) (y : Int) (w' : World) (A : At g [.int .i64 0, v1, .slice none 0 0, .int .i64 y] w') (hA : At b p.vals w') (hJ : JB j (jall s.d.rs s.d.s) w') (h1 : b ≠ g) (h2 : j ≠ g) => note_write g j b v1 s.d.s y p s.d.rs w' A hA hJ hpf hlt12 hlong hRw h1 h2)
  have q7 : ¬ ((s.d.rs.length : Int) = 12) := by omega
  have q6 : decide ((s.d.rs.length : Int) = 12) = false := decide_eq_false q7
  have q5 : ((s.d.rs.length : Int) == 12) = false := by simpa using q7
  clear pp ec h0 ho hp h12 hlong hRw HR hput hfull hpf hlt12 es er
  show Calls Tryz.prog 12 #[S3 a1 n1 c1 a2 n2 c2 s.d.s, P5 p] w (StoreRes 0 ⟨putL s.ps p, ⟨s.d.rs ++ [recP p], s.d.s⟩⟩ w)
  have HNM : Hid (∀ q ∈ putL s.ps p, q.n.size ≤ maxLen) := HNM
  unfold Wrote at NW
  generalize putL s.ps p = qs at *
  generalize s.d.rs ++ [recP p] = rs2 at *
  generalize jall s.d.rs s.d.s = J at *
  have d0 := HA0.out.cell 0 _ rfl
  have d1 := HA0.out.cell 1 _ rfl
  have d2 := HA0.out.cell 2 _ rfl
  go_enter_defers Tryz.func12, Tryz.ntmps12
  go_wp2_with fail
  generalize ((w.alloc (.cells #[.slice a1 n1 c1, .slice a2 n2 c2, .int .i64 s.d.s] 29)).alloc (.cells #[.string p.n, .int .i64 p.a, .int .i64 p.b, .int .i64 p.e, .int .i64 p.u] 31)).alloc (.cells #[.int .i64 0, .slice none 0 0, .slice none 0 0, .int .i64 0] 35) = W0 at *
  refine F0.mono ?_
  rintro r u1 ⟨rfl, b1⟩
  have B1 := Lib.hid (btr HB0.out b1)
  have R1 := Lib.hid (HR0.out.on b1)
  have A1 := Lib.hid (HA0.out.on b1)
  have P1 := Lib.hid (HP0.out.on b1)
  clear d0 d1 d2 b1 F0 HB0 HR0 HA0 HP0
  have d0 := A1.out.cell 0 _ rfl
  have d1 := A1.out.cell 1 _ rfl
  have d2 := A1.out.cell 2 _ rfl
  have hlt1 : w.heap.size + 1 + 1 < u1.heap.size := R1.out.lt (by simp [zero9])
  go_wp2_with fail
  refine (JO.out _ B1.out).mono ?_
  rintro r u2 ⟨rfl, b2⟩
  have Q2 := (JB.new u2 E).row J
  have hlt2 : u1.heap.size ≤ u2.heap.size := b2.size
  have b3 := btr b2 (brow (bal (Below.refl _ u2) (.cells E.toArray 114)) (Nat.le_refl _) J.toArray)
  have R3 := Lib.hid (R1.out.on b3)
  have A3 := Lib.hid (A1.out.on b3)
  have P3 := Lib.hid (P1.out.on b3)
  have B3 := Lib.hid (btr B1.out b3)
  clear d0 d1 d2 b2 b3 A1 R1 P1 B1
  go_upto_region 5 with (refine store_jour J E rfl (.tmp 6) (.tmp 16) rfl u2.heap.size rfl rfl (JB.new u2 E) HFJ.out HLJ.out HOJ.out ?_)
  generalize (u2.alloc (.cells E.toArray 114)).setRow u2.heap.size J.toArray = W3 at *
  have HQ2 := Lib.hid Q2
  clear Q2
  generalize u2.heap.size = j at *
  have d0 := A3.out.cell 0 _ rfl
  have d1 := A3.out.cell 1 _ rfl
  have d2 := A3.out.cell 2 _ rfl
  have p0 := P3.out.cell 0 _ rfl
  have p1 := P3.out.cell 1 _ rfl
  have p2 := P3.out.cell 2 _ rfl
  have p3 := P3.out.cell 3 _ rfl
  have p4 := P3.out.cell 4 _ rfl
  go_wp2_with fail
  refine (PP.out _ B3.out).mono ?_
  rintro r u4 ⟨a4, n4, c4, rfl, O4, b4⟩
  have b45 := btr b4 (bal (Below.refl _ u4) (.cells #[.int .i64 0, .slice a4 n4 c4] 120))
  have T5 := Lib.hid (show At u4.heap.size [.int .i64 0, .slice a4 n4 c4] (u4.alloc (.cells #[.int .i64 0, .slice a4 n4 c4] 120)) from At.new u4 [.int .i64 0, .slice a4 n4 c4] 120)
  have HO5 := Lib.hid (O4.below (bal (Below.refl _ u4) (.cells #[.int .i64 0, .slice a4 n4 c4] 120)))
  have hlt3 : j < W3.heap.size := HQ2.out.lt
  have R5 := Lib.hid (R3.out.on b45)
  have P5' := Lib.hid (P3.out.on b45)
  have Q5 := Lib.hid (HQ2.out.on b45)
  have B5 := Lib.hid (btr B3.out b45)
  have hlt4 : W3.heap.size ≤ u4.heap.size := b4.size
  clear d0 d1 d2 p0 p1 p2 p3 p4 b4 b45 O4 R3 A3 P3 B3 HQ2
  go_upto_region 7 with fail
  generalize u4.alloc (.cells #[.int .i64 0, .slice a4 n4 c4] 120) = W5 at *
  have t0 := T5.out.cell 0 _ rfl
  have t1 := T5.out.cell 1 _ rfl
  have cc := Q5.out.at hct
  have R9 := R5.out
  unfold zero9 at R9
  have q0 := R9.cell 0 _ rfl
  have q1 := R9.cell 1 _ rfl
  have q2 := R9.cell 2 _ rfl
  have q3 := R9.cell 3 _ rfl
  have f0 := R9.free 0 _ rfl
  have f1 := R9.free 1 _ rfl
  have f2 := R9.free 2 _ rfl
  have f3 := R9.free 3 _ rfl
  have hr1 : w.heap.size + 1 ≠ w.heap.size + 1 + 1 := by omega
  have hr2 : j ≠ w.heap.size + 1 + 1 := by omega
  have R10 : At (w.heap.size + 1 + 1) [.int .i64 0, .slice a4 n4 c4, .slice none 0 0, .int .i64 0] ((((W5.setCell ⟨w.heap.size + 1 + 1, 0, none⟩ (.int .i64 0)).setCell ⟨w.heap.size + 1 + 1, 1, none⟩ (.slice a4 n4 c4)).setCell ⟨w.heap.size + 1 + 1, 2, none⟩ (.slice none 0 0)).setCell ⟨w.heap.size + 1 + 1, 3, none⟩ (.int .i64 0)) := by simpa using (((R9.set 0 (.int .i64 0)).set 1 (.slice a4 n4 c4)).set 2 (.slice none 0 0)).set 3 (.int .i64 0)
  have P10 := (((P5'.out.setB (p := ⟨w.heap.size + 1 + 1, 0, none⟩) hr1 (.int .i64 0)).setB (p := ⟨w.heap.size + 1 + 1, 1, none⟩) hr1 (.slice a4 n4 c4)).setB (p := ⟨w.heap.size + 1 + 1, 2, none⟩) hr1 (.slice none 0 0)).setB (p := ⟨w.heap.size + 1 + 1, 3, none⟩) hr1 (.int .i64 0)
  have Q10 := (((Q5.out.setB (p := ⟨w.heap.size + 1 + 1, 0, none⟩) hr2 (.int .i64 0)).setB (p := ⟨w.heap.size + 1 + 1, 1, none⟩) hr2 (.slice a4 n4 c4)).setB (p := ⟨w.heap.size + 1 + 1, 2, none⟩) hr2 (.slice none 0 0)).setB (p := ⟨w.heap.size + 1 + 1, 3, none⟩) hr2 (.int .i64 0)
  have hlt5 : w.heap.size + 1 + 1 < W3.heap.size := by omega
  have O10 : OwnP ((((W5.setCell ⟨w.heap.size + 1 + 1, 0, none⟩ (.int .i64 0)).setCell ⟨w.heap.size + 1 + 1, 1, none⟩ (.slice a4 n4 c4)).setCell ⟨w.heap.size + 1 + 1, 2, none⟩ (.slice none 0 0)).setCell ⟨w.heap.size + 1 + 1, 3, none⟩ (.int .i64 0)) W3.heap.size (.slice a4 n4 c4) qs := by
    have hne : ∀ g, Value.ownBlock (.slice a4 n4 c4) = some g → g ≠ w.heap.size + 1 + 1 := fun g e => by have := (Own.lt HO5.out g e).1; omega
    exact Own.setCell (Own.setCell (Own.setCell (Own.setCell HO5.out (p := ⟨w.heap.size + 1 + 1, 0, none⟩) hne _) (p := ⟨w.heap.size + 1 + 1, 1, none⟩) hne _) (p := ⟨w.heap.size + 1 + 1, 2, none⟩) hne _) (p := ⟨w.heap.size + 1 + 1, 3, none⟩) hne _
  have HR10 := Lib.hid R10
  have HP10 := Lib.hid P10
  have HQ10 := Lib.hid Q10
  have HO10 := Lib.hid O10
  have HB10 := Lib.hid (show Below w.heap.size w ((((W5.setCell ⟨w.heap.size + 1 + 1, 0, none⟩ (.int .i64 0)).setCell ⟨w.heap.size + 1 + 1, 1, none⟩ (.slice a4 n4 c4)).setCell ⟨w.heap.size + 1 + 1, 2, none⟩ (.slice none 0 0)).setCell ⟨w.heap.size + 1 + 1, 3, none⟩ (.int .i64 0)) from (by (iterate 4 (refine bset ?_ (by dsimp only; omega) _)); exact B5.out))
  have hsz10 : W3.heap.size ≤ ((((W5.setCell ⟨w.heap.size + 1 + 1, 0, none⟩ (.int .i64 0)).setCell ⟨w.heap.size + 1 + 1, 1, none⟩ (.slice a4 n4 c4)).setCell ⟨w.heap.size + 1 + 1, 2, none⟩ (.slice none 0 0)).setCell ⟨w.heap.size + 1 + 1, 3, none⟩ (.int .i64 0)).heap.size := by
    have := HO5.out
    have h5 : u4.heap.size < W5.heap.size := T5.out.lt (by simp)
    simp [World.setCell]
    omega
  clear R9 R10 P10 Q10 O10 R5 P5' Q5 HO5 B5
  go_wp2_with fail
  refine leaves_cons (f := 68) (args := #[.pointer (some ⟨w.heap.size + 1 + 1, 0, none⟩), .pointer (some ⟨j, 0, none⟩), .pointer (some ⟨w.heap.size + 1, 0, none⟩)]) (by simp) (by simp [go_sem]) ?_
  refine (NW.out _ _ _ _ _ _ HR10.out HP10.out HQ10.out hr1 hr2).mono ?_
  rintro e u' w2 ⟨rfl, rfl, w1, a6, n6, c6, xs, rfl, G6, b6⟩
  have SO := SOwn.mk' (W := w) (x := s.d.s) (HO10.out.below b6) hsz10 (fun g e => (Own.lt HO10.out g e).2) G6 b6.size HNM.out HW.out
  have SO2 := (SO.setCell (p := ⟨w.heap.size + 1 + 1, 2, none⟩) (.inl hlt5) (.slice a6 n6 c6)).setCell (p := ⟨w.heap.size + 1 + 1, 3, none⟩) (.inl hlt5) (.int .i64 s.d.s)
  have HSO := Lib.hid ((SO2.less (show w.heap.size ≤ W3.heap.size by omega)).more SO2.top.2 (Nat.le_refl _))
  have R11 : At (w.heap.size + 1 + 1) [.int .i64 0, .slice a4 n4 c4, .slice a6 n6 c6, .int .i64 s.d.s] ((w1.setCell ⟨w.heap.size + 1 + 1, 2, none⟩ (.slice a6 n6 c6)).setCell ⟨w.heap.size + 1 + 1, 3, none⟩ (.int .i64 s.d.s)) := by simpa using ((HR10.out.on b6).set 2 (.slice a6 n6 c6)).set 3 (.int .i64 s.d.s)
  have HB11 := Lib.hid (show Below w.heap.size w ((w1.setCell ⟨w.heap.size + 1 + 1, 2, none⟩ (.slice a6 n6 c6)).setCell ⟨w.heap.size + 1 + 1, 3, none⟩ (.int .i64 s.d.s)) from (by (iterate 2 (refine bset ?_ (by dsimp only; omega) _)); exact (btr HB10.out b6)))
  clear q0 q1 q2 q3 f0 f1 f2 f3
  have q0 := R11.cell 0 _ rfl
  have q1 := R11.cell 1 _ rfl
  have q2 := R11.cell 2 _ rfl
  have q3 := R11.cell 3 _ rfl
  exact ⟨V4 0 a4 n4 c4 a6 n6 c6 s.d.s, by simp [results, Tryz.results12, go_sem, V4, q0, q1, q2, q3], a4, n4, c4, a6, n6, c6, rfl, HSO.out, HB11.out⟩
end Go.Proofs.YtcolecidbalmhaaGreatDoor
namespace Go.Proofs.YtcolecidbalmhaaGreatDoor
open Go.RowKit
set_option maxRecDepth 100000
set_option linter.unusedVariables false

section
variable {W wr : World} {j r d lo : Nat} {J rv : List Value} {pv v : Value} {x : Int} {ps : List PinD} {zss : List (List Int)} {xs : List Value}
theorem KSt.got (h : KSt W j r d J rv pv v x ps zss xs lo wr) (hn : ∀ p ∈ ps, p.n.size ≤ maxLen) (hw : ∀ zs ∈ zss, ∀ z ∈ zs, (Lit.int .u8 z).wf = true) : SOwn wr (r + 1) wr.heap.size pv v ⟨ps, ⟨zss, x⟩⟩ :=
  SOwn.mk' (W := W) (mid := lo) h.O h.rl (fun k e => (h.ob k e).1) h.G h.lo2 hn hw
end
set_option maxHeartbeats 2000000 in
theorem l9Note_any (g0 : Nat) (a1 : Option Addr) (n1 c1 : Nat) (a2 : Option Addr) (n2 c2 B : Nat) (s : StoreD) (p : PinD) (w : World) (hS : SAt w g0 B a1 n1 c1 a2 n2 c2 s) (hB : B ≤ w.heap.size) (h0 : storeF s = 0) (hpf : p.f = 0) :
    Calls Tryz.prog 82 #[.pointer (some ⟨g0, 0, none⟩), P5 p] w (StoreRes (noteC s p) (noteS s p) w) := by
  have b0 := bal (bal (Below.refl _ w) (.cells #[.string p.n, .int .i64 p.a, .int .i64 p.b, .int .i64 p.e, .int .i64 p.u] 31)) (.cells #[.int .i64 0, .slice none 0 0, .slice none 0 0, .int .i64 0] 35)
  have P0 := (At.new w p.vals 31).alloc (.cells #[.int .i64 0, .slice none 0 0, .slice none 0 0, .int .i64 0] 35)
  have R0 := At.new (w.alloc (.cells #[.string p.n, .int .i64 p.a, .int .i64 p.b, .int .i64 p.e, .int .i64 p.u] 31)) zero9 35
  rw [World.size_alloc] at R0
  have HR0 := Lib.hid (show At (w.heap.size + 1) zero9 ((w.alloc (.cells #[.string p.n, .int .i64 p.a, .int .i64 p.b, .int .i64 p.e, .int .i64 p.u] 31)).alloc (.cells #[.int .i64 0, .slice none 0 0, .slice none 0 0, .int .i64 0] 35)) from R0)
  have HH0 := Lib.hid (show Hold2 w g0 (S3L a1 n1 c1 a2 n2 c2 s.d.s) w.heap.size p.vals ((w.alloc (.cells #[.string p.n, .int .i64 p.a, .int .i64 p.b, .int .i64 p.e, .int .i64 p.u] 31)).alloc (.cells #[.int .i64 0, .slice none 0 0, .slice none 0 0, .int .i64 0] 35)) from ⟨b0, hS.A.on b0, P0⟩)
  have HR := Lib.hid (fun (w' : World) (h : Below w.heap.size w w') => hS.R.below (h.mono hB))
  have hRw := hS.R.wf
  have hln := hS.R.ps.length
  have hrn := hS.R.rs.length
  have hg0 : g0 < w.heap.size := hS.A.lt (by simp [S3L])
  clear hS b0 P0 R0
  obtain ⟨ho, hp⟩ := storeF_zero h0
  obtain ⟨h12, hlong, _, _⟩ := diskF_zero (openC_zero ho).1
  have hps := storeF_pins h0
  obtain ⟨hp4, -, -⟩ := pinsF_zero hps
  obtain ⟨hc0, hr0⟩ := put0_code hps hpf
  have pp := fun (w' : World) (h : Below w.heap.size w w') => l7Put_any a1 n1 c1 B s.ps p w' (HR.out w' h).ps (Nat.le_trans hB h.size) (by rw [← hln]; omega)
  unfold Put0 at pp
  rw [← hc0, ← hr0] at pp
  by_cases hput : putC s.ps p = 0
  case neg =>
    have ec := noteC_put h0 hput
    rw [noteS_no (by rw [ec]; exact hput), ec]
    have PP := Lib.hid pp
    clear pp ec h0 ho hp h12 hlong hRw HR hln hrn hps hp4 hc0 hr0
    generalize putR s.ps p = qs at *
    generalize putC s.ps p = cp at *
    have q9 : (cp != 0) = true := by simpa using hput
    have q8 : decide (cp = 0) = false := by simpa using hput
    go_enter Tryz.func82, Tryz.ntmps82
    go_wp2_with fail
    generalize (w.alloc (.cells #[.string p.n, .int .i64 p.a, .int .i64 p.b, .int .i64 p.e, .int .i64 p.u] 31)).alloc (.cells #[.int .i64 0, .slice none 0 0, .slice none 0 0, .int .i64 0] 35) = W0 at *
    refine wp_region_line (Hold2 w g0 (S3L a1 n1 c1 a2 n2 c2 s.d.s) w.heap.size p.vals) [(0, true), (1, true), (2, true), (3, true), (4, true), (5, false), (6, true), (7, true), (8, true), (9, true), (10, true)] (by kernel_rfl) (by kernel_rfl) (fun _ _ d _ _ h => by cases d <;> exact h) (HH0.out.on (bdrew _)) ?_
    have hst := HH0.out.on (bdrew _)
    have HR1 := Lib.hid (HR0.out.on (bdrew W0))
    have inst : Nonempty (Of (Hold2 w g0 (S3L a1 n1 c1 a2 n2 c2 s.d.s) w.heap.size p.vals)) := ⟨⟨_, hst⟩⟩
    have x0 := Hold2.q1 (W := w) (g1 := g0) (c1 := S3L a1 n1 c1 a2 n2 c2 s.d.s) (g2 := w.heap.size) (c2 := p.vals) 0 _ rfl
    have y0 := Hold2.q2 (W := w) (g1 := g0) (c1 := S3L a1 n1 c1 a2 n2 c2 s.d.s) (g2 := w.heap.size) (c2 := p.vals) 0 _ rfl
    have y1 := Hold2.q2 (W := w) (g1 := g0) (c1 := S3L a1 n1 c1 a2 n2 c2 s.d.s) (g2 := w.heap.size) (c2 := p.vals) 1 _ rfl
    have y2 := Hold2.q2 (W := w) (g1 := g0) (c1 := S3L a1 n1 c1 a2 n2 c2 s.d.s) (g2 := w.heap.size) (c2 := p.vals) 2 _ rfl
    have y3 := Hold2.q2 (W := w) (g1 := g0) (c1 := S3L a1 n1 c1 a2 n2 c2 s.d.s) (g2 := w.heap.size) (c2 := p.vals) 3 _ rfl
    have y4 := Hold2.q2 (W := w) (g1 := g0) (c1 := S3L a1 n1 c1 a2 n2 c2 s.d.s) (g2 := w.heap.size) (c2 := p.vals) 4 _ rfl
    clear HH0 HR0
    generalize W0.drew = V1 at *
    iterate 5 (refine line_read rfl (by kernel_rfl) (fun K hK => ?_); go_big_quiet_op; refine hK _ ?_; clear hK K)
    refine line_alone rfl (by kernel_rfl) (fun K hK => ?_)
    refine call_any (args := #[.slice a1 n1 c1, P5 p]) rfl (by kernel_rfl) (by kernel_rfl) (PP.out _ hst.bel) ?_
    rintro e x2 ⟨a3, n3, c3, rfl, O3, b3⟩
    have hst2 := hst.on b3
    have HO3 := Lib.hid O3
    have HR3 := Lib.hid (HR1.out.on b3)
    have hltV : w.heap.size + 1 < V1.heap.size := HR1.out.lt (by simp [zero9])
    have hltX : V1.heap.size ≤ x2.heap.size := b3.size
    refine ⟨_, rfl, hK _ _ hst2 ?_⟩
    clear hK K hst b3 O3 HR1 x0 y0 y1 y2 y3 y4
    have hst := hst2
    clear hst2
    simp only [Act.put, List.setIfInBounds_toArray, List.set_cons_zero, List.set_cons_succ]
    iterate 5 (refine line_read rfl (by kernel_rfl) (fun K hK => ?_); go_big_quiet_op; refine hK _ ?_; clear hK K)
    refine line_nil ?_
    have HST := Lib.hid hst
    clear hst inst
    go_wp2_with fail
    refine (l9Bad_any cp _).mono ?_
    rintro r u9 ⟨rfl, b9⟩
    have R9 := (HR3.out).on b9
    have B9 := btr HST.out.bel b9
    unfold zero9 at R9
    have q0 := R9.cell 0 _ rfl
    have q1 := R9.cell 1 _ rfl
    have q2 := R9.cell 2 _ rfl
    have q3 := R9.cell 3 _ rfl
    have f0 := R9.free 0 _ rfl
    have f1 := R9.free 1 _ rfl
    have f2 := R9.free 2 _ rfl
    have f3 := R9.free 3 _ rfl
    clear b9 R9
    go_wp2_with fail
    refine bodyPost_ret (v := V4 cp none 0 0 none 0 0 0) (by simp [results, Tryz.results82, go_sem, V4, q0, q1, q2, q3]) rfl ⟨none, 0, 0, none, 0, 0, rfl, SOwn.nil _ _ ?_, ?_⟩
    · exact Nat.le_trans B9.size (by simp [World.setCell])
    · exact (by (iterate 4 (refine bset ?_ (by dsimp only; omega) _)); exact B9)
  rw [hput] at pp
  by_cases hfull : 12 ≤ s.d.rs.length
  · have ec := noteC_full h0 hput hfull
    rw [noteS_no (by rw [ec]; decide), ec]
    have PP := Lib.hid pp
    have hf2 : (12 : Int) ≤ n2 := by rw [← hrn]; omega
    clear pp ec h0 ho hp h12 hlong hRw HR hput hfull hln hrn hps hp4 hc0 hr0
    generalize putR s.ps p = qs at *
    go_enter Tryz.func82, Tryz.ntmps82
    go_wp2_with fail
    generalize (w.alloc (.cells #[.string p.n, .int .i64 p.a, .int .i64 p.b, .int .i64 p.e, .int .i64 p.u] 31)).alloc (.cells #[.int .i64 0, .slice none 0 0, .slice none 0 0, .int .i64 0] 35) = W0 at *
    refine wp_region_line (Hold2 w g0 (S3L a1 n1 c1 a2 n2 c2 s.d.s) w.heap.size p.vals) [(0, true), (1, true), (2, true), (3, true), (4, true), (5, false), (6, true), (7, true), (8, true), (9, true), (10, true)] (by kernel_rfl) (by kernel_rfl) (fun _ _ d _ _ h => by cases d <;> exact h) (HH0.out.on (bdrew _)) ?_
    have hst := HH0.out.on (bdrew _)
    have HR1 := Lib.hid (HR0.out.on (bdrew W0))
    have inst : Nonempty (Of (Hold2 w g0 (S3L a1 n1 c1 a2 n2 c2 s.d.s) w.heap.size p.vals)) := ⟨⟨_, hst⟩⟩
    have x0 := Hold2.q1 (W := w) (g1 := g0) (c1 := S3L a1 n1 c1 a2 n2 c2 s.d.s) (g2 := w.heap.size) (c2 := p.vals) 0 _ rfl
    have y0 := Hold2.q2 (W := w) (g1 := g0) (c1 := S3L a1 n1 c1 a2 n2 c2 s.d.s) (g2 := w.heap.size) (c2 := p.vals) 0 _ rfl
    have y1 := Hold2.q2 (W := w) (g1 := g0) (c1 := S3L a1 n1 c1 a2 n2 c2 s.d.s) (g2 := w.heap.size) (c2 := p.vals) 1 _ rfl
    have y2 := Hold2.q2 (W := w) (g1 := g0) (c1 := S3L a1 n1 c1 a2 n2 c2 s.d.s) (g2 := w.heap.size) (c2 := p.vals) 2 _ rfl
    have y3 := Hold2.q2 (W := w) (g1 := g0) (c1 := S3L a1 n1 c1 a2 n2 c2 s.d.s) (g2 := w.heap.size) (c2 := p.vals) 3 _ rfl
    have y4 := Hold2.q2 (W := w) (g1 := g0) (c1 := S3L a1 n1 c1 a2 n2 c2 s.d.s) (g2 := w.heap.size) (c2 := p.vals) 4 _ rfl
    clear HH0 HR0
    generalize W0.drew = V1 at *
    iterate 5 (refine line_read rfl (by kernel_rfl) (fun K hK => ?_); go_big_quiet_op; refine hK _ ?_; clear hK K)
    refine line_alone rfl (by kernel_rfl) (fun K hK => ?_)
    refine call_any (args := #[.slice a1 n1 c1, P5 p]) rfl (by kernel_rfl) (by kernel_rfl) (PP.out _ hst.bel) ?_
    rintro e x2 ⟨a3, n3, c3, rfl, O3, b3⟩
    have hst2 := hst.on b3
    have HO3 := Lib.hid O3
    have HR3 := Lib.hid (HR1.out.on b3)
    have hltV : w.heap.size + 1 < V1.heap.size := HR1.out.lt (by simp [zero9])
    have hltX : V1.heap.size ≤ x2.heap.size := b3.size
    refine ⟨_, rfl, hK _ _ hst2 ?_⟩
    clear hK K hst b3 O3 HR1 x0 y0 y1 y2 y3 y4
    have hst := hst2
    clear hst2
    simp only [Act.put, List.setIfInBounds_toArray, List.set_cons_zero, List.set_cons_succ]
    iterate 5 (refine line_read rfl (by kernel_rfl) (fun K hK => ?_); go_big_quiet_op; refine hK _ ?_; clear hK K)
    refine line_nil ?_
    have HST := Lib.hid hst
    clear hst inst
    have e1 := HST.out.a1.cell 1 _ rfl
    go_wp2_with fail
    refine (l9Bad_any 7 _).mono ?_
    rintro r u9 ⟨rfl, b9⟩
    have R9 := (HR3.out).on b9
    have B9 := btr HST.out.bel b9
    unfold zero9 at R9
    have q0 := R9.cell 0 _ rfl
    have q1 := R9.cell 1 _ rfl
    have q2 := R9.cell 2 _ rfl
    have q3 := R9.cell 3 _ rfl
    have f0 := R9.free 0 _ rfl
    have f1 := R9.free 1 _ rfl
    have f2 := R9.free 2 _ rfl
    have f3 := R9.free 3 _ rfl
    clear b9 R9
    go_wp2_with fail
    refine bodyPost_ret (v := V4 7 none 0 0 none 0 0 0) (by simp [results, Tryz.results82, go_sem, V4, q0, q1, q2, q3]) rfl ⟨none, 0, 0, none, 0, 0, rfl, SOwn.nil _ _ ?_, ?_⟩
    · exact Nat.le_trans B9.size (by simp [World.setCell])
    · exact (by (iterate 4 (refine bset ?_ (by dsimp only; omega) _)); exact B9)
  have ec := noteC_yes h0 hput hfull
  have hlt12 : s.d.rs.length < 12 := by omega
  have es : noteS s p = noted s p := by unfold noteS; rw [if_pos ec]
  have er : putR s.ps p = putL s.ps p := by unfold putR; rw [if_pos hput]
  have HNM := Lib.hid (right_names (storeF_pins (noted_f h0 hput hlt12)))
  have HW : Hid (∀ zs ∈ s.d.rs ++ [recP p], ∀ z ∈ zs, (Lit.int .u8 z).wf = true) := Lib.hid (fun zs hz z hzz => by
    rcases List.mem_append.1 hz with hz | hz
    · exact hRw zs hz z hzz
    · rw [List.mem_singleton] at hz
      subst hz
      exact byte_wf (recP_byte hpf z hzz))
  rw [es, ec]
  rw [er] at pp
  have PP := Lib.hid pp
  have hf2 : ¬ (12 : Int) ≤ n2 := by rw [← hrn]; omega
  have CP := Lib.hid (fun (w' : World) (h : Below w.heap.size w w') => l9Copy_any a1 n1 c1 a2 n2 c2 B s w' (HR.out w' h) (Nat.le_trans hB h.size) hp4 h12 hlong)
  have RC := Lib.hid (fun (w' : World) (A : At w.heap.size p.vals w') => l9Record_any w.heap.size 0 p w' (fun w2 hb => l7Pack_any w.heap.size p w2 (A.on hb) hpf) hpf)
  clear pp ec h0 ho hp h12 hlong hRw HR hput hfull hpf es er hln hrn hps hp4 hc0 hr0
  show Calls Tryz.prog 82 #[.pointer (some ⟨g0, 0, none⟩), P5 p] w (StoreRes 0 ⟨putL s.ps p, ⟨s.d.rs ++ [recP p], s.d.s⟩⟩ w)
  have HNM : Hid (∀ q ∈ putL s.ps p, q.n.size ≤ maxLen) := HNM
  generalize putL s.ps p = qs at *
  generalize recP p = zs at *
  go_enter Tryz.func82, Tryz.ntmps82
  go_wp2_with fail
  generalize (w.alloc (.cells #[.string p.n, .int .i64 p.a, .int .i64 p.b, .int .i64 p.e, .int .i64 p.u] 31)).alloc (.cells #[.int .i64 0, .slice none 0 0, .slice none 0 0, .int .i64 0] 35) = W0 at *
  refine wp_region_line (Hold2 w g0 (S3L a1 n1 c1 a2 n2 c2 s.d.s) w.heap.size p.vals) [(0, true), (1, true), (2, true), (3, true), (4, true), (5, false), (6, true), (7, true), (8, true), (9, true), (10, true)] (by kernel_rfl) (by kernel_rfl) (fun _ _ d _ _ h => by cases d <;> exact h) (HH0.out.on (bdrew _)) ?_
  have hst := HH0.out.on (bdrew _)
  have HR1 := Lib.hid (HR0.out.on (bdrew W0))
  have inst : Nonempty (Of (Hold2 w g0 (S3L a1 n1 c1 a2 n2 c2 s.d.s) w.heap.size p.vals)) := ⟨⟨_, hst⟩⟩
  have x0 := Hold2.q1 (W := w) (g1 := g0) (c1 := S3L a1 n1 c1 a2 n2 c2 s.d.s) (g2 := w.heap.size) (c2 := p.vals) 0 _ rfl
  have y0 := Hold2.q2 (W := w) (g1 := g0) (c1 := S3L a1 n1 c1 a2 n2 c2 s.d.s) (g2 := w.heap.size) (c2 := p.vals) 0 _ rfl
  have y1 := Hold2.q2 (W := w) (g1 := g0) (c1 := S3L a1 n1 c1 a2 n2 c2 s.d.s) (g2 := w.heap.size) (c2 := p.vals) 1 _ rfl
  have y2 := Hold2.q2 (W := w) (g1 := g0) (c1 := S3L a1 n1 c1 a2 n2 c2 s.d.s) (g2 := w.heap.size) (c2 := p.vals) 2 _ rfl
  have y3 := Hold2.q2 (W := w) (g1 := g0) (c1 := S3L a1 n1 c1 a2 n2 c2 s.d.s) (g2 := w.heap.size) (c2 := p.vals) 3 _ rfl
  have y4 := Hold2.q2 (W := w) (g1 := g0) (c1 := S3L a1 n1 c1 a2 n2 c2 s.d.s) (g2 := w.heap.size) (c2 := p.vals) 4 _ rfl
  clear HH0 HR0
  generalize W0.drew = V1 at *
  iterate 5 (refine line_read rfl (by kernel_rfl) (fun K hK => ?_); go_big_quiet_op; refine hK _ ?_; clear hK K)
  refine line_alone rfl (by kernel_rfl) (fun K hK => ?_)
  refine call_any (args := #[.slice a1 n1 c1, P5 p]) rfl (by kernel_rfl) (by kernel_rfl) (PP.out _ hst.bel) ?_
  rintro e x2 ⟨a3, n3, c3, rfl, O3, b3⟩
  have hst2 := hst.on b3
  have HO3 := Lib.hid O3
  have HR3 := Lib.hid (HR1.out.on b3)
  have hltV : w.heap.size + 1 < V1.heap.size := HR1.out.lt (by simp [zero9])
  have hltX : V1.heap.size ≤ x2.heap.size := b3.size
  refine ⟨_, rfl, hK _ _ hst2 ?_⟩
  clear hK K hst b3 O3 HR1 x0 y0 y1 y2 y3 y4
  have hst := hst2
  clear hst2
  simp only [Act.put, List.setIfInBounds_toArray, List.set_cons_zero, List.set_cons_succ]
  iterate 5 (refine line_read rfl (by kernel_rfl) (fun K hK => ?_); go_big_quiet_op; refine hK _ ?_; clear hK K)
  refine line_nil ?_
  have HST := Lib.hid hst
  clear hst inst
  have d0 := HST.out.a1.cell 0 _ rfl
  have d1 := HST.out.a1.cell 1 _ rfl
  have d2 := HST.out.a1.cell 2 _ rfl
  go_wp2_with fail
  refine (CP.out _ HST.out.bel).mono ?_
  rintro r u2 ⟨a4, c4, a5, c5, rfl, SO, b2⟩
  obtain ⟨mid, xs, hm1, hm2, -, -, hG, -, -⟩ := SO
  have b23 := bal (Below.refl _ u2) (.cells #[.slice a4 s.ps.length c4, .slice a5 s.d.rs.length c5, .int .i64 s.d.s] 29)
  have D3 := Lib.hid (show At u2.heap.size [.slice a4 s.ps.length c4, .slice a5 s.d.rs.length c5, .int .i64 s.d.s] (u2.alloc (.cells #[.slice a4 s.ps.length c4, .slice a5 s.d.rs.length c5, .int .i64 s.d.s] 29)) from At.new u2 [.slice a4 s.ps.length c4, .slice a5 s.d.rs.length c5, .int .i64 s.d.s] 29)
  have b3 := btr b2 b23
  have HST3 := Lib.hid (HST.out.on b3)
  have R3 := Lib.hid (HR3.out.on b3)
  have O3 := Lib.hid (HO3.out.below b3)
  have G3 := Lib.hid (hG.below b23)
  have hO3 := Lib.hid (fun k e => (Own.lt HO3.out k e))
  have hg2 : u2.heap.size < (u2.alloc (.cells #[.slice a4 s.ps.length c4, .slice a5 s.d.rs.length c5, .int .i64 s.d.s] 29)).heap.size := by simp
  clear d0 d1 d2 b2 b23 b3 hG HST HR3 HO3 CP PP
  go_upto_region 7 with fail
  generalize u2.alloc (.cells #[.slice a4 s.ps.length c4, .slice a5 s.d.rs.length c5, .int .i64 s.d.s] 29) = W3 at *
  generalize u2.heap.size = g at *
  have d0 := D3.out.cell 0 _ rfl
  have d1 := D3.out.cell 1 _ rfl
  have d2 := D3.out.cell 2 _ rfl
  have f0 := D3.out.free 0 _ rfl
  have f1 := D3.out.free 1 _ rfl
  have f2 := D3.out.free 2 _ rfl
  go_upto_region 8 with fail
  have hd1 : g ≠ w.heap.size := by omega
  have hd2 : g ≠ w.heap.size + 1 := by omega
  have hd0 : w.heap.size ≤ g := by omega
  have hs4 : (W3.setCell ⟨g, 0, none⟩ (.slice a3 n3 c3)).heap.size = W3.heap.size := by simp [World.setCell]
  have S4 : KSt w w.heap.size (w.heap.size + 1) g p.vals zero9 (.slice a3 n3 c3) (.slice a5 s.d.rs.length c5) s.d.s qs s.d.rs xs mid (W3.setCell ⟨g, 0, none⟩ (.slice a3 n3 c3)) :=
    ⟨HST3.out.a2.setB (p := ⟨g, 0, none⟩) (Ne.symm hd1) _, R3.out.setB (p := ⟨g, 0, none⟩) (Ne.symm hd2) _, by simpa using D3.out.set 0 (.slice a3 n3 c3),
     Own.setCell (O3.out.less (by omega)) (p := ⟨g, 0, none⟩) (fun k e => by have := (hO3.out k e).2; show k ≠ g; omega) _,
     fun k e => by have := (hO3.out k e).2; omega,
     (G3.out.setCell (p := ⟨g, 0, none⟩) (.inr (Nat.le_refl _)) _).more (by rw [hs4]; omega) (Nat.le_refl _),
     bset HST3.out.bel hd0 _,
     fun k e => by have h1 := (G3.out.own.lt k e).1; have h2 := G3.out.lt k e; omega,
     fun i u k hu e => by
       obtain ⟨q1, q2, -⟩ := G3.out.row i u hu
       have h1 := (Own.lt q1 k e).1
       have h2 := q2 k e
       omega,
     by omega, by omega, by rw [hs4]; omega, hd0⟩
  have hmid : w.heap.size + 1 + 1 ≤ mid := by omega
  clear d0 d1 d2 f0 f1 f2 hs4 HST3 R3 O3 G3 D3 hO3
  generalize W3.setCell ⟨g, 0, none⟩ (.slice a3 n3 c3) = W4 at *
  have HS := Lib.hid S4
  obtain ⟨i0, hi0, hz0, hz1, hz2⟩ := info_parts slices_info
  have H0 := Lib.hid (show Hold w w.heap.size p.vals W4.drew from ⟨S4.B.drew, S4.P.on (bdrew W4)⟩)
  have HT1 := Lib.hid (S4.on (bdrew W4))
  clear S4 HS
  go_wp2_with fail
  refine wp_region_fork (Hold w w.heap.size p.vals) (by kernel_rfl) (H0.out) ?_
  have hst : (Hold w w.heap.size p.vals) _ := (H0.out)
  have inst : Nonempty (Of (Hold w w.heap.size p.vals)) := ⟨⟨_, hst⟩⟩
  clear H0
  generalize W4.drew = V4' at *
  refine any_seg 7 [(0, true), (1, true)] (by kernel_rfl) (fun _ _ d _ _ h => by cases d <;> exact h) ?_
  iterate 2 (refine line_read rfl (by kernel_rfl) (fun K hK => ?_); go_big_quiet_op; refine hK _ ?_; clear hK K)
  refine line_nil ?_
  refine any_fork 2 3 (by kernel_rfl) rfl rfl (by kernel_rfl) (by kernel_rfl) (fun K hK => ?_) (fun K hK => ?_)
  · have e1 := (HT1.out).D.cell 1 _ rfl
    go_big_op
    refine hK _ _ hst ?_
    clear hK K e1
    refine any_rest [(3, false), (4, false), (5, false), (6, true), (7, true), (8, false)] (by kernel_rfl) (fun _ _ d _ _ h => by cases d <;> exact h) ?_
    refine line_alone rfl (by kernel_rfl) (fun K hK => ?_)
    refine call_any (args := #[.pointer (some ⟨w.heap.size, 0, none⟩)]) rfl (by kernel_rfl) (by kernel_rfl) (RC.out _ hst.at') ?_
    rintro e x6 ⟨a6, n6, c6, rfl, O6, b6⟩
    have hst2 := hst.on b6
    refine ⟨_, rfl, hK _ _ hst2 ?_⟩
    clear hK K hst
    have hst := hst2
    clear hst2
    simp only [Act.put, List.setIfInBounds_toArray, List.set_cons_zero, List.set_cons_succ]
    refine line_alone rfl (by kernel_rfl) (fun K hK => ?_)
    go_big_op
    have SR := Lib.hid (src_new (P := Tryz.prog) x6 [.slice a6 n6 c6] 1 1 22 25 22 Tryz.underlying25 rfl (by intro u hu; simp at hu; subst hu; rfl))
    have b7 := btr b6 (bal (Below.refl _ x6) (.cells #[.slice a6 n6 c6] 22))
    have O7 := Lib.hid (O6.alloc (.cells #[.slice a6 n6 c6] 22))
    have hst2 := hst.on (bal (Below.refl _ x6) (.cells #[.slice a6 n6 c6] 22))
    refine hK _ _ hst2 ?_
    clear hK K hst O6 b6
    have hst := hst2
    clear hst2
    have hc7 : (x6.alloc (.cells [Value.slice a6 n6 c6].toArray 22)) = x6.alloc (.cells #[.slice a6 n6 c6] 22) := rfl
    rw [hc7] at SR
    clear hc7
    generalize x6.alloc (.cells #[.slice a6 n6 c6] 22) = x7 at *
    generalize x6.heap.size = lit at *
    refine line_alone rfl (by kernel_rfl) (fun K hK => ?_)
    have HT7 := Lib.hid (HT1.out.on b7)
    refine wp_append_src _ (.tmp 37) (.tmp 39) 25 25 rfl mid 22 i0 (.slice none 0 0) 1 24 Tryz.underlying25 hi0 hz0 hz1 hz2 rfl (.slice a5 s.d.rs.length c5) s.d.rs.length xs rfl HT7.out.G.own _ 1 [.slice a6 n6 c6] rfl SR.out (by simp only [maxLen]; omega) (by omega) HT7.out.lo2 (fun v8 w8 hown hgrow hat => ?_)
    obtain ⟨a8, c8, hv8, -⟩ := Own.form hown
    subst hv8
    have T8 := Lib.hid (HT1.out.app b7 O7.out hown hgrow hat hd1 hd2 (by simp [PinD.vals]) (by simp [zero9]))
    have D8 := HT7.out.D.kept hgrow (fun e => (HT7.out.off g e.symm).2.2 rfl)
    have P8 := HT7.out.P.kept hgrow (fun e => (HT7.out.off w.heap.size e.symm).1 rfl)
    have B8 : Below w.heap.size w w8 := HT7.out.B.grown hgrow HT7.out.B.size fun k e => Nat.le_trans HT7.out.lo1 (HT7.out.G.own.lt k e).1
    have hst2 : Hold w w.heap.size p.vals w8 := ⟨B8, P8⟩
    refine hK _ _ hst2 ?_
    clear hK K hst hown hgrow hat O7 SR HT7 b7 B8 P8
    have hst := hst2
    clear hst2
    simp only [Act.put, List.setIfInBounds_toArray, List.set_cons_zero, List.set_cons_succ]
    have z0 := D8.cell 0 _ rfl
    have z1 := D8.cell 1 _ rfl
    have z2 := D8.cell 2 _ rfl
    have f0 := D8.free 0 _ rfl
    have f1 := D8.free 1 _ rfl
    have f2 := D8.free 2 _ rfl
    iterate 2 (refine line_read rfl (by kernel_rfl) (fun K hK => ?_); go_big_quiet_op; refine hK _ ?_; clear hK K)
    refine line_alone rfl (by kernel_rfl) (fun K hK => ?_)
    go_big_op
    refine hK _ _ (hst.setB (p := ⟨g, 1, none⟩) hd0 (Ne.symm hd1) _) ?_
    clear hK K
    refine line_nil ?_
    clear z0 z1 z2 f0 f1 f2 D8 HT1 RC hst inst
    have SO9 := T8.out.got HNM.out HW.out
    have R9 := T8.out.R
    have D9 := T8.out.D
    have B9 := T8.out.B
    generalize w8.setCell ⟨g, 1, none⟩ (.slice a8 (s.d.rs.length + 1) c8) = W9 at *
    have HS9 := Lib.hid (SO9.res (w := w) (r := w.heap.size + 1) (by omega) (by omega) (.int .i64 0) (.slice a3 n3 c3) (.slice a8 (s.d.rs.length + 1) c8) (.int .i64 s.d.s))
    have HB9 := Lib.hid B9
    clear SO9 B9 T8
    have z0 := D9.cell 0 _ rfl
    have z1 := D9.cell 1 _ rfl
    have z2 := D9.cell 2 _ rfl
    unfold zero9 at R9
    have q0 := R9.cell 0 _ rfl
    have q1 := R9.cell 1 _ rfl
    have q2 := R9.cell 2 _ rfl
    have q3 := R9.cell 3 _ rfl
    have f0 := R9.free 0 _ rfl
    have f1 := R9.free 1 _ rfl
    have f2 := R9.free 2 _ rfl
    have f3 := R9.free 3 _ rfl
    clear D9 R9
    go_wp2_with fail
    refine bodyPost_ret (v := V4 0 a3 n3 c3 a8 (s.d.rs.length + 1) c8 s.d.s) (by simp [results, Tryz.results82, go_sem, V4, q0, q1, q2, q3]) rfl ⟨a3, n3, c3, a8, s.d.rs.length + 1, c8, rfl, HS9.out, ?_⟩
    exact (by (iterate 4 (refine bset ?_ (by dsimp only; omega) _)); exact HB9.out)
  · refine call_any (args := #[.pointer (some ⟨w.heap.size, 0, none⟩)]) rfl (by kernel_rfl) (by kernel_rfl) (RC.out _ hst.at') ?_
    rintro e x6 ⟨a6, n6, c6, rfl, O6, b6⟩
    have hst2 := hst.on b6
    refine ⟨_, rfl, hK _ _ hst2 ?_⟩
    clear hK K hst
    have hst := hst2
    clear hst2
    simp only [Act.put, List.setIfInBounds_toArray, List.set_cons_zero, List.set_cons_succ]
    refine any_fork 2 4 (by kernel_rfl) rfl rfl (by kernel_rfl) (by kernel_rfl) (fun K hK => ?_) (fun K hK => ?_)
    · have e1 := (HT1.out.on b6).D.cell 1 _ rfl
      go_big_op
      refine hK _ _ hst ?_
      clear hK K e1
      refine any_rest [(4, false), (5, false), (6, true), (7, true), (8, false)] (by kernel_rfl) (fun _ _ d _ _ h => by cases d <;> exact h) ?_
      refine line_alone rfl (by kernel_rfl) (fun K hK => ?_)
      go_big_op
      have SR := Lib.hid (src_new (P := Tryz.prog) x6 [.slice a6 n6 c6] 1 1 22 25 22 Tryz.underlying25 rfl (by intro u hu; simp at hu; subst hu; rfl))
      have b7 := btr b6 (bal (Below.refl _ x6) (.cells #[.slice a6 n6 c6] 22))
      have O7 := Lib.hid (O6.alloc (.cells #[.slice a6 n6 c6] 22))
      have hst2 := hst.on (bal (Below.refl _ x6) (.cells #[.slice a6 n6 c6] 22))
      refine hK _ _ hst2 ?_
      clear hK K hst O6 b6
      have hst := hst2
      clear hst2
      have hc7 : (x6.alloc (.cells [Value.slice a6 n6 c6].toArray 22)) = x6.alloc (.cells #[.slice a6 n6 c6] 22) := rfl
      rw [hc7] at SR
      clear hc7
      generalize x6.alloc (.cells #[.slice a6 n6 c6] 22) = x7 at *
      generalize x6.heap.size = lit at *
      refine line_alone rfl (by kernel_rfl) (fun K hK => ?_)
      have HT7 := Lib.hid (HT1.out.on b7)
      refine wp_append_src _ (.tmp 37) (.tmp 39) 25 25 rfl mid 22 i0 (.slice none 0 0) 1 24 Tryz.underlying25 hi0 hz0 hz1 hz2 rfl (.slice a5 s.d.rs.length c5) s.d.rs.length xs rfl HT7.out.G.own _ 1 [.slice a6 n6 c6] rfl SR.out (by simp only [maxLen]; omega) (by omega) HT7.out.lo2 (fun v8 w8 hown hgrow hat => ?_)
      obtain ⟨a8, c8, hv8, -⟩ := Own.form hown
      subst hv8
      have T8 := Lib.hid (HT1.out.app b7 O7.out hown hgrow hat hd1 hd2 (by simp [PinD.vals]) (by simp [zero9]))
      have D8 := HT7.out.D.kept hgrow (fun e => (HT7.out.off g e.symm).2.2 rfl)
      have P8 := HT7.out.P.kept hgrow (fun e => (HT7.out.off w.heap.size e.symm).1 rfl)
      have B8 : Below w.heap.size w w8 := HT7.out.B.grown hgrow HT7.out.B.size fun k e => Nat.le_trans HT7.out.lo1 (HT7.out.G.own.lt k e).1
      have hst2 : Hold w w.heap.size p.vals w8 := ⟨B8, P8⟩
      refine hK _ _ hst2 ?_
      clear hK K hst hown hgrow hat O7 SR HT7 b7 B8 P8
      have hst := hst2
      clear hst2
      simp only [Act.put, List.setIfInBounds_toArray, List.set_cons_zero, List.set_cons_succ]
      have z0 := D8.cell 0 _ rfl
      have z1 := D8.cell 1 _ rfl
      have z2 := D8.cell 2 _ rfl
      have f0 := D8.free 0 _ rfl
      have f1 := D8.free 1 _ rfl
      have f2 := D8.free 2 _ rfl
      iterate 2 (refine line_read rfl (by kernel_rfl) (fun K hK => ?_); go_big_quiet_op; refine hK _ ?_; clear hK K)
      refine line_alone rfl (by kernel_rfl) (fun K hK => ?_)
      go_big_op
      refine hK _ _ (hst.setB (p := ⟨g, 1, none⟩) hd0 (Ne.symm hd1) _) ?_
      clear hK K
      refine line_nil ?_
      clear z0 z1 z2 f0 f1 f2 D8 HT1 RC hst inst
      have SO9 := T8.out.got HNM.out HW.out
      have R9 := T8.out.R
      have D9 := T8.out.D
      have B9 := T8.out.B
      generalize w8.setCell ⟨g, 1, none⟩ (.slice a8 (s.d.rs.length + 1) c8) = W9 at *
      have HS9 := Lib.hid (SO9.res (w := w) (r := w.heap.size + 1) (by omega) (by omega) (.int .i64 0) (.slice a3 n3 c3) (.slice a8 (s.d.rs.length + 1) c8) (.int .i64 s.d.s))
      have HB9 := Lib.hid B9
      clear SO9 B9 T8
      have z0 := D9.cell 0 _ rfl
      have z1 := D9.cell 1 _ rfl
      have z2 := D9.cell 2 _ rfl
      unfold zero9 at R9
      have q0 := R9.cell 0 _ rfl
      have q1 := R9.cell 1 _ rfl
      have q2 := R9.cell 2 _ rfl
      have q3 := R9.cell 3 _ rfl
      have f0 := R9.free 0 _ rfl
      have f1 := R9.free 1 _ rfl
      have f2 := R9.free 2 _ rfl
      have f3 := R9.free 3 _ rfl
      clear D9 R9
      go_wp2_with fail
      refine bodyPost_ret (v := V4 0 a3 n3 c3 a8 (s.d.rs.length + 1) c8 s.d.s) (by simp [results, Tryz.results82, go_sem, V4, q0, q1, q2, q3]) rfl ⟨a3, n3, c3, a8, s.d.rs.length + 1, c8, rfl, HS9.out, ?_⟩
      exact (by (iterate 4 (refine bset ?_ (by dsimp only; omega) _)); exact HB9.out)
    · go_big_op
      have SR := Lib.hid (src_new (P := Tryz.prog) x6 [.slice a6 n6 c6] 1 1 22 25 22 Tryz.underlying25 rfl (by intro u hu; simp at hu; subst hu; rfl))
      have b7 := btr b6 (bal (Below.refl _ x6) (.cells #[.slice a6 n6 c6] 22))
      have O7 := Lib.hid (O6.alloc (.cells #[.slice a6 n6 c6] 22))
      have hst2 := hst.on (bal (Below.refl _ x6) (.cells #[.slice a6 n6 c6] 22))
      refine hK _ _ hst2 ?_
      clear hK K hst O6 b6
      have hst := hst2
      clear hst2
      have hc7 : (x6.alloc (.cells [Value.slice a6 n6 c6].toArray 22)) = x6.alloc (.cells #[.slice a6 n6 c6] 22) := rfl
      rw [hc7] at SR
      clear hc7
      generalize x6.alloc (.cells #[.slice a6 n6 c6] 22) = x7 at *
      generalize x6.heap.size = lit at *
      refine any_rest [(2, false), (5, false), (6, true), (7, true), (8, false)] (by kernel_rfl) (fun _ _ d _ _ h => by cases d <;> exact h) ?_
      refine line_alone rfl (by kernel_rfl) (fun K hK => ?_)
      have e1 := (HT1.out.on b7).D.cell 1 _ rfl
      go_big_op
      refine hK _ _ hst ?_
      clear hK K e1
      refine line_alone rfl (by kernel_rfl) (fun K hK => ?_)
      have HT7 := Lib.hid (HT1.out.on b7)
      refine wp_append_src _ (.tmp 37) (.tmp 39) 25 25 rfl mid 22 i0 (.slice none 0 0) 1 24 Tryz.underlying25 hi0 hz0 hz1 hz2 rfl (.slice a5 s.d.rs.length c5) s.d.rs.length xs rfl HT7.out.G.own _ 1 [.slice a6 n6 c6] rfl SR.out (by simp only [maxLen]; omega) (by omega) HT7.out.lo2 (fun v8 w8 hown hgrow hat => ?_)
      obtain ⟨a8, c8, hv8, -⟩ := Own.form hown
      subst hv8
      have T8 := Lib.hid (HT1.out.app b7 O7.out hown hgrow hat hd1 hd2 (by simp [PinD.vals]) (by simp [zero9]))
      have D8 := HT7.out.D.kept hgrow (fun e => (HT7.out.off g e.symm).2.2 rfl)
      have P8 := HT7.out.P.kept hgrow (fun e => (HT7.out.off w.heap.size e.symm).1 rfl)
      have B8 : Below w.heap.size w w8 := HT7.out.B.grown hgrow HT7.out.B.size fun k e => Nat.le_trans HT7.out.lo1 (HT7.out.G.own.lt k e).1
      have hst2 : Hold w w.heap.size p.vals w8 := ⟨B8, P8⟩
      refine hK _ _ hst2 ?_
      clear hK K hst hown hgrow hat O7 SR HT7 b7 B8 P8
      have hst := hst2
      clear hst2
      simp only [Act.put, List.setIfInBounds_toArray, List.set_cons_zero, List.set_cons_succ]
      have z0 := D8.cell 0 _ rfl
      have z1 := D8.cell 1 _ rfl
      have z2 := D8.cell 2 _ rfl
      have f0 := D8.free 0 _ rfl
      have f1 := D8.free 1 _ rfl
      have f2 := D8.free 2 _ rfl
      iterate 2 (refine line_read rfl (by kernel_rfl) (fun K hK => ?_); go_big_quiet_op; refine hK _ ?_; clear hK K)
      refine line_alone rfl (by kernel_rfl) (fun K hK => ?_)
      go_big_op
      refine hK _ _ (hst.setB (p := ⟨g, 1, none⟩) hd0 (Ne.symm hd1) _) ?_
      clear hK K
      refine line_nil ?_
      clear z0 z1 z2 f0 f1 f2 D8 HT1 RC hst inst
      have SO9 := T8.out.got HNM.out HW.out
      have R9 := T8.out.R
      have D9 := T8.out.D
      have B9 := T8.out.B
      generalize w8.setCell ⟨g, 1, none⟩ (.slice a8 (s.d.rs.length + 1) c8) = W9 at *
      have HS9 := Lib.hid (SO9.res (w := w) (r := w.heap.size + 1) (by omega) (by omega) (.int .i64 0) (.slice a3 n3 c3) (.slice a8 (s.d.rs.length + 1) c8) (.int .i64 s.d.s))
      have HB9 := Lib.hid B9
      clear SO9 B9 T8
      have z0 := D9.cell 0 _ rfl
      have z1 := D9.cell 1 _ rfl
      have z2 := D9.cell 2 _ rfl
      unfold zero9 at R9
      have q0 := R9.cell 0 _ rfl
      have q1 := R9.cell 1 _ rfl
      have q2 := R9.cell 2 _ rfl
      have q3 := R9.cell 3 _ rfl
      have f0 := R9.free 0 _ rfl
      have f1 := R9.free 1 _ rfl
      have f2 := R9.free 2 _ rfl
      have f3 := R9.free 3 _ rfl
      clear D9 R9
      go_wp2_with fail
      refine bodyPost_ret (v := V4 0 a3 n3 c3 a8 (s.d.rs.length + 1) c8 s.d.s) (by simp [results, Tryz.results82, go_sem, V4, q0, q1, q2, q3]) rfl ⟨a3, n3, c3, a8, s.d.rs.length + 1, c8, rfl, HS9.out, ?_⟩
      exact (by (iterate 4 (refine bset ?_ (by dsimp only; omega) _)); exact HB9.out)
end Go.Proofs.YtcolecidbalmhaaGreatDoor
namespace Go.Proofs.YtcolecidbalmhaaGreatDoor
open Go.RowKit
set_option maxRecDepth 100000
set_option linter.unusedVariables false

end Go.Proofs.YtcolecidbalmhaaGreatDoor
namespace Go.Proofs.YtcolecidbalmhaaGreatDoor
open Go.RowKit Go.Extern.Stop Go.Stop Go.Extern

/-- The variable errors.errorType holds the handle of the type 'error'. -/
structure ErrT (w : World) : Prop where
  cell : w.cell? ⟨2, 0, none⟩ = some (.iface 320 (.agg #[.pointer (some ⟨7, 200, none⟩)]))
theorem ErrT.on {w w' : World} (h : ErrT w) (hb : Below w.heap.size w w') : ErrT w' := ⟨cell_keep hb h.cell⟩
theorem ErrT.lt {w : World} (h : ErrT w) : 2 < w.heap.size := cell_lt h.cell

/-- An error of what does not fit. -/
abbrev misV (c : Int) (s : ByteArray) : Value := .iface 249 (.agg #[.int .i64 c, .string s])
abbrev hdl (t : Nat) : Value := .pointer (some ⟨7, t, none⟩)
abbrev rval (t : Nat) (a : Addr) (f : Int) : Value := .agg #[hdl t, .pointer (some a), .int .u64 f]

theorem rl_valueOfP (t : Addr) (w : World) : (ReflectliteValue.unpack (.iface 255 (.pointer (some t)))).run Tryz.prog w
    = .ok (rval 255 ⟨w.heap.size, 0, none⟩ 150) (w.alloc (.cells #[.pointer (some t)] 255)) := by kernel_rfl
theorem rl_typeP (a : Addr) (w : World) : (ReflectliteValue.methodAny (ReflectliteValue.valueError "reflectlite.Value.Type" 0) (fun t _ _ _ => ReflectliteType.toType t) #[rval 255 a 150]).run Tryz.prog w
    = .ok (.iface 320 (.agg #[hdl 255])) w := by kernel_rfl
theorem rl_mKind (h : Value) (w : World) : (Go.method 495 320 (.agg #[h]) "Kind").run Tryz.prog w = .ok (307, h) w := by kernel_rfl
theorem rl_mElem (h : Value) (w : World) : (Go.method 495 320 (.agg #[h]) "Elem").run Tryz.prog w = .ok (320, .agg #[h]) w := by kernel_rfl
theorem rl_mImpl (h : Value) (w : World) : (Go.method 495 320 (.agg #[h]) "Implements").run Tryz.prog w = .ok (321, .agg #[h]) w := by kernel_rfl
theorem rl_mAsgn (h : Value) (w : World) : (Go.method 495 320 (.agg #[h]) "AssignableTo").run Tryz.prog w = .ok (318, .agg #[h]) w := by kernel_rfl
theorem rl_kindP (w : World) : ((ReflectliteType.abiMethod fun t => (fun a : Nat => Value.int IntKind.u8 (a : Int)) <$> Rtype.kind t) #[hdl 255]).run Tryz.prog w = .ok (.int .u8 22) w := by kernel_rfl
theorem rl_kindM (w : World) : ((ReflectliteType.abiMethod fun t => (fun a : Nat => Value.int IntKind.u8 (a : Int)) <$> Rtype.kind t) #[hdl 249]).run Tryz.prog w = .ok (.int .u8 25) w := by kernel_rfl
theorem rl_elemP (w : World) : (ReflectliteType.method ReflectliteType.elem #[.agg #[hdl 255]]).run Tryz.prog w = .ok (.iface 320 (.agg #[hdl 249])) w := by kernel_rfl
theorem rl_implM (w : World) : (ReflectliteType.relation "Implements" ReflectliteType.implements_ #[.agg #[hdl 249], .iface 320 (.agg #[hdl 200])]).run Tryz.prog w = .ok (.bool true) w := by kernel_rfl
theorem rl_typeOfM (v : Value) (w : World) : (ReflectliteType.typeOf #[.iface 249 v]).run Tryz.prog w = .ok (.iface 320 (.agg #[hdl 249])) w := by kernel_rfl
theorem rl_asgnM (w : World) : (ReflectliteType.relation "AssignableTo" ReflectliteType.assignableTo #[.agg #[hdl 249], .iface 320 (.agg #[hdl 249])]).run Tryz.prog w = .ok (.bool true) w := by kernel_rfl
theorem rl_valueOfM (c : Int) (s : ByteArray) (w : World) : (ReflectliteValue.unpack (misV c s)).run Tryz.prog w
    = .ok (rval 249 ⟨w.heap.size, 0, none⟩ 153) (w.alloc (.cells #[.int .i64 c, .string s] 249)) := by kernel_rfl

theorem rl_partsP (a : Addr) (w : World) : (ReflectliteValue.parts (rval 255 a 150)).run Tryz.prog w = .ok (some (255, a, 150)) w := by kernel_rfl
theorem rl_method {P : Program} {w : World} {z : Sem Value} {f : TypeId → Addr → Nat → Nat → Sem Value} {v : Value} {t : TypeId} {a : Addr} {k : Nat} (h : (ReflectliteValue.parts v).run P w = .ok (some (t, a, k)) w) :
    (ReflectliteValue.method z f #[v]).run P w = (f t a k (k % 32)).run P w := by
  rw [show ReflectliteValue.method z f #[v] = ReflectliteValue.parts v >>= _ from rfl]
  simp only [Sem.run_bind, h, Result.andThen]
theorem rl_isNilP (a p : Addr) (W : World) (ha : W.cell? a = some (.pointer (some p))) :
    (ReflectliteValue.method (ReflectliteValue.valueError "reflectlite.Value.IsNil" 0) ReflectliteValue.isNil #[rval 255 a 150]).run Tryz.prog W = .ok (.bool false) W := by
  rw [rl_method (rl_partsP _ _)]
  simp [ReflectliteValue.isNil, loadVar, isAgg, underlying, Tryz.underlying255, ha, Result.andThen]
theorem rl_elemOfP (w : World) : (Rtype.elem? 255).run Tryz.prog w = .ok (some 249) w := by kernel_rfl
theorem rl_mkM (p : Addr) (w : World) : (ReflectliteValue.mk 249 p ReflectliteValue.flagAddr).run Tryz.prog w = .ok (rval 249 p 409) w := by kernel_rfl
theorem rl_elemV (a p : Addr) (W : World) (ha : W.cell? a = some (.pointer (some p))) :
    (ReflectliteValue.method (ReflectliteValue.valueError "reflectlite.Value.Elem" 0) ReflectliteValue.elem #[rval 255 a 150]).run Tryz.prog W = .ok (rval 249 p 409) W := by
  rw [rl_method (rl_partsP _ _)]
  simp [ReflectliteValue.elem, loadVar, isAgg, underlying, Tryz.underlying255, ha, Result.andThen, rl_elemOfP, rl_mkM]
theorem rl_partsMa (a : Addr) (w : World) : (ReflectliteValue.parts (rval 249 a 409)).run Tryz.prog w = .ok (some (249, a, 409)) w := by kernel_rfl
theorem rl_partsM (a : Addr) (w : World) : (ReflectliteValue.parts (rval 249 a 153)).run Tryz.prog w = .ok (some (249, a, 153)) w := by kernel_rfl
theorem rl_directM (w : World) : (Rtype.directlyAssignable 249 249).run Tryz.prog w = .ok true w := by kernel_rfl
/-- (Value).Set: the struct at 'ta' gets what the Value's own variable holds. -/
theorem rl_setM (tb b : Nat) (c : Int) (s : ByteArray) (o0 o1 : Value) (W : World) (b0 : W.cell? ⟨b, 0, none⟩ = some (.int .i64 c)) (b1 : W.cell? ⟨b, 1, none⟩ = some (.string s))
    (t0 : W.cell? ⟨tb, 0, none⟩ = some o0) (t1 : W.cell? ⟨tb, 1, none⟩ = some o1) (f0 : W.frozen? ⟨tb, 0, none⟩ = false) (f1 : W.frozen? ⟨tb, 1, none⟩ = false) :
    (ReflectliteValue.set #[rval 249 ⟨tb, 0, none⟩ 409, rval 249 ⟨b, 0, none⟩ 153]).run Tryz.prog W = .ok (.tuple #[]) ((W.setCell ⟨tb, 0, none⟩ (.int .i64 c)).setCell ⟨tb, 1, none⟩ (.string s)) := by
  have hl : (loadCells ⟨b, 0, none⟩ 2).run Tryz.prog W = .ok #[.int .i64 c, .string s] W := by
    have := run_loadCells_list (P := Tryz.prog) (w := W) ⟨b, 0, none⟩ [.int .i64 c, .string s] (fun j v hj => by
      rcases j with _ | _ | j
      · simp at hj; subst hj; exact b0
      · simp at hj; subst hj; exact b1
      · first | (simp at hj; done) | (simp at hj; omega))
    exact this
  generalize hv : rval 249 ⟨tb, 0, none⟩ 409 = v
  generalize hx : rval 249 ⟨b, 0, none⟩ 153 = x
  rw [show ReflectliteValue.set #[v, x] = (ReflectliteValue.parts v >>= fun p => ReflectliteValue.parts x >>= fun q => _) from rfl]
  subst hv; subst hx
  simp only [Sem.run_bind, rl_partsMa, rl_partsM, Result.andThen]
  simp [ReflectliteValue.flagAddr, loadVar, isAgg, underlying, Tryz.underlying249, hl, Result.andThen, rl_directM, storeVar, Value.cells]
  have hst := run_storeCells_cells (P := Tryz.prog) tb 0 [.int .i64 c, .string s] 0 W
    (fun j hj => by
      rcases j with _ | _ | j
      · simp [t0]
      · simp [t1]
      · first | (simp at hj; done) | (simp at hj; omega))
    (fun j hj => by
      rcases j with _ | _ | j
      · exact f0
      · exact f1
      · first | (simp at hj; done) | (simp at hj; omega))
    (fun v hv => by
      simp at hv
      rcases hv with rfl | rfl <;> rfl)
  rw [hst]
  rfl
end Go.Proofs.YtcolecidbalmhaaGreatDoor
namespace Go.Proofs.YtcolecidbalmhaaGreatDoor
open Go.RowKit Go.Extern.Stop Go.Stop Go.Extern

end Go.Proofs.YtcolecidbalmhaaGreatDoor
namespace Go.Proofs.YtcolecidbalmhaaGreatDoor
open Go.RowKit Go.Extern.Stop Go.Stop Go.Extern
set_option linter.unusedVariables false
set_option maxRecDepth 100000

/-- An error that wraps another. -/
abbrev refV (s : ByteArray) (e : Value) : Value := .iface 247 (.agg #[.string s, e])
theorem rl_typeOfR (v : Value) (w : World) : (ReflectliteType.typeOf #[.iface 247 v]).run Tryz.prog w = .ok (.iface 320 (.agg #[hdl 247])) w := by kernel_rfl
theorem rl_asgnR (w : World) : (ReflectliteType.relation "AssignableTo" ReflectliteType.assignableTo #[.agg #[hdl 247], .iface 320 (.agg #[hdl 249])]).run Tryz.prog w = .ok (.bool false) w := by kernel_rfl
theorem rl_noAs (s : ByteArray) (e : Value) (w : World) : (Instr.typeAssert (refV s e) 200 325 true).run Tryz.prog w = .ok (.tuple #[.nilIface, .bool false]) w := run_typeAssert_lacksB Tryz.underlying325 (by kernel_rfl) (by kernel_rfl) _ _ w
theorem rl_unwraps (s : ByteArray) (e : Value) (w : World) : (Instr.typeAssert (refV s e) 200 328 true).run Tryz.prog w = .ok (.tuple #[refV s e, .bool true]) w := run_typeAssert_hasB Tryz.underlying328 (by kernel_rfl) _ _ w
theorem rl_mUnwrap (s : ByteArray) (e : Value) (w : World) : (Go.method 495 247 (.agg #[.string s, e]) "Unwrap").run Tryz.prog w = .ok (311, .agg #[.string s, e]) w := by kernel_rfl
theorem unwrap_any (s : ByteArray) (e : Value) (w : World) :
    Calls Tryz.prog 311 #[.agg #[.string s, e]] w fun r w' => r = .returned e ∧ Below w.heap.size w w' := by
  have b0 := bal (Below.refl _ w) (.cells #[.string s, e] 247)
  go_enter Tryz.func311, Tryz.ntmps311
  go_wp2_with fail
  go_ret
  exact ⟨rfl, b0⟩
def AsHit (tb : Nat) (c : Int) (w : World) (ev : Ending) (w' : World) : Prop := ev = .returned (.bool true) ∧ w'.cell? ⟨tb, 0, none⟩ = some (.int .i64 c) ∧ Below tb w w'
set_option maxHeartbeats 4000000 in
theorem as_0 (c : Int) (s : ByteArray) (tb vb : Nat) (o0 o1 T : Value) (w : World) (cv : w.cell? ⟨vb, 0, none⟩ = some (.pointer (some ⟨tb, 0, none⟩))) (t0 : w.cell? ⟨tb, 0, none⟩ = some o0) (t1 : w.cell? ⟨tb, 1, none⟩ = some o1) (f0 : w.frozen? ⟨tb, 0, none⟩ = false) (f1 : w.frozen? ⟨tb, 1, none⟩ = false) :
    Calls Tryz.prog 244 #[misV c s, T, rval 255 ⟨vb, 0, none⟩ 150, .iface 320 (.agg #[hdl 249])] w (AsHit tb c w) := by
  have hV := @run_callFunc_extern Tryz.prog 241 _ (fun args => ReflectliteValue.unpack (args.getD 0 (.tuple #[]))) Tryz.func241 (by kernel_rfl) (by kernel_rfl) (by kernel_rfl) (by kernel_rfl)
  have hO := @run_callFunc_extern Tryz.prog 263 _ ReflectliteType.typeOf Tryz.func263 (by kernel_rfl) (by kernel_rfl) (by kernel_rfl) (by kernel_rfl)
  have hA := @run_callFunc_extern Tryz.prog 318 _ (ReflectliteType.relation "AssignableTo" ReflectliteType.assignableTo) Tryz.func318 (by kernel_rfl) (by kernel_rfl) (by kernel_rfl) (by kernel_rfl)
  have hL := @run_callFunc_extern Tryz.prog 264 _ (ReflectliteValue.method (ReflectliteValue.valueError "reflectlite.Value.Elem" 0) ReflectliteValue.elem) Tryz.func264 (by kernel_rfl) (by kernel_rfl) (by kernel_rfl) (by kernel_rfl)
  have hS := @run_callFunc_extern Tryz.prog 265 _ ReflectliteValue.set Tryz.func265 (by kernel_rfl) (by kernel_rfl) (by kernel_rfl) (by kernel_rfl)
  have tO := rl_typeOfM
  have tR := rl_typeOfR
  have mA := rl_mAsgn
  have a1 := rl_asgnM
  have a2 := rl_asgnR
  have v1 := rl_valueOfM
  have htl0 : tb < w.heap.size := cell_lt t0
  have hb := bal (Below.refl _ w) (.cells #[hdl 255, .pointer (some ⟨vb, 0, none⟩), .int .u64 150] 294)
  have HB := Lib.hid (hb.mono (Nat.le_of_lt htl0))
  have z := cell_keep hb cv; clear cv; have cv := z; clear z
  have z := cell_keep hb t0; clear t0; have t0 := z; clear z
  have z := cell_keep hb t1; clear t1; have t1 := z; clear z
  have z := (hb.frozen (p := ⟨tb, 0, none⟩) htl0).trans f0; clear f0; have f0 := z; clear z
  have z := (hb.frozen (p := ⟨tb, 1, none⟩) htl0).trans f1; clear f1; have f1 := z; clear z
  have AV : At w.heap.size [hdl 255, .pointer (some ⟨vb, 0, none⟩), .int .u64 150] (w.alloc (.cells #[hdl 255, .pointer (some ⟨vb, 0, none⟩), .int .u64 150] 294)) := At.new w [hdl 255, .pointer (some ⟨vb, 0, none⟩), .int .u64 150] 294
  clear hb htl0
  go_enter Tryz.func244, Tryz.ntmps244
  go_wp2
  generalize w.alloc (.cells #[hdl 255, .pointer (some ⟨vb, 0, none⟩), .int .u64 150] 294) = W1 at *
  refine wp_loop_rounds 1 ?_
  have el := rl_elemV ⟨vb, 0, none⟩ ⟨tb, 0, none⟩ W1 cv
  have hb4 : Below W1.heap.size W1 (W1.alloc (.cells #[.int .i64 c, .string s] 249)) := bal (Below.refl _ _) _
  have htl : tb < W1.heap.size := cell_lt t0
  have q0 := cell_keep hb4 t0
  have q1 := cell_keep hb4 t1
  have p0 := (hb4.frozen (p := ⟨tb, 0, none⟩) htl).trans f0
  have p1 := (hb4.frozen (p := ⟨tb, 1, none⟩) htl).trans f1
  have st := rl_setM tb W1.heap.size c s o0 o1 (W1.alloc (.cells #[.int .i64 c, .string s] 249)) (by rw [World.cell?_alloc_at _ _ _ _ (by simp)]; rfl) (by rw [World.cell?_alloc_at _ _ _ _ (by simp)]; rfl) q0 q1 p0 p1
  have F := Lib.hid (And.intro q0 (Below.trans HB.out (hb4.mono (Nat.le_of_lt htl))))
  clear hb4 q0 q1 p0 p1 t0 t1 f0 f1 cv HB htl
  have d0 := AV.cell 0 _ rfl
  have d1 := AV.cell 1 _ rfl
  have d2 := AV.cell 2 _ rfl
  clear AV
  rw [rounds_succ]
  go_wp2
  go_ret
  refine ⟨rfl, ?_, ?_⟩
  · rw [World.cell?_setCell_other _ _ _ _ (fun e => by injection e with _ e2; omega), World.cell?_setCell_same _ _ _ (by rw [F.out.1])]
  · exact (F.out.2.setCell (Nat.le_refl _) _).setCell (Nat.le_refl _) _
set_option maxHeartbeats 4000000 in
theorem as_1 (c : Int) (s s1 : ByteArray) (tb vb : Nat) (o0 o1 T : Value) (w : World) (cv : w.cell? ⟨vb, 0, none⟩ = some (.pointer (some ⟨tb, 0, none⟩))) (t0 : w.cell? ⟨tb, 0, none⟩ = some o0) (t1 : w.cell? ⟨tb, 1, none⟩ = some o1) (f0 : w.frozen? ⟨tb, 0, none⟩ = false) (f1 : w.frozen? ⟨tb, 1, none⟩ = false) :
    Calls Tryz.prog 244 #[refV s1 (misV c s), T, rval 255 ⟨vb, 0, none⟩ 150, .iface 320 (.agg #[hdl 249])] w (AsHit tb c w) := by
  have hV := @run_callFunc_extern Tryz.prog 241 _ (fun args => ReflectliteValue.unpack (args.getD 0 (.tuple #[]))) Tryz.func241 (by kernel_rfl) (by kernel_rfl) (by kernel_rfl) (by kernel_rfl)
  have hO := @run_callFunc_extern Tryz.prog 263 _ ReflectliteType.typeOf Tryz.func263 (by kernel_rfl) (by kernel_rfl) (by kernel_rfl) (by kernel_rfl)
  have hA := @run_callFunc_extern Tryz.prog 318 _ (ReflectliteType.relation "AssignableTo" ReflectliteType.assignableTo) Tryz.func318 (by kernel_rfl) (by kernel_rfl) (by kernel_rfl) (by kernel_rfl)
  have hL := @run_callFunc_extern Tryz.prog 264 _ (ReflectliteValue.method (ReflectliteValue.valueError "reflectlite.Value.Elem" 0) ReflectliteValue.elem) Tryz.func264 (by kernel_rfl) (by kernel_rfl) (by kernel_rfl) (by kernel_rfl)
  have hS := @run_callFunc_extern Tryz.prog 265 _ ReflectliteValue.set Tryz.func265 (by kernel_rfl) (by kernel_rfl) (by kernel_rfl) (by kernel_rfl)
  have tO := rl_typeOfM
  have tR := rl_typeOfR
  have mA := rl_mAsgn
  have a1 := rl_asgnM
  have a2 := rl_asgnR
  have v1 := rl_valueOfM
  have htl0 : tb < w.heap.size := cell_lt t0
  have hb := bal (Below.refl _ w) (.cells #[hdl 255, .pointer (some ⟨vb, 0, none⟩), .int .u64 150] 294)
  have HB := Lib.hid (hb.mono (Nat.le_of_lt htl0))
  have z := cell_keep hb cv; clear cv; have cv := z; clear z
  have z := cell_keep hb t0; clear t0; have t0 := z; clear z
  have z := cell_keep hb t1; clear t1; have t1 := z; clear z
  have z := (hb.frozen (p := ⟨tb, 0, none⟩) htl0).trans f0; clear f0; have f0 := z; clear z
  have z := (hb.frozen (p := ⟨tb, 1, none⟩) htl0).trans f1; clear f1; have f1 := z; clear z
  have AV : At w.heap.size [hdl 255, .pointer (some ⟨vb, 0, none⟩), .int .u64 150] (w.alloc (.cells #[hdl 255, .pointer (some ⟨vb, 0, none⟩), .int .u64 150] 294)) := At.new w [hdl 255, .pointer (some ⟨vb, 0, none⟩), .int .u64 150] 294
  clear hb htl0
  go_enter Tryz.func244, Tryz.ntmps244
  go_wp2
  generalize w.alloc (.cells #[hdl 255, .pointer (some ⟨vb, 0, none⟩), .int .u64 150] 294) = W1 at *
  refine wp_loop_rounds 2 ?_
  have ta1 := rl_noAs s1 (misV c s)
  have ta2 := rl_unwraps s1 (misV c s)
  have mU := rl_mUnwrap s1 (misV c s)
  rw [rounds_succ]
  go_wp2_with fail
  refine (unwrap_any _ _ _).mono ?_
  rintro r W2 ⟨rfl, hb⟩
  have htl : tb < W1.heap.size := cell_lt t0
  have z := Lib.hid (Below.trans HB.out (hb.mono (Nat.le_of_lt htl))); clear HB; have HB := z; clear z
  have z := AV.on hb; clear AV; have AV := z; clear z
  have z := cell_keep hb cv; clear cv; have cv := z; clear z
  have z := cell_keep hb t0; clear t0; have t0 := z; clear z
  have z := cell_keep hb t1; clear t1; have t1 := z; clear z
  have z := (hb.frozen (p := ⟨tb, 0, none⟩) htl).trans f0; clear f0; have f0 := z; clear z
  have z := (hb.frozen (p := ⟨tb, 1, none⟩) htl).trans f1; clear f1; have f1 := z; clear z
  clear hb htl ta1 ta2 mU
  go_wp2
  generalize W2 = W1 at *
  have el := rl_elemV ⟨vb, 0, none⟩ ⟨tb, 0, none⟩ W1 cv
  have hb4 : Below W1.heap.size W1 (W1.alloc (.cells #[.int .i64 c, .string s] 249)) := bal (Below.refl _ _) _
  have htl : tb < W1.heap.size := cell_lt t0
  have q0 := cell_keep hb4 t0
  have q1 := cell_keep hb4 t1
  have p0 := (hb4.frozen (p := ⟨tb, 0, none⟩) htl).trans f0
  have p1 := (hb4.frozen (p := ⟨tb, 1, none⟩) htl).trans f1
  have st := rl_setM tb W1.heap.size c s o0 o1 (W1.alloc (.cells #[.int .i64 c, .string s] 249)) (by rw [World.cell?_alloc_at _ _ _ _ (by simp)]; rfl) (by rw [World.cell?_alloc_at _ _ _ _ (by simp)]; rfl) q0 q1 p0 p1
  have F := Lib.hid (And.intro q0 (Below.trans HB.out (hb4.mono (Nat.le_of_lt htl))))
  clear hb4 q0 q1 p0 p1 t0 t1 f0 f1 cv HB htl
  have d0 := AV.cell 0 _ rfl
  have d1 := AV.cell 1 _ rfl
  have d2 := AV.cell 2 _ rfl
  clear AV
  rw [rounds_succ]
  go_wp2
  go_ret
  refine ⟨rfl, ?_, ?_⟩
  · rw [World.cell?_setCell_other _ _ _ _ (fun e => by injection e with _ e2; omega), World.cell?_setCell_same _ _ _ (by rw [F.out.1])]
  · exact (F.out.2.setCell (Nat.le_refl _) _).setCell (Nat.le_refl _) _
set_option maxHeartbeats 4000000 in
theorem as_2 (c : Int) (s s1 s2 : ByteArray) (tb vb : Nat) (o0 o1 T : Value) (w : World) (cv : w.cell? ⟨vb, 0, none⟩ = some (.pointer (some ⟨tb, 0, none⟩))) (t0 : w.cell? ⟨tb, 0, none⟩ = some o0) (t1 : w.cell? ⟨tb, 1, none⟩ = some o1) (f0 : w.frozen? ⟨tb, 0, none⟩ = false) (f1 : w.frozen? ⟨tb, 1, none⟩ = false) :
    Calls Tryz.prog 244 #[refV s2 (refV s1 (misV c s)), T, rval 255 ⟨vb, 0, none⟩ 150, .iface 320 (.agg #[hdl 249])] w (AsHit tb c w) := by
  have hV := @run_callFunc_extern Tryz.prog 241 _ (fun args => ReflectliteValue.unpack (args.getD 0 (.tuple #[]))) Tryz.func241 (by kernel_rfl) (by kernel_rfl) (by kernel_rfl) (by kernel_rfl)
  have hO := @run_callFunc_extern Tryz.prog 263 _ ReflectliteType.typeOf Tryz.func263 (by kernel_rfl) (by kernel_rfl) (by kernel_rfl) (by kernel_rfl)
  have hA := @run_callFunc_extern Tryz.prog 318 _ (ReflectliteType.relation "AssignableTo" ReflectliteType.assignableTo) Tryz.func318 (by kernel_rfl) (by kernel_rfl) (by kernel_rfl) (by kernel_rfl)
  have hL := @run_callFunc_extern Tryz.prog 264 _ (ReflectliteValue.method (ReflectliteValue.valueError "reflectlite.Value.Elem" 0) ReflectliteValue.elem) Tryz.func264 (by kernel_rfl) (by kernel_rfl) (by kernel_rfl) (by kernel_rfl)
  have hS := @run_callFunc_extern Tryz.prog 265 _ ReflectliteValue.set Tryz.func265 (by kernel_rfl) (by kernel_rfl) (by kernel_rfl) (by kernel_rfl)
  have tO := rl_typeOfM
  have tR := rl_typeOfR
  have mA := rl_mAsgn
  have a1 := rl_asgnM
  have a2 := rl_asgnR
  have v1 := rl_valueOfM
  have htl0 : tb < w.heap.size := cell_lt t0
  have hb := bal (Below.refl _ w) (.cells #[hdl 255, .pointer (some ⟨vb, 0, none⟩), .int .u64 150] 294)
  have HB := Lib.hid (hb.mono (Nat.le_of_lt htl0))
  have z := cell_keep hb cv; clear cv; have cv := z; clear z
  have z := cell_keep hb t0; clear t0; have t0 := z; clear z
  have z := cell_keep hb t1; clear t1; have t1 := z; clear z
  have z := (hb.frozen (p := ⟨tb, 0, none⟩) htl0).trans f0; clear f0; have f0 := z; clear z
  have z := (hb.frozen (p := ⟨tb, 1, none⟩) htl0).trans f1; clear f1; have f1 := z; clear z
  have AV : At w.heap.size [hdl 255, .pointer (some ⟨vb, 0, none⟩), .int .u64 150] (w.alloc (.cells #[hdl 255, .pointer (some ⟨vb, 0, none⟩), .int .u64 150] 294)) := At.new w [hdl 255, .pointer (some ⟨vb, 0, none⟩), .int .u64 150] 294
  clear hb htl0
  go_enter Tryz.func244, Tryz.ntmps244
  go_wp2
  generalize w.alloc (.cells #[hdl 255, .pointer (some ⟨vb, 0, none⟩), .int .u64 150] 294) = W1 at *
  refine wp_loop_rounds 3 ?_
  have ta1 := rl_noAs s2 (refV s1 (misV c s))
  have ta2 := rl_unwraps s2 (refV s1 (misV c s))
  have mU := rl_mUnwrap s2 (refV s1 (misV c s))
  rw [rounds_succ]
  go_wp2_with fail
  refine (unwrap_any _ _ _).mono ?_
  rintro r W2 ⟨rfl, hb⟩
  have htl : tb < W1.heap.size := cell_lt t0
  have z := Lib.hid (Below.trans HB.out (hb.mono (Nat.le_of_lt htl))); clear HB; have HB := z; clear z
  have z := AV.on hb; clear AV; have AV := z; clear z
  have z := cell_keep hb cv; clear cv; have cv := z; clear z
  have z := cell_keep hb t0; clear t0; have t0 := z; clear z
  have z := cell_keep hb t1; clear t1; have t1 := z; clear z
  have z := (hb.frozen (p := ⟨tb, 0, none⟩) htl).trans f0; clear f0; have f0 := z; clear z
  have z := (hb.frozen (p := ⟨tb, 1, none⟩) htl).trans f1; clear f1; have f1 := z; clear z
  clear hb htl ta1 ta2 mU
  go_wp2
  generalize W2 = W1 at *
  have ta1 := rl_noAs s1 (misV c s)
  have ta2 := rl_unwraps s1 (misV c s)
  have mU := rl_mUnwrap s1 (misV c s)
  rw [rounds_succ]
  go_wp2_with fail
  refine (unwrap_any _ _ _).mono ?_
  rintro r W2 ⟨rfl, hb⟩
  have htl : tb < W1.heap.size := cell_lt t0
  have z := Lib.hid (Below.trans HB.out (hb.mono (Nat.le_of_lt htl))); clear HB; have HB := z; clear z
  have z := AV.on hb; clear AV; have AV := z; clear z
  have z := cell_keep hb cv; clear cv; have cv := z; clear z
  have z := cell_keep hb t0; clear t0; have t0 := z; clear z
  have z := cell_keep hb t1; clear t1; have t1 := z; clear z
  have z := (hb.frozen (p := ⟨tb, 0, none⟩) htl).trans f0; clear f0; have f0 := z; clear z
  have z := (hb.frozen (p := ⟨tb, 1, none⟩) htl).trans f1; clear f1; have f1 := z; clear z
  clear hb htl ta1 ta2 mU
  go_wp2
  generalize W2 = W1 at *
  have el := rl_elemV ⟨vb, 0, none⟩ ⟨tb, 0, none⟩ W1 cv
  have hb4 : Below W1.heap.size W1 (W1.alloc (.cells #[.int .i64 c, .string s] 249)) := bal (Below.refl _ _) _
  have htl : tb < W1.heap.size := cell_lt t0
  have q0 := cell_keep hb4 t0
  have q1 := cell_keep hb4 t1
  have p0 := (hb4.frozen (p := ⟨tb, 0, none⟩) htl).trans f0
  have p1 := (hb4.frozen (p := ⟨tb, 1, none⟩) htl).trans f1
  have st := rl_setM tb W1.heap.size c s o0 o1 (W1.alloc (.cells #[.int .i64 c, .string s] 249)) (by rw [World.cell?_alloc_at _ _ _ _ (by simp)]; rfl) (by rw [World.cell?_alloc_at _ _ _ _ (by simp)]; rfl) q0 q1 p0 p1
  have F := Lib.hid (And.intro q0 (Below.trans HB.out (hb4.mono (Nat.le_of_lt htl))))
  clear hb4 q0 q1 p0 p1 t0 t1 f0 f1 cv HB htl
  have d0 := AV.cell 0 _ rfl
  have d1 := AV.cell 1 _ rfl
  have d2 := AV.cell 2 _ rfl
  clear AV
  rw [rounds_succ]
  go_wp2
  go_ret
  refine ⟨rfl, ?_, ?_⟩
  · rw [World.cell?_setCell_other _ _ _ _ (fun e => by injection e with _ e2; omega), World.cell?_setCell_same _ _ _ (by rw [F.out.1])]
  · exact (F.out.2.setCell (Nat.le_refl _) _).setCell (Nat.le_refl _) _
/-- An error that has code c: what does not fit, wrapped twice at most. -/
def ErrC (c : Int) (e : Value) : Prop := (∃ s, e = misV c s) ∨ (∃ s1 s, e = refV s1 (misV c s)) ∨ ∃ s2 s1 s, e = refV s2 (refV s1 (misV c s))
/-- One that is wrapped once at most. -/
def ErrC1 (c : Int) (e : Value) : Prop := (∃ s, e = misV c s) ∨ ∃ s1 s, e = refV s1 (misV c s)
theorem ErrC1.all {c : Int} {e : Value} (h : ErrC1 c e) : ErrC c e := h.elim (fun h => .inl h) fun h => .inr (.inl h)
theorem ErrC1.wrap {c : Int} {e : Value} (h : ErrC1 c e) (s : ByteArray) : ErrC c (refV s e) := by
  rcases h with ⟨x, rfl⟩ | ⟨y, x, rfl⟩
  · exact .inr (.inl ⟨_, _, rfl⟩)
  · exact .inr (.inr ⟨_, _, _, rfl⟩)
theorem ErrC.neq {c : Int} {e : Value} (h : ErrC c e) (w : World) : (binOp .neq 200 e .nilIface).run Tryz.prog w = .ok (.bool true) w := by
  rcases h with ⟨x, rfl⟩ | ⟨y, x, rfl⟩ | ⟨z, y, x, rfl⟩ <;> kernel_rfl
theorem ErrC.eql {c : Int} {e : Value} (h : ErrC c e) (w : World) : (binOp .eql 200 e .nilIface).run Tryz.prog w = .ok (.bool false) w := by
  rcases h with ⟨x, rfl⟩ | ⟨y, x, rfl⟩ | ⟨z, y, x, rfl⟩ <;> kernel_rfl
theorem ErrC.gneq {c : Int} {e : Value} (h : ErrC c e) (n : Nat) (w : World) : (eqGuard .neq 200 (.tmp n) (.const .nilIface) e .nilIface).run Tryz.prog w = .ok () w := by
  rcases h with ⟨x, rfl⟩ | ⟨y, x, rfl⟩ | ⟨z, y, x, rfl⟩ <;> kernel_rfl
theorem ErrC.geql {c : Int} {e : Value} (h : ErrC c e) (n : Nat) (w : World) : (eqGuard .eql 200 (.tmp n) (.const .nilIface) e .nilIface).run Tryz.prog w = .ok () w := by
  rcases h with ⟨x, rfl⟩ | ⟨y, x, rfl⟩ | ⟨z, y, x, rfl⟩ <;> kernel_rfl
theorem as_any {c : Int} {e : Value} (h : ErrC c e) (tb vb : Nat) (o0 o1 T : Value) (w : World) (cv : w.cell? ⟨vb, 0, none⟩ = some (.pointer (some ⟨tb, 0, none⟩))) (t0 : w.cell? ⟨tb, 0, none⟩ = some o0) (t1 : w.cell? ⟨tb, 1, none⟩ = some o1) (f0 : w.frozen? ⟨tb, 0, none⟩ = false) (f1 : w.frozen? ⟨tb, 1, none⟩ = false) :
    Calls Tryz.prog 244 #[e, T, rval 255 ⟨vb, 0, none⟩ 150, .iface 320 (.agg #[hdl 249])] w (AsHit tb c w) := by
  rcases h with ⟨x, rfl⟩ | ⟨y, x, rfl⟩ | ⟨z, y, x, rfl⟩
  · exact as_0 c x tb vb o0 o1 T w cv t0 t1 f0 f1
  · exact as_1 c x y tb vb o0 o1 T w cv t0 t1 f0 f1
  · exact as_2 c x y z tb vb o0 o1 T w cv t0 t1 f0 f1
set_option maxHeartbeats 4000000 in
theorem As_err {c : Int} {e : Value} (h : ErrC c e) (tb : Nat) (o0 o1 : Value) (w : World) (hg : ErrT w) (t0 : w.cell? ⟨tb, 0, none⟩ = some o0) (t1 : w.cell? ⟨tb, 1, none⟩ = some o1) (f0 : w.frozen? ⟨tb, 0, none⟩ = false) (f1 : w.frozen? ⟨tb, 1, none⟩ = false) :
    Calls Tryz.prog 203 #[e, .iface 255 (.pointer (some ⟨tb, 0, none⟩))] w (AsHit tb c w) := by
  have hV := @run_callFunc_extern Tryz.prog 241 _ (fun args => ReflectliteValue.unpack (args.getD 0 (.tuple #[]))) Tryz.func241 (by kernel_rfl) (by kernel_rfl) (by kernel_rfl) (by kernel_rfl)
  have hT := @run_callFunc_extern Tryz.prog 242 _ (ReflectliteValue.methodAny (ReflectliteValue.valueError "reflectlite.Value.Type" 0) (fun t _ _ _ => ReflectliteType.toType t)) Tryz.func242 (by kernel_rfl) (by kernel_rfl) (by kernel_rfl) (by kernel_rfl)
  have hN := @run_callFunc_extern Tryz.prog 243 _ (ReflectliteValue.method (ReflectliteValue.valueError "reflectlite.Value.IsNil" 0) ReflectliteValue.isNil) Tryz.func243 (by kernel_rfl) (by kernel_rfl) (by kernel_rfl) (by kernel_rfl)
  have hK := @run_callFunc_extern Tryz.prog 307 _ (ReflectliteType.abiMethod fun t => do pure (.int .u8 (← Rtype.kind t))) Tryz.func307 (by kernel_rfl) (by kernel_rfl) (by kernel_rfl) (by kernel_rfl)
  have hE := @run_callFunc_extern Tryz.prog 320 _ (ReflectliteType.method ReflectliteType.elem) Tryz.func320 (by kernel_rfl) (by kernel_rfl) (by kernel_rfl) (by kernel_rfl)
  have hI := @run_callFunc_extern Tryz.prog 321 _ (ReflectliteType.relation "Implements" ReflectliteType.implements_) Tryz.func321 (by kernel_rfl) (by kernel_rfl) (by kernel_rfl) (by kernel_rfl)
  have v2 := rl_valueOfP
  have ty := rl_typeP
  have mK := rl_mKind
  have mE := rl_mElem
  have mI := rl_mImpl
  have k1 := rl_kindP
  have k2 := rl_kindM
  have e1 := rl_elemP
  have i1 := rl_implM
  have ne := h.eql
  have ng := h.geql
  have n1 := rl_isNilP ⟨w.heap.size, 0, none⟩ ⟨tb, 0, none⟩ ((w.alloc (.cells #[.pointer (some ⟨tb, 0, none⟩)] 255)).alloc (.cells #[hdl 255, .pointer (some ⟨w.heap.size, 0, none⟩), .int .u64 150] 294)) (by simp)
  have hg2 : ((w.alloc (.cells #[.pointer (some ⟨tb, 0, none⟩)] 255)).alloc (.cells #[hdl 255, .pointer (some ⟨w.heap.size, 0, none⟩), .int .u64 150] 294)).cell? ⟨2, 0, none⟩ = some (.iface 320 (.agg #[.pointer (some ⟨7, 200, none⟩)])) :=
    ((hg.on (bal (Below.refl _ _) _)).on (bal (Below.refl _ _) _)).cell
  have htl : tb < w.heap.size := cell_lt t0
  have hb : Below w.heap.size w ((w.alloc (.cells #[.pointer (some ⟨tb, 0, none⟩)] 255)).alloc (.cells #[hdl 255, .pointer (some ⟨w.heap.size, 0, none⟩), .int .u64 150] 294)) := bal (bal (Below.refl _ _) _) _
  have A := as_any h tb w.heap.size o0 o1 (.iface 255 (.pointer (some ⟨tb, 0, none⟩))) _ (show ((w.alloc (.cells #[.pointer (some ⟨tb, 0, none⟩)] 255)).alloc (.cells #[hdl 255, .pointer (some ⟨w.heap.size, 0, none⟩), .int .u64 150] 294)).cell? ⟨w.heap.size, 0, none⟩ = some (.pointer (some ⟨tb, 0, none⟩)) by simp) (cell_keep hb t0) (cell_keep hb t1) ((hb.frozen (p := ⟨tb, 0, none⟩) htl).trans f0) ((hb.frozen (p := ⟨tb, 1, none⟩) htl).trans f1)
  have HB := Lib.hid (hb.mono (Nat.le_of_lt htl))
  clear hb t0 t1 f0 f1 hg htl h
  go_enter Tryz.func203, Tryz.ntmps203
  go_wp2_with fail
  refine A.mono ?_
  rintro r w2 ⟨rfl, q0, b2⟩
  have F := Lib.hid (And.intro q0 (Below.trans HB.out b2))
  clear q0 b2 HB
  go_wp2
  go_ret
  exact ⟨rfl, F.out.1, F.out.2⟩
theorem codeOf_err {c : Int} {e : Value} (h : ErrC c e) (w : World) (hg : ErrT w) :
    Calls Tryz.prog 145 #[e] w fun r w' => r = .returned (.int .i64 c) ∧ Below w.heap.size w w' := by
  have hg1 := fun o => hg.on (bal (Below.refl _ w) o)
  clear hg
  go_enter Tryz.func145, Tryz.ntmps145
  go_wp2_with fail
  refine (As_err h w.heap.size (.int .i64 0) (.string { data := #[] }) _ (hg1 _) (by go_simp) (by go_simp) (by go_simp) (by go_simp)).mono ?_
  rintro r w1 ⟨rfl, q0, hb⟩
  have hb2 := Below.trans (bal (Below.refl _ w) _) hb
  clear hb hg1
  go_wp2_with fail
  go_ret
  exact ⟨rfl, hb2⟩
end Go.Proofs.YtcolecidbalmhaaGreatDoor
