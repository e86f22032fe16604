/- Texts of this seat that several laws rest on, laid into one. Conditions: as each theorem states. -/
import Derived.Test.YtlodhleihnlchaaGreatDoorH9
import Derived.Test.YtlodhleihnlchaaGreatDoorH10
import Derived.Test.YtlodhleihnlchaaGreatDoorH11
namespace Go.Proofs.YtlodhleihnlchaaGreatDoor
open Go.ChangeShapes Go.WideShapes Go.ChangeAt Go.RowKit

def listP : List (String × DataW Unit) := [("unicode/utf8.acceptRanges", Rows.laid_unicode_utf8_acceptRanges), ("errors.errorType", Rows.laid_errors_errorType), ("loop.example/g00618/impl.labels", Rows.laid_loop_example_g00618_impl_labels), ("unicode.CaseRanges", Rows.laid_unicode_CaseRanges), ("unicode/utf8.first", Rows.laid_unicode_utf8_first)]
noncomputable def heldW (os : Os) : World :=
  { World.holding Tryz.prog os ⟨#[], #[], []⟩ with heap := (World.holding Tryz.prog os ⟨#[], #[], []⟩).heap.modify 3 (fun | .cells _ t frozen => .cells #[.iface 384 (.agg #[.pointer (some ⟨8, 160, none⟩)])] t frozen | o => o) }
theorem laidMet_on {P : Program} {w0 : World} {laid : List (String × DataW Unit)} (args : Array Value) (hf : w0.layFits P laid [] = true) (hi : w0.layIfaces P laid (w0.layVars P laid) = true) :
    laidMet P laid ((w0.layVars P laid).forCall (fun _ _ => 0) ⟨#[], args, []⟩).memory := by
  have e1 : (laid.filter fun x => (laid.map (·.1)).contains x.1) = laid := List.filter_eq_self.2 fun x hx => List.contains_iff_mem.2 (List.mem_map.2 ⟨x, hx, rfl⟩)
  have e2 : (laid.filter fun x => !(laid.map (·.1)).contains x.1) = [] := List.filter_eq_nil_iff.2 fun x hx => by rw [List.contains_iff_mem.2 (List.mem_map.2 ⟨x, hx, rfl⟩)]; simp
  have h : laidMet P laid (w0.layVars P laid) := laidMet_layVars (w0 := w0) (laid.map (·.1)) [] (by rw [e1]) (by rw [e1]; exact hf) (by rw [e1]; exact hi) (by rw [e2]; exact LaidIn.none)
  exact h.of_heap (by simp [World.memory, World.forCall, Input.heap])
theorem listP_handle : (listP.filter fun x => x.2.handleName?.isSome) = [("errors.errorType", Rows.laid_errors_errorType)] := by kernel_rfl
theorem listP_plain : (listP.filter fun x => x.2.handleName?.isNone) = listL := by kernel_rfl
theorem all_P {W : World} (h : laidMetH Tryz.prog listP W) : laidMet Tryz.prog listL W ∧ handlesMet Tryz.prog [("errors.errorType", Rows.laid_errors_errorType)] W := by
  unfold laidMetH at h
  rw [listP_handle, listP_plain] at h
  exact h
theorem ErrT_P {W : World} (h : laidMetH Tryz.prog listP W) : ErrT W := ErrT_of (all_P h).2
noncomputable def laidP (os : Os) : World := (heldW os).layVars Tryz.prog listL
theorem laidP_os (os : Os) : (laidP os).os = os := World.layVars_os _ _ _
theorem shapedP (os : Os) (args : Array Value) : ((laidP os).forCall (fun _ _ => 0) ⟨#[], args, []⟩).Shaped Tryz.prog := World.shaped_of_ZipB (by kernel_rfl) (by kernel_rfl)
theorem metP (os : Os) (args : Array Value) : laidMetH Tryz.prog listP ((laidP os).forCall (fun _ _ => 0) ⟨#[], args, []⟩).memory :=
  laidMetH_of_parts (by rw [listP_plain]; exact laidMet_on args (by kernel_rfl) (by kernel_rfl)) (by rw [listP_handle]; kernel_rfl)

noncomputable def laidE (os : Os) : World := (heldW os).layVars Tryz.prog listN
theorem Labels_P {W : World} (h : laidMetH Tryz.prog listP W) : Labels W := by
  obtain ⟨ps, hv, _⟩ := (all_P h).1
  obtain ⟨g, t, cs, fuel, p, hg, ht, hvar, hd⟩ := laid_mem _ _ hv "loop.example/g00618/impl.labels" Rows.laid_loop_example_g00618_impl_labels (List.mem_cons_of_mem _ (List.mem_cons_self ..))
  obtain rfl := Option.some.inj (gLabels.symm.trans hg)
  obtain rfl := Option.some.inj (gLabelsType.symm.trans ht)
  have e := cells_of_words (ss := [[115, 116, 114, 101, 97, 109], [104, 101, 97, 114, 100], [110, 111, 110, 99, 101], [115, 105, 103, 110], [109, 97, 99], [115, 101, 97, 108], [115, 112, 107, 105], [114, 111, 108, 108], [109, 97, 115, 116, 101, 114], [118, 101, 114, 105, 102, 121], [102, 105, 110, 105, 115, 104], [117, 112], [100, 111, 119, 110]]) Tryz.underlying178 Tryz.underlying9 cWord cLabels hd
  have c := fun i => World.var?_cell hg hvar i
  have a0 : cs[0]? = some (.string M.streamS) := by rw [← Array.getElem?_toList, e]; rfl
  have a1 : cs[1]? = some (.string M.heardS) := by rw [← Array.getElem?_toList, e]; rfl
  have a2 : cs[2]? = some (.string M.nonceS) := by rw [← Array.getElem?_toList, e]; rfl
  have a3 : cs[3]? = some (.string M.signS) := by rw [← Array.getElem?_toList, e]; rfl
  have a4 : cs[4]? = some (.string M.macS) := by rw [← Array.getElem?_toList, e]; rfl
  have a5 : cs[5]? = some (.string M.sealS) := by rw [← Array.getElem?_toList, e]; rfl
  have a6 : cs[6]? = some (.string M.spkiS) := by rw [← Array.getElem?_toList, e]; rfl
  have a7 : cs[7]? = some (.string M.rollS) := by rw [← Array.getElem?_toList, e]; rfl
  have a8 : cs[8]? = some (.string M.masterS) := by rw [← Array.getElem?_toList, e]; rfl
  have a9 : cs[9]? = some (.string M.verifyS) := by rw [← Array.getElem?_toList, e]; rfl
  have a10 : cs[10]? = some (.string M.finishS) := by rw [← Array.getElem?_toList, e]; rfl
  have a11 : cs[11]? = some (.string M.upS) := by rw [← Array.getElem?_toList, e]; rfl
  have a12 : cs[12]? = some (.string M.downS) := by rw [← Array.getElem?_toList, e]; rfl
  exact ⟨(c 0).trans a0, (c 1).trans a1, (c 2).trans a2, (c 3).trans a3, (c 4).trans a4, (c 5).trans a5, (c 6).trans a6, (c 7).trans a7, (c 8).trans a8, (c 9).trans a9, (c 10).trans a10, (c 11).trans a11, (c 12).trans a12⟩
end Go.Proofs.YtlodhleihnlchaaGreatDoor
namespace Go.Proofs.YtlodhleihnlchaaGreatDoor
open Go.RowKit
set_option maxRecDepth 100000
set_option linter.unusedVariables false

theorem tk11 (c r s p x y f u d h k : Int) (w : World) : Sem.run Tryz.prog (Instr.field 112 (.agg #[.int .i64 c, .int .i64 r, .int .i64 s, .int .i64 p, .int .i64 x, .int .i64 y, .int .i64 f, .int .i64 u, .int .i64 d, .int .i64 h, .int .i64 k]) 1) w = .ok (R6 r s p x y f) w := by kernel_rfl
structure Two11 (w0 : World) (a : Option Addr) (len cap : Nat) (zs : List Int) (p : Nat) (cb : Nat) (cs : List Value) (rb : Nat) (rs : List Value) (cur : World) : Prop where
  draw : Draw w0 a len cap zs p cur
  c : At cb cs cur
  r : At rb rs cur
section
variable {w0 : World} {a : Option Addr} {len cap : Nat} {zs : List Int} {p p' : Nat} {cb rb : Nat} {cs rs : List Value} {cur cur' : World}
theorem Two11.only (h : Two11 w0 a len cap zs p cb cs rb rs cur) (hO : Only w0.heap.size cur cur') (D : Draw w0 a len cap zs p' cur') (h1 : cb ≠ w0.heap.size) (h2 : rb ≠ w0.heap.size) : Two11 w0 a len cap zs p' cb cs rb rs cur' :=
  ⟨D, h.c.only5 hO h1, h.r.only5 hO h2⟩
theorem Two11.kept (h : Two11 w0 a len cap zs p cb cs rb rs cur) (hO : cur.grownBy cur' (some w0.heap.size)) (D : Draw w0 a len cap zs p' cur') (h1 : cb ≠ w0.heap.size) (h2 : rb ≠ w0.heap.size) : Two11 w0 a len cap zs p' cb cs rb rs cur' :=
  ⟨D, h.c.kept hO (fun e => by injection e with e; exact h1 e), h.r.kept hO (fun e => by injection e with e; exact h2 e)⟩
theorem Two11.putR (i : Nat) (x : Value) (h : Two11 w0 a len cap zs p cb cs rb rs cur) (h1 : cb ≠ rb) (h2 : w0.heap.size < rb) : Two11 w0 a len cap zs p cb cs rb (rs.set i x) (cur.setCell ⟨rb, i, none⟩ x) :=
  ⟨h.draw.put h2 x, h.c.setB (p := ⟨rb, i, none⟩) h1 x, h.r.set i x⟩
theorem Two11.putC (i : Nat) (x : Value) (h : Two11 w0 a len cap zs p cb cs rb rs cur) (h1 : rb ≠ cb) (h2 : w0.heap.size < cb) : Two11 w0 a len cap zs p cb (cs.set i x) rb rs (cur.setCell ⟨cb, i, none⟩ x) :=
  ⟨h.draw.put h2 x, h.c.set i x, h.r.setB (p := ⟨cb, i, none⟩) h1 x⟩
end
def DrawnTR (w : World) (e : Ending) (w' : World) : Prop := ∃ (k r0 s0 : Int) (n : ByteArray) (r s p x y f : Int), e = .returned (.tuple #[H4 k r0 s0 n, R6 r s p x y f]) ∧ n.size ≤ 21 ∧ Below w.heap.size w w'
set_option maxHeartbeats 2000000 in
theorem DrawTakeReply_any {a : Option Addr} {len cap : Nat} {zs : List Int} {w : World} (hR : Row .u8 w w.heap.size a len cap zs) :
    Calls Tryz.prog 70 #[.slice a len cap] w (DrawnTR w) := by
  have g1 := tk11
  have b0 := bal (bal (Below.refl _ w) (.cells #[.int .i64 0, .int .i64 0, .int .i64 0, .string { data := #[] }] 103)) (.cells #[.int .i64 0, .int .i64 0, .int .i64 0, .int .i64 0, .int .i64 0, .int .i64 0] 33)
  have A0 := (At.new w (HL4 0 0 0 { data := #[] }) 103).alloc (.cells #[.int .i64 0, .int .i64 0, .int .i64 0, .int .i64 0, .int .i64 0, .int .i64 0] 33)
  have C0 := At.new (w.alloc (.cells #[.int .i64 0, .int .i64 0, .int .i64 0, .string { data := #[] }] 103)) (RL6 0 0 0 0 0 0) 33
  simp only [World.size_alloc] at A0 C0
  have R0 := hR.on b0
  clear hR
  go_enter Tryz.func70, Tryz.ntmps70
  go_wp2_with fail
  generalize (w.alloc (.cells #[.int .i64 0, .int .i64 0, .int .i64 0, .string { data := #[] }] 103)).alloc (.cells #[.int .i64 0, .int .i64 0, .int .i64 0, .int .i64 0, .int .i64 0, .int .i64 0] 33) = W0 at *
  have ltW : w.heap.size + 1 < W0.heap.size := C0.lt (by simp)
  refine (dsource R0).mono ?_
  rintro e w1 ⟨rfl, D⟩
  go_wp2_with fail
  refine (dl11Draw D (by omega)).mono ?_
  rintro e w2 ⟨k, r0, s0, n, p, hf, hp, rfl, D2, g2⟩
  have lt2 := D2.lt
  have hn := cli_size hf
  have hn' : n.size ≤ 21 := by omega
  have X2 : At w2.heap.size (HL4 k r0 s0 n) (w2.alloc (.cells #[.int .i64 k, .int .i64 r0, .int .i64 s0, .string n] 103)) := At.new w2 (HL4 k r0 s0 n) 103
  have D2a := D2.alloc (.cells #[.int .i64 k, .int .i64 r0, .int .i64 s0, .string n] 103)
  clear D g2 D2 R0
  go_wp2_with fail
  generalize w2.alloc (.cells #[.int .i64 k, .int .i64 r0, .int .i64 s0, .string n] 103) = W2 at *
  refine (dnext 4 D2a (by omega)).mono ?_
  rintro e w3 ⟨v, v0, v1, rfl, D3, O3⟩
  have v2 : v < 4 := by omega
  have X3 := X2.only5 O3 (by omega)
  clear D2a O3 X2 v1
  go_wp2_with fail
  refine (dsecret6 D3 (by omega)).mono ?_
  rintro e w4 ⟨sec, k0, k1, rfl, D4, O4⟩
  have X4 := X3.only5 O4 (by omega)
  clear D3 O4 X3
  go_wp2_with fail
  refine (dnext 65521 D4 (by omega)).mono ?_
  rintro e w5 ⟨z, z0, z1, rfl, D5, O5⟩
  have X5 := X4.only5 O5 (by omega)
  have hv : inB (1 + v) 1 1438 = true := by simp only [inB, decide_eq_true_eq]; omega
  have hk : inB sec 1 1438 = true := by simp only [inB, decide_eq_true_eq]; omega
  have hz : M.sumB z = true := by simp only [M.sumB, decide_eq_true_eq]; omega
  have AN := l11Answer1_any w2.heap.size k (1 + v) sec z n r0 s0 w5 X5 hv hk hz (cliF_zero hf).2.1
  generalize ansD (1 + v) sec z n r0 s0 = t at *
  obtain ⟨tc, tr, ts, tp, tx, ty, tf, tu, td, th, tk⟩ := t
  clear D4 O5 X4 hv hk hz hf hn z0 z1 k0 k1
  go_wp2_with fail
  refine AN.mono ?_
  rintro e w6 ⟨rfl, b6⟩
  have D6 := D5.below b6
  have X6 := X5.on b6
  have lt6 : w2.heap.size < w6.heap.size := X6.lt (by simp)
  have T7 : Two11 W0 a len cap zs (p + 1 + 1 + 1) w2.heap.size (HL4 k r0 s0 n) w6.heap.size (RL6 tr ts tp tx ty tf) (w6.alloc (.cells #[.int .i64 tr, .int .i64 ts, .int .i64 tp, .int .i64 tx, .int .i64 ty, .int .i64 tf] 33)) :=
    ⟨D6.alloc _, X6.alloc _, At.new w6 (RL6 tr ts tp tx ty tf) 33⟩
  clear AN D5 D6 X5 X6 b6 v0 v2
  go_wp2_with fail
  generalize w6.alloc (.cells #[.int .i64 tr, .int .i64 ts, .int .i64 tp, .int .i64 tx, .int .i64 ty, .int .i64 tf] 33) = W7 at *
  refine (dnext 10 T7.draw (by omega)).mono ?_
  rintro e w8 ⟨sw, t0, t1, rfl, D8, O8⟩
  have T8 := T7.only O8 D8 (by omega) (by omega)
  clear T7 D8 O8 t1
  by_cases e0 : sw = 0
  · subst e0
    go_wp2_with fail
    refine (dnext 65521 T8.draw (by omega)).mono ?_
    rintro e w9 ⟨u, u0, u1, rfl, D9, O9⟩
    have T9 := T8.only O9 D9 (by omega) (by omega)
    have kk0 := T9.r.cell 0 _ rfl
    have kk1 := T9.r.cell 1 _ rfl
    have kk2 := T9.r.cell 2 _ rfl
    have kk3 := T9.r.cell 3 _ rfl
    have kk4 := T9.r.cell 4 _ rfl
    have kk5 := T9.r.cell 5 _ rfl
    have ff0 := T9.r.free 0 _ rfl
    have ff1 := T9.r.free 1 _ rfl
    have ff2 := T9.r.free 2 _ rfl
    have ff3 := T9.r.free 3 _ rfl
    have ff4 := T9.r.free 4 _ rfl
    have ff5 := T9.r.free 5 _ rfl
    have T10 := T9.putR 0 (.int .i64 u) (by omega) (by omega)
    clear T8 T9 D9 O9 u0 u1
    go_wp2_with fail
    generalize w9.setCell ⟨w6.heap.size, 0, none⟩ (.int .i64 u) = W10 at *
    clear kk0 kk1 kk2 kk3 kk4 kk5 ff0 ff1 ff2 ff3 ff4 ff5
    have TT := T10
    have b9 := TT.draw.bel
    have S0 : Hold2 w w2.heap.size [.int .i64 k, .int .i64 r0, .int .i64 s0, .string n] w6.heap.size [.int .i64 u, .int .i64 ts, .int .i64 tp, .int .i64 tx, .int .i64 ty, .int .i64 tf] W10.drew := ⟨(btr b0 b9).drew, TT.c.on (bdrew _), TT.r.on (bdrew _)⟩
    have A9 := (A0.on b9).on (bdrew W10)
    have C9 := (C0.on b9).on (bdrew W10)
    refine wp_region_line (Hold2 w w2.heap.size [.int .i64 k, .int .i64 r0, .int .i64 s0, .string n] w6.heap.size [.int .i64 u, .int .i64 ts, .int .i64 tp, .int .i64 tx, .int .i64 ty, .int .i64 tf]) [(0, true), (1, true), (2, false), (3, false)] (by kernel_rfl) (by kernel_rfl) (fun _ _ d _ _ h => by cases d <;> exact h) S0 ?_
    have hst := S0
    have inst : Nonempty (Of (Hold2 w w2.heap.size [.int .i64 k, .int .i64 r0, .int .i64 s0, .string n] w6.heap.size [.int .i64 u, .int .i64 ts, .int .i64 tp, .int .i64 tx, .int .i64 ty, .int .i64 tf])) := ⟨⟨_, hst⟩⟩
    have hc0 := hold2_one (W := w) (g := w2.heap.size) (h := w6.heap.size) (cs := [.int .i64 k, .int .i64 r0, .int .i64 s0, .string n]) (ds := [.int .i64 u, .int .i64 ts, .int .i64 tp, .int .i64 tx, .int .i64 ty, .int .i64 tf]) 0 _ rfl
    have hc1 := hold2_one (W := w) (g := w2.heap.size) (h := w6.heap.size) (cs := [.int .i64 k, .int .i64 r0, .int .i64 s0, .string n]) (ds := [.int .i64 u, .int .i64 ts, .int .i64 tp, .int .i64 tx, .int .i64 ty, .int .i64 tf]) 1 _ rfl
    have hc2 := hold2_one (W := w) (g := w2.heap.size) (h := w6.heap.size) (cs := [.int .i64 k, .int .i64 r0, .int .i64 s0, .string n]) (ds := [.int .i64 u, .int .i64 ts, .int .i64 tp, .int .i64 tx, .int .i64 ty, .int .i64 tf]) 2 _ rfl
    have hc3 := hold2_one (W := w) (g := w2.heap.size) (h := w6.heap.size) (cs := [.int .i64 k, .int .i64 r0, .int .i64 s0, .string n]) (ds := [.int .i64 u, .int .i64 ts, .int .i64 tp, .int .i64 tx, .int .i64 ty, .int .i64 tf]) 3 _ rfl
    have hr0 := hold2_two (W := w) (g := w2.heap.size) (h := w6.heap.size) (cs := [.int .i64 k, .int .i64 r0, .int .i64 s0, .string n]) (ds := [.int .i64 u, .int .i64 ts, .int .i64 tp, .int .i64 tx, .int .i64 ty, .int .i64 tf]) 0 _ rfl
    have hr1 := hold2_two (W := w) (g := w2.heap.size) (h := w6.heap.size) (cs := [.int .i64 k, .int .i64 r0, .int .i64 s0, .string n]) (ds := [.int .i64 u, .int .i64 ts, .int .i64 tp, .int .i64 tx, .int .i64 ty, .int .i64 tf]) 1 _ rfl
    have hr2 := hold2_two (W := w) (g := w2.heap.size) (h := w6.heap.size) (cs := [.int .i64 k, .int .i64 r0, .int .i64 s0, .string n]) (ds := [.int .i64 u, .int .i64 ts, .int .i64 tp, .int .i64 tx, .int .i64 ty, .int .i64 tf]) 2 _ rfl
    have hr3 := hold2_two (W := w) (g := w2.heap.size) (h := w6.heap.size) (cs := [.int .i64 k, .int .i64 r0, .int .i64 s0, .string n]) (ds := [.int .i64 u, .int .i64 ts, .int .i64 tp, .int .i64 tx, .int .i64 ty, .int .i64 tf]) 3 _ rfl
    have hr4 := hold2_two (W := w) (g := w2.heap.size) (h := w6.heap.size) (cs := [.int .i64 k, .int .i64 r0, .int .i64 s0, .string n]) (ds := [.int .i64 u, .int .i64 ts, .int .i64 tp, .int .i64 tx, .int .i64 ty, .int .i64 tf]) 4 _ rfl
    have hr5 := hold2_two (W := w) (g := w2.heap.size) (h := w6.heap.size) (cs := [.int .i64 k, .int .i64 r0, .int .i64 s0, .string n]) (ds := [.int .i64 u, .int .i64 ts, .int .i64 tp, .int .i64 tx, .int .i64 ty, .int .i64 tf]) 5 _ rfl
    clear S0 TT b9 A0 C0 b0
    generalize W10.drew = V1 at *
    iterate 2 (refine line_read rfl (by kernel_rfl) (fun K hK => ?_); go_big_quiet_op; refine hK _ ?_; clear hK K)
    clear hc0 hc1 hc2 hc3 hr0 hr1 hr2 hr3 hr4 hr5
    have S4 : Hold2 w w2.heap.size [.int .i64 k, .int .i64 r0, .int .i64 s0, .string n] w6.heap.size [.int .i64 u, .int .i64 ts, .int .i64 tp, .int .i64 tx, .int .i64 ty, .int .i64 tf] ((((V1.setCell ⟨w.heap.size, 0, none⟩ (.int .i64 k)).setCell ⟨w.heap.size, 1, none⟩ (.int .i64 r0)).setCell ⟨w.heap.size, 2, none⟩ (.int .i64 s0)).setCell ⟨w.heap.size, 3, none⟩ (.string n)) := by
      iterate 4 (refine Hold2.setB ?_ (by dsimp only; omega) (by dsimp only; omega) (by dsimp only; omega) _)
      exact hst
    have A4 : At w.heap.size [.int .i64 k, .int .i64 r0, .int .i64 s0, .string n] ((((V1.setCell ⟨w.heap.size, 0, none⟩ (.int .i64 k)).setCell ⟨w.heap.size, 1, none⟩ (.int .i64 r0)).setCell ⟨w.heap.size, 2, none⟩ (.int .i64 s0)).setCell ⟨w.heap.size, 3, none⟩ (.string n)) := (((A9.set 0 (.int .i64 k)).set 1 (.int .i64 r0)).set 2 (.int .i64 s0)).set 3 (.string n)
    have C4 : At (w.heap.size + 1) [.int .i64 0, .int .i64 0, .int .i64 0, .int .i64 0, .int .i64 0, .int .i64 0] ((((V1.setCell ⟨w.heap.size, 0, none⟩ (.int .i64 k)).setCell ⟨w.heap.size, 1, none⟩ (.int .i64 r0)).setCell ⟨w.heap.size, 2, none⟩ (.int .i64 s0)).setCell ⟨w.heap.size, 3, none⟩ (.string n)) := by
      iterate 4 (refine At.setB ?_ (by dsimp only; omega) _)
      exact C9
    have q0 := A9.cell 0 _ rfl
    have q1 := A9.cell 1 _ rfl
    have q2 := A9.cell 2 _ rfl
    have q3 := A9.cell 3 _ rfl
    have z0 := A9.free 0 _ rfl
    have z1 := A9.free 1 _ rfl
    have z2 := A9.free 2 _ rfl
    have z3 := A9.free 3 _ rfl
    refine line_alone rfl (by kernel_rfl) (fun K hK => ?_)
    go_big_op
    refine hK _ _ (S4) ?_
    clear hK K
    clear q0 q1 q2 q3 z0 z1 z2 z3 hst
    generalize ((((V1.setCell ⟨w.heap.size, 0, none⟩ (.int .i64 k)).setCell ⟨w.heap.size, 1, none⟩ (.int .i64 r0)).setCell ⟨w.heap.size, 2, none⟩ (.int .i64 s0)).setCell ⟨w.heap.size, 3, none⟩ (.string n)) = V4 at *
    have hst := S4
    have S10 : Hold2 w w2.heap.size [.int .i64 k, .int .i64 r0, .int .i64 s0, .string n] w6.heap.size [.int .i64 u, .int .i64 ts, .int .i64 tp, .int .i64 tx, .int .i64 ty, .int .i64 tf] ((((((V4.setCell ⟨(w.heap.size + 1), 0, none⟩ (.int .i64 u)).setCell ⟨(w.heap.size + 1), 1, none⟩ (.int .i64 ts)).setCell ⟨(w.heap.size + 1), 2, none⟩ (.int .i64 tp)).setCell ⟨(w.heap.size + 1), 3, none⟩ (.int .i64 tx)).setCell ⟨(w.heap.size + 1), 4, none⟩ (.int .i64 ty)).setCell ⟨(w.heap.size + 1), 5, none⟩ (.int .i64 tf)) := by
      iterate 6 (refine Hold2.setB ?_ (by dsimp only; omega) (by dsimp only; omega) (by dsimp only; omega) _)
      exact S4
    have q0 := C4.cell 0 _ rfl
    have q1 := C4.cell 1 _ rfl
    have q2 := C4.cell 2 _ rfl
    have q3 := C4.cell 3 _ rfl
    have q4 := C4.cell 4 _ rfl
    have q5 := C4.cell 5 _ rfl
    have z0 := C4.free 0 _ rfl
    have z1 := C4.free 1 _ rfl
    have z2 := C4.free 2 _ rfl
    have z3 := C4.free 3 _ rfl
    have z4 := C4.free 4 _ rfl
    have z5 := C4.free 5 _ rfl
    have HB := Lib.hid S10.bel
    refine line_alone rfl (by kernel_rfl) (fun K hK => ?_)
    go_big_op
    refine hK _ _ (S10) ?_
    clear hK K
    refine line_nil ?_
    have v0 := A4.cell 0 _ rfl
    have v1 := A4.cell 1 _ rfl
    have v2 := A4.cell 2 _ rfl
    have v3 := A4.cell 3 _ rfl
    clear inst hst S4 S10 A9 C9 A4 C4
    go_wp2_with fail
    refine bodyPost_ret (v := .tuple #[.agg #[.int .i64 k, .int .i64 r0, .int .i64 s0, .string n], .agg #[.int .i64 u, .int .i64 ts, .int .i64 tp, .int .i64 tx, .int .i64 ty, .int .i64 tf]]) (by simp [results, Tryz.results70, go_sem, v0, v1, v2, v3, q0, q1, q2, q3, q4, q5]) rfl ?_
    exact ⟨_, _, _, _, _, _, _, _, _, _, rfl, hn', HB.out⟩
  by_cases e1 : sw = 1
  · subst e1
    go_wp2_with fail
    refine (dl7Public T8.draw (by omega)).mono ?_
    rintro e w9 ⟨u, hu, rfl, D9, O9⟩
    have T9 := T8.kept O9 D9 (by omega) (by omega)
    have kk0 := T9.r.cell 0 _ rfl
    have kk1 := T9.r.cell 1 _ rfl
    have kk2 := T9.r.cell 2 _ rfl
    have kk3 := T9.r.cell 3 _ rfl
    have kk4 := T9.r.cell 4 _ rfl
    have kk5 := T9.r.cell 5 _ rfl
    have ff0 := T9.r.free 0 _ rfl
    have ff1 := T9.r.free 1 _ rfl
    have ff2 := T9.r.free 2 _ rfl
    have ff3 := T9.r.free 3 _ rfl
    have ff4 := T9.r.free 4 _ rfl
    have ff5 := T9.r.free 5 _ rfl
    have T10 := T9.putR 2 (.int .i64 u) (by omega) (by omega)
    clear T8 T9 D9 O9 hu
    go_wp2_with fail
    generalize w9.setCell ⟨w6.heap.size, 2, none⟩ (.int .i64 u) = W10 at *
    clear kk0 kk1 kk2 kk3 kk4 kk5 ff0 ff1 ff2 ff3 ff4 ff5
    have TT := T10
    have b9 := TT.draw.bel
    have S0 : Hold2 w w2.heap.size [.int .i64 k, .int .i64 r0, .int .i64 s0, .string n] w6.heap.size [.int .i64 tr, .int .i64 ts, .int .i64 u, .int .i64 tx, .int .i64 ty, .int .i64 tf] W10.drew := ⟨(btr b0 b9).drew, TT.c.on (bdrew _), TT.r.on (bdrew _)⟩
    have A9 := (A0.on b9).on (bdrew W10)
    have C9 := (C0.on b9).on (bdrew W10)
    refine wp_region_line (Hold2 w w2.heap.size [.int .i64 k, .int .i64 r0, .int .i64 s0, .string n] w6.heap.size [.int .i64 tr, .int .i64 ts, .int .i64 u, .int .i64 tx, .int .i64 ty, .int .i64 tf]) [(0, true), (1, true), (2, false), (3, false)] (by kernel_rfl) (by kernel_rfl) (fun _ _ d _ _ h => by cases d <;> exact h) S0 ?_
    have hst := S0
    have inst : Nonempty (Of (Hold2 w w2.heap.size [.int .i64 k, .int .i64 r0, .int .i64 s0, .string n] w6.heap.size [.int .i64 tr, .int .i64 ts, .int .i64 u, .int .i64 tx, .int .i64 ty, .int .i64 tf])) := ⟨⟨_, hst⟩⟩
    have hc0 := hold2_one (W := w) (g := w2.heap.size) (h := w6.heap.size) (cs := [.int .i64 k, .int .i64 r0, .int .i64 s0, .string n]) (ds := [.int .i64 tr, .int .i64 ts, .int .i64 u, .int .i64 tx, .int .i64 ty, .int .i64 tf]) 0 _ rfl
    have hc1 := hold2_one (W := w) (g := w2.heap.size) (h := w6.heap.size) (cs := [.int .i64 k, .int .i64 r0, .int .i64 s0, .string n]) (ds := [.int .i64 tr, .int .i64 ts, .int .i64 u, .int .i64 tx, .int .i64 ty, .int .i64 tf]) 1 _ rfl
    have hc2 := hold2_one (W := w) (g := w2.heap.size) (h := w6.heap.size) (cs := [.int .i64 k, .int .i64 r0, .int .i64 s0, .string n]) (ds := [.int .i64 tr, .int .i64 ts, .int .i64 u, .int .i64 tx, .int .i64 ty, .int .i64 tf]) 2 _ rfl
    have hc3 := hold2_one (W := w) (g := w2.heap.size) (h := w6.heap.size) (cs := [.int .i64 k, .int .i64 r0, .int .i64 s0, .string n]) (ds := [.int .i64 tr, .int .i64 ts, .int .i64 u, .int .i64 tx, .int .i64 ty, .int .i64 tf]) 3 _ rfl
    have hr0 := hold2_two (W := w) (g := w2.heap.size) (h := w6.heap.size) (cs := [.int .i64 k, .int .i64 r0, .int .i64 s0, .string n]) (ds := [.int .i64 tr, .int .i64 ts, .int .i64 u, .int .i64 tx, .int .i64 ty, .int .i64 tf]) 0 _ rfl
    have hr1 := hold2_two (W := w) (g := w2.heap.size) (h := w6.heap.size) (cs := [.int .i64 k, .int .i64 r0, .int .i64 s0, .string n]) (ds := [.int .i64 tr, .int .i64 ts, .int .i64 u, .int .i64 tx, .int .i64 ty, .int .i64 tf]) 1 _ rfl
    have hr2 := hold2_two (W := w) (g := w2.heap.size) (h := w6.heap.size) (cs := [.int .i64 k, .int .i64 r0, .int .i64 s0, .string n]) (ds := [.int .i64 tr, .int .i64 ts, .int .i64 u, .int .i64 tx, .int .i64 ty, .int .i64 tf]) 2 _ rfl
    have hr3 := hold2_two (W := w) (g := w2.heap.size) (h := w6.heap.size) (cs := [.int .i64 k, .int .i64 r0, .int .i64 s0, .string n]) (ds := [.int .i64 tr, .int .i64 ts, .int .i64 u, .int .i64 tx, .int .i64 ty, .int .i64 tf]) 3 _ rfl
    have hr4 := hold2_two (W := w) (g := w2.heap.size) (h := w6.heap.size) (cs := [.int .i64 k, .int .i64 r0, .int .i64 s0, .string n]) (ds := [.int .i64 tr, .int .i64 ts, .int .i64 u, .int .i64 tx, .int .i64 ty, .int .i64 tf]) 4 _ rfl
    have hr5 := hold2_two (W := w) (g := w2.heap.size) (h := w6.heap.size) (cs := [.int .i64 k, .int .i64 r0, .int .i64 s0, .string n]) (ds := [.int .i64 tr, .int .i64 ts, .int .i64 u, .int .i64 tx, .int .i64 ty, .int .i64 tf]) 5 _ rfl
    clear S0 TT b9 A0 C0 b0
    generalize W10.drew = V1 at *
    iterate 2 (refine line_read rfl (by kernel_rfl) (fun K hK => ?_); go_big_quiet_op; refine hK _ ?_; clear hK K)
    clear hc0 hc1 hc2 hc3 hr0 hr1 hr2 hr3 hr4 hr5
    have S4 : Hold2 w w2.heap.size [.int .i64 k, .int .i64 r0, .int .i64 s0, .string n] w6.heap.size [.int .i64 tr, .int .i64 ts, .int .i64 u, .int .i64 tx, .int .i64 ty, .int .i64 tf] ((((V1.setCell ⟨w.heap.size, 0, none⟩ (.int .i64 k)).setCell ⟨w.heap.size, 1, none⟩ (.int .i64 r0)).setCell ⟨w.heap.size, 2, none⟩ (.int .i64 s0)).setCell ⟨w.heap.size, 3, none⟩ (.string n)) := by
      iterate 4 (refine Hold2.setB ?_ (by dsimp only; omega) (by dsimp only; omega) (by dsimp only; omega) _)
      exact hst
    have A4 : At w.heap.size [.int .i64 k, .int .i64 r0, .int .i64 s0, .string n] ((((V1.setCell ⟨w.heap.size, 0, none⟩ (.int .i64 k)).setCell ⟨w.heap.size, 1, none⟩ (.int .i64 r0)).setCell ⟨w.heap.size, 2, none⟩ (.int .i64 s0)).setCell ⟨w.heap.size, 3, none⟩ (.string n)) := (((A9.set 0 (.int .i64 k)).set 1 (.int .i64 r0)).set 2 (.int .i64 s0)).set 3 (.string n)
    have C4 : At (w.heap.size + 1) [.int .i64 0, .int .i64 0, .int .i64 0, .int .i64 0, .int .i64 0, .int .i64 0] ((((V1.setCell ⟨w.heap.size, 0, none⟩ (.int .i64 k)).setCell ⟨w.heap.size, 1, none⟩ (.int .i64 r0)).setCell ⟨w.heap.size, 2, none⟩ (.int .i64 s0)).setCell ⟨w.heap.size, 3, none⟩ (.string n)) := by
      iterate 4 (refine At.setB ?_ (by dsimp only; omega) _)
      exact C9
    have q0 := A9.cell 0 _ rfl
    have q1 := A9.cell 1 _ rfl
    have q2 := A9.cell 2 _ rfl
    have q3 := A9.cell 3 _ rfl
    have z0 := A9.free 0 _ rfl
    have z1 := A9.free 1 _ rfl
    have z2 := A9.free 2 _ rfl
    have z3 := A9.free 3 _ rfl
    refine line_alone rfl (by kernel_rfl) (fun K hK => ?_)
    go_big_op
    refine hK _ _ (S4) ?_
    clear hK K
    clear q0 q1 q2 q3 z0 z1 z2 z3 hst
    generalize ((((V1.setCell ⟨w.heap.size, 0, none⟩ (.int .i64 k)).setCell ⟨w.heap.size, 1, none⟩ (.int .i64 r0)).setCell ⟨w.heap.size, 2, none⟩ (.int .i64 s0)).setCell ⟨w.heap.size, 3, none⟩ (.string n)) = V4 at *
    have hst := S4
    have S10 : Hold2 w w2.heap.size [.int .i64 k, .int .i64 r0, .int .i64 s0, .string n] w6.heap.size [.int .i64 tr, .int .i64 ts, .int .i64 u, .int .i64 tx, .int .i64 ty, .int .i64 tf] ((((((V4.setCell ⟨(w.heap.size + 1), 0, none⟩ (.int .i64 tr)).setCell ⟨(w.heap.size + 1), 1, none⟩ (.int .i64 ts)).setCell ⟨(w.heap.size + 1), 2, none⟩ (.int .i64 u)).setCell ⟨(w.heap.size + 1), 3, none⟩ (.int .i64 tx)).setCell ⟨(w.heap.size + 1), 4, none⟩ (.int .i64 ty)).setCell ⟨(w.heap.size + 1), 5, none⟩ (.int .i64 tf)) := by
      iterate 6 (refine Hold2.setB ?_ (by dsimp only; omega) (by dsimp only; omega) (by dsimp only; omega) _)
      exact S4
    have q0 := C4.cell 0 _ rfl
    have q1 := C4.cell 1 _ rfl
    have q2 := C4.cell 2 _ rfl
    have q3 := C4.cell 3 _ rfl
    have q4 := C4.cell 4 _ rfl
    have q5 := C4.cell 5 _ rfl
    have z0 := C4.free 0 _ rfl
    have z1 := C4.free 1 _ rfl
    have z2 := C4.free 2 _ rfl
    have z3 := C4.free 3 _ rfl
    have z4 := C4.free 4 _ rfl
    have z5 := C4.free 5 _ rfl
    have HB := Lib.hid S10.bel
    refine line_alone rfl (by kernel_rfl) (fun K hK => ?_)
    go_big_op
    refine hK _ _ (S10) ?_
    clear hK K
    refine line_nil ?_
    have v0 := A4.cell 0 _ rfl
    have v1 := A4.cell 1 _ rfl
    have v2 := A4.cell 2 _ rfl
    have v3 := A4.cell 3 _ rfl
    clear inst hst S4 S10 A9 C9 A4 C4
    go_wp2_with fail
    refine bodyPost_ret (v := .tuple #[.agg #[.int .i64 k, .int .i64 r0, .int .i64 s0, .string n], .agg #[.int .i64 tr, .int .i64 ts, .int .i64 u, .int .i64 tx, .int .i64 ty, .int .i64 tf]]) (by simp [results, Tryz.results70, go_sem, v0, v1, v2, v3, q0, q1, q2, q3, q4, q5]) rfl ?_
    exact ⟨_, _, _, _, _, _, _, _, _, _, rfl, hn', HB.out⟩
  by_cases e2 : sw = 2
  · subst e2
    go_wp2_with fail
    refine (dnext 65521 T8.draw (by omega)).mono ?_
    rintro e w9 ⟨u, u0, u1, rfl, D9, O9⟩
    have T9 := T8.only O9 D9 (by omega) (by omega)
    have kk0 := T9.r.cell 0 _ rfl
    have kk1 := T9.r.cell 1 _ rfl
    have kk2 := T9.r.cell 2 _ rfl
    have kk3 := T9.r.cell 3 _ rfl
    have kk4 := T9.r.cell 4 _ rfl
    have kk5 := T9.r.cell 5 _ rfl
    have ff0 := T9.r.free 0 _ rfl
    have ff1 := T9.r.free 1 _ rfl
    have ff2 := T9.r.free 2 _ rfl
    have ff3 := T9.r.free 3 _ rfl
    have ff4 := T9.r.free 4 _ rfl
    have ff5 := T9.r.free 5 _ rfl
    have T10 := T9.putR 5 (.int .i64 u) (by omega) (by omega)
    clear T8 T9 D9 O9 u0 u1
    go_wp2_with fail
    generalize w9.setCell ⟨w6.heap.size, 5, none⟩ (.int .i64 u) = W10 at *
    clear kk0 kk1 kk2 kk3 kk4 kk5 ff0 ff1 ff2 ff3 ff4 ff5
    have TT := T10
    have b9 := TT.draw.bel
    have S0 : Hold2 w w2.heap.size [.int .i64 k, .int .i64 r0, .int .i64 s0, .string n] w6.heap.size [.int .i64 tr, .int .i64 ts, .int .i64 tp, .int .i64 tx, .int .i64 ty, .int .i64 u] W10.drew := ⟨(btr b0 b9).drew, TT.c.on (bdrew _), TT.r.on (bdrew _)⟩
    have A9 := (A0.on b9).on (bdrew W10)
    have C9 := (C0.on b9).on (bdrew W10)
    refine wp_region_line (Hold2 w w2.heap.size [.int .i64 k, .int .i64 r0, .int .i64 s0, .string n] w6.heap.size [.int .i64 tr, .int .i64 ts, .int .i64 tp, .int .i64 tx, .int .i64 ty, .int .i64 u]) [(0, true), (1, true), (2, false), (3, false)] (by kernel_rfl) (by kernel_rfl) (fun _ _ d _ _ h => by cases d <;> exact h) S0 ?_
    have hst := S0
    have inst : Nonempty (Of (Hold2 w w2.heap.size [.int .i64 k, .int .i64 r0, .int .i64 s0, .string n] w6.heap.size [.int .i64 tr, .int .i64 ts, .int .i64 tp, .int .i64 tx, .int .i64 ty, .int .i64 u])) := ⟨⟨_, hst⟩⟩
    have hc0 := hold2_one (W := w) (g := w2.heap.size) (h := w6.heap.size) (cs := [.int .i64 k, .int .i64 r0, .int .i64 s0, .string n]) (ds := [.int .i64 tr, .int .i64 ts, .int .i64 tp, .int .i64 tx, .int .i64 ty, .int .i64 u]) 0 _ rfl
    have hc1 := hold2_one (W := w) (g := w2.heap.size) (h := w6.heap.size) (cs := [.int .i64 k, .int .i64 r0, .int .i64 s0, .string n]) (ds := [.int .i64 tr, .int .i64 ts, .int .i64 tp, .int .i64 tx, .int .i64 ty, .int .i64 u]) 1 _ rfl
    have hc2 := hold2_one (W := w) (g := w2.heap.size) (h := w6.heap.size) (cs := [.int .i64 k, .int .i64 r0, .int .i64 s0, .string n]) (ds := [.int .i64 tr, .int .i64 ts, .int .i64 tp, .int .i64 tx, .int .i64 ty, .int .i64 u]) 2 _ rfl
    have hc3 := hold2_one (W := w) (g := w2.heap.size) (h := w6.heap.size) (cs := [.int .i64 k, .int .i64 r0, .int .i64 s0, .string n]) (ds := [.int .i64 tr, .int .i64 ts, .int .i64 tp, .int .i64 tx, .int .i64 ty, .int .i64 u]) 3 _ rfl
    have hr0 := hold2_two (W := w) (g := w2.heap.size) (h := w6.heap.size) (cs := [.int .i64 k, .int .i64 r0, .int .i64 s0, .string n]) (ds := [.int .i64 tr, .int .i64 ts, .int .i64 tp, .int .i64 tx, .int .i64 ty, .int .i64 u]) 0 _ rfl
    have hr1 := hold2_two (W := w) (g := w2.heap.size) (h := w6.heap.size) (cs := [.int .i64 k, .int .i64 r0, .int .i64 s0, .string n]) (ds := [.int .i64 tr, .int .i64 ts, .int .i64 tp, .int .i64 tx, .int .i64 ty, .int .i64 u]) 1 _ rfl
    have hr2 := hold2_two (W := w) (g := w2.heap.size) (h := w6.heap.size) (cs := [.int .i64 k, .int .i64 r0, .int .i64 s0, .string n]) (ds := [.int .i64 tr, .int .i64 ts, .int .i64 tp, .int .i64 tx, .int .i64 ty, .int .i64 u]) 2 _ rfl
    have hr3 := hold2_two (W := w) (g := w2.heap.size) (h := w6.heap.size) (cs := [.int .i64 k, .int .i64 r0, .int .i64 s0, .string n]) (ds := [.int .i64 tr, .int .i64 ts, .int .i64 tp, .int .i64 tx, .int .i64 ty, .int .i64 u]) 3 _ rfl
    have hr4 := hold2_two (W := w) (g := w2.heap.size) (h := w6.heap.size) (cs := [.int .i64 k, .int .i64 r0, .int .i64 s0, .string n]) (ds := [.int .i64 tr, .int .i64 ts, .int .i64 tp, .int .i64 tx, .int .i64 ty, .int .i64 u]) 4 _ rfl
    have hr5 := hold2_two (W := w) (g := w2.heap.size) (h := w6.heap.size) (cs := [.int .i64 k, .int .i64 r0, .int .i64 s0, .string n]) (ds := [.int .i64 tr, .int .i64 ts, .int .i64 tp, .int .i64 tx, .int .i64 ty, .int .i64 u]) 5 _ rfl
    clear S0 TT b9 A0 C0 b0
    generalize W10.drew = V1 at *
    iterate 2 (refine line_read rfl (by kernel_rfl) (fun K hK => ?_); go_big_quiet_op; refine hK _ ?_; clear hK K)
    clear hc0 hc1 hc2 hc3 hr0 hr1 hr2 hr3 hr4 hr5
    have S4 : Hold2 w w2.heap.size [.int .i64 k, .int .i64 r0, .int .i64 s0, .string n] w6.heap.size [.int .i64 tr, .int .i64 ts, .int .i64 tp, .int .i64 tx, .int .i64 ty, .int .i64 u] ((((V1.setCell ⟨w.heap.size, 0, none⟩ (.int .i64 k)).setCell ⟨w.heap.size, 1, none⟩ (.int .i64 r0)).setCell ⟨w.heap.size, 2, none⟩ (.int .i64 s0)).setCell ⟨w.heap.size, 3, none⟩ (.string n)) := by
      iterate 4 (refine Hold2.setB ?_ (by dsimp only; omega) (by dsimp only; omega) (by dsimp only; omega) _)
      exact hst
    have A4 : At w.heap.size [.int .i64 k, .int .i64 r0, .int .i64 s0, .string n] ((((V1.setCell ⟨w.heap.size, 0, none⟩ (.int .i64 k)).setCell ⟨w.heap.size, 1, none⟩ (.int .i64 r0)).setCell ⟨w.heap.size, 2, none⟩ (.int .i64 s0)).setCell ⟨w.heap.size, 3, none⟩ (.string n)) := (((A9.set 0 (.int .i64 k)).set 1 (.int .i64 r0)).set 2 (.int .i64 s0)).set 3 (.string n)
    have C4 : At (w.heap.size + 1) [.int .i64 0, .int .i64 0, .int .i64 0, .int .i64 0, .int .i64 0, .int .i64 0] ((((V1.setCell ⟨w.heap.size, 0, none⟩ (.int .i64 k)).setCell ⟨w.heap.size, 1, none⟩ (.int .i64 r0)).setCell ⟨w.heap.size, 2, none⟩ (.int .i64 s0)).setCell ⟨w.heap.size, 3, none⟩ (.string n)) := by
      iterate 4 (refine At.setB ?_ (by dsimp only; omega) _)
      exact C9
    have q0 := A9.cell 0 _ rfl
    have q1 := A9.cell 1 _ rfl
    have q2 := A9.cell 2 _ rfl
    have q3 := A9.cell 3 _ rfl
    have z0 := A9.free 0 _ rfl
    have z1 := A9.free 1 _ rfl
    have z2 := A9.free 2 _ rfl
    have z3 := A9.free 3 _ rfl
    refine line_alone rfl (by kernel_rfl) (fun K hK => ?_)
    go_big_op
    refine hK _ _ (S4) ?_
    clear hK K
    clear q0 q1 q2 q3 z0 z1 z2 z3 hst
    generalize ((((V1.setCell ⟨w.heap.size, 0, none⟩ (.int .i64 k)).setCell ⟨w.heap.size, 1, none⟩ (.int .i64 r0)).setCell ⟨w.heap.size, 2, none⟩ (.int .i64 s0)).setCell ⟨w.heap.size, 3, none⟩ (.string n)) = V4 at *
    have hst := S4
    have S10 : Hold2 w w2.heap.size [.int .i64 k, .int .i64 r0, .int .i64 s0, .string n] w6.heap.size [.int .i64 tr, .int .i64 ts, .int .i64 tp, .int .i64 tx, .int .i64 ty, .int .i64 u] ((((((V4.setCell ⟨(w.heap.size + 1), 0, none⟩ (.int .i64 tr)).setCell ⟨(w.heap.size + 1), 1, none⟩ (.int .i64 ts)).setCell ⟨(w.heap.size + 1), 2, none⟩ (.int .i64 tp)).setCell ⟨(w.heap.size + 1), 3, none⟩ (.int .i64 tx)).setCell ⟨(w.heap.size + 1), 4, none⟩ (.int .i64 ty)).setCell ⟨(w.heap.size + 1), 5, none⟩ (.int .i64 u)) := by
      iterate 6 (refine Hold2.setB ?_ (by dsimp only; omega) (by dsimp only; omega) (by dsimp only; omega) _)
      exact S4
    have q0 := C4.cell 0 _ rfl
    have q1 := C4.cell 1 _ rfl
    have q2 := C4.cell 2 _ rfl
    have q3 := C4.cell 3 _ rfl
    have q4 := C4.cell 4 _ rfl
    have q5 := C4.cell 5 _ rfl
    have z0 := C4.free 0 _ rfl
    have z1 := C4.free 1 _ rfl
    have z2 := C4.free 2 _ rfl
    have z3 := C4.free 3 _ rfl
    have z4 := C4.free 4 _ rfl
    have z5 := C4.free 5 _ rfl
    have HB := Lib.hid S10.bel
    refine line_alone rfl (by kernel_rfl) (fun K hK => ?_)
    go_big_op
    refine hK _ _ (S10) ?_
    clear hK K
    refine line_nil ?_
    have v0 := A4.cell 0 _ rfl
    have v1 := A4.cell 1 _ rfl
    have v2 := A4.cell 2 _ rfl
    have v3 := A4.cell 3 _ rfl
    clear inst hst S4 S10 A9 C9 A4 C4
    go_wp2_with fail
    refine bodyPost_ret (v := .tuple #[.agg #[.int .i64 k, .int .i64 r0, .int .i64 s0, .string n], .agg #[.int .i64 tr, .int .i64 ts, .int .i64 tp, .int .i64 tx, .int .i64 ty, .int .i64 u]]) (by simp [results, Tryz.results70, go_sem, v0, v1, v2, v3, q0, q1, q2, q3, q4, q5]) rfl ?_
    exact ⟨_, _, _, _, _, _, _, _, _, _, rfl, hn', HB.out⟩
  by_cases e3 : sw = 3
  · subst e3
    go_wp2_with fail
    refine (dl6BentReply T8.draw (by omega)).mono ?_
    rintro e w9 ⟨r3, s3, p3, x3, y3, f3, pp, -, hpp, rfl, D9, O9⟩
    have T9 := T8.kept O9 D9 (by omega) (by omega)
    have kk0 := T9.r.cell 0 _ rfl
    have kk1 := T9.r.cell 1 _ rfl
    have kk2 := T9.r.cell 2 _ rfl
    have kk3 := T9.r.cell 3 _ rfl
    have kk4 := T9.r.cell 4 _ rfl
    have kk5 := T9.r.cell 5 _ rfl
    have ff0 := T9.r.free 0 _ rfl
    have ff1 := T9.r.free 1 _ rfl
    have ff2 := T9.r.free 2 _ rfl
    have ff3 := T9.r.free 3 _ rfl
    have ff4 := T9.r.free 4 _ rfl
    have ff5 := T9.r.free 5 _ rfl
    have T10 : Two11 W0 a len cap zs pp w2.heap.size (HL4 k r0 s0 n) w6.heap.size (RL6 r3 s3 p3 x3 y3 f3) ((((((w9.setCell ⟨w6.heap.size, 0, none⟩ (.int .i64 r3)).setCell ⟨w6.heap.size, 1, none⟩ (.int .i64 s3)).setCell ⟨w6.heap.size, 2, none⟩ (.int .i64 p3)).setCell ⟨w6.heap.size, 3, none⟩ (.int .i64 x3)).setCell ⟨w6.heap.size, 4, none⟩ (.int .i64 y3)).setCell ⟨w6.heap.size, 5, none⟩ (.int .i64 f3)) := ((((((T9.putR 0 (.int .i64 r3) (by omega) (by omega)).putR 1 (.int .i64 s3) (by omega) (by omega)).putR 2 (.int .i64 p3) (by omega) (by omega)).putR 3 (.int .i64 x3) (by omega) (by omega)).putR 4 (.int .i64 y3) (by omega) (by omega)).putR 5 (.int .i64 f3) (by omega) (by omega))
    clear T8 T9 D9 O9
    go_wp2_with fail
    generalize ((((((w9.setCell ⟨w6.heap.size, 0, none⟩ (.int .i64 r3)).setCell ⟨w6.heap.size, 1, none⟩ (.int .i64 s3)).setCell ⟨w6.heap.size, 2, none⟩ (.int .i64 p3)).setCell ⟨w6.heap.size, 3, none⟩ (.int .i64 x3)).setCell ⟨w6.heap.size, 4, none⟩ (.int .i64 y3)).setCell ⟨w6.heap.size, 5, none⟩ (.int .i64 f3)) = W10 at *
    clear kk0 kk1 kk2 kk3 kk4 kk5 ff0 ff1 ff2 ff3 ff4 ff5
    have TT := T10
    have b9 := TT.draw.bel
    have S0 : Hold2 w w2.heap.size [.int .i64 k, .int .i64 r0, .int .i64 s0, .string n] w6.heap.size [.int .i64 r3, .int .i64 s3, .int .i64 p3, .int .i64 x3, .int .i64 y3, .int .i64 f3] W10.drew := ⟨(btr b0 b9).drew, TT.c.on (bdrew _), TT.r.on (bdrew _)⟩
    have A9 := (A0.on b9).on (bdrew W10)
    have C9 := (C0.on b9).on (bdrew W10)
    refine wp_region_line (Hold2 w w2.heap.size [.int .i64 k, .int .i64 r0, .int .i64 s0, .string n] w6.heap.size [.int .i64 r3, .int .i64 s3, .int .i64 p3, .int .i64 x3, .int .i64 y3, .int .i64 f3]) [(0, true), (1, true), (2, false), (3, false)] (by kernel_rfl) (by kernel_rfl) (fun _ _ d _ _ h => by cases d <;> exact h) S0 ?_
    have hst := S0
    have inst : Nonempty (Of (Hold2 w w2.heap.size [.int .i64 k, .int .i64 r0, .int .i64 s0, .string n] w6.heap.size [.int .i64 r3, .int .i64 s3, .int .i64 p3, .int .i64 x3, .int .i64 y3, .int .i64 f3])) := ⟨⟨_, hst⟩⟩
    have hc0 := hold2_one (W := w) (g := w2.heap.size) (h := w6.heap.size) (cs := [.int .i64 k, .int .i64 r0, .int .i64 s0, .string n]) (ds := [.int .i64 r3, .int .i64 s3, .int .i64 p3, .int .i64 x3, .int .i64 y3, .int .i64 f3]) 0 _ rfl
    have hc1 := hold2_one (W := w) (g := w2.heap.size) (h := w6.heap.size) (cs := [.int .i64 k, .int .i64 r0, .int .i64 s0, .string n]) (ds := [.int .i64 r3, .int .i64 s3, .int .i64 p3, .int .i64 x3, .int .i64 y3, .int .i64 f3]) 1 _ rfl
    have hc2 := hold2_one (W := w) (g := w2.heap.size) (h := w6.heap.size) (cs := [.int .i64 k, .int .i64 r0, .int .i64 s0, .string n]) (ds := [.int .i64 r3, .int .i64 s3, .int .i64 p3, .int .i64 x3, .int .i64 y3, .int .i64 f3]) 2 _ rfl
    have hc3 := hold2_one (W := w) (g := w2.heap.size) (h := w6.heap.size) (cs := [.int .i64 k, .int .i64 r0, .int .i64 s0, .string n]) (ds := [.int .i64 r3, .int .i64 s3, .int .i64 p3, .int .i64 x3, .int .i64 y3, .int .i64 f3]) 3 _ rfl
    have hr0 := hold2_two (W := w) (g := w2.heap.size) (h := w6.heap.size) (cs := [.int .i64 k, .int .i64 r0, .int .i64 s0, .string n]) (ds := [.int .i64 r3, .int .i64 s3, .int .i64 p3, .int .i64 x3, .int .i64 y3, .int .i64 f3]) 0 _ rfl
    have hr1 := hold2_two (W := w) (g := w2.heap.size) (h := w6.heap.size) (cs := [.int .i64 k, .int .i64 r0, .int .i64 s0, .string n]) (ds := [.int .i64 r3, .int .i64 s3, .int .i64 p3, .int .i64 x3, .int .i64 y3, .int .i64 f3]) 1 _ rfl
    have hr2 := hold2_two (W := w) (g := w2.heap.size) (h := w6.heap.size) (cs := [.int .i64 k, .int .i64 r0, .int .i64 s0, .string n]) (ds := [.int .i64 r3, .int .i64 s3, .int .i64 p3, .int .i64 x3, .int .i64 y3, .int .i64 f3]) 2 _ rfl
    have hr3 := hold2_two (W := w) (g := w2.heap.size) (h := w6.heap.size) (cs := [.int .i64 k, .int .i64 r0, .int .i64 s0, .string n]) (ds := [.int .i64 r3, .int .i64 s3, .int .i64 p3, .int .i64 x3, .int .i64 y3, .int .i64 f3]) 3 _ rfl
    have hr4 := hold2_two (W := w) (g := w2.heap.size) (h := w6.heap.size) (cs := [.int .i64 k, .int .i64 r0, .int .i64 s0, .string n]) (ds := [.int .i64 r3, .int .i64 s3, .int .i64 p3, .int .i64 x3, .int .i64 y3, .int .i64 f3]) 4 _ rfl
    have hr5 := hold2_two (W := w) (g := w2.heap.size) (h := w6.heap.size) (cs := [.int .i64 k, .int .i64 r0, .int .i64 s0, .string n]) (ds := [.int .i64 r3, .int .i64 s3, .int .i64 p3, .int .i64 x3, .int .i64 y3, .int .i64 f3]) 5 _ rfl
    clear S0 TT b9 A0 C0 b0
    generalize W10.drew = V1 at *
    iterate 2 (refine line_read rfl (by kernel_rfl) (fun K hK => ?_); go_big_quiet_op; refine hK _ ?_; clear hK K)
    clear hc0 hc1 hc2 hc3 hr0 hr1 hr2 hr3 hr4 hr5
    have S4 : Hold2 w w2.heap.size [.int .i64 k, .int .i64 r0, .int .i64 s0, .string n] w6.heap.size [.int .i64 r3, .int .i64 s3, .int .i64 p3, .int .i64 x3, .int .i64 y3, .int .i64 f3] ((((V1.setCell ⟨w.heap.size, 0, none⟩ (.int .i64 k)).setCell ⟨w.heap.size, 1, none⟩ (.int .i64 r0)).setCell ⟨w.heap.size, 2, none⟩ (.int .i64 s0)).setCell ⟨w.heap.size, 3, none⟩ (.string n)) := by
      iterate 4 (refine Hold2.setB ?_ (by dsimp only; omega) (by dsimp only; omega) (by dsimp only; omega) _)
      exact hst
    have A4 : At w.heap.size [.int .i64 k, .int .i64 r0, .int .i64 s0, .string n] ((((V1.setCell ⟨w.heap.size, 0, none⟩ (.int .i64 k)).setCell ⟨w.heap.size, 1, none⟩ (.int .i64 r0)).setCell ⟨w.heap.size, 2, none⟩ (.int .i64 s0)).setCell ⟨w.heap.size, 3, none⟩ (.string n)) := (((A9.set 0 (.int .i64 k)).set 1 (.int .i64 r0)).set 2 (.int .i64 s0)).set 3 (.string n)
    have C4 : At (w.heap.size + 1) [.int .i64 0, .int .i64 0, .int .i64 0, .int .i64 0, .int .i64 0, .int .i64 0] ((((V1.setCell ⟨w.heap.size, 0, none⟩ (.int .i64 k)).setCell ⟨w.heap.size, 1, none⟩ (.int .i64 r0)).setCell ⟨w.heap.size, 2, none⟩ (.int .i64 s0)).setCell ⟨w.heap.size, 3, none⟩ (.string n)) := by
      iterate 4 (refine At.setB ?_ (by dsimp only; omega) _)
      exact C9
    have q0 := A9.cell 0 _ rfl
    have q1 := A9.cell 1 _ rfl
    have q2 := A9.cell 2 _ rfl
    have q3 := A9.cell 3 _ rfl
    have z0 := A9.free 0 _ rfl
    have z1 := A9.free 1 _ rfl
    have z2 := A9.free 2 _ rfl
    have z3 := A9.free 3 _ rfl
    refine line_alone rfl (by kernel_rfl) (fun K hK => ?_)
    go_big_op
    refine hK _ _ (S4) ?_
    clear hK K
    clear q0 q1 q2 q3 z0 z1 z2 z3 hst
    generalize ((((V1.setCell ⟨w.heap.size, 0, none⟩ (.int .i64 k)).setCell ⟨w.heap.size, 1, none⟩ (.int .i64 r0)).setCell ⟨w.heap.size, 2, none⟩ (.int .i64 s0)).setCell ⟨w.heap.size, 3, none⟩ (.string n)) = V4 at *
    have hst := S4
    have S10 : Hold2 w w2.heap.size [.int .i64 k, .int .i64 r0, .int .i64 s0, .string n] w6.heap.size [.int .i64 r3, .int .i64 s3, .int .i64 p3, .int .i64 x3, .int .i64 y3, .int .i64 f3] ((((((V4.setCell ⟨(w.heap.size + 1), 0, none⟩ (.int .i64 r3)).setCell ⟨(w.heap.size + 1), 1, none⟩ (.int .i64 s3)).setCell ⟨(w.heap.size + 1), 2, none⟩ (.int .i64 p3)).setCell ⟨(w.heap.size + 1), 3, none⟩ (.int .i64 x3)).setCell ⟨(w.heap.size + 1), 4, none⟩ (.int .i64 y3)).setCell ⟨(w.heap.size + 1), 5, none⟩ (.int .i64 f3)) := by
      iterate 6 (refine Hold2.setB ?_ (by dsimp only; omega) (by dsimp only; omega) (by dsimp only; omega) _)
      exact S4
    have q0 := C4.cell 0 _ rfl
    have q1 := C4.cell 1 _ rfl
    have q2 := C4.cell 2 _ rfl
    have q3 := C4.cell 3 _ rfl
    have q4 := C4.cell 4 _ rfl
    have q5 := C4.cell 5 _ rfl
    have z0 := C4.free 0 _ rfl
    have z1 := C4.free 1 _ rfl
    have z2 := C4.free 2 _ rfl
    have z3 := C4.free 3 _ rfl
    have z4 := C4.free 4 _ rfl
    have z5 := C4.free 5 _ rfl
    have HB := Lib.hid S10.bel
    refine line_alone rfl (by kernel_rfl) (fun K hK => ?_)
    go_big_op
    refine hK _ _ (S10) ?_
    clear hK K
    refine line_nil ?_
    have v0 := A4.cell 0 _ rfl
    have v1 := A4.cell 1 _ rfl
    have v2 := A4.cell 2 _ rfl
    have v3 := A4.cell 3 _ rfl
    clear inst hst S4 S10 A9 C9 A4 C4
    go_wp2_with fail
    refine bodyPost_ret (v := .tuple #[.agg #[.int .i64 k, .int .i64 r0, .int .i64 s0, .string n], .agg #[.int .i64 r3, .int .i64 s3, .int .i64 p3, .int .i64 x3, .int .i64 y3, .int .i64 f3]]) (by simp [results, Tryz.results70, go_sem, v0, v1, v2, v3, q0, q1, q2, q3, q4, q5]) rfl ?_
    exact ⟨_, _, _, _, _, _, _, _, _, _, rfl, hn', HB.out⟩
  by_cases e4 : sw = 4
  · subst e4
    go_wp2_with fail
    refine (dl11Bent T8.draw (by omega)).mono ?_
    rintro e w9 ⟨k3, r3, s3, m, pp, hm, hpp, rfl, D9, O9⟩
    have T9 := T8.kept O9 D9 (by omega) (by omega)
    have kk0 := T9.c.cell 0 _ rfl
    have kk1 := T9.c.cell 1 _ rfl
    have kk2 := T9.c.cell 2 _ rfl
    have kk3 := T9.c.cell 3 _ rfl
    have ff0 := T9.c.free 0 _ rfl
    have ff1 := T9.c.free 1 _ rfl
    have ff2 := T9.c.free 2 _ rfl
    have ff3 := T9.c.free 3 _ rfl
    have T10 : Two11 W0 a len cap zs pp w2.heap.size (HL4 k3 r3 s3 m) w6.heap.size (RL6 tr ts tp tx ty tf) ((((w9.setCell ⟨w2.heap.size, 0, none⟩ (.int .i64 k3)).setCell ⟨w2.heap.size, 1, none⟩ (.int .i64 r3)).setCell ⟨w2.heap.size, 2, none⟩ (.int .i64 s3)).setCell ⟨w2.heap.size, 3, none⟩ (.string m)) := ((((T9.putC 0 (.int .i64 k3) (by omega) (by omega)).putC 1 (.int .i64 r3) (by omega) (by omega)).putC 2 (.int .i64 s3) (by omega) (by omega)).putC 3 (.string m) (by omega) (by omega))
    clear T8 T9 D9 O9
    go_wp2_with fail
    generalize ((((w9.setCell ⟨w2.heap.size, 0, none⟩ (.int .i64 k3)).setCell ⟨w2.heap.size, 1, none⟩ (.int .i64 r3)).setCell ⟨w2.heap.size, 2, none⟩ (.int .i64 s3)).setCell ⟨w2.heap.size, 3, none⟩ (.string m)) = W10 at *
    clear kk0 kk1 kk2 kk3 ff0 ff1 ff2 ff3
    have TT := T10
    have b9 := TT.draw.bel
    have S0 : Hold2 w w2.heap.size [.int .i64 k3, .int .i64 r3, .int .i64 s3, .string m] w6.heap.size [.int .i64 tr, .int .i64 ts, .int .i64 tp, .int .i64 tx, .int .i64 ty, .int .i64 tf] W10.drew := ⟨(btr b0 b9).drew, TT.c.on (bdrew _), TT.r.on (bdrew _)⟩
    have A9 := (A0.on b9).on (bdrew W10)
    have C9 := (C0.on b9).on (bdrew W10)
    refine wp_region_line (Hold2 w w2.heap.size [.int .i64 k3, .int .i64 r3, .int .i64 s3, .string m] w6.heap.size [.int .i64 tr, .int .i64 ts, .int .i64 tp, .int .i64 tx, .int .i64 ty, .int .i64 tf]) [(0, true), (1, true), (2, false), (3, false)] (by kernel_rfl) (by kernel_rfl) (fun _ _ d _ _ h => by cases d <;> exact h) S0 ?_
    have hst := S0
    have inst : Nonempty (Of (Hold2 w w2.heap.size [.int .i64 k3, .int .i64 r3, .int .i64 s3, .string m] w6.heap.size [.int .i64 tr, .int .i64 ts, .int .i64 tp, .int .i64 tx, .int .i64 ty, .int .i64 tf])) := ⟨⟨_, hst⟩⟩
    have hc0 := hold2_one (W := w) (g := w2.heap.size) (h := w6.heap.size) (cs := [.int .i64 k3, .int .i64 r3, .int .i64 s3, .string m]) (ds := [.int .i64 tr, .int .i64 ts, .int .i64 tp, .int .i64 tx, .int .i64 ty, .int .i64 tf]) 0 _ rfl
    have hc1 := hold2_one (W := w) (g := w2.heap.size) (h := w6.heap.size) (cs := [.int .i64 k3, .int .i64 r3, .int .i64 s3, .string m]) (ds := [.int .i64 tr, .int .i64 ts, .int .i64 tp, .int .i64 tx, .int .i64 ty, .int .i64 tf]) 1 _ rfl
    have hc2 := hold2_one (W := w) (g := w2.heap.size) (h := w6.heap.size) (cs := [.int .i64 k3, .int .i64 r3, .int .i64 s3, .string m]) (ds := [.int .i64 tr, .int .i64 ts, .int .i64 tp, .int .i64 tx, .int .i64 ty, .int .i64 tf]) 2 _ rfl
    have hc3 := hold2_one (W := w) (g := w2.heap.size) (h := w6.heap.size) (cs := [.int .i64 k3, .int .i64 r3, .int .i64 s3, .string m]) (ds := [.int .i64 tr, .int .i64 ts, .int .i64 tp, .int .i64 tx, .int .i64 ty, .int .i64 tf]) 3 _ rfl
    have hr0 := hold2_two (W := w) (g := w2.heap.size) (h := w6.heap.size) (cs := [.int .i64 k3, .int .i64 r3, .int .i64 s3, .string m]) (ds := [.int .i64 tr, .int .i64 ts, .int .i64 tp, .int .i64 tx, .int .i64 ty, .int .i64 tf]) 0 _ rfl
    have hr1 := hold2_two (W := w) (g := w2.heap.size) (h := w6.heap.size) (cs := [.int .i64 k3, .int .i64 r3, .int .i64 s3, .string m]) (ds := [.int .i64 tr, .int .i64 ts, .int .i64 tp, .int .i64 tx, .int .i64 ty, .int .i64 tf]) 1 _ rfl
    have hr2 := hold2_two (W := w) (g := w2.heap.size) (h := w6.heap.size) (cs := [.int .i64 k3, .int .i64 r3, .int .i64 s3, .string m]) (ds := [.int .i64 tr, .int .i64 ts, .int .i64 tp, .int .i64 tx, .int .i64 ty, .int .i64 tf]) 2 _ rfl
    have hr3 := hold2_two (W := w) (g := w2.heap.size) (h := w6.heap.size) (cs := [.int .i64 k3, .int .i64 r3, .int .i64 s3, .string m]) (ds := [.int .i64 tr, .int .i64 ts, .int .i64 tp, .int .i64 tx, .int .i64 ty, .int .i64 tf]) 3 _ rfl
    have hr4 := hold2_two (W := w) (g := w2.heap.size) (h := w6.heap.size) (cs := [.int .i64 k3, .int .i64 r3, .int .i64 s3, .string m]) (ds := [.int .i64 tr, .int .i64 ts, .int .i64 tp, .int .i64 tx, .int .i64 ty, .int .i64 tf]) 4 _ rfl
    have hr5 := hold2_two (W := w) (g := w2.heap.size) (h := w6.heap.size) (cs := [.int .i64 k3, .int .i64 r3, .int .i64 s3, .string m]) (ds := [.int .i64 tr, .int .i64 ts, .int .i64 tp, .int .i64 tx, .int .i64 ty, .int .i64 tf]) 5 _ rfl
    clear S0 TT b9 A0 C0 b0
    generalize W10.drew = V1 at *
    iterate 2 (refine line_read rfl (by kernel_rfl) (fun K hK => ?_); go_big_quiet_op; refine hK _ ?_; clear hK K)
    clear hc0 hc1 hc2 hc3 hr0 hr1 hr2 hr3 hr4 hr5
    have S4 : Hold2 w w2.heap.size [.int .i64 k3, .int .i64 r3, .int .i64 s3, .string m] w6.heap.size [.int .i64 tr, .int .i64 ts, .int .i64 tp, .int .i64 tx, .int .i64 ty, .int .i64 tf] ((((V1.setCell ⟨w.heap.size, 0, none⟩ (.int .i64 k3)).setCell ⟨w.heap.size, 1, none⟩ (.int .i64 r3)).setCell ⟨w.heap.size, 2, none⟩ (.int .i64 s3)).setCell ⟨w.heap.size, 3, none⟩ (.string m)) := by
      iterate 4 (refine Hold2.setB ?_ (by dsimp only; omega) (by dsimp only; omega) (by dsimp only; omega) _)
      exact hst
    have A4 : At w.heap.size [.int .i64 k3, .int .i64 r3, .int .i64 s3, .string m] ((((V1.setCell ⟨w.heap.size, 0, none⟩ (.int .i64 k3)).setCell ⟨w.heap.size, 1, none⟩ (.int .i64 r3)).setCell ⟨w.heap.size, 2, none⟩ (.int .i64 s3)).setCell ⟨w.heap.size, 3, none⟩ (.string m)) := (((A9.set 0 (.int .i64 k3)).set 1 (.int .i64 r3)).set 2 (.int .i64 s3)).set 3 (.string m)
    have C4 : At (w.heap.size + 1) [.int .i64 0, .int .i64 0, .int .i64 0, .int .i64 0, .int .i64 0, .int .i64 0] ((((V1.setCell ⟨w.heap.size, 0, none⟩ (.int .i64 k3)).setCell ⟨w.heap.size, 1, none⟩ (.int .i64 r3)).setCell ⟨w.heap.size, 2, none⟩ (.int .i64 s3)).setCell ⟨w.heap.size, 3, none⟩ (.string m)) := by
      iterate 4 (refine At.setB ?_ (by dsimp only; omega) _)
      exact C9
    have q0 := A9.cell 0 _ rfl
    have q1 := A9.cell 1 _ rfl
    have q2 := A9.cell 2 _ rfl
    have q3 := A9.cell 3 _ rfl
    have z0 := A9.free 0 _ rfl
    have z1 := A9.free 1 _ rfl
    have z2 := A9.free 2 _ rfl
    have z3 := A9.free 3 _ rfl
    refine line_alone rfl (by kernel_rfl) (fun K hK => ?_)
    go_big_op
    refine hK _ _ (S4) ?_
    clear hK K
    clear q0 q1 q2 q3 z0 z1 z2 z3 hst
    generalize ((((V1.setCell ⟨w.heap.size, 0, none⟩ (.int .i64 k3)).setCell ⟨w.heap.size, 1, none⟩ (.int .i64 r3)).setCell ⟨w.heap.size, 2, none⟩ (.int .i64 s3)).setCell ⟨w.heap.size, 3, none⟩ (.string m)) = V4 at *
    have hst := S4
    have S10 : Hold2 w w2.heap.size [.int .i64 k3, .int .i64 r3, .int .i64 s3, .string m] w6.heap.size [.int .i64 tr, .int .i64 ts, .int .i64 tp, .int .i64 tx, .int .i64 ty, .int .i64 tf] ((((((V4.setCell ⟨(w.heap.size + 1), 0, none⟩ (.int .i64 tr)).setCell ⟨(w.heap.size + 1), 1, none⟩ (.int .i64 ts)).setCell ⟨(w.heap.size + 1), 2, none⟩ (.int .i64 tp)).setCell ⟨(w.heap.size + 1), 3, none⟩ (.int .i64 tx)).setCell ⟨(w.heap.size + 1), 4, none⟩ (.int .i64 ty)).setCell ⟨(w.heap.size + 1), 5, none⟩ (.int .i64 tf)) := by
      iterate 6 (refine Hold2.setB ?_ (by dsimp only; omega) (by dsimp only; omega) (by dsimp only; omega) _)
      exact S4
    have q0 := C4.cell 0 _ rfl
    have q1 := C4.cell 1 _ rfl
    have q2 := C4.cell 2 _ rfl
    have q3 := C4.cell 3 _ rfl
    have q4 := C4.cell 4 _ rfl
    have q5 := C4.cell 5 _ rfl
    have z0 := C4.free 0 _ rfl
    have z1 := C4.free 1 _ rfl
    have z2 := C4.free 2 _ rfl
    have z3 := C4.free 3 _ rfl
    have z4 := C4.free 4 _ rfl
    have z5 := C4.free 5 _ rfl
    have HB := Lib.hid S10.bel
    refine line_alone rfl (by kernel_rfl) (fun K hK => ?_)
    go_big_op
    refine hK _ _ (S10) ?_
    clear hK K
    refine line_nil ?_
    have v0 := A4.cell 0 _ rfl
    have v1 := A4.cell 1 _ rfl
    have v2 := A4.cell 2 _ rfl
    have v3 := A4.cell 3 _ rfl
    clear inst hst S4 S10 A9 C9 A4 C4
    go_wp2_with fail
    refine bodyPost_ret (v := .tuple #[.agg #[.int .i64 k3, .int .i64 r3, .int .i64 s3, .string m], .agg #[.int .i64 tr, .int .i64 ts, .int .i64 tp, .int .i64 tx, .int .i64 ty, .int .i64 tf]]) (by simp [results, Tryz.results70, go_sem, v0, v1, v2, v3, q0, q1, q2, q3, q4, q5]) rfl ?_
    exact ⟨_, _, _, _, _, _, _, _, _, _, rfl, hm, HB.out⟩
  · have n0 : (sw == 0) = false := by rw [beq_eq_false_iff_ne]; exact e0
    have n1 : (sw == 1) = false := by rw [beq_eq_false_iff_ne]; exact e1
    have n2 : (sw == 2) = false := by rw [beq_eq_false_iff_ne]; exact e2
    have n3 : (sw == 3) = false := by rw [beq_eq_false_iff_ne]; exact e3
    have n4 : (sw == 4) = false := by rw [beq_eq_false_iff_ne]; exact e4
    go_wp2_with fail
    have TT := T8
    have b9 := TT.draw.bel
    have S0 : Hold2 w w2.heap.size [.int .i64 k, .int .i64 r0, .int .i64 s0, .string n] w6.heap.size [.int .i64 tr, .int .i64 ts, .int .i64 tp, .int .i64 tx, .int .i64 ty, .int .i64 tf] w8.drew := ⟨(btr b0 b9).drew, TT.c.on (bdrew _), TT.r.on (bdrew _)⟩
    have A9 := (A0.on b9).on (bdrew w8)
    have C9 := (C0.on b9).on (bdrew w8)
    refine wp_region_line (Hold2 w w2.heap.size [.int .i64 k, .int .i64 r0, .int .i64 s0, .string n] w6.heap.size [.int .i64 tr, .int .i64 ts, .int .i64 tp, .int .i64 tx, .int .i64 ty, .int .i64 tf]) [(0, true), (1, true), (2, false), (3, false)] (by kernel_rfl) (by kernel_rfl) (fun _ _ d _ _ h => by cases d <;> exact h) S0 ?_
    have hst := S0
    have inst : Nonempty (Of (Hold2 w w2.heap.size [.int .i64 k, .int .i64 r0, .int .i64 s0, .string n] w6.heap.size [.int .i64 tr, .int .i64 ts, .int .i64 tp, .int .i64 tx, .int .i64 ty, .int .i64 tf])) := ⟨⟨_, hst⟩⟩
    have hc0 := hold2_one (W := w) (g := w2.heap.size) (h := w6.heap.size) (cs := [.int .i64 k, .int .i64 r0, .int .i64 s0, .string n]) (ds := [.int .i64 tr, .int .i64 ts, .int .i64 tp, .int .i64 tx, .int .i64 ty, .int .i64 tf]) 0 _ rfl
    have hc1 := hold2_one (W := w) (g := w2.heap.size) (h := w6.heap.size) (cs := [.int .i64 k, .int .i64 r0, .int .i64 s0, .string n]) (ds := [.int .i64 tr, .int .i64 ts, .int .i64 tp, .int .i64 tx, .int .i64 ty, .int .i64 tf]) 1 _ rfl
    have hc2 := hold2_one (W := w) (g := w2.heap.size) (h := w6.heap.size) (cs := [.int .i64 k, .int .i64 r0, .int .i64 s0, .string n]) (ds := [.int .i64 tr, .int .i64 ts, .int .i64 tp, .int .i64 tx, .int .i64 ty, .int .i64 tf]) 2 _ rfl
    have hc3 := hold2_one (W := w) (g := w2.heap.size) (h := w6.heap.size) (cs := [.int .i64 k, .int .i64 r0, .int .i64 s0, .string n]) (ds := [.int .i64 tr, .int .i64 ts, .int .i64 tp, .int .i64 tx, .int .i64 ty, .int .i64 tf]) 3 _ rfl
    have hr0 := hold2_two (W := w) (g := w2.heap.size) (h := w6.heap.size) (cs := [.int .i64 k, .int .i64 r0, .int .i64 s0, .string n]) (ds := [.int .i64 tr, .int .i64 ts, .int .i64 tp, .int .i64 tx, .int .i64 ty, .int .i64 tf]) 0 _ rfl
    have hr1 := hold2_two (W := w) (g := w2.heap.size) (h := w6.heap.size) (cs := [.int .i64 k, .int .i64 r0, .int .i64 s0, .string n]) (ds := [.int .i64 tr, .int .i64 ts, .int .i64 tp, .int .i64 tx, .int .i64 ty, .int .i64 tf]) 1 _ rfl
    have hr2 := hold2_two (W := w) (g := w2.heap.size) (h := w6.heap.size) (cs := [.int .i64 k, .int .i64 r0, .int .i64 s0, .string n]) (ds := [.int .i64 tr, .int .i64 ts, .int .i64 tp, .int .i64 tx, .int .i64 ty, .int .i64 tf]) 2 _ rfl
    have hr3 := hold2_two (W := w) (g := w2.heap.size) (h := w6.heap.size) (cs := [.int .i64 k, .int .i64 r0, .int .i64 s0, .string n]) (ds := [.int .i64 tr, .int .i64 ts, .int .i64 tp, .int .i64 tx, .int .i64 ty, .int .i64 tf]) 3 _ rfl
    have hr4 := hold2_two (W := w) (g := w2.heap.size) (h := w6.heap.size) (cs := [.int .i64 k, .int .i64 r0, .int .i64 s0, .string n]) (ds := [.int .i64 tr, .int .i64 ts, .int .i64 tp, .int .i64 tx, .int .i64 ty, .int .i64 tf]) 4 _ rfl
    have hr5 := hold2_two (W := w) (g := w2.heap.size) (h := w6.heap.size) (cs := [.int .i64 k, .int .i64 r0, .int .i64 s0, .string n]) (ds := [.int .i64 tr, .int .i64 ts, .int .i64 tp, .int .i64 tx, .int .i64 ty, .int .i64 tf]) 5 _ rfl
    clear S0 TT b9 A0 C0 b0
    generalize w8.drew = V1 at *
    iterate 2 (refine line_read rfl (by kernel_rfl) (fun K hK => ?_); go_big_quiet_op; refine hK _ ?_; clear hK K)
    clear hc0 hc1 hc2 hc3 hr0 hr1 hr2 hr3 hr4 hr5
    have S4 : Hold2 w w2.heap.size [.int .i64 k, .int .i64 r0, .int .i64 s0, .string n] w6.heap.size [.int .i64 tr, .int .i64 ts, .int .i64 tp, .int .i64 tx, .int .i64 ty, .int .i64 tf] ((((V1.setCell ⟨w.heap.size, 0, none⟩ (.int .i64 k)).setCell ⟨w.heap.size, 1, none⟩ (.int .i64 r0)).setCell ⟨w.heap.size, 2, none⟩ (.int .i64 s0)).setCell ⟨w.heap.size, 3, none⟩ (.string n)) := by
      iterate 4 (refine Hold2.setB ?_ (by dsimp only; omega) (by dsimp only; omega) (by dsimp only; omega) _)
      exact hst
    have A4 : At w.heap.size [.int .i64 k, .int .i64 r0, .int .i64 s0, .string n] ((((V1.setCell ⟨w.heap.size, 0, none⟩ (.int .i64 k)).setCell ⟨w.heap.size, 1, none⟩ (.int .i64 r0)).setCell ⟨w.heap.size, 2, none⟩ (.int .i64 s0)).setCell ⟨w.heap.size, 3, none⟩ (.string n)) := (((A9.set 0 (.int .i64 k)).set 1 (.int .i64 r0)).set 2 (.int .i64 s0)).set 3 (.string n)
    have C4 : At (w.heap.size + 1) [.int .i64 0, .int .i64 0, .int .i64 0, .int .i64 0, .int .i64 0, .int .i64 0] ((((V1.setCell ⟨w.heap.size, 0, none⟩ (.int .i64 k)).setCell ⟨w.heap.size, 1, none⟩ (.int .i64 r0)).setCell ⟨w.heap.size, 2, none⟩ (.int .i64 s0)).setCell ⟨w.heap.size, 3, none⟩ (.string n)) := by
      iterate 4 (refine At.setB ?_ (by dsimp only; omega) _)
      exact C9
    have q0 := A9.cell 0 _ rfl
    have q1 := A9.cell 1 _ rfl
    have q2 := A9.cell 2 _ rfl
    have q3 := A9.cell 3 _ rfl
    have z0 := A9.free 0 _ rfl
    have z1 := A9.free 1 _ rfl
    have z2 := A9.free 2 _ rfl
    have z3 := A9.free 3 _ rfl
    refine line_alone rfl (by kernel_rfl) (fun K hK => ?_)
    go_big_op
    refine hK _ _ (S4) ?_
    clear hK K
    clear q0 q1 q2 q3 z0 z1 z2 z3 hst
    generalize ((((V1.setCell ⟨w.heap.size, 0, none⟩ (.int .i64 k)).setCell ⟨w.heap.size, 1, none⟩ (.int .i64 r0)).setCell ⟨w.heap.size, 2, none⟩ (.int .i64 s0)).setCell ⟨w.heap.size, 3, none⟩ (.string n)) = V4 at *
    have hst := S4
    have S10 : Hold2 w w2.heap.size [.int .i64 k, .int .i64 r0, .int .i64 s0, .string n] w6.heap.size [.int .i64 tr, .int .i64 ts, .int .i64 tp, .int .i64 tx, .int .i64 ty, .int .i64 tf] ((((((V4.setCell ⟨(w.heap.size + 1), 0, none⟩ (.int .i64 tr)).setCell ⟨(w.heap.size + 1), 1, none⟩ (.int .i64 ts)).setCell ⟨(w.heap.size + 1), 2, none⟩ (.int .i64 tp)).setCell ⟨(w.heap.size + 1), 3, none⟩ (.int .i64 tx)).setCell ⟨(w.heap.size + 1), 4, none⟩ (.int .i64 ty)).setCell ⟨(w.heap.size + 1), 5, none⟩ (.int .i64 tf)) := by
      iterate 6 (refine Hold2.setB ?_ (by dsimp only; omega) (by dsimp only; omega) (by dsimp only; omega) _)
      exact S4
    have q0 := C4.cell 0 _ rfl
    have q1 := C4.cell 1 _ rfl
    have q2 := C4.cell 2 _ rfl
    have q3 := C4.cell 3 _ rfl
    have q4 := C4.cell 4 _ rfl
    have q5 := C4.cell 5 _ rfl
    have z0 := C4.free 0 _ rfl
    have z1 := C4.free 1 _ rfl
    have z2 := C4.free 2 _ rfl
    have z3 := C4.free 3 _ rfl
    have z4 := C4.free 4 _ rfl
    have z5 := C4.free 5 _ rfl
    have HB := Lib.hid S10.bel
    refine line_alone rfl (by kernel_rfl) (fun K hK => ?_)
    go_big_op
    refine hK _ _ (S10) ?_
    clear hK K
    refine line_nil ?_
    have v0 := A4.cell 0 _ rfl
    have v1 := A4.cell 1 _ rfl
    have v2 := A4.cell 2 _ rfl
    have v3 := A4.cell 3 _ rfl
    clear inst hst S4 S10 A9 C9 A4 C4
    go_wp2_with fail
    refine bodyPost_ret (v := .tuple #[.agg #[.int .i64 k, .int .i64 r0, .int .i64 s0, .string n], .agg #[.int .i64 tr, .int .i64 ts, .int .i64 tp, .int .i64 tx, .int .i64 ty, .int .i64 tf]]) (by simp [results, Tryz.results70, go_sem, v0, v1, v2, v3, q0, q1, q2, q3, q4, q5]) rfl ?_
    exact ⟨_, _, _, _, _, _, _, _, _, _, rfl, hn', HB.out⟩
end Go.Proofs.YtlodhleihnlchaaGreatDoor
