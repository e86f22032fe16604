/- Texts of this seat that several laws rest on, laid into one. Conditions: as each theorem states. -/
import Derived.Test.YtlodhleihnlchaaGreatDoorX5
import Derived.Shelf.Abstract
import Derived.Test.YtlodhleihnlchaaGreatDoorProg
import Derived.Shelf.Small.Strs
import Derived.Shelf.Small.Bits
import Derived.Shelf.SlSortCmp.SmallK
import Derived.Sort.LotA
namespace Go.Proofs.YtlodhleihnlchaaGreatDoor
open Go.RowKit
set_option maxRecDepth 100000
set_option linter.unusedVariables false

theorem pin_info : (Tryz.prog.info? 59).map (fun i => (i.zero, i.size, i.bytes)) = some (some (P5 pin0), 5, 48) := by kernel_rfl
end Go.Proofs.YtlodhleihnlchaaGreatDoor
namespace Go.Proofs.YtlodhleihnlchaaGreatDoor
open Go.RowKit Go.Maps Go.Sort
set_option maxRecDepth 100000
set_option linter.unusedVariables false
attribute [local go_sem] Oper.semAt_some

theorem wpListIn_append_src {F : Fence} {nn : Nat} {P : Program} (w : World) {ops : Array Oper} {rest : List Oper} {o : Oper} {a : Act} {Q : Exit → Act → World → Prop} (hgd : o.guard = none) (s y : Operand) (t tx : TypeId)
    (ho : o.op = .call { callee := .builtin .append, args := #[s, y], argTypes := #[t, tx] })
    (B : Nat) (e : TypeId) (i : TypeInfo) (z : Value) (size bytes : Nat) (ht : P.underlying t = some (.slice e)) (hi : P.info? e = some i) (hz : i.zero = some z)
    (hsize : i.size = size) (hby : i.bytes = bytes) (hzs : z.cells.size = size)
    (v : Value) (n : Nat) (xs : List Value) (hsv : a.eval s = v) (hown : Own w B size v n xs)
    (x : Value) (m : Nat) (news : List Value) (hx : a.eval y = x) (hs : Go.Src P size tx x m news w)
    (h63 : n + m ≤ maxLen) (hbytes : (n + m) * bytes ≤ 140737488355328) (hB : B ≤ w.heap.size)
    (h : ∀ v' w', Own w' B size v' (n + m) (xs ++ news) → w.grownBy w' v.ownBlock → (v'.ownBlock = v.ownBlock ∨ v'.ownBlock = some w.heap.size) → wpListIn F nn P ops Q rest (a.put o.dst v') w') : wpListIn F nn P ops Q (o :: rest) a w := by
  refine wpListIn_plain hgd fun K hK' => ?_
  obtain ⟨v', w', hr, h2, h3, h4⟩ := run_append_src (P := P) w B t tx o.type e i z size bytes ht hi hz hsize hby hzs v n xs hown x m news hs h63 hbytes hB
  unfold Oper.wpIn
  refine ⟨?_, ?_⟩
  · simp [Oper.about, ho, resolve, Target.leads, Sem.run_pure]
  · rw [Oper.semAt_plain F _ _ (by rw [ho]; intro c hc'; cases hc')]
    simp [execOp, ho, resolve, invoke, builtin, hsv, hx, hr, Result.andThen]
    exact hK' _ _ (h v' w' h2 h3 h4)
theorem src_new5 {P : Program} (w : World) (p : PinD) (t tx e' : TypeId) (hk : P.underlying tx = some (.slice e')) :
    Go.Src P 5 tx (.slice (some ⟨w.heap.size, 0, none⟩) 1 1) 1 p.vals (w.alloc (.cells #[.string p.n, .int .i64 p.a, .int .i64 p.b, .int .i64 p.e, .int .i64 p.u] t)) := by
  refine Src.ofSlice _ hk _ _ _ _ rfl (fun j u hu => ?_) (pin_oneCell p)
  have A : At w.heap.size p.vals (w.alloc (.cells #[.string p.n, .int .i64 p.a, .int .i64 p.b, .int .i64 p.e, .int .i64 p.u] t)) := At.new w p.vals t
  rw [Addr.add_lit, Nat.zero_add]
  exact A.cell j u hu
theorem values_any (b : Nat) (w : World) : Calls Tryz.prog 267 #[.map (some b)] w fun e w' =>
    e = .returned (.func (.func 302) #[] #[.pointer (some ⟨w.heap.size, 0, none⟩)]) ∧ w' = w.alloc (.cells #[.map (some b)] 204) := by
  go_enter Tryz.func267, Tryz.ntmps267
  go_wp2_with fail
  go_ret
  exact ⟨rfl, rfl⟩
structure ApI (w : World) (bx : Nat) (pre : List PinD) (W : World) : Prop where
  box : ∃ v, At bx [v] W ∧ OwnP W w.heap.size v pre ∧ (pre = [] → v = .slice none 0 0) ∧ v.ownBlock ≠ some bx
  bel : Below w.heap.size w W
  lt : w.heap.size ≤ bx
theorem Own.isCells {w : World} {B size : Nat} {v : Value} {n : Nat} {xs : List Value} (h : Own w B size v n xs) (hn : 0 < n) (hs : 0 < size) : ∀ (j : Nat) (o : Obj), v.ownBlock = some j → w.heap[j]? = some o → o.isCells = true := by
  intro j o hj ho
  rcases h.2 with ⟨rfl, h0⟩ | ⟨g, cap, rfl, _, _, h1, _, _, hroom⟩
  · omega
  · simp [Value.ownBlock] at hj
    subst hj
    have : 0 < cap * size := Nat.mul_pos (by omega) hs
    have hc := (hroom 0 this).1
    unfold World.cell? at hc
    rw [ho] at hc
    cases o <;> simp_all [Obj.isCells]
theorem ApI.from {w : World} {bx B : Nat} (hB : bx < B) : OwnFrom B (ApI w bx) := fun s W W' row hs hgr hr => by
  obtain ⟨v, hA, hO, hn, hv⟩ := hs.box
  have hne : ∀ k, row = some k → k ≠ bx := fun k e h => by have := (hr k e).1; omega
  refine ⟨⟨v, hA.keep (fun hl => hgr.block bx hl (fun e => hne bx e.symm rfl)), ?_, hn, hv⟩, ?_, hs.lt⟩
  · refine Own.keep hO hgr.size (fun k hk => hgr.block k (Own.lt hO k hk).2 (fun e => ?_))
    obtain ⟨hB', o, ho, hc⟩ := hr k e.symm
    cases s with
    | nil => rw [hn rfl] at hk; simp [Value.ownBlock] at hk
    | cons p r =>
      have := Own.isCells hO (by simp) (by omega) k o hk ho
      rw [hc] at this
      cases this
  · exact hs.bel.grown hgr hs.bel.size (fun k e => by have := (hr k e).1; have := hs.lt; omega)

theorem At.isCells {g : Nat} {v : Value} {cs : List Value} {w : World} (h : At g (v :: cs) w) {o : Obj} (ho : w.heap[g]? = some o) : o.isCells = true := by
  have hc := h.cell 0 v rfl
  unfold World.cell? at hc
  rw [ho] at hc
  cases o <;> simp_all [Obj.isCells]
def BoxA (mk : Nat → Act) (bx : Nat) (x : PinD) (a' : Act) (W : World) : Prop := ∃ g, a' = mk g ∧ At g x.vals W
theorem BoxA.from {mk : Nat → Act} {bx B : Nat} (x : PinD) (a' : Act) : OwnFrom B (fun (_ : Unit) W => BoxA mk bx x a' W) := fun _ W W' row hs hgr hr => by
  obtain ⟨g, rfl, hA⟩ := hs
  refine ⟨g, rfl, hA.keep (fun hl => hgr.block g hl (fun e => ?_))⟩
  obtain ⟨_, o, ho, hc⟩ := hr g e.symm
  have := At.isCells (cs := [.int .i64 x.a, .int .i64 x.b, .int .i64 x.e, .int .i64 x.u]) hA ho
  rw [hc] at this
  cases this
theorem ApI.step {w W w3 : World} {bx : Nat} {pre : List PinD} {x : PinD} {v v3 : Value} {o : Obj} (h : ApI w bx pre W) (hA : At bx [v] W) (hO : OwnP W w.heap.size v pre) (hn : pre = [] → v = .slice none 0 0) (hv : v.ownBlock ≠ some bx)
    (hown : Own w3 w.heap.size 5 v3 (pre.length + 1) (flat pre ++ x.vals)) (hgrow : (W.alloc o).grownBy w3 v.ownBlock) (hat : v3.ownBlock = v.ownBlock ∨ v3.ownBlock = some (W.alloc o).heap.size) :
    ApI w bx (pre ++ [x]) (w3.setCell ⟨bx, 0, none⟩ v3) ∧ KeepsOthers W (w3.setCell ⟨bx, 0, none⟩ v3) := by
  have hlt := hA.lt (by simp)
  have hv3 : v3.ownBlock ≠ some bx := by
    rcases hat with e | e
    · rw [e]; exact hv
    · rw [e]; intro e2; injection e2 with e2; simp at e2; omega
  have hO2 : OwnP w3 w.heap.size v3 (pre ++ [x]) := by
    unfold OwnP
    rw [flat_append, List.length_append]
    simpa [flat] using hown
  have hb3 : Below w.heap.size w w3 := (bal h.bel o).grown hgrow (bal h.bel o).size (fun k e => (Own.lt hO k e).1)
  have hA3 : At bx [v] w3 := (hA.alloc o).kept hgrow (fun e => hv e.symm)
  refine ⟨⟨⟨v3, ?_, ?_, fun e => by simp at e, hv3⟩, bset hb3 h.lt v3, h.lt⟩, ?_⟩
  · have := hA3.set 0 v3
    simpa using this
  · exact Own.setCell hO2 (fun k hk e => hv3 (by rw [hk]; exact congrArg some e)) v3
  · refine ((KeepsOthers.alloc W o).trans (KeepsOthers.of_grownBy hgrow ?_)).trans (KeepsOthers.setCell _ _ _)
    intro j o' hj ho'
    cases pre with
    | nil => rw [hn rfl] at hj; simp [Value.ownBlock] at hj
    | cons p r => exact Own.isCells (OwnP.alloc hO o) (by simp) (by omega) j o' hj ho'

set_option maxHeartbeats 4000000 in
theorem appendSeq_any (b Bm : Nat) (ps : List PinD) (w : World) (hBm : Bm < w.heap.size) (cm : w.cell? ⟨Bm, 0, none⟩ = some (.map (some b))) (hM : PMap w b ps) (hl : ps.length ≤ 1000) :
    Calls Tryz.prog 318 #[.slice none 0 0, .func (.func 302) #[] #[.pointer (some ⟨Bm, 0, none⟩)]] w fun e w' =>
      ∃ v xs, e = .returned v ∧ xs.Perm ps ∧ OwnP w' w.heap.size v xs ∧ Below w.heap.size w w' := by
  obtain ⟨i0, hi0, hz0, hz1, hz2⟩ := info_parts pin_info
  refine (callsIn_wide (n := 5)).1 ?_
  refine callsIn_of_wp_marks Tryz.func318 rfl trivial ?_ rfl
  simp only [Tryz.ntmps318, List.size_toArray, List.length_cons, List.length_nil, Nat.reduceAdd, Nat.reduceSub, Array.replicate_succ, Array.replicate_zero, List.push_toArray, List.append_toArray, List.nil_append, List.cons_append]
  refine wpIn_wide.2 ?_
  go_wp2_with fail
  have b0 := bal (Below.refl _ w) (.cells #[.slice none 0 0] 53)
  have X0 := At.new w [.slice none 0 0] 53
  have I0 : ApI w w.heap.size [] (w.alloc (.cells #[.slice none 0 0] 53)) := ⟨⟨_, X0, OwnP.nil _ _, fun _ => rfl, by simp [Value.ownBlock]⟩, b0, Nat.le_refl _⟩
  have hB0 : Bm < (w.alloc (.cells #[.slice none 0 0] 53)).heap.size := by simp; omega
  have hsz0 : (w.alloc (.cells #[.slice none 0 0] 53)).heap.size = w.heap.size + 1 := by simp
  have hS := values_stops (5 - 1) (by omega) Bm b ps w hBm cm hM
  clear X0
  generalize w.alloc (.cells #[.slice none 0 0] 53) = w1 at *
  refine (wpIn_wide (n := 5)).1 ?_
  refine wpIn_rangeFunc_ownH rfl (by omega) (gf := 302) (lb := #[.pointer (some ⟨Bm, 0, none⟩)]) rfl trivial (enters_of Tryz.func302 (by kernel_rfl) rfl)
    hS (fun h k => h.trans k) (walksK_b (w := w1)) b0 (fun _ => rfl)
    (ApI w w.heap.size) (fun _ _ _ => False) (ApI.from (by omega)) (fun _ _ _ _ _ hs _ _ => hs) I0
    (fun x a' W => ∃ g, a' = { tmps := #[.slice none 0 0, .func (.func 302) #[] #[.pointer (some ⟨Bm, 0, none⟩)], .pointer (some ⟨w.heap.size, 0, none⟩), undef, .slice none 0 0, .pointer (some ⟨g, 0, none⟩), .func (.func 302) #[] #[.pointer (some ⟨Bm, 0, none⟩)], P5 x, undef, undef, undef, undef, undef], defers := [] } ∧ At g x.vals W)
    (fun x a' => BoxA.from (mk := fun g => { tmps := #[.slice none 0 0, .func (.func 302) #[] #[.pointer (some ⟨Bm, 0, none⟩)], .pointer (some ⟨w.heap.size, 0, none⟩), undef, .slice none 0 0, .pointer (some ⟨g, 0, none⟩), .func (.func 302) #[] #[.pointer (some ⟨Bm, 0, none⟩)], P5 x, undef, undef, undef, undef, undef], defers := [] }) (bx := 0) x a') ?assign ?body ?done ?stop
  case assign =>
    intro l pre x W K hI hK
    gi_wp2
    exact hK _ _ ((KeepsOthers.alloc W _).from _) (KeepsWalks.alloc W _) (OwnFrom.alloc (ApI.from (B := w.heap.size + 1) (by omega)) _ hI) ⟨W.heap.size, rfl, At.new W x.vals 59⟩
  case body =>
    rintro l pre x a' W - - hI ⟨g, rfl, hAg⟩ hlen
    obtain ⟨v, hAx, hO, hn, hv⟩ := hI.box
    obtain ⟨a0, c0, rfl, -⟩ := hO.form
    have hsrc := src_new5 (P := Tryz.prog) W x 59 53 59 Tryz.underlying53
    have x0 := hAx.cell 0 _ rfl
    have hbs := hI.bel.size
    have S3 := Lib.hid (fun (w3 : World) (v3 : Value) => hI.step (w3 := w3) (v3 := v3) (x := x) (o := .cells #[.string x.n, .int .i64 x.a, .int .i64 x.b, .int .i64 x.e, .int .i64 x.u] 59) hAx hO hn hv)
    have A3' := Lib.hid (fun (w3 : World) (hgrow : (W.alloc (.cells #[.string x.n, .int .i64 x.a, .int .i64 x.b, .int .i64 x.e, .int .i64 x.u] 59)).grownBy w3 (Value.slice a0 pre.length c0).ownBlock) => (hAx.alloc (.cells #[.string x.n, .int .i64 x.a, .int .i64 x.b, .int .i64 x.e, .int .i64 x.u] 59)).kept hgrow (fun e => hv e.symm))
    have HO := Lib.hid hO
    have y0 := hAg.cell 0 _ rfl
    have y1 := hAg.cell 1 _ rfl
    have y2 := hAg.cell 2 _ rfl
    have y3 := hAg.cell 3 _ rfl
    have y4 := hAg.cell 4 _ rfl
    clear hO hn hI hAg hAx hS hM cm
    gi_wp2_with (first
      | (gi_at_builtin; refine wpListIn_append_src _ rfl (.tmp 8) (.tmp 10) 53 53 rfl w.heap.size 59 i0 (P5 pin0) 5 48 Tryz.underlying53 hi0 hz0 hz1 hz2 rfl _ _ _ rfl (Own.alloc HO.out _) _ 1 x.vals rfl hsrc (by simp only [maxLen]; omega) (by omega) (by simp; omega) ?_; intro v3 w3 hown hgrow hat
         have st := S3.out w3 v3 hown hgrow hat
         have A3 := A3'.out w3 hgrow
         have z0 := A3.cell 0 _ rfl
         have f0 := A3.free 0 _ rfl
         obtain ⟨a3, c3, rfl, -⟩ := Own.form hown
         go_frame)
      | gi_in)
    exact ⟨st.2.from _, st.2.walks, st.1⟩
  case done =>
    rintro D xs W hD hxs hI hdef
    obtain ⟨v, hAx, hO, hn, hv⟩ := hI.box
    have hb := hI.bel
    obtain ⟨a0, c0, rfl, -⟩ := hO.form
    have x0 := hAx.cell 0 _ rfl
    have HO := Lib.hid hO
    have HB := Lib.hid hb
    have HX := Lib.hid hxs
    have HN := Lib.hid hn
    have hDD : w.heap.size ≤ D := by omega
    have HD := Lib.hid hDD
    clear hO hn hI hAx hS hM cm hb hxs
    gi_wp2
    go_wp2_with fail
    refine ⟨by simp, .inl ⟨_, _, rfl, run_takeDeferred hdef, ?_⟩⟩
    have hgr := grownBy_putObj' W D (.deferred none)
    refine ⟨_, results_tmp rfl _ _ _, ?_⟩
    refine ⟨_, xs, rfl, HX.out, ?_, HB.out.trans (belowK_b (w := w) (Nat.le_refl _) W D _ _ HD.out hdef rfl rfl)⟩
    refine Own.keep HO.out hgr.size (fun q hq => hgr.block q (Own.lt HO.out q hq).2 (fun e => ?_))
    injection e with e
    subst e
    cases xs with
    | nil => rw [HN.out rfl] at hq; simp [Value.ownBlock] at hq
    | cons p r =>
      have := Own.isCells HO.out (by simp) (by omega) q _ hq hdef
      cases this
  case stop =>
    rintro D c' pre W _ _ h _
    exact h.elim

theorem collect_any (b Bm : Nat) (ps : List PinD) (w : World) (hBm : Bm < w.heap.size) (cm : w.cell? ⟨Bm, 0, none⟩ = some (.map (some b))) (hM : PMap w b ps) (hl : ps.length ≤ 1000) :
    Calls Tryz.prog 300 #[.func (.func 302) #[] #[.pointer (some ⟨Bm, 0, none⟩)]] w fun e w' =>
      ∃ v xs, e = .returned v ∧ xs.Perm ps ∧ OwnP w' w.heap.size v xs ∧ Below w.heap.size w w' := by
  have S := appendSeq_any b Bm ps w hBm cm hM hl
  clear hM cm
  go_enter Tryz.func300, Tryz.ntmps300
  go_wp2_with fail
  refine S.mono ?_
  rintro r u1 ⟨v, xs, rfl, hp, hO, b1⟩
  have HO := Lib.hid hO
  obtain ⟨a0, c0, rfl, -⟩ := hO.form
  clear hO
  go_wp2_with fail
  go_ret
  exact ⟨_, xs, rfl, hp, HO.out, b1⟩
end Go.Proofs.YtlodhleihnlchaaGreatDoor
namespace Go.Proofs.YtlodhleihnlchaaGreatDoor
open Go.Shelf
def lays106_ren : Go.Shelf.Ren := ⟨fun | 106 => 269 | 213 => 303 | 265 => 321 | n => n, fun | 9 => 9 | 3 => 3 | n => n, fun | n => n⟩
theorem lays106 : Go.Proofs.Lays.n106 Tryz.prog lays106_ren := {
  mixed := by kernel_rfl
  f106 := Tryz.func269.trans (congrArg some (by kernel_rfl))
  f213 := Tryz.func303.trans (congrArg some (by kernel_rfl))
  f265 := Tryz.func321.trans (congrArg some (by kernel_rfl))
  t3 := Tryz.underlying3
  a3 := Tryz.isAgg3
  z3 := Tryz.sizeOf3
  v3 := Tryz.zeroValue3
  t9 := Tryz.underlying9
  a9 := Tryz.isAgg9
  z9 := Tryz.sizeOf9
  v9 := Tryz.zeroValue9 }
def lays125_ren : Go.Shelf.Ren := ⟨fun | 125 => 320 | 128 => 335 | 129 => 336 | n => n, fun | 46 => 324 | 3 => 3 | 51 => 271 | 53 => 415 | 4 => 4 | 5 => 5 | 9 => 9 | n => n, fun | n => n⟩
theorem lays125 : Go.Proofs.Lays.n125 Tryz.prog lays125_ren := {
  mixed := by kernel_rfl
  f125 := Tryz.func320.trans (congrArg some (by kernel_rfl))
  f128 := Tryz.func335.trans (congrArg some (by kernel_rfl))
  f129 := Tryz.func336.trans (congrArg some (by kernel_rfl))
  t3 := Tryz.underlying3
  a3 := Tryz.isAgg3
  z3 := Tryz.sizeOf3
  v3 := Tryz.zeroValue3
  t4 := Tryz.underlying4
  a4 := Tryz.isAgg4
  z4 := Tryz.sizeOf4
  v4 := Tryz.zeroValue4
  t5 := Tryz.underlying5
  a5 := Tryz.isAgg5
  z5 := Tryz.sizeOf5
  v5 := Tryz.zeroValue5
  t9 := Tryz.underlying9
  a9 := Tryz.isAgg9
  z9 := Tryz.sizeOf9
  v9 := Tryz.zeroValue9
  t46 := Tryz.underlying324
  a46 := Tryz.isAgg324
  z46 := Tryz.sizeOf324
  v46 := Tryz.zeroValue324
  t51 := Tryz.underlying271
  a51 := Tryz.isAgg271
  z51 := Tryz.sizeOf271
  v51 := Tryz.zeroValue271
  t53 := Tryz.underlying415
  a53 := Tryz.isAgg415
  z53 := Tryz.sizeOf415
  v53 := Tryz.zeroValue415 }
def laysSort_ren : Go.Shelf.Ren := ⟨fun | 6 => 301 | 15 => 320 | 14 => 319 | 28 => 335 | 29 => 336 | 20 => 327 | 21 => 328 | 22 => 329 | 23 => 330 | 24 => 331 | 25 => 332 | 26 => 333 | 27 => 334 | 46 => 340 | 47 => 341 | 48 => 342 | 49 => 343 | 50 => 344 | 57 => 345 | n => n, fun | 22 => 53 | 24 => 59 | 25 => 330 | 3 => 3 | 39 => 324 | 0 => 0 | 53 => 271 | 55 => 415 | 4 => 4 | 46 => 407 | 45 => 406 | 50 => 411 | 5 => 5 | 9 => 9 | 66 => 423 | 70 => 427 | 76 => 433 | 77 => 434 | n => n, fun | n => n⟩
theorem laysSort : Go.Proofs.SlLaysF0.n6 Tryz.prog laysSort_ren := {
  mixed := by kernel_rfl
  f6 := ⟨Tryz.f301.name, by decide, Tryz.func301.trans (congrArg some (by kernel_rfl))⟩
  f14 := ⟨Tryz.f319.name, by decide, Tryz.func319.trans (congrArg some (by kernel_rfl))⟩
  f15 := Tryz.func320.trans (congrArg some (by kernel_rfl))
  f20 := ⟨Tryz.f327.name, by decide, Tryz.func327.trans (congrArg some (by kernel_rfl))⟩
  f21 := ⟨Tryz.f328.name, by decide, Tryz.func328.trans (congrArg some (by kernel_rfl))⟩
  f22 := ⟨Tryz.f329.name, by decide, Tryz.func329.trans (congrArg some (by kernel_rfl))⟩
  f23 := ⟨Tryz.f330.name, by decide, Tryz.func330.trans (congrArg some (by kernel_rfl))⟩
  f24 := ⟨Tryz.f331.name, by decide, Tryz.func331.trans (congrArg some (by kernel_rfl))⟩
  f25 := ⟨Tryz.f332.name, by decide, Tryz.func332.trans (congrArg some (by kernel_rfl))⟩
  f26 := ⟨Tryz.f333.name, by decide, Tryz.func333.trans (congrArg some (by kernel_rfl))⟩
  f27 := ⟨Tryz.f334.name, by decide, Tryz.func334.trans (congrArg some (by kernel_rfl))⟩
  f28 := Tryz.func335.trans (congrArg some (by kernel_rfl))
  f29 := Tryz.func336.trans (congrArg some (by kernel_rfl))
  f46 := ⟨Tryz.f340.name, by decide, Tryz.func340.trans (congrArg some (by kernel_rfl))⟩
  f47 := Tryz.func341.trans (congrArg some (by kernel_rfl))
  f48 := Tryz.func342.trans (congrArg some (by kernel_rfl))
  f49 := ⟨Tryz.f343.name, by decide, Tryz.func343.trans (congrArg some (by kernel_rfl))⟩
  f50 := ⟨Tryz.f344.name, by decide, Tryz.func344.trans (congrArg some (by kernel_rfl))⟩
  f57 := ⟨Tryz.f345.name, by decide, Tryz.func345.trans (congrArg some (by kernel_rfl))⟩
  t0 := Tryz.underlying0
  a0 := Tryz.isAgg0
  z0 := Tryz.sizeOf0
  v0 := Tryz.zeroValue0
  t3 := Tryz.underlying3
  a3 := Tryz.isAgg3
  z3 := Tryz.sizeOf3
  v3 := Tryz.zeroValue3
  t4 := Tryz.underlying4
  a4 := Tryz.isAgg4
  z4 := Tryz.sizeOf4
  v4 := Tryz.zeroValue4
  t5 := Tryz.underlying5
  a5 := Tryz.isAgg5
  z5 := Tryz.sizeOf5
  v5 := Tryz.zeroValue5
  t9 := Tryz.underlying9
  a9 := Tryz.isAgg9
  z9 := Tryz.sizeOf9
  v9 := Tryz.zeroValue9
  t22 := Tryz.underlying53
  a22 := Tryz.isAgg53
  z22 := Tryz.sizeOf53
  v22 := Tryz.zeroValue53
  t25 := Tryz.underlying330
  a25 := Tryz.isAgg330
  z25 := Tryz.sizeOf330
  v25 := Tryz.zeroValue330
  t39 := Tryz.underlying324
  a39 := Tryz.isAgg324
  z39 := Tryz.sizeOf324
  v39 := Tryz.zeroValue324
  t45 := Tryz.underlying406
  a45 := Tryz.isAgg406
  z45 := Tryz.sizeOf406
  v45 := Tryz.zeroValue406
  t46 := Tryz.underlying407
  a46 := Tryz.isAgg407
  z46 := Tryz.sizeOf407
  v46 := Tryz.zeroValue407
  t50 := Tryz.underlying411
  a50 := Tryz.isAgg411
  z50 := Tryz.sizeOf411
  v50 := Tryz.zeroValue411
  t53 := Tryz.underlying271
  a53 := Tryz.isAgg271
  z53 := Tryz.sizeOf271
  v53 := Tryz.zeroValue271
  t55 := Tryz.underlying415
  a55 := Tryz.isAgg415
  z55 := Tryz.sizeOf415
  v55 := Tryz.zeroValue415
  t66 := Tryz.underlying423
  a66 := Tryz.isAgg423
  z66 := Tryz.sizeOf423
  v66 := Tryz.zeroValue423
  t70 := Tryz.underlying427
  a70 := Tryz.isAgg427
  z70 := Tryz.sizeOf427
  v70 := Tryz.zeroValue427
  t76 := Tryz.underlying433
  a76 := Tryz.isAgg433
  z76 := Tryz.sizeOf433
  v76 := Tryz.zeroValue433
  t77 := Tryz.underlying434
  a77 := Tryz.isAgg434
  z77 := Tryz.sizeOf434
  v77 := Tryz.zeroValue434 }
end Go.Proofs.YtlodhleihnlchaaGreatDoor
namespace Go.Proofs.YtlodhleihnlchaaGreatDoor
open Go.RowKit Go.Maps Go.Sort Go.Shelf
set_option maxRecDepth 100000
set_option linter.unusedVariables false

theorem flatK_get (ps : List PinD) (t : Nat) (h : t < ps.length * 5) : (flatK PinD.vals 5 ps.toArray)[t]! = ((ps[t / 5]?.getD pin0).vals)[t % 5]! := by
  rw [get_flatK _ _ _ _ (by simpa using h)]
  have h5 : t / 5 < ps.length := by omega
  congr 2
  simp [h5]
theorem vals_get (p : PinD) {i : Nat} (hi : i < 5) : p.vals[i]? = some p.vals[i]! := by
  rw [List.getElem?_eq_getElem (by rw [PinD.vals_length]; exact hi), List.getElem!_eq_getElem?_getD, List.getElem?_eq_getElem (by rw [PinD.vals_length]; exact hi)]
  rfl
theorem OwnP.holds {w : World} {B g n c : Nat} {ps : List PinD} (h : OwnP w B (.slice (some ⟨g, 0, none⟩) n c) ps) : HoldsK PinD.vals 5 w g 0 ps.toArray := by
  intro j hj
  rw [size_flatK] at hj
  have hj' : j < ps.length * 5 := by simpa using hj
  have h5 : j / 5 < ps.length := by omega
  have hm : j % 5 < 5 := Nat.mod_lt _ (by omega)
  have hjj : j / 5 * 5 + j % 5 = j := by omega
  rw [flatK_get ps j hj']
  have := h.cell h5 (vals_get (ps[j / 5]?.getD pin0) hm)
  rw [hjj] at this
  rw [Nat.zero_add]
  exact this
theorem grownBy_sortK {w : World} {g m : Nat} {os : Array Obj} (d : Array PinD) : w.grownBy (sortWorldK PinD.vals 5 w g 0 m d os) (some g) := by
  refine ⟨rfl, rfl, rfl, by simp [sortWorldK, putRowK], fun k hk hne => ?_⟩
  unfold sortWorldK putRowK putRow mapBlock
  rw [heap_grow_old _ _ (by simpa using hk)]
  have : g ≠ k := fun e => hne (by rw [e])
  simp [Array.getElem?_modify, this]
theorem OwnP.sorted {w : World} {B g n c m : Nat} {xs ys : List PinD} {os : Array Obj} (h : OwnP w B (.slice (some ⟨g, 0, none⟩) n c) xs) (hl : ys.length = xs.length) :
    OwnP (sortWorldK PinD.vals 5 w g 0 m ys.toArray os) B (.slice (some ⟨g, 0, none⟩) n c) ys := by
  have hH := h.holds
  rcases h.2 with ⟨e, h0⟩ | ⟨g', c', e, hB, hg, hn, hm, hcell, hroom⟩
  · cases e
  injection e with e1 e2 e3
  injection e1 with e1
  injection e1 with e1 _ _
  subst e1
  subst e3
  have hK : HoldsK PinD.vals 5 (sortWorldK PinD.vals 5 w g 0 m ys.toArray os) g 0 ys.toArray :=
    holdsK_grow _ _ _ _ _ _ _ (by simp [putRowK]; exact hg) (holdsK_putRowK _ _ _ _ _ xs.toArray _ (holdsK_ahead _ _ _ _ _ _ _ hH) (by simpa using hl))
  refine ⟨by rw [flat_length], .inr ⟨g, c, by rw [e2, hl], hB, ?_, by omega, hm, fun j u hu => ?_, fun j hj => ?_⟩⟩
  · simp [sortWorldK, putRowK]; omega
  · have hj := (List.getElem?_eq_some_iff.1 hu).1
    rw [flat_length] at hj
    have h5 : j / 5 < ys.length := by omega
    have hm5 : j % 5 < 5 := Nat.mod_lt _ (by omega)
    have hjj : j / 5 * 5 + j % 5 = j := by omega
    have q1 := flat_get ys (j / 5) (j % 5) _ h5 (vals_get _ hm5)
    rw [hjj, hu] at q1
    injection q1 with q1
    have := (hK j (by rw [size_flatK]; simpa using hj)).1
    rw [flatK_get ys j hj, Nat.zero_add] at this
    rw [q1]
    exact this
  · by_cases hj5 : j < ys.length * 5
    · have := hK j (by rw [size_flatK]; simpa using hj5)
      rw [Nat.zero_add] at this
      exact ⟨by rw [this.1]; rfl, this.2⟩
    · obtain ⟨q1, q2⟩ := hroom j hj
      have hgw : g < (putRowK PinD.vals 5 (Sort.ahead w m) g 0 ys.toArray).heap.size := by simp [putRowK]; exact hg
      unfold sortWorldK
      rw [cell?_grow _ _ ⟨g, j, none⟩ hgw, frozen?_grow _ _ ⟨g, j, none⟩ hgw]
      unfold putRowK
      rw [frozen?_putRow, cell?_putRow_other _ _ _ _ _ ⟨g, j, none⟩ (.inr (.inr (by rw [size_flatK]; simp; omega)))]
      exact ⟨q1, q2⟩

theorem cmpPin_any (p q : PinD) (W : World) : Calls Tryz.prog 268 #[P5 p, P5 q] W fun e w' => e = .returned (.int .i64 (Lib.compareBytes p.nm q.nm)) ∧ ∃ n os', w' = grow (W.drewN n) os' := by
  have hcon : ∀ W', Calls Tryz.prog 269 #[.string p.n, .string q.n] W' fun e w' => e = .returned (.int .i64 (Lib.compareBytes p.nm q.nm)) ∧ w' = W' := fun W' => Any.strings_Compare lays106 p.n q.n W'
  generalize Lib.compareBytes p.nm q.nm = r at hcon ⊢
  go_enter Tryz.func268, Tryz.ntmps268
  go_wp2_with fail
  refine (hcon _).mono ?_
  rintro e w' ⟨rfl, rfl⟩
  go_wp2_with fail
  go_ret
  exact ⟨rfl, 0, _, by rw [alloc_eq_grow, alloc_eq_grow, grow_grow]; rfl⟩
def cfP (p q : PinD) : Int := Lib.compareBytes p.nm q.nm
theorem ltOf_cfP (p q : PinD) : ltOf cfP p q = nlt p.nm q.nm := cmp_lt p.nm q.nm
theorem swo_cfP : SWO (ltOf cfP) where
  irrefl x := by rw [ltOf_cfP]; exact nlt_irrefl _
  trans x y z h1 h2 := by rw [ltOf_cfP] at *; exact nlt_trans h1 h2
  ntrans x y z h1 h2 := by
    rw [ltOf_cfP] at *
    cases h : nlt x.nm z.nm
    · rfl
    · by_cases e : x.nm = y.nm
      · rw [e, h2] at h; cases h
      · have h3 := nlt_trans (nlt_total h1 e) h
        rw [h2] at h3
        cases h3
theorem sortFunc_any (blk cap : Nat) (xs : List PinD) (w : World) (hH : HoldsK PinD.vals 5 w blk 0 xs.toArray) (hb : blk < w.heap.size) (h12 : xs.length ≤ 12) :
    Calls Tryz.prog 301 #[.slice (some ⟨blk, 0, none⟩) xs.length cap, .func (.func 268) #[] #[]] w fun e w' =>
      e = .returned (.tuple #[]) ∧ ∃ (ys : List PinD) (n : Nat) (os : Array Obj), ys.Perm xs ∧ ys.Pairwise (fun p q => nlt q.nm p.nm = false) ∧ w' = sortWorldK PinD.vals 5 w blk 0 n ys.toArray os := by
  have eg : ∀ args w, (callFunc 268 args).run Tryz.prog w = .ok (.enter 268 args) w := enters_of Tryz.func268 (by kernel_rfl) rfl
  have hlen : ∀ (n : Nat) (W : World), n ≤ 12 → Calls Tryz.prog 320 #[.int .u64 n] W fun e w' => (∃ l : Int, e = .returned (.int .i64 l)) ∧ w' = W := fun n W h => (Any.bits_Len lays125 n W (by omega) (by omega)).mono fun _ _ ⟨he, hw⟩ => ⟨⟨_, he⟩, hw⟩
  have hcon := AnyQ.slices_SortFunc_small_sorted laysSort 5 Tryz.isAgg59 Tryz.sizeOf59 PinD.vals (fun _ => rfl) pin_oneCell cfP 268 #[] swo_cfP blk 0 cap xs.toArray w eg (fun _ _ _ _ x y => cmpPin_any x y _) hH hb (by simpa using h12) hlen
  simp only [List.size_toArray] at hcon
  refine Calls.mono (show Calls Tryz.prog 301 _ _ _ from hcon) ?_
  rintro e w' ⟨rfl, d', n, os, ⟨p1, p2, p3⟩, hs, rfl⟩
  refine ⟨rfl, d'.toList, n, os, ?_, ?_, by simp⟩
  · have e1 : d'.extract 0 xs.length = d' := by rw [Array.extract_eq_self_iff]; right; exact ⟨rfl, by simp at p1; omega⟩
    rw [e1] at p3
    simpa using p3
  · rw [List.pairwise_iff_getElem]
    intro i j hi hj hij
    have := hs i j (Nat.zero_le _) hij (by simp at p1 hj; omega)
    rw [ltOf_cfP] at this
    simp at hi hj
    simpa [hi, hj] using this

theorem OwnP.some' {w : World} {B : Nat} {v : Value} {xs : List PinD} (h : OwnP w B v xs) (hx : 0 < xs.length) : ∃ g c, v = .slice (some ⟨g, 0, none⟩) xs.length c ∧ B ≤ g ∧ g < w.heap.size := by
  rcases h.2 with ⟨e, h0⟩ | ⟨g, c, e, hB, hg, _⟩
  · omega
  · exact ⟨g, c, e, hB, hg⟩
theorem rise_of {xs ys ps : List PinD} (hp : ys.Perm ps) (ha : Apart ps) (h : ys.Pairwise (fun p q => nlt q.nm p.nm = false)) : Rise ys := by
  have ha' : Apart ys := (hp.symm.pairwise_iff (fun {a b} (h : a.nm ≠ b.nm) => h.symm)).1 ha
  exact (ha'.and h).imp fun ⟨h1, h2⟩ => nlt_total h2 (fun e => h1 e.symm)
def Sorted (ps : List PinD) (w : World) (e : Ending) (w' : World) : Prop := ∃ g c ys, e = .returned (.slice (some ⟨g, 0, none⟩) ys.length c) ∧ ys.Perm ps ∧ Rise ys ∧ OwnP w' w.heap.size (.slice (some ⟨g, 0, none⟩) ys.length c) ys ∧ Below w.heap.size w w'
theorem sortedFunc_any (b Bm : Nat) (ps : List PinD) (w : World) (hBm : Bm < w.heap.size) (cm : w.cell? ⟨Bm, 0, none⟩ = some (.map (some b))) (hM : PMap w b ps) (hl : ps.length ≤ 12) (h0 : 0 < ps.length) :
    Calls Tryz.prog 266 #[.func (.func 302) #[] #[.pointer (some ⟨Bm, 0, none⟩)], .func (.func 268) #[] #[]] w (Sorted ps w) := by
  have ha := hM.apart
  have S := collect_any b Bm ps w hBm cm hM (by omega)
  clear hM cm
  go_enter Tryz.func266, Tryz.ntmps266
  go_wp2_with fail
  refine S.mono ?_
  rintro r u1 ⟨v, xs, rfl, hp, hO, b1⟩
  have hlx := hp.length_eq
  obtain ⟨g, c, rfl, hg0, hg1⟩ := hO.some' (by omega)
  have T := sortFunc_any g c xs u1 hO.holds hg1 (by omega)
  have HO := Lib.hid hO
  have HP := Lib.hid hp
  clear hO S hlx hp
  go_wp2_with fail
  refine T.mono ?_
  rintro r u2 ⟨rfl, ys, n, os, hq, hs, hw⟩
  have hl2 : xs.length = ys.length := hq.length_eq.symm
  have O2 : OwnP u2 w.heap.size (.slice (some ⟨g, 0, none⟩) xs.length c) ys := by
    rw [hw]
    exact HO.out.sorted (m := n) (os := os) (ys := ys) hq.length_eq
  have b2 : RowKit.Below w.heap.size w u2 := by
    rw [hw]
    exact b1.grown (grownBy_sortK (w := u1) (g := g) (m := n) (os := os) ys.toArray) b1.size (fun k e => by injection e with e; subst e; exact hg0)
  have H : Sorted ps w (.returned (.slice (some ⟨g, 0, none⟩) xs.length c)) u2 := ⟨g, c, ys, by rw [hl2], hq.trans HP.out, rise_of (xs := xs) (hq.trans HP.out) ha hs, by rw [← hl2]; exact O2, b2⟩
  have HH := Lib.hid H
  clear O2 b2 hs T HO hw H hq hl2
  go_wp2_with fail
  go_ret
  exact HH.out
theorem risingPins_any (b : Nat) (ps : List PinD) (w : World) (hM : PMap w b ps) (hl : ps.length ≤ 12) (h0 : 0 < ps.length) :
    Calls Tryz.prog 211 #[.map (some b)] w (Sorted ps w) := by
  have b0 := bal (Below.refl _ w) (.cells #[.map (some b)] 204)
  have X0 := (At.new w [.map (some b)] 204).cell 0 _ rfl
  have S := sortedFunc_any b w.heap.size ps _ (by simp) X0 (hM.alloc _) hl h0
  clear X0 hM
  go_enter Tryz.func211, Tryz.ntmps211
  go_wp2_with fail
  refine (values_any b _).mono ?_
  rintro r u1 ⟨rfl, rfl⟩
  go_wp2_with fail
  refine S.mono ?_
  rintro r u2 ⟨g, c, ys, rfl, hp, hr, hO, b2⟩
  have bb := btr b0 b2
  have hO2 := hO.less b0.size
  have H := Lib.hid (show Sorted ps w (.returned (.slice (some ⟨g, 0, none⟩) ys.length c)) u2 from ⟨g, c, ys, rfl, hp, hr, hO2, bb⟩)
  clear hO hO2 hr b2 bb
  go_wp2_with fail
  go_ret
  exact H.out
end Go.Proofs.YtlodhleihnlchaaGreatDoor
namespace Go.Proofs.YtlodhleihnlchaaGreatDoor
open Go.RowKit
set_option maxRecDepth 100000
set_option linter.unusedVariables false

def PinsRes (c : Int) (ps : List PinD) (w : World) (e : Ending) (w' : World) : Prop := ∃ a n cap, e = .returned (.agg #[.int .i64 c, .slice a n cap]) ∧ OwnP w' w.heap.size (.slice a n cap) ps ∧ Below w.heap.size w w'
theorem At.turned {g b : Nat} {cs : List Value} {w w' : World} (h : At g cs w) (ht : w.mapTurned w' b) (hne : g ≠ b) : At g cs w' := h.kept ht.grown (fun e => by injection e with e; exact hne e)
theorem putC_list {ps : List PinD} {p : PinD} (h : pinsF ps ≠ 0) : putC ps p = pinsF ps ∧ putR ps p = [] := by
  have e : putC ps p = pinsF ps := by unfold putC; rw [if_pos h]
  exact ⟨e, by unfold putR; rw [e, if_neg h]⟩
theorem putC_pin {ps : List PinD} {p : PinD} (h0 : pinsF ps = 0) (h : p.f ≠ 0) : putC ps p = p.f ∧ putR ps p = [] := by
  have e : putC ps p = p.f := by unfold putC; rw [if_neg (fun h => h h0), if_pos h]
  exact ⟨e, by unfold putR; rw [e, if_neg h]⟩
theorem putC_old {ps : List PinD} {p q : PinD} (h0 : pinsF ps = 0) (h1 : p.f = 0) (hq : findP ps p.nm = some q) (h : p.e ≤ q.e) : putC ps p = 11 ∧ putR ps p = [] := by
  have e : putC ps p = 11 := by unfold putC; rw [if_neg (fun h => h h0), if_neg (fun h => h h1), hq]; simp only; rw [if_pos h]
  exact ⟨e, by unfold putR; rw [e, if_neg (by decide)]⟩
theorem putC_young {ps : List PinD} {p q : PinD} (h0 : pinsF ps = 0) (h1 : p.f = 0) (hq : findP ps p.nm = some q) (h : ¬ p.e ≤ q.e) : putC ps p = 0 ∧ putR ps p = putL ps p := by
  have e : putC ps p = 0 := by unfold putC; rw [if_neg (fun h => h h0), if_neg (fun h => h h1), hq]; simp only; rw [if_neg h]
  exact ⟨e, by unfold putR; rw [if_pos e]⟩
theorem putC_full {ps : List PinD} {p : PinD} (h0 : pinsF ps = 0) (h1 : p.f = 0) (hq : findP ps p.nm = none) (h : ps.length = 4) : putC ps p = 7 ∧ putR ps p = [] := by
  have e : putC ps p = 7 := by unfold putC; rw [if_neg (fun h => h h0), if_neg (fun h => h h1), hq]; simp only; rw [if_pos h]
  exact ⟨e, by unfold putR; rw [e, if_neg (by decide)]⟩
theorem putC_new {ps : List PinD} {p : PinD} (h0 : pinsF ps = 0) (h1 : p.f = 0) (hq : findP ps p.nm = none) (h : ps.length ≠ 4) : putC ps p = 0 ∧ putR ps p = putL ps p := by
  have e : putC ps p = 0 := by unfold putC; rw [if_neg (fun h => h h0), if_neg (fun h => h h1), hq]; simp only; rw [if_neg h]
  exact ⟨e, by unfold putR; rw [if_pos e]⟩
abbrev Others (ps : List PinD) (p : PinD) : List PinD := ps.filter fun q => !decide (q.nm = p.nm)
theorem others_ne {ps : List PinD} {p : PinD} : ∀ q ∈ Others ps p, q.nm ≠ p.nm := by
  intro q hq
  have := (List.mem_filter.1 hq).2
  simpa using this
theorem others_none {ps : List PinD} {p : PinD} (h : findP ps p.nm = none) : Others ps p = ps := List.filter_eq_self.2 fun q hq => by simpa using findP_none h q hq
theorem others_lt {ps : List PinD} {p q : PinD} (h : findP ps p.nm = some q) : (Others ps p).length < ps.length := by
  obtain ⟨h1, h2⟩ := findP_mem h
  have h3 := List.length_filter_le (fun q => !decide (q.nm = p.nm)) ps
  have h4 : (Others ps p).length ≠ ps.length := fun e => by
    have := (List.length_filter_eq_length_iff.1 e) q h1
    simp [h2] at this
  have : (Others ps p).length ≤ ps.length := h3
  omega
theorem put_eq {ps ys : List PinD} {p : PinD} (hr : Rise ps) (hp : ys.Perm (Others ps p ++ [p])) (hy : Rise ys) : ys = putL ps p := by
  refine rise_eq ?_ hy (putL_rise p hr)
  exact hp.trans ((List.perm_append_singleton p (Others ps p)).trans (putG_perm p ps).symm)

theorem implPutPin_any (a : Option Addr) (len cap B : Nat) (ps : List PinD) (p : PinD) (w : World) (hR : PRow w B a len cap ps) (hB : B ≤ w.heap.size) (hn : p.n.size ≤ maxLen) :
    Calls Tryz.prog 121 #[.slice a len cap, P5 p] w (PinsRes (putC ps p) (putR ps p) w) := by
  have hL := Lib.hid hR.length
  have b0 := bal (bal (Below.refl _ w) (.cells #[.string p.n, .int .i64 p.a, .int .i64 p.b, .int .i64 p.e, .int .i64 p.u] 59)) (.cells #[.int .i64 0, .slice none 0 0] 192)
  have A1 : At w.heap.size p.vals ((w.alloc (.cells #[.string p.n, .int .i64 p.a, .int .i64 p.b, .int .i64 p.e, .int .i64 p.u] 59)).alloc (.cells #[.int .i64 0, .slice none 0 0] 192)) := (At.new w p.vals 59).alloc _
  have A2 := At.new (w.alloc (.cells #[.string p.n, .int .i64 p.a, .int .i64 p.b, .int .i64 p.e, .int .i64 p.u] 59)) [.int .i64 0, .slice none 0 0] 192
  rw [show (w.alloc (.cells #[.string p.n, .int .i64 p.a, .int .i64 p.b, .int .i64 p.e, .int .i64 p.u] 59)).heap.size = w.heap.size + 1 by simp] at A2
  have F := implPinsFault_any a len cap B ps _ (hR.below (b0.mono hB)) (Nat.le_trans hB b0.size)
  by_cases h0 : pinsF ps = 0
  case neg =>
    rw [(putC_list h0).1, (putC_list h0).2]
    generalize pinsF ps = c at *
    clear hR
    go_enter Tryz.func121, Tryz.ntmps121
    go_wp2_with fail
    generalize (w.alloc (.cells #[.string p.n, .int .i64 p.a, .int .i64 p.b, .int .i64 p.e, .int .i64 p.u] 59)).alloc (.cells #[.int .i64 0, .slice none 0 0] 192) = W0 at *
    refine F.mono ?_
    rintro r u1 ⟨rfl, b1⟩
    have q0 := (A2.on b1).cell 0 _ rfl
    have q1 := (A2.on b1).cell 1 _ rfl
    have z0 := (A2.on b1).free 0 _ rfl
    have z1 := (A2.on b1).free 1 _ rfl
    have B1 := btr b0 b1
    clear A1 A2 b0 b1 F
    go_wp2_with fail
    refine bodyPost_ret (v := .agg #[.int .i64 c, .slice none 0 0]) (by simp [results, Tryz.results121, go_sem, q0, q1]) rfl ⟨none, 0, 0, rfl, OwnP.nil _ _, ?_⟩
    exact (by (iterate 2 (refine bset ?_ (by dsimp only; omega) _)); exact B1)
  rw [h0] at F
  have F2 := fun w => implPinFault_any p w hn
  by_cases h1 : p.f = 0
  case neg =>
    rw [(putC_pin h0 h1).1, (putC_pin h0 h1).2]
    clear hR
    go_enter Tryz.func121, Tryz.ntmps121
    go_wp2_with fail
    generalize (w.alloc (.cells #[.string p.n, .int .i64 p.a, .int .i64 p.b, .int .i64 p.e, .int .i64 p.u] 59)).alloc (.cells #[.int .i64 0, .slice none 0 0] 192) = W0 at *
    refine F.mono ?_
    rintro r u1 ⟨rfl, b1⟩
    have x0 := (A1.on b1).cell 0 _ rfl
    have x1 := (A1.on b1).cell 1 _ rfl
    have x2 := (A1.on b1).cell 2 _ rfl
    have x3 := (A1.on b1).cell 3 _ rfl
    have x4 := (A1.on b1).cell 4 _ rfl
    go_wp2_with fail
    refine (F2 _).mono ?_
    rintro r u2 ⟨rfl, b2⟩
    have bb := btr b1 b2
    have q0 := (A2.on bb).cell 0 _ rfl
    have q1 := (A2.on bb).cell 1 _ rfl
    have z0 := (A2.on bb).free 0 _ rfl
    have z1 := (A2.on bb).free 1 _ rfl
    have B1 := btr b0 bb
    clear A1 A2 b0 b1 b2 bb F F2 x0 x1 x2 x3 x4
    go_wp2_with fail
    refine bodyPost_ret (v := .agg #[.int .i64 p.f, .slice none 0 0]) (by simp [results, Tryz.results121, go_sem, q0, q1]) rfl ⟨none, 0, 0, rfl, OwnP.nil _ _, ?_⟩
    exact (by (iterate 2 (refine bset ?_ (by dsimp only; omega) _)); exact B1)
  rw [h1] at F2
  obtain ⟨hl4, hgood, hrise⟩ := pinsF_zero h0
  have LK := Lib.hid (fun (w : World) (b : Nat) (h : PMap w b ps) => h.look (s := p.n) hn)
  have BN := Lib.hid (fun (w1 : World) (h : Below w.heap.size w w1) => pinsByName_any a len cap B ps w1 (hR.below (h.mono hB)) (Nat.le_trans hB h.size) (by have := hL.out; omega) hrise.apart)
  clear hR
  cases hf : findP ps p.nm with
  | none =>
    have hf2 : findP ps p.n.data.toList = none := hf
    simp only [hf2] at LK
    by_cases h4 : ps.length = 4
    · rw [(putC_full h0 h1 hf h4).1, (putC_full h0 h1 hf h4).2]
      have ho : (Others ps p).length = 4 := by rw [others_none hf]; exact h4
      go_enter Tryz.func121, Tryz.ntmps121
      go_wp2_with fail
      generalize (w.alloc (.cells #[.string p.n, .int .i64 p.a, .int .i64 p.b, .int .i64 p.e, .int .i64 p.u] 59)).alloc (.cells #[.int .i64 0, .slice none 0 0] 192) = W0 at *
      refine F.mono ?_
      rintro r u1 ⟨rfl, b1⟩
      have x0 := (A1.on b1).cell 0 _ rfl
      have x1 := (A1.on b1).cell 1 _ rfl
      have x2 := (A1.on b1).cell 2 _ rfl
      have x3 := (A1.on b1).cell 3 _ rfl
      have x4 := (A1.on b1).cell 4 _ rfl
      go_wp2_with fail
      refine (F2 _).mono ?_
      rintro r u2 ⟨rfl, b2⟩
      have B0 := btr b0 (btr b1 b2)
      go_wp2_with fail
      refine (BN.out _ B0).mono ?_
      rintro r u3 ⟨rfl, M3, b3⟩
      have bb := btr b1 (btr b2 b3)
      have B3 := btr B0 b3
      have lk := LK.out _ _ M3
      have A13 := A1.on bb
      have A23 := A2.on bb
      have lt2 := (A2.on (btr b1 b2)).lt (by simp)
      have lt3 := M3.lt
      have ltp : w.heap.size < u3.heap.size := by omega
      have ltr : w.heap.size + 1 < u3.heap.size := by omega
      have y0 := A13.cell 0 _ rfl
      have y1 := A13.cell 1 _ rfl
      have y2 := A13.cell 2 _ rfl
      have y3 := A13.cell 3 _ rfl
      have y4 := A13.cell 4 _ rfl
      have q0 := A23.cell 0 _ rfl
      have q1 := A23.cell 1 _ rfl
      have z0 := A23.free 0 _ rfl
      have z1 := A23.free 1 _ rfl
      have B1 := B3
      clear x0 x1 x2 x3 x4 A1 A2 b0 b1 b2 b3 F F2 BN LK B0 bb
      have Mb := M3.alloc (.cells #[.string pin0.n, .int .i64 pin0.a, .int .i64 pin0.b, .int .i64 pin0.e, .int .i64 pin0.u] 59)
      obtain ⟨w4, hdel, M4', tn4⟩ := Mb.drop (s := p.n) hn 0
      have M4 : PMap w4 u2.heap.size (Others ps p) := M4'
      have B4 := turned_below tn4 (bal B3 _) (by omega)
      have A14 := (A13.alloc (.cells #[.string pin0.n, .int .i64 pin0.a, .int .i64 pin0.b, .int .i64 pin0.e, .int .i64 pin0.u] 59)).turned tn4 (by omega)
      have A24 := (A23.alloc (.cells #[.string pin0.n, .int .i64 pin0.a, .int .i64 pin0.b, .int .i64 pin0.e, .int .i64 pin0.u] 59)).turned tn4 (by omega)
      have hlen := fun ty => M4.len ty
      clear Mb M3 M4' A13 A23 B3 B1 tn4 q0 q1 z0 z1
      rw [ho] at hlen
      have B1 := B4
      have q0 := A24.cell 0 _ rfl
      have q1 := A24.cell 1 _ rfl
      have z0 := A24.free 0 _ rfl
      have z1 := A24.free 1 _ rfl
      go_wp2_with fail
      refine bodyPost_ret (v := .agg #[.int .i64 7, .slice none 0 0]) (by simp [results, Tryz.results121, go_sem, q0, q1]) rfl ⟨none, 0, 0, rfl, OwnP.nil _ _, ?_⟩
      exact (by (iterate 2 (refine bset ?_ (by dsimp only; omega) _)); exact B1)
    · rw [(putC_new h0 h1 hf h4).1, (putC_new h0 h1 hf h4).2]
      have ho4 : ¬ (((Others ps p).length : Nat) : Int) = 4 := by rw [others_none hf]; omega
      have ho5 : (Others ps p).length ≤ 4 := by rw [others_none hf]; omega
      go_enter Tryz.func121, Tryz.ntmps121
      go_wp2_with fail
      generalize (w.alloc (.cells #[.string p.n, .int .i64 p.a, .int .i64 p.b, .int .i64 p.e, .int .i64 p.u] 59)).alloc (.cells #[.int .i64 0, .slice none 0 0] 192) = W0 at *
      refine F.mono ?_
      rintro r u1 ⟨rfl, b1⟩
      have x0 := (A1.on b1).cell 0 _ rfl
      have x1 := (A1.on b1).cell 1 _ rfl
      have x2 := (A1.on b1).cell 2 _ rfl
      have x3 := (A1.on b1).cell 3 _ rfl
      have x4 := (A1.on b1).cell 4 _ rfl
      go_wp2_with fail
      refine (F2 _).mono ?_
      rintro r u2 ⟨rfl, b2⟩
      have B0 := btr b0 (btr b1 b2)
      go_wp2_with fail
      refine (BN.out _ B0).mono ?_
      rintro r u3 ⟨rfl, M3, b3⟩
      have bb := btr b1 (btr b2 b3)
      have B3 := btr B0 b3
      have lk := LK.out _ _ M3
      have A13 := A1.on bb
      have A23 := A2.on bb
      have lt2 := (A2.on (btr b1 b2)).lt (by simp)
      have lt3 := M3.lt
      have ltp : w.heap.size < u3.heap.size := by omega
      have ltr : w.heap.size + 1 < u3.heap.size := by omega
      have y0 := A13.cell 0 _ rfl
      have y1 := A13.cell 1 _ rfl
      have y2 := A13.cell 2 _ rfl
      have y3 := A13.cell 3 _ rfl
      have y4 := A13.cell 4 _ rfl
      have q0 := A23.cell 0 _ rfl
      have q1 := A23.cell 1 _ rfl
      have z0 := A23.free 0 _ rfl
      have z1 := A23.free 1 _ rfl
      have B1 := B3
      clear x0 x1 x2 x3 x4 A1 A2 b0 b1 b2 b3 F F2 BN LK B0 bb
      have Mb := M3.alloc (.cells #[.string pin0.n, .int .i64 pin0.a, .int .i64 pin0.b, .int .i64 pin0.e, .int .i64 pin0.u] 59)
      obtain ⟨w4, hdel, M4', tn4⟩ := Mb.drop (s := p.n) hn 0
      have M4 : PMap w4 u2.heap.size (Others ps p) := M4'
      have B4 := turned_below tn4 (bal B3 _) (by omega)
      have A14 := (A13.alloc (.cells #[.string pin0.n, .int .i64 pin0.a, .int .i64 pin0.b, .int .i64 pin0.e, .int .i64 pin0.u] 59)).turned tn4 (by omega)
      have A24 := (A23.alloc (.cells #[.string pin0.n, .int .i64 pin0.a, .int .i64 pin0.b, .int .i64 pin0.e, .int .i64 pin0.u] 59)).turned tn4 (by omega)
      have hlen := fun ty => M4.len ty
      clear Mb M3 M4' A13 A23 B3 B1 tn4 q0 q1 z0 z1
      obtain ⟨w5, hst, M5, tn5⟩ := M4.store (p := p) (by omega) hn others_ne
      have B5 := turned_below tn5 B4 (by omega)
      have A25 := A24.turned tn5 (by omega)
      have lt5 := A25.lt (by simp)
      have x0 := A14.cell 0 _ rfl
      have x1 := A14.cell 1 _ rfl
      have x2 := A14.cell 2 _ rfl
      have x3 := A14.cell 3 _ rfl
      have x4 := A14.cell 4 _ rfl
      have RP := risingPins_any _ _ _ M5 (by simp; omega) (by simp)
      have hob : (((Others ps p).length : Int) == 4) = false := by simpa using ho4
      generalize (Others ps p).length = n4 at *
      clear A14 A24 M4 tn5 B4 M5
      go_wp2_with fail
      refine RP.mono ?_
      rintro r u6 ⟨g, c, ys, rfl, hp, hr, hO, b6⟩
      have hys := put_eq hrise hp hr
      have A26 := A25.on b6
      have q0 := A26.cell 0 _ rfl
      have q1 := A26.cell 1 _ rfl
      have z0 := A26.free 0 _ rfl
      have z1 := A26.free 1 _ rfl
      have hgl := (Own.lt hO g rfl)
      have B1 := btr B5 b6
      have O6 := Lib.hid (hO.less B5.size)
      have HY := Lib.hid hys
      have hne : w.heap.size + 1 ≠ g := by omega
      clear hO hp hr hys A25 A26 b6 B5 RP
      go_wp2_with fail
      refine bodyPost_ret (v := .agg #[.int .i64 0, .slice (some ⟨g, 0, none⟩) ys.length c]) (by simp [results, Tryz.results121, go_sem, q0, q1]) rfl ⟨_, _, c, rfl, ?_, (by (iterate 2 (refine bset ?_ (by dsimp only; omega) _)); exact B1)⟩
      rw [← HY.out]
      refine Own.setCell (Own.setCell O6.out (fun k hk e => ?_) _) (fun k hk e => ?_) _
      · simp [Value.ownBlock] at hk; dsimp only at e; omega
      · simp [Value.ownBlock] at hk; dsimp only at e; omega
  | some q =>
    have hf2 : findP ps p.n.data.toList = some q := hf
    simp only [hf2] at LK
    by_cases he : p.e ≤ q.e
    · rw [(putC_old h0 h1 hf he).1, (putC_old h0 h1 hf he).2]
      go_enter Tryz.func121, Tryz.ntmps121
      go_wp2_with fail
      generalize (w.alloc (.cells #[.string p.n, .int .i64 p.a, .int .i64 p.b, .int .i64 p.e, .int .i64 p.u] 59)).alloc (.cells #[.int .i64 0, .slice none 0 0] 192) = W0 at *
      refine F.mono ?_
      rintro r u1 ⟨rfl, b1⟩
      have x0 := (A1.on b1).cell 0 _ rfl
      have x1 := (A1.on b1).cell 1 _ rfl
      have x2 := (A1.on b1).cell 2 _ rfl
      have x3 := (A1.on b1).cell 3 _ rfl
      have x4 := (A1.on b1).cell 4 _ rfl
      go_wp2_with fail
      refine (F2 _).mono ?_
      rintro r u2 ⟨rfl, b2⟩
      have B0 := btr b0 (btr b1 b2)
      go_wp2_with fail
      refine (BN.out _ B0).mono ?_
      rintro r u3 ⟨rfl, M3, b3⟩
      have bb := btr b1 (btr b2 b3)
      have B3 := btr B0 b3
      have lk := LK.out _ _ M3
      have A13 := A1.on bb
      have A23 := A2.on bb
      have lt2 := (A2.on (btr b1 b2)).lt (by simp)
      have lt3 := M3.lt
      have ltp : w.heap.size < u3.heap.size := by omega
      have ltr : w.heap.size + 1 < u3.heap.size := by omega
      have y0 := A13.cell 0 _ rfl
      have y1 := A13.cell 1 _ rfl
      have y2 := A13.cell 2 _ rfl
      have y3 := A13.cell 3 _ rfl
      have y4 := A13.cell 4 _ rfl
      have q0 := A23.cell 0 _ rfl
      have q1 := A23.cell 1 _ rfl
      have z0 := A23.free 0 _ rfl
      have z1 := A23.free 1 _ rfl
      have B1 := B3
      clear x0 x1 x2 x3 x4 A1 A2 b0 b1 b2 b3 F F2 BN LK B0 bb
      go_wp2_with fail
      refine bodyPost_ret (v := .agg #[.int .i64 11, .slice none 0 0]) (by simp [results, Tryz.results121, go_sem, q0, q1, ltr]) rfl ⟨none, 0, 0, rfl, OwnP.nil _ _, ?_⟩
      exact bal (by (iterate 2 (refine bset ?_ (by dsimp only; omega) _)); exact B1) _
    · rw [(putC_young h0 h1 hf he).1, (putC_young h0 h1 hf he).2]
      have ho := others_lt hf
      have ho4 : ¬ (((Others ps p).length : Nat) : Int) = 4 := by omega
      have ho5 : (Others ps p).length ≤ 4 := by omega
      go_enter Tryz.func121, Tryz.ntmps121
      go_wp2_with fail
      generalize (w.alloc (.cells #[.string p.n, .int .i64 p.a, .int .i64 p.b, .int .i64 p.e, .int .i64 p.u] 59)).alloc (.cells #[.int .i64 0, .slice none 0 0] 192) = W0 at *
      refine F.mono ?_
      rintro r u1 ⟨rfl, b1⟩
      have x0 := (A1.on b1).cell 0 _ rfl
      have x1 := (A1.on b1).cell 1 _ rfl
      have x2 := (A1.on b1).cell 2 _ rfl
      have x3 := (A1.on b1).cell 3 _ rfl
      have x4 := (A1.on b1).cell 4 _ rfl
      go_wp2_with fail
      refine (F2 _).mono ?_
      rintro r u2 ⟨rfl, b2⟩
      have B0 := btr b0 (btr b1 b2)
      go_wp2_with fail
      refine (BN.out _ B0).mono ?_
      rintro r u3 ⟨rfl, M3, b3⟩
      have bb := btr b1 (btr b2 b3)
      have B3 := btr B0 b3
      have lk := LK.out _ _ M3
      have A13 := A1.on bb
      have A23 := A2.on bb
      have lt2 := (A2.on (btr b1 b2)).lt (by simp)
      have lt3 := M3.lt
      have ltp : w.heap.size < u3.heap.size := by omega
      have ltr : w.heap.size + 1 < u3.heap.size := by omega
      have y0 := A13.cell 0 _ rfl
      have y1 := A13.cell 1 _ rfl
      have y2 := A13.cell 2 _ rfl
      have y3 := A13.cell 3 _ rfl
      have y4 := A13.cell 4 _ rfl
      have q0 := A23.cell 0 _ rfl
      have q1 := A23.cell 1 _ rfl
      have z0 := A23.free 0 _ rfl
      have z1 := A23.free 1 _ rfl
      have B1 := B3
      clear x0 x1 x2 x3 x4 A1 A2 b0 b1 b2 b3 F F2 BN LK B0 bb
      have Mb := M3.alloc (.cells #[.string q.n, .int .i64 q.a, .int .i64 q.b, .int .i64 q.e, .int .i64 q.u] 59)
      obtain ⟨w4, hdel, M4', tn4⟩ := Mb.drop (s := p.n) hn 0
      have M4 : PMap w4 u2.heap.size (Others ps p) := M4'
      have B4 := turned_below tn4 (bal B3 _) (by omega)
      have A14 := (A13.alloc (.cells #[.string q.n, .int .i64 q.a, .int .i64 q.b, .int .i64 q.e, .int .i64 q.u] 59)).turned tn4 (by omega)
      have A24 := (A23.alloc (.cells #[.string q.n, .int .i64 q.a, .int .i64 q.b, .int .i64 q.e, .int .i64 q.u] 59)).turned tn4 (by omega)
      have hlen := fun ty => M4.len ty
      clear Mb M3 M4' A13 A23 B3 B1 tn4 q0 q1 z0 z1
      obtain ⟨w5, hst, M5, tn5⟩ := M4.store (p := p) (by omega) hn others_ne
      have B5 := turned_below tn5 B4 (by omega)
      have A25 := A24.turned tn5 (by omega)
      have lt5 := A25.lt (by simp)
      have x0 := A14.cell 0 _ rfl
      have x1 := A14.cell 1 _ rfl
      have x2 := A14.cell 2 _ rfl
      have x3 := A14.cell 3 _ rfl
      have x4 := A14.cell 4 _ rfl
      have RP := risingPins_any _ _ _ M5 (by simp; omega) (by simp)
      have hob : (((Others ps p).length : Int) == 4) = false := by simpa using ho4
      generalize (Others ps p).length = n4 at *
      clear A14 A24 M4 tn5 B4 M5
      go_wp2_with fail
      refine RP.mono ?_
      rintro r u6 ⟨g, c, ys, rfl, hp, hr, hO, b6⟩
      have hys := put_eq hrise hp hr
      have A26 := A25.on b6
      have q0 := A26.cell 0 _ rfl
      have q1 := A26.cell 1 _ rfl
      have z0 := A26.free 0 _ rfl
      have z1 := A26.free 1 _ rfl
      have hgl := (Own.lt hO g rfl)
      have B1 := btr B5 b6
      have O6 := Lib.hid (hO.less B5.size)
      have HY := Lib.hid hys
      have hne : w.heap.size + 1 ≠ g := by omega
      clear hO hp hr hys A25 A26 b6 B5 RP
      go_wp2_with fail
      refine bodyPost_ret (v := .agg #[.int .i64 0, .slice (some ⟨g, 0, none⟩) ys.length c]) (by simp [results, Tryz.results121, go_sem, q0, q1]) rfl ⟨_, _, c, rfl, ?_, (by (iterate 2 (refine bset ?_ (by dsimp only; omega) _)); exact B1)⟩
      rw [← HY.out]
      refine Own.setCell (Own.setCell O6.out (fun k hk e => ?_) _) (fun k hk e => ?_) _
      · simp [Value.ownBlock] at hk; dsimp only at e; omega
      · simp [Value.ownBlock] at hk; dsimp only at e; omega
end Go.Proofs.YtlodhleihnlchaaGreatDoor
namespace Go.Proofs.YtlodhleihnlchaaGreatDoor
open Go.RowKit
set_option maxRecDepth 100000
set_option linter.unusedVariables false

def put0 (ps : List PinD) (p : PinD) : Int := match findP ps p.nm with
  | some q => if q.e ≥ p.e then 11 else 0
  | none => if 4 ≤ ps.length then 7 else 0
theorem put0_old {ps : List PinD} {p q : PinD} (hq : findP ps p.nm = some q) (h : p.e ≤ q.e) : put0 ps p = 11 := by unfold put0; rw [hq]; simp only; rw [if_pos h]
theorem put0_young {ps : List PinD} {p q : PinD} (hq : findP ps p.nm = some q) (h : ¬ p.e ≤ q.e) : put0 ps p = 0 := by unfold put0; rw [hq]; simp only; rw [if_neg h]
theorem put0_full {ps : List PinD} {p : PinD} (hq : findP ps p.nm = none) (h : 4 ≤ ps.length) : put0 ps p = 7 := by unfold put0; rw [hq]; simp only; rw [if_pos h]
theorem put0_new {ps : List PinD} {p : PinD} (hq : findP ps p.nm = none) (h : ¬ 4 ≤ ps.length) : put0 ps p = 0 := by unfold put0; rw [hq]; simp only; rw [if_neg h]
def put1 (ps : List PinD) (p : PinD) : List PinD := if put0 ps p = 0 then putL ps p else []
structure PutRel (w : World) (ps : List PinD) (p : PinD) (k : Nat) (d : Bool) (v : Value) (out : List PinD) (wr : World) : Prop where
  own : OwnP wr (w.heap.size + 1) v out
  box : At w.heap.size p.vals wr
  bel : Below w.heap.size w wr
  eq : out ++ putG p d (ps.drop k) = putL ps p
  len : out.length ≤ k + 1
  few : d = false → out.length ≤ k
theorem putG_step {ps : List PinD} {k : Nat} (hk : k < ps.length) (p : PinD) (d : Bool) : putG p d (ps.drop k) = (if !d && !nlt (ps[k]?.getD pin0).nm p.nm then [p] else []) ++ (if (ps[k]?.getD pin0).nm = p.nm then [] else [ps[k]?.getD pin0]) ++ putG p (d || !nlt (ps[k]?.getD pin0).nm p.nm) (ps.drop (k + 1)) := by
  have e : ps.drop k = (ps[k]?.getD pin0) :: ps.drop (k + 1) := by
    rw [List.drop_eq_getElem_cons hk, List.getElem?_eq_getElem hk]
    rfl
  rw [e]
  rfl
theorem put_app {w wr w3 : World} {p x : PinD} {v v3 : Value} {out : List PinD} {o : Obj} (hO : OwnP wr (w.heap.size + 1) v out) (hA : At w.heap.size p.vals wr) (hb : Below w.heap.size w wr)
    (hown : Own w3 (w.heap.size + 1) 5 v3 (out.length + 1) (flat out ++ x.vals)) (hg : (wr.alloc o).grownBy w3 v.ownBlock) : OwnP w3 (w.heap.size + 1) v3 (out ++ [x]) ∧ At w.heap.size p.vals w3 ∧ Below w.heap.size w w3 := by
  refine ⟨?_, (hA.alloc o).kept hg (fun e => ?_), (bal hb o).grown hg (bal hb o).size (fun k e => ?_)⟩
  · unfold OwnP
    rw [flat_append, List.length_append]
    simpa [flat] using hown
  · have := (Own.lt hO _ e.symm).1
    omega
  · have := (Own.lt hO k e).1
    omega
def Put0 (ps : List PinD) (p : PinD) (w : World) (e : Ending) (w' : World) : Prop := ∃ a n cap, e = .returned (.tuple #[.slice a n cap, .int .i64 (put0 ps p)]) ∧ OwnP w' w.heap.size (.slice a n cap) (put1 ps p) ∧ Below w.heap.size w w'
set_option maxHeartbeats 8000000 in
theorem l7Put_any (a : Option Addr) (len cap B : Nat) (ps : List PinD) (p : PinD) (w : World) (hR : PRow w B a len cap ps) (hB : B ≤ w.heap.size) (hl : len ≤ 1000) :
    Calls Tryz.prog 224 #[.slice a len cap, P5 p] w (Put0 ps p w) := by
  have hL := Lib.hid hR.length
  have hm := hR.most
  have hfit := hR.fits
  unfold maxLen at hm
  have b0 := bal (Below.refl _ w) (.cells #[.string p.n, .int .i64 p.a, .int .i64 p.b, .int .i64 p.e, .int .i64 p.u] 59)
  have A1 : At w.heap.size p.vals (w.alloc (.cells #[.string p.n, .int .i64 p.a, .int .i64 p.b, .int .i64 p.e, .int .i64 p.u] 59)) := At.new w p.vals 59
  have AT := l7At_any a len cap B ps p.n _ (hR.below (b0.mono hB)) (Nat.le_trans hB b0.size)
  have AS : (findP ps p.nm = none ∧ atI ps p.n.data.toList 0 = -1) ∨ _ := atI_spec ps p.n.data.toList 0
  generalize atI ps p.n.data.toList 0 = t at *
  rcases AS with ⟨hf, rfl⟩ | ⟨k, hk, rfl, hf⟩
  · by_cases h4 : 4 ≤ len
    · have e1 := put0_full hf (by rw [hL.out]; exact h4)
      have e2 : put1 ps p = [] := by unfold put1; rw [e1, if_neg (by decide)]
      have h4' : (4 : Int) ≤ len := by omega
      clear hR
      go_enter Tryz.func224, Tryz.ntmps224
      go_wp2_with fail
      generalize w.alloc (.cells #[.string p.n, .int .i64 p.a, .int .i64 p.b, .int .i64 p.e, .int .i64 p.u] 59) = W0 at *
      refine AT.mono ?_
      rintro r u1 ⟨rfl, b1⟩
      have A1' := A1.on b1
      have B1 := btr b0 b1
      have x0 := A1'.cell 0 _ rfl
      have x1 := A1'.cell 1 _ rfl
      have x2 := A1'.cell 2 _ rfl
      have x3 := A1'.cell 3 _ rfl
      have x4 := A1'.cell 4 _ rfl
      clear A1 b0 b1 AT
      go_wp2_with fail
      refine wp_region_line (Bel u1) [(0, true), (1, true), (2, true), (3, true), (4, true), (5, true), (6, true), (7, true), (8, true), (9, true), (10, true), (11, true)] (by kernel_rfl) (by kernel_rfl) (fun _ _ d _ _ h => by cases d <;> exact h) (Bel.drew u1) ?_
      have hst := Bel.drew u1
      have inst : Nonempty (Of (Bel u1)) := ⟨⟨_, hst⟩⟩
      iterate 3 (refine line_read rfl (by kernel_rfl) (fun K hK => ?_); go_big_quiet_op; refine hK _ ?_; clear hK K)
      iterate 8 (refine line_skip rfl (by kernel_rfl) ?_; simp only [Act.put, List.setIfInBounds_toArray, List.set_cons_zero, List.set_cons_succ])
      iterate 1 (refine line_read rfl (by kernel_rfl) (fun K hK => ?_); go_big_quiet_op; refine hK _ ?_; clear hK K)
      refine line_nil ?_
      have B2 := btr B1 hst.out
      have A2 := A1'.on hst.out
      clear hst inst A1' B1 x0 x1 x2 x3 x4
      have y0 := A2.cell 0 _ rfl
      have y1 := A2.cell 1 _ rfl
      have y2 := A2.cell 2 _ rfl
      have y3 := A2.cell 3 _ rfl
      have y4 := A2.cell 4 _ rfl
      go_wp2_with fail
      refine bodyPost_ret (v := .tuple #[.slice none 0 0, .int .i64 7]) (by simp [results, Tryz.results224, go_sem]) rfl ⟨none, 0, 0, by rw [e1], by rw [e2]; exact OwnP.nil _ _, B2⟩
    · have e1 := put0_new hf (by rw [hL.out]; exact h4)
      have h4' : ¬ (4 : Int) ≤ len := by omega
      have HR := Lib.hid hR
      clear hR
      go_enter Tryz.func224, Tryz.ntmps224
      go_wp2_with fail
      generalize w.alloc (.cells #[.string p.n, .int .i64 p.a, .int .i64 p.b, .int .i64 p.e, .int .i64 p.u] 59) = W0 at *
      refine AT.mono ?_
      rintro r u1 ⟨rfl, b1⟩
      have A1' := A1.on b1
      have B1 := btr b0 b1
      have x0 := A1'.cell 0 _ rfl
      have x1 := A1'.cell 1 _ rfl
      have x2 := A1'.cell 2 _ rfl
      have x3 := A1'.cell 3 _ rfl
      have x4 := A1'.cell 4 _ rfl
      clear A1 b0 b1 AT
      go_wp2_with fail
      refine wp_region_line (Bel u1) [(0, true), (1, true), (2, true), (3, true), (4, true), (5, true), (6, true), (7, true), (8, true), (9, true), (10, true), (11, true)] (by kernel_rfl) (by kernel_rfl) (fun _ _ d _ _ h => by cases d <;> exact h) (Bel.drew u1) ?_
      have hst := Bel.drew u1
      have inst : Nonempty (Of (Bel u1)) := ⟨⟨_, hst⟩⟩
      iterate 3 (refine line_read rfl (by kernel_rfl) (fun K hK => ?_); go_big_quiet_op; refine hK _ ?_; clear hK K)
      iterate 8 (refine line_skip rfl (by kernel_rfl) ?_; simp only [Act.put, List.setIfInBounds_toArray, List.set_cons_zero, List.set_cons_succ])
      iterate 1 (refine line_read rfl (by kernel_rfl) (fun K hK => ?_); go_big_quiet_op; refine hK _ ?_; clear hK K)
      refine line_nil ?_
      have B2 := btr B1 hst.out
      have A2 := A1'.on hst.out
      clear hst inst A1' B1 x0 x1 x2 x3 x4
      have y0 := A2.cell 0 _ rfl
      have y1 := A2.cell 1 _ rfl
      have y2 := A2.cell 2 _ rfl
      have y3 := A2.cell 3 _ rfl
      have y4 := A2.cell 4 _ rfl
      obtain ⟨i0, hi0, hz0, hz1, hz2⟩ := info_parts pin_info
      have lu : w.heap.size < u1.heap.size := A2.lt (by simp [PinD.vals])
      have B2' : Below w.heap.size w (u1.alloc (.cells #[] 59)).drew := bal B2 (.cells #[] 59)
      have T0 : PutRel w ps p 0 false (.slice (some ⟨u1.heap.size, 0, none⟩) 0 0) [] (u1.alloc (.cells #[] 59)).drew :=
        ⟨(Own.made u1 #[] 59 0 (by omega) (by simp) rfl).drew, (A2.alloc (.cells #[] 59)).keep (fun _ => rfl), B2', rfl, by simp, by simp⟩
      clear lu B2'
      go_wp2_with fail
      generalize (u1.alloc (.cells #[] 59)).drew = W1 at *
      clear A2 B2 y0 y1 y2 y3 y4
      go_loopw [7, 8, 9] (fun v dd i wr => ∃ (k : Nat) (d : Bool) (out : List PinD), k ≤ len ∧ i = .int .i64 k ∧ dd = .bool d ∧ PutRel w ps p k d v out wr) (fun _ _ i _ => len - (intOf i).toNat)
      case atStart => exact ⟨0, false, [], Nat.zero_le _, rfl, rfl, T0⟩
      case round =>
        obtain ⟨k, d, out, hk, rfl, rfl, hT⟩ := hrel
        clear T0
        have hbs := hT.bel.size
        have hlo := hT.len
        have hfw := hT.few
        have bsz := hT.box.lt (by simp [PinD.vals])
        obtain ⟨va, vc, hva, -⟩ := hT.own.form
        subst hva
        by_cases hlt : k < len
        · obtain ⟨b, off, hab, hbB, c0, c1, c2, c3, c4⟩ := (HR.out.below (hT.bel.mono hB)).at' hlt
          first | subst hab | (injection hab with hab; injection hab with ea eb; subst ea; subst eb)
          have heq := hT.eq
          rw [putG_step (ps := ps) (k := k) (by rw [hL.out]; exact hlt) p d] at heq
          have Q1 : Op.bytesLess (ps[k]?.getD pin0).n.toList p.n.toList = nlt (ps[k]?.getD pin0).nm p.nm := by rw [ByteArray.toList_eq, ByteArray.toList_eq]; rfl
          have Q2 : ((ps[k]?.getD pin0).n.toList == p.n.toList) = decide ((ps[k]?.getD pin0).nm = p.nm) := text_beq _ _
          generalize hq : ps[k]?.getD pin0 = q at *
          have p0 := hT.box.cell 0 _ rfl
          cases d
          · have hfw := hfw rfl
            cases hn : nlt q.nm p.nm
            · rw [hn] at Q1 heq
              by_cases he : q.nm = p.nm
              · rw [decide_eq_true he] at Q2
                have TE := Lib.hid (show (out ++ [p]) ++ putG p true (ps.drop (k + 1)) = putL ps p by rw [if_pos he] at heq; simpa using heq)
                have TL : (out ++ [p]).length ≤ k + 1 + 1 := by simp; omega
                clear heq he hn
                go_wp2_with fail
                refine wp_region_line (Bel wr) [(0, true), (1, true), (2, true), (3, true), (4, true), (5, true), (6, true), (7, true), (8, true), (9, true), (10, true), (11, true)] (by kernel_rfl) (by kernel_rfl) (fun _ _ d _ _ h => by cases d <;> exact h) (Bel.drew wr) ?_
                have hst := Bel.drew wr
                have inst : Nonempty (Of (Bel wr)) := ⟨⟨_, hst⟩⟩
                have g0 := bel_cell c0
                have g1 := bel_cell p0
                iterate 12 (refine line_read rfl (by kernel_rfl) (fun K hK => ?_); go_big_quiet_op; refine hK _ ?_; clear hK K)
                refine line_nil ?_
                have TO : OwnP wr.drew (w.heap.size + 1) (.slice va out.length vc) out := hT.own
                have TA : At w.heap.size p.vals wr.drew := hT.box.keep (fun _ => rfl)
                have TB := hT.bel.drew
                have ts : w.heap.size < wr.drew.heap.size := bsz
                clear hst inst g0 g1 c0 c1 c2 c3 c4 p0 hT hbs bsz
                generalize wr.drew = v1 at *
                have x0 := TA.cell 0 _ rfl
                have x1 := TA.cell 1 _ rfl
                have x2 := TA.cell 2 _ rfl
                have x3 := TA.cell 3 _ rfl
                have x4 := TA.cell 4 _ rfl
                go_wp2_with (at_builtin; refine wpList_append_src _ rfl (.tmp 52) (.tmp 54) 53 53 rfl (w.heap.size + 1) 59 i0 (P5 pin0) 5 48 Tryz.underlying53 hi0 hz0 hz1 hz2 rfl _ _ _ rfl (Own.alloc TO _) _ 1 p.vals rfl (src_new5 _ p _ _ _ Tryz.underlying53) (by simp only [maxLen]; first | omega | (simp only [List.length_append, List.length_cons, List.length_nil]; omega)) (by first | omega | (simp only [List.length_append, List.length_cons, List.length_nil]; omega)) (by simp; omega) ?_; intro v3 w3 hown hgrow hat)
                obtain ⟨TO', TA', TB'⟩ := put_app TO TA TB hown hgrow
                have ts' : w.heap.size < w3.heap.size := TA'.lt (by simp [PinD.vals])
                clear hown hgrow hat TO TA TB ts x0 x1 x2 x3 x4
                have TO := TO'
                have TA := TA'
                have TB := TB'
                have ts := ts'
                clear TO' TA' TB' ts'
                obtain ⟨b', off', hab', -, m0, m1, m2, m3, m4⟩ := (HR.out.below (TB.mono hB)).at' hlt
                injection hab' with hab'
                injection hab' with ea eb
                subst ea
                subst eb
                rw [hq] at m0 m1 m2 m3 m4
                have y0 := TA.cell 0 _ rfl
                go_wp2_with fail
                refine wp_region_line (Bel w3) [(0, true), (1, true), (2, true), (3, true), (4, true), (5, true), (6, true), (7, true)] (by kernel_rfl) (by kernel_rfl) (fun _ _ d _ _ h => by cases d <;> exact h) (Bel.drew w3) ?_
                have hst := Bel.drew w3
                have inst : Nonempty (Of (Bel w3)) := ⟨⟨_, hst⟩⟩
                have g0 := bel_cell m0
                have g1 := bel_cell y0
                iterate 8 (refine line_read rfl (by kernel_rfl) (fun K hK => ?_); go_big_quiet_op; refine hK _ ?_; clear hK K)
                refine line_nil ?_
                have TO2 : OwnP w3.drew (w.heap.size + 1) _ _ := TO
                have TA2 : At w.heap.size p.vals w3.drew := TA.keep (fun _ => rfl)
                have TB2 := TB.drew
                have ts2 : w.heap.size < w3.drew.heap.size := ts
                clear hst inst g0 g1 m0 m1 m2 m3 m4 y0 TO TA TB ts
                generalize w3.drew = v2 at *
                go_wp2_with fail
                go_roundw
                case rel => exact ⟨k + 1, true, _, by omega, by go_num, rfl, ⟨TO2, TA2, TB2, TE.out, TL, fun h => by cases h⟩⟩
                case measure => simp [intOf]; omega
              · rw [decide_eq_false he] at Q2
                have TE := Lib.hid (show ((out ++ [p]) ++ [q]) ++ putG p true (ps.drop (k + 1)) = putL ps p by rw [if_neg he] at heq; simpa using heq)
                have TL : ((out ++ [p]) ++ [q]).length ≤ k + 1 + 1 := by simp; omega
                clear heq he hn
                go_wp2_with fail
                refine wp_region_line (Bel wr) [(0, true), (1, true), (2, true), (3, true), (4, true), (5, true), (6, true), (7, true), (8, true), (9, true), (10, true), (11, true)] (by kernel_rfl) (by kernel_rfl) (fun _ _ d _ _ h => by cases d <;> exact h) (Bel.drew wr) ?_
                have hst := Bel.drew wr
                have inst : Nonempty (Of (Bel wr)) := ⟨⟨_, hst⟩⟩
                have g0 := bel_cell c0
                have g1 := bel_cell p0
                iterate 12 (refine line_read rfl (by kernel_rfl) (fun K hK => ?_); go_big_quiet_op; refine hK _ ?_; clear hK K)
                refine line_nil ?_
                have TO : OwnP wr.drew (w.heap.size + 1) (.slice va out.length vc) out := hT.own
                have TA : At w.heap.size p.vals wr.drew := hT.box.keep (fun _ => rfl)
                have TB := hT.bel.drew
                have ts : w.heap.size < wr.drew.heap.size := bsz
                clear hst inst g0 g1 c0 c1 c2 c3 c4 p0 hT hbs bsz
                generalize wr.drew = v1 at *
                have x0 := TA.cell 0 _ rfl
                have x1 := TA.cell 1 _ rfl
                have x2 := TA.cell 2 _ rfl
                have x3 := TA.cell 3 _ rfl
                have x4 := TA.cell 4 _ rfl
                go_wp2_with (at_builtin; refine wpList_append_src _ rfl (.tmp 52) (.tmp 54) 53 53 rfl (w.heap.size + 1) 59 i0 (P5 pin0) 5 48 Tryz.underlying53 hi0 hz0 hz1 hz2 rfl _ _ _ rfl (Own.alloc TO _) _ 1 p.vals rfl (src_new5 _ p _ _ _ Tryz.underlying53) (by simp only [maxLen]; first | omega | (simp only [List.length_append, List.length_cons, List.length_nil]; omega)) (by first | omega | (simp only [List.length_append, List.length_cons, List.length_nil]; omega)) (by simp; omega) ?_; intro v3 w3 hown hgrow hat)
                obtain ⟨TO', TA', TB'⟩ := put_app TO TA TB hown hgrow
                have ts' : w.heap.size < w3.heap.size := TA'.lt (by simp [PinD.vals])
                clear hown hgrow hat TO TA TB ts x0 x1 x2 x3 x4
                have TO := TO'
                have TA := TA'
                have TB := TB'
                have ts := ts'
                clear TO' TA' TB' ts'
                obtain ⟨b', off', hab', -, m0, m1, m2, m3, m4⟩ := (HR.out.below (TB.mono hB)).at' hlt
                injection hab' with hab'
                injection hab' with ea eb
                subst ea
                subst eb
                rw [hq] at m0 m1 m2 m3 m4
                have y0 := TA.cell 0 _ rfl
                go_wp2_with fail
                refine wp_region_line (Bel w3) [(0, true), (1, true), (2, true), (3, true), (4, true), (5, true), (6, true), (7, true)] (by kernel_rfl) (by kernel_rfl) (fun _ _ d _ _ h => by cases d <;> exact h) (Bel.drew w3) ?_
                have hst := Bel.drew w3
                have inst : Nonempty (Of (Bel w3)) := ⟨⟨_, hst⟩⟩
                have g0 := bel_cell m0
                have g1 := bel_cell y0
                iterate 8 (refine line_read rfl (by kernel_rfl) (fun K hK => ?_); go_big_quiet_op; refine hK _ ?_; clear hK K)
                refine line_nil ?_
                have TO2 : OwnP w3.drew (w.heap.size + 1) _ _ := TO
                have TA2 : At w.heap.size p.vals w3.drew := TA.keep (fun _ => rfl)
                have TB2 := TB.drew
                have ts2 : w.heap.size < w3.drew.heap.size := ts
                clear hst inst g0 g1 m0 m1 m2 m3 m4 y0 TO TA TB ts
                generalize w3.drew = v2 at *
                obtain ⟨b', off', hab', -, m0, m1, m2, m3, m4⟩ := (HR.out.below (TB2.mono hB)).at' hlt
                injection hab' with hab'
                injection hab' with ea eb
                subst ea
                subst eb
                rw [hq] at m0 m1 m2 m3 m4
                go_wp2_with (at_builtin; refine wpList_append_src _ rfl (.tmp 64) (.tmp 69) 53 53 rfl (w.heap.size + 1) 59 i0 (P5 pin0) 5 48 Tryz.underlying53 hi0 hz0 hz1 hz2 rfl _ _ _ rfl (Own.alloc TO2 _) _ 1 q.vals rfl (src_new5 _ q _ _ _ Tryz.underlying53) (by simp only [maxLen]; first | omega | (simp only [List.length_append, List.length_cons, List.length_nil]; omega)) (by first | omega | (simp only [List.length_append, List.length_cons, List.length_nil]; omega)) (by simp; omega) ?_; intro v3 w3 hown hgrow hat)
                obtain ⟨O3, A3, B3⟩ := put_app TO2 TA2 TB2 hown hgrow
                clear hown hgrow hat TO2 TA2 TB2 m0 m1 m2 m3 m4
                go_wp2_with fail
                go_roundw
                case rel => exact ⟨k + 1, true, _, by omega, by go_num, rfl, ⟨O3, A3, B3, TE.out, TL, fun h => by cases h⟩⟩
                case measure => simp [intOf]; omega
            · rw [hn] at Q1 heq
              have he : ¬ q.nm = p.nm := nlt_ne hn
              rw [decide_eq_false he] at Q2
              have TE := Lib.hid (show (out ++ [q]) ++ putG p false (ps.drop (k + 1)) = putL ps p by rw [if_neg he] at heq; simpa using heq)
              have TL : (out ++ [q]).length ≤ k + 1 + 1 := by simp; omega
              have TF : (out ++ [q]).length ≤ k + 1 := by simp; omega
              clear heq he hn
              go_wp2_with fail
              refine wp_region_line (Bel wr) [(0, true), (1, true), (2, true), (3, true), (4, true), (5, true), (6, true), (7, true), (8, true), (9, true), (10, true), (11, true)] (by kernel_rfl) (by kernel_rfl) (fun _ _ d _ _ h => by cases d <;> exact h) (Bel.drew wr) ?_
              have hst := Bel.drew wr
              have inst : Nonempty (Of (Bel wr)) := ⟨⟨_, hst⟩⟩
              have g0 := bel_cell c0
              have g1 := bel_cell p0
              iterate 12 (refine line_read rfl (by kernel_rfl) (fun K hK => ?_); go_big_quiet_op; refine hK _ ?_; clear hK K)
              refine line_nil ?_
              have TO : OwnP wr.drew (w.heap.size + 1) (.slice va out.length vc) out := hT.own
              have TA : At w.heap.size p.vals wr.drew := hT.box.keep (fun _ => rfl)
              have TB := hT.bel.drew
              have ts : w.heap.size < wr.drew.heap.size := bsz
              clear hst inst g0 g1 c0 c1 c2 c3 c4 p0 hT hbs bsz
              generalize wr.drew = v1 at *
              have x0 := TA.cell 0 _ rfl
              have x1 := TA.cell 1 _ rfl
              have x2 := TA.cell 2 _ rfl
              have x3 := TA.cell 3 _ rfl
              have x4 := TA.cell 4 _ rfl
              obtain ⟨b', off', hab', -, m0, m1, m2, m3, m4⟩ := (HR.out.below (TB.mono hB)).at' hlt
              injection hab' with hab'
              injection hab' with ea eb
              subst ea
              subst eb
              rw [hq] at m0 m1 m2 m3 m4
              have y0 := TA.cell 0 _ rfl
              go_wp2_with fail
              refine wp_region_line (Bel v1) [(0, true), (1, true), (2, true), (3, true), (4, true), (5, true), (6, true), (7, true)] (by kernel_rfl) (by kernel_rfl) (fun _ _ d _ _ h => by cases d <;> exact h) (Bel.drew v1) ?_
              have hst := Bel.drew v1
              have inst : Nonempty (Of (Bel v1)) := ⟨⟨_, hst⟩⟩
              have g0 := bel_cell m0
              have g1 := bel_cell y0
              iterate 8 (refine line_read rfl (by kernel_rfl) (fun K hK => ?_); go_big_quiet_op; refine hK _ ?_; clear hK K)
              refine line_nil ?_
              have TO2 : OwnP v1.drew (w.heap.size + 1) _ _ := TO
              have TA2 : At w.heap.size p.vals v1.drew := TA.keep (fun _ => rfl)
              have TB2 := TB.drew
              have ts2 : w.heap.size < v1.drew.heap.size := ts
              clear hst inst g0 g1 m0 m1 m2 m3 m4 y0 TO TA TB ts
              generalize v1.drew = v2 at *
              obtain ⟨b', off', hab', -, m0, m1, m2, m3, m4⟩ := (HR.out.below (TB2.mono hB)).at' hlt
              injection hab' with hab'
              injection hab' with ea eb
              subst ea
              subst eb
              rw [hq] at m0 m1 m2 m3 m4
              go_wp2_with (at_builtin; refine wpList_append_src _ rfl (.tmp 64) (.tmp 69) 53 53 rfl (w.heap.size + 1) 59 i0 (P5 pin0) 5 48 Tryz.underlying53 hi0 hz0 hz1 hz2 rfl _ _ _ rfl (Own.alloc TO2 _) _ 1 q.vals rfl (src_new5 _ q _ _ _ Tryz.underlying53) (by simp only [maxLen]; first | omega | (simp only [List.length_append, List.length_cons, List.length_nil]; omega)) (by first | omega | (simp only [List.length_append, List.length_cons, List.length_nil]; omega)) (by simp; omega) ?_; intro v3 w3 hown hgrow hat)
              obtain ⟨O3, A3, B3⟩ := put_app TO2 TA2 TB2 hown hgrow
              clear hown hgrow hat TO2 TA2 TB2 m0 m1 m2 m3 m4
              go_wp2_with fail
              go_roundw
              case rel => exact ⟨k + 1, false, _, by omega, by go_num, rfl, ⟨O3, A3, B3, TE.out, TL, fun _ => TF⟩⟩
              case measure => simp [intOf]; omega
          · by_cases he : q.nm = p.nm
            · rw [decide_eq_true he] at Q2
              have TE := Lib.hid (show out ++ putG p true (ps.drop (k + 1)) = putL ps p by rw [if_pos he] at heq; simpa using heq)
              have TL : out.length ≤ k + 1 + 1 := by omega
              clear heq he
              go_wp2_with fail
              refine wp_region_line (Bel wr) [(0, true), (1, true), (2, true), (3, true), (4, true), (5, true), (6, true), (7, true), (8, true), (9, true), (10, true), (11, true)] (by kernel_rfl) (by kernel_rfl) (fun _ _ d _ _ h => by cases d <;> exact h) (Bel.drew wr) ?_
              have hst := Bel.drew wr
              have inst : Nonempty (Of (Bel wr)) := ⟨⟨_, hst⟩⟩
              iterate 3 (refine line_read rfl (by kernel_rfl) (fun K hK => ?_); go_big_quiet_op; refine hK _ ?_; clear hK K)
              iterate 8 (refine line_skip rfl (by kernel_rfl) ?_; simp only [Act.put, List.setIfInBounds_toArray, List.set_cons_zero, List.set_cons_succ])
              iterate 1 (refine line_read rfl (by kernel_rfl) (fun K hK => ?_); go_big_quiet_op; refine hK _ ?_; clear hK K)
              refine line_nil ?_
              have TO : OwnP wr.drew (w.heap.size + 1) (.slice va out.length vc) out := hT.own
              have TA : At w.heap.size p.vals wr.drew := hT.box.keep (fun _ => rfl)
              have TB := hT.bel.drew
              have ts : w.heap.size < wr.drew.heap.size := bsz
              clear hst inst c0 c1 c2 c3 c4 p0 hT hbs bsz
              generalize wr.drew = v1 at *
              obtain ⟨b', off', hab', -, m0, m1, m2, m3, m4⟩ := (HR.out.below (TB.mono hB)).at' hlt
              injection hab' with hab'
              injection hab' with ea eb
              subst ea
              subst eb
              rw [hq] at m0 m1 m2 m3 m4
              have y0 := TA.cell 0 _ rfl
              go_wp2_with fail
              refine wp_region_line (Bel v1) [(0, true), (1, true), (2, true), (3, true), (4, true), (5, true), (6, true), (7, true)] (by kernel_rfl) (by kernel_rfl) (fun _ _ d _ _ h => by cases d <;> exact h) (Bel.drew v1) ?_
              have hst := Bel.drew v1
              have inst : Nonempty (Of (Bel v1)) := ⟨⟨_, hst⟩⟩
              have g0 := bel_cell m0
              have g1 := bel_cell y0
              iterate 8 (refine line_read rfl (by kernel_rfl) (fun K hK => ?_); go_big_quiet_op; refine hK _ ?_; clear hK K)
              refine line_nil ?_
              have TO2 : OwnP v1.drew (w.heap.size + 1) _ _ := TO
              have TA2 : At w.heap.size p.vals v1.drew := TA.keep (fun _ => rfl)
              have TB2 := TB.drew
              have ts2 : w.heap.size < v1.drew.heap.size := ts
              clear hst inst g0 g1 m0 m1 m2 m3 m4 y0 TO TA TB ts
              generalize v1.drew = v2 at *
              go_wp2_with fail
              go_roundw
              case rel => exact ⟨k + 1, true, _, by omega, by go_num, rfl, ⟨TO2, TA2, TB2, TE.out, TL, fun h => by cases h⟩⟩
              case measure => simp [intOf]; omega
            · rw [decide_eq_false he] at Q2
              have TE := Lib.hid (show (out ++ [q]) ++ putG p true (ps.drop (k + 1)) = putL ps p by rw [if_neg he] at heq; simpa using heq)
              have TL : (out ++ [q]).length ≤ k + 1 + 1 := by simp; omega
              clear heq he
              go_wp2_with fail
              refine wp_region_line (Bel wr) [(0, true), (1, true), (2, true), (3, true), (4, true), (5, true), (6, true), (7, true), (8, true), (9, true), (10, true), (11, true)] (by kernel_rfl) (by kernel_rfl) (fun _ _ d _ _ h => by cases d <;> exact h) (Bel.drew wr) ?_
              have hst := Bel.drew wr
              have inst : Nonempty (Of (Bel wr)) := ⟨⟨_, hst⟩⟩
              iterate 3 (refine line_read rfl (by kernel_rfl) (fun K hK => ?_); go_big_quiet_op; refine hK _ ?_; clear hK K)
              iterate 8 (refine line_skip rfl (by kernel_rfl) ?_; simp only [Act.put, List.setIfInBounds_toArray, List.set_cons_zero, List.set_cons_succ])
              iterate 1 (refine line_read rfl (by kernel_rfl) (fun K hK => ?_); go_big_quiet_op; refine hK _ ?_; clear hK K)
              refine line_nil ?_
              have TO : OwnP wr.drew (w.heap.size + 1) (.slice va out.length vc) out := hT.own
              have TA : At w.heap.size p.vals wr.drew := hT.box.keep (fun _ => rfl)
              have TB := hT.bel.drew
              have ts : w.heap.size < wr.drew.heap.size := bsz
              clear hst inst c0 c1 c2 c3 c4 p0 hT hbs bsz
              generalize wr.drew = v1 at *
              obtain ⟨b', off', hab', -, m0, m1, m2, m3, m4⟩ := (HR.out.below (TB.mono hB)).at' hlt
              injection hab' with hab'
              injection hab' with ea eb
              subst ea
              subst eb
              rw [hq] at m0 m1 m2 m3 m4
              have y0 := TA.cell 0 _ rfl
              go_wp2_with fail
              refine wp_region_line (Bel v1) [(0, true), (1, true), (2, true), (3, true), (4, true), (5, true), (6, true), (7, true)] (by kernel_rfl) (by kernel_rfl) (fun _ _ d _ _ h => by cases d <;> exact h) (Bel.drew v1) ?_
              have hst := Bel.drew v1
              have inst : Nonempty (Of (Bel v1)) := ⟨⟨_, hst⟩⟩
              have g0 := bel_cell m0
              have g1 := bel_cell y0
              iterate 8 (refine line_read rfl (by kernel_rfl) (fun K hK => ?_); go_big_quiet_op; refine hK _ ?_; clear hK K)
              refine line_nil ?_
              have TO2 : OwnP v1.drew (w.heap.size + 1) _ _ := TO
              have TA2 : At w.heap.size p.vals v1.drew := TA.keep (fun _ => rfl)
              have TB2 := TB.drew
              have ts2 : w.heap.size < v1.drew.heap.size := ts
              clear hst inst g0 g1 m0 m1 m2 m3 m4 y0 TO TA TB ts
              generalize v1.drew = v2 at *
              obtain ⟨b', off', hab', -, m0, m1, m2, m3, m4⟩ := (HR.out.below (TB2.mono hB)).at' hlt
              injection hab' with hab'
              injection hab' with ea eb
              subst ea
              subst eb
              rw [hq] at m0 m1 m2 m3 m4
              go_wp2_with (at_builtin; refine wpList_append_src _ rfl (.tmp 64) (.tmp 69) 53 53 rfl (w.heap.size + 1) 59 i0 (P5 pin0) 5 48 Tryz.underlying53 hi0 hz0 hz1 hz2 rfl _ _ _ rfl (Own.alloc TO2 _) _ 1 q.vals rfl (src_new5 _ q _ _ _ Tryz.underlying53) (by simp only [maxLen]; first | omega | (simp only [List.length_append, List.length_cons, List.length_nil]; omega)) (by first | omega | (simp only [List.length_append, List.length_cons, List.length_nil]; omega)) (by simp; omega) ?_; intro v3 w3 hown hgrow hat)
              obtain ⟨O3, A3, B3⟩ := put_app TO2 TA2 TB2 hown hgrow
              clear hown hgrow hat TO2 TA2 TB2 m0 m1 m2 m3 m4
              go_wp2_with fail
              go_roundw
              case rel => exact ⟨k + 1, true, _, by omega, by go_num, rfl, ⟨O3, A3, B3, TE.out, TL, fun h => by cases h⟩⟩
              case measure => simp [intOf]; omega
        · obtain rfl : k = len := by omega
          have e : ps.drop k = [] := List.drop_of_length_le (by rw [hL.out]; omega)
          have heq := hT.eq
          rw [e] at heq
          have e2 : put1 ps p = putL ps p := by unfold put1; rw [if_pos e1]
          cases d
          · have hO := hT.own
            have hA := hT.box
            have hb := hT.bel
            have HE := Lib.hid (show out ++ [p] = putL ps p from heq)
            have x0 := hA.cell 0 _ rfl
            have x1 := hA.cell 1 _ rfl
            have x2 := hA.cell 2 _ rfl
            have x3 := hA.cell 3 _ rfl
            have x4 := hA.cell 4 _ rfl
            clear hT heq
            go_wp2_with (at_builtin; refine wpList_append_src _ rfl (.tmp 73) (.tmp 75) 53 53 rfl (w.heap.size + 1) 59 i0 (P5 pin0) 5 48 Tryz.underlying53 hi0 hz0 hz1 hz2 rfl _ _ _ rfl (Own.alloc hO _) _ 1 p.vals rfl (src_new5 _ p _ _ _ Tryz.underlying53) (by simp only [maxLen]; first | omega | (simp only [List.length_append, List.length_cons, List.length_nil]; omega)) (by first | omega | (simp only [List.length_append, List.length_cons, List.length_nil]; omega)) (by simp; omega) ?_; intro v3 w3 hown hgrow hat)
            obtain ⟨O3, A3, B3⟩ := put_app hO hA hb hown hgrow
            obtain ⟨a3, c3, rfl, -⟩ := O3.form
            have H := Lib.hid (And.intro (O3.less (by omega : w.heap.size ≤ w.heap.size + 1)) B3)
            clear hown hgrow hat O3 A3 B3
            go_wp2_with fail
            refine bodyPost_ret (v := .tuple #[.slice a3 (out ++ [p]).length c3, .int .i64 0]) (by simp [results, Tryz.results224, go_sem]) rfl ⟨_, _, _, by rw [e1], by rw [e2, ← HE.out]; exact H.out.1, H.out.2⟩
          · have hO := hT.own
            have hb := hT.bel
            have HE := Lib.hid (show out = putL ps p by simpa [putG] using heq)
            have H := Lib.hid (And.intro (hO.less (by omega : w.heap.size ≤ w.heap.size + 1)) hb)
            clear hT heq hO hb
            go_wp2_with fail
            refine bodyPost_ret (v := .tuple #[.slice va out.length vc, .int .i64 0]) (by simp [results, Tryz.results224, go_sem]) rfl ⟨_, _, _, by rw [e1], by rw [e2, ← HE.out]; exact H.out.1, H.out.2⟩
  · have hkl : k < len := by rw [← hL.out]; exact hk
    have hf' : findP ps p.nm = some (ps[k]?.getD pin0) := hf
    obtain ⟨b, off, ha, -⟩ := hR.at' hkl
    subst ha
    have HR := Lib.hid hR
    have hk0 : ¬ (k : Int) < 0 := by omega
    have hk1 : (0 : Int) ≤ k := by omega
    clear hR hf
    generalize hq0 : ps[k]?.getD pin0 = q0 at *
    have HQ := Lib.hid hq0
    clear hq0
    by_cases he : p.e ≤ q0.e
    · have e1 := put0_old hf' he
      have e2 : put1 ps p = [] := by unfold put1; rw [e1, if_neg (by decide)]
      clear hf'
      go_enter Tryz.func224, Tryz.ntmps224
      go_wp2_with fail
      generalize w.alloc (.cells #[.string p.n, .int .i64 p.a, .int .i64 p.b, .int .i64 p.e, .int .i64 p.u] 59) = W0 at *
      refine AT.mono ?_
      rintro r u1 ⟨rfl, b1⟩
      have A1' := A1.on b1
      have B1 := btr b0 b1
      have x0 := A1'.cell 0 _ rfl
      have x1 := A1'.cell 1 _ rfl
      have x2 := A1'.cell 2 _ rfl
      have x3 := A1'.cell 3 _ rfl
      have x4 := A1'.cell 4 _ rfl
      clear A1 b0 b1 AT
      obtain ⟨b', off', hab', -, c0, c1, c2, c3, c4⟩ := (HR.out.below (B1.mono hB)).at' hkl
      injection hab' with hab'
      injection hab' with ea eb
      subst ea
      subst eb
      rw [HQ.out] at c3
      go_wp2_with fail
      refine wp_region_line (Bel u1) [(0, true), (1, true), (2, true), (3, true), (4, true), (5, true), (6, true), (7, true), (8, true), (9, true), (10, true), (11, true)] (by kernel_rfl) (by kernel_rfl) (fun _ _ d _ _ h => by cases d <;> exact h) (Bel.drew u1) ?_
      have hst := Bel.drew u1
      have inst : Nonempty (Of (Bel u1)) := ⟨⟨_, hst⟩⟩
      have g0 := bel_cell c3
      have g1 := bel_cell x3
      iterate 12 (refine line_read rfl (by kernel_rfl) (fun K hK => ?_); go_big_quiet_op; refine hK _ ?_; clear hK K)
      refine line_nil ?_
      have B2 := btr B1 hst.out
      have A2 := A1'.on hst.out
      clear hst inst A1' B1 x0 x1 x2 x3 x4 c0 c1 c2 c3 c4 g0 g1
      have y0 := A2.cell 0 _ rfl
      have y1 := A2.cell 1 _ rfl
      have y2 := A2.cell 2 _ rfl
      have y3 := A2.cell 3 _ rfl
      have y4 := A2.cell 4 _ rfl
      go_wp2_with fail
      refine bodyPost_ret (v := .tuple #[.slice none 0 0, .int .i64 11]) (by simp [results, Tryz.results224, go_sem]) rfl ⟨none, 0, 0, by rw [e1], by rw [e2]; exact OwnP.nil _ _, B2⟩
    · have e1 := put0_young hf' he
      clear hf'
      go_enter Tryz.func224, Tryz.ntmps224
      go_wp2_with fail
      generalize w.alloc (.cells #[.string p.n, .int .i64 p.a, .int .i64 p.b, .int .i64 p.e, .int .i64 p.u] 59) = W0 at *
      refine AT.mono ?_
      rintro r u1 ⟨rfl, b1⟩
      have A1' := A1.on b1
      have B1 := btr b0 b1
      have x0 := A1'.cell 0 _ rfl
      have x1 := A1'.cell 1 _ rfl
      have x2 := A1'.cell 2 _ rfl
      have x3 := A1'.cell 3 _ rfl
      have x4 := A1'.cell 4 _ rfl
      clear A1 b0 b1 AT
      obtain ⟨b', off', hab', -, c0, c1, c2, c3, c4⟩ := (HR.out.below (B1.mono hB)).at' hkl
      injection hab' with hab'
      injection hab' with ea eb
      subst ea
      subst eb
      rw [HQ.out] at c3
      go_wp2_with fail
      refine wp_region_line (Bel u1) [(0, true), (1, true), (2, true), (3, true), (4, true), (5, true), (6, true), (7, true), (8, true), (9, true), (10, true), (11, true)] (by kernel_rfl) (by kernel_rfl) (fun _ _ d _ _ h => by cases d <;> exact h) (Bel.drew u1) ?_
      have hst := Bel.drew u1
      have inst : Nonempty (Of (Bel u1)) := ⟨⟨_, hst⟩⟩
      have g0 := bel_cell c3
      have g1 := bel_cell x3
      iterate 12 (refine line_read rfl (by kernel_rfl) (fun K hK => ?_); go_big_quiet_op; refine hK _ ?_; clear hK K)
      refine line_nil ?_
      have B2 := btr B1 hst.out
      have A2 := A1'.on hst.out
      clear hst inst A1' B1 x0 x1 x2 x3 x4 c0 c1 c2 c3 c4 g0 g1
      have y0 := A2.cell 0 _ rfl
      have y1 := A2.cell 1 _ rfl
      have y2 := A2.cell 2 _ rfl
      have y3 := A2.cell 3 _ rfl
      have y4 := A2.cell 4 _ rfl
      obtain ⟨i0, hi0, hz0, hz1, hz2⟩ := info_parts pin_info
      have lu : w.heap.size < u1.heap.size := A2.lt (by simp [PinD.vals])
      have B2' : Below w.heap.size w (u1.alloc (.cells #[] 59)).drew := bal B2 (.cells #[] 59)
      have T0 : PutRel w ps p 0 false (.slice (some ⟨u1.heap.size, 0, none⟩) 0 0) [] (u1.alloc (.cells #[] 59)).drew :=
        ⟨(Own.made u1 #[] 59 0 (by omega) (by simp) rfl).drew, (A2.alloc (.cells #[] 59)).keep (fun _ => rfl), B2', rfl, by simp, by simp⟩
      clear lu B2'
      go_wp2_with fail
      generalize (u1.alloc (.cells #[] 59)).drew = W1 at *
      clear A2 B2 y0 y1 y2 y3 y4
      go_loopw [7, 8, 9] (fun v dd i wr => ∃ (k : Nat) (d : Bool) (out : List PinD), k ≤ len ∧ i = .int .i64 k ∧ dd = .bool d ∧ PutRel w ps p k d v out wr) (fun _ _ i _ => len - (intOf i).toNat)
      case atStart => exact ⟨0, false, [], Nat.zero_le _, rfl, rfl, T0⟩
      case round =>
        obtain ⟨k, d, out, hk, rfl, rfl, hT⟩ := hrel
        clear T0
        have hbs := hT.bel.size
        have hlo := hT.len
        have hfw := hT.few
        have bsz := hT.box.lt (by simp [PinD.vals])
        obtain ⟨va, vc, hva, -⟩ := hT.own.form
        subst hva
        by_cases hlt : k < len
        · obtain ⟨b, off, hab, hbB, c0, c1, c2, c3, c4⟩ := (HR.out.below (hT.bel.mono hB)).at' hlt
          first | subst hab | (injection hab with hab; injection hab with ea eb; subst ea; subst eb)
          have heq := hT.eq
          rw [putG_step (ps := ps) (k := k) (by rw [hL.out]; exact hlt) p d] at heq
          have Q1 : Op.bytesLess (ps[k]?.getD pin0).n.toList p.n.toList = nlt (ps[k]?.getD pin0).nm p.nm := by rw [ByteArray.toList_eq, ByteArray.toList_eq]; rfl
          have Q2 : ((ps[k]?.getD pin0).n.toList == p.n.toList) = decide ((ps[k]?.getD pin0).nm = p.nm) := text_beq _ _
          generalize hq : ps[k]?.getD pin0 = q at *
          have p0 := hT.box.cell 0 _ rfl
          cases d
          · have hfw := hfw rfl
            cases hn : nlt q.nm p.nm
            · rw [hn] at Q1 heq
              by_cases he : q.nm = p.nm
              · rw [decide_eq_true he] at Q2
                have TE := Lib.hid (show (out ++ [p]) ++ putG p true (ps.drop (k + 1)) = putL ps p by rw [if_pos he] at heq; simpa using heq)
                have TL : (out ++ [p]).length ≤ k + 1 + 1 := by simp; omega
                clear heq he hn
                go_wp2_with fail
                refine wp_region_line (Bel wr) [(0, true), (1, true), (2, true), (3, true), (4, true), (5, true), (6, true), (7, true), (8, true), (9, true), (10, true), (11, true)] (by kernel_rfl) (by kernel_rfl) (fun _ _ d _ _ h => by cases d <;> exact h) (Bel.drew wr) ?_
                have hst := Bel.drew wr
                have inst : Nonempty (Of (Bel wr)) := ⟨⟨_, hst⟩⟩
                have g0 := bel_cell c0
                have g1 := bel_cell p0
                iterate 12 (refine line_read rfl (by kernel_rfl) (fun K hK => ?_); go_big_quiet_op; refine hK _ ?_; clear hK K)
                refine line_nil ?_
                have TO : OwnP wr.drew (w.heap.size + 1) (.slice va out.length vc) out := hT.own
                have TA : At w.heap.size p.vals wr.drew := hT.box.keep (fun _ => rfl)
                have TB := hT.bel.drew
                have ts : w.heap.size < wr.drew.heap.size := bsz
                clear hst inst g0 g1 c0 c1 c2 c3 c4 p0 hT hbs bsz
                generalize wr.drew = v1 at *
                have x0 := TA.cell 0 _ rfl
                have x1 := TA.cell 1 _ rfl
                have x2 := TA.cell 2 _ rfl
                have x3 := TA.cell 3 _ rfl
                have x4 := TA.cell 4 _ rfl
                go_wp2_with (at_builtin; refine wpList_append_src _ rfl (.tmp 52) (.tmp 54) 53 53 rfl (w.heap.size + 1) 59 i0 (P5 pin0) 5 48 Tryz.underlying53 hi0 hz0 hz1 hz2 rfl _ _ _ rfl (Own.alloc TO _) _ 1 p.vals rfl (src_new5 _ p _ _ _ Tryz.underlying53) (by simp only [maxLen]; first | omega | (simp only [List.length_append, List.length_cons, List.length_nil]; omega)) (by first | omega | (simp only [List.length_append, List.length_cons, List.length_nil]; omega)) (by simp; omega) ?_; intro v3 w3 hown hgrow hat)
                obtain ⟨TO', TA', TB'⟩ := put_app TO TA TB hown hgrow
                have ts' : w.heap.size < w3.heap.size := TA'.lt (by simp [PinD.vals])
                clear hown hgrow hat TO TA TB ts x0 x1 x2 x3 x4
                have TO := TO'
                have TA := TA'
                have TB := TB'
                have ts := ts'
                clear TO' TA' TB' ts'
                obtain ⟨b', off', hab', -, m0, m1, m2, m3, m4⟩ := (HR.out.below (TB.mono hB)).at' hlt
                injection hab' with hab'
                injection hab' with ea eb
                subst ea
                subst eb
                rw [hq] at m0 m1 m2 m3 m4
                have y0 := TA.cell 0 _ rfl
                go_wp2_with fail
                refine wp_region_line (Bel w3) [(0, true), (1, true), (2, true), (3, true), (4, true), (5, true), (6, true), (7, true)] (by kernel_rfl) (by kernel_rfl) (fun _ _ d _ _ h => by cases d <;> exact h) (Bel.drew w3) ?_
                have hst := Bel.drew w3
                have inst : Nonempty (Of (Bel w3)) := ⟨⟨_, hst⟩⟩
                have g0 := bel_cell m0
                have g1 := bel_cell y0
                iterate 8 (refine line_read rfl (by kernel_rfl) (fun K hK => ?_); go_big_quiet_op; refine hK _ ?_; clear hK K)
                refine line_nil ?_
                have TO2 : OwnP w3.drew (w.heap.size + 1) _ _ := TO
                have TA2 : At w.heap.size p.vals w3.drew := TA.keep (fun _ => rfl)
                have TB2 := TB.drew
                have ts2 : w.heap.size < w3.drew.heap.size := ts
                clear hst inst g0 g1 m0 m1 m2 m3 m4 y0 TO TA TB ts
                generalize w3.drew = v2 at *
                go_wp2_with fail
                go_roundw
                case rel => exact ⟨k + 1, true, _, by omega, by go_num, rfl, ⟨TO2, TA2, TB2, TE.out, TL, fun h => by cases h⟩⟩
                case measure => simp [intOf]; omega
              · rw [decide_eq_false he] at Q2
                have TE := Lib.hid (show ((out ++ [p]) ++ [q]) ++ putG p true (ps.drop (k + 1)) = putL ps p by rw [if_neg he] at heq; simpa using heq)
                have TL : ((out ++ [p]) ++ [q]).length ≤ k + 1 + 1 := by simp; omega
                clear heq he hn
                go_wp2_with fail
                refine wp_region_line (Bel wr) [(0, true), (1, true), (2, true), (3, true), (4, true), (5, true), (6, true), (7, true), (8, true), (9, true), (10, true), (11, true)] (by kernel_rfl) (by kernel_rfl) (fun _ _ d _ _ h => by cases d <;> exact h) (Bel.drew wr) ?_
                have hst := Bel.drew wr
                have inst : Nonempty (Of (Bel wr)) := ⟨⟨_, hst⟩⟩
                have g0 := bel_cell c0
                have g1 := bel_cell p0
                iterate 12 (refine line_read rfl (by kernel_rfl) (fun K hK => ?_); go_big_quiet_op; refine hK _ ?_; clear hK K)
                refine line_nil ?_
                have TO : OwnP wr.drew (w.heap.size + 1) (.slice va out.length vc) out := hT.own
                have TA : At w.heap.size p.vals wr.drew := hT.box.keep (fun _ => rfl)
                have TB := hT.bel.drew
                have ts : w.heap.size < wr.drew.heap.size := bsz
                clear hst inst g0 g1 c0 c1 c2 c3 c4 p0 hT hbs bsz
                generalize wr.drew = v1 at *
                have x0 := TA.cell 0 _ rfl
                have x1 := TA.cell 1 _ rfl
                have x2 := TA.cell 2 _ rfl
                have x3 := TA.cell 3 _ rfl
                have x4 := TA.cell 4 _ rfl
                go_wp2_with (at_builtin; refine wpList_append_src _ rfl (.tmp 52) (.tmp 54) 53 53 rfl (w.heap.size + 1) 59 i0 (P5 pin0) 5 48 Tryz.underlying53 hi0 hz0 hz1 hz2 rfl _ _ _ rfl (Own.alloc TO _) _ 1 p.vals rfl (src_new5 _ p _ _ _ Tryz.underlying53) (by simp only [maxLen]; first | omega | (simp only [List.length_append, List.length_cons, List.length_nil]; omega)) (by first | omega | (simp only [List.length_append, List.length_cons, List.length_nil]; omega)) (by simp; omega) ?_; intro v3 w3 hown hgrow hat)
                obtain ⟨TO', TA', TB'⟩ := put_app TO TA TB hown hgrow
                have ts' : w.heap.size < w3.heap.size := TA'.lt (by simp [PinD.vals])
                clear hown hgrow hat TO TA TB ts x0 x1 x2 x3 x4
                have TO := TO'
                have TA := TA'
                have TB := TB'
                have ts := ts'
                clear TO' TA' TB' ts'
                obtain ⟨b', off', hab', -, m0, m1, m2, m3, m4⟩ := (HR.out.below (TB.mono hB)).at' hlt
                injection hab' with hab'
                injection hab' with ea eb
                subst ea
                subst eb
                rw [hq] at m0 m1 m2 m3 m4
                have y0 := TA.cell 0 _ rfl
                go_wp2_with fail
                refine wp_region_line (Bel w3) [(0, true), (1, true), (2, true), (3, true), (4, true), (5, true), (6, true), (7, true)] (by kernel_rfl) (by kernel_rfl) (fun _ _ d _ _ h => by cases d <;> exact h) (Bel.drew w3) ?_
                have hst := Bel.drew w3
                have inst : Nonempty (Of (Bel w3)) := ⟨⟨_, hst⟩⟩
                have g0 := bel_cell m0
                have g1 := bel_cell y0
                iterate 8 (refine line_read rfl (by kernel_rfl) (fun K hK => ?_); go_big_quiet_op; refine hK _ ?_; clear hK K)
                refine line_nil ?_
                have TO2 : OwnP w3.drew (w.heap.size + 1) _ _ := TO
                have TA2 : At w.heap.size p.vals w3.drew := TA.keep (fun _ => rfl)
                have TB2 := TB.drew
                have ts2 : w.heap.size < w3.drew.heap.size := ts
                clear hst inst g0 g1 m0 m1 m2 m3 m4 y0 TO TA TB ts
                generalize w3.drew = v2 at *
                obtain ⟨b', off', hab', -, m0, m1, m2, m3, m4⟩ := (HR.out.below (TB2.mono hB)).at' hlt
                injection hab' with hab'
                injection hab' with ea eb
                subst ea
                subst eb
                rw [hq] at m0 m1 m2 m3 m4
                go_wp2_with (at_builtin; refine wpList_append_src _ rfl (.tmp 64) (.tmp 69) 53 53 rfl (w.heap.size + 1) 59 i0 (P5 pin0) 5 48 Tryz.underlying53 hi0 hz0 hz1 hz2 rfl _ _ _ rfl (Own.alloc TO2 _) _ 1 q.vals rfl (src_new5 _ q _ _ _ Tryz.underlying53) (by simp only [maxLen]; first | omega | (simp only [List.length_append, List.length_cons, List.length_nil]; omega)) (by first | omega | (simp only [List.length_append, List.length_cons, List.length_nil]; omega)) (by simp; omega) ?_; intro v3 w3 hown hgrow hat)
                obtain ⟨O3, A3, B3⟩ := put_app TO2 TA2 TB2 hown hgrow
                clear hown hgrow hat TO2 TA2 TB2 m0 m1 m2 m3 m4
                go_wp2_with fail
                go_roundw
                case rel => exact ⟨k + 1, true, _, by omega, by go_num, rfl, ⟨O3, A3, B3, TE.out, TL, fun h => by cases h⟩⟩
                case measure => simp [intOf]; omega
            · rw [hn] at Q1 heq
              have he : ¬ q.nm = p.nm := nlt_ne hn
              rw [decide_eq_false he] at Q2
              have TE := Lib.hid (show (out ++ [q]) ++ putG p false (ps.drop (k + 1)) = putL ps p by rw [if_neg he] at heq; simpa using heq)
              have TL : (out ++ [q]).length ≤ k + 1 + 1 := by simp; omega
              have TF : (out ++ [q]).length ≤ k + 1 := by simp; omega
              clear heq he hn
              go_wp2_with fail
              refine wp_region_line (Bel wr) [(0, true), (1, true), (2, true), (3, true), (4, true), (5, true), (6, true), (7, true), (8, true), (9, true), (10, true), (11, true)] (by kernel_rfl) (by kernel_rfl) (fun _ _ d _ _ h => by cases d <;> exact h) (Bel.drew wr) ?_
              have hst := Bel.drew wr
              have inst : Nonempty (Of (Bel wr)) := ⟨⟨_, hst⟩⟩
              have g0 := bel_cell c0
              have g1 := bel_cell p0
              iterate 12 (refine line_read rfl (by kernel_rfl) (fun K hK => ?_); go_big_quiet_op; refine hK _ ?_; clear hK K)
              refine line_nil ?_
              have TO : OwnP wr.drew (w.heap.size + 1) (.slice va out.length vc) out := hT.own
              have TA : At w.heap.size p.vals wr.drew := hT.box.keep (fun _ => rfl)
              have TB := hT.bel.drew
              have ts : w.heap.size < wr.drew.heap.size := bsz
              clear hst inst g0 g1 c0 c1 c2 c3 c4 p0 hT hbs bsz
              generalize wr.drew = v1 at *
              have x0 := TA.cell 0 _ rfl
              have x1 := TA.cell 1 _ rfl
              have x2 := TA.cell 2 _ rfl
              have x3 := TA.cell 3 _ rfl
              have x4 := TA.cell 4 _ rfl
              obtain ⟨b', off', hab', -, m0, m1, m2, m3, m4⟩ := (HR.out.below (TB.mono hB)).at' hlt
              injection hab' with hab'
              injection hab' with ea eb
              subst ea
              subst eb
              rw [hq] at m0 m1 m2 m3 m4
              have y0 := TA.cell 0 _ rfl
              go_wp2_with fail
              refine wp_region_line (Bel v1) [(0, true), (1, true), (2, true), (3, true), (4, true), (5, true), (6, true), (7, true)] (by kernel_rfl) (by kernel_rfl) (fun _ _ d _ _ h => by cases d <;> exact h) (Bel.drew v1) ?_
              have hst := Bel.drew v1
              have inst : Nonempty (Of (Bel v1)) := ⟨⟨_, hst⟩⟩
              have g0 := bel_cell m0
              have g1 := bel_cell y0
              iterate 8 (refine line_read rfl (by kernel_rfl) (fun K hK => ?_); go_big_quiet_op; refine hK _ ?_; clear hK K)
              refine line_nil ?_
              have TO2 : OwnP v1.drew (w.heap.size + 1) _ _ := TO
              have TA2 : At w.heap.size p.vals v1.drew := TA.keep (fun _ => rfl)
              have TB2 := TB.drew
              have ts2 : w.heap.size < v1.drew.heap.size := ts
              clear hst inst g0 g1 m0 m1 m2 m3 m4 y0 TO TA TB ts
              generalize v1.drew = v2 at *
              obtain ⟨b', off', hab', -, m0, m1, m2, m3, m4⟩ := (HR.out.below (TB2.mono hB)).at' hlt
              injection hab' with hab'
              injection hab' with ea eb
              subst ea
              subst eb
              rw [hq] at m0 m1 m2 m3 m4
              go_wp2_with (at_builtin; refine wpList_append_src _ rfl (.tmp 64) (.tmp 69) 53 53 rfl (w.heap.size + 1) 59 i0 (P5 pin0) 5 48 Tryz.underlying53 hi0 hz0 hz1 hz2 rfl _ _ _ rfl (Own.alloc TO2 _) _ 1 q.vals rfl (src_new5 _ q _ _ _ Tryz.underlying53) (by simp only [maxLen]; first | omega | (simp only [List.length_append, List.length_cons, List.length_nil]; omega)) (by first | omega | (simp only [List.length_append, List.length_cons, List.length_nil]; omega)) (by simp; omega) ?_; intro v3 w3 hown hgrow hat)
              obtain ⟨O3, A3, B3⟩ := put_app TO2 TA2 TB2 hown hgrow
              clear hown hgrow hat TO2 TA2 TB2 m0 m1 m2 m3 m4
              go_wp2_with fail
              go_roundw
              case rel => exact ⟨k + 1, false, _, by omega, by go_num, rfl, ⟨O3, A3, B3, TE.out, TL, fun _ => TF⟩⟩
              case measure => simp [intOf]; omega
          · by_cases he : q.nm = p.nm
            · rw [decide_eq_true he] at Q2
              have TE := Lib.hid (show out ++ putG p true (ps.drop (k + 1)) = putL ps p by rw [if_pos he] at heq; simpa using heq)
              have TL : out.length ≤ k + 1 + 1 := by omega
              clear heq he
              go_wp2_with fail
              refine wp_region_line (Bel wr) [(0, true), (1, true), (2, true), (3, true), (4, true), (5, true), (6, true), (7, true), (8, true), (9, true), (10, true), (11, true)] (by kernel_rfl) (by kernel_rfl) (fun _ _ d _ _ h => by cases d <;> exact h) (Bel.drew wr) ?_
              have hst := Bel.drew wr
              have inst : Nonempty (Of (Bel wr)) := ⟨⟨_, hst⟩⟩
              iterate 3 (refine line_read rfl (by kernel_rfl) (fun K hK => ?_); go_big_quiet_op; refine hK _ ?_; clear hK K)
              iterate 8 (refine line_skip rfl (by kernel_rfl) ?_; simp only [Act.put, List.setIfInBounds_toArray, List.set_cons_zero, List.set_cons_succ])
              iterate 1 (refine line_read rfl (by kernel_rfl) (fun K hK => ?_); go_big_quiet_op; refine hK _ ?_; clear hK K)
              refine line_nil ?_
              have TO : OwnP wr.drew (w.heap.size + 1) (.slice va out.length vc) out := hT.own
              have TA : At w.heap.size p.vals wr.drew := hT.box.keep (fun _ => rfl)
              have TB := hT.bel.drew
              have ts : w.heap.size < wr.drew.heap.size := bsz
              clear hst inst c0 c1 c2 c3 c4 p0 hT hbs bsz
              generalize wr.drew = v1 at *
              obtain ⟨b', off', hab', -, m0, m1, m2, m3, m4⟩ := (HR.out.below (TB.mono hB)).at' hlt
              injection hab' with hab'
              injection hab' with ea eb
              subst ea
              subst eb
              rw [hq] at m0 m1 m2 m3 m4
              have y0 := TA.cell 0 _ rfl
              go_wp2_with fail
              refine wp_region_line (Bel v1) [(0, true), (1, true), (2, true), (3, true), (4, true), (5, true), (6, true), (7, true)] (by kernel_rfl) (by kernel_rfl) (fun _ _ d _ _ h => by cases d <;> exact h) (Bel.drew v1) ?_
              have hst := Bel.drew v1
              have inst : Nonempty (Of (Bel v1)) := ⟨⟨_, hst⟩⟩
              have g0 := bel_cell m0
              have g1 := bel_cell y0
              iterate 8 (refine line_read rfl (by kernel_rfl) (fun K hK => ?_); go_big_quiet_op; refine hK _ ?_; clear hK K)
              refine line_nil ?_
              have TO2 : OwnP v1.drew (w.heap.size + 1) _ _ := TO
              have TA2 : At w.heap.size p.vals v1.drew := TA.keep (fun _ => rfl)
              have TB2 := TB.drew
              have ts2 : w.heap.size < v1.drew.heap.size := ts
              clear hst inst g0 g1 m0 m1 m2 m3 m4 y0 TO TA TB ts
              generalize v1.drew = v2 at *
              go_wp2_with fail
              go_roundw
              case rel => exact ⟨k + 1, true, _, by omega, by go_num, rfl, ⟨TO2, TA2, TB2, TE.out, TL, fun h => by cases h⟩⟩
              case measure => simp [intOf]; omega
            · rw [decide_eq_false he] at Q2
              have TE := Lib.hid (show (out ++ [q]) ++ putG p true (ps.drop (k + 1)) = putL ps p by rw [if_neg he] at heq; simpa using heq)
              have TL : (out ++ [q]).length ≤ k + 1 + 1 := by simp; omega
              clear heq he
              go_wp2_with fail
              refine wp_region_line (Bel wr) [(0, true), (1, true), (2, true), (3, true), (4, true), (5, true), (6, true), (7, true), (8, true), (9, true), (10, true), (11, true)] (by kernel_rfl) (by kernel_rfl) (fun _ _ d _ _ h => by cases d <;> exact h) (Bel.drew wr) ?_
              have hst := Bel.drew wr
              have inst : Nonempty (Of (Bel wr)) := ⟨⟨_, hst⟩⟩
              iterate 3 (refine line_read rfl (by kernel_rfl) (fun K hK => ?_); go_big_quiet_op; refine hK _ ?_; clear hK K)
              iterate 8 (refine line_skip rfl (by kernel_rfl) ?_; simp only [Act.put, List.setIfInBounds_toArray, List.set_cons_zero, List.set_cons_succ])
              iterate 1 (refine line_read rfl (by kernel_rfl) (fun K hK => ?_); go_big_quiet_op; refine hK _ ?_; clear hK K)
              refine line_nil ?_
              have TO : OwnP wr.drew (w.heap.size + 1) (.slice va out.length vc) out := hT.own
              have TA : At w.heap.size p.vals wr.drew := hT.box.keep (fun _ => rfl)
              have TB := hT.bel.drew
              have ts : w.heap.size < wr.drew.heap.size := bsz
              clear hst inst c0 c1 c2 c3 c4 p0 hT hbs bsz
              generalize wr.drew = v1 at *
              obtain ⟨b', off', hab', -, m0, m1, m2, m3, m4⟩ := (HR.out.below (TB.mono hB)).at' hlt
              injection hab' with hab'
              injection hab' with ea eb
              subst ea
              subst eb
              rw [hq] at m0 m1 m2 m3 m4
              have y0 := TA.cell 0 _ rfl
              go_wp2_with fail
              refine wp_region_line (Bel v1) [(0, true), (1, true), (2, true), (3, true), (4, true), (5, true), (6, true), (7, true)] (by kernel_rfl) (by kernel_rfl) (fun _ _ d _ _ h => by cases d <;> exact h) (Bel.drew v1) ?_
              have hst := Bel.drew v1
              have inst : Nonempty (Of (Bel v1)) := ⟨⟨_, hst⟩⟩
              have g0 := bel_cell m0
              have g1 := bel_cell y0
              iterate 8 (refine line_read rfl (by kernel_rfl) (fun K hK => ?_); go_big_quiet_op; refine hK _ ?_; clear hK K)
              refine line_nil ?_
              have TO2 : OwnP v1.drew (w.heap.size + 1) _ _ := TO
              have TA2 : At w.heap.size p.vals v1.drew := TA.keep (fun _ => rfl)
              have TB2 := TB.drew
              have ts2 : w.heap.size < v1.drew.heap.size := ts
              clear hst inst g0 g1 m0 m1 m2 m3 m4 y0 TO TA TB ts
              generalize v1.drew = v2 at *
              obtain ⟨b', off', hab', -, m0, m1, m2, m3, m4⟩ := (HR.out.below (TB2.mono hB)).at' hlt
              injection hab' with hab'
              injection hab' with ea eb
              subst ea
              subst eb
              rw [hq] at m0 m1 m2 m3 m4
              go_wp2_with (at_builtin; refine wpList_append_src _ rfl (.tmp 64) (.tmp 69) 53 53 rfl (w.heap.size + 1) 59 i0 (P5 pin0) 5 48 Tryz.underlying53 hi0 hz0 hz1 hz2 rfl _ _ _ rfl (Own.alloc TO2 _) _ 1 q.vals rfl (src_new5 _ q _ _ _ Tryz.underlying53) (by simp only [maxLen]; first | omega | (simp only [List.length_append, List.length_cons, List.length_nil]; omega)) (by first | omega | (simp only [List.length_append, List.length_cons, List.length_nil]; omega)) (by simp; omega) ?_; intro v3 w3 hown hgrow hat)
              obtain ⟨O3, A3, B3⟩ := put_app TO2 TA2 TB2 hown hgrow
              clear hown hgrow hat TO2 TA2 TB2 m0 m1 m2 m3 m4
              go_wp2_with fail
              go_roundw
              case rel => exact ⟨k + 1, true, _, by omega, by go_num, rfl, ⟨O3, A3, B3, TE.out, TL, fun h => by cases h⟩⟩
              case measure => simp [intOf]; omega
        · obtain rfl : k = len := by omega
          have e : ps.drop k = [] := List.drop_of_length_le (by rw [hL.out]; omega)
          have heq := hT.eq
          rw [e] at heq
          have e2 : put1 ps p = putL ps p := by unfold put1; rw [if_pos e1]
          cases d
          · have hO := hT.own
            have hA := hT.box
            have hb := hT.bel
            have HE := Lib.hid (show out ++ [p] = putL ps p from heq)
            have x0 := hA.cell 0 _ rfl
            have x1 := hA.cell 1 _ rfl
            have x2 := hA.cell 2 _ rfl
            have x3 := hA.cell 3 _ rfl
            have x4 := hA.cell 4 _ rfl
            clear hT heq
            go_wp2_with (at_builtin; refine wpList_append_src _ rfl (.tmp 73) (.tmp 75) 53 53 rfl (w.heap.size + 1) 59 i0 (P5 pin0) 5 48 Tryz.underlying53 hi0 hz0 hz1 hz2 rfl _ _ _ rfl (Own.alloc hO _) _ 1 p.vals rfl (src_new5 _ p _ _ _ Tryz.underlying53) (by simp only [maxLen]; first | omega | (simp only [List.length_append, List.length_cons, List.length_nil]; omega)) (by first | omega | (simp only [List.length_append, List.length_cons, List.length_nil]; omega)) (by simp; omega) ?_; intro v3 w3 hown hgrow hat)
            obtain ⟨O3, A3, B3⟩ := put_app hO hA hb hown hgrow
            obtain ⟨a3, c3, rfl, -⟩ := O3.form
            have H := Lib.hid (And.intro (O3.less (by omega : w.heap.size ≤ w.heap.size + 1)) B3)
            clear hown hgrow hat O3 A3 B3
            go_wp2_with fail
            refine bodyPost_ret (v := .tuple #[.slice a3 (out ++ [p]).length c3, .int .i64 0]) (by simp [results, Tryz.results224, go_sem]) rfl ⟨_, _, _, by rw [e1], by rw [e2, ← HE.out]; exact H.out.1, H.out.2⟩
          · have hO := hT.own
            have hb := hT.bel
            have HE := Lib.hid (show out = putL ps p by simpa [putG] using heq)
            have H := Lib.hid (And.intro (hO.less (by omega : w.heap.size ≤ w.heap.size + 1)) hb)
            clear hT heq hO hb
            go_wp2_with fail
            refine bodyPost_ret (v := .tuple #[.slice va out.length vc, .int .i64 0]) (by simp [results, Tryz.results224, go_sem]) rfl ⟨_, _, _, by rw [e1], by rw [e2, ← HE.out]; exact H.out.1, H.out.2⟩

theorem put0_code {ps : List PinD} {p : PinD} (h0 : pinsF ps = 0) (h1 : p.f = 0) : putC ps p = put0 ps p ∧ putR ps p = put1 ps p := by
  have hl := (pinsF_zero h0).1
  have e : putC ps p = put0 ps p := by
    cases hf : findP ps p.nm with
    | none =>
      by_cases h4 : ps.length = 4
      · rw [(putC_full h0 h1 hf h4).1, put0_full hf (by omega)]
      · rw [(putC_new h0 h1 hf h4).1, put0_new hf (by omega)]
    | some q =>
      by_cases he : p.e ≤ q.e
      · rw [(putC_old h0 h1 hf he).1, put0_old hf he]
      · rw [(putC_young h0 h1 hf he).1, put0_young hf he]
  exact ⟨e, by unfold putR put1; rw [e]⟩
end Go.Proofs.YtlodhleihnlchaaGreatDoor
