/- Contracts of the library functions that collect what an iterator over a map of pins tells. Conditions: as each theorem states. -/
import Derived.Test.YtcnpocppgghejaaDoorC7f
import Derived.Test.YtcnpocppgghejaaDoorL7
import Derived.Shelf.Abstract
namespace Go.Proofs.YtcnpocppgghejaaDoor
open Go.RowKit Go.Maps Go.Sort
set_option maxRecDepth 100000
set_option linter.unusedVariables false
attribute [local go_sem] Oper.semAt_some

theorem wpListIn_append_src {F : Fence} {nn : Nat} {P : Program} (w : World) {ops : Array Oper} {rest : List Oper} {o : Oper} {a : Act} {Q : Exit → Act → World → Prop} (hgd : o.guard = none) (s y : Operand) (t tx : TypeId)
    (ho : o.op = .call { callee := .builtin .append, args := #[s, y], argTypes := #[t, tx] })
    (B : Nat) (e : TypeId) (i : TypeInfo) (z : Value) (size bytes : Nat) (ht : P.underlying t = some (.slice e)) (hi : P.info? e = some i) (hz : i.zero = some z)
    (hsize : i.size = size) (hby : i.bytes = bytes) (hzs : z.cells.size = size)
    (v : Value) (n : Nat) (xs : List Value) (hsv : a.eval s = v) (hown : Own w B size v n xs)
    (x : Value) (m : Nat) (news : List Value) (hx : a.eval y = x) (hs : Src P size tx x m news w)
    (h63 : n + m ≤ maxLen) (hbytes : (n + m) * bytes ≤ 140737488355328) (hB : B ≤ w.heap.size)
    (h : ∀ v' w', Own w' B size v' (n + m) (xs ++ news) → w.grownBy w' v.ownBlock → (v'.ownBlock = v.ownBlock ∨ v'.ownBlock = some w.heap.size) → wpListIn F nn P ops Q rest (a.put o.dst v') w') : wpListIn F nn P ops Q (o :: rest) a w := by
  refine wpListIn_plain hgd fun K hK' => ?_
  obtain ⟨v', w', hr, h2, h3, h4⟩ := run_append_src (P := P) w B t tx o.type e i z size bytes ht hi hz hsize hby hzs v n xs hown x m news hs h63 hbytes hB
  unfold Oper.wpIn
  refine ⟨?_, ?_⟩
  · simp [Oper.about, ho, resolve, Target.leads, Sem.run_pure]
  · rw [Oper.semAt_plain F _ _ (by rw [ho]; intro c hc'; cases hc')]
    simp [execOp, ho, resolve, invoke, builtin, hsv, hx, hr, Result.andThen]
    exact hK' _ _ (h v' w' h2 h3 h4)
theorem src_new5 {P : Program} (w : World) (p : PinD) (t tx e' : TypeId) (hk : P.underlying tx = some (.slice e')) :
    Src P 5 tx (.slice (some ⟨w.heap.size, 0, none⟩) 1 1) 1 p.vals (w.alloc (.cells #[.string p.n, .int .i64 p.a, .int .i64 p.b, .int .i64 p.e, .int .i64 p.u] t)) := by
  refine Src.ofSlice _ hk _ _ _ _ rfl (fun j u hu => ?_) (pin_oneCell p)
  have A : At w.heap.size p.vals (w.alloc (.cells #[.string p.n, .int .i64 p.a, .int .i64 p.b, .int .i64 p.e, .int .i64 p.u] t)) := At.new w p.vals t
  rw [Addr.add_lit, Nat.zero_add]
  exact A.cell j u hu
theorem values_any (b : Nat) (w : World) : Calls Tryd.prog 75 #[.map (some b)] w fun e w' =>
    e = .returned (.func (.func 93) #[] #[.pointer (some ⟨w.heap.size, 0, none⟩)]) ∧ w' = w.alloc (.cells #[.map (some b)] 68) := by
  go_enter Tryd.func75, Tryd.ntmps75
  go_wp2_with fail
  go_ret
  exact ⟨rfl, rfl⟩
/-- Between two rounds: the box holds a slice of what has been told. -/
structure ApI (w : World) (bx : Nat) (pre : List PinD) (W : World) : Prop where
  box : ∃ v, At bx [v] W ∧ OwnP W w.heap.size v pre ∧ (pre = [] → v = .slice none 0 0) ∧ v.ownBlock ≠ some bx
  bel : Below w.heap.size w W
  lt : w.heap.size ≤ bx
theorem Own.isCells {w : World} {B size : Nat} {v : Value} {n : Nat} {xs : List Value} (h : Own w B size v n xs) (hn : 0 < n) (hs : 0 < size) : ∀ (j : Nat) (o : Obj), v.ownBlock = some j → w.heap[j]? = some o → o.isCells = true := by
  intro j o hj ho
  rcases h.2 with ⟨rfl, h0⟩ | ⟨g, cap, rfl, _, _, h1, _, _, hroom⟩
  · omega
  · simp [Value.ownBlock] at hj
    subst hj
    have : 0 < cap * size := Nat.mul_pos (by omega) hs
    have hc := (hroom 0 this).1
    unfold World.cell? at hc
    rw [ho] at hc
    cases o <;> simp_all [Obj.isCells]
theorem ApI.from {w : World} {bx B : Nat} (hB : bx < B) : OwnFrom B (ApI w bx) := fun s W W' row hs hgr hr => by
  obtain ⟨v, hA, hO, hn, hv⟩ := hs.box
  have hne : ∀ k, row = some k → k ≠ bx := fun k e h => by have := (hr k e).1; omega
  refine ⟨⟨v, hA.keep (fun hl => hgr.block bx hl (fun e => hne bx e.symm rfl)), ?_, hn, hv⟩, ?_, hs.lt⟩
  · refine Own.keep hO hgr.size (fun k hk => hgr.block k (Own.lt hO k hk).2 (fun e => ?_))
    obtain ⟨hB', o, ho, hc⟩ := hr k e.symm
    cases s with
    | nil => rw [hn rfl] at hk; simp [Value.ownBlock] at hk
    | cons p r =>
      have := Own.isCells hO (by simp) (by omega) k o hk ho
      rw [hc] at this
      cases this
  · exact hs.bel.grown hgr hs.bel.size (fun k e => by have := (hr k e).1; have := hs.lt; omega)

theorem At.isCells {g : Nat} {v : Value} {cs : List Value} {w : World} (h : At g (v :: cs) w) {o : Obj} (ho : w.heap[g]? = some o) : o.isCells = true := by
  have hc := h.cell 0 v rfl
  unfold World.cell? at hc
  rw [ho] at hc
  cases o <;> simp_all [Obj.isCells]
/-- The round's own variable lies in a new block. -/
def BoxA (mk : Nat → Act) (bx : Nat) (x : PinD) (a' : Act) (W : World) : Prop := ∃ g, a' = mk g ∧ At g x.vals W
theorem BoxA.from {mk : Nat → Act} {bx B : Nat} (x : PinD) (a' : Act) : OwnFrom B (fun (_ : Unit) W => BoxA mk bx x a' W) := fun _ W W' row hs hgr hr => by
  obtain ⟨g, rfl, hA⟩ := hs
  refine ⟨g, rfl, hA.keep (fun hl => hgr.block g hl (fun e => ?_))⟩
  obtain ⟨_, o, ho, hc⟩ := hr g e.symm
  have := At.isCells (cs := [.int .i64 x.a, .int .i64 x.b, .int .i64 x.e, .int .i64 x.u]) hA ho
  rw [hc] at this
  cases this
/-- What an append and a store into the box make of it. -/
theorem ApI.step {w W w3 : World} {bx : Nat} {pre : List PinD} {x : PinD} {v v3 : Value} {o : Obj} (h : ApI w bx pre W) (hA : At bx [v] W) (hO : OwnP W w.heap.size v pre) (hn : pre = [] → v = .slice none 0 0) (hv : v.ownBlock ≠ some bx)
    (hown : Own w3 w.heap.size 5 v3 (pre.length + 1) (flat pre ++ x.vals)) (hgrow : (W.alloc o).grownBy w3 v.ownBlock) (hat : v3.ownBlock = v.ownBlock ∨ v3.ownBlock = some (W.alloc o).heap.size) :
    ApI w bx (pre ++ [x]) (w3.setCell ⟨bx, 0, none⟩ v3) ∧ KeepsOthers W (w3.setCell ⟨bx, 0, none⟩ v3) := by
  have hlt := hA.lt (by simp)
  have hv3 : v3.ownBlock ≠ some bx := by
    rcases hat with e | e
    · rw [e]; exact hv
    · rw [e]; intro e2; injection e2 with e2; simp at e2; omega
  have hO2 : OwnP w3 w.heap.size v3 (pre ++ [x]) := by
    unfold OwnP
    rw [flat_append, List.length_append]
    simpa [flat] using hown
  have hb3 : Below w.heap.size w w3 := (bal h.bel o).grown hgrow (bal h.bel o).size (fun k e => (Own.lt hO k e).1)
  have hA3 : At bx [v] w3 := (hA.alloc o).kept hgrow (fun e => hv e.symm)
  refine ⟨⟨⟨v3, ?_, ?_, fun e => by simp at e, hv3⟩, bset hb3 h.lt v3, h.lt⟩, ?_⟩
  · have := hA3.set 0 v3
    simpa using this
  · exact Own.setCell hO2 (fun k hk e => hv3 (by rw [hk]; exact congrArg some e)) v3
  · refine ((KeepsOthers.alloc W o).trans (KeepsOthers.of_grownBy hgrow ?_)).trans (KeepsOthers.setCell _ _ _)
    intro j o' hj ho'
    cases pre with
    | nil => rw [hn rfl] at hj; simp [Value.ownBlock] at hj
    | cons p r => exact Own.isCells (OwnP.alloc hO o) (by simp) (by omega) j o' hj ho'

set_option maxHeartbeats 4000000 in
theorem appendSeq_any (b Bm : Nat) (ps : List PinD) (w : World) (hBm : Bm < w.heap.size) (cm : w.cell? ⟨Bm, 0, none⟩ = some (.map (some b))) (hM : PMap w b ps) (hl : ps.length ≤ 1000) :
    Calls Tryd.prog 104 #[.slice none 0 0, .func (.func 93) #[] #[.pointer (some ⟨Bm, 0, none⟩)]] w fun e w' =>
      ∃ v xs, e = .returned v ∧ xs.Perm ps ∧ OwnP w' w.heap.size v xs ∧ Below w.heap.size w w' := by
  obtain ⟨i0, hi0, hz0, hz1, hz2⟩ := info_parts pin_info
  refine (callsIn_wide (n := 5)).1 ?_
  refine callsIn_of_wp_marks Tryd.func104 rfl trivial ?_ rfl
  simp only [Tryd.ntmps104, List.size_toArray, List.length_cons, List.length_nil, Nat.reduceAdd, Nat.reduceSub, Array.replicate_succ, Array.replicate_zero, List.push_toArray, List.append_toArray, List.nil_append, List.cons_append]
  refine wpIn_wide.2 ?_
  go_wp2_with fail
  have b0 := bal (Below.refl _ w) (.cells #[.slice none 0 0] 32)
  have X0 := At.new w [.slice none 0 0] 32
  have I0 : ApI w w.heap.size [] (w.alloc (.cells #[.slice none 0 0] 32)) := ⟨⟨_, X0, OwnP.nil _ _, fun _ => rfl, by simp [Value.ownBlock]⟩, b0, Nat.le_refl _⟩
  have hB0 : Bm < (w.alloc (.cells #[.slice none 0 0] 32)).heap.size := by simp; omega
  have hsz0 : (w.alloc (.cells #[.slice none 0 0] 32)).heap.size = w.heap.size + 1 := by simp
  have hS := values_stops (5 - 1) (by omega) Bm b ps w hBm cm hM
  clear X0
  generalize w.alloc (.cells #[.slice none 0 0] 32) = w1 at *
  refine (wpIn_wide (n := 5)).1 ?_
  refine wpIn_rangeFunc_ownH rfl (by omega) (gf := 93) (lb := #[.pointer (some ⟨Bm, 0, none⟩)]) rfl trivial (enters_of Tryd.func93 (by kernel_rfl) rfl)
    hS (fun h k => h.trans k) (walksK_b (w := w1)) b0 (fun _ => rfl)
    (ApI w w.heap.size) (fun _ _ _ => False) (ApI.from (by omega)) (fun _ _ _ _ _ hs _ _ => hs) I0
    (fun x a' W => ∃ g, a' = { tmps := #[.slice none 0 0, .func (.func 93) #[] #[.pointer (some ⟨Bm, 0, none⟩)], .pointer (some ⟨w.heap.size, 0, none⟩), undef, .slice none 0 0, .pointer (some ⟨g, 0, none⟩), .func (.func 93) #[] #[.pointer (some ⟨Bm, 0, none⟩)], P5 x, undef, undef, undef, undef, undef], defers := [] } ∧ At g x.vals W)
    (fun x a' => BoxA.from (mk := fun g => { tmps := #[.slice none 0 0, .func (.func 93) #[] #[.pointer (some ⟨Bm, 0, none⟩)], .pointer (some ⟨w.heap.size, 0, none⟩), undef, .slice none 0 0, .pointer (some ⟨g, 0, none⟩), .func (.func 93) #[] #[.pointer (some ⟨Bm, 0, none⟩)], P5 x, undef, undef, undef, undef, undef], defers := [] }) (bx := 0) x a') ?assign ?body ?done ?stop
  case assign =>
    intro l pre x W K hI hK
    gi_wp2
    exact hK _ _ ((KeepsOthers.alloc W _).from _) (KeepsWalks.alloc W _) (OwnFrom.alloc (ApI.from (B := w.heap.size + 1) (by omega)) _ hI) ⟨W.heap.size, rfl, At.new W x.vals 26⟩
  case body =>
    rintro l pre x a' W - - hI ⟨g, rfl, hAg⟩ hlen
    obtain ⟨v, hAx, hO, hn, hv⟩ := hI.box
    obtain ⟨a0, c0, rfl, -⟩ := hO.form
    have hsrc := src_new5 (P := Tryd.prog) W x 26 32 26 Tryd.underlying32
    have x0 := hAx.cell 0 _ rfl
    have hbs := hI.bel.size
    have S3 := Lib.hid (fun (w3 : World) (v3 : Value) => hI.step (w3 := w3) (v3 := v3) (x := x) (o := .cells #[.string x.n, .int .i64 x.a, .int .i64 x.b, .int .i64 x.e, .int .i64 x.u] 26) hAx hO hn hv)
    have A3' := Lib.hid (fun (w3 : World) (hgrow : (W.alloc (.cells #[.string x.n, .int .i64 x.a, .int .i64 x.b, .int .i64 x.e, .int .i64 x.u] 26)).grownBy w3 (Value.slice a0 pre.length c0).ownBlock) => (hAx.alloc (.cells #[.string x.n, .int .i64 x.a, .int .i64 x.b, .int .i64 x.e, .int .i64 x.u] 26)).kept hgrow (fun e => hv e.symm))
    have HO := Lib.hid hO
    have y0 := hAg.cell 0 _ rfl
    have y1 := hAg.cell 1 _ rfl
    have y2 := hAg.cell 2 _ rfl
    have y3 := hAg.cell 3 _ rfl
    have y4 := hAg.cell 4 _ rfl
    clear hO hn hI hAg hAx hS hM cm
    gi_wp2_with (first
      | (gi_at_builtin; refine wpListIn_append_src _ rfl (.tmp 8) (.tmp 10) 32 32 rfl w.heap.size 26 i0 (P5 pin0) 5 48 Tryd.underlying32 hi0 hz0 hz1 hz2 rfl _ _ _ rfl (Own.alloc HO.out _) _ 1 x.vals rfl hsrc (by simp only [maxLen]; omega) (by omega) (by simp; omega) ?_; intro v3 w3 hown hgrow hat
         have st := S3.out w3 v3 hown hgrow hat
         have A3 := A3'.out w3 hgrow
         have z0 := A3.cell 0 _ rfl
         have f0 := A3.free 0 _ rfl
         obtain ⟨a3, c3, rfl, -⟩ := Own.form hown
         go_frame)
      | gi_in)
    exact ⟨st.2.from _, st.2.walks, st.1⟩
  case done =>
    rintro D xs W hD hxs hI hdef
    obtain ⟨v, hAx, hO, hn, hv⟩ := hI.box
    have hb := hI.bel
    obtain ⟨a0, c0, rfl, -⟩ := hO.form
    have x0 := hAx.cell 0 _ rfl
    have HO := Lib.hid hO
    have HB := Lib.hid hb
    have HX := Lib.hid hxs
    have HN := Lib.hid hn
    have hDD : w.heap.size ≤ D := by omega
    have HD := Lib.hid hDD
    clear hO hn hI hAx hS hM cm hb hxs
    gi_wp2
    go_wp2_with fail
    refine ⟨by simp, .inl ⟨_, _, rfl, run_takeDeferred hdef, ?_⟩⟩
    have hgr := grownBy_putObj' W D (.deferred none)
    refine ⟨_, results_tmp rfl _ _ _, ?_⟩
    refine ⟨_, xs, rfl, HX.out, ?_, HB.out.trans (belowK_b (w := w) (Nat.le_refl _) W D _ _ HD.out hdef rfl rfl)⟩
    refine Own.keep HO.out hgr.size (fun q hq => hgr.block q (Own.lt HO.out q hq).2 (fun e => ?_))
    injection e with e
    subst e
    cases xs with
    | nil => rw [HN.out rfl] at hq; simp [Value.ownBlock] at hq
    | cons p r =>
      have := Own.isCells HO.out (by simp) (by omega) q _ hq hdef
      cases this
  case stop =>
    rintro D c' pre W _ _ h _
    exact h.elim

theorem collect_any (b Bm : Nat) (ps : List PinD) (w : World) (hBm : Bm < w.heap.size) (cm : w.cell? ⟨Bm, 0, none⟩ = some (.map (some b))) (hM : PMap w b ps) (hl : ps.length ≤ 1000) :
    Calls Tryd.prog 91 #[.func (.func 93) #[] #[.pointer (some ⟨Bm, 0, none⟩)]] w fun e w' =>
      ∃ v xs, e = .returned v ∧ xs.Perm ps ∧ OwnP w' w.heap.size v xs ∧ Below w.heap.size w w' := by
  have S := appendSeq_any b Bm ps w hBm cm hM hl
  clear hM cm
  go_enter Tryd.func91, Tryd.ntmps91
  go_wp2_with fail
  refine S.mono ?_
  rintro r u1 ⟨v, xs, rfl, hp, hO, b1⟩
  have HO := Lib.hid hO
  obtain ⟨a0, c0, rfl, -⟩ := hO.form
  clear hO
  go_wp2_with fail
  go_ret
  exact ⟨_, xs, rfl, hp, HO.out, b1⟩
end Go.Proofs.YtcnpocppgghejaaDoor
