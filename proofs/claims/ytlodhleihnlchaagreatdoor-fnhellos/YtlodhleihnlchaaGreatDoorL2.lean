/- Texts of this seat that several laws rest on, laid into one. Conditions: as each theorem states. -/
import Derived.Test.YtlodhleihnlchaaGreatDoorL0
import Derived.Test.YtlodhleihnlchaaGreatDoorL1
import Derived.Test.YtlodhleihnlchaaGreatDoorProg
import Derived.Shelf.Strings.OnBuilder
import Derived.Shelf.Strings.Prefix
import Derived.OrdersHeld
import Derived.Deep.Quiet
import Derived.BigQuiet
import Derived.Laws.BytesString
import Derived.Laws.CopyOwn
namespace Go.Proofs.YtlodhleihnlchaaGreatDoor
open Go.Shelf
def lays159_ren : Go.Shelf.Ren := ⟨fun | 159 => 228 | 165 => 278 | 166 => 279 | 167 => 280 | 169 => 281 | 230 => 282 | 204 => 283 | 240 => 306 | 241 => 307 | 197 => 308 | 118 => 309 | 168 => 310 | 270 => 311 | 262 => 312 | 276 => 322 | 277 => 323 | 260 => 324 | 242 => 325 | 313 => 326 | 278 => 337 | 274 => 338 | 275 => 339 | n => n, fun | 9 => 9 | 4 => 4 | 3 => 3 | 5 => 5 | 72 => 341 | 0 => 0 | 76 => 343 | 75 => 160 | 107 => 348 | 70 => 339 | 20 => 20 | 37 => 22 | 127 => 374 | 21 => 21 | 105 => 375 | 164 => 358 | 162 => 404 | 203 => 402 | 119 => 416 | 46 => 324 | 139 => 419 | 138 => 418 | 51 => 271 | 160 => 420 | 208 => 432 | 206 => 430 | 80 => 346 | n => n, fun | 13 => 5 | 3 => 6 | 4 => 7 | n => n⟩
theorem lays159 : Go.Proofs.Lays.n159 Tryz.prog lays159_ren := {
  mixed := by kernel_rfl
  f118 := Tryz.func309.trans (congrArg some (by kernel_rfl))
  f159 := Tryz.func228.trans (congrArg some (by kernel_rfl))
  f165 := Tryz.func278.trans (congrArg some (by kernel_rfl))
  f166 := Tryz.func279.trans (congrArg some (by kernel_rfl))
  f167 := Tryz.func280.trans (congrArg some (by kernel_rfl))
  f168 := Tryz.func310.trans (congrArg some (by kernel_rfl))
  f169 := Tryz.func281.trans (congrArg some (by kernel_rfl))
  f197 := Tryz.func308.trans (congrArg some (by kernel_rfl))
  f204 := Tryz.func283.trans (congrArg some (by kernel_rfl))
  f230 := Tryz.func282.trans (congrArg some (by kernel_rfl))
  f240 := Tryz.func306.trans (congrArg some (by kernel_rfl))
  f241 := Tryz.func307.trans (congrArg some (by kernel_rfl))
  f242 := Tryz.func325.trans (congrArg some (by kernel_rfl))
  f260 := Tryz.func324.trans (congrArg some (by kernel_rfl))
  f262 := Tryz.func312.trans (congrArg some (by kernel_rfl))
  f270 := Tryz.func311.trans (congrArg some (by kernel_rfl))
  f274 := Tryz.func338.trans (congrArg some (by kernel_rfl))
  f275 := Tryz.func339.trans (congrArg some (by kernel_rfl))
  f276 := Tryz.func322.trans (congrArg some (by kernel_rfl))
  f277 := Tryz.func323.trans (congrArg some (by kernel_rfl))
  f278 := Tryz.func337.trans (congrArg some (by kernel_rfl))
  f313 := Tryz.func326.trans (congrArg some (by kernel_rfl))
  t0 := Tryz.underlying0
  a0 := Tryz.isAgg0
  z0 := Tryz.sizeOf0
  v0 := Tryz.zeroValue0
  t3 := Tryz.underlying3
  a3 := Tryz.isAgg3
  z3 := Tryz.sizeOf3
  v3 := Tryz.zeroValue3
  t4 := Tryz.underlying4
  a4 := Tryz.isAgg4
  z4 := Tryz.sizeOf4
  v4 := Tryz.zeroValue4
  t5 := Tryz.underlying5
  a5 := Tryz.isAgg5
  z5 := Tryz.sizeOf5
  v5 := Tryz.zeroValue5
  t9 := Tryz.underlying9
  a9 := Tryz.isAgg9
  z9 := Tryz.sizeOf9
  v9 := Tryz.zeroValue9
  t20 := Tryz.underlying20
  a20 := Tryz.isAgg20
  z20 := Tryz.sizeOf20
  v20 := Tryz.zeroValue20
  t21 := Tryz.underlying21
  a21 := Tryz.isAgg21
  z21 := Tryz.sizeOf21
  v21 := Tryz.zeroValue21
  t37 := Tryz.underlying22
  a37 := Tryz.isAgg22
  z37 := Tryz.sizeOf22
  v37 := Tryz.zeroValue22
  t46 := Tryz.underlying324
  a46 := Tryz.isAgg324
  z46 := Tryz.sizeOf324
  v46 := Tryz.zeroValue324
  t51 := Tryz.underlying271
  a51 := Tryz.isAgg271
  z51 := Tryz.sizeOf271
  v51 := Tryz.zeroValue271
  t70 := Tryz.underlying339
  a70 := Tryz.isAgg339
  z70 := Tryz.sizeOf339
  v70 := Tryz.zeroValue339
  t72 := Tryz.underlying341
  a72 := Tryz.isAgg341
  z72 := Tryz.sizeOf341
  v72 := Tryz.zeroValue341
  t75 := Tryz.underlying160
  a75 := Tryz.isAgg160
  z75 := Tryz.sizeOf160
  v75 := Tryz.zeroValue160
  t76 := Tryz.underlying343
  a76 := Tryz.isAgg343
  z76 := Tryz.sizeOf343
  v76 := Tryz.zeroValue343
  t105 := Tryz.underlying375
  a105 := Tryz.isAgg375
  z105 := Tryz.sizeOf375
  v105 := Tryz.zeroValue375
  t107 := Tryz.underlying348
  a107 := Tryz.isAgg348
  z107 := Tryz.sizeOf348
  v107 := Tryz.zeroValue348
  t119 := Tryz.underlying416
  a119 := Tryz.isAgg416
  z119 := Tryz.sizeOf416
  t127 := Tryz.underlying374
  a127 := Tryz.isAgg374
  z127 := Tryz.sizeOf374
  v127 := Tryz.zeroValue374
  t138 := Tryz.underlying418
  a138 := Tryz.isAgg418
  z138 := Tryz.sizeOf418
  v138 := Tryz.zeroValue418
  t139 := Tryz.underlying419
  a139 := Tryz.isAgg419
  z139 := Tryz.sizeOf419
  v139 := Tryz.zeroValue419
  t160 := Tryz.underlying420
  a160 := Tryz.isAgg420
  z160 := Tryz.sizeOf420
  v160 := Tryz.zeroValue420
  t162 := Tryz.underlying404
  a162 := Tryz.isAgg404
  z162 := Tryz.sizeOf404
  v162 := Tryz.zeroValue404
  t164 := Tryz.underlying358
  a164 := Tryz.isAgg358
  z164 := Tryz.sizeOf358
  v164 := Tryz.zeroValue358
  t203 := Tryz.underlying402
  a203 := Tryz.isAgg402
  z203 := Tryz.sizeOf402
  v203 := Tryz.zeroValue402
  t206 := Tryz.underlying430
  a206 := Tryz.isAgg430
  z206 := Tryz.sizeOf430
  v206 := Tryz.zeroValue430
  t208 := Tryz.underlying432
  a208 := Tryz.isAgg432
  z208 := Tryz.sizeOf432
  v208 := Tryz.zeroValue432
  g3 := by kernel_rfl
  g4 := by kernel_rfl
  g13 := by kernel_rfl }
def lays102_ren : Go.Shelf.Ren := ⟨fun | 102 => 229 | 209 => 284 | 207 => 313 | n => n, fun | 9 => 9 | 4 => 4 | 3 => 3 | n => n, fun | n => n⟩
theorem lays102 : Go.Proofs.Lays.n102 Tryz.prog lays102_ren := {
  mixed := by kernel_rfl
  f102 := Tryz.func229.trans (congrArg some (by kernel_rfl))
  f207 := Tryz.func313.trans (congrArg some (by kernel_rfl))
  f209 := Tryz.func284.trans (congrArg some (by kernel_rfl))
  t3 := Tryz.underlying3
  a3 := Tryz.isAgg3
  z3 := Tryz.sizeOf3
  v3 := Tryz.zeroValue3
  t4 := Tryz.underlying4
  a4 := Tryz.isAgg4
  z4 := Tryz.sizeOf4
  v4 := Tryz.zeroValue4
  t9 := Tryz.underlying9
  a9 := Tryz.isAgg9
  z9 := Tryz.sizeOf9
  v9 := Tryz.zeroValue9 }
end Go.Proofs.YtlodhleihnlchaaGreatDoor
namespace Go.Proofs.YtlodhleihnlchaaGreatDoor
open Go.RowKit

structure Of (S : World → Prop) where
  val : World
  prop : S val

structure Bel (W w : World) : Prop where
  out : Below W.heap.size W w
theorem Bel.on {W w w' : World} (h : Bel W w) (hb : Below w.heap.size w w') : Bel W w' := ⟨btr h.out hb⟩
theorem Bel.drew (W : World) : Bel W W.drew := ⟨(Below.refl _ _).drew⟩

structure SigAt (w : World) (g : Nat) (p q : Int) (cur : World) : Prop where
  bel : Below w.heap.size w cur
  c0 : cur.cell? ⟨g, 0, none⟩ = some (.int .i64 p)
  c1 : cur.cell? ⟨g, 1, none⟩ = some (.int .i64 q)
theorem SigAt.on {w : World} {g : Nat} {p q : Int} {cur cur' : World} (h : SigAt w g p q cur) (hb : Below cur.heap.size cur cur') : SigAt w g p q cur' := ⟨btr h.bel hb, cell_keep hb h.c0, cell_keep hb h.c1⟩
theorem SigAt.set {w : World} {g : Nat} {p q : Int} {cur : World} (h : SigAt w g p q cur) (hg : w.heap.size < g) {x y : Value} : SigAt w g p q ((cur.setCell ⟨w.heap.size, 0, none⟩ x).setCell ⟨w.heap.size, 1, none⟩ y) := by
  have ne : ∀ i j, (⟨w.heap.size, i, none⟩ : Addr) ≠ ⟨g, j, none⟩ := fun i j e => by injection e with e1; omega
  refine ⟨bset (bset h.bel (Nat.le_refl _) _) (Nat.le_refl _) _, ?_, ?_⟩
  · rw [World.cell?_setCell_other _ _ _ _ (ne 1 0), World.cell?_setCell_other _ _ _ _ (ne 0 0)]; exact h.c0
  · rw [World.cell?_setCell_other _ _ _ _ (ne 1 1), World.cell?_setCell_other _ _ _ _ (ne 0 1)]; exact h.c1

def readsB (o : Oper) : Bool := match o.op with
  | .move _ => true
  | .assign _ => true
  | .pick _ _ _ => true
  | .load _ _ => true
  | .binOp _ _ _ _ _ => true
  | .unOp _ _ _ => true
  | .slice _ _ _ _ _ => true
  | .fieldAddr _ _ _ => true
  | .field _ _ _ => true
  | .indexAddr _ _ _ => true
  | .index _ _ _ => true
  | .extract _ _ => true
  | .nilCheck _ => true
  | .convert _ _ _ => true
  | .build _ _ => true
  | .call c => match c.callee with
    | .builtin .len => true
    | _ => false
  | _ => false

theorem value_of_bind {P : Program} {s : Sem Value} {w w' : World} {n : Next} (h : (s >>= fun x => pure (Next.value x)).run P w = .ok n w') : ∃ u, n = .value u := by
  rw [Sem.run_bind] at h
  cases hs : s.run P w with
  | ok x w1 =>
    rw [hs] at h
    simp only [Result.andThen_ok, Sem.run_pure] at h
    injection h with h1 h2
    exact ⟨x, h1.symm⟩
  | halt x w1 =>
    rw [hs] at h
    cases h
theorem bind_tail {P : Program} {α β : Type} {s : Sem α} {f : α → Sem β} {w w' : World} {n : β} (h : (s >>= f).run P w = .ok n w') : ∃ x w1, (f x).run P w1 = .ok n w' := by
  rw [Sem.run_bind] at h
  cases hs : s.run P w with
  | ok x w1 =>
    rw [hs] at h
    exact ⟨x, w1, by simpa only [Result.andThen_ok] using h⟩
  | halt x w1 =>
    rw [hs] at h
    cases h
theorem reads_value {P : Program} {o : Oper} (h : readsB o = true) {ρ : Operand → Value} {w w' : World} {n : Next} (hr : (execOp ρ o).run P w = .ok n w') : ∃ u, n = .value u := by
  unfold execOp at hr
  unfold readsB at h
  cases hop : o.op <;> rw [hop] at h hr <;> first | (cases h; done) | skip
  case move x => simp only [Sem.run_pure] at hr; injection hr with h1 h2; exact ⟨_, h1.symm⟩
  case assign x => simp only [Sem.run_pure] at hr; injection hr with h1 h2; exact ⟨_, h1.symm⟩
  case pick c x y =>
    have := value_of_bind (s := do pure (if ← asBool (ρ c) then ρ x else ρ y)) (P := P) (w := w) (w' := w') (n := n) (by simpa using hr)
    exact this
  case call c =>
    simp only at h
    split at h
    · rename_i hc
      simp only [resolve, hc, invoke, builtin] at hr
      simp only [Sem.run_bind, Sem.run_pure, Result.andThen_ok] at hr
      exact value_of_bind (P := P) (s := Builtin.len_ c.argTypes o.type (Array.map ρ c.args)) (w := w) (w' := w') (by rw [Sem.run_bind]; simpa only [Sem.run_pure] using hr)
    · cases h
  case nilCheck x =>
    simp only at hr
    split at hr
    · simp [runtimePanic, goPanic, Result.andThen] at hr
    · simp [runtimePanic, goPanic, Result.andThen] at hr
    · simp [runtimePanic, goPanic, Result.andThen] at hr
    · split at hr
      · simp [runtimePanic, goPanic, Result.andThen] at hr
      · obtain ⟨_, _, hr⟩ := bind_tail hr
        obtain ⟨_, _, hr⟩ := bind_tail hr
        split at hr
        · obtain ⟨_, _, hr⟩ := bind_tail hr
          simp only [Sem.run_pure] at hr; injection hr with h1 h2; exact ⟨_, h1.symm⟩
        · simp only [Sem.run_pure] at hr; injection hr with h1 h2; exact ⟨_, h1.symm⟩
      · simp only [Sem.run_pure] at hr; injection hr with h1 h2; exact ⟨_, h1.symm⟩
    · simp only [Sem.run_pure] at hr; injection hr with h1 h2; exact ⟨_, h1.symm⟩
  all_goals exact value_of_bind hr

section
variable {P : Program} {ops : Array Oper} {Q : Exit → Act → World → Prop} {md : Region.Mode} {S : World → Prop}

def wpLine (P : Program) (ops : Array Oper) (S : World → Prop) (Q : Exit → Act → World → Prop) (C : Act → World → Prop) : List (Nat × Bool) → Act → World → Prop
  | [], a, w => C a w
  | (i, m) :: r, a, w => match ops[i]? with
    | none => False
    | some o =>
      if Region.wanted o (yielded ops a.tmps) = true then
        (if m = true then o.quiet P a (fun w' => ∃ x : Of S, w' = x.val) (fun a' => wpLine P ops S Q C r a' w) else o.wp P a w (fun a' w' => S w' ∧ wpLine P ops S Q C r a' w') Q)
      else wpLine P ops S Q C r (a.put o.dst undef) w

def marked (listed : Array Bool) : List (Nat × Bool) → Array Bool
  | [] => listed
  | (i, _) :: r => marked (listed.setIfInBounds i true) r
def segB (md : Region.Mode) (ops : Array Oper) : List (Nat × Bool) → Array Bool → Bool
  | [], _ => true
  | (i, m) :: r, listed =>
    (match ops[i]? with
      | some o => if m then (Region.ready md ops listed).contains i && Region.free md ops listed i && readsB o else decide (Region.ready md ops listed = [i])
      | none => false) && segB md ops r (listed.setIfInBounds i true)

theorem wpAnyH_seg (hs : Region.noSelect ops = true) (hQ : ∀ c a d v w, Q (.panic c) (a.put d v) w → Q (.panic c) a w) {C : Act → World → Prop} (n : Nat) : ∀ (l : List (Nat × Bool)) (listed : Array Bool) (a : Act) (w : World),
    segB md ops l listed = true → S w → (∀ a w, C a w → S w → wpAnyH P md ops Q S n (marked listed l) a w) → wpLine P ops S Q C l a w → wpAnyH P md ops Q S (n + l.length) listed a w
  | [], listed, a, w, _, hS, hC, h => hC a w h hS
  | (i, m) :: r, listed, a, w, hB, hS, hC, h => by
    unfold wpLine at h
    unfold segB at hB
    cases ho : ops[i]? with
    | none => rw [ho] at h; exact h.elim
    | some o =>
      rw [ho] at h hB
      simp only [Bool.and_eq_true] at h hB
      obtain ⟨h1, h2⟩ := hB
      have hC' : ∀ a w, C a w → S w → wpAnyH P md ops Q S n (marked (listed.setIfInBounds i true) r) a w := hC
      have e : n + ((i, m) :: r).length = (n + r.length) + 1 := by simp; omega
      rw [e]
      cases m with
      | true =>
        simp only [if_true, Bool.and_eq_true] at h1 h
        obtain ⟨⟨hr, hf⟩, hrd⟩ := h1
        by_cases hw : Region.wanted o (yielded ops a.tmps) = true
        · rw [if_pos hw] at h
          obtain ⟨v, hv, hn⟩ := h
          refine wpAnyH_take ho hs hf hr (fun c a w => hQ c a _ _ w) (Or.inl ⟨hw, fun w1 hS1 => ?_⟩) hS (wpAnyH_seg hs hQ n r _ _ w h2 hS hC' hn)
          have hq := hv w1 ⟨⟨w1, hS1⟩, rfl⟩
          unfold Oper.quietAt at hq
          cases hx : (execOp a.eval o).run P w1 with
          | halt x w2 => rw [hx] at hq; exact hq.elim
          | ok n w2 =>
            obtain ⟨u, rfl⟩ := reads_value hrd hx
            rw [hx] at hq
            obtain ⟨e1, e2⟩ := hq
            rw [e1, e2]
        · rw [if_neg hw] at h
          have hw' : Region.wanted o (yielded ops a.tmps) = false := by simpa using hw
          exact wpAnyH_take ho hs hf hr (fun c a w => hQ c a _ _ w) (Or.inr ⟨hw', rfl⟩) hS (wpAnyH_seg hs hQ n r _ _ w h2 hS hC' h)
      | false =>
        simp only [Bool.false_eq_true, if_false, decide_eq_true_eq] at h1 h
        refine wpAnyH_all h1 (by simp) fun j hj => ?_
        have hj2 : j = i := by simpa using hj
        subst hj2
        unfold wpOp
        rw [ho]
        by_cases hw : Region.wanted o (yielded ops a.tmps) = true
        · simp only [hw, if_true] at h ⊢
          exact .inl (Oper.wp_mono (fun a' w' h' => ⟨h'.1, wpAnyH_seg hs hQ n r _ a' w' h2 h'.1 hC' h'.2⟩) h)
        · simp only [hw] at h ⊢
          exact ⟨hS, wpAnyH_seg hs hQ n r _ _ w h2 hS hC' h⟩

structure LineP (P : Program) (ops : Array Oper) (S : World → Prop) (Q : Exit → Act → World → Prop) (C : Act → World → Prop) (l : List (Nat × Bool)) (a : Act) (w : World) : Prop where
  out : wpLine P ops S Q C l a w

theorem wp_region_line {id : Nat} {a : Act} {w : World} {l : List Oper} (S : World → Prop) (π : List (Nat × Bool)) (hm : P.follows .mixedOrders = true)
    (hB : (Region.noSelect l.toArray && decide (π.length = l.length) && segB .any l.toArray π (Array.replicate l.toArray.size false) && (Region.ready .any l.toArray (marked (Array.replicate l.toArray.size false) π)).isEmpty) = true) (hQ : ∀ c a d v w, Q (.panic c) (a.put d v) w → Q (.panic c) a w)
    (hS : S w.drew) (h : LineP P l.toArray S Q (Q .normal) π a w.drew) : (Code.region id l.toArray true).wp P Q a w := by
  simp only [Bool.and_eq_true, decide_eq_true_eq] at hB
  refine wp_region_held (S := S) hm ?_
  have := wpAnyH_seg (md := .any) (C := Q .normal) hB.1.1.1 hQ 0 π _ a w.drew hB.1.2 hS (fun a w hc _ => ⟨by simpa using hB.2, hc⟩) h.out
  rw [hB.1.1.2] at this
  simpa using this

structure AnyP (P : Program) (ops : Array Oper) (S : World → Prop) (Q : Exit → Act → World → Prop) (n : Nat) (listed : Array Bool) (a : Act) (w : World) : Prop where
  out : S w → wpAnyH P .any ops Q S n listed a w
theorem wp_region_fork {id : Nat} {a : Act} {w : World} {l : List Oper} (S : World → Prop) (hm : P.follows .mixedOrders = true) (hS : S w.drew) (h : AnyP P l.toArray S Q l.length (Array.replicate l.toArray.size false) a w.drew) : (Code.region id l.toArray true).wp P Q a w := by
  refine wp_region_held (S := S) hm ?_
  have := h.out hS
  simpa using this
theorem any_seg {a : Act} {w : World} {l : List Oper} {n : Nat} {listed : Array Bool} (m : Nat) (π : List (Nat × Bool)) (hB : (Region.noSelect l.toArray && decide (n = m + π.length) && segB .any l.toArray π listed) = true) (hQ : ∀ c a d v w, Q (.panic c) (a.put d v) w → Q (.panic c) a w)
    (h : LineP P l.toArray S Q (AnyP P l.toArray S Q m (marked listed π)) π a w) : AnyP P l.toArray S Q n listed a w := by
  simp only [Bool.and_eq_true, decide_eq_true_eq] at hB
  refine ⟨fun hS => ?_⟩
  rw [hB.1.2]
  exact wpAnyH_seg (md := .any) hB.1.1 hQ m π _ a w hB.2 hS (fun a w hc hS => hc.out hS) h.out
theorem any_rest {a : Act} {w : World} {l : List Oper} {n : Nat} {listed : Array Bool} (π : List (Nat × Bool)) (hB : (Region.noSelect l.toArray && decide (n = π.length) && segB .any l.toArray π listed && (Region.ready .any l.toArray (marked listed π)).isEmpty) = true) (hQ : ∀ c a d v w, Q (.panic c) (a.put d v) w → Q (.panic c) a w)
    (h : LineP P l.toArray S Q (Q .normal) π a w) : AnyP P l.toArray S Q n listed a w := by
  simp only [Bool.and_eq_true, decide_eq_true_eq] at hB
  refine ⟨fun hS => ?_⟩
  have := wpAnyH_seg (md := .any) (C := Q .normal) hB.1.1.1 hQ 0 π _ a w hB.1.2 hS (fun a w hc _ => ⟨by simpa using hB.2, hc⟩) h.out
  rw [hB.1.1.2]
  simpa using this
theorem any_fork {a : Act} {w : World} {l : List Oper} {n : Nat} {listed : Array Bool} {o1 o2 : Oper} (i j : Nat) (hr : Region.ready .any l.toArray listed = [i, j]) (ho1 : l[i]? = some o1) (ho2 : l[j]? = some o2) (hw1 : Region.wanted o1 (yielded l.toArray a.tmps) = true) (hw2 : Region.wanted o2 (yielded l.toArray a.tmps) = true)
    (h1 : ∀ K : Act → World → Prop, (∀ a' w', S w' → AnyP P l.toArray S Q n (listed.setIfInBounds i true) a' w' → K a' w') → o1.wp P a w K Q) (h2 : ∀ K : Act → World → Prop, (∀ a' w', S w' → AnyP P l.toArray S Q n (listed.setIfInBounds j true) a' w' → K a' w') → o2.wp P a w K Q) :
    AnyP P l.toArray S Q (n + 1) listed a w := by
  refine ⟨fun hS => wpAnyH_all hr (by simp) fun x hx => ?_⟩
  simp only [List.mem_cons, List.not_mem_nil, or_false] at hx
  rcases hx with rfl | rfl
  · unfold wpOp
    rw [show l.toArray[x]? = some o1 by simpa using ho1]
    simp only [hw1, if_true]
    exact .inl (h1 _ (fun a' w' hS' h' => ⟨hS', h'.out hS'⟩))
  · unfold wpOp
    rw [show l.toArray[x]? = some o2 by simpa using ho2]
    simp only [hw2, if_true]
    exact .inl (h2 _ (fun a' w' hS' h' => ⟨hS', h'.out hS'⟩))

variable {a : Act} {w : World} {i : Nat} {m : Bool} {o : Oper} {r : List (Nat × Bool)} {l : List Oper} {C : Act → World → Prop}
theorem line_read (ho : l[i]? = some o) (hw : Region.wanted o (yielded l.toArray a.tmps) = true)
    (h : ∀ K : Act → Prop, (∀ a', LineP P l.toArray S Q C r a' w → K a') → o.quiet P a (fun w' => ∃ x : Of S, w' = x.val) K) : LineP P l.toArray S Q C ((i, true) :: r) a w := by
  refine ⟨?_⟩
  unfold wpLine
  rw [show l.toArray[i]? = some o by simpa using ho]
  simp only [hw, if_true]
  exact h _ (fun _ h => h.out)
theorem line_skip (ho : l[i]? = some o) (hw : Region.wanted o (yielded l.toArray a.tmps) = false) (h : LineP P l.toArray S Q C r (a.put o.dst undef) w) : LineP P l.toArray S Q C ((i, m) :: r) a w := by
  refine ⟨?_⟩
  unfold wpLine
  rw [show l.toArray[i]? = some o by simpa using ho]
  simp only [hw, Bool.false_eq_true, if_false]
  exact h.out
theorem line_alone (ho : l[i]? = some o) (hw : Region.wanted o (yielded l.toArray a.tmps) = true)
    (h : ∀ K : Act → World → Prop, (∀ a' w', S w' → LineP P l.toArray S Q C r a' w' → K a' w') → o.wp P a w K Q) : LineP P l.toArray S Q C ((i, false) :: r) a w := by
  refine ⟨?_⟩
  unfold wpLine
  rw [show l.toArray[i]? = some o by simpa using ho]
  simp only [hw, if_true, Bool.false_eq_true, if_false]
  exact h _ (fun _ _ h1 h2 => ⟨h1, h2.out⟩)
def callsB (P : Program) (f : FuncId) : Bool := match P.funcs[f]? with
  | some fn => !(fn.name == "runtime.NumGoroutine") && fn.body.isSome
  | none => false
theorem run_callFunc_body {f : FuncId} (hf : callsB P f = true) (args : Array Value) (w : World) : (callFunc f args).run P w = .ok (.enter f args) w := by
  unfold callsB at hf
  split at hf
  · rename_i fn hfn
    simp only [Bool.and_eq_true, Bool.not_eq_true', beq_eq_false_iff_ne] at hf
    obtain ⟨h1, h2⟩ := hf
    simp [callFunc, hfn, h1]
    intro hb
    rw [hb] at h2
    cases h2
  · cases hf
theorem call_wp {K : Act → World → Prop} {f : FuncId} {xs : Array Operand} {ts : Array TypeId} {args : Array Value} {v : Value} {R : World → Prop} (ho : o.op = Op.call { callee := .value (.func f), args := xs, argTypes := ts }) (hf : callsB P f = true) (hargs : xs.map a.eval = args)
    (h : Calls P f args w fun e w' => e = .returned v ∧ R w') (hK : ∀ w', R w' → K (a.put o.dst v) w') : o.wp P a w K Q := by
  have e : (execOp a.eval o).run P w = .ok (.enter f args) w := by
    unfold execOp
    simp [ho, resolve, hargs, invoke, Act.eval, Deferred.ofValue, run_callFunc_body hf]
  unfold Oper.wp
  rw [e]
  exact h.mono fun e w' ⟨he, hR⟩ => by subst he; exact hK w' hR
theorem call_any {K : Act → World → Prop} {f : FuncId} {xs : Array Operand} {ts : Array TypeId} {args : Array Value} {R : Ending → World → Prop} (ho : o.op = Op.call { callee := .value (.func f), args := xs, argTypes := ts }) (hf : callsB P f = true) (hargs : xs.map a.eval = args)
    (h : Calls P f args w R) (hK : ∀ e w', R e w' → ∃ v, e = .returned v ∧ K (a.put o.dst v) w') : o.wp P a w K Q := by
  have e : (execOp a.eval o).run P w = .ok (.enter f args) w := by
    unfold execOp
    simp [ho, resolve, hargs, invoke, Act.eval, Deferred.ofValue, run_callFunc_body hf]
  unfold Oper.wp
  rw [e]
  exact h.mono fun e w' hR => by
    obtain ⟨v, he, hk⟩ := hK e w' hR
    subst he
    exact hk
theorem line_value {v : Value} (ho : l[i]? = some o) (hw : Region.wanted o (yielded l.toArray a.tmps) = true) (hv : (execOp a.eval o).run P w = .ok (.value v) w) (hS : S w) (h : LineP P l.toArray S Q C r (a.put o.dst v) w) : LineP P l.toArray S Q C ((i, false) :: r) a w :=
  line_alone ho hw fun K hK => by
    unfold Oper.wp
    rw [hv]
    exact hK _ _ hS h
theorem line_readv {v : Value} (ho : l[i]? = some o) (hw : Region.wanted o (yielded l.toArray a.tmps) = true) (hv : ∀ w, (execOp a.eval o).run P w = .ok (.value v) w) (h : LineP P l.toArray S Q C r (a.put o.dst v) w) : LineP P l.toArray S Q C ((i, true) :: r) a w :=
  line_read ho hw fun K hK => ⟨v, fun w' _ => by unfold Oper.quietAt; rw [hv]; exact ⟨rfl, rfl⟩, hK _ h⟩
theorem line_nil (h : C a w) : LineP P ops S Q C [] a w := ⟨h⟩
end
end Go.Proofs.YtlodhleihnlchaaGreatDoor
namespace Go.Proofs.YtlodhleihnlchaaGreatDoor
open Go.RowKit
set_option maxRecDepth 100000
set_option linter.unusedVariables false

theorem row_two {w : World} (x y : Int) (t : TypeId) (hx : M.sumB x = true) (hy : M.sumB y = true) : Row .i64 (w.alloc (.cells #[.int .i64 x, .int .i64 y] t)) (w.heap.size + 1) (some ⟨w.heap.size, 0, none⟩) 2 2 [x, y] :=
  row_at w.heap.size 2 [x, y] t (MapKept.heap_alloc w _).1 rfl (by simp only [maxLen]; omega) (fun u hu => by
    simp at hu
    rcases hu with rfl | rfl
    · exact sum_wf hx
    · exact sum_wf hy)
structure Res2 (g : Nat) (w : World) : Prop where
  c0 : w.cell? ⟨g, 0, none⟩ = some (.int .i64 0)
  c1 : w.cell? ⟨g, 1, none⟩ = some (.int .i64 0)
  f0 : w.frozen? ⟨g, 0, none⟩ = false
  f1 : w.frozen? ⟨g, 1, none⟩ = false
theorem Res2.new (w : World) (t : TypeId) : Res2 w.heap.size (w.alloc (.cells #[.int .i64 0, .int .i64 0] t)) := ⟨by go_simp, by go_simp, by go_simp, by go_simp⟩
theorem Res2.on {g : Nat} {w w' : World} (h : Res2 g w) (hb : Below w.heap.size w w') : Res2 g w' :=
  ⟨cell_keep hb h.c0, cell_keep hb h.c1, (hb.frozen (p := ⟨g, 0, none⟩) (cell_lt h.c0)).trans h.f0, (hb.frozen (p := ⟨g, 1, none⟩) (cell_lt h.c1)).trans h.f1⟩
structure Res3 (g : Nat) (w : World) : Prop where
  c0 : w.cell? ⟨g, 0, none⟩ = some (.int .i64 0)
  c1 : w.cell? ⟨g, 1, none⟩ = some (.int .i64 0)
  c2 : w.cell? ⟨g, 2, none⟩ = some (.int .i64 0)
  f0 : w.frozen? ⟨g, 0, none⟩ = false
  f1 : w.frozen? ⟨g, 1, none⟩ = false
  f2 : w.frozen? ⟨g, 2, none⟩ = false
theorem Res3.new (w : World) (t : TypeId) : Res3 w.heap.size (w.alloc (.cells #[.int .i64 0, .int .i64 0, .int .i64 0] t)) := ⟨by go_simp, by go_simp, by go_simp, by go_simp, by go_simp, by go_simp⟩
theorem Res3.on {g : Nat} {w w' : World} (h : Res3 g w) (hb : Below w.heap.size w w') : Res3 g w' :=
  ⟨cell_keep hb h.c0, cell_keep hb h.c1, cell_keep hb h.c2, (hb.frozen (p := ⟨g, 0, none⟩) (cell_lt h.c0)).trans h.f0, (hb.frozen (p := ⟨g, 1, none⟩) (cell_lt h.c1)).trans h.f1, (hb.frozen (p := ⟨g, 2, none⟩) (cell_lt h.c2)).trans h.f2⟩
theorem bdrew (w : World) : Below w.heap.size w w.drew := (Below.refl _ _).drew
theorem or_two (x y : Nat) (hx : x ≤ 255) (hy : y ≤ 255) : bits .or .i64 ((x : Int) * 256) (y : Int) = 256 * (x : Int) + y := by
  have e1 : BitVec.ofInt 64 ((x : Int) * 256) = BitVec.ofNat 64 (x * 256) := by
    rw [show (x : Int) * 256 = ((x * 256 : Nat) : Int) by omega, BitVec.ofInt_natCast]
  have e2 : BitVec.ofInt 64 (y : Int) = BitVec.ofNat 64 y := BitVec.ofInt_natCast ..
  show IntKind.i64.wrap ((BitVec.ofInt 64 ((x : Int) * 256) ||| BitVec.ofInt 64 (y : Int)).toNat : Nat) = _
  rw [e1, e2, BitVec.toNat_or, BitVec.toNat_ofNat, BitVec.toNat_ofNat, Nat.mod_eq_of_lt (by omega), Nat.mod_eq_of_lt (by omega)]
  have h := Nat.shiftLeft_add_eq_or_of_lt (i := 8) (b := y) (by omega) x
  rw [Nat.shiftLeft_eq] at h
  rw [show x * 256 = x * 2 ^ 8 from rfl, ← h, IntKind.wrap_i64]
  omega
theorem readTwo_any (b off len cap : Nat) (x y : Int) (w : World) (hl : 2 ≤ len) (hc : len ≤ cap) (hm : cap ≤ maxLen) (c0 : w.cell? ⟨b, off, none⟩ = some (.int .u8 x)) (c1 : w.cell? ⟨b, off + 1, none⟩ = some (.int .u8 y))
    (x0 : 0 ≤ x) (x1 : x ≤ 255) (y0 : 0 ≤ y) (y1 : y ≤ 255) :
    Calls Tryz.prog 232 #[.slice (some ⟨b, off, none⟩) len cap] w fun r w' => r = .returned (.int .i64 (256 * x + y)) ∧ Below w.heap.size w w' := by
  unfold maxLen at hm
  obtain ⟨x, rfl⟩ := Int.eq_ofNat_of_zero_le x0
  obtain ⟨y, rfl⟩ := Int.eq_ofNat_of_zero_le y0
  have ho := or_two x y (by omega) (by omega)
  go_enter Tryz.func232, Tryz.ntmps232
  go_wp2_with fail
  go_quiet (fail)
  go_wp2_with fail
  go_ret
  refine ⟨?_, bdrewN (Below.refl _ _) _⟩
  rfl
theorem l1At_any (b off len cap k : Nat) (x y : Int) (w : World) (hl : k + 1 < len) (hk : k ≤ 1000) (hc : len ≤ cap) (hm : cap ≤ maxLen) (c0 : w.cell? ⟨b, off + k, none⟩ = some (.int .u8 x)) (c1 : w.cell? ⟨b, off + (k + 1), none⟩ = some (.int .u8 y))
    (x0 : 0 ≤ x) (x1 : x ≤ 255) (y0 : 0 ≤ y) (y1 : y ≤ 255) :
    Calls Tryz.prog 196 #[.slice (some ⟨b, off, none⟩) len cap, .int .i64 k] w fun r w' => r = .returned (.int .i64 (256 * x + y)) ∧ Below w.heap.size w w' := by
  unfold maxLen at hm
  go_enter Tryz.func196, Tryz.ntmps196
  go_wp2_with fail
  go_quiet (fail)
  go_wp2_with fail
  go_ret
  refine ⟨?_, bdrewN (Below.refl _ _) _⟩
  rfl
structure ResB (g : Nat) (w : World) : Prop where
  c0 : w.cell? ⟨g, 0, none⟩ = some (.int .i64 0)
  c1 : w.cell? ⟨g, 1, none⟩ = some (.slice none 0 0)
  f0 : w.frozen? ⟨g, 0, none⟩ = false
  f1 : w.frozen? ⟨g, 1, none⟩ = false
theorem ResB.new (w : World) (t : TypeId) : ResB w.heap.size (w.alloc (.cells #[.int .i64 0, .slice none 0 0] t)) := ⟨by go_simp, by go_simp, by go_simp, by go_simp⟩
theorem ResB.on {g : Nat} {w w' : World} (h : ResB g w) (hb : Below w.heap.size w w') : ResB g w' :=
  ⟨cell_keep hb h.c0, cell_keep hb h.c1, (hb.frozen (p := ⟨g, 0, none⟩) (cell_lt h.c0)).trans h.f0, (hb.frozen (p := ⟨g, 1, none⟩) (cell_lt h.c1)).trans h.f1⟩
theorem ResB.new2 (w : World) (o : Obj) (t : TypeId) : ResB (w.heap.size + 1) ((w.alloc o).alloc (.cells #[.int .i64 0, .slice none 0 0] t)) := by
  have h := ResB.new (w.alloc o) t
  rw [show (w.alloc o).heap.size = w.heap.size + 1 by simp] at h
  exact h
def Made (zs : List Int) (w : World) (r : Ending) (w' : World) : Prop := ∃ a len cap, r = .returned (.slice a len cap) ∧ OwnK .u8 w' w.heap.size (.slice a len cap) zs ∧ Below w.heap.size w w'
theorem own_lit {k : IntKind} (w : World) (zs : List Int) (n : Nat) (t : TypeId) {B : Nat} (hB : B ≤ w.heap.size) (hn : zs.length = n) (hm : n ≤ maxLen) :
    OwnK k (w.alloc (.cells (zs.map (Value.int k)).toArray t)) B (.slice (some ⟨w.heap.size, 0, none⟩) n n) zs := by
  subst hn
  have e1 : (w.alloc (.cells (zs.map (Value.int k)).toArray t)).heap[w.heap.size]? = some (.cells (zs.map (Value.int k)).toArray t) := (MapKept.heap_alloc w _).1
  refine ⟨by simp, .inr ⟨w.heap.size, _, rfl, hB, by simp, Nat.le_refl _, hm, fun j u hu => ?_, fun j hj => ?_⟩⟩
  · unfold World.cell?
    rw [e1]
    simpa using hu
  · unfold World.cell? World.frozen?
    rw [e1]
    simp [show j < zs.length by omega]
theorem OwnK.put {k : IntKind} {w : World} {B g n c : Nat} {zs : List Int} {i : Nat} {m : Int} (h : OwnK k w B (.slice (some ⟨g, 0, none⟩) n c) zs) (hi : i < zs.length) : OwnK k (w.setCell ⟨g, i, none⟩ (.int k m)) B (.slice (some ⟨g, 0, none⟩) n c) (zs.set i m) := by
  unfold OwnK at *
  rcases h.2 with ⟨e, h0⟩ | ⟨g', c', e, hB, hg, hn, hm, hcell, hroom⟩
  · cases e
  injection e with e1 e2 e3
  injection e1 with e1
  injection e1 with e1 _ _
  subst e1
  subst e3
  refine ⟨by simp, .inr ⟨g, c, by rw [e2]; simp, hB, by simpa [World.setCell] using hg, by simpa using hn, hm, fun j u hu => ?_, fun j hj => ?_⟩⟩
  · have hj := (List.getElem?_eq_some_iff.1 hu).1
    simp at hj
    by_cases hji : j = i
    · subst hji
      obtain ⟨u0, hu0⟩ := Option.isSome_iff_exists.1 (hroom j (by omega)).1
      rw [World.cell?_setCell_same _ _ _ (by rw [hu0]), ← hu]
      simp [hj]
    · rw [World.cell?_setCell_other _ _ _ _ (fun e => by injection e with _ e2; omega)]
      refine hcell j u ?_
      rw [← hu]
      simp [show ¬ i = j by omega]
  · obtain ⟨q1, q2⟩ := hroom j hj
    refine ⟨?_, by rw [World.frozen?_setCell]; exact q2⟩
    obtain ⟨u0, hu0⟩ := Option.isSome_iff_exists.1 q1
    obtain ⟨v, hv⟩ := cell?_setCell_some (w := w) (p := ⟨g, i, none⟩) (x := .int k m) (q := ⟨g, j, none⟩) (v := u0) hu0
    rw [hv]; rfl
end Go.Proofs.YtlodhleihnlchaaGreatDoor
namespace Go.Proofs.YtlodhleihnlchaaGreatDoor
open Go.RowKit
set_option maxRecDepth 100000

structure At (g : Nat) (cs : List Value) (w : World) : Prop where
  cell : ∀ i v, cs[i]? = some v → w.cell? ⟨g, i, none⟩ = some v
  free : ∀ i v, cs[i]? = some v → w.frozen? ⟨g, i, none⟩ = false
section
variable {g : Nat} {cs : List Value} {w w' : World}
theorem At.new (w : World) (cs : List Value) (t : TypeId) : At w.heap.size cs (w.alloc (.cells cs.toArray t)) := by
  have e1 : (w.alloc (.cells cs.toArray t)).heap[w.heap.size]? = some (.cells cs.toArray t) := (MapKept.heap_alloc w _).1
  refine ⟨fun i v h => ?_, fun i v h => ?_⟩
  · unfold World.cell?
    rw [e1]
    simpa using h
  · unfold World.frozen?
    rw [e1]
    simp
theorem At.keep (h : At g cs w) (hk : g < w.heap.size → w'.heap[g]? = w.heap[g]?) : At g cs w' :=
  ⟨fun i v hi => (World.cell?_of_block (w := w) (a := ⟨g, i, none⟩) (hk (cell_lt (h.cell i v hi)))).trans (h.cell i v hi),
   fun i v hi => (World.frozen?_of_block (w := w) (a := ⟨g, i, none⟩) (hk (cell_lt (h.cell i v hi)))).trans (h.free i v hi)⟩
theorem At.on (h : At g cs w) (hb : Below w.heap.size w w') : At g cs w' := h.keep fun hg => hb.block g hg
theorem At.alloc (h : At g cs w) (o : Obj) : At g cs (w.alloc o) := h.on (bal (Below.refl _ _) o)
theorem At.kept {row : Option Nat} (h : At g cs w) (hg : w.grownBy w' row) (hne : some g ≠ row) : At g cs w' := h.keep fun hl => hg.block g hl hne
theorem At.setB (h : At g cs w) {p : Addr} (hp : g ≠ p.block) (u : Value) : At g cs (w.setCell p u) := h.keep fun _ => Below.heap_setCell w p u g hp
theorem At.set (h : At g cs w) (i : Nat) (u : Value) : At g (cs.set i u) (w.setCell ⟨g, i, none⟩ u) := by
  refine ⟨fun j v hj => ?_, fun j v hj => ?_⟩
  · by_cases e : i = j
    · subst e
      have hl : i < cs.length := by have := (List.getElem?_eq_some_iff.1 hj).1; simpa using this
      have hc := h.cell i cs[i] (by simp [hl])
      rw [World.cell?_setCell_same _ _ _ (by rw [hc])]
      simpa [hl] using hj
    · rw [World.cell?_setCell_other _ _ _ _ (fun e2 => by injection e2 with _ e3; omega)]
      exact h.cell j v (by simpa [e] using hj)
  · rw [World.frozen?_setCell]
    have hl : j < cs.length := by have := (List.getElem?_eq_some_iff.1 hj).1; simpa using this
    exact h.free j cs[j] (by simp [hl])
theorem At.lt (h : At g cs w) (hl : 0 < cs.length) : g < w.heap.size := cell_lt (h.cell 0 cs[0] (by simp [hl]))
end
structure Hold (W : World) (g : Nat) (cs : List Value) (cur : World) : Prop where
  bel : Below W.heap.size W cur
  at' : At g cs cur
theorem Hold.on {W : World} {g : Nat} {cs : List Value} {cur cur' : World} (h : Hold W g cs cur) (hb : Below cur.heap.size cur cur') : Hold W g cs cur' := ⟨btr h.bel hb, h.at'.on hb⟩
theorem Hold.setB {W : World} {g : Nat} {cs : List Value} {cur : World} (h : Hold W g cs cur) {p : Addr} (hW : W.heap.size ≤ p.block) (hp : g ≠ p.block) (u : Value) : Hold W g cs (cur.setCell p u) := ⟨bset h.bel hW u, h.at'.setB hp u⟩

theorem bel_cell {W : World} {p : Addr} {v : Value} (h : W.cell? p = some v) : ∀ z : Of (Bel W), z.val.cell? p = some v := fun z => cell_keep z.prop.out h
theorem hold_cell {W : World} {g : Nat} {cs : List Value} (i : Nat) (v : Value) (h : cs[i]? = some v) : ∀ z : Of (Hold W g cs), z.val.cell? ⟨g, i, none⟩ = some v := fun z => z.prop.at'.cell i v h
theorem Bel.start (W : World) : Bel W W := ⟨Below.refl _ _⟩
def strOf (ns : List Int) : ByteArray := ns.foldl (fun r n => r.push (UInt8.ofNat n.toNat)) ByteArray.empty
theorem conv_row {B : Nat} {a : Option Addr} {len cap : Nat} {zs : List Int} {w : World} (hR : Row .u8 w B a len cap zs) :
    (convert 22 9 (.slice a len cap)).run Tryz.prog w = .ok (.string (strOf zs)) w := by
  rw [run_convert_bytes_string w 22 9 5 a len cap Tryz.underlying22 Tryz.underlying5 Tryz.underlying9]
  rcases Nat.eq_zero_or_pos len with h0 | h0
  · subst h0
    obtain rfl : zs = [] := List.eq_nil_of_length_eq_zero hR.length
    cases a with
    | none => rfl
    | some x => exact run_bytesToString w x 0 cap [] (run_loadCells_list w x [] (fun j v h => by simp at h))
  · obtain ⟨b, off, rfl, hb, hc⟩ := hR.cells h0
    refine run_bytesToString w _ len cap zs ?_
    have := run_loadCells_list (P := Tryz.prog) w ⟨b, off, none⟩ (zs.map (Value.int .u8)) (fun j v h => by
      have hj := (List.getElem?_eq_some_iff.1 h).1
      simp [hR.length] at hj
      rw [Addr.add_lit, hc j hj, ← h]
      simp [List.getD, show j < zs.length by rw [hR.length]; exact hj])
    simpa [hR.length] using this
theorem strOf_data : ∀ (zs : List Int) (s : ByteArray), (zs.foldl (fun r n => r.push (UInt8.ofNat n.toNat)) s).data.toList = s.data.toList ++ zs.map (fun n => UInt8.ofNat n.toNat)
  | [], s => by simp
  | z :: r, s => by
    rw [List.foldl_cons, strOf_data r]
    simp [ByteArray.push]
theorem u8_byte {z : Int} (h : (Lit.int .u8 z).wf = true) : M.byteB z := by
  simp [Lit.wf, IntKind.min, IntKind.max, IntKind.signed, IntKind.bits] at h
  unfold M.byteB
  omega
theorem Row.bytes {w : World} {B : Nat} {a : Option Addr} {len cap : Nat} {zs : List Int} (h : Row .u8 w B a len cap zs) : ∀ z ∈ zs, M.byteB z := fun z hz => u8_byte (h.wf z hz)

theorem Row.src {P : Program} {k : IntKind} {w : World} {B : Nat} {a : Option Addr} {len cap : Nat} {zs : List Int} (h : Row k w B a len cap zs) {tx e' : TypeId} (hk : P.underlying tx = some (.slice e')) : Go.Src P 1 tx (.slice a len cap) len (zs.map (Value.int k)) w := by
  rcases Nat.eq_zero_or_pos len with h0 | h0
  · subst h0
    obtain rfl : zs = [] := List.eq_nil_of_length_eq_zero h.length
    cases a with
    | none => exact Src.ofNil w hk cap
    | some x => exact Src.ofSlice w hk x 0 cap [] rfl (fun j u hu => by simp at hu) (fun _ hu => by cases hu)
  · obtain ⟨b, off, rfl, hb, hc⟩ := h.cells h0
    refine Src.ofSlice w hk _ len cap _ (by simp [h.length]) (fun j u hu => ?_) (ints_oneCell k zs)
    have hj := (List.getElem?_eq_some_iff.1 hu).1
    simp [h.length] at hj
    rw [Addr.add_lit, hc j hj, ← hu]
    simp [List.getD, show j < zs.length by rw [h.length]; exact hj]
theorem Row.sub {k : IntKind} {w : World} {B b off len cap : Nat} {zs : List Int} (h : Row k w B (some ⟨b, off, none⟩) len cap zs) (i n' c' : Nat) (hi : i + n' ≤ len) (hn : n' ≤ c') (hc : c' ≤ maxLen) : Row k w B (some ⟨b, off + i, none⟩) n' c' ((zs.drop i).take n') :=
  ⟨by simp [h.length]; omega, fun z hz => h.wf z (List.mem_of_mem_drop (List.mem_of_mem_take hz)), hn, hc, fun hp => by
    obtain ⟨b', off', e, hb, hcell⟩ := h.cells (by omega)
    injection e with e
    injection e with e1 e2
    subst e1
    subst e2
    refine ⟨b, off + i, rfl, hb, fun j hj => ?_⟩
    rw [Nat.add_assoc, hcell (i + j) (by omega)]
    simp [List.getD, List.getElem?_drop, hj]⟩
end Go.Proofs.YtlodhleihnlchaaGreatDoor
namespace Go.Proofs.YtlodhleihnlchaaGreatDoor
open Go.RowKit Go.Shelf
set_option maxRecDepth 100000
set_option linter.unusedVariables false

theorem lower_extra : Builder.Extra Tryz.prog lays159_ren :=
  { sizeBuilder := by kernel_rfl, liesBuilder := by kernel_rfl, t5 := lays159.t5, a5 := lays159.a5, z5 := lays159.z5, v5 := lays159.v5, infoByte := by kernel_rfl, cellsByte := by kernel_rfl, sizeByte := by kernel_rfl, neB5 := by decide }
theorem toLower_any (s : ByteArray) (w : World) (hs : s.size ≤ 140737488355328) (ha : ∀ (j : Nat) (b : UInt8), s.data.toList[j]? = some b → b.toNat < 128) :
    Calls Tryz.prog 228 #[.string s] w fun e w' => e = .returned (.string ⟨(Lib.toLowerA s.data.toList).toArray⟩) ∧ Below w.heap.size w w' :=
  Any.strings_ToLower_ascii lays159 lower_extra s w hs ha
theorem trimSuffix_any (s p : ByteArray) (w : World) (hs : s.size ≤ 9223372036854775807) :
    Calls Tryz.prog 229 #[.string s, .string p] w fun e w' => e = .returned (.string ⟨(Lib.trimSuffix s.data.toList p.data.toList).toArray⟩) ∧ w' = w :=
  Any.strings_TrimSuffix lays102 s p w hs

theorem normalText_any (s : ByteArray) (w : World) (hs : s.size ≤ 20) (hm : M.mDot s.data.toList = true) :
    Calls Tryz.prog 134 #[.string s] w fun e w' => e = .returned (.string (M.bs (M.nrm s.data.toList))) ∧ Below w.heap.size w w' := by
  have hL : s.data.toList.length = s.size := by simp
  have T1 : ∀ w, Calls Tryz.prog 229 #[.string s, .string { data := #[46] }] w fun e w' => e = .returned (.string (M.bs (M.bare s.data.toList))) ∧ w = w' := fun w =>
    (trimSuffix_any s { data := #[46] } w (by omega)).mono fun e w' h => by
      obtain ⟨rfl, rfl⟩ := h
      refine ⟨?_, rfl⟩
      rw [← M.bare_trim hm]
      rfl
  have hbl := M.bare_length s.data.toList
  have T2 : ∀ w, Calls Tryz.prog 228 #[.string (M.bs (M.bare s.data.toList))] w fun e w' => e = .returned (.string (M.bs (M.nrm s.data.toList))) ∧ Below w.heap.size w w' := fun w =>
    (toLower_any (M.bs (M.bare s.data.toList)) w (by rw [M.bs_size]; omega) (by rw [M.bs_list]; exact M.bare_ascii hm)).mono fun e w' h => by
      obtain ⟨rfl, hb⟩ := h
      refine ⟨?_, hb⟩
      rw [M.bs_list]
      rfl
  generalize M.bs (M.nrm s.data.toList) = R at *
  generalize M.bs (M.bare s.data.toList) = B at *
  clear hm hbl hL
  go_enter Tryz.func134, Tryz.ntmps134
  go_wp2_with fail
  refine (T1 _).mono ?_
  rintro r w' ⟨rfl, rfl⟩
  go_wp2_with fail
  refine (T2 _).mono ?_
  rintro r w1 ⟨rfl, hb⟩
  go_wp2_with fail
  go_ret
  exact ⟨rfl, hb⟩
end Go.Proofs.YtlodhleihnlchaaGreatDoor
namespace Go.Proofs.YtlodhleihnlchaaGreatDoor.M

def lowI (z : Int) : Int := if 65 ≤ z ∧ z ≤ 90 then z + 32 else z
def lowK (zs : List Int) (k : Nat) : List Int := (zs.take k).map lowI ++ zs.drop k
theorem lowK_zero (zs : List Int) : lowK zs 0 = zs := by simp [lowK]
theorem lowK_length (zs : List Int) (k : Nat) : (lowK zs k).length = zs.length := by
  simp [lowK]; omega
theorem lowK_at (zs : List Int) (k : Nat) (z : Int) (h : zs[k]? = some z) : (lowK zs k)[k]? = some z := by
  have hk := (List.getElem?_eq_some_iff.1 h).1
  unfold lowK
  rw [List.getElem?_append_right (by simp; omega), List.length_map, List.length_take, Nat.min_eq_left (by omega), Nat.sub_self, List.getElem?_drop]
  simpa using h
theorem lowK_next (zs : List Int) (k : Nat) (z : Int) (h : zs[k]? = some z) : lowK zs (k + 1) = (lowK zs k).set k (lowI z) := by
  have hk := (List.getElem?_eq_some_iff.1 h).1
  unfold lowK
  rw [List.set_append_right _ _ (by simp; omega), List.length_map, List.length_take, Nat.min_eq_left (by omega), Nat.sub_self, List.take_add_one, h]
  have e : zs.drop k = z :: zs.drop (k + 1) := by rw [List.drop_eq_getElem_cons hk]; congr 1; rw [List.getElem?_eq_getElem hk] at h; exact Option.some.inj h
  rw [e]
  simp
theorem set_same {l : List Int} {k : Nat} {z : Int} (h : l[k]? = some z) : l.set k z = l := by
  obtain ⟨hk, e⟩ := List.getElem?_eq_some_iff.1 h
  rw [← e]
  exact List.set_getElem_self hk
theorem lowK_all (zs : List Int) : lowK zs zs.length = zs.map lowI := by simp [lowK]
theorem lowI_byte (b : UInt8) : lowI (b.toNat : Int) = ((Lib.lowerB b).toNat : Int) := by
  unfold lowI
  by_cases h : Lib.isUpperB b = true
  · rw [Lib.lowerB_int b h, if_pos]
    rw [Lib.isUpperB_int] at h
    simpa using h
  · have h' : Lib.isUpperB b = false := by simpa using h
    rw [Lib.lowerB_of_not b h', if_neg]
    rw [Lib.isUpperB_int] at h
    simpa using h
theorem low_text (l : List UInt8) : (textL (bs l)).map lowI = (Lib.toLowerA l).map fun b => (b.toNat : Int) := by
  unfold textL Lib.toLowerA
  rw [bs_list, List.map_map, List.map_map]
  exact List.map_congr_left fun b _ => lowI_byte b
theorem normF_no {l : List UInt8} (h : ¬ nameF l = 0) : normF l = nameF l := by simp [normF, h]
theorem normF_form {l : List UInt8} (h : nameF l = 0) (hn : ¬ nrm l = l) : normF l = 1 := by simp [normF, h, hn]
theorem normF_yes {l : List UInt8} (h : nameF l = 0) (hn : nrm l = l) : normF l = 0 := by simp [normF, h, hn]
end Go.Proofs.YtlodhleihnlchaaGreatDoor.M
namespace Go.Proofs.YtlodhleihnlchaaGreatDoor
open Go.RowKit
set_option maxRecDepth 100000
set_option linter.unusedVariables false

theorem strOf_bytes (l : List UInt8) : strOf (l.map fun b => (b.toNat : Int)) = M.bs l := by
  have e : (strOf (l.map fun b => (b.toNat : Int))).data.toList = l := by
    rw [strOf, strOf_data]
    simp [List.map_map, Function.comp_def]
  rw [← M.bs_data (strOf _), e]

theorem OwnK.read {k : IntKind} {w : World} {B g n c : Nat} {zs : List Int} {j : Nat} {z : Int} (h : OwnK k w B (.slice (some ⟨g, 0, none⟩) n c) zs) (hz : zs[j]? = some z) : w.cell? ⟨g, j, none⟩ = some (.int k z) ∧ w.frozen? ⟨g, j, none⟩ = false := by
  have hj := (List.getElem?_eq_some_iff.1 hz).1
  rcases h.2 with ⟨e, h0⟩ | ⟨g', c', e, hB, hg, hn, hm, hcell, hroom⟩
  · cases e
  injection e with e1 e2 e3
  injection e1 with e1
  injection e1 with e1 _ _
  subst e1
  exact ⟨hcell j _ (by rw [List.getElem?_map, hz]; rfl), (hroom j (by omega)).2⟩

structure LowRel (W : World) (g n c : Nat) (zs : List Int) (k : Nat) (wr : World) : Prop where
  own : OwnK .u8 wr W.heap.size (.slice (some ⟨g, 0, none⟩) n c) (M.lowK zs k)
  bel : Below W.heap.size W wr

theorem LowRel.up {W : World} {g n c : Nat} {zs : List Int} {k : Nat} {wr : World} {z : Int} (h : LowRel W g n c zs k wr) (hg : W.heap.size ≤ g) (hz : zs[k]? = some z) (h0 : 65 ≤ z) (h1 : z ≤ 90) : LowRel W g n c zs (k + 1) (wr.setCell ⟨g, k, none⟩ (.int .u8 (z + 32))) := by
  have hk := (List.getElem?_eq_some_iff.1 hz).1
  have e : M.lowI z = z + 32 := by simp [M.lowI, h0, h1]
  refine ⟨?_, bset h.bel hg _⟩
  rw [M.lowK_next zs k z hz, e]
  exact h.own.put (by rw [M.lowK_length]; exact hk)
theorem LowRel.no {W : World} {g n c : Nat} {zs : List Int} {k : Nat} {wr : World} {z : Int} (h : LowRel W g n c zs k wr) (hz : zs[k]? = some z) (h0 : ¬ (65 ≤ z ∧ z ≤ 90)) : LowRel W g n c zs (k + 1) wr := by
  have e : M.lowI z = z := by simp [M.lowI, h0]
  refine ⟨?_, h.bel⟩
  rw [M.lowK_next zs k z hz, e, M.set_same (M.lowK_at zs k z hz)]
  exact h.own

theorem l5Normal_any (s : ByteArray) (w : World) (hs : s.size ≤ 20) :
    Calls Tryz.prog 150 #[.string s] w fun e w' => e = .returned (.string (M.bs (M.nrm s.data.toList))) ∧ Below w.heap.size w w' := by
  have hL : s.data.toList.length = s.size := by simp
  have hbl := M.bare_length s.data.toList
  have F := fun w => l5Bare_any s w (by simp only [maxLen]; omega)
  have HE := Lib.hid (show strOf ((M.textL (M.bs (M.bare s.data.toList))).map M.lowI) = M.bs (M.nrm s.data.toList) by rw [M.low_text, strOf_bytes]; rfl)
  have hB : (M.bs (M.bare s.data.toList)).size ≤ 20 := by rw [M.bs_size]; omega
  generalize M.bs (M.nrm s.data.toList) = R at *
  generalize M.bs (M.bare s.data.toList) = B at *
  have hBm : B.size ≤ maxLen := by simp only [maxLen]; omega
  have hcv := fun (W : World) => run_bytes_of_string (P := Tryz.prog) W 9 22 5 B Tryz.underlying9 Tryz.underlying22 Tryz.underlying5
  have O0 := own_text w B 5 hBm
  have hzl : (M.textL B).length = B.size := M.textL_length B
  have HZ : Hid (∀ z ∈ M.textL B, 0 ≤ z ∧ z ≤ 255) := Lib.hid (fun z hz => by
    unfold M.textL at hz
    obtain ⟨b, _, rfl⟩ := List.mem_map.1 hz
    have := b.toNat_lt
    omega)
  have hcm := grownCap_le_maxLen w B.size 0 5 hBm
  have hcg := grownCap_ge w B.size 0 5
  unfold maxLen at hcm
  clear hbl
  go_enter Tryz.func150, Tryz.ntmps150
  go_wp2_with fail
  refine (F _).mono ?_
  rintro r w' ⟨rfl, rfl⟩
  have T0 : LowRel w w.heap.size B.size (grownCap w B.size 0 5) (M.textL B) 0 (w.alloc (textObj w B 5)).drew := ⟨by
    unfold OwnK
    rw [M.lowK_zero, hzl]
    exact O0.drew, (bal (Below.refl _ _) _).drew⟩
  clear O0
  go_wp2_with fail
  clear hcv
  go_loopw [4] (fun i wr => ∃ k : Nat, k ≤ B.size ∧ i = .int .i64 k ∧ LowRel w w.heap.size B.size (grownCap w B.size 0 5) (M.textL B) k wr) (fun i _ => B.size - (intOf i).toNat)
  case atStart => exact ⟨0, Nat.zero_le _, rfl, T0⟩
  case round =>
    obtain ⟨k, hk, rfl, hT⟩ := hrel
    by_cases hlt : k < B.size
    · obtain ⟨z, hz⟩ : ∃ z, (M.textL B)[k]? = some z := ⟨(M.textL B)[k], by simp [hzl, hlt]⟩
      obtain ⟨z0, z1⟩ := HZ.out z (List.mem_of_getElem? hz)
      obtain ⟨hcell, hfr⟩ := hT.own.read (M.lowK_at _ k z hz)
      by_cases h0 : 65 ≤ z
      · by_cases h1 : z ≤ 90
        · have T2 := hT.up (Nat.le_refl _) hz h0 h1
          clear hT hz
          go_wp2_with fail
          go_roundw
          case rel => exact ⟨k + 1, by omega, by go_num, T2⟩
          case measure => simp [intOf]; omega
        · have T2 := hT.no hz (by omega)
          clear hT hz
          go_wp2_with fail
          go_roundw
          case rel => exact ⟨k + 1, by omega, by go_num, T2⟩
          case measure => simp [intOf]; omega
      · have T2 := hT.no hz (by omega)
        clear hT hz
        go_wp2_with fail
        go_roundw
        case rel => exact ⟨k + 1, by omega, by go_num, T2⟩
        case measure => simp [intOf]; omega
    · obtain rfl : k = B.size := by omega
      have hO := hT.own
      rw [show M.lowK (M.textL B) B.size = (M.textL B).map M.lowI by rw [← hzl, M.lowK_all]] at hO
      have kr := conv_row (Own.row hO (fun z hz => by
        obtain ⟨y, hy, rfl⟩ := List.mem_map.1 hz
        have := HZ.out y hy
        unfold M.lowI
        split <;> (simp [Lit.wf, IntKind.min, IntKind.max, IntKind.signed, IntKind.bits]; omega)))
      rw [HE.out] at kr
      have hb := hT.bel
      clear hT hO
      go_wp2_with fail
      go_ret
      exact ⟨rfl, hb⟩
end Go.Proofs.YtlodhleihnlchaaGreatDoor
namespace Go.Proofs.YtlodhleihnlchaaGreatDoor
open Go.RowKit
set_option maxRecDepth 100000
set_option linter.unusedVariables false

theorem text_beq (x y : ByteArray) : (x.toList == y.toList) = decide (x.data.toList = y.data.toList) := by
  rw [ByteArray.toList_eq, ByteArray.toList_eq, Bool.eq_iff_iff]
  simp
theorem size_max {s : ByteArray} (h : s.size ≤ 20) : s.size ≤ maxLen := by simp only [maxLen]; omega
end Go.Proofs.YtlodhleihnlchaaGreatDoor
