/- A region that draws its order, walked once along a line that is chosen: what only reads is taken as soon as it may come up; what calls or makes memory is taken where it alone may come up. No condition. -/
import Derived.Test.YtlodhleihnlchaaDoorBase
import Derived.OrdersHeld
import Derived.Deep.Quiet
import Derived.BigQuiet
namespace Go.Proofs.YtlodhleihnlchaaDoor
open Go.RowKit

/-- The worlds of which S holds, named by themselves. -/
structure Of (S : World → Prop) where
  val : World
  prop : S val

/-- Nothing of W has turned. -/
structure Bel (W w : World) : Prop where
  out : Below W.heap.size W w
theorem Bel.on {W w w' : World} (h : Bel W w) (hb : Below w.heap.size w w') : Bel W w' := ⟨btr h.out hb⟩
theorem Bel.drew (W : World) : Bel W W.drew := ⟨(Below.refl _ _).drew⟩

/-- Two numbers lie at block g, behind what was there. -/
structure SigAt (w : World) (g : Nat) (p q : Int) (cur : World) : Prop where
  bel : Below w.heap.size w cur
  c0 : cur.cell? ⟨g, 0, none⟩ = some (.int .i64 p)
  c1 : cur.cell? ⟨g, 1, none⟩ = some (.int .i64 q)
theorem SigAt.on {w : World} {g : Nat} {p q : Int} {cur cur' : World} (h : SigAt w g p q cur) (hb : Below cur.heap.size cur cur') : SigAt w g p q cur' := ⟨btr h.bel hb, cell_keep hb h.c0, cell_keep hb h.c1⟩
theorem SigAt.set {w : World} {g : Nat} {p q : Int} {cur : World} (h : SigAt w g p q cur) (hg : w.heap.size < g) {x y : Value} : SigAt w g p q ((cur.setCell ⟨w.heap.size, 0, none⟩ x).setCell ⟨w.heap.size, 1, none⟩ y) := by
  have ne : ∀ i j, (⟨w.heap.size, i, none⟩ : Addr) ≠ ⟨g, j, none⟩ := fun i j e => by injection e with e1; omega
  refine ⟨bset (bset h.bel (Nat.le_refl _) _) (Nat.le_refl _) _, ?_, ?_⟩
  · rw [World.cell?_setCell_other _ _ _ _ (ne 1 0), World.cell?_setCell_other _ _ _ _ (ne 0 0)]; exact h.c0
  · rw [World.cell?_setCell_other _ _ _ _ (ne 1 1), World.cell?_setCell_other _ _ _ _ (ne 0 1)]; exact h.c1

/-- It reads, and does nothing else. -/
def readsB (o : Oper) : Bool := match o.op with
  | .move _ => true
  | .assign _ => true
  | .pick _ _ _ => true
  | .load _ _ => true
  | .binOp _ _ _ _ _ => true
  | .unOp _ _ _ => true
  | .slice _ _ _ _ _ => true
  | .fieldAddr _ _ _ => true
  | .field _ _ _ => true
  | .indexAddr _ _ _ => true
  | .index _ _ _ => true
  | .extract _ _ => true
  | .nilCheck _ => true
  | .convert _ _ _ => true
  | .build _ _ => true
  | .call c => match c.callee with
    | .builtin .len => true
    | _ => false
  | _ => false

theorem value_of_bind {P : Program} {s : Sem Value} {w w' : World} {n : Next} (h : (s >>= fun x => pure (Next.value x)).run P w = .ok n w') : ∃ u, n = .value u := by
  rw [Sem.run_bind] at h
  cases hs : s.run P w with
  | ok x w1 =>
    rw [hs] at h
    simp only [Result.andThen_ok, Sem.run_pure] at h
    injection h with h1 h2
    exact ⟨x, h1.symm⟩
  | halt x w1 =>
    rw [hs] at h
    cases h
theorem bind_tail {P : Program} {α β : Type} {s : Sem α} {f : α → Sem β} {w w' : World} {n : β} (h : (s >>= f).run P w = .ok n w') : ∃ x w1, (f x).run P w1 = .ok n w' := by
  rw [Sem.run_bind] at h
  cases hs : s.run P w with
  | ok x w1 =>
    rw [hs] at h
    exact ⟨x, w1, by simpa only [Result.andThen_ok] using h⟩
  | halt x w1 =>
    rw [hs] at h
    cases h
theorem reads_value {P : Program} {o : Oper} (h : readsB o = true) {ρ : Operand → Value} {w w' : World} {n : Next} (hr : (execOp ρ o).run P w = .ok n w') : ∃ u, n = .value u := by
  unfold execOp at hr
  unfold readsB at h
  cases hop : o.op <;> rw [hop] at h hr <;> first | (cases h; done) | skip
  case move x => simp only [Sem.run_pure] at hr; injection hr with h1 h2; exact ⟨_, h1.symm⟩
  case assign x => simp only [Sem.run_pure] at hr; injection hr with h1 h2; exact ⟨_, h1.symm⟩
  case pick c x y =>
    have := value_of_bind (s := do pure (if ← asBool (ρ c) then ρ x else ρ y)) (P := P) (w := w) (w' := w') (n := n) (by simpa using hr)
    exact this
  case call c =>
    simp only at h
    split at h
    · rename_i hc
      simp only [resolve, hc, invoke, builtin] at hr
      simp only [Sem.run_bind, Sem.run_pure, Result.andThen_ok] at hr
      exact value_of_bind (P := P) (s := Builtin.len_ c.argTypes o.type (Array.map ρ c.args)) (w := w) (w' := w') (by rw [Sem.run_bind]; simpa only [Sem.run_pure] using hr)
    · cases h
  case nilCheck x =>
    simp only at hr
    split at hr
    · simp [runtimePanic, goPanic, Result.andThen] at hr
    · simp [runtimePanic, goPanic, Result.andThen] at hr
    · simp [runtimePanic, goPanic, Result.andThen] at hr
    · split at hr
      · simp [runtimePanic, goPanic, Result.andThen] at hr
      · obtain ⟨_, _, hr⟩ := bind_tail hr
        obtain ⟨_, _, hr⟩ := bind_tail hr
        split at hr
        · obtain ⟨_, _, hr⟩ := bind_tail hr
          simp only [Sem.run_pure] at hr; injection hr with h1 h2; exact ⟨_, h1.symm⟩
        · simp only [Sem.run_pure] at hr; injection hr with h1 h2; exact ⟨_, h1.symm⟩
      · simp only [Sem.run_pure] at hr; injection hr with h1 h2; exact ⟨_, h1.symm⟩
    · simp only [Sem.run_pure] at hr; injection hr with h1 h2; exact ⟨_, h1.symm⟩
  all_goals exact value_of_bind hr

section
variable {P : Program} {ops : Array Oper} {Q : Exit → Act → World → Prop} {md : Region.Mode} {S : World → Prop}

def wpLine (P : Program) (ops : Array Oper) (S : World → Prop) (Q : Exit → Act → World → Prop) (C : Act → World → Prop) : List (Nat × Bool) → Act → World → Prop
  | [], a, w => C a w
  | (i, m) :: r, a, w => match ops[i]? with
    | none => False
    | some o =>
      if Region.wanted o (yielded ops a.tmps) = true then
        (if m = true then o.quiet P a (fun w' => ∃ x : Of S, w' = x.val) (fun a' => wpLine P ops S Q C r a' w) else o.wp P a w (fun a' w' => S w' ∧ wpLine P ops S Q C r a' w') Q)
      else wpLine P ops S Q C r (a.put o.dst undef) w

/-- What has come up behind a line. -/
def marked (listed : Array Bool) : List (Nat × Bool) → Array Bool
  | [] => listed
  | (i, _) :: r => marked (listed.setIfInBounds i true) r
def segB (md : Region.Mode) (ops : Array Oper) : List (Nat × Bool) → Array Bool → Bool
  | [], _ => true
  | (i, m) :: r, listed =>
    (match ops[i]? with
      | some o => if m then (Region.ready md ops listed).contains i && Region.free md ops listed i && readsB o else decide (Region.ready md ops listed = [i])
      | none => false) && segB md ops r (listed.setIfInBounds i true)

theorem wpAnyH_seg (hs : Region.noSelect ops = true) (hQ : ∀ c a d v w, Q (.panic c) (a.put d v) w → Q (.panic c) a w) {C : Act → World → Prop} (n : Nat) : ∀ (l : List (Nat × Bool)) (listed : Array Bool) (a : Act) (w : World),
    segB md ops l listed = true → S w → (∀ a w, C a w → S w → wpAnyH P md ops Q S n (marked listed l) a w) → wpLine P ops S Q C l a w → wpAnyH P md ops Q S (n + l.length) listed a w
  | [], listed, a, w, _, hS, hC, h => hC a w h hS
  | (i, m) :: r, listed, a, w, hB, hS, hC, h => by
    unfold wpLine at h
    unfold segB at hB
    cases ho : ops[i]? with
    | none => rw [ho] at h; exact h.elim
    | some o =>
      rw [ho] at h hB
      simp only [Bool.and_eq_true] at h hB
      obtain ⟨h1, h2⟩ := hB
      have hC' : ∀ a w, C a w → S w → wpAnyH P md ops Q S n (marked (listed.setIfInBounds i true) r) a w := hC
      have e : n + ((i, m) :: r).length = (n + r.length) + 1 := by simp; omega
      rw [e]
      cases m with
      | true =>
        simp only [if_true, Bool.and_eq_true] at h1 h
        obtain ⟨⟨hr, hf⟩, hrd⟩ := h1
        by_cases hw : Region.wanted o (yielded ops a.tmps) = true
        · rw [if_pos hw] at h
          obtain ⟨v, hv, hn⟩ := h
          refine wpAnyH_take ho hs hf hr (fun c a w => hQ c a _ _ w) (Or.inl ⟨hw, fun w1 hS1 => ?_⟩) hS (wpAnyH_seg hs hQ n r _ _ w h2 hS hC' hn)
          have hq := hv w1 ⟨⟨w1, hS1⟩, rfl⟩
          unfold Oper.quietAt at hq
          cases hx : (execOp a.eval o).run P w1 with
          | halt x w2 => rw [hx] at hq; exact hq.elim
          | ok n w2 =>
            obtain ⟨u, rfl⟩ := reads_value hrd hx
            rw [hx] at hq
            obtain ⟨e1, e2⟩ := hq
            rw [e1, e2]
        · rw [if_neg hw] at h
          have hw' : Region.wanted o (yielded ops a.tmps) = false := by simpa using hw
          exact wpAnyH_take ho hs hf hr (fun c a w => hQ c a _ _ w) (Or.inr ⟨hw', rfl⟩) hS (wpAnyH_seg hs hQ n r _ _ w h2 hS hC' h)
      | false =>
        simp only [Bool.false_eq_true, if_false, decide_eq_true_eq] at h1 h
        refine wpAnyH_all h1 (by simp) fun j hj => ?_
        have hj2 : j = i := by simpa using hj
        subst hj2
        unfold wpOp
        rw [ho]
        by_cases hw : Region.wanted o (yielded ops a.tmps) = true
        · simp only [hw, if_true] at h ⊢
          exact .inl (Oper.wp_mono (fun a' w' h' => ⟨h'.1, wpAnyH_seg hs hQ n r _ a' w' h2 h'.1 hC' h'.2⟩) h)
        · simp only [hw] at h ⊢
          exact ⟨hS, wpAnyH_seg hs hQ n r _ _ w h2 hS hC' h⟩

/-- The same, shut: nothing is reckoned of it till it is opened. -/
structure LineP (P : Program) (ops : Array Oper) (S : World → Prop) (Q : Exit → Act → World → Prop) (C : Act → World → Prop) (l : List (Nat × Bool)) (a : Act) (w : World) : Prop where
  out : wpLine P ops S Q C l a w

theorem wp_region_line {id : Nat} {a : Act} {w : World} {l : List Oper} (S : World → Prop) (π : List (Nat × Bool)) (hm : P.follows .mixedOrders = true)
    (hB : (Region.noSelect l.toArray && decide (π.length = l.length) && segB .any l.toArray π (Array.replicate l.toArray.size false) && (Region.ready .any l.toArray (marked (Array.replicate l.toArray.size false) π)).isEmpty) = true) (hQ : ∀ c a d v w, Q (.panic c) (a.put d v) w → Q (.panic c) a w)
    (hS : S w.drew) (h : LineP P l.toArray S Q (Q .normal) π a w.drew) : (Code.region id l.toArray true).wp P Q a w := by
  simp only [Bool.and_eq_true, decide_eq_true_eq] at hB
  refine wp_region_held (S := S) hm ?_
  have := wpAnyH_seg (md := .any) (C := Q .normal) hB.1.1.1 hQ 0 π _ a w.drew hB.1.2 hS (fun a w hc _ => ⟨by simpa using hB.2, hc⟩) h.out
  rw [hB.1.1.2] at this
  simpa using this

/-- It ends as it should, and in no panic. -/
def OnlyN (K : Act → World → Prop) : Exit → Act → World → Prop
  | .normal, a, w => K a w
  | _, _, _ => False
/-- The same where a panic would be heard by somebody. -/
theorem wp_region_lineN {id : Nat} {a : Act} {w : World} {l : List Oper} (S : World → Prop) (π : List (Nat × Bool)) (hm : P.follows .mixedOrders = true)
    (hB : (Region.noSelect l.toArray && decide (π.length = l.length) && segB .any l.toArray π (Array.replicate l.toArray.size false) && (Region.ready .any l.toArray (marked (Array.replicate l.toArray.size false) π)).isEmpty) = true)
    (hS : S w.drew) (h : LineP P l.toArray S (OnlyN (Q .normal)) (Q .normal) π a w.drew) : (Code.region id l.toArray true).wp P Q a w :=
  wp_mono (wp_region_line (Q := OnlyN (Q .normal)) S π hm hB (fun _ _ _ _ _ h => h.elim) hS h) (fun e a w hq => by cases e <;> first | exact hq | exact hq.elim)

/-- What is left of a region, whichever comes up next. -/
structure AnyP (P : Program) (ops : Array Oper) (S : World → Prop) (Q : Exit → Act → World → Prop) (n : Nat) (listed : Array Bool) (a : Act) (w : World) : Prop where
  out : S w → wpAnyH P .any ops Q S n listed a w
theorem wp_region_fork {id : Nat} {a : Act} {w : World} {l : List Oper} (S : World → Prop) (hm : P.follows .mixedOrders = true) (hS : S w.drew) (h : AnyP P l.toArray S Q l.length (Array.replicate l.toArray.size false) a w.drew) : (Code.region id l.toArray true).wp P Q a w := by
  refine wp_region_held (S := S) hm ?_
  have := h.out hS
  simpa using this
theorem any_seg {a : Act} {w : World} {l : List Oper} {n : Nat} {listed : Array Bool} (m : Nat) (π : List (Nat × Bool)) (hB : (Region.noSelect l.toArray && decide (n = m + π.length) && segB .any l.toArray π listed) = true) (hQ : ∀ c a d v w, Q (.panic c) (a.put d v) w → Q (.panic c) a w)
    (h : LineP P l.toArray S Q (AnyP P l.toArray S Q m (marked listed π)) π a w) : AnyP P l.toArray S Q n listed a w := by
  simp only [Bool.and_eq_true, decide_eq_true_eq] at hB
  refine ⟨fun hS => ?_⟩
  rw [hB.1.2]
  exact wpAnyH_seg (md := .any) hB.1.1 hQ m π _ a w hB.2 hS (fun a w hc hS => hc.out hS) h.out
/-- All that is left, along a line. -/
theorem any_rest {a : Act} {w : World} {l : List Oper} {n : Nat} {listed : Array Bool} (π : List (Nat × Bool)) (hB : (Region.noSelect l.toArray && decide (n = π.length) && segB .any l.toArray π listed && (Region.ready .any l.toArray (marked listed π)).isEmpty) = true) (hQ : ∀ c a d v w, Q (.panic c) (a.put d v) w → Q (.panic c) a w)
    (h : LineP P l.toArray S Q (Q .normal) π a w) : AnyP P l.toArray S Q n listed a w := by
  simp only [Bool.and_eq_true, decide_eq_true_eq] at hB
  refine ⟨fun hS => ?_⟩
  have := wpAnyH_seg (md := .any) (C := Q .normal) hB.1.1.1 hQ 0 π _ a w hB.1.2 hS (fun a w hc _ => ⟨by simpa using hB.2, hc⟩) h.out
  rw [hB.1.1.2]
  simpa using this
/-- Two may come up next. -/
theorem any_fork {a : Act} {w : World} {l : List Oper} {n : Nat} {listed : Array Bool} {o1 o2 : Oper} (i j : Nat) (hr : Region.ready .any l.toArray listed = [i, j]) (ho1 : l[i]? = some o1) (ho2 : l[j]? = some o2) (hw1 : Region.wanted o1 (yielded l.toArray a.tmps) = true) (hw2 : Region.wanted o2 (yielded l.toArray a.tmps) = true)
    (h1 : ∀ K : Act → World → Prop, (∀ a' w', S w' → AnyP P l.toArray S Q n (listed.setIfInBounds i true) a' w' → K a' w') → o1.wp P a w K Q) (h2 : ∀ K : Act → World → Prop, (∀ a' w', S w' → AnyP P l.toArray S Q n (listed.setIfInBounds j true) a' w' → K a' w') → o2.wp P a w K Q) :
    AnyP P l.toArray S Q (n + 1) listed a w := by
  refine ⟨fun hS => wpAnyH_all hr (by simp) fun x hx => ?_⟩
  simp only [List.mem_cons, List.not_mem_nil, or_false] at hx
  rcases hx with rfl | rfl
  · unfold wpOp
    rw [show l.toArray[x]? = some o1 by simpa using ho1]
    simp only [hw1, if_true]
    exact .inl (h1 _ (fun a' w' hS' h' => ⟨hS', h'.out hS'⟩))
  · unfold wpOp
    rw [show l.toArray[x]? = some o2 by simpa using ho2]
    simp only [hw2, if_true]
    exact .inl (h2 _ (fun a' w' hS' h' => ⟨hS', h'.out hS'⟩))

variable {a : Act} {w : World} {i : Nat} {m : Bool} {o : Oper} {r : List (Nat × Bool)} {l : List Oper} {C : Act → World → Prop}
theorem line_read (ho : l[i]? = some o) (hw : Region.wanted o (yielded l.toArray a.tmps) = true)
    (h : ∀ K : Act → Prop, (∀ a', LineP P l.toArray S Q C r a' w → K a') → o.quiet P a (fun w' => ∃ x : Of S, w' = x.val) K) : LineP P l.toArray S Q C ((i, true) :: r) a w := by
  refine ⟨?_⟩
  unfold wpLine
  rw [show l.toArray[i]? = some o by simpa using ho]
  simp only [hw, if_true]
  exact h _ (fun _ h => h.out)
theorem line_skip (ho : l[i]? = some o) (hw : Region.wanted o (yielded l.toArray a.tmps) = false) (h : LineP P l.toArray S Q C r (a.put o.dst undef) w) : LineP P l.toArray S Q C ((i, m) :: r) a w := by
  refine ⟨?_⟩
  unfold wpLine
  rw [show l.toArray[i]? = some o by simpa using ho]
  simp only [hw, Bool.false_eq_true, if_false]
  exact h.out
theorem line_alone (ho : l[i]? = some o) (hw : Region.wanted o (yielded l.toArray a.tmps) = true)
    (h : ∀ K : Act → World → Prop, (∀ a' w', S w' → LineP P l.toArray S Q C r a' w' → K a' w') → o.wp P a w K Q) : LineP P l.toArray S Q C ((i, false) :: r) a w := by
  refine ⟨?_⟩
  unfold wpLine
  rw [show l.toArray[i]? = some o by simpa using ho]
  simp only [hw, if_true, Bool.false_eq_true, if_false]
  exact h _ (fun _ _ h1 h2 => ⟨h1, h2.out⟩)
/-- Function f has a body. -/
def callsB (P : Program) (f : FuncId) : Bool := match P.funcs[f]? with
  | some fn => !(fn.name == "runtime.NumGoroutine") && fn.body.isSome
  | none => false
theorem run_callFunc_body {f : FuncId} (hf : callsB P f = true) (args : Array Value) (w : World) : (callFunc f args).run P w = .ok (.enter f args) w := by
  unfold callsB at hf
  split at hf
  · rename_i fn hfn
    simp only [Bool.and_eq_true, Bool.not_eq_true', beq_eq_false_iff_ne] at hf
    obtain ⟨h1, h2⟩ := hf
    simp [callFunc, hfn, h1]
    intro hb
    rw [hb] at h2
    cases h2
  · cases hf
/-- A call of a Go function, by its contract. -/
theorem call_wp {K : Act → World → Prop} {f : FuncId} {xs : Array Operand} {ts : Array TypeId} {args : Array Value} {v : Value} {R : World → Prop} (ho : o.op = Op.call { callee := .value (.func f), args := xs, argTypes := ts }) (hf : callsB P f = true) (hargs : xs.map a.eval = args)
    (h : Calls P f args w fun e w' => e = .returned v ∧ R w') (hK : ∀ w', R w' → K (a.put o.dst v) w') : o.wp P a w K Q := by
  have e : (execOp a.eval o).run P w = .ok (.enter f args) w := by
    unfold execOp
    simp [ho, resolve, hargs, invoke, Act.eval, Deferred.ofValue, run_callFunc_body hf]
  unfold Oper.wp
  rw [e]
  exact h.mono fun e w' ⟨he, hR⟩ => by subst he; exact hK w' hR
/-- The same where what is answered is known by what it is good for alone. -/
theorem call_any {K : Act → World → Prop} {f : FuncId} {xs : Array Operand} {ts : Array TypeId} {args : Array Value} {R : Ending → World → Prop} (ho : o.op = Op.call { callee := .value (.func f), args := xs, argTypes := ts }) (hf : callsB P f = true) (hargs : xs.map a.eval = args)
    (h : Calls P f args w R) (hK : ∀ e w', R e w' → ∃ v, e = .returned v ∧ K (a.put o.dst v) w') : o.wp P a w K Q := by
  have e : (execOp a.eval o).run P w = .ok (.enter f args) w := by
    unfold execOp
    simp [ho, resolve, hargs, invoke, Act.eval, Deferred.ofValue, run_callFunc_body hf]
  unfold Oper.wp
  rw [e]
  exact h.mono fun e w' hR => by
    obtain ⟨v, he, hk⟩ := hK e w' hR
    subst he
    exact hk
/-- What makes a value out of values, and looks at no memory. -/
theorem line_value {v : Value} (ho : l[i]? = some o) (hw : Region.wanted o (yielded l.toArray a.tmps) = true) (hv : (execOp a.eval o).run P w = .ok (.value v) w) (hS : S w) (h : LineP P l.toArray S Q C r (a.put o.dst v) w) : LineP P l.toArray S Q C ((i, false) :: r) a w :=
  line_alone ho hw fun K hK => by
    unfold Oper.wp
    rw [hv]
    exact hK _ _ hS h
/-- The same as what only reads. -/
theorem line_readv {v : Value} (ho : l[i]? = some o) (hw : Region.wanted o (yielded l.toArray a.tmps) = true) (hv : ∀ w, (execOp a.eval o).run P w = .ok (.value v) w) (h : LineP P l.toArray S Q C r (a.put o.dst v) w) : LineP P l.toArray S Q C ((i, true) :: r) a w :=
  line_read ho hw fun K hK => ⟨v, fun w' _ => by unfold Oper.quietAt; rw [hv]; exact ⟨rfl, rfl⟩, hK _ h⟩
theorem line_nil (h : C a w) : LineP P ops S Q C [] a w := ⟨h⟩
end
end Go.Proofs.YtlodhleihnlchaaDoor
