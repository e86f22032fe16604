/- The program's tables: what the rows list of them, as facts on memory; that they read behind a call as ahead of it; a world that holds them. No condition. -/
import Derived.Test.YtcolecidbalmhaaDoorRows
import Derived.Test.YtcolecidbalmhaaDoorTie
import Derived.Test.YtcolecidbalmhaaDoorCards
import Derived.Test.YtcolecidbalmhaaDoorC3a
import Derived.LaidHandle
import Derived.LaidLaws
import Derived.ProofKit
import Derived.OpenShut
import Derived.WalkSmall
import Derived.Carry
import Derived.Below
import Derived.Deep.DeepHandedRow
import Derived.Lib.LaidTab
namespace Go.Proofs.YtcolecidbalmhaaDoor
open Go.ChangeShapes Go.WideShapes Go.ChangeAt Go.RowKit

theorem own : ownKnob Tryd.prog.godebug = none := by kernel_rfl
theorem laidOut : laidOutB Tryd.prog = true := by kernel_rfl

/-- Each named variable is there, and its type can be read. -/
def varsOk (P : Program) (names : List String) : Bool :=
  names.all fun n => match P.globalNamed n with
    | some g => match (P.globals[g]?).map (·.type) with
      | some t => P.readableRec t && decide (t < P.types.size)
      | Option.none => false
    | Option.none => false
theorem vars_keep {H : Type} {enc : TypeId × Value → H} {P : Program} (hl : laidOutB P = true) {W W' : World} (bel : Below W.heap.size W W') : ∀ (names : List String) (gs : List (DataW H)) (q : List MemPlace),
    varsOk P names = true → DataW.TrodVars enc P W (fun _ => true) names gs q → (∀ x ∈ q, x.block < W.heap.size) → DataW.TrodVars enc P W' (fun b => decide (b < W.heap.size)) names gs q
  | [], gs, q, _, h, _ => by
    obtain ⟨rfl, rfl⟩ := trodVars_none h
    exact rfl
  | n :: r, [], q, _, h, _ => by simp [DataW.TrodVars] at h
  | n :: r, d :: ds, q, hok, h, hlt => by
    obtain ⟨g, t, cs, fuel, p, q2, h1, h2, h3, h4, h5, rfl⟩ := h
    simp only [varsOk, List.all_cons, Bool.and_eq_true] at hok
    obtain ⟨ho, hor⟩ := hok
    simp only [h1, h2, Bool.and_eq_true, decide_eq_true_eq] at ho
    have hg : g < W.heap.size := by
      rcases Nat.lt_or_ge g W.heap.size with hlt | hge
      · exact hlt
      · simp [World.var?, h1, Array.getElem?_eq_none hge] at h3
    have hT : DataW.Trod enc P W 0 (fun _ => true) true t (.agg cs) d p := ⟨fuel, h4⟩
    obtain ⟨fuel', h4'⟩ := Below.trod hl ho.1 ho.2 hT bel (fun x hx => hlt x (by simp [hx]))
    exact ⟨g, t, cs, fuel', p, q2, h1, h2, var?_below bel h1 hg h3, h4', vars_keep hl bel r ds q2 hor h5 (fun x hx => hlt x (by simp [hx])), rfl⟩

/-- An array of words that reads as it is listed holds these words, cell for cell. -/
theorem cells_of_words {H : Type} {enc : TypeId × Value → H} {P : Program} {w : World} {base : Nat} {sp : Nat → Bool} {held : Bool} {fuel : Nat} {t e : TypeId} {n : Nat} {cs : List Value} {ss : List (List UInt8)} {p : List MemPlace}
    (ht : P.underlying t = some (.array n e)) (he : P.underlying e = some .string) (hce : P.cellsOf e = 1) (hct : P.cellsOf t = n)
    (h : DataW.trod enc P w base sp held fuel t cs = some (.agg (ss.map fun s => .lit (.string s)), p)) : cs = ss.map fun s => Value.string ⟨s.toArray⟩ := by
  cases fuel with
  | zero => simp [DataW.trod] at h
  | succ fuel =>
    simp only [DataW.trod, ht, hce, hct, Nat.mul_one] at h
    split at h
    · rename_i hl
      obtain ⟨xs, hm, hx⟩ := Option.map_eq_some_iff.1 h
      have hxs : xs.map (·.1) = ss.map fun s => (DataW.lit (.string s) : DataW H) := by
        have := congrArg Prod.fst hx
        simpa using this
      have hxl : xs.length = n := by simpa using Lib.mapM_length hm
      have hzl : ss.length = n := by
        have := congrArg List.length hxs
        simp at this
        omega
      apply List.ext_getElem?
      intro i
      by_cases hi : i < n
      · obtain ⟨b, hb, hf⟩ := Lib.mapM_at hm i i (by simp [hi])
        obtain ⟨s, hc, rfl, _⟩ := DataW.trod_string he hf
        have h1 : cs[i]? = some (.string s) := by
          have := congrArg (·[0]?) hc
          simpa [List.getElem?_take, List.getElem?_drop] using this
        have h2 : (xs.map (·.1))[i]? = some (DataW.lit (.string s.data.toList) : DataW H) := by simp [hb]
        rw [hxs] at h2
        simp only [List.getElem?_map, Option.map_eq_some_iff, DataW.lit.injEq, Lit.string.injEq] at h2
        obtain ⟨z', hz', e'⟩ := h2
        rw [h1]
        simp [hz', e']
      · rw [List.getElem?_eq_none (by omega), List.getElem?_eq_none (by simp; omega)]
    · cases h

theorem cLabels : Tryd.prog.cellsOf 69 = 9 := by kernel_rfl
theorem cWord : Tryd.prog.cellsOf 9 = 1 := by kernel_rfl
theorem rowErrT : ((List.range 145).filter fun t => Tryd.prog.rowNamed t [101, 114, 114, 111, 114]) = [96] := by kernel_rfl
theorem sizeErrT : Tryd.prog.types.size = 145 := by kernel_rfl
/-- A world for the witness: the settled one, its tables holding what their initialisers lay. -/
noncomputable def laidWorld (os : Os) : World :=
  { World.holding Tryd.prog os ⟨#[], #[], []⟩ with heap := ((World.holding Tryd.prog os ⟨#[], #[], []⟩).heap
    ) }
end Go.Proofs.YtcolecidbalmhaaDoor
