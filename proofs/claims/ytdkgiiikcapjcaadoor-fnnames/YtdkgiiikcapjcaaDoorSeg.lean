/- A line through a great region that draws its order, shown piece by piece. No condition. -/
import Derived.Test.YtdkgiiikcapjcaaDoorLine
namespace Go.Proofs.YtdkgiiikcapjcaaDoor
open Go.RowKit

/-- The regions of a code. -/
def regs : Code → List (Nat × Array Oper)
  | .region i ops _ => [(i, ops)]
  | .seq a b => regs a ++ regs b
  | .cond _ a b => regs a ++ regs b
  | .block _ b => regs b
  | .loop b => regs b
  | .scope b => regs b
  | .rangeFunc _ _ a b => regs a ++ regs b
  | _ => []
def regAt (c : Option Code) (id : Nat) : Array Oper := match (regs (c.getD .skip)).find? (fun x => x.1 == id) with
  | some x => x.2
  | none => #[]
/-- A piece of a line: it may be walked so, and this has come up behind it. -/
structure Piece (ops : Array Oper) (L : Array Bool) (π : List (Nat × Bool)) (L' : Array Bool) : Prop where
  seg : segB .any ops π L = true
  went : marked L π = L'
theorem segB_append (md : Region.Mode) (ops : Array Oper) : ∀ (p q : List (Nat × Bool)) (L : Array Bool), segB md ops (p ++ q) L = (segB md ops p L && segB md ops q (marked L p))
  | [], q, L => by simp [segB, marked]
  | (i, m) :: p, q, L => by
    rw [List.cons_append, segB, segB, segB_append md ops p q, marked, Bool.and_assoc]
theorem marked_append : ∀ (p q : List (Nat × Bool)) (L : Array Bool), marked L (p ++ q) = marked (marked L p) q
  | [], q, L => rfl
  | (i, m) :: p, q, L => by
    rw [List.cons_append, marked, marked, marked_append p q]
theorem Piece.app {ops : Array Oper} {L L1 L2 : Array Bool} {p q : List (Nat × Bool)} (h1 : Piece ops L p L1) (h2 : Piece ops L1 q L2) : Piece ops L (p ++ q) L2 :=
  ⟨by rw [segB_append, h1.seg, h1.went, h2.seg]; rfl, by rw [marked_append, h1.went, h2.went]⟩
theorem wp_region_pieces {P : Program} {Q : Exit → Act → World → Prop} {id : Nat} {a : Act} {w : World} {l : List Oper} (S : World → Prop) (π : List (Nat × Bool)) (ops : Array Oper) (L0 L1 : Array Bool) (hops : l.toArray = ops) (hm : P.follows .mixedOrders = true)
    (hN : Region.noSelect ops = true) (hl : π.length = l.length) (h0 : Array.replicate ops.size false = L0) (hp : Piece ops L0 π L1) (he : (Region.ready .any ops L1).isEmpty = true) (hQ : ∀ c a d v w, Q (.panic c) (a.put d v) w → Q (.panic c) a w)
    (hS : S w.drew) (h : LineP P l.toArray S Q (Q .normal) π a w.drew) : (Code.region id l.toArray true).wp P Q a w := by
  refine wp_region_line S π hm ?_ hQ hS h
  rw [hops, h0, hp.went, hN, hp.seg, he, decide_eq_true hl]
  rfl
end Go.Proofs.YtdkgiiikcapjcaaDoor
