/- Slices of several calls, each in memory of its own. No condition. -/
import Derived.Test.YtjlhldndomaknaaDoorC4a
namespace Go.Proofs.YtjlhldndomaknaaDoor
open Go.RowKit
set_option maxRecDepth 100000

/-- The two lie in no one block. -/
def Sep (v1 v2 : Value) : Prop := ∀ k, v1.ownBlock = some k → v2.ownBlock ≠ some k
/-- Block g is not the slice's. -/
def Off (g : Nat) (v : Value) : Prop := ∀ k, v.ownBlock = some k → k ≠ g
section
variable {w w' w1 w2 : World} {B B1 B2 s s1 s2 : Nat} {v v1 v2 : Value} {n n1 n2 : Nat} {xs x1 x2 : List Value}
theorem Own.sep (h1 : Own w1 B1 s1 v1 n1 x1) (h2 : Own w2 B2 s2 v2 n2 x2) (hB : w1.heap.size ≤ B2) : Sep v1 v2 := fun k hk e => by
  have := (h1.lt k hk).2
  have := (h2.lt k e).1
  omega
theorem Sep.symm (h : Sep v1 v2) : Sep v2 v1 := fun k hk e => h k e hk
theorem Own.keptS (h : Own w B s v n xs) (hg : w.grownBy w' v2.ownBlock) (hs : Sep v v2) : Own w' B s v n xs :=
  h.keep hg.size fun k hk => hg.block k (h.lt k hk).2 (fun e => hs k hk e.symm)
theorem Own.offHi (h : Own w B s v n xs) {g : Nat} (hg : w.heap.size ≤ g) : Off g v := fun k hk e => by
  have := (h.lt k hk).2
  omega
theorem Own.offLo (h : Own w B s v n xs) {g : Nat} (hg : g < B) : Off g v := fun k hk e => by
  have := (h.lt k hk).1
  omega
theorem At.keptS {g : Nat} {cs : List Value} (h : At g cs w) (hg : w.grownBy w' v.ownBlock) (ho : Off g v) : At g cs w' := h.kept hg (fun e => ho g e.symm rfl)
end
end Go.Proofs.YtjlhldndomaknaaDoor
