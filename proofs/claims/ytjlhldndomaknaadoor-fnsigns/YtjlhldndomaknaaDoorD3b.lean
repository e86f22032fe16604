/- Contracts of the draws of signatures and of their bytes. Conditions: as each theorem states. -/
import Derived.Test.YtjlhldndomaknaaDoorD3
import Derived.Test.YtjlhldndomaknaaDoorD2
import Derived.Test.YtjlhldndomaknaaDoorL0
namespace Go.Proofs.YtjlhldndomaknaaDoor
open Go.RowKit
set_option maxRecDepth 100000
set_option linter.unusedVariables false

theorem DrawCheckSign_any {a : Option Addr} {len cap : Nat} {zs : List Int} {w : World} (hR : Row .u8 w w.heap.size a len cap zs) :
    Calls Tryd.prog 37 #[.slice a len cap] w (DrawnSig w) := by
  have R0 := fun o => hR.on (bal (Below.refl _ w) o)
  have hQ := Res2.new w 49
  have hb0 := bal (Below.refl _ w) (.cells #[.int .i64 0, .int .i64 0] 49)
  go_enter Tryd.func37, Tryd.ntmps37
  go_wp2_with fail
  refine (dsource (R0 _)).mono ?_
  rintro r w1 ⟨rfl, D⟩
  generalize w.alloc (.cells #[.int .i64 0, .int .i64 0] 49) = W at *
  go_wp2_with fail
  refine (l3Bent_any D).mono ?_
  rintro r w2 ⟨x, y, p, q, rfl, h2⟩
  obtain ⟨q0, q1, z0, z1⟩ := hQ.on h2
  have b2 := btr hb0 h2
  clear hQ hb0 h2 D R0
  go_wp2_with fail
  exact bodyPost_ret (v := .tuple #[.int .i64 x, .int .i64 y, I2 p q]) (by simp [results, Tryd.results37, go_sem, q0, q1]) rfl ⟨_, _, _, _, rfl, bset (bset b2 (Nat.le_refl _) _) (Nat.le_refl _) _⟩

def DrawnPair (w : World) (r : Ending) (w' : World) : Prop := ∃ p q : Int, r = .returned (I2 p q) ∧ Below w.heap.size w w'
end Go.Proofs.YtjlhldndomaknaaDoor
