/- Contracts of what is wrong with a record, of copies of bytes, and of what the laws do with records. Conditions: as each theorem states. -/
import Derived.Test.YtcolecidbalmhaaDoorG2
import Derived.Test.YtcolecidbalmhaaDoorMath4
import Derived.Test.YtcolecidbalmhaaDoorL0
namespace Go.Proofs.YtcolecidbalmhaaDoor
open Go.RowKit
set_option maxRecDepth 100000
set_option linter.unusedVariables false

abbrev R4 (s k : Int) (a : Option Addr) (n c : Nat) (t : Int) : Value := .agg #[.int .i64 s, .int .i64 k, .slice a n c, .int .i64 t]
abbrev R5 (e s k : Int) (a : Option Addr) (n c : Nat) (t : Int) : Value := .agg #[.int .i64 e, .int .i64 s, .int .i64 k, .slice a n c, .int .i64 t]
abbrev L4 (s k : Int) (a : Option Addr) (n c : Nat) (t : Int) : List Value := [.int .i64 s, .int .i64 k, .slice a n c, .int .i64 t]
abbrev L5 (e s k : Int) (a : Option Addr) (n c : Nat) (t : Int) : List Value := [.int .i64 e, .int .i64 s, .int .i64 k, .slice a n c, .int .i64 t]

theorem l1In_kind (v : Int) (w : World) :
    Calls Tryd.prog 41 #[.int .i64 v, .int .i64 1, .int .i64 9] w fun e w' => e = .returned (.bool (M.kindB v)) ∧ w = w' := l1In_any v 1 9 w

/-- A record whose data lies in new memory. -/
def RecMade (s k : Int) (n : Nat) (zs : List Int) (t : Int) (w : World) (r : Ending) (w' : World) : Prop :=
  ∃ a c, r = .returned (R4 s k a n c t) ∧ OwnK .u8 w' w.heap.size (.slice a n c) zs ∧ Below w.heap.size w w'

end Go.Proofs.YtcolecidbalmhaaDoor
