/- Contracts of what is wrong with a record, of copies of bytes, and of what the laws do with records. Conditions: as each theorem states. -/
import Derived.Test.YtefgimpodhjdpabG2
import Derived.Test.YtefgimpodhjdpabMath4
import Derived.Test.YtefgimpodhjdpabL0
namespace Go.Proofs.Ytefgimpodhjdpab
open Go.RowKit
set_option maxRecDepth 100000
set_option linter.unusedVariables false

abbrev R4 (s k : Int) (a : Option Addr) (n c : Nat) (t : Int) : Value := .agg #[.int .i64 s, .int .i64 k, .slice a n c, .int .i64 t]
abbrev R5 (e s k : Int) (a : Option Addr) (n c : Nat) (t : Int) : Value := .agg #[.int .i64 e, .int .i64 s, .int .i64 k, .slice a n c, .int .i64 t]
abbrev L4 (s k : Int) (a : Option Addr) (n c : Nat) (t : Int) : List Value := [.int .i64 s, .int .i64 k, .slice a n c, .int .i64 t]
abbrev L5 (e s k : Int) (a : Option Addr) (n c : Nat) (t : Int) : List Value := [.int .i64 e, .int .i64 s, .int .i64 k, .slice a n c, .int .i64 t]

theorem szByte4_any (a : Option Addr) (n c : Nat) (l : Int) (w : World) (hn : n ≤ maxLen) (l0 : 0 ≤ l) (l1 : l ≤ 1048576) :
    Calls Try.prog 26 #[.slice a n c, .int .i64 l] w fun e w' => e = .returned (.int .i64 (if l < n then -1 else l - n)) ∧ w = w' := by
  unfold maxLen at hn
  by_cases h : l < n
  · have h' : l - n < 0 := by omega
    rw [if_pos h]
    go_enter Try.func26, Try.ntmps26
    go_wp2_with fail
    go_ret
    simp
  · have h' : ¬ l - n < 0 := by omega
    rw [if_neg h]
    go_enter Try.func26, Try.ntmps26
    go_wp2_with fail
    go_ret
    simp
/-- A record whose data lies in new memory. -/
def RecMade (s k : Int) (n : Nat) (zs : List Int) (t : Int) (w : World) (r : Ending) (w' : World) : Prop :=
  ∃ a c, r = .returned (R4 s k a n c t) ∧ OwnK .u8 w' w.heap.size (.slice a n c) zs ∧ Below w.heap.size w w'

end Go.Proofs.Ytefgimpodhjdpab
