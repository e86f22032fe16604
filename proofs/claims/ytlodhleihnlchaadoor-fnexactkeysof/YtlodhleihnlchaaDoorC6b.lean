/- Contracts of what is wrong with a reply, by the program and by its model. Conditions: as each theorem states. -/
import Derived.Test.YtlodhleihnlchaaDoorMath6
import Derived.Test.YtlodhleihnlchaaDoorC3c
import Derived.Test.YtlodhleihnlchaaDoorG2
namespace Go.Proofs.YtlodhleihnlchaaDoor
open Go.RowKit
set_option maxRecDepth 100000
set_option linter.unusedVariables false

abbrev R6 (r s p x y f : Int) : Value := .agg #[.int .i64 r, .int .i64 s, .int .i64 p, .int .i64 x, .int .i64 y, .int .i64 f]
abbrev RL6 (r s p x y f : Int) : List Value := [.int .i64 r, .int .i64 s, .int .i64 p, .int .i64 x, .int .i64 y, .int .i64 f]
abbrev R7 (c r s p x y f : Int) : Value := .agg #[.int .i64 c, .int .i64 r, .int .i64 s, .int .i64 p, .int .i64 x, .int .i64 y, .int .i64 f]
abbrev RL7 (c r s p x y f : Int) : List Value := [.int .i64 c, .int .i64 r, .int .i64 s, .int .i64 p, .int .i64 x, .int .i64 y, .int .i64 f]

end Go.Proofs.YtlodhleihnlchaaDoor
