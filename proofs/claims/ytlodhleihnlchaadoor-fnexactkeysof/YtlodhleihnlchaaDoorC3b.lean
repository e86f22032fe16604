/- errors.As by its contracts at a target of the type 'misfit', and the code of an error. Conditions: as each theorem states. -/
import Derived.Test.YtlodhleihnlchaaDoorC3a
namespace Go.Proofs.YtlodhleihnlchaaDoor
open Go.RowKit Go.Extern.Stop Go.Stop Go.Extern

end Go.Proofs.YtlodhleihnlchaaDoor
