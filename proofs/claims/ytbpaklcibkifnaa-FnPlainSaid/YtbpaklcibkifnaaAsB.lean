
/- errors.As at the program's own error type, walked: that error: true, the variable is set; and the program's question of it. Condition: the package's variable 'errorType' holds the handle of the type 'error', as the card ties it. -/
import Derived.Test.YtbpaklcibkifnaaAs
namespace Go.Proofs.Ytbpaklcibkifnaa
open Go.RowKit Go.Extern.Stop Go.Stop Go.Extern

end Go.Proofs.Ytbpaklcibkifnaa
