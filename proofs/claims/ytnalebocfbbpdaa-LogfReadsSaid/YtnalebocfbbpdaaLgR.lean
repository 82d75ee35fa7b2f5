/-
  logf: LogfApart's walk.
-/
import Derived.Test.YtnalebocfbbpdaaLgQ
namespace Go.Proofs.Ytnalebocfbbpdaa
open Go.RowKit Go
set_option linter.unusedVariables false
set_option linter.unusedSimpArgs false
set_option maxRecDepth 100000
end Go.Proofs.Ytnalebocfbbpdaa
