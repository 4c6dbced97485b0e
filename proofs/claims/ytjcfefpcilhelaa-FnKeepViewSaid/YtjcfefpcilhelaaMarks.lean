/- The laws' marks: rows that are written over and read again. -/
import Derived.Test.YtjcfefpcilhelaaVEdges
namespace Go.Proofs.Ytjcfefpcilhelaa
open Go.RowKit Go.BigFrame Go.Deep
set_option linter.unusedVariables false
set_option linter.unusedSimpArgs false

end Go.Proofs.Ytjcfefpcilhelaa
