import Derived.Test.YtaigcjhachkmmaaDoorFSum
namespace Go.Proofs.YtaigcjhachkmmaaDoor
open Go.RowKit
set_option maxRecDepth 100000
set_option linter.unusedVariables false
set_option linter.unusedSimpArgs false

end Go.Proofs.YtaigcjhachkmmaaDoor
