/- Blocks held against one another; several blocks that stay. -/
import Derived.Test.YtbighpacggbllaaDoorGh7
import Derived.ChangeKeysEq
import Derived.Laws.StructEq
import Derived.Laws.CopyOwn
namespace Go.Proofs.YtbighpacggbllaaDoor
set_option linter.unusedVariables false
set_option linter.unusedSimpArgs false
open Go.RowKit

end Go.Proofs.YtbighpacggbllaaDoor
