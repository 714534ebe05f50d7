/- The reference's bytes of a point, and point of bytes: walked. -/
import Derived.Test.YtelppapkffjmpaaDoorQMJ
import Derived.Test.YtelppapkffjmpaaDoorQMA
import Derived.Test.YtelppapkffjmpaaDoorQMF
import Derived.Test.YtelppapkffjmpaaDoorQMH
namespace Go.Proofs.YtelppapkffjmpaaDoor
open Go.RowKit Go.Shelf
set_option linter.unusedVariables false
set_option maxRecDepth 8000

end Go.Proofs.YtelppapkffjmpaaDoor
