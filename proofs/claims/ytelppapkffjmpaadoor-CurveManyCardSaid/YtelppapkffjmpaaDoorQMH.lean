/- Merged: The reference's root, walked. The reference's root. -/
import Derived.Test.YtelppapkffjmpaaDoorQMF
import Derived.Test.YtelppapkffjmpaaDoorQMA
import Derived.Test.YtelppapkffjmpaaDoorQME
import Derived.Test.YtelppapkffjmpaaDoorQMG
section
namespace Go.Proofs.YtelppapkffjmpaaDoor
open Go.RowKit Go.Shelf
set_option linter.unusedVariables false
set_option maxRecDepth 8000

end Go.Proofs.YtelppapkffjmpaaDoor
end
section
--@optional
namespace Go.Proofs.YtelppapkffjmpaaDoor
open Go.RowKit Go.Shelf
set_option linter.unusedVariables false
set_option maxRecDepth 8000

end Go.Proofs.YtelppapkffjmpaaDoor
end
