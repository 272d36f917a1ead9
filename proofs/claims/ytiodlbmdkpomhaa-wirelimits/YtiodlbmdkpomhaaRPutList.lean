/- What PutList of the document's own definition answers of a list of texts in memory. -/
import Derived.Test.YtiodlbmdkpomhaaRowB
namespace Go.Proofs.Ytiodlbmdkpomhaa
open Go.RowKit

end Go.Proofs.Ytiodlbmdkpomhaa
