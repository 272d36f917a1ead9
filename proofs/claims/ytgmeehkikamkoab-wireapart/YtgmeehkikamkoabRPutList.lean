/- What PutList of the document's own definition answers of a list of texts in memory. -/
import Derived.Test.YtgmeehkikamkoabRowB
namespace Go.Proofs.Ytgmeehkikamkoab
open Go.RowKit

end Go.Proofs.Ytgmeehkikamkoab
