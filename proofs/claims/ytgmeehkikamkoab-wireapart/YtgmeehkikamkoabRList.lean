/- What List of the document's own definition answers. -/
import Derived.Test.YtgmeehkikamkoabList
namespace Go.Proofs.Ytgmeehkikamkoab
open Go.RowKit

end Go.Proofs.Ytgmeehkikamkoab
