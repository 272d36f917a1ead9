/- What PutList of the document's own definition answers of a list of texts in memory. -/
import Derived.Test.YtdegdoiecfoieabRowB
namespace Go.Proofs.Ytdegdoiecfoieab
open Go.RowKit

end Go.Proofs.Ytdegdoiecfoieab
