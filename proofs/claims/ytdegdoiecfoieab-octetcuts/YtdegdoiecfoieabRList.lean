/- What List of the document's own definition answers. -/
import Derived.Test.YtdegdoiecfoieabList
namespace Go.Proofs.Ytdegdoiecfoieab
open Go.RowKit

end Go.Proofs.Ytdegdoiecfoieab
