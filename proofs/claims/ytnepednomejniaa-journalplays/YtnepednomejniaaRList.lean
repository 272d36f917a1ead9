/- What List of the document's own definition answers. -/
import Derived.Test.YtnepednomejniaaList
namespace Go.Proofs.Ytnepednomejniaa
open Go.RowKit

end Go.Proofs.Ytnepednomejniaa
