/- What List of the document's own definition answers. -/
import Derived.Test.YtiodlbmdkpomhaaList
namespace Go.Proofs.Ytiodlbmdkpomhaa
open Go.RowKit

end Go.Proofs.Ytiodlbmdkpomhaa
