/- The program's reader: a step. -/
import Derived.Test.YtnlmjlfoeodleaaDoorPEnd
namespace Go.Proofs.YtnlmjlfoeodleaaDoor
open Go.RowKit

end Go.Proofs.YtnlmjlfoeodleaaDoor
