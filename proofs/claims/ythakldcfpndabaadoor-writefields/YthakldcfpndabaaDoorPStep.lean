/- The program's reader: a step. -/
import Derived.Test.YthakldcfpndabaaDoorPEnd
namespace Go.Proofs.YthakldcfpndabaaDoor
open Go.RowKit

end Go.Proofs.YthakldcfpndabaaDoor
