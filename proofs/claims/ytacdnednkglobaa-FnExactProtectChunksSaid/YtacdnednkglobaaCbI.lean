/- The program's CompressBlock: its region that draws its order, by an invariant. -/
import Derived.Test.YtacdnednkglobaaCmp
namespace Go.Proofs.Ytacdnednkglobaa
open Go.RowKit Go.Deep

end Go.Proofs.Ytacdnednkglobaa
