/- The program's CompressBlock. -/
import Derived.Test.YtacdnednkglobaaCbI
namespace Go.Proofs.Ytacdnednkglobaa
open Go.RowKit Go.Deep

end Go.Proofs.Ytacdnednkglobaa
