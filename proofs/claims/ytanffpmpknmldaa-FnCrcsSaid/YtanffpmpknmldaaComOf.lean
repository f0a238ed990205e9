/- The program's CompressBlock. -/
import Derived.Test.YtanffpmpknmldaaCbI
namespace Go.Proofs.Ytanffpmpknmldaa
open Go.RowKit Go.Deep

end Go.Proofs.Ytanffpmpknmldaa
