/- The program's CompressBlock: its region that draws its order, by an invariant. -/
import Derived.Test.YtanffpmpknmldaaCmp
namespace Go.Proofs.Ytanffpmpknmldaa
open Go.RowKit Go.Deep

end Go.Proofs.Ytanffpmpknmldaa
