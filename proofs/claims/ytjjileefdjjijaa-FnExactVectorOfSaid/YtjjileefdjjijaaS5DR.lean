/- Nothing of this module is wanted here. -/
import Derived.Test.YtjjileefdjjijaaRegInv
import Derived.Test.YtjjileefdjjijaaS5Data
namespace Go.Proofs.Ytjjileefdjjijaa
end Go.Proofs.Ytjjileefdjjijaa
