/- Nothing of this module is wanted here. -/
import Derived.Test.YtjjileefdjjijaaM5Ask
import Derived.Test.YtjjileefdjjijaaS5DR
namespace Go.Proofs.Ytjjileefdjjijaa
end Go.Proofs.Ytjjileefdjjijaa
