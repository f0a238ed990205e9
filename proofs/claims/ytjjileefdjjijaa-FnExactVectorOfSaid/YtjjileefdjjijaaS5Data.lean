/- The model's chapter 5: data: l5DataFault. -/
import Derived.Test.YtjjileefdjjijaaM5Data
namespace Go.Proofs.Ytjjileefdjjijaa
open Go.RowKit Go.Deep

end Go.Proofs.Ytjjileefdjjijaa
