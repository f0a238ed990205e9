/- The program's byteWriter: put, number, pair, word, count, numbers. -/
import Derived.Test.YtbfbfimmhpijfaaImB
import Derived.Test.YtbfbfimmhpijfaaUniL
namespace Go.Proofs.Ytbfbfimmhpijfaa
open Go.RowKit Go.Deep

end Go.Proofs.Ytbfbfimmhpijfaa
