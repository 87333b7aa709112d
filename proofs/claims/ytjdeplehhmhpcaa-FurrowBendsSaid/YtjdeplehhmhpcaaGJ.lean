/- Furrow: what is told wrong is the smallest set that saves. -/
import Derived.Test.YtjdeplehhmhpcaaGI
namespace Go.Proofs.Ytjdeplehhmhpcaa
open Go.RowKit En

end Go.Proofs.Ytjdeplehhmhpcaa
