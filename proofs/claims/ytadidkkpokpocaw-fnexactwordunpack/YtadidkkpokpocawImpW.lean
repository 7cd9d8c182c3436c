import Derived.Test.YtadidkkpokpocawImpX
import Derived.Test.YtadidkkpokpocawWSpec2
namespace Go.Proofs.Ytadidkkpokpocaw
end Go.Proofs.Ytadidkkpokpocaw
