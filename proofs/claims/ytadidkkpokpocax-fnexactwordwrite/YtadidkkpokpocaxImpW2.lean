import Derived.Test.YtadidkkpokpocaxImpX
import Derived.Test.YtadidkkpokpocaxImpWr
import Derived.Test.YtadidkkpokpocaxWSpec2
namespace Go.Proofs.Ytadidkkpokpocax
end Go.Proofs.Ytadidkkpokpocax
