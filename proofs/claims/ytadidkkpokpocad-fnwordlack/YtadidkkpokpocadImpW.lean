import Derived.Test.YtadidkkpokpocadImpX
import Derived.Test.YtadidkkpokpocadImpWr
import Derived.Test.YtadidkkpokpocadImpRd
import Derived.Test.YtadidkkpokpocadWSpec2
namespace Go.Proofs.Ytadidkkpokpocad
end Go.Proofs.Ytadidkkpokpocad
