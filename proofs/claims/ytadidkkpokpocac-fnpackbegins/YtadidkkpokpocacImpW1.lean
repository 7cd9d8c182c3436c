import Derived.Test.YtadidkkpokpocacImpX
import Derived.Test.YtadidkkpokpocacWSpec2
namespace Go.Proofs.Ytadidkkpokpocac
end Go.Proofs.Ytadidkkpokpocac
