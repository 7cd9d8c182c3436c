import Derived.Test.YtadidkkpokpocabImpX
import Derived.Test.YtadidkkpokpocabWSpec2
namespace Go.Proofs.Ytadidkkpokpocab
end Go.Proofs.Ytadidkkpokpocab
