/- The document's own answers: Fits. -/
import Derived.Test.YtbjenpkgcdppaaaRef
namespace Go.Proofs.Ytbjenpkgcdppaaa
open Go.RowKit
end Go.Proofs.Ytbjenpkgcdppaaa
