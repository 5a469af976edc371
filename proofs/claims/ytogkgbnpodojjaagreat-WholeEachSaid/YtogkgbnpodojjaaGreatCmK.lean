/- Contracts and lemmas that claims of this seat share: FieldSpan, FieldSpanFrom. Each says its own conditions. -/
import Derived.Test.YtogkgbnpodojjaaGreatCmWord
import Derived.Test.YtogkgbnpodojjaaGreatCmD
set_option linter.unusedVariables false
namespace Go.Proofs.YtogkgbnpodojjaaGreat
open Go.Proofs.Tryz
namespace field
open Go.RowKit
end field
namespace field
open Go.RowKit
end field
end Go.Proofs.YtogkgbnpodojjaaGreat
