/-
  Contracts of the document's answer for layer 5.
-/
import Derived.Test.YtehpngppdcnohaaDoor5P
namespace Go.Proofs.YtehpngppdcnohaaDoor
open Go.RowKit
set_option linter.unusedVariables false
set_option linter.unusedSimpArgs false
end Go.Proofs.YtehpngppdcnohaaDoor
