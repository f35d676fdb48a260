/-
  A map from hops (a struct of two numbers) to tuples that the program makes: what it holds, key by key; made, asked, written, deleted from. (written by mkmpt.py)
-/
import Derived.Test.YtilphgfjgeoiaaaTwoM
import Derived.Maps.OwnSet
import Derived.DeepKeys4
namespace Go.Proofs.Ytilphgfjgeoiaaa
open Go.ChangeShapes Go.WideShapes Go.ChangeAt Go.RowKit
set_option linter.unusedVariables false
set_option maxRecDepth 100000
set_option linter.unusedSimpArgs false
namespace Mt
open W1 Tu Tw Go.Maps
end Mt
end Go.Proofs.Ytilphgfjgeoiaaa
