/-
  What is proved: impl.GapOf and the model's answer alike. Conditions: none.
-/
import Derived.Test.YtefjignlhlpndaaFn2
import Derived.Deep.RegionHeld3
namespace Go.Proofs.Ytefjignlhlpndaa
open Go.RowKit

end Go.Proofs.Ytefjignlhlpndaa
