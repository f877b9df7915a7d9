/-
  The law's Do where it asks what a sector has. Conditions: the theorem's own premises.
-/
import Derived.Test.YtdhaikcmgegfoaaDiskDo6
namespace Go.Proofs.Ytdhaikcmgegfoaa
open Go.RowKit

end Go.Proofs.Ytdhaikcmgegfoaa
