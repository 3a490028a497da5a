/-
  slices.SortFunc at a short row of tooth counts.
-/
import Derived.Test.YtmmmbchlkjljaaaInsI
namespace Go.Proofs.Ytmmmbchlkjljaaa
open Go.RowKit Go.Sort Go.Shelf

end Go.Proofs.Ytmmmbchlkjljaaa
