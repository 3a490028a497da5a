/-
  The contracts of impl.rootOf and spec.l09Root.
-/
import Derived.Test.YtmhheecjpalajaaRt
namespace Go.Proofs.Ytmhheecjpalajaa
open Go.RowKit

end Go.Proofs.Ytmhheecjpalajaa
