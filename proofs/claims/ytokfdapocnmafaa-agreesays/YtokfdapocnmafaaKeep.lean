/-
  Contract of the verifier's own 'apart': how far two numbers are from each other.
-/
import Derived.Test.YtokfdapocnmafaaSat
namespace Go.Proofs.Ytokfdapocnmafaa
open Go.RowKit

end Go.Proofs.Ytokfdapocnmafaa
