/-
  What Parts answers: SHA-256 of all that its parts read as, one behind the other, in new memory; nothing that was there turns.
  Plain mathematics of a long division by a number of two halves, the high one at least half of what it may be: two guesses, each corrected at most twice. No program is named here. Plain mathematics of powers under a modulus: powers by squaring; the order is a prime (Pocklington's criterion, in a form that wants no order of an element); the base has that order. No program is named here. What Rem64 answers, of the two moduli of seals: the rest of a number of two words. It turns no memory. What Rem64 answers, of the two moduli of seals: the rest of a number of two words. It turns no memory. What times and power answer: a product and a power under the two moduli. They turn no memory.
  What eight, number, exponent, secret, challenge and Key answer: a number's eight bytes; the number that a digest of parts begins with; a secret; what is asked; a key. They turn nothing that was there.
  What exponent, secret, challenge and Key answer. They turn nothing that was there.
  What Sign answers: the seal. It turns nothing that was there.
  What Good answers: whether a seal is good. It turns nothing that was there.
-/
import Derived.Test.YtbjlfhabnjpdmaaGreatDoorlaShaAll
import Derived.Test.YtbjlfhabnjpdmaaGreatDoorlaMemB
import Derived.BigQuiet
import Derived.Deep.CutBlock
import Derived.Lib.SlBytesConst
import Derived.Deep.QuietTactic
import Derived.Deep.RegionWith
namespace Go.Proofs.YtbjlfhabnjpdmaaGreatDoor
open Go.RowKit

end Go.Proofs.YtbjlfhabnjpdmaaGreatDoor
namespace Go.Proofs.YtbjlfhabnjpdmaaGreatDoor


end Go.Proofs.YtbjlfhabnjpdmaaGreatDoor
namespace Go.Proofs.YtbjlfhabnjpdmaaGreatDoor







/-- the two prime factors of one less than the order that are used, and an element of their product's order -/
def f1 : Nat := 23
def f2 : Nat := 62196263


end Go.Proofs.YtbjlfhabnjpdmaaGreatDoor
namespace Go.Proofs.YtbjlfhabnjpdmaaGreatDoor
open Go.RowKit




end Go.Proofs.YtbjlfhabnjpdmaaGreatDoor
namespace Go.Proofs.YtbjlfhabnjpdmaaGreatDoor
open Go.RowKit




end Go.Proofs.YtbjlfhabnjpdmaaGreatDoor
namespace Go.Proofs.YtbjlfhabnjpdmaaGreatDoor
open Go.RowKit




end Go.Proofs.YtbjlfhabnjpdmaaGreatDoor
namespace Go.Proofs.YtbjlfhabnjpdmaaGreatDoor
open Go.RowKit



end Go.Proofs.YtbjlfhabnjpdmaaGreatDoor
namespace Go.Proofs.YtbjlfhabnjpdmaaGreatDoor
open Go.RowKit



end Go.Proofs.YtbjlfhabnjpdmaaGreatDoor
namespace Go.Proofs.YtbjlfhabnjpdmaaGreatDoor
open Go.RowKit


end Go.Proofs.YtbjlfhabnjpdmaaGreatDoor
namespace Go.Proofs.YtbjlfhabnjpdmaaGreatDoor
open Go.RowKit



end Go.Proofs.YtbjlfhabnjpdmaaGreatDoor
