/-
  A law for append: what a slice reads as, onto what the call owns.
  What the document's answer's small functions give: a turned word; a product of two words of 64 bits; whether a power is more than a shifted number; a root's bits. What above and Root answer: whether a power is more than a shifted number; the bits of a root. What Root answers: the bits of a root, one by one; what Primes answers: the first 64 primes. What Primes answers of 64: the first 64 primes, in new memory. Laws and plain facts for the document's Sum: the two tables of roots, the message's padding, four bytes as a word. The document's Sum, its block 8: a block's schedule of 64 words. The document's Sum, its block 12: the 64 rounds of a block. The document's Sum, its block 14: what came of a block is added to the eight words. The document's Sum, its block 6: block by block. The document's Sum, its block 16: the eight words' bytes. What the document's Sum answers: any bytes' digest, as long as they are no longer than a machine can hold.
  What Sum answers: SHA-256 of what its argument reads as, in new memory; nothing that was there turns.
-/
import Derived.Test.YtbjlfhabnjpdmaaGreatDoorlaShaAll
import Derived.Test.YtbjlfhabnjpdmaaGreatDoorlaMemB
import Derived.Laws.AppendOwnNone
import Derived.WalkLawsBesides
import Derived.WalkSpells
import Derived.Deep.AppendLies
namespace Go.Proofs.YtbjlfhabnjpdmaaGreatDoor
open Go.RowKit

end Go.Proofs.YtbjlfhabnjpdmaaGreatDoor
namespace Go.Proofs.YtbjlfhabnjpdmaaGreatDoor
open Go.RowKit
attribute [local go_sem] u_or


end Go.Proofs.YtbjlfhabnjpdmaaGreatDoor
namespace Go.Proofs.YtbjlfhabnjpdmaaGreatDoor
open Go.RowKit



end Go.Proofs.YtbjlfhabnjpdmaaGreatDoor
namespace Go.Proofs.YtbjlfhabnjpdmaaGreatDoor
open Go.RowKit


end Go.Proofs.YtbjlfhabnjpdmaaGreatDoor
namespace Go.Proofs.YtbjlfhabnjpdmaaGreatDoor
open Go.RowKit


end Go.Proofs.YtbjlfhabnjpdmaaGreatDoor
namespace Go.Proofs.YtbjlfhabnjpdmaaGreatDoor
open Go.RowKit


theorem u_mul256 (x : BitVec 32) : IntKind.u32.wrap (u x * (256 : Int)) = u (x * 256) := by
  unfold u
  have e : (x.toNat : Int) * (256 : Int) = ((x.toNat * 256 : Nat) : Int) := by simp
  rw [e, wrap_nat32]
  simp
end Go.Proofs.YtbjlfhabnjpdmaaGreatDoor
namespace Go.Proofs.YtbjlfhabnjpdmaaGreatDoor
open Go.RowKit
attribute [local go_sem] u_xor u_and u_or u_add u_add' u_andNot u_mul256 wrap_b8 u_shr3 u_shr10
end Go.Proofs.YtbjlfhabnjpdmaaGreatDoor
namespace Go.Proofs.YtbjlfhabnjpdmaaGreatDoor
open Go.RowKit
attribute [local go_sem] u_xor u_and u_or u_add u_add' u_andNot
end Go.Proofs.YtbjlfhabnjpdmaaGreatDoor
namespace Go.Proofs.YtbjlfhabnjpdmaaGreatDoor
open Go.RowKit
attribute [local go_sem] u_add u_add'
end Go.Proofs.YtbjlfhabnjpdmaaGreatDoor
namespace Go.Proofs.YtbjlfhabnjpdmaaGreatDoor
open Go.RowKit
end Go.Proofs.YtbjlfhabnjpdmaaGreatDoor
namespace Go.Proofs.YtbjlfhabnjpdmaaGreatDoor
open Go.RowKit
end Go.Proofs.YtbjlfhabnjpdmaaGreatDoor
namespace Go.Proofs.YtbjlfhabnjpdmaaGreatDoor
open Go.RowKit
end Go.Proofs.YtbjlfhabnjpdmaaGreatDoor
namespace Go.Proofs.YtbjlfhabnjpdmaaGreatDoor
open Go.RowKit

end Go.Proofs.YtbjlfhabnjpdmaaGreatDoor
