/-
  What the digest's small functions answer: turned words, the two choices, the four sums of turns. They turn no memory.
  What spread answers: the schedule's 64 words, in new memory.
  What mix does: one block worked into the digest's eight words; nothing else that was there turns.
  The digest in the making, as one row of 74 cells: eight words, 64 bytes, two counts. Plain facts on lists.
  What putSize does: how many bits there were, in the rest's last eight bytes.
  What bytes answers: the eight words' 32 bytes, the high ones first, in new memory.
  What begin answers: a digest in the making that has taken nothing.
  Bytes behind a slice value; what copy and clear do to the rest of a digest in the making.
  What a digest in the making stands for: the bytes that it has taken. Plain facts on lists.
  What take does: the bytes that a slice reads as, behind those that were taken ahead.
  What finish answers: the digest of all that was taken, in new memory.
  What Sum and Parts begin with: no bytes at all, abstractly; the table of words stays.
  What a call owns reads as bytes; what reads as bytes is a source of cells; bytes in a new block.
-/
import Derived.Test.YtbjlfhabnjpdmaaGreatDoorProg
import Derived.Test.YtbjlfhabnjpdmaaGreatDoorlaMemB
import Derived.WalkKit
import Derived.WalkLawsBesides
import Derived.WalkSpells
import Derived.BigRegion
import Derived.BigQuiet
import Derived.StillTailTactics
namespace Go.Proofs.YtbjlfhabnjpdmaaGreatDoor
open Go.RowKit
attribute [local go_sem] u_xor u_and u_or u_not u_add u_add' u_andNot
end Go.Proofs.YtbjlfhabnjpdmaaGreatDoor
namespace Go.Proofs.YtbjlfhabnjpdmaaGreatDoor
open Go.RowKit
attribute [local go_sem] u_xor u_and u_or u_not u_add u_add' u_andNot u_shl24 u_shl16 u_shl8 wrap_b8
end Go.Proofs.YtbjlfhabnjpdmaaGreatDoor
namespace Go.Proofs.YtbjlfhabnjpdmaaGreatDoor
open Go.RowKit
attribute [local go_sem] u_xor u_and u_or u_not u_add u_add' u_andNot


end Go.Proofs.YtbjlfhabnjpdmaaGreatDoor
namespace Go.Proofs.YtbjlfhabnjpdmaaGreatDoor
open Go.RowKit

def dig (s : Oct) (R : List (BitVec 8)) (h z : Nat) : List Value := s.list.map U ++ (R.map V ++ [.int .i64 (h : Int), .int .u64 (z : Int)])

end Go.Proofs.YtbjlfhabnjpdmaaGreatDoor
namespace Go.Proofs.YtbjlfhabnjpdmaaGreatDoor
open Go.RowKit
end Go.Proofs.YtbjlfhabnjpdmaaGreatDoor
namespace Go.Proofs.YtbjlfhabnjpdmaaGreatDoor
open Go.RowKit
theorem u_byte24 (x : BitVec 32) : IntKind.u8.wrap (u x / (16777216 : Int)) = b8 ((x >>> 24).setWidth 8) := by
  have h : u x / (16777216 : Int) = u (x >>> 24) := u_shr x 24
  rw [h, IntKind.wrap_u8']; unfold u b8; simp
theorem u_byte16 (x : BitVec 32) : IntKind.u8.wrap (u x / (65536 : Int)) = b8 ((x >>> 16).setWidth 8) := by
  have h : u x / (65536 : Int) = u (x >>> 16) := u_shr x 16
  rw [h, IntKind.wrap_u8']; unfold u b8; simp
theorem u_byte8 (x : BitVec 32) : IntKind.u8.wrap (u x / (256 : Int)) = b8 ((x >>> 8).setWidth 8) := by
  have h : u x / (256 : Int) = u (x >>> 8) := u_shr x 8
  rw [h, IntKind.wrap_u8']; unfold u b8; simp
theorem u_byte0 (x : BitVec 32) : IntKind.u8.wrap (u x) = b8 (x.setWidth 8) := by
  rw [IntKind.wrap_u8']; unfold u b8; simp
attribute [local go_sem] u_byte24 u_byte16 u_byte8 u_byte0
end Go.Proofs.YtbjlfhabnjpdmaaGreatDoor
namespace Go.Proofs.YtbjlfhabnjpdmaaGreatDoor
open Go.RowKit
end Go.Proofs.YtbjlfhabnjpdmaaGreatDoor
namespace Go.Proofs.YtbjlfhabnjpdmaaGreatDoor
open Go.RowKit




end Go.Proofs.YtbjlfhabnjpdmaaGreatDoor
namespace Go.Proofs.YtbjlfhabnjpdmaaGreatDoor
open Go.RowKit




end Go.Proofs.YtbjlfhabnjpdmaaGreatDoor
namespace Go.Proofs.YtbjlfhabnjpdmaaGreatDoor
open Go.RowKit

/-- 's.rest' as a slice, from place i on, is no copy of anything: it lies in the digest's own row -/
def tableAt (w : World) : Prop := ∀ t, t < 64 → w.cell? ⟨1, t, none⟩ = Option.some (.int .u32 (u (kTab.getD t 0)))
theorem tableAt.grown {w w' : World} {B : Nat} (h : tableAt w) (hg : w.grownBy w' (Option.some B)) (hB : B ≠ 1) : tableAt w' := by
  intro t ht
  have h0 := h t ht
  have : (1 : Nat) < w.heap.size := block_lt_of_cell h0
  rw [← h0]
  exact World.cell?_of_block (hg.block 1 this (by simp; omega))

end Go.Proofs.YtbjlfhabnjpdmaaGreatDoor
namespace Go.Proofs.YtbjlfhabnjpdmaaGreatDoor
open Go.RowKit


end Go.Proofs.YtbjlfhabnjpdmaaGreatDoor
namespace Go.Proofs.YtbjlfhabnjpdmaaGreatDoor
open Go.RowKit

theorem tableAt.lt {w : World} (h : tableAt w) : (1 : Nat) < w.heap.size := block_lt_of_cell (h 0 (by omega))
theorem tableAt.below {w w' : World} {N : Nat} (h : tableAt w) (hg : Below N w w') (hN : (1 : Nat) < N) : tableAt w' := fun t ht => (hg.cell hN).trans (h t ht)

end Go.Proofs.YtbjlfhabnjpdmaaGreatDoor
namespace Go.Proofs.YtbjlfhabnjpdmaaGreatDoor
open Go.RowKit

end Go.Proofs.YtbjlfhabnjpdmaaGreatDoor
