/-
  A law for append: what a slice reads as, onto what the call owns.
  What the document's answer's small functions give: a turned word; a product of two words of 64 bits; whether a power is more than a shifted number; a root's bits. What above and Root answer: whether a power is more than a shifted number; the bits of a root. What Root answers: the bits of a root, one by one; what Primes answers: the first 64 primes. What Primes answers of 64: the first 64 primes, in new memory. Laws and plain facts for the document's Sum: the two tables of roots, the message's padding, four bytes as a word. The document's Sum, its block 8: a block's schedule of 64 words. The document's Sum, its block 12: the 64 rounds of a block. The document's Sum, its block 14: what came of a block is added to the eight words. The document's Sum, its block 6: block by block. The document's Sum, its block 16: the eight words' bytes. What the document's Sum answers: any bytes' digest, as long as they are no longer than a machine can hold.
  What Sum answers: SHA-256 of what its argument reads as, in new memory; nothing that was there turns.
-/
import Derived.Test.YtclhcjiblfokaaaGreatDoorppShaAll
import Derived.Test.YtclhcjiblfokaaaGreatDoorppMemB
import Derived.Laws.AppendOwnNone
import Derived.WalkLawsBesides
import Derived.WalkSpells
import Derived.Deep.AppendLies
namespace Go.Proofs.YtclhcjiblfokaaaGreatDoor
open Go.RowKit

end Go.Proofs.YtclhcjiblfokaaaGreatDoor
namespace Go.Proofs.YtclhcjiblfokaaaGreatDoor
open Go.RowKit
attribute [local go_sem] u_or


end Go.Proofs.YtclhcjiblfokaaaGreatDoor
namespace Go.Proofs.YtclhcjiblfokaaaGreatDoor
open Go.RowKit



end Go.Proofs.YtclhcjiblfokaaaGreatDoor
namespace Go.Proofs.YtclhcjiblfokaaaGreatDoor
open Go.RowKit


end Go.Proofs.YtclhcjiblfokaaaGreatDoor
namespace Go.Proofs.YtclhcjiblfokaaaGreatDoor
open Go.RowKit


end Go.Proofs.YtclhcjiblfokaaaGreatDoor
namespace Go.Proofs.YtclhcjiblfokaaaGreatDoor
open Go.RowKit


theorem u_mul256 (x : BitVec 32) : IntKind.u32.wrap (u x * (256 : Int)) = u (x * 256) := by
  unfold u
  have e : (x.toNat : Int) * (256 : Int) = ((x.toNat * 256 : Nat) : Int) := by simp
  rw [e, wrap_nat32]
  simp
end Go.Proofs.YtclhcjiblfokaaaGreatDoor
namespace Go.Proofs.YtclhcjiblfokaaaGreatDoor
open Go.RowKit
attribute [local go_sem] u_xor u_and u_or u_add u_add' u_andNot u_mul256 wrap_b8 u_shr3 u_shr10
end Go.Proofs.YtclhcjiblfokaaaGreatDoor
namespace Go.Proofs.YtclhcjiblfokaaaGreatDoor
open Go.RowKit
attribute [local go_sem] u_xor u_and u_or u_add u_add' u_andNot
end Go.Proofs.YtclhcjiblfokaaaGreatDoor
namespace Go.Proofs.YtclhcjiblfokaaaGreatDoor
open Go.RowKit
attribute [local go_sem] u_add u_add'
end Go.Proofs.YtclhcjiblfokaaaGreatDoor
namespace Go.Proofs.YtclhcjiblfokaaaGreatDoor
open Go.RowKit
end Go.Proofs.YtclhcjiblfokaaaGreatDoor
namespace Go.Proofs.YtclhcjiblfokaaaGreatDoor
open Go.RowKit
end Go.Proofs.YtclhcjiblfokaaaGreatDoor
namespace Go.Proofs.YtclhcjiblfokaaaGreatDoor
open Go.RowKit
end Go.Proofs.YtclhcjiblfokaaaGreatDoor
namespace Go.Proofs.YtclhcjiblfokaaaGreatDoor
open Go.RowKit

set_option maxRecDepth 100000 in
set_option maxHeartbeats 1000000 in
theorem sum_any (l : List (BitVec 8)) (sv : Value) (N : Nat) (w : World) (hN : N ≤ w.heap.size) (hb : Bytes w N sv l) (hK : tableAt w) (hlen : l.length < 2305843009213693952) :
    Calls Tryz.prog 27 #[sv] w fun e w' =>
      ∃ v, e = .returned v ∧ w'.ownsRow w.heap.size 5 1 v 32 ((sha l).map V) ∧ Below w.heap.size w w' := by
  have hzv := zero_dig
  have HBY := hid hb
  have HK := hid hK
  have HLEN := hid hlen
  clear hb hK hlen
  go_enter Tryz.func27, Tryz.ntmps27
  go_wp2_with fail
  refine (begin_any _).mono ?_
  rintro e w1 ⟨rfl, hb1⟩
  have HB1 := hid hb1
  clear hb1
  go_wp2_with (refine wpList_store_row rfl 137 _ _ rfl w1.heap.size dig0.toArray rfl rfl 137 digZ.toArray (heap_alloc_new _ _) info_dig0 digZ_dig0 dig0_all ?_)
  obtain ⟨w2, hw2⟩ : ∃ w2, World.setRow (w1.alloc (.cells digZ.toArray 137)) w1.heap.size dig0.toArray = w2 := ⟨_, rfl⟩
  rw [hw2]
  have hrow2 : Row w2 w1.heap.size 137 (digOf [] (List.replicate 64 0)) := by
    rw [← hw2, digOf_nil]; exact setRow_heap _ _ digZ.toArray _ _ _ (heap_alloc_new _ _)
  have hbel2 : Below w1.heap.size w1 w2 := by
    rw [← hw2]; exact ((Below.refl _ _).alloc (Nat.le_refl _) _).trans ⟨rfl, rfl, rfl, by simp, fun k hk => setRow_other _ _ _ _ (by omega)⟩
  have hsz1 := HB1.out.size
  have hbel02 : Below w.heap.size w w2 := HB1.out.trans (hbel2.mono hsz1)
  have htab2 : tableAt w2 := HK.out.below hbel02 HK.out.lt
  have hne : w1.heap.size ≠ 0 := by have := HK.out.lt; omega
  have htake := take_any [] l (List.replicate 64 0) sv N w1.heap.size w2 abs_nil hrow2 (by omega) hne (HBY.out.below (hbel02.mono hN)) htab2 (by have := HLEN.out; simpa using this)
  have HTK := hid htake
  have HB02 := hid hbel02
  have HT2 := hid htab2
  have HS2 := hid hrow2.lt
  clear htake hbel02 htab2 hrow2 hbel2 hw2 HBY
  refine HTK.out.mono ?_
  rintro e w3 ⟨rfl, hg3, R', hA, hrow3⟩
  have hfin := finish_any ([] ++ l) R' w1.heap.size w3 hA hrow3 hne (HT2.out.grown hg3 hne) (by have := HLEN.out; simpa using this)
  rw [List.nil_append] at hfin
  have HFIN := hid hfin
  have hsz3 := hg3.size
  have HG3 := hid hg3
  clear hfin hg3 hrow3 hA HTK
  go_wp2_with fail
  refine HFIN.out.mono ?_
  rintro e w4 ⟨v, rfl, hown, hg4⟩
  go_wp2
  go_ret
  have h2 := HS2.out
  have h02 := HB02.out.size
  exact ⟨_, rfl, ownsRow_mono hown (by omega), HB02.out.trans ((below_grown HG3.out hsz1 (by omega)).trans (below_grown hg4 hsz1 (by omega)))⟩
end Go.Proofs.YtclhcjiblfokaaaGreatDoor
