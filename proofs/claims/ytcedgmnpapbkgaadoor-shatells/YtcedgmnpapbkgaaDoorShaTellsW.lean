/-
  ShaTells answers true of every argument, and turns nothing that was there.
-/
import Derived.Test.YtcedgmnpapbkgaaDoorShaAlive
import Derived.Test.YtcedgmnpapbkgaaDoorRefSumA
namespace Go.Proofs.YtcedgmnpapbkgaaDoor
open Go.RowKit
set_option maxRecDepth 100000 in
set_option maxHeartbeats 1000000 in
theorem tells_any (l : List (BitVec 8)) (sv : Value) (N : Nat) (w : World) (hN : N ≤ w.heap.size) (hb : Bytes w N sv l) (hK : tableAt w) (hlen : l.length ≤ 140737488351232) :
    Calls Tryd.prog 3 #[sv] w fun e w' => e = .returned (.bool true) ∧ Below w.heap.size w w' := by
  have HSUM := hid (sum_any l sv N w hN hb hK (by omega))
  have HBY := hid hb
  have HLEN := hid hlen
  clear hb hK hlen
  go_enter Tryd.func3, Tryd.ntmps3
  go_wp2_with fail
  refine HSUM.out.mono ?_
  rintro e w1 ⟨v, rfl, hown, hb1⟩
  have hsz1 := hb1.size
  obtain ⟨ov, capv, rfl, _, hsv⟩ := ownsRow_shape hown
  obtain ⟨gv, rfl, _, _, _⟩ := hsv (by omega)
  clear hsv
  have HREF := hid (refSum_any l sv N w1 (by omega) (HBY.out.below (hb1.mono hN)) HLEN.out)
  have HO := hid hown
  have HB1 := hid hb1
  clear hown hb1 HSUM
  go_wp2_with fail
  refine HREF.out.mono ?_
  rintro e w2 ⟨v2, rfl, hown2, hb2⟩
  have hsz2 := hb2.size
  have hby2 := ownsRow_bytes hown2
  have hby1 := ownsRow_bytes (HO.out.kept (grown_below (r := none) hb2) (by right; simp [Value.ownBlock]))
  have HSAME := hid (same_any (sha l) _ _ _ _ w2 hby1 hby2 (by rw [sha_length]; omega))
  have HB2 := hid hb2
  clear hown2 hb2 hby2 hby1 HREF HO
  go_wp2_with fail
  refine HSAME.out.mono ?_
  rintro e w3 ⟨rfl, n3, rfl⟩
  go_wp2
  go_ret
  exact ⟨rfl, HB1.out.trans ((HB2.out.mono (by omega)).trans ⟨rfl, rfl, rfl, Nat.le_refl _, fun _ _ => rfl⟩)⟩
end Go.Proofs.YtcedgmnpapbkgaaDoor
