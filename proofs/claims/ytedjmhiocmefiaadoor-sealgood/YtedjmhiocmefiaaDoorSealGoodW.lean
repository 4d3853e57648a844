/-
  SealGood answers true of every seed and every message, and turns nothing that was there.
-/
import Derived.Test.YtedjmhiocmefiaaDoorSealAlive
namespace Go.Proofs.YtedjmhiocmefiaaDoor
open Go.RowKit

set_option maxRecDepth 100000 in
set_option maxHeartbeats 1000000 in
theorem sealGood_any (l m : List (BitVec 8)) (sv mv : Value) (N : Nat) (w : World) (hN : N ≤ w.heap.size) (hb : Bytes w N sv l) (hm : Bytes w N mv m) (hK : tableAt w) (hlen : l.length ≤ 140737488351232) (hlenm : m.length ≤ 140737488351232) :
    Calls Tryd.prog 8 #[sv, mv] w fun e w' => e = .returned (.bool true) ∧ Below w.heap.size w w' := by
  have HA := hid (alive2_any w hK)
  have HL := hid hb
  have HM := hid hm
  have HK := hid hK
  clear hb hm hK
  go_enter Tryd.func8, Tryd.ntmps8
  go_wp2_with fail
  refine HA.out.mono ?_
  rintro e w1 ⟨rfl, hb1⟩
  have hsz1 := hb1.size
  have HK1 := hid (HK.out.below hb1 HK.out.lt)
  have HL1 := hid (HL.out.below (hb1.mono hN))
  have HM1 := hid (HM.out.below (hb1.mono hN))
  have HB1 := hid hb1
  have HKEY := hid (key_any l sv N w1 (by omega) HL1.out HK1.out hlen)
  clear hb1 HA HL HM HK
  go_wp2_with fail
  refine HKEY.out.mono ?_
  rintro e w2 ⟨rfl, hb2⟩
  have hsz2 := hb2.size
  have HK2 := hid (HK1.out.below hb2 HK1.out.lt)
  have HL2 := hid (HL1.out.below (hb2.mono (by omega)))
  have HM2 := hid (HM1.out.below (hb2.mono (by omega)))
  have HB2 := hid (HB1.out.trans (hb2.mono (by omega)))
  have HSIGN := hid (sign_any l m sv mv N w2 (by omega) HL2.out HM2.out HK2.out hlen hlenm)
  clear hb2 HKEY HL1 HM1 HK1 HB1
  go_wp2_with fail
  refine HSIGN.out.mono ?_
  rintro e w3 ⟨rfl, hb3⟩
  have hsz3 := hb3.size
  have HGOOD := hid (good_any (keyN l) m (sealR l m) (sealS l m) mv N w3 (by have := keyN_lt l; omega) (by have := sealR_lt l m; omega) (by have := sealS_lt l m; omega) (by omega) (HM2.out.below (hb3.mono (by omega))) (HK2.out.below hb3 HK2.out.lt) hlenm)
  have HB3 := hid (HB2.out.trans (hb3.mono (by omega)))
  clear hb3 HSIGN HL2 HM2 HK2 HB2
  go_wp2_with fail
  refine HGOOD.out.mono ?_
  rintro e w4 ⟨b, rfl, hbt, hb4⟩
  obtain rfl := hbt.2 (good_sign l m)
  go_wp2
  go_ret
  exact ⟨rfl, HB3.out.trans (hb4.mono (by omega))⟩
end Go.Proofs.YtedjmhiocmefiaaDoor
