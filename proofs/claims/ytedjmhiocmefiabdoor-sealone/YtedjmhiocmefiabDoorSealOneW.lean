/-
  SealOne answers true of every seed, every message and every number, and turns nothing that was there.
-/
import Derived.Test.YtedjmhiocmefiabDoorSealAlive
namespace Go.Proofs.YtedjmhiocmefiabDoor
open Go.RowKit

set_option maxRecDepth 100000 in
set_option maxHeartbeats 1000000 in
theorem sealOne_any (l m : List (BitVec 8)) (s : Nat) (sv mv : Value) (N : Nat) (w : World) (hs : s < 18446744073709551616) (hN : N ≤ w.heap.size) (hb : Bytes w N sv l) (hm : Bytes w N mv m) (hK : tableAt w) (hlen : l.length ≤ 140737488351232) (hlenm : m.length ≤ 140737488351232) :
    Calls Tryd.prog 3 #[sv, mv, .int .u64 (s : Int)] w fun e w' => e = .returned (.bool true) ∧ Below w.heap.size w w' := by
  have HA := hid (alive2_any w hK)
  have HL := hid hb
  have HM := hid hm
  have HK := hid hK
  clear hb hm hK
  go_enter Tryd.func3, Tryd.ntmps3
  go_wp2_with fail
  refine HA.out.mono ?_
  rintro e w1 ⟨rfl, hb1⟩
  have hsz1 := hb1.size
  have HK1 := hid (HK.out.below hb1 HK.out.lt)
  have HL1 := hid (HL.out.below (hb1.mono hN))
  have HM1 := hid (HM.out.below (hb1.mono hN))
  have HB1 := hid hb1
  have HKEY := hid (key_any l sv N w1 (by omega) HL1.out HK1.out hlen)
  clear hb1 HA HL HM HK
  go_wp2_with fail
  refine HKEY.out.mono ?_
  rintro e w2 ⟨rfl, hb2⟩
  have hsz2 := hb2.size
  have HK2 := hid (HK1.out.below hb2 HK1.out.lt)
  have HL2 := hid (HL1.out.below (hb2.mono (by omega)))
  have HM2 := hid (HM1.out.below (hb2.mono (by omega)))
  have HB2 := hid (HB1.out.trans (hb2.mono (by omega)))
  have HSIGN := hid (sign_any l m sv mv N w2 (by omega) HL2.out HM2.out HK2.out hlen hlenm)
  clear hb2 HKEY HL1 HM1 HK1 HB1
  go_wp2_with fail
  refine HSIGN.out.mono ?_
  rintro e w3 ⟨rfl, hb3⟩
  have hsz3 := hb3.size
  obtain ⟨w4, hw4⟩ : ∃ w4, w3.alloc (.cells #[.int .u64 (sealR l m : Int), .int .u64 (sealS l m : Int)] 27) = w4 := ⟨_, rfl⟩
  have hsz4 : w4.heap.size = w3.heap.size + 1 := by rw [← hw4]; simp
  have hb4 : Below w3.heap.size w3 w4 := by rw [← hw4]; exact (Below.refl _ _).alloc (Nat.le_refl _) _
  have hrow4 : Row w4 w3.heap.size 27 [.int .u64 (sealR l m : Int), .int .u64 (sealS l m : Int)] := by rw [← hw4]; exact Row.new _ _ _
  have hb24 : Below w2.heap.size w2 w4 := hb3.trans (hb4.mono (by omega))
  have hm4 := HM2.out.below (hb24.mono (by omega))
  have hk4 := HK2.out.below hb24 HK2.out.lt
  have HGOOD := hid (good_any (keyN l) m (sealR l m) (sealS l m) mv N w4 (by have := keyN_lt l; omega) (by have := sealR_lt l m; omega) (by have := sealS_lt l m; omega) (by omega) hm4 hk4 hlenm)
  have HB4 := hid (HB2.out.trans (hb24.mono (by omega)))
  have HM4 := hid hm4
  have HK4 := hid hk4
  have HR4 := hid hrow4
  have k0 : w4.cell? ⟨w3.heap.size, 0, none⟩ = some (.int .u64 (sealR l m : Int)) := hrow4.cell 0
  have k1 : w4.cell? ⟨w3.heap.size, 1, none⟩ = some (.int .u64 (sealS l m : Int)) := hrow4.cell 1
  clear hb3 hb4 hrow4 hb24 hm4 hk4 HSIGN HL2 HM2 HK2 HB2
  go_wp2_with fail
  refine HGOOD.out.mono ?_
  rintro e w5 ⟨b, rfl, hbt, hb5⟩
  obtain rfl := hbt.2 (good_sign l m)
  have hsz5 := hb5.size
  have hrow5 := HR4.out.below hb5 (by omega)
  have c0 : w5.cell? ⟨w3.heap.size, 0, none⟩ = some (.int .u64 (sealR l m : Int)) := hrow5.cell 0
  have c1 : w5.cell? ⟨w3.heap.size, 1, none⟩ = some (.int .u64 (sealS l m : Int)) := hrow5.cell 1
  have HB5 := hid (HB4.out.trans (hb5.mono (by omega)))
  by_cases hss : s = sealS l m
  · have d1 : ((s : Int) == (sealS l m : Int)) = true := by rw [beq_iff_eq, hss]
    clear hss hbt hb5 hrow5 HGOOD HB4 HM4 HK4 HR4 hw4
    go_wp2
    go_ret
    exact ⟨rfl, HB5.out⟩
  · have d1 : ((s : Int) == (sealS l m : Int)) = false := by rw [beq_eq_false_iff_ne]; omega
    have HG2 := hid (good_any (keyN l) m (sealR l m) s mv N w5 (by have := keyN_lt l; omega) (by have := sealR_lt l m; omega) hs (by omega) (HM4.out.below (hb5.mono (by omega))) (HK4.out.below hb5 HK4.out.lt) hlenm)
    have HSS := hid hss
    clear hss hbt hb5 hrow5 HGOOD HB4 HM4 HK4 HR4 hw4
    go_wp2_with fail
    refine HG2.out.mono ?_
    rintro e w6 ⟨b, rfl, hbt, hb6⟩
    have hbf : b = false := by
      cases b with
      | false => rfl
      | true => exact absurd (good_one l m s (hbt.1 rfl)) HSS.out
    subst hbf
    go_wp2
    go_ret
    exact ⟨rfl, HB5.out.trans (hb6.mono (by omega))⟩
end Go.Proofs.YtedjmhiocmefiabDoor
