/-
  alive answers true, and turns nothing that was there.
-/
import Derived.Test.YtedjmhiocmefiabDoorSealFacts
namespace Go.Proofs.YtedjmhiocmefiabDoor
open Go.RowKit

/-- one letter in a new block -/
theorem one_new (w : World) (b : BitVec 8) (v : Value) (hv : v = V b) (w1 : World) (hw : w.alloc (.cells #[v] 5 (1, 2)) = w1) :
    w1.heap.size = w.heap.size + 1 ∧ Below w.heap.size w w1 ∧ Bytes w1 w1.heap.size (.slice (some ⟨w.heap.size, 0, none⟩) 1 1) [b] := by
  subst hv
  subst hw
  have h := bytes_new w [b] 5 (1, 2) 1 (by simp)
  refine ⟨by simp, (Below.refl _ _).alloc (Nat.le_refl _) _, ?_⟩
  have e : (w.alloc (.cells #[V b] 5 (1, 2))).heap.size = w.heap.size + 1 := by simp
  rw [e]
  exact h

set_option maxRecDepth 100000 in
set_option maxHeartbeats 1000000 in
theorem alive2_any (w : World) (hK : tableAt w) : Calls Tryd.prog 5 #[] w fun e w' => e = .returned (.bool true) ∧ Below w.heap.size w w' := by
  have hcv := conv_const
  obtain ⟨w1, hw1⟩ : ∃ w1, w.alloc (.cells #[Value.int .u8 97] 5 (1, 2)) = w1 := ⟨_, rfl⟩
  obtain ⟨hsz1, hb1, ha1⟩ := one_new w 97 _ rfl w1 hw1
  have HKEY := hid (key_any [97] _ w1.heap.size w1 (Nat.le_refl _) ha1 (hK.below hb1 hK.lt) (by simp))
  have HK1 := hid (hK.below hb1 hK.lt)
  have HB1 := hid hb1
  clear ha1 hb1 hK
  go_enter Tryd.func5, Tryd.ntmps5
  go_wp2_with fail
  refine HKEY.out.mono ?_
  rintro e w2 ⟨rfl, hb2⟩
  have hsz2 := hb2.size
  have HK2 := hid (HK1.out.below hb2 HK1.out.lt)
  have HB2 := hid (HB1.out.trans (hb2.mono (by omega)))
  clear hb2 HK1 HB1 HKEY hw1
  obtain ⟨w3, hw3⟩ : ∃ w3, w2.alloc (.cells #[Value.int .u8 109] 5 (1, 2)) = w3 := ⟨_, rfl⟩
  obtain ⟨hsz3, hb3, hm3⟩ := one_new w2 109 _ rfl w3 hw3
  obtain ⟨w4, hw4⟩ : ∃ w4, w3.alloc (.cells #[Value.int .u8 97] 5 (1, 2)) = w4 := ⟨_, rfl⟩
  obtain ⟨hsz4, hb4, ha4⟩ := one_new w3 97 _ rfl w4 hw4
  obtain ⟨w5, hw5⟩ : ∃ w5, w4.alloc (.cells #[Value.int .u8 109] 5 (1, 2)) = w5 := ⟨_, rfl⟩
  obtain ⟨hsz5, hb5, hm5⟩ := one_new w4 109 _ rfl w5 hw5
  have hb35 : Below w3.heap.size w3 w5 := hb4.trans (hb5.mono (by omega))
  have hb25 : Below w2.heap.size w2 w5 := hb3.trans (hb35.mono (by omega))
  have hk5 := HK2.out.below hb25 HK2.out.lt
  have HSIGN := hid (sign_any [97] [109] _ _ w5.heap.size w5 (Nat.le_refl _) ((ha4.below hb5).mono (by omega)) hm5 hk5 (by simp) (by simp))
  have HM5 := hid ((hm3.below hb35).mono (show w3.heap.size ≤ w5.heap.size by omega))
  have HK5 := hid hk5
  have HB5 := hid (HB2.out.trans (hb25.mono (by omega)))
  have HZ := hid (show w2.heap.size < w3.heap.size ∧ w3.heap.size < w4.heap.size ∧ w4.heap.size < w5.heap.size by omega)
  clear hm3 ha4 hm5 hb3 hb4 hb5 hb35 hb25 hk5 HK2 HB2 hsz3 hsz4 hsz5
  go_wp2_with fail
  refine HSIGN.out.mono ?_
  rintro e w6 ⟨rfl, hb6⟩
  have HGOOD := hid (good_any (keyN [97]) [109] (sealR [97] [109]) (sealS [97] [109]) _ w5.heap.size w6 (by have := keyN_lt [97]; omega) (by have := sealR_lt [97] [109]; omega) (by have := sealS_lt [97] [109]; omega) hb6.size (HM5.out.below hb6) (HK5.out.below hb6 HK5.out.lt) (by simp))
  have hsz6 := hb6.size
  have HK6 := hid (HK5.out.below hb6 HK5.out.lt)
  have HB6 := hid (HB5.out.trans (hb6.mono (by have := HZ.out; omega)))
  clear hb6 HK5 HB5 HM5 HSIGN
  go_wp2_with fail
  refine HGOOD.out.mono ?_
  rintro e w7 ⟨b, rfl, hb, hb7⟩
  obtain rfl := hb.2 (good_sign [97] [109])
  have hsz7 := hb7.size
  have HK7 := hid (HK6.out.below hb7 HK6.out.lt)
  have HB7 := hid (HB6.out.trans (hb7.mono (by have := HZ.out; omega)))
  clear hb7 HK6 HB6 hb HGOOD
  obtain ⟨w8, hw8⟩ : ∃ w8, w7.alloc (.cells #[Value.int .u8 109] 5 (1, 2)) = w8 := ⟨_, rfl⟩
  obtain ⟨hsz8, hb8, hm8⟩ := one_new w7 109 _ rfl w8 hw8
  have HGOOD := hid (good_any (keyN [97]) [109] 1 1 _ w8.heap.size w8 (by have := keyN_lt [97]; omega) (by omega) (by omega) (Nat.le_refl _) hm8 (HK7.out.below hb8 HK7.out.lt) (by simp))
  have HB8 := hid (HB7.out.trans (hb8.mono (by have := HZ.out; omega)))
  have HZ8 := hid (show w.heap.size ≤ w8.heap.size by have := HZ.out; omega)
  clear hb8 hm8 HK7 HB7 hsz8
  go_wp2_with fail
  refine HGOOD.out.mono ?_
  rintro e w9 ⟨b, rfl, hb, hb9⟩
  have hbf : b = false := by
    cases b with
    | false => rfl
    | true => exact absurd (hb.1 rfl) not_good_a
  subst hbf
  go_wp2
  go_ret
  exact ⟨rfl, HB8.out.trans (hb9.mono HZ8.out)⟩
end Go.Proofs.YtedjmhiocmefiabDoor
