/-
  What the document's Sign answers: the seal. It turns nothing that was there.
-/
import Derived.Test.YtfpngilmdgeikaaDoorRef2Key
import Derived.Test.YtfpngilmdgeikaaDoorSealGood
namespace Go.Proofs.YtfpngilmdgeikaaDoor
open Go.RowKit

set_option maxRecDepth 100000 in
set_option maxHeartbeats 1000000 in
theorem refSign_any (l m : List (BitVec 8)) (sv mv : Value) (N : Nat) (w : World) (hN : N ≤ w.heap.size) (hb : Bytes w N sv l) (hm : Bytes w N mv m) (hlen : l.length ≤ 140737488351232) (hlenm : m.length ≤ 140737488351232) :
    Calls Tryd.prog 52 #[sv, mv] w fun e w' => e = .returned (.agg #[.int .u64 (sealR l m : Int), .int .u64 (sealS l m : Int)]) ∧ Below w.heap.size w w' := by
  obtain ⟨oa, cap, rfl, _⟩ := hm.shape
  have hcv := conv_const
  obtain ⟨w0, hw0⟩ : ∃ w0, w.alloc (.cells #[.int .u64 0, .int .u64 0] 49) = w0 := ⟨_, rfl⟩
  have hsz0 : w0.heap.size = w.heap.size + 1 := by rw [← hw0]; simp
  have hb0 : Below w.heap.size w w0 := by rw [← hw0]; exact (Below.refl _ _).alloc (Nat.le_refl _) _
  have hrow0 : Row w0 w.heap.size 49 [.int .u64 0, .int .u64 0] := by rw [← hw0]; exact Row.new _ _ _
  have HS := hid (refSecret_any l sv N w0 (by omega) (hb.below (hb0.mono hN)) hlen)
  have HM := hid (hm.below (hb0.mono hN))
  have HL := hid (hb.below (hb0.mono hN))
  have HB0 := hid hb0
  have HR0 := hid hrow0
  clear hb hm hb0 hrow0
  go_enter Tryd.func52, Tryd.ntmps52
  go_wp2_with fail
  refine HS.out.mono ?_
  rintro e w1 ⟨rfl, hb1⟩
  clear hw0 HS
  have hsx := secretN_lt l
  obtain ⟨x, hx⟩ : ∃ x, secretN l = x := ⟨_, rfl⟩
  rw [hx]
  rw [hx] at hsx
  have HX := hid hx
  clear hx
  have hsz1 := hb1.size
  have HM1 := hid (HM.out.below (hb1.mono (by omega)))
  have HL1 := hid (HL.out.below (hb1.mono (by omega)))
  have HR1 := hid (HR0.out.below hb1 (by omega))
  have HB1 := hid (HB0.out.trans (hb1.mono (by omega)))
  clear hb1 HM HL HR0 HB0
  obtain ⟨w2, hw2⟩ : ∃ w2, w1.alloc (.cells #[Value.int .u8 111, .int .u8 110, .int .u8 99, .int .u8 101] 5 (4, 5)) = w2 := ⟨_, rfl⟩
  have hsz2 : w2.heap.size = w1.heap.size + 1 := by rw [← hw2]; simp
  have hb2 : Below w1.heap.size w1 w2 := by rw [← hw2]; exact (Below.refl _ _).alloc (Nat.le_refl _) _
  have ho : Bytes w2 w2.heap.size (.slice (some ⟨w1.heap.size, 0, none⟩) 4 4) onceB := by rw [hsz2, ← hw2]; exact bytes_new w1 onceB 5 (4, 5) 4 (by decide)
  have HO := hid ho
  have HB2 := hid hb2
  have HE := hid (refEight_any x w2 (by omega))
  rw [hsz2] at HE
  clear ho hb2
  go_wp2_with fail
  refine HE.out.mono ?_
  rintro e w3 ⟨rfl, hrow3, hsz3, hb3⟩
  have hx8 : Bytes w3 w3.heap.size (.slice (some ⟨w1.heap.size + 1, 0, none⟩) 8 8) (be8 x) := row_bytes hrow3 8 (Nat.le_refl _) (be8_length x)
  have ho' : Bytes w3 w3.heap.size (.slice (some ⟨w1.heap.size, 0, none⟩) 4 4) onceB := (HO.out.below (hb3.mono (by omega))).mono (by omega)
  have hb13 : Below w1.heap.size w1 w3 := HB2.out.trans (hb3.mono (by omega))
  have hs : Bytes w3 w3.heap.size (.slice oa m.length cap) m := (HM1.out.below (hb13.mono (by omega))).mono (by omega)
  have hli := lists3 (t := 23) ho' hx8 hs
  have hb4 : Below w3.heap.size w3 (w3.alloc (.cells #[.slice (some ⟨w1.heap.size, 0, none⟩) 4 4, .slice (some ⟨w1.heap.size + 1, 0, none⟩) 8 8, .slice oa m.length cap] 23)) := (Below.refl _ _).alloc (Nat.le_refl _) _
  have hjo := join_any [onceB, be8 x, m] _ _ _ (by simp) hli (by rw [flat_len3]; simp only [be8_length, onceB, List.length_cons, List.length_nil]; omega) (by simp)
  rw [flat3, hsz3] at hjo
  have HJ := hid hjo
  have HB14 := hid (hb13.trans (hb4.mono (by omega)))
  clear hjo hli hs hx8 ho' hrow3 hb3 hb13 hb4 HE HO HB2 hw2
  go_wp2_with fail
  refine HJ.out.mono ?_
  rintro e w5 ⟨v, rfl, hown, hb5⟩
  have hb15 : Below w1.heap.size w1 w5 := HB14.out.trans (hb5.mono (by simp; omega))
  have hsz5 := hb15.size
  have HN := hid (refNumber_any (onceB ++ (be8 x ++ m)) v w5.heap.size w5 (Nat.le_refl _) (ownsRow_bytes hown) (by simp only [List.length_append, be8_length, onceB, List.length_cons, List.length_nil]; omega))
  have HM5 := hid (HM1.out.below (hb15.mono (by omega)))
  have HL5 := hid (HL1.out.below (hb15.mono (by omega)))
  have HR5 := hid (HR1.out.below hb15 (by omega))
  have HB5 := hid (HB1.out.trans (hb15.mono (by omega)))
  have hz := shaN_lt (onceB ++ (be8 x ++ m))
  have hex : onceN l m = 1 + shaN (onceB ++ (be8 x ++ m)) % 576460752303424852 := by unfold onceN; rw [HX.out]; rfl
  obtain ⟨z, hz0⟩ : ∃ z, shaN (onceB ++ (be8 x ++ m)) = z := ⟨_, rfl⟩
  rw [hz0] at HN hz hex
  obtain ⟨r, hr⟩ : ∃ r, z % 576460752303424852 = r := ⟨_, rfl⟩
  have e1 : (z : Int) % 576460752303424852 = (r : Int) := by omega
  rw [hr] at hex
  have hrl : r < 576460752303424852 := by omega
  obtain ⟨kk, hkk⟩ : ∃ kk, onceN l m = kk := ⟨_, rfl⟩
  have e2 : IntKind.u64.wrap (1 + (r : Int)) = (kk : Int) := by rw [← hkk, hex]; exact w64_add 1 r (by omega)
  have hkl : kk < 576460752303424853 := by rw [← hkk]; exact onceN_lt l m
  have HKK := hid hkk
  clear hown hb5 hb15 hz0 hr hex hkk HJ HB14 HM1 HL1 HR1 HB1
  go_wp2_with fail
  refine HN.out.mono ?_
  rintro e w6 ⟨rfl, hb6⟩
  have hsz6 := hb6.size
  have HM6 := hid (HM5.out.below (hb6.mono (by omega)))
  have HL6 := hid (HL5.out.below (hb6.mono (by omega)))
  have HR6 := hid (HR5.out.below hb6 (by omega))
  have HB6 := hid (HB5.out.trans (hb6.mono (by omega)))
  have HP1 := hid (fun w => refPower_four kk w (by omega))
  rw [show powP 4 kk = sealR l m by unfold sealR; rw [HKK.out]] at HP1
  have HKEY := hid (refKey_any l sv N w6 (by omega) HL6.out hlen)
  clear hb6 HM5 HL5 HR5 HB5 HN
  go_wp2_with fail
  refine (HP1.out _).mono ?_
  rintro e w7 ⟨rfl, hw7⟩
  obtain rfl := hw7.symm
  go_wp2_with fail
  refine HKEY.out.mono ?_
  rintro e w8 ⟨rfl, hb8⟩
  have hsz8 := hb8.size
  have HR8 := hid (HR6.out.below hb8 (by omega))
  have HB8 := hid (HB6.out.trans (hb8.mono (by omega)))
  have HA := hid (refAsk_any (sealR l m) (keyN l) m (.slice oa m.length cap) N w8 (by have := sealR_lt l m; omega) (by have := keyN_lt l; omega) (by omega) (HM6.out.below (hb8.mono (by omega))) hlenm)
  rw [show askN (sealR l m) (keyN l) m = sealE l m from rfl] at HA
  clear hb8 HM6 HL6 HR6 HB6 HKEY HP1
  go_wp2_with fail
  refine HA.out.mono ?_
  rintro e w9 ⟨rfl, hb9⟩
  have hsz9 := hb9.size
  have HR9 := hid (HR8.out.below hb9 (by omega))
  have HB9 := hid (HB8.out.trans (hb9.mono (by omega)))
  have HT := hid (fun w => refTimes_q (sealE l m) x w (by omega))
  have hml := mulQ_lt (sealE l m) x
  obtain ⟨s1, hs1⟩ : ∃ s1, mulQ (sealE l m) x + kk = s1 := ⟨_, rfl⟩
  have g1 : IntKind.u64.wrap ((mulQ (sealE l m) x : Int) + (kk : Int)) = (s1 : Int) := by rw [w64_add _ _ (by omega), hs1]
  have g2 : (s1 : Int) % 576460752303424853 = (sealS l m : Int) := by
    have : sealS l m = s1 % 576460752303424853 := by rw [← hs1, ← HX.out, ← HKK.out, Nat.add_comm]; rfl
    rw [this]; omega
  have c0 : w9.cell? ⟨w.heap.size, 0, none⟩ = some (.int .u64 0) := HR9.out.cell 0
  have c1 : w9.cell? ⟨w.heap.size, 1, none⟩ = some (.int .u64 0) := HR9.out.cell 1
  have z0 : w9.frozen? ⟨w.heap.size, 0, none⟩ = false := HR9.out.frozen 0
  have z1 : w9.frozen? ⟨w.heap.size, 1, none⟩ = false := HR9.out.frozen 1
  clear hb9 HR8 HB8 HA HX HKK
  go_wp2_with fail
  refine (HT.out _).mono ?_
  rintro e w10 ⟨rfl, hw10⟩
  obtain rfl := hw10.symm
  go_wp2
  have r2 := (HR9.out.set 0 (.int .u64 (sealR l m : Int))).set 1 (.int .u64 (sealS l m : Int))
  have d0 := r2.cell 0
  have d1 := r2.cell 1
  refine bodyPost_ret (v := .agg #[.int .u64 (sealR l m : Int), .int .u64 (sealS l m : Int)]) (by simp [results, Tryd.results52, go_sem, d0, d1]) rfl ⟨rfl, ?_⟩
  exact (HB9.out.setCell (Nat.le_refl _) _).setCell (Nat.le_refl _) _
end Go.Proofs.YtfpngilmdgeikaaDoor
