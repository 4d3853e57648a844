/-
  What Sign answers: the seal. It turns nothing that was there.
-/
import Derived.Test.YtfpngilmdgeikaaDoorSealKey
namespace Go.Proofs.YtfpngilmdgeikaaDoor
open Go.RowKit

def onceN (seed m : List (BitVec 8)) : Nat := expN (onceB ++ (be8 (secretN seed) ++ m))
def sealR (seed m : List (BitVec 8)) : Nat := powP 4 (onceN seed m)
def sealE (seed m : List (BitVec 8)) : Nat := askN (sealR seed m) (keyN seed) m
def sealS (seed m : List (BitVec 8)) : Nat := (onceN seed m + mulQ (sealE seed m) (secretN seed)) % qQ
theorem secretN_lt (l : List (BitVec 8)) : secretN l < 576460752303424853 := expN_lt _
theorem onceN_lt (l m : List (BitVec 8)) : onceN l m < 576460752303424853 := expN_lt _
theorem keyN_lt (l : List (BitVec 8)) : keyN l < 1152921504606849707 := powP_lt _ _
theorem sealR_lt (l m : List (BitVec 8)) : sealR l m < 1152921504606849707 := powP_lt _ _
theorem sealE_lt (l m : List (BitVec 8)) : sealE l m < 576460752303424853 := askN_lt _ _ _
theorem sealS_lt (l m : List (BitVec 8)) : sealS l m < 576460752303424853 := Nat.mod_lt _ (by decide)
theorem below_drewN (w : World) (n N : Nat) : Below N w (w.drewN n) := ⟨rfl, rfl, rfl, Nat.le_refl _, fun _ _ => rfl⟩

set_option maxRecDepth 100000 in
set_option maxHeartbeats 1000000 in
theorem sign_any (l m : List (BitVec 8)) (sv mv : Value) (N : Nat) (w : World) (hN : N ≤ w.heap.size) (hb : Bytes w N sv l) (hm : Bytes w N mv m) (hK : tableAt w) (hlen : l.length ≤ 140737488351232) (hlenm : m.length ≤ 140737488351232) :
    Calls Tryd.prog 96 #[sv, mv] w fun e w' => e = .returned (.agg #[.int .u64 (sealR l m : Int), .int .u64 (sealS l m : Int)]) ∧ Below w.heap.size w w' := by
  obtain ⟨oa, cap, rfl, _⟩ := hm.shape
  have hcv := conv_const
  obtain ⟨w0, hw0⟩ : ∃ w0, w.alloc (.cells #[.int .u64 0, .int .u64 0] 49) = w0 := ⟨_, rfl⟩
  have hsz0 : w0.heap.size = w.heap.size + 1 := by rw [← hw0]; simp
  have hb0 : Below w.heap.size w w0 := by rw [← hw0]; exact (Below.refl _ _).alloc (Nat.le_refl _) _
  have hrow0 : Row w0 w.heap.size 49 [.int .u64 0, .int .u64 0] := by rw [← hw0]; exact Row.new _ _ _
  have HS := hid (secret_any l sv N w0 (by omega) (hb.below (hb0.mono hN)) (hK.below hb0 hK.lt) hlen)
  have HM := hid (hm.below (hb0.mono hN))
  have HK := hid (hK.below hb0 hK.lt)
  have HB0 := hid hb0
  have HR0 := hid hrow0
  clear hb hm hK hb0 hrow0
  go_enter Tryd.func96, Tryd.ntmps96
  go_wp2_with fail
  refine HS.out.mono ?_
  rintro e w1 ⟨rfl, hb1⟩
  clear hw0 HS
  have hsx := secretN_lt l
  obtain ⟨x, hx⟩ : ∃ x, secretN l = x := ⟨_, rfl⟩
  rw [hx]
  rw [hx] at hsx
  have HX := hid hx
  clear hx
  have hsz1 := hb1.size
  have HM1 := hid (HM.out.below (hb1.mono (by omega)))
  have HK1 := hid (HK.out.below hb1 HK.out.lt)
  have HR1 := hid (HR0.out.below hb1 (by omega))
  have HB1 := hid (HB0.out.trans (hb1.mono (by omega)))
  clear hb1 HM HK HR0 HB0
  obtain ⟨w2, hw2⟩ : ∃ w2, w1.alloc (.cells #[Value.int .u8 111, .int .u8 110, .int .u8 99, .int .u8 101] 5 (4, 5)) = w2 := ⟨_, rfl⟩
  have hsz2 : w2.heap.size = w1.heap.size + 1 := by rw [← hw2]; simp
  have hb2 : Below w1.heap.size w1 w2 := by rw [← hw2]; exact (Below.refl _ _).alloc (Nat.le_refl _) _
  have ho : Bytes w2 w2.heap.size (.slice (some ⟨w1.heap.size, 0, none⟩) 4 4) onceB := by rw [hsz2, ← hw2]; exact bytes_new w1 onceB 5 (4, 5) 4 (by decide)
  obtain ⟨w3, hw3⟩ : ∃ w3, w2.alloc (.cells ((be8 x).map V).toArray 5) = w3 := ⟨_, rfl⟩
  have hsz3 : w3.heap.size = w1.heap.size + 2 := by rw [← hw3]; simp; omega
  have hb3 : Below w2.heap.size w2 w3 := by rw [← hw3]; exact (Below.refl _ _).alloc (Nat.le_refl _) _
  have hx8 : Bytes w3 w3.heap.size (.slice (some ⟨w2.heap.size, 0, none⟩) 8 8) (be8 x) := by rw [show w3.heap.size = w2.heap.size + 1 by omega, ← hw3]; exact bytes_new w2 (be8 x) 5 (0, 0) 8 (by simp [be8_length])
  have ho' : Bytes w3 w3.heap.size (.slice (some ⟨w1.heap.size, 0, none⟩) 4 4) onceB := (ho.below hb3).mono (by omega)
  have hb13 : Below w1.heap.size w1 w3 := hb2.trans (hb3.mono (by omega))
  have hs : Bytes w3 w3.heap.size (.slice oa m.length cap) m := (HM1.out.below (hb13.mono (by omega))).mono (by omega)
  have hli := lists3 (t := 23) ho' hx8 hs
  have hb4 : Below w3.heap.size w3 (w3.alloc (.cells #[.slice (some ⟨w1.heap.size, 0, none⟩) 4 4, .slice (some ⟨w2.heap.size, 0, none⟩) 8 8, .slice oa m.length cap] 23)) := (Below.refl _ _).alloc (Nat.le_refl _) _
  have hb14 := hb13.trans (hb4.mono (by omega))
  have hex := exponent_any [onceB, be8 x, m] _ _ _ (by simp) hli (HK1.out.below hb14 HK1.out.lt) (by rw [flat3]; simp [be8_length, onceB]; omega) (by simp)
  rw [flat3, show expN (onceB ++ (be8 x ++ m)) = onceN l m by unfold onceN; rw [HX.out], hsz2, hsz3] at hex
  have HE := hid (eight_any x w2 (by omega))
  rw [hw3, hsz2] at HE
  rw [hsz2] at hb14
  have HEX := hid hex
  have HB14 := hid hb14
  have HB13 := hid hb13
  clear hex hb14 hb13 hb2 hb3 hb4 ho ho' hx8 hs hli hw3
  go_wp2_with fail
  refine HE.out.mono ?_
  rintro e w3' ⟨rfl, rfl⟩
  go_wp2_with fail
  refine HEX.out.mono ?_
  rintro e w5 ⟨rfl, hb5⟩
  have hb15 : Below w1.heap.size w1 w5 := HB14.out.trans (hb5.mono (by simp; omega))
  have hsz5 := hb15.size
  have HM5 := hid (HM1.out.below (hb15.mono (by omega)))
  have HK5 := hid (HK1.out.below hb15 HK1.out.lt)
  have HR5 := hid (HR1.out.below hb15 (by omega))
  have HB5 := hid (HB1.out.trans (hb15.mono (by omega)))
  clear hb5 hb15 HB14 HB13 HEX HE HM1 HK1 HR1 HB1 hcv hw2 hsz3 hsz2
  have hkl := onceN_lt l m
  have HP1 := hid (fun w => power_p 4 (onceN l m) w (by omega) (by omega))
  have HP2 := hid (fun w => power_p 4 x w (by omega) (by omega))
  have HF1 := hid (show powP 4 (onceN l m) = sealR l m from rfl)
  have HF2 := hid (show powP 4 x = keyN l by unfold keyN; rw [HX.out])
  rw [HF1.out] at HP1
  rw [HF2.out] at HP2
  go_wp2_with fail
  refine (HP1.out _).mono ?_
  rintro e w6 ⟨rfl, n6, rfl⟩
  go_wp2_with fail
  refine (HP2.out _).mono ?_
  rintro e w7 ⟨rfl, n7, rfl⟩
  have HC := hid (challenge_any (sealR l m) (keyN l) m (.slice oa m.length cap) N (w5.drewN (n6 + n7)) (by have := sealR_lt l m; omega) (by have := keyN_lt l; omega) (by show N ≤ w5.heap.size; omega) (HM5.out.below (below_drewN _ _ _)) (HK5.out.below (below_drewN _ _ _) HK5.out.lt) hlenm)
  rw [show askN (sealR l m) (keyN l) m = sealE l m from rfl] at HC
  go_wp2_with fail
  refine HC.out.mono ?_
  rintro e w8 ⟨rfl, hb8⟩
  have hb58 : Below w5.heap.size w5 w8 := (below_drewN w5 (n6 + n7) _).trans hb8
  have HR8 := hid (HR5.out.below hb58 (by omega))
  have HB8 := hid (HB5.out.trans (hb58.mono (by omega)))
  have hsz8 := hb58.size
  have HT := hid (fun w => times_q (sealE l m) x w (by have := sealE_lt l m; omega) (by omega))
  have hml := mulQ_lt (sealE l m) x
  obtain ⟨s1, hs1⟩ : ∃ s1, onceN l m + mulQ (sealE l m) x = s1 := ⟨_, rfl⟩
  have g1 : IntKind.u64.wrap ((onceN l m : Int) + (mulQ (sealE l m) x : Int)) = (s1 : Int) := by rw [w64_add _ _ (by omega), hs1]
  have g2 : (s1 : Int) % 576460752303424853 = (sealS l m : Int) := by
    have : sealS l m = s1 % 576460752303424853 := by rw [← hs1, ← HX.out]; rfl
    rw [this]; omega
  clear hb8 hb58 HM5 HK5 HR5 HB5 HP1 HP2 HF1 HF2 HC HX
  go_wp2_with fail
  refine (HT.out _).mono ?_
  rintro e w9 ⟨rfl, n9, rfl⟩
  have c0 : (w8.drewN n9).cell? ⟨w.heap.size, 0, none⟩ = some (.int .u64 0) := HR8.out.cell 0
  have c1 : (w8.drewN n9).cell? ⟨w.heap.size, 1, none⟩ = some (.int .u64 0) := HR8.out.cell 1
  have z0 : (w8.drewN n9).frozen? ⟨w.heap.size, 0, none⟩ = false := HR8.out.frozen 0
  have z1 : (w8.drewN n9).frozen? ⟨w.heap.size, 1, none⟩ = false := HR8.out.frozen 1
  go_wp2
  have r2 := ((HR8.out.drewN n9).set 0 (.int .u64 (sealR l m : Int))).set 1 (.int .u64 (sealS l m : Int))
  have d0 := r2.cell 0
  have d1 := r2.cell 1
  refine bodyPost_ret (v := .agg #[.int .u64 (sealR l m : Int), .int .u64 (sealS l m : Int)]) (by simp [results, Tryd.results96, go_sem, d0, d1]) rfl ⟨rfl, ?_⟩
  exact (((HB8.out.trans (below_drewN w8 n9 _))).setCell (Nat.le_refl _) _).setCell (Nat.le_refl _) _
end Go.Proofs.YtfpngilmdgeikaaDoor
