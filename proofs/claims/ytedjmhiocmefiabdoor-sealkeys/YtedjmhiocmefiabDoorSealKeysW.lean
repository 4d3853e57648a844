/-
  SealKeys answers true of every seed, and turns nothing that was there.
-/
import Derived.Test.YtedjmhiocmefiabDoorSealAlive
import Derived.Test.YtedjmhiocmefiabDoorRef2Power
namespace Go.Proofs.YtedjmhiocmefiabDoor
open Go.RowKit

theorem refPower_order (k : Nat) (w : World) (hk : k < 18446744073709551616) :
    Calls Tryd.prog 9 #[.int .u64 (k : Int), .int .u64 (576460752303424853 : Int), .int .u64 (1152921504606849707 : Int)] w fun e w' => e = .returned (.int .u64 (powQ k : Int)) ∧ w' = w := by
  have h := refPower_any k qQ pP (powQ k) w (by decide) (by decide) hk (by decide) rfl
  rw [show ((qQ : Nat) : Int) = (576460752303424853 : Int) from by decide, show ((pP : Nat) : Int) = (1152921504606849707 : Int) from by decide] at h
  exact h

set_option maxRecDepth 100000 in
set_option maxHeartbeats 1000000 in
theorem sealKeys_any (l : List (BitVec 8)) (sv : Value) (N : Nat) (w : World) (hN : N ≤ w.heap.size) (hb : Bytes w N sv l) (hK : tableAt w) (hlen : l.length ≤ 140737488351232) :
    Calls Tryd.prog 4 #[sv] w fun e w' => e = .returned (.bool true) ∧ Below w.heap.size w w' := by
  have HA := hid (alive2_any w hK)
  have HL := hid hb
  have HK := hid hK
  clear hb hK
  go_enter Tryd.func4, Tryd.ntmps4
  go_wp2_with fail
  refine HA.out.mono ?_
  rintro e w1 ⟨rfl, hb1⟩
  have hsz1 := hb1.size
  have HK1 := hid (HK.out.below hb1 HK.out.lt)
  have HL1 := hid (HL.out.below (hb1.mono hN))
  have HB1 := hid hb1
  have HKEY := hid (key_any l sv N w1 (by omega) HL1.out HK1.out hlen)
  clear hb1 HA HL HK
  go_wp2_with fail
  refine HKEY.out.mono ?_
  rintro e w2 ⟨rfl, hb2⟩
  have HB2 := hid (HB1.out.trans (hb2.mono (by omega)))
  have hk1 := key_great l
  have hk2 := keyN_lt l
  have d1 : decide ((1 : Int) < (keyN l : Int)) = true := by simp; omega
  have d1' : decide (1 < keyN l) = true := by simp; omega
  have d2 : decide ((keyN l : Int) < (1152921504606849707 : Int)) = true := by simp; omega
  have d2' : decide (keyN l < 1152921504606849707) = true := by simp; omega
  have HP := hid (fun w => refPower_order (keyN l) w (by omega))
  rw [show powQ (keyN l) = 1 from powQ_four _] at HP
  clear hb2 HKEY HL1 HK1 HB1
  go_wp2_with fail
  refine (HP.out _).mono ?_
  rintro e w3 ⟨rfl, rfl⟩
  go_wp2
  go_ret
  exact ⟨rfl, HB2.out⟩
end Go.Proofs.YtedjmhiocmefiabDoor
