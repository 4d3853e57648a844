/-
  What the statements of chapter 12 ask of purses ahead of all: that they are right; that what is minted and moved is there; two lists that read as one.
-/
import Derived.Test.YtnoaohlajllngaatuBkMint
import Derived.Test.YtnoaohlajllngaatuSt8RKey
import Derived.Test.YtnoaohlajllngaatuStOne
import Derived.Test.YtnoaohlajllngaatuStCmp
import Derived.Test.YtnoaohlajllngaatuClMem
import Derived.Test.YtnoaohlajllngaatuHdMems
import Derived.Test.YtnoaohlajllngaatuSameB
import Derived.Test.YtnoaohlajllngaatuRef1All
import Derived.Test.YtnoaohlajllngaatuStMem
import Derived.Test.YtnoaohlajllngaatuRegions
import Derived.Laws.StructEq
import Derived.BigQuiet
import Derived.Deep.RegionHeld3
import Derived.Deep.RegionWith
import Derived.Laws.RangeString
namespace Go.Proofs.Ytnoaohlajllngaa
open Go.RowKit

theorem mintL_eq {l : List Pu} {o d : ByteArray} {n : Nat} (h : mintE l o d n = 0) (hn : n ≠ 0) : mintL l o d n = putU l o d (amtU l o d + n) := by
  unfold mintL
  rw [if_neg (by simp [h]), if_neg hn]
def bAnn : ByteArray := ⟨#[97, 110, 110]⟩
def bBob : ByteArray := ⟨#[98, 111, 98]⟩
def bGold : ByteArray := ⟨#[103, 111, 108, 100]⟩
theorem amt_nil (o d : ByteArray) : amtU [] o d = 0 := rfl
set_option maxRecDepth 100000 in
set_option maxHeartbeats 4000000 in
theorem alive_facts : mintE [] bAnn bGold 5 = 0 ∧ (mintL [] bAnn bGold 5).length ≤ 60 ∧ RightU (mintL [] bAnn bGold 5) ∧ moveE (mintL [] bAnn bGold 5) bAnn bBob bGold 2 = 0 ∧ (moveL (mintL [] bAnn bGold 5) bAnn bBob bGold 2).length = 2 ∧ RightU (moveL (mintL [] bAnn bGold 5) bAnn bBob bGold 2) ∧ amtU (moveL (mintL [] bAnn bGold 5) bAnn bBob bGold 2) bBob bGold = 2 ∧ amtU (moveL (mintL [] bAnn bGold 5) bAnn bBob bGold 2) bAnn bGold = 3 := by
  have w1 : (wordB bAnn && wordB bGold) = true := by decide
  have w2 : (wordB bBob && wordB bGold) = true := by decide
  have e0 : mintE [] bAnn bGold 5 = 0 := by
    unfold mintE
    rw [if_neg (by rw [w1]; simp), if_neg (by decide), if_neg (by simp [supU]), if_neg (by simp)]
  obtain ⟨M1, -⟩ := mint_ok RightU.nil (by simp) (by decide) e0
  have a1 := M1.amt bAnn bGold
  have a2 := M1.amt bBob bGold
  have s1 := M1.sup bGold
  rw [if_pos ⟨rfl, rfl⟩, amt_nil] at a1
  rw [if_neg (by decide), amt_nil] at a2
  rw [if_pos rfl] at s1
  have l1 : (mintL [] bAnn bGold 5).length = 1 := by
    have := len_put (l := []) List.Pairwise.nil (fun _ h => (by cases h)) bAnn bGold 5
    rw [mintL_eq e0 (by decide), amt_nil]
    simpa [amtU] using this
  have b0 : burnE (mintL [] bAnn bGold 5) bAnn bGold 2 = 0 := by
    unfold burnE
    rw [if_neg (by rw [w1]; simp), if_neg (by omega)]
  have B := burn_ok M1.right b0
  have l2 : (burnL (mintL [] bAnn bGold 5) bAnn bGold 2).length = 1 := by
    have := len_put M1.right.sort (fun p hp => (M1.right.ok p hp).2.2.1) bAnn bGold (amtU (mintL [] bAnn bGold 5) bAnn bGold - 2)
    unfold burnL
    rw [if_neg (by simp [b0])]
    rw [if_neg (by omega), if_neg (by omega)] at this
    omega
  have c2 := B.amt bBob bGold
  have c1 := B.amt bAnn bGold
  have s2 := B.sup bGold
  rw [if_neg (by decide)] at c2
  rw [if_pos ⟨rfl, rfl⟩] at c1
  rw [if_pos rfl] at s2
  have hs0 : supU ([] : List Pu) bGold = 0 := rfl
  have m0 : mintE (burnL (mintL [] bAnn bGold 5) bAnn bGold 2) bBob bGold 2 = 0 := by
    unfold mintE
    rw [if_neg (by rw [w2]; simp), if_neg (by decide), if_neg (by omega), if_neg (by rw [l2]; simp)]
  have v0 : moveE (mintL [] bAnn bGold 5) bAnn bBob bGold 2 = 0 := by
    unfold moveE
    rw [if_neg (by simp [b0]), m0]
  have V := move_ok M1.right (by omega) (by decide) v0
  have l3 : (moveL (mintL [] bAnn bGold 5) bAnn bBob bGold 2).length = 2 := by
    have := len_put B.right.sort (fun p hp => (B.right.ok p hp).2.2.1) bBob bGold (amtU (burnL (mintL [] bAnn bGold 5) bAnn bGold 2) bBob bGold + 2)
    unfold moveL
    rw [if_neg (by simp [b0]), mintL_eq m0 (by decide)]
    rw [if_pos (by omega), if_neg (by omega)] at this
    omega
  have d1 := V.amt bBob bGold
  have d2 := V.amt bAnn bGold
  rw [if_neg (by decide), if_pos ⟨rfl, rfl⟩] at d1
  rw [if_pos ⟨rfl, rfl⟩, if_neg (by decide)] at d2
  exact ⟨e0, by omega, M1.right, v0, l3, V.right, by omega, by omega⟩
set_option maxRecDepth 100000 in
set_option maxHeartbeats 4000000 in
theorem alive12 (w : World) : Calls Try.prog 7 #[] w fun e w' => e = .returned (.bool true) ∧ Below w.heap.size w w' := by
  obtain ⟨e0, l0, r0, e1, l1, r1, a1, a2⟩ := alive_facts
  have HM := hid (mint_any [] bAnn bGold 5 (.slice none 0 0) 0 w (Nat.zero_le _) (Many.nil _ _ _ _) RightU.nil (by simp) (by decide))
  have HV := hid (fun v N W hN hv => move_any (mintL [] bAnn bGold 5) bAnn bBob bGold 2 v N W hN hv r0 l0 (by decide))
  generalize mintL [] bAnn bGold 5 = m at *
  have HA1 := hid (fun v N W hN hv => amount_any (moveL m bAnn bBob bGold 2) bBob bGold v N W hN hv r1.sort (by omega))
  have HA2 := hid (fun v N W hN hv => amount_any (moveL m bAnn bBob bGold 2) bAnn bGold v N W hN hv r1.sort (by omega))
  rw [e0] at HM
  rw [e1] at HV
  rw [a1] at HA1
  rw [a2] at HA2
  generalize moveL m bAnn bBob bGold 2 = q at *
  have HL := hid l1
  clear e0 l0 r0 e1 l1 r1 a1 a2
  unfold bAnn bBob bGold at *
  go_enter Try.func7, Try.ntmps7
  go_wp2_with fail
  refine HM.out.mono ?_
  rintro e w1 ⟨hb1, v1, rfl, hv1⟩
  obtain ⟨o1, c1, rfl, -⟩ := hv1.shape
  have HB1 := hid hb1
  have HC1 := hid (HV.out _ _ w1 (Nat.le_refl _) hv1)
  clear hb1 hv1 HM HV
  generalize m.length = n1 at *
  go_wp2_with fail
  refine HC1.out.mono ?_
  rintro e w2 ⟨hb2, v2, rfl, hv2⟩
  have hs2 := hv2.shape
  rw [HL.out] at hs2
  obtain ⟨o2, c2, rfl, -⟩ := hs2
  have HB2 := hid (HB1.out.trans (hb2.mono HB1.out.size))
  have HC2 := hid (HA1.out _ _ w2 (Nat.le_refl _) hv2)
  have HC3 := hid (fun W (hb : Below w2.heap.size w2 W) => HA2.out _ _ W hb.size (hv2.below PuR.stays hb))
  clear hb2 hv2 HC1 HA1 HA2
  go_wp2_with fail
  refine HC2.out.mono ?_
  rintro e w3 ⟨rfl, hb3⟩
  have HB3 := hid (HB2.out.trans (hb3.mono HB2.out.size))
  have HC4 := hid (HC3.out w3 hb3)
  clear hb3 HC2 HC3
  go_wp2_with fail
  refine HC4.out.mono ?_
  rintro e w4 ⟨rfl, hb4⟩
  have HB4 := hid (HB3.out.trans (hb4.mono HB3.out.size))
  clear hb4
  go_wp2
  go_ret
  exact ⟨rfl, HB4.out⟩
end Go.Proofs.Ytnoaohlajllngaa
