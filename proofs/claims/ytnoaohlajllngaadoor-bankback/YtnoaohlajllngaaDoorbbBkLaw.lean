/-
  What the statements of chapter 12 ask of purses ahead of all: that they are right; that what is minted and moved is there; two lists that read as one.
-/
import Derived.Test.YtnoaohlajllngaaDoorbbBkMint
import Derived.Test.YtnoaohlajllngaaDoorbbSt8RWrong
import Derived.Laws.StructEq
namespace Go.Proofs.YtnoaohlajllngaaDoor
open Go.RowKit

def stU (l : List Pu) : St := ⟨⟨#[97]⟩, 0, 0, [], [], [], [], [], [], l⟩
theorem wrong_stU (l : List Pu) (h : l.length ≤ 60) : wrongS (stU l) = pursesN l := by
  have h1 : nameB (stU l).name = true := by show nameB ⟨#[97]⟩ = true; decide
  have h2 : (fromB 0 (stU l).height && fromB 0 (stU l).time) = true := by show (fromB 0 0 && fromB 0 0) = true; decide
  unfold wrongS
  rw [if_neg (by rw [h1]; simp), if_neg (by rw [h2]; simp), if_neg (by simp [manyB, stU]; omega)]
  unfold deepS stU
  simp [orN, firstW, marksN, upGo]
  exact fun h => h.symm
theorem mintL_eq {l : List Pu} {o d : ByteArray} {n : Nat} (h : mintE l o d n = 0) (hn : n ≠ 0) : mintL l o d n = putU l o d (amtU l o d + n) := by
  unfold mintL
  rw [if_neg (by simp [h]), if_neg hn]
set_option maxRecDepth 100000 in
set_option maxHeartbeats 4000000 in
theorem right12 (l : List Pu) (sv : Value) (N : Nat) (w : World) (hN : N ≤ w.heap.size) (hl : Many PuR 3 w N sv l) (hf : ∀ p ∈ l, p.fits) (hlen : l.length < 2305843009213693952) :
    Calls Tryd.prog 9 #[sv] w fun e w' => e = .returned (.bool (rightB l)) ∧ Below w.heap.size w w' := by
  have HR := hid (show rightB l = (decide (l.length ≤ 60) && decide (pursesN l = 0)) from rfl)
  by_cases h60 : l.length ≤ 60
  · have HC := hid (refStWrongC (stU l) (.agg #[.string ⟨#[97]⟩, .int .i64 0, .int .i64 0, .slice none 0 0, .slice none 0 0, .slice none 0 0, .slice none 0 0, .slice none 0 0, .slice none 0 0, sv]) N w ⟨_, _, _, _, _, _, _, rfl, Many.nil _ _ _ _, Many.nil _ _ _ _, Many.nil _ _ _ _, Many.nil _ _ _ _, Many.nil _ _ _ _, Many.nil _ _ _ _, hl⟩ hN (by
      unfold stU; exact ⟨by show (1 : Nat) ≤ _; omega, ⟨Nat.zero_lt_succ _, fun _ h => (by cases h)⟩, Nat.zero_lt_succ _, Nat.zero_lt_succ _, ⟨Nat.zero_lt_succ _, fun _ h => (by cases h)⟩, ⟨Nat.zero_lt_succ _, fun _ h => (by cases h)⟩, ⟨Nat.zero_lt_succ _, fun _ h => (by cases h)⟩, hlen, hf⟩))
    rw [wrong_stU l h60] at HC
    rw [decide_eq_true h60, Bool.true_and] at HR
    obtain ⟨oa, ca, rfl, -⟩ := hl.shape
    clear hl hf hlen
    generalize hm : l.length = m at *
    generalize pursesN l = p at *
    have h6 : (m : Int) ≤ 60 := by omega
    clear hm
    go_enter Tryd.func9, Tryd.ntmps9
    go_wp2_with fail
    refine HC.out.mono ?_
    rintro e w1 ⟨rfl, hb⟩
    have HB := hid hb
    clear hb
    go_wp2
    go_ret
    refine ⟨?_, HB.out⟩
    rw [HR.out]
    simp
    rw [Bool.eq_iff_iff]
    simp
  · rw [decide_eq_false h60, Bool.false_and] at HR
    obtain ⟨oa, ca, rfl, -⟩ := hl.shape
    clear hl hf
    generalize hm : l.length = m at *
    have h6 : ¬ (m : Int) ≤ 60 := by omega
    have h6' : decide ((m : Int) ≤ 60) = false := by simpa using h6
    clear hm
    go_enter Tryd.func9, Tryd.ntmps9
    go_wp2
    go_ret
    exact ⟨by rw [HR.out]; rfl, Below.refl _ _⟩
theorem fPb : Tryd.prog.underlying 71 = some (.struct (Tryd.prog.fieldsOf 71)) := by kernel_rfl
theorem gPb : Tryd.prog.stoodInHeld 71 = false := by kernel_rfl
set_option maxRecDepth 10000 in
theorem neqPb (x : Pu) (w : World) : (binOp .neq 71 (.agg #[.string x.owner, .string x.denom, .int .u64 (x.amount : Int)]) (.agg #[.string x.owner, .string x.denom, .int .u64 (x.amount : Int)])).run Tryd.prog w = .ok (.bool false) w := by
  have u3 := Tryd.underlying9
  have a3 := Tryd.isAgg9
  have z3 := Tryd.sizeOf9
  have u4 := Tryd.underlying23
  have a4 := Tryd.isAgg23
  have z4 := Tryd.sizeOf23
  rw [run_neq_struct, run_equalIn_struct w 9999 _ _ _ fPb gPb]
  simp only [Program.fieldsOf, Tryd.underlying71]
  go_simp
set_option maxRecDepth 100000 in
set_option maxHeartbeats 4000000 in
theorem sameU_eq (l : List Pu) (va vb : Value) (N M : Nat) (w : World) (hN : N ≤ w.heap.size) (hM : M ≤ w.heap.size) (ha : Many PuR 3 w N va l) (hb : Many PuR 3 w M vb l) (hlen : l.length ≤ 1000) :
    Calls Tryd.prog 32 #[va, vb] w fun e w' => e = .returned (.bool true) ∧ Below w.heap.size w w' := by
  obtain ⟨oa, ca, rfl, -⟩ := ha.shape
  obtain ⟨ob, cb, rfl, -⟩ := hb.shape
  have HA := hid ha
  have HB := hid hb
  clear ha hb
  generalize hn : l.length = n at *
  have HN := hid hn
  clear hn
  go_enter Tryd.func32, Tryd.ntmps32
  go_wp2_with fail
  go_loopw [13] (fun s13 wr => ∃ k : Nat, k ≤ n ∧ s13 = .int .i64 k ∧ Hid (Below w.heap.size w wr)) (fun s13 _ => n - (intOf s13).toNat)
  case atStart => exact ⟨0, Nat.zero_le _, rfl, Below.refl _ _⟩
  case round =>
    obtain ⟨k, hk, rfl, HW⟩ := hrel
    by_cases hlt : k < n
    · obtain ⟨p, hp⟩ : ∃ p, l[k]? = some p := ⟨l[k]'(by rw [HN.out]; exact hlt), List.getElem?_eq_getElem _⟩
      have hlt' : (k : Int) < (n : Int) := by omega
      obtain ⟨b1, f1, rfl, -⟩ := HA.out.purse (by omega) hp (Below.refl _ _)
      obtain ⟨b2, f2, rfl, -⟩ := HB.out.purse (by omega) hp (Below.refl _ _)
      have HZ := hid (show ∀ W, Below wr.heap.size wr W → (W.cell? ⟨b1, f1 + k * 3, none⟩ = some (.string p.owner) ∧ W.cell? ⟨b1, f1 + k * 3 + 1, none⟩ = some (.string p.denom) ∧ W.cell? ⟨b1, f1 + k * 3 + 2, none⟩ = some (.int .u64 (p.amount : Int))) ∧ W.cell? ⟨b2, f2 + k * 3, none⟩ = some (.string p.owner) ∧ W.cell? ⟨b2, f2 + k * 3 + 1, none⟩ = some (.string p.denom) ∧ W.cell? ⟨b2, f2 + k * 3 + 2, none⟩ = some (.int .u64 (p.amount : Int)) from fun W hW => by
        have hWW := HW.out.trans (hW.mono HW.out.size)
        obtain ⟨b, f, e, -, h1⟩ := HA.out.purse (by omega) hp (hWW.mono hN)
        obtain ⟨b', f', e', -, h2⟩ := HB.out.purse (by omega) hp (hWW.mono hM)
        obtain ⟨rfl, rfl⟩ : b1 = b ∧ f1 = f := by simpa using e
        obtain ⟨rfl, rfl⟩ : b2 = b' ∧ f2 = f' := by simpa using e'
        exact ⟨h1, h2⟩)
      have hq := neqPb p
      clear hp
      go_upto_region 6 with fail
      apply region_go (by kernel_rfl) (fun W hW => HZ.out W hW) (by kernel_rfl)
      · intro σ; simp [slotAll]; exact rfl
      iterate 9 (apply RK.val rfl; · intro σ W hb hc hd; simp [Has, Fresh, Region.binds] at hd; go_simp; exact rfl)
      intro σ W hb _ hF; simp [AllF] at hF; go_simp; clear hF
      have HB1 := hid (HW.out.trans (hb.mono HW.out.size))
      clear hb hq
      go_wp2_with fail
      exact ⟨⟨k + 1, by omega, by go_num, HB1.out⟩, by simp [intOf]; omega⟩
    · obtain rfl : k = n := by omega
      have hlt' : decide ((k : Int) < (k : Int)) = false := by simp
      go_wp2
      go_ret
      exact ⟨rfl, HW.out⟩
def bAnn : ByteArray := ⟨#[97, 110, 110]⟩
def bBob : ByteArray := ⟨#[98, 111, 98]⟩
def bGold : ByteArray := ⟨#[103, 111, 108, 100]⟩
theorem amt_nil (o d : ByteArray) : amtU [] o d = 0 := rfl
set_option maxRecDepth 100000 in
set_option maxHeartbeats 4000000 in
theorem alive_facts : mintE [] bAnn bGold 5 = 0 ∧ (mintL [] bAnn bGold 5).length ≤ 60 ∧ RightU (mintL [] bAnn bGold 5) ∧ moveE (mintL [] bAnn bGold 5) bAnn bBob bGold 2 = 0 ∧ (moveL (mintL [] bAnn bGold 5) bAnn bBob bGold 2).length = 2 ∧ RightU (moveL (mintL [] bAnn bGold 5) bAnn bBob bGold 2) ∧ amtU (moveL (mintL [] bAnn bGold 5) bAnn bBob bGold 2) bBob bGold = 2 ∧ amtU (moveL (mintL [] bAnn bGold 5) bAnn bBob bGold 2) bAnn bGold = 3 := by
  have w1 : (wordB bAnn && wordB bGold) = true := by decide
  have w2 : (wordB bBob && wordB bGold) = true := by decide
  have e0 : mintE [] bAnn bGold 5 = 0 := by
    unfold mintE
    rw [if_neg (by rw [w1]; simp), if_neg (by decide), if_neg (by simp [supU]), if_neg (by simp)]
  obtain ⟨M1, -⟩ := mint_ok RightU.nil (by simp) (by decide) e0
  have a1 := M1.amt bAnn bGold
  have a2 := M1.amt bBob bGold
  have s1 := M1.sup bGold
  rw [if_pos ⟨rfl, rfl⟩, amt_nil] at a1
  rw [if_neg (by decide), amt_nil] at a2
  rw [if_pos rfl] at s1
  have l1 : (mintL [] bAnn bGold 5).length = 1 := by
    have := len_put (l := []) List.Pairwise.nil (fun _ h => (by cases h)) bAnn bGold 5
    rw [mintL_eq e0 (by decide), amt_nil]
    simpa [amtU] using this
  have b0 : burnE (mintL [] bAnn bGold 5) bAnn bGold 2 = 0 := by
    unfold burnE
    rw [if_neg (by rw [w1]; simp), if_neg (by omega)]
  have B := burn_ok M1.right b0
  have l2 : (burnL (mintL [] bAnn bGold 5) bAnn bGold 2).length = 1 := by
    have := len_put M1.right.sort (fun p hp => (M1.right.ok p hp).2.2.1) bAnn bGold (amtU (mintL [] bAnn bGold 5) bAnn bGold - 2)
    unfold burnL
    rw [if_neg (by simp [b0])]
    rw [if_neg (by omega), if_neg (by omega)] at this
    omega
  have c2 := B.amt bBob bGold
  have c1 := B.amt bAnn bGold
  have s2 := B.sup bGold
  rw [if_neg (by decide)] at c2
  rw [if_pos ⟨rfl, rfl⟩] at c1
  rw [if_pos rfl] at s2
  have hs0 : supU ([] : List Pu) bGold = 0 := rfl
  have m0 : mintE (burnL (mintL [] bAnn bGold 5) bAnn bGold 2) bBob bGold 2 = 0 := by
    unfold mintE
    rw [if_neg (by rw [w2]; simp), if_neg (by decide), if_neg (by omega), if_neg (by rw [l2]; simp)]
  have v0 : moveE (mintL [] bAnn bGold 5) bAnn bBob bGold 2 = 0 := by
    unfold moveE
    rw [if_neg (by simp [b0]), m0]
  have V := move_ok M1.right (by omega) (by decide) v0
  have l3 : (moveL (mintL [] bAnn bGold 5) bAnn bBob bGold 2).length = 2 := by
    have := len_put B.right.sort (fun p hp => (B.right.ok p hp).2.2.1) bBob bGold (amtU (burnL (mintL [] bAnn bGold 5) bAnn bGold 2) bBob bGold + 2)
    unfold moveL
    rw [if_neg (by simp [b0]), mintL_eq m0 (by decide)]
    rw [if_pos (by omega), if_neg (by omega)] at this
    omega
  have d1 := V.amt bBob bGold
  have d2 := V.amt bAnn bGold
  rw [if_neg (by decide), if_pos ⟨rfl, rfl⟩] at d1
  rw [if_pos ⟨rfl, rfl⟩, if_neg (by decide)] at d2
  exact ⟨e0, by omega, M1.right, v0, l3, V.right, by omega, by omega⟩
set_option maxRecDepth 100000 in
set_option maxHeartbeats 4000000 in
theorem alive12 (w : World) : Calls Tryd.prog 33 #[] w fun e w' => e = .returned (.bool true) ∧ Below w.heap.size w w' := by
  obtain ⟨e0, l0, r0, e1, l1, r1, a1, a2⟩ := alive_facts
  have HM := hid (mint_any [] bAnn bGold 5 (.slice none 0 0) 0 w (Nat.zero_le _) (Many.nil _ _ _ _) RightU.nil (by simp) (by decide))
  have HV := hid (fun v N W hN hv => move_any (mintL [] bAnn bGold 5) bAnn bBob bGold 2 v N W hN hv r0 l0 (by decide))
  generalize mintL [] bAnn bGold 5 = m at *
  have HA1 := hid (fun v N W hN hv => amount_any (moveL m bAnn bBob bGold 2) bBob bGold v N W hN hv r1.sort (by omega))
  have HA2 := hid (fun v N W hN hv => amount_any (moveL m bAnn bBob bGold 2) bAnn bGold v N W hN hv r1.sort (by omega))
  rw [e0] at HM
  rw [e1] at HV
  rw [a1] at HA1
  rw [a2] at HA2
  generalize moveL m bAnn bBob bGold 2 = q at *
  have HL := hid l1
  clear e0 l0 r0 e1 l1 r1 a1 a2
  unfold bAnn bBob bGold at *
  go_enter Tryd.func33, Tryd.ntmps33
  go_wp2_with fail
  refine HM.out.mono ?_
  rintro e w1 ⟨hb1, v1, rfl, hv1⟩
  obtain ⟨o1, c1, rfl, -⟩ := hv1.shape
  have HB1 := hid hb1
  have HC1 := hid (HV.out _ _ w1 (Nat.le_refl _) hv1)
  clear hb1 hv1 HM HV
  generalize m.length = n1 at *
  go_wp2_with fail
  refine HC1.out.mono ?_
  rintro e w2 ⟨hb2, v2, rfl, hv2⟩
  have hs2 := hv2.shape
  rw [HL.out] at hs2
  obtain ⟨o2, c2, rfl, -⟩ := hs2
  have HB2 := hid (HB1.out.trans (hb2.mono HB1.out.size))
  have HC2 := hid (HA1.out _ _ w2 (Nat.le_refl _) hv2)
  have HC3 := hid (fun W (hb : Below w2.heap.size w2 W) => HA2.out _ _ W hb.size (hv2.below PuR.stays hb))
  clear hb2 hv2 HC1 HA1 HA2
  go_wp2_with fail
  refine HC2.out.mono ?_
  rintro e w3 ⟨rfl, hb3⟩
  have HB3 := hid (HB2.out.trans (hb3.mono HB2.out.size))
  have HC4 := hid (HC3.out w3 hb3)
  clear hb3 HC2 HC3
  go_wp2_with fail
  refine HC4.out.mono ?_
  rintro e w4 ⟨rfl, hb4⟩
  have HB4 := hid (HB3.out.trans (hb4.mono HB3.out.size))
  clear hb4
  go_wp2
  go_ret
  exact ⟨rfl, HB4.out⟩
end Go.Proofs.YtnoaohlajllngaaDoor
