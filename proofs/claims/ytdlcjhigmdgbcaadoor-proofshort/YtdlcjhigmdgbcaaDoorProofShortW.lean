/-
  ProofShort answers true of all pairs and every key, given what package proof's Show and chapter 5's alive answer; it turns nothing that was there.
-/
import Derived.Test.YtdlcjhigmdgbcaaDoorProofFace
import Derived.Test.YtdlcjhigmdgbcaaDoorBookTree
import Derived.Deep.QuietTactic
import Derived.BigQuiet
namespace Go.Proofs.YtdlcjhigmdgbcaaDoor
open Go.RowKit

/-- no more digests than the pairs can be halved, rounded up -/
theorem path_short (l : List Pr) (i : Nat) (q : Pr) (k : Nat) (h : l.length ≤ 2 ^ k) : (proofAt l i q).path.length ≤ k := by
  unfold proofAt
  simp only [List.length_reverse, List.length_map]
  exact wayL_short k l.length i 0 h
set_option maxRecDepth 100000 in
set_option maxHeartbeats 4000000 in
theorem proofShort_any (HALC : AliveC 9) (HWC : ShowC 12)
    (l : List Pr) (k : List (BitVec 8)) (sv kv : Value) (N : Nat) (w : World) (hK : tableAt w) (hN : N ≤ w.heap.size) (hl : Pairs w N sv l) (hk : Bytes w N kv k) (hlen : l.length < 2305843009213693952) (hfl : ∀ p ∈ l, p.fits) (hkl : k.length ≤ 140737488351232) :
    Calls Tryd.prog 8 #[sv, kv] w fun e w' => e = .returned (.bool true) ∧ Below w.heap.size w w' := by
  obtain ⟨oa, ca, rfl, hca⟩ := hl.shape
  obtain ⟨ob, cb, rfl, hcb⟩ := hk.shape
  have HAL := hid (HALC w hK)
  have HW := hid (show ShowC 12 from HWC)
  have HK := hid hK
  have HL := hid hl
  have HKB := hid hk
  have HFL := hid hfl
  have HKL := hid hkl
  clear hK hl hk hfl HALC HWC hkl
  go_enter Tryd.func8, Tryd.ntmps8
  go_wp2_with fail
  refine HAL.out.mono ?_
  rintro e w1 ⟨rfl, hb1⟩
  have hsz1 := hb1.size
  have HB1 := hid hb1
  have HSW := hid (HW.out l k (.slice oa l.length ca) (.slice ob k.length cb) N w1 (HK.out.past HB1.out) (by omega) (HL.out.below (HB1.out.mono hN)) (HKB.out.below (HB1.out.mono hN)) hlen HFL.out HKL.out)
  clear hb1 HAL
  go_wp2_with fail
  refine HSW.out.mono ?_
  rintro e w2 ⟨hb2, k2, v2, p2, c, p, rfl, hpk, hpv, hpp, hsb⟩
  have hsz2 := hb2.size
  obtain ⟨o5, c5, rfl, _⟩ := hpk.shape
  obtain ⟨o6, c6, rfl, _⟩ := hpv.shape
  obtain ⟨o7, c7, rfl, _⟩ := hpp.shape
  obtain ⟨w3, hw3⟩ : ∃ w3, w2.alloc (.cells #[.int .i64 p.index, .int .i64 p.size, .slice o5 p.key.length c5, .slice o6 p.val.length c6, .slice o7 p.path.length c7] 34) = w3 := ⟨_, rfl⟩
  have hb23 : Below w2.heap.size w2 w3 := by rw [← hw3]; exact (Below.refl _ _).alloc (Nat.le_refl _) _
  have HB3 := hid (HB1.out.trans ((hb2.trans (hb23.mono (by omega))).mono (by omega)))
  have hr3 : Row w3 w2.heap.size 34 [.int .i64 p.index, .int .i64 p.size, .slice o5 p.key.length c5, .slice o6 p.val.length c6, .slice o7 p.path.length c7] := by rw [← hw3]; exact Row.new _ _ _
  have t1 := hr3.cell 1
  have t4 := hr3.cell 4
  have HSB := hid hsb
  clear hb2 hb23 hpk hpv hpp hsb HSW hr3
  by_cases hc0 : c = 0
  · subst hc0
    have HF := hid (show l.length ≤ 200 ∧ p.size = (l.length : Int) ∧ ∀ j, l.length ≤ 2 ^ j → p.path.length ≤ j by
      rcases HSB.out with ⟨h, h', _⟩ | ⟨hw, i, ⟨_, h, _⟩ | ⟨_, _, q, _, rfl⟩⟩
      · exact absurd h'.symm h
      · exact absurd h (by decide)
      · exact ⟨(wrongL_sorted l hw).2.2, rfl, fun j hj => path_short l i q j hj⟩)
    obtain ⟨hn, hs, _⟩ := HF.out
    rw [hs] at t1
    clear hs HSB
    generalize hnn : l.length = n at *
    generalize hm : p.path.length = m at *
    go_wp2_with fail
    clear hw3
    go_loopw [7] (fun i wr => ∃ j : Nat, j ≤ 8 ∧ i = .int .i64 (j : Int) ∧ wr = w3) (fun i _ => 9 - (intOf i).toNat)
    case atStart => exact ⟨0, by omega, rfl, rfl⟩
    case round =>
      obtain ⟨j, hj, rfl, rfl⟩ := hrel
      by_cases hlt : 2 ^ j < n
      · have e1 : decide ((2 : Int) ^ j < (n : Int)) = true := by simp; exact_mod_cast hlt
        have hj8 : j < 8 := by
          refine Nat.lt_of_not_le fun h => ?_
          have : 2 ^ 8 ≤ 2 ^ j := Nat.pow_le_pow_right (by decide) h
          omega
        rcases (show j = 0 ∨ j = 1 ∨ j = 2 ∨ j = 3 ∨ j = 4 ∨ j = 5 ∨ j = 6 ∨ j = 7 by omega) with rfl | rfl | rfl | rfl | rfl | rfl | rfl | rfl
        all_goals
          simp only [Int.reducePow] at e1
          go_wp2_with fail
          exact ⟨⟨_, by decide, rfl, trivial⟩, by simp [intOf]⟩
      · have e1 : decide ((2 : Int) ^ j < (n : Int)) = false := by simp; exact_mod_cast Nat.le_of_not_lt hlt
        have hmj := HF.out.2.2 j (Nat.le_of_not_lt hlt)
        have e2 : decide ((m : Int) ≤ (j : Int)) = true := by simp; omega
        rcases (show j = 0 ∨ j = 1 ∨ j = 2 ∨ j = 3 ∨ j = 4 ∨ j = 5 ∨ j = 6 ∨ j = 7 ∨ j = 8 by omega) with rfl | rfl | rfl | rfl | rfl | rfl | rfl | rfl | rfl
        all_goals
          simp only [Int.reducePow] at e1
          go_wp2
          go_ret
          exact ⟨rfl, HB3.out⟩
  · have HP := hid (show p.path = [] by
      rcases HSB.out with ⟨_, _, rfl⟩ | ⟨_, i, ⟨_, _, rfl⟩ | ⟨_, h, _⟩⟩
      · rfl
      · rfl
      · exact absurd h hc0)
    have e2 : (((p.path.length : Nat) : Int) == 0) = true := by rw [HP.out]; rfl
    have e1 : (c != 0) = true := by simpa using hc0
    go_wp2
    go_ret
    exact ⟨rfl, HB3.out⟩
end Go.Proofs.YtdlcjhigmdgbcaaDoor
