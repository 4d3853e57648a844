/-
  What Rem64 answers, of the two moduli of seals: the rest of a number of two words. It turns no memory.
-/
import Derived.Test.YtedjmhiocmefiaaDoorWords
import Derived.Test.YtedjmhiocmefiaaDoorDivMath
import Derived.Test.YtedjmhiocmefiaaDoorSealNum
import Derived.BigQuiet
import Derived.Deep.CutBlock
namespace Go.Proofs.YtedjmhiocmefiaaDoor
open Go.RowKit

set_option maxRecDepth 100000 in
set_option maxHeartbeats 400000 in
theorem len64_p (w : World) : Calls Tryd.prog 61 #[.int .u64 (1152921504606849707 : Int)] w fun e w' => e = .returned (.int .i64 61) ∧ w' = w := by
  go_enter Tryd.func61, Tryd.ntmps61
  go_wp2
  go_ret
  exact ⟨by kernel_rfl, rfl⟩
theorem lz_p (w : World) : Calls Tryd.prog 59 #[.int .u64 (1152921504606849707 : Int)] w fun e w' => e = .returned (.int .i64 3) ∧ w' = w := by
  go_enter Tryd.func59, Tryd.ntmps59
  go_wp2_with (go_at_call 61; refine (len64_p _).mono ?_; rintro e w' ⟨rfl, rfl⟩)
  go_ret
  exact ⟨rfl, rfl⟩
set_option maxRecDepth 100000 in
set_option maxHeartbeats 400000 in
theorem len64_q (w : World) : Calls Tryd.prog 61 #[.int .u64 (576460752303424853 : Int)] w fun e w' => e = .returned (.int .i64 60) ∧ w' = w := by
  go_enter Tryd.func61, Tryd.ntmps61
  go_wp2
  go_ret
  exact ⟨by kernel_rfl, rfl⟩
theorem lz_q (w : World) : Calls Tryd.prog 59 #[.int .u64 (576460752303424853 : Int)] w fun e w' => e = .returned (.int .i64 4) ∧ w' = w := by
  go_enter Tryd.func59, Tryd.ntmps59
  go_wp2_with (go_at_call 61; refine (len64_q _).mono ?_; rintro e w' ⟨rfl, rfl⟩)
  go_ret
  exact ⟨rfl, rfl⟩

theorem w64_sub (a b : Nat) (h : b ≤ a) (h' : a < 18446744073709551616) : IntKind.u64.wrap ((a : Int) - (b : Int)) = ((a - b : Nat) : Int) := by
  rw [← Int.ofNat_sub h]; exact w64 _ (by omega)
theorem w64_div (a b : Nat) (h : a < 18446744073709551616) : IntKind.u64.wrap ((a : Int) / (b : Int)) = ((a / b : Nat) : Int) := by
  rw [← Int.natCast_ediv]; exact w64 _ (Nat.lt_of_le_of_lt (Nat.div_le_self _ _) h)
theorem w64_mod3 (a b c : Nat) (h : c ≤ a * 4294967296 + b) (h' : a * 4294967296 + b - c < 18446744073709551616) :
    IntKind.u64.wrap (((a * 4294967296 % 18446744073709551616 + b) % 18446744073709551616 : Nat) - ((c % 18446744073709551616 : Nat) : Int)) = ((a * 4294967296 + b - c : Nat) : Int) := by
  simp only [IntKind.wrap, IntKind.bits, IntKind.signed]
  simp
  omega
theorem w64_mullit (a : Nat) : IntKind.u64.wrap ((a : Int) * 4294967296) = ((a * 4294967296 % 18446744073709551616 : Nat) : Int) := w64_mulmod a 4294967296
theorem w64_addmod (a b : Nat) : IntKind.u64.wrap ((a : Int) + (b : Int)) = (((a + b) % 18446744073709551616 : Nat) : Int) := by
  rw [← Int.natCast_add]
  simp [IntKind.wrap, IntKind.bits, IntKind.signed]
theorem guess_lt {k v0 : Nat} (h : k < 4294967296) (h' : v0 < 4294967296) : k * v0 < 18446744073709551616 := by
  have := Nat.mul_le_mul (show k ≤ 4294967295 by omega) (show v0 ≤ 4294967295 by omega)
  omega
/-- what the walk must know of a guess ahead of its round's test -/
theorem test_facts {k m v0 u1 : Nat} (hm : m < 4294967296) (hu1 : u1 < 4294967296) (hv0 : v0 < 4294967296) (hk : k < 4294967296) : ∃ a b c : Nat, IntKind.u64.wrap ((k : Int) * (v0 : Int)) = (a : Int) ∧ IntKind.u64.wrap (4294967296 * (m : Int)) = (b : Int) ∧ IntKind.u64.wrap ((b : Int) + (u1 : Int)) = (c : Int) ∧ a = k * v0 ∧ c = 4294967296 * m + u1 :=
  ⟨k * v0, 4294967296 * m, 4294967296 * m + u1, w64_mul _ _ (guess_lt hk hv0), w64_mul 4294967296 m (by omega), w64_add _ _ (by omega), rfl, rfl⟩
/-- and of a guess that is made -/
theorem start_facts {u v1 : Nat} (h : u < 18446744073709551616) : ∃ q x r : Nat, IntKind.u64.wrap ((u : Int) / (v1 : Int)) = (q : Int) ∧ IntKind.u64.wrap ((q : Int) * (v1 : Int)) = (x : Int) ∧ IntKind.u64.wrap ((u : Int) - (x : Int)) = (r : Int) ∧ q = u / v1 ∧ r = u % v1 := by
  have h1 : u / v1 * v1 ≤ u := Nat.div_mul_le_self u v1
  refine ⟨u / v1, u / v1 * v1, u - u / v1 * v1, w64_div _ _ h, w64_mul _ _ (by omega), w64_sub _ _ h1 h, rfl, ?_⟩
  have := Nat.div_add_mod u v1
  rw [Nat.mul_comm] at this
  omega
/-- and of what is left behind a word of the quotient -/
theorem left_facts {u u1 k v1 v0 Y : Nat} (hq : Quot u u1 v1 v0 k) (hY : Y = v1 * 4294967296 + v0) (hY' : Y < 18446744073709551616) :
    ∃ a1 a2 a3 R : Nat, IntKind.u64.wrap ((u : Int) * 4294967296) = (a1 : Int) ∧ IntKind.u64.wrap ((a1 : Int) + (u1 : Int)) = (a2 : Int) ∧ IntKind.u64.wrap ((k : Int) * (Y : Int)) = (a3 : Int) ∧ IntKind.u64.wrap ((a2 : Int) - (a3 : Int)) = (R : Int) ∧ R = u * 4294967296 + u1 - k * (v1 * 4294967296 + v0) ∧ R < v1 * 4294967296 + v0 := by
  subst hY
  have hl := quot_left hq
  exact ⟨_, _, _, u * 4294967296 + u1 - k * (v1 * 4294967296 + v0), w64_mullit u, w64_addmod _ u1, w64_mulmod k _, w64_mod3 _ _ _ hq.1 (by omega), rfl, hl⟩

set_option maxRecDepth 100000 in
set_option maxHeartbeats 1000000 in
theorem div64_3 (hi lo y Y v1 v0 hs ls u un10 u1 u0 : Nat) (w : World) (hy : 0 < y) (hhi : hi < y) (h0 : hi ≠ 0)
    (hlz : Hid (∀ w : World, Calls Tryd.prog 59 #[.int .u64 (y : Int)] w fun e w' => e = .returned (.int .i64 3) ∧ w' = w))
    (e1 : IntKind.u64.wrap ((y : Int) * 8) = (Y : Int)) (e2 : (Y : Int) / (4294967296 : Int) = (v1 : Int)) (e3 : bits .and .u64 (Y : Int) (4294967295 : Int) = (v0 : Int))
    (e4 : IntKind.u64.wrap ((hi : Int) * 8) = (hs : Int)) (e5 : (lo : Int) / (2305843009213693952 : Int) = (ls : Int)) (e6 : bits .or .u64 (hs : Int) (ls : Int) = (u : Int))
    (hv1 : 2147483648 ≤ v1) (hv1' : v1 < 4294967296) (hv0 : v0 < 4294967296) (hu1 : u1 < 4294967296) (hu0 : u0 < 4294967296) (hY : Y = v1 * 4294967296 + v0) (hu : u < v1 * 4294967296 + v0)
    (e7 : IntKind.u64.wrap ((lo : Int) * 8) = (un10 : Int)) (e8 : (un10 : Int) / (4294967296 : Int) = (u1 : Int)) (e9 : bits .and .u64 (un10 : Int) (4294967295 : Int) = (u0 : Int)) :
    Calls Tryd.prog 55 #[.int .u64 (hi : Int), .int .u64 (lo : Int), .int .u64 (y : Int)] w fun e w' =>
      ∃ q : Int, e = .returned (.tuple #[.int .u64 q, .int .u64 (((u * 18446744073709551616 + u1 * 4294967296 + u0) % (v1 * 4294967296 + v0) / 8 : Nat) : Int)]) ∧ w' = w := by
  have d1 : ((y : Int) == 0) = false := by simp; omega
  have d2 : decide ((y : Int) ≤ (hi : Int)) = false := by simp; omega
  have d3 : ((hi : Int) == 0) = false := by simp; omega
  have d4 : ((v1 : Int) == 0) = false := by simp; omega
  obtain ⟨q, x, r, d5, d6, d7, hq, hr⟩ := start_facts (u := u) (v1 := v1) (by omega)
  have hst := guess_start u u1 v1 v0 hv1 hv1' hu1 hv0 hu
  rw [← hq, ← hr] at hst
  have HG := hid hst
  have HY := hid hY
  have Hu := hid hu
  clear hst hY hu hq hr
  go_enter Tryd.func55, Tryd.ntmps55
  go_upto_block 0 with (go_at_call 59; refine (hlz.out _).mono ?_; rintro e w' ⟨rfl, rfl⟩)
  go_cut [15, 16] from 67 to 85 (fun x _ wx => ∃ k : Nat, x = .int .u64 (k : Int) ∧ Quot u u1 v1 v0 k ∧ wx = w')
  case first =>
    go_wp2_with fail
    go_loop [15, 16] (fun a b => ∃ k m : Nat, a = .int .u64 (k : Int) ∧ b = .int .u64 (m : Int) ∧ Guess u u1 v1 v0 k m) (fun a _ => (intOf a).toNat)
    case atStart => exact ⟨_, _, rfl, rfl, HG.out⟩
    case round =>
      obtain ⟨k, m, rfl, rfl, hg⟩ := hrel
      have hm := hg.2.2.1
      have hk2 := hg.2.1
      by_cases hA : k < 4294967296 ∧ k * v0 ≤ 4294967296 * m + u1
      · obtain ⟨hk, hle⟩ := hA
        obtain ⟨a, b, c, g1, g2, g3, ha, hc⟩ := test_facts hm hu1 hv0 hk
        have g4 : decide ((4294967296 : Int) ≤ (k : Int)) = false := by simp; omega
        have g5 : decide ((c : Int) < (a : Int)) = false := by simp; omega
        have g5' : decide (c < a) = false := by simp; omega
        have HQ := hid (guess_done hg hk hle)
        clear ha hc hle hg
        go_wp2
        go_meet
        exact ⟨_, rfl, HQ.out, rfl⟩
      · have hB : 4294967296 ≤ k ∨ 4294967296 * m + u1 < k * v0 := by omega
        have hgr := guess_great hg hu1 Hu.out hB
        have g6 : IntKind.u64.wrap ((k : Int) - 1) = ((k - 1 : Nat) : Int) := w64_sub k 1 hgr.1 (by omega)
        have g7 : IntKind.u64.wrap ((m : Int) + (v1 : Int)) = ((m + v1 : Nat) : Int) := w64_add _ _ (by omega)
        have hk0 := hgr.1
        by_cases hr : m + v1 < 4294967296
        · have hn := guess_next hg hu1 Hu.out hB hr
          obtain ⟨k1, hk1⟩ : ∃ k1, k - 1 = k1 := ⟨_, rfl⟩
          obtain ⟨m1, hm1⟩ : ∃ m1, m + v1 = m1 := ⟨_, rfl⟩
          rw [hk1] at hn g6
          rw [hm1] at hn g7
          have g8 : decide ((4294967296 : Int) ≤ (m1 : Int)) = false := by simp; omega
          have HN := hid hn
          have HK1 := hid hk1
          clear hn hg hk1 hm1 hr hgr hA
          by_cases hk : k < 4294967296
          · have hlt : 4294967296 * m + u1 < k * v0 := by omega
            obtain ⟨a, b, c, g1, g2, g3, ha, hc⟩ := test_facts hm hu1 hv0 hk
            have g4 : decide ((4294967296 : Int) ≤ (k : Int)) = false := by simp; omega
            have g5 : decide ((c : Int) < (a : Int)) = true := by simp; omega
            have g5' : decide (c < a) = true := by simp; omega
            clear ha hc hlt hB
            go_wp2
            go_round
            case rel => exact ⟨_, _, rfl, rfl, HN.out⟩
            case measure => have := HK1.out; simp [intOf]; omega
          · have g4 : decide ((4294967296 : Int) ≤ (k : Int)) = true := by simp; omega
            clear hB
            go_wp2
            go_round
            case rel => exact ⟨_, _, rfl, rfl, HN.out⟩
            case measure => have := HK1.out; simp [intOf]; omega
        · have hq := guess_break hg hu1 hv0 Hu.out hB (by omega)
          obtain ⟨k1, hk1⟩ : ∃ k1, k - 1 = k1 := ⟨_, rfl⟩
          obtain ⟨m1, hm1⟩ : ∃ m1, m + v1 = m1 := ⟨_, rfl⟩
          rw [hk1] at hq g6
          rw [hm1] at g7
          have g8 : decide ((4294967296 : Int) ≤ (m1 : Int)) = true := by simp; omega
          have HQ := hid hq
          clear hq hg hk1 hm1 hr hgr hA
          by_cases hk : k < 4294967296
          · have hlt : 4294967296 * m + u1 < k * v0 := by omega
            obtain ⟨a, b, c, g1, g2, g3, ha, hc⟩ := test_facts hm hu1 hv0 hk
            have g4 : decide ((4294967296 : Int) ≤ (k : Int)) = false := by simp; omega
            have g5 : decide ((c : Int) < (a : Int)) = true := by simp; omega
            have g5' : decide (c < a) = true := by simp; omega
            clear ha hc hlt hB
            go_wp2
            go_meet
            exact ⟨_, rfl, HQ.out, rfl⟩
          · have g4 : decide ((4294967296 : Int) ≤ (k : Int)) = true := by simp; omega
            clear hB
            go_wp2
            go_meet
            exact ⟨_, rfl, HQ.out, rfl⟩

  case rest =>
    obtain ⟨k, rfl, hk, rfl⟩ := hcut
    clear d5 d6 d7 HG
    obtain ⟨a1, a2, a3, R, f1, f2, f3, f4, hR, hRl⟩ := left_facts hk HY.out (by have := HY.out; omega)
    obtain ⟨q2, x2, r2, d5, d6, d7, hq2, hr2⟩ := start_facts (u := R) (v1 := v1) (by omega)
    have hst := guess_start R u0 v1 v0 hv1 hv1' hu0 hv0 hRl
    rw [← hq2, ← hr2] at hst
    have HG := hid hst
    have HR := hid hRl
    have HRE := hid hR
    have HK := hid hk
    clear hst hR hRl hk hq2 hr2 Hu
    go_upto_block 2 with fail
    go_cut [18, 16] from 102 to 120 (fun x _ wx => ∃ k : Nat, x = .int .u64 (k : Int) ∧ Quot R u0 v1 v0 k ∧ wx = wc)
    case first =>
      go_wp2_with fail
      go_loop [18, 16] (fun a b => ∃ k m : Nat, a = .int .u64 (k : Int) ∧ b = .int .u64 (m : Int) ∧ Guess R u0 v1 v0 k m) (fun a _ => (intOf a).toNat)
      case atStart => exact ⟨_, _, rfl, rfl, HG.out⟩
      case round =>
        obtain ⟨k, m, rfl, rfl, hg⟩ := hrel
        have hm := hg.2.2.1
        have hk2 := hg.2.1
        by_cases hA : k < 4294967296 ∧ k * v0 ≤ 4294967296 * m + u0
        · obtain ⟨hk, hle⟩ := hA
          obtain ⟨a, b, c, g1, g2, g3, ha, hc⟩ := test_facts hm hu0 hv0 hk
          have g4 : decide ((4294967296 : Int) ≤ (k : Int)) = false := by simp; omega
          have g5 : decide ((c : Int) < (a : Int)) = false := by simp; omega
          have g5' : decide (c < a) = false := by simp; omega
          have HQ := hid (guess_done hg hk hle)
          clear ha hc hle hg
          go_wp2
          go_meet
          exact ⟨_, rfl, HQ.out, rfl⟩
        · have hB : 4294967296 ≤ k ∨ 4294967296 * m + u0 < k * v0 := by omega
          have hgr := guess_great hg hu0 HR.out hB
          have g6 : IntKind.u64.wrap ((k : Int) - 1) = ((k - 1 : Nat) : Int) := w64_sub k 1 hgr.1 (by omega)
          have g7 : IntKind.u64.wrap ((m : Int) + (v1 : Int)) = ((m + v1 : Nat) : Int) := w64_add _ _ (by omega)
          have hk0 := hgr.1
          by_cases hr : m + v1 < 4294967296
          · have hn := guess_next hg hu0 HR.out hB hr
            obtain ⟨k1, hk1⟩ : ∃ k1, k - 1 = k1 := ⟨_, rfl⟩
            obtain ⟨m1, hm1⟩ : ∃ m1, m + v1 = m1 := ⟨_, rfl⟩
            rw [hk1] at hn g6
            rw [hm1] at hn g7
            have g8 : decide ((4294967296 : Int) ≤ (m1 : Int)) = false := by simp; omega
            have HN := hid hn
            have HK1 := hid hk1
            clear hn hg hk1 hm1 hr hgr hA
            by_cases hk : k < 4294967296
            · have hlt : 4294967296 * m + u0 < k * v0 := by omega
              obtain ⟨a, b, c, g1, g2, g3, ha, hc⟩ := test_facts hm hu0 hv0 hk
              have g4 : decide ((4294967296 : Int) ≤ (k : Int)) = false := by simp; omega
              have g5 : decide ((c : Int) < (a : Int)) = true := by simp; omega
              have g5' : decide (c < a) = true := by simp; omega
              clear ha hc hlt hB
              go_wp2
              go_round
              case rel => exact ⟨_, _, rfl, rfl, HN.out⟩
              case measure => have := HK1.out; simp [intOf]; omega
            · have g4 : decide ((4294967296 : Int) ≤ (k : Int)) = true := by simp; omega
              clear hB
              go_wp2
              go_round
              case rel => exact ⟨_, _, rfl, rfl, HN.out⟩
              case measure => have := HK1.out; simp [intOf]; omega
          · have hq := guess_break hg hu0 hv0 HR.out hB (by omega)
            obtain ⟨k1, hk1⟩ : ∃ k1, k - 1 = k1 := ⟨_, rfl⟩
            obtain ⟨m1, hm1⟩ : ∃ m1, m + v1 = m1 := ⟨_, rfl⟩
            rw [hk1] at hq g6
            rw [hm1] at g7
            have g8 : decide ((4294967296 : Int) ≤ (m1 : Int)) = true := by simp; omega
            have HQ := hid hq
            clear hq hg hk1 hm1 hr hgr hA
            by_cases hk : k < 4294967296
            · have hlt : 4294967296 * m + u0 < k * v0 := by omega
              obtain ⟨a, b, c, g1, g2, g3, ha, hc⟩ := test_facts hm hu0 hv0 hk
              have g4 : decide ((4294967296 : Int) ≤ (k : Int)) = false := by simp; omega
              have g5 : decide ((c : Int) < (a : Int)) = true := by simp; omega
              have g5' : decide (c < a) = true := by simp; omega
              clear ha hc hlt hB
              go_wp2
              go_meet
              exact ⟨_, rfl, HQ.out, rfl⟩
            · have g4 : decide ((4294967296 : Int) ≤ (k : Int)) = true := by simp; omega
              clear hB
              go_wp2
              go_meet
              exact ⟨_, rfl, HQ.out, rfl⟩

    case rest =>
      obtain ⟨k2, rfl, hk2, rfl⟩ := hcut
      clear f1 f2 f3 f4 d5 d6 d7 HG
      obtain ⟨a1, a2, a3, R2, f1, f2, f3, f4, hR2, hRl2⟩ := left_facts hk2 HY.out (by have := HY.out; omega)
      have hfin : R2 / 8 = (u * 18446744073709551616 + u1 * 4294967296 + u0) % (v1 * 4294967296 + v0) / 8 := by
        have h3 := HK.out
        have h4 := HRE.out
        rw [h4] at hk2 hR2
        rw [hR2, quot_both h3 hk2]
      have g1 : (R2 : Int) / 8 = ((R2 / 8 : Nat) : Int) := by omega
      obtain ⟨z, hz⟩ : ∃ z, R2 / 8 = z := ⟨_, rfl⟩
      rw [hz] at g1 hfin
      have HF := hid hfin
      clear hfin hz hR2 hRl2 hk2
      go_wp2
      go_ret2
      exact ⟨_, by rw [← HF.out]; rfl, rfl⟩

set_option maxRecDepth 100000 in
set_option maxHeartbeats 1000000 in
theorem div64_4 (hi lo y Y v1 v0 hs ls u un10 u1 u0 : Nat) (w : World) (hy : 0 < y) (hhi : hi < y) (h0 : hi ≠ 0)
    (hlz : Hid (∀ w : World, Calls Tryd.prog 59 #[.int .u64 (y : Int)] w fun e w' => e = .returned (.int .i64 4) ∧ w' = w))
    (e1 : IntKind.u64.wrap ((y : Int) * 16) = (Y : Int)) (e2 : (Y : Int) / (4294967296 : Int) = (v1 : Int)) (e3 : bits .and .u64 (Y : Int) (4294967295 : Int) = (v0 : Int))
    (e4 : IntKind.u64.wrap ((hi : Int) * 16) = (hs : Int)) (e5 : (lo : Int) / (1152921504606846976 : Int) = (ls : Int)) (e6 : bits .or .u64 (hs : Int) (ls : Int) = (u : Int))
    (hv1 : 2147483648 ≤ v1) (hv1' : v1 < 4294967296) (hv0 : v0 < 4294967296) (hu1 : u1 < 4294967296) (hu0 : u0 < 4294967296) (hY : Y = v1 * 4294967296 + v0) (hu : u < v1 * 4294967296 + v0)
    (e7 : IntKind.u64.wrap ((lo : Int) * 16) = (un10 : Int)) (e8 : (un10 : Int) / (4294967296 : Int) = (u1 : Int)) (e9 : bits .and .u64 (un10 : Int) (4294967295 : Int) = (u0 : Int)) :
    Calls Tryd.prog 55 #[.int .u64 (hi : Int), .int .u64 (lo : Int), .int .u64 (y : Int)] w fun e w' =>
      ∃ q : Int, e = .returned (.tuple #[.int .u64 q, .int .u64 (((u * 18446744073709551616 + u1 * 4294967296 + u0) % (v1 * 4294967296 + v0) / 16 : Nat) : Int)]) ∧ w' = w := by
  have d1 : ((y : Int) == 0) = false := by simp; omega
  have d2 : decide ((y : Int) ≤ (hi : Int)) = false := by simp; omega
  have d3 : ((hi : Int) == 0) = false := by simp; omega
  have d4 : ((v1 : Int) == 0) = false := by simp; omega
  obtain ⟨q, x, r, d5, d6, d7, hq, hr⟩ := start_facts (u := u) (v1 := v1) (by omega)
  have hst := guess_start u u1 v1 v0 hv1 hv1' hu1 hv0 hu
  rw [← hq, ← hr] at hst
  have HG := hid hst
  have HY := hid hY
  have Hu := hid hu
  clear hst hY hu hq hr
  go_enter Tryd.func55, Tryd.ntmps55
  go_upto_block 0 with (go_at_call 59; refine (hlz.out _).mono ?_; rintro e w' ⟨rfl, rfl⟩)
  go_cut [15, 16] from 67 to 85 (fun x _ wx => ∃ k : Nat, x = .int .u64 (k : Int) ∧ Quot u u1 v1 v0 k ∧ wx = w')
  case first =>
    go_wp2_with fail
    go_loop [15, 16] (fun a b => ∃ k m : Nat, a = .int .u64 (k : Int) ∧ b = .int .u64 (m : Int) ∧ Guess u u1 v1 v0 k m) (fun a _ => (intOf a).toNat)
    case atStart => exact ⟨_, _, rfl, rfl, HG.out⟩
    case round =>
      obtain ⟨k, m, rfl, rfl, hg⟩ := hrel
      have hm := hg.2.2.1
      have hk2 := hg.2.1
      by_cases hA : k < 4294967296 ∧ k * v0 ≤ 4294967296 * m + u1
      · obtain ⟨hk, hle⟩ := hA
        obtain ⟨a, b, c, g1, g2, g3, ha, hc⟩ := test_facts hm hu1 hv0 hk
        have g4 : decide ((4294967296 : Int) ≤ (k : Int)) = false := by simp; omega
        have g5 : decide ((c : Int) < (a : Int)) = false := by simp; omega
        have g5' : decide (c < a) = false := by simp; omega
        have HQ := hid (guess_done hg hk hle)
        clear ha hc hle hg
        go_wp2
        go_meet
        exact ⟨_, rfl, HQ.out, rfl⟩
      · have hB : 4294967296 ≤ k ∨ 4294967296 * m + u1 < k * v0 := by omega
        have hgr := guess_great hg hu1 Hu.out hB
        have g6 : IntKind.u64.wrap ((k : Int) - 1) = ((k - 1 : Nat) : Int) := w64_sub k 1 hgr.1 (by omega)
        have g7 : IntKind.u64.wrap ((m : Int) + (v1 : Int)) = ((m + v1 : Nat) : Int) := w64_add _ _ (by omega)
        have hk0 := hgr.1
        by_cases hr : m + v1 < 4294967296
        · have hn := guess_next hg hu1 Hu.out hB hr
          obtain ⟨k1, hk1⟩ : ∃ k1, k - 1 = k1 := ⟨_, rfl⟩
          obtain ⟨m1, hm1⟩ : ∃ m1, m + v1 = m1 := ⟨_, rfl⟩
          rw [hk1] at hn g6
          rw [hm1] at hn g7
          have g8 : decide ((4294967296 : Int) ≤ (m1 : Int)) = false := by simp; omega
          have HN := hid hn
          have HK1 := hid hk1
          clear hn hg hk1 hm1 hr hgr hA
          by_cases hk : k < 4294967296
          · have hlt : 4294967296 * m + u1 < k * v0 := by omega
            obtain ⟨a, b, c, g1, g2, g3, ha, hc⟩ := test_facts hm hu1 hv0 hk
            have g4 : decide ((4294967296 : Int) ≤ (k : Int)) = false := by simp; omega
            have g5 : decide ((c : Int) < (a : Int)) = true := by simp; omega
            have g5' : decide (c < a) = true := by simp; omega
            clear ha hc hlt hB
            go_wp2
            go_round
            case rel => exact ⟨_, _, rfl, rfl, HN.out⟩
            case measure => have := HK1.out; simp [intOf]; omega
          · have g4 : decide ((4294967296 : Int) ≤ (k : Int)) = true := by simp; omega
            clear hB
            go_wp2
            go_round
            case rel => exact ⟨_, _, rfl, rfl, HN.out⟩
            case measure => have := HK1.out; simp [intOf]; omega
        · have hq := guess_break hg hu1 hv0 Hu.out hB (by omega)
          obtain ⟨k1, hk1⟩ : ∃ k1, k - 1 = k1 := ⟨_, rfl⟩
          obtain ⟨m1, hm1⟩ : ∃ m1, m + v1 = m1 := ⟨_, rfl⟩
          rw [hk1] at hq g6
          rw [hm1] at g7
          have g8 : decide ((4294967296 : Int) ≤ (m1 : Int)) = true := by simp; omega
          have HQ := hid hq
          clear hq hg hk1 hm1 hr hgr hA
          by_cases hk : k < 4294967296
          · have hlt : 4294967296 * m + u1 < k * v0 := by omega
            obtain ⟨a, b, c, g1, g2, g3, ha, hc⟩ := test_facts hm hu1 hv0 hk
            have g4 : decide ((4294967296 : Int) ≤ (k : Int)) = false := by simp; omega
            have g5 : decide ((c : Int) < (a : Int)) = true := by simp; omega
            have g5' : decide (c < a) = true := by simp; omega
            clear ha hc hlt hB
            go_wp2
            go_meet
            exact ⟨_, rfl, HQ.out, rfl⟩
          · have g4 : decide ((4294967296 : Int) ≤ (k : Int)) = true := by simp; omega
            clear hB
            go_wp2
            go_meet
            exact ⟨_, rfl, HQ.out, rfl⟩

  case rest =>
    obtain ⟨k, rfl, hk, rfl⟩ := hcut
    clear d5 d6 d7 HG
    obtain ⟨a1, a2, a3, R, f1, f2, f3, f4, hR, hRl⟩ := left_facts hk HY.out (by have := HY.out; omega)
    obtain ⟨q2, x2, r2, d5, d6, d7, hq2, hr2⟩ := start_facts (u := R) (v1 := v1) (by omega)
    have hst := guess_start R u0 v1 v0 hv1 hv1' hu0 hv0 hRl
    rw [← hq2, ← hr2] at hst
    have HG := hid hst
    have HR := hid hRl
    have HRE := hid hR
    have HK := hid hk
    clear hst hR hRl hk hq2 hr2 Hu
    go_upto_block 2 with fail
    go_cut [18, 16] from 102 to 120 (fun x _ wx => ∃ k : Nat, x = .int .u64 (k : Int) ∧ Quot R u0 v1 v0 k ∧ wx = wc)
    case first =>
      go_wp2_with fail
      go_loop [18, 16] (fun a b => ∃ k m : Nat, a = .int .u64 (k : Int) ∧ b = .int .u64 (m : Int) ∧ Guess R u0 v1 v0 k m) (fun a _ => (intOf a).toNat)
      case atStart => exact ⟨_, _, rfl, rfl, HG.out⟩
      case round =>
        obtain ⟨k, m, rfl, rfl, hg⟩ := hrel
        have hm := hg.2.2.1
        have hk2 := hg.2.1
        by_cases hA : k < 4294967296 ∧ k * v0 ≤ 4294967296 * m + u0
        · obtain ⟨hk, hle⟩ := hA
          obtain ⟨a, b, c, g1, g2, g3, ha, hc⟩ := test_facts hm hu0 hv0 hk
          have g4 : decide ((4294967296 : Int) ≤ (k : Int)) = false := by simp; omega
          have g5 : decide ((c : Int) < (a : Int)) = false := by simp; omega
          have g5' : decide (c < a) = false := by simp; omega
          have HQ := hid (guess_done hg hk hle)
          clear ha hc hle hg
          go_wp2
          go_meet
          exact ⟨_, rfl, HQ.out, rfl⟩
        · have hB : 4294967296 ≤ k ∨ 4294967296 * m + u0 < k * v0 := by omega
          have hgr := guess_great hg hu0 HR.out hB
          have g6 : IntKind.u64.wrap ((k : Int) - 1) = ((k - 1 : Nat) : Int) := w64_sub k 1 hgr.1 (by omega)
          have g7 : IntKind.u64.wrap ((m : Int) + (v1 : Int)) = ((m + v1 : Nat) : Int) := w64_add _ _ (by omega)
          have hk0 := hgr.1
          by_cases hr : m + v1 < 4294967296
          · have hn := guess_next hg hu0 HR.out hB hr
            obtain ⟨k1, hk1⟩ : ∃ k1, k - 1 = k1 := ⟨_, rfl⟩
            obtain ⟨m1, hm1⟩ : ∃ m1, m + v1 = m1 := ⟨_, rfl⟩
            rw [hk1] at hn g6
            rw [hm1] at hn g7
            have g8 : decide ((4294967296 : Int) ≤ (m1 : Int)) = false := by simp; omega
            have HN := hid hn
            have HK1 := hid hk1
            clear hn hg hk1 hm1 hr hgr hA
            by_cases hk : k < 4294967296
            · have hlt : 4294967296 * m + u0 < k * v0 := by omega
              obtain ⟨a, b, c, g1, g2, g3, ha, hc⟩ := test_facts hm hu0 hv0 hk
              have g4 : decide ((4294967296 : Int) ≤ (k : Int)) = false := by simp; omega
              have g5 : decide ((c : Int) < (a : Int)) = true := by simp; omega
              have g5' : decide (c < a) = true := by simp; omega
              clear ha hc hlt hB
              go_wp2
              go_round
              case rel => exact ⟨_, _, rfl, rfl, HN.out⟩
              case measure => have := HK1.out; simp [intOf]; omega
            · have g4 : decide ((4294967296 : Int) ≤ (k : Int)) = true := by simp; omega
              clear hB
              go_wp2
              go_round
              case rel => exact ⟨_, _, rfl, rfl, HN.out⟩
              case measure => have := HK1.out; simp [intOf]; omega
          · have hq := guess_break hg hu0 hv0 HR.out hB (by omega)
            obtain ⟨k1, hk1⟩ : ∃ k1, k - 1 = k1 := ⟨_, rfl⟩
            obtain ⟨m1, hm1⟩ : ∃ m1, m + v1 = m1 := ⟨_, rfl⟩
            rw [hk1] at hq g6
            rw [hm1] at g7
            have g8 : decide ((4294967296 : Int) ≤ (m1 : Int)) = true := by simp; omega
            have HQ := hid hq
            clear hq hg hk1 hm1 hr hgr hA
            by_cases hk : k < 4294967296
            · have hlt : 4294967296 * m + u0 < k * v0 := by omega
              obtain ⟨a, b, c, g1, g2, g3, ha, hc⟩ := test_facts hm hu0 hv0 hk
              have g4 : decide ((4294967296 : Int) ≤ (k : Int)) = false := by simp; omega
              have g5 : decide ((c : Int) < (a : Int)) = true := by simp; omega
              have g5' : decide (c < a) = true := by simp; omega
              clear ha hc hlt hB
              go_wp2
              go_meet
              exact ⟨_, rfl, HQ.out, rfl⟩
            · have g4 : decide ((4294967296 : Int) ≤ (k : Int)) = true := by simp; omega
              clear hB
              go_wp2
              go_meet
              exact ⟨_, rfl, HQ.out, rfl⟩

    case rest =>
      obtain ⟨k2, rfl, hk2, rfl⟩ := hcut
      clear f1 f2 f3 f4 d5 d6 d7 HG
      obtain ⟨a1, a2, a3, R2, f1, f2, f3, f4, hR2, hRl2⟩ := left_facts hk2 HY.out (by have := HY.out; omega)
      have hfin : R2 / 16 = (u * 18446744073709551616 + u1 * 4294967296 + u0) % (v1 * 4294967296 + v0) / 16 := by
        have h3 := HK.out
        have h4 := HRE.out
        rw [h4] at hk2 hR2
        rw [hR2, quot_both h3 hk2]
      have g1 : (R2 : Int) / 16 = ((R2 / 16 : Nat) : Int) := by omega
      obtain ⟨z, hz⟩ : ∃ z, R2 / 16 = z := ⟨_, rfl⟩
      rw [hz] at g1 hfin
      have HF := hid hfin
      clear hfin hz hR2 hRl2 hk2
      go_wp2
      go_ret2
      exact ⟨_, by rw [← HF.out]; rfl, rfl⟩
end Go.Proofs.YtedjmhiocmefiaaDoor
