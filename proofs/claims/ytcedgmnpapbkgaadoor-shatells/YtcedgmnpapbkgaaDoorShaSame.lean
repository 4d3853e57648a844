/-
  What Same answers of two slices that read alike: true; it only reads.
-/
import Derived.Test.YtcedgmnpapbkgaaDoorShaTake
namespace Go.Proofs.YtcedgmnpapbkgaaDoor
open Go.RowKit

set_option maxRecDepth 100000 in
set_option maxHeartbeats 1000000 in
theorem same_any (l : List (BitVec 8)) (sa sb : Value) (Na Nb : Nat) (w : World) (ha : Bytes w Na sa l) (hb : Bytes w Nb sb l) (hlen : l.length < 2305843009213693952) :
    Calls Tryd.prog 7 #[sa, sb] w fun e w' => e = .returned (.bool true) ∧ ∃ n, w' = w.drewN n := by
  obtain ⟨oa, ca, rfl, hca⟩ := ha.shape
  obtain ⟨ob, cb, rfl, hcb⟩ := hb.shape
  have HA := hid ha
  have HB := hid hb
  clear ha hb
  generalize hn : l.length = n at *
  have HN := hid hn
  clear hn
  have hne : ((n : Int) != (n : Int)) = false := by simp
  go_enter Tryd.func7, Tryd.ntmps7
  go_wp2_with fail
  go_loopw [13] (fun i wr => ∃ k q : Nat, k ≤ n ∧ i = .int .i64 k ∧ wr = w.drewN q) (fun i _ => n - (intOf i).toNat)
  case atStart => exact ⟨0, 0, by omega, rfl, rfl⟩
  case round =>
    obtain ⟨k, q, hk, rfl, rfl⟩ := hrel
    by_cases hlt : k < n
    · have h1 : Bytes w Na (.slice oa l.length ca) l := by rw [HN.out]; exact HA.out
      have h2 : Bytes w Nb (.slice ob l.length cb) l := by rw [HN.out]; exact HB.out
      obtain ⟨b1, o1, rfl, c1⟩ := h1.some (by rw [HN.out]; omega)
      obtain ⟨b2, o2, rfl, c2⟩ := h2.some (by rw [HN.out]; omega)
      have d1 := (c1 k (by rw [HN.out]; exact hlt)).2
      have d2 := (c2 k (by rw [HN.out]; exact hlt)).2
      obtain ⟨x, hx⟩ : ∃ x, l.getD k 0 = x := ⟨_, rfl⟩
      rw [hx] at d1 d2
      clear h1 h2 c1 c2 hx
      have hlt' : (k : Int) < (n : Int) := by omega
      have hnn : (b8 x != b8 x) = false := by simp
      go_wp2_with fail
      refine region_still (by kernel_rfl) (by kernel_rfl) ?_
      repeat still_step
      refine wpStill_nil ?_
      go_wp2
      go_roundw
      case rel => exact ⟨k + 1, q + 1, by omega, by go_num, rfl⟩
      case measure => simp [intOf]; omega
    · go_wp2
      go_ret
      exact ⟨rfl, q, rfl⟩
end Go.Proofs.YtcedgmnpapbkgaaDoor
