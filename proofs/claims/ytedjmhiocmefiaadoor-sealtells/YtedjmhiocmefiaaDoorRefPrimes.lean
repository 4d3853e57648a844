/-
  What Primes answers of 64: the first 64 primes, in new memory.
-/
import Derived.Test.YtedjmhiocmefiaaDoorRefRoot
import Derived.Test.YtedjmhiocmefiaaDoorShaDig
import Derived.Test.YtedjmhiocmefiaaDoorShaOwn
namespace Go.Proofs.YtedjmhiocmefiaaDoor
open Go.RowKit

def P64 (n : Nat) : Value := .int .u64 (n : Int)
/-- what is found among the numbers from 2 on, k of them -/
def primesTo : Nat → List Nat
  | 0 => []
  | k + 1 => if (primesTo k).all (fun q => (2 + k) % q != 0) then primesTo k ++ [2 + k] else primesTo k
theorem primesTo_mem : ∀ k, ∀ q ∈ primesTo k, 2 ≤ q ∧ q < 2 + k
  | 0, q, h => by simp [primesTo] at h
  | k + 1, q, h => by
    unfold primesTo at h
    split at h
    · rcases List.mem_append.1 h with h | h
      · have := primesTo_mem k q h; omega
      · simp at h; omega
    · have := primesTo_mem k q h; omega
theorem primesTo_mono (k : Nat) : (primesTo k).length ≤ (primesTo (k + 1)).length := by
  show _ ≤ (if _ then _ else _ : List Nat).length
  split
  · simp
  · exact Nat.le_refl _
theorem primesTo_le (k m : Nat) (h : k ≤ m) : (primesTo k).length ≤ (primesTo m).length := by
  induction m with
  | zero => obtain rfl : k = 0 := by omega
            exact Nat.le_refl _
  | succ m ih =>
    by_cases e : k = m + 1
    · subst e; exact Nat.le_refl _
    · exact Nat.le_trans (ih (by omega)) (primesTo_mono m)
theorem primes_309 : (primesTo 309).length = 63 := by decide +kernel
theorem primes_310 : (primesTo 310).length = 64 := by decide +kernel
theorem info_u64 : (Tryd.prog.info? 33).map (fun i => (i.zero, i.size, i.bytes)) = some (some (.int .u64 0), 1, 8) := by kernel_rfl

set_option maxHeartbeats 1000000 in
theorem primes_any (w : World) :
    Calls Tryd.prog 25 #[.int .i64 64] w fun e w' => ∃ v, e = .returned v ∧ w'.ownsRow w.heap.size 33 1 v 64 ((primesTo 310).map P64) ∧ Below w.heap.size w w' := by
  obtain ⟨i0, hi0, hz0, hz1, hz2⟩ := info_parts info_u64
  go_enter Tryd.func25, Tryd.ntmps25
  go_wp2_with fail
  go_loopw [3, 4] (fun v pv wr => ∃ k : Nat, k ≤ 310 ∧ pv = .int .u64 (2 + (k : Int)) ∧ wr.ownsRow w.heap.size 33 1 v (primesTo k).length ((primesTo k).map P64) ∧ Below w.heap.size w wr) (fun _ pv _ => 312 - (intOf pv).toNat)
  case atStart => exact ⟨0, by omega, by go_num, World.ownsRow_nil _ _ _ _, Below.refl _ _⟩
  case round =>
    obtain ⟨k, hk, rfl, hown, hbe⟩ := hrel
    have hszr := hbe.size
    obtain ⟨oa, cap, rfl, hcap, hsome⟩ := ownsRow_shape hown
    by_cases hlt : k < 310
    · have hlen : (primesTo k).length < 64 := by have h1 := primesTo_le k 309 (by omega); rw [primes_309] at h1; omega
      have hmem := primesTo_mem k
      have HO := hid hown
      have HB := hid hbe
      have HS := hid hsome
      have hnext := hid (show primesTo (k + 1) = if (primesTo k).all (fun q => (2 + k) % q != 0) then primesTo k ++ [2 + k] else primesTo k from rfl)
      obtain ⟨l, hl⟩ : ∃ l, primesTo k = l := ⟨_, rfl⟩
      rw [hl] at HO HS hlen hmem hcap hnext ⊢
      have HMEM := hid hmem
      clear hown hbe hsome hmem hl
      generalize hn : l.length = n at *
      have HN := hid hn
      have hn64 : (n : Int) < 64 := by omega
      clear hn
      go_wp2_with fail
      go_loopw [5, 16] (fun ok iv w' => ∃ j : Nat, j ≤ n ∧ iv = .int .i64 j ∧ ok = .bool ((l.take j).all (fun q => (2 + k) % q != 0)) ∧ wr = w') (fun _ iv _ => n - (intOf iv).toNat)
      case atStart => exact ⟨0, by omega, rfl, rfl, rfl⟩
      case round =>
        obtain ⟨j, hj, rfl, rfl, rfl⟩ := hrel
        by_cases hjn : j < n
        · obtain ⟨g, rfl, hg, hgl, hc⟩ := HS.out (by omega)
          have dj := (hc j hjn).1
          rw [List.getElem?_map, getD_some l j 0 (by rw [HN.out]; exact hjn)] at dj
          obtain ⟨q, hq⟩ : ∃ q, l.getD j 0 = q := ⟨_, rfl⟩
          have hqm := HMEM.out q (by rw [← hq]; simp [show j < l.length by rw [HN.out]; exact hjn])
          have dq : wr.cell? ⟨g, j, none⟩ = some (.int .u64 (q : Int)) := by rw [← hq]; exact dj
          have hall := hid (show (l.take (j + 1)).all (fun q => (2 + k) % q != 0) = ((l.take j).all (fun q => (2 + k) % q != 0) && ((2 + k) % q != 0)) by
            rw [List.take_succ_eq_append_getElem (by rw [HN.out]; exact hjn), List.all_append, ← hq]
            simp [show j < l.length by rw [HN.out]; exact hjn])
          clear dj hc hq
          have hq0 : (0 : Int) < (q : Int) := by omega
          have hqne : ((q : Int) == 0) = false := by simp; omega
          have hjl : (j : Int) < (n : Int) := by omega
          generalize (l.take j).all (fun q => (2 + k) % q != 0) = ok at *
          cases ok
          · go_wp2_with fail
            exact ⟨⟨j + 1, by omega, by go_num, by rw [hall.out]; rfl, trivial⟩, by simp [intOf]; omega⟩
          · have hbn : ((2 + (k : Int)) % (q : Int) != 0) = ((2 + k) % q != 0) := by
              have e : (2 + (k : Int)) % (q : Int) = (((2 + k) % q : Nat) : Int) := by simp
              rw [e, Bool.eq_iff_iff]
              simp only [bne_iff_ne, ne_eq]
              omega
            have HBN := hid hbn
            clear hbn
            go_wp2_with fail
            exact ⟨⟨j + 1, by omega, by go_num, by rw [hall.out, HBN.out]; rfl, trivial⟩, by simp [intOf]; omega⟩
        · have hjn2 : l.take j = l := List.take_of_length_le (by rw [HN.out]; omega)
          rw [hjn2]
          have hpw : IntKind.u64.wrap (2 + (k : Int) + 1) = 2 + (k : Int) + 1 := by simp [IntKind.wrap, IntKind.bits, IntKind.signed]; omega
          generalize hok : l.all (fun q => (2 + k) % q != 0) = ok at *
          clear hok hjn2
          cases ok
          · go_wp2_with fail
            go_roundw
            case rel =>
              have hnx := hnext.out
              simp only [Bool.false_eq_true, if_false] at hnx
              exact ⟨k + 1, by omega, by rw [show 2 + ((k + 1 : Nat) : Int) = 2 + (k : Int) + 1 by omega], by rw [hnx, HN.out]; exact HO.out, HB.out⟩
            case measure => simp [intOf]; omega
          · go_wp2_with (at_builtin; refine wpList_append_own _ rfl (.tmp 29) (.tmp 31) 48 rfl w.heap.size 33 i0 (.int .u64 0) 1 8 Tryd.underlying48 hi0 hz0 hz1 hz2 rfl (by decide) _ _ _ rfl (HO.out.alloc _) ⟨wr.heap.size, 0, none⟩ 1 1 [.int .u64 (2 + (k : Int))] rfl rfl (cells_new _ _ _) (by simp [Value.oneCell']) (by unfold maxLen; omega) (by omega) (by simp; omega) ?_; intro v' w1 hown' hgrow hnil)
            go_roundw
            case rel =>
              have hnx := hnext.out
              simp only [if_true] at hnx
              refine ⟨k + 1, by omega, by rw [show 2 + ((k + 1 : Nat) : Int) = 2 + (k : Int) + 1 by omega], ?_, (HB.out.alloc hszr _).grown hgrow (by simp; omega) (fun q hq => (HO.out.lt q hq).1)⟩
              rw [hnx, List.length_append, HN.out, List.map_append]
              exact hown'
            case measure => simp [intOf]; omega
    · obtain rfl : k = 310 := by omega
      rw [primes_310] at hown hcap ⊢
      have HO := hid hown
      have HB := hid hbe
      clear hown hbe hsome
      go_wp2_with fail
      go_ret
      exact ⟨_, rfl, HO.out, HB.out⟩
end Go.Proofs.YtedjmhiocmefiaaDoor
