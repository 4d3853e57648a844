/-
  The document's Came and Safe.
-/
import Derived.Test.YtnoaohlajllngaaDoortlBkSafe
import Derived.Test.YtnoaohlajllngaaDoortlSt8RKey
namespace Go.Proofs.YtnoaohlajllngaaDoor
open Go.RowKit

theorem lets_digS (n : Nat) : lets (digS n) = digN n := by
  unfold lets digS digN
  simp
theorem rdig_any (n : Nat) (h : n ≤ 9223372036854775807) (w : World) : Calls Tryd.prog 35 #[.int .i64 (n : Int)] w fun e w' => e = .returned (.string (digS n)) ∧ Below w.heap.size w w' := by
  refine (refDigits_any n h w).mono ?_
  rintro e w' ⟨s, rfl, hs, hb⟩
  rw [lets_inj (hs.trans (lets_digS n).symm)]
  exact ⟨rfl, hb⟩
theorem cameB_low {d : ByteArray} {n : Nat} (h : d.size < (cameS n).size) : cameB d n = false := by
  cases hc : cameB d n with
  | false => rfl
  | true => have := pre_size hc; omega
theorem cameB_take {d : ByteArray} {n : Nat} (h : ¬ d.size < (cameS n).size) : ((d.extract 0 (cameS n).size).toList == (cameS n).toList) = cameB d n := by
  unfold cameB
  rw [← Lib.hasPrefix_of_take, Lib.extract_toList, Lib.toList_data, ← Lib.size_eq, ← Lib.size_eq]
  simp
  omega
set_option maxRecDepth 100000 in
set_option maxHeartbeats 4000000 in
theorem came_any (d : ByteArray) (n : Nat) (h : n ≤ 9223372036854775807) (w : World) : Calls Tryd.prog 34 #[.string d, .int .i64 (n : Int)] w fun e w' => e = .returned (.tuple #[.string (if cameB d n = true then cutS d n else ⟨#[]⟩), .bool (cameB d n)]) ∧ Below w.heap.size w w' := by
  have HC := hid (rdig_any n h w)
  have hq : ∀ W : World, (Op.stringOp .add (digS n) ⟨#[47]⟩).run Tryd.prog W = .ok (.string (cameS n)) W := fun W => run_string_add_sum W _ _ (by have := digS_size n h; show _ + 1 ≤ _; omega)
  have HLO := hid (cameB_low (d := d) (n := n))
  have HTK := hid (cameB_take (d := d) (n := n))
  have HCU := hid (show cutS d n = d.extract (cameS n).size d.size from rfl)
  generalize cameS n = m at *
  generalize cutS d n = c at *
  generalize cameB d n = q at *
  by_cases hlt : d.size < m.size
  · have q1 : decide ((d.size : Int) < (m.size : Int)) = true := by simpa using hlt
    obtain rfl := HLO.out hlt
    go_enter Tryd.func34, Tryd.ntmps34
    go_wp2_with fail
    refine HC.out.mono ?_
    rintro e w1 ⟨rfl, hb⟩
    have HB := hid hb
    clear hb
    go_wp2
    go_ret2
    exact ⟨rfl, HB.out⟩
  · have q1 : decide ((d.size : Int) < (m.size : Int)) = false := by simp; omega
    have q2 : decide (d.size < m.size) = false := by simpa using hlt
    have q3 : (m.size : Int) ≤ (d.size : Int) := by omega
    have q5 : m.size ≤ d.size := by omega
    have q4 := HTK.out hlt
    clear hlt
    cases q with
    | false =>
      go_enter Tryd.func34, Tryd.ntmps34
      go_wp2_with fail
      refine HC.out.mono ?_
      rintro e w1 ⟨rfl, hb⟩
      have HB := hid hb
      clear hb
      go_wp2
      go_ret2
      exact ⟨rfl, HB.out⟩
    | true =>
      go_enter Tryd.func34, Tryd.ntmps34
      go_wp2_with fail
      refine HC.out.mono ?_
      rintro e w1 ⟨rfl, hb⟩
      have HB := hid hb
      clear hb
      go_wp2
      go_ret2
      exact ⟨by rw [HCU.out]; rfl, HB.out⟩
end Go.Proofs.YtnoaohlajllngaaDoor
