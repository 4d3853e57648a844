/-
  What package state's tooMany answers.
-/
import Derived.Test.YtbgdpfeobklnhaaGreatDoorgoStMem
import Derived.Deep.RegionHeld3
import Derived.Deep.RegionWith
namespace Go.Proofs.YtbgdpfeobklnhaaGreatDoor
open Go.RowKit

set_option maxRecDepth 100000 in
set_option maxHeartbeats 4000000 in
theorem tooMany_any (n : ByteArray) (h t : Int) (o1 o2 o3 o4 o5 o6 o7 : Option Addr) (n1 n2 n3 n4 n5 n6 n7 c1 c2 c3 c4 c5 c6 c7 : Nat) (w : World) :
    Calls Tryz.prog 40 #[.agg #[.string n, .int .i64 h, .int .i64 t, .slice o1 n1 c1, .slice o2 n2 c2, .slice o3 n3 c3, .slice o4 n4 c4, .slice o5 n5 c5, .slice o6 n6 c6, .slice o7 n7 c7]] w fun e w' => e = .returned (.bool (decide (4 < n1 ∨ 8 < n2 ∨ 8 < n3 ∨ 50 < n4 ∨ 50 < n5 ∨ 50 < n6 ∨ 60 < n7))) ∧ Below w.heap.size w w' := by
  obtain ⟨w0, hw0⟩ : ∃ w0, w.alloc (.cells #[.string n, .int .i64 h, .int .i64 t, .slice o1 n1 c1, .slice o2 n2 c2, .slice o3 n3 c3, .slice o4 n4 c4, .slice o5 n5 c5, .slice o6 n6 c6, .slice o7 n7 c7] 28) = w0 := ⟨_, rfl⟩
  have HB0 := hid (show Below w.heap.size w w0 by rw [← hw0]; exact (Below.refl _ _).alloc (Nat.le_refl _) _)
  have hr0 := (show Row w0 w.heap.size 28 [.string n, .int .i64 h, .int .i64 t, .slice o1 n1 c1, .slice o2 n2 c2, .slice o3 n3 c3, .slice o4 n4 c4, .slice o5 n5 c5, .slice o6 n6 c6, .slice o7 n7 c7] by rw [← hw0]; exact Row.new _ _ _)
  have k3 := hr0.cell 3
  have k4 := hr0.cell 4
  have k5 := hr0.cell 5
  have k6 := hr0.cell 6
  have k7 := hr0.cell 7
  have k8 := hr0.cell 8
  have k9 := hr0.cell 9
  clear hr0
  by_cases h1 : 4 < n1
  · have e1 : decide ((4 : Int) < (n1 : Int)) = true := by simp; omega
    go_enter Tryz.func40, Tryz.ntmps40
    go_wp2
    all_goals (go_ret; refine ⟨congrArg (fun b => Ending.returned (.bool b)) ?_, HB0.out⟩; first | (rw [Bool.eq_iff_iff]; simp; omega) | (simp; omega))
  · have e1 : decide ((4 : Int) < (n1 : Int)) = false := by simp; omega
    by_cases h2 : 8 < n2
    · have e2 : decide ((8 : Int) < (n2 : Int)) = true := by simp; omega
      go_enter Tryz.func40, Tryz.ntmps40
      go_wp2
      all_goals (go_ret; refine ⟨congrArg (fun b => Ending.returned (.bool b)) ?_, HB0.out⟩; first | (rw [Bool.eq_iff_iff]; simp; omega) | (simp; omega))
    · have e2 : decide ((8 : Int) < (n2 : Int)) = false := by simp; omega
      by_cases h3 : 8 < n3
      · have e3 : decide ((8 : Int) < (n3 : Int)) = true := by simp; omega
        go_enter Tryz.func40, Tryz.ntmps40
        go_wp2
        all_goals (go_ret; refine ⟨congrArg (fun b => Ending.returned (.bool b)) ?_, HB0.out⟩; first | (rw [Bool.eq_iff_iff]; simp; omega) | (simp; omega))
      · have e3 : decide ((8 : Int) < (n3 : Int)) = false := by simp; omega
        go_enter Tryz.func40, Tryz.ntmps40
        go_wp2
        all_goals (go_ret; refine ⟨congrArg (fun b => Ending.returned (.bool b)) ?_, HB0.out⟩; first | (rw [Bool.eq_iff_iff]; simp; omega) | (simp; omega))
end Go.Proofs.YtbgdpfeobklnhaaGreatDoor
