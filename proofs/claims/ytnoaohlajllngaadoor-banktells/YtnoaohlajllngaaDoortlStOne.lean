/-
  What package state's from, isWord, wrongConn, wrongChan, wrongMark and wrongPurse answer: what is wrong with one entry of a state.
-/
import Derived.Test.YtnoaohlajllngaaDoortlStMem
import Derived.Deep.RegionHeld3
import Derived.Deep.RegionWith
namespace Go.Proofs.YtnoaohlajllngaaDoor
open Go.RowKit

theorem isWord_any (s : ByteArray) (w : World) : Calls Tryd.prog 38 #[.string s] w fun e w' => e = .returned (.bool (wordB s)) ∧ w' = w := by
  unfold wordB
  by_cases h1 : 1 ≤ s.size
  · have e1 : decide ((1 : Int) ≤ (s.size : Int)) = true := by simp; omega
    have e1' : decide (1 ≤ s.size) = true := by simpa using h1
    by_cases h2 : s.size ≤ 40
    · have e2 : decide ((s.size : Int) ≤ 40) = true := by simp; omega
      have e2' : decide (s.size ≤ 40) = true := by simpa using h2
      clear h1 h2
      go_enter Tryd.func38, Tryd.ntmps38
      go_wp2
      go_ret
      exact ⟨by rw [e1', e2']; first | done | rfl, rfl⟩
    · have e2 : decide ((s.size : Int) ≤ 40) = false := by simp; omega
      have e2' : decide (s.size ≤ 40) = false := by simpa using h2
      clear h1 h2
      go_enter Tryd.func38, Tryd.ntmps38
      go_wp2
      go_ret
      exact ⟨by rw [e1', e2']; first | done | rfl, rfl⟩
  · have e1 : decide ((1 : Int) ≤ (s.size : Int)) = false := by simp; omega
    have e1' : decide (1 ≤ s.size) = false := by simpa using h1
    clear h1
    go_enter Tryd.func38, Tryd.ntmps38
    go_wp2
    go_ret
    exact ⟨by rw [e1']; first | done | rfl, rfl⟩
end Go.Proofs.YtnoaohlajllngaaDoor
