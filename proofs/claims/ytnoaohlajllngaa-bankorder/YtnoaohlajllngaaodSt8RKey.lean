/-
  The document's From, Digits and Key.
-/
import Derived.Test.YtnoaohlajllngaaodStMath
import Derived.Test.YtnoaohlajllngaaodHdMems
import Derived.Test.YtnoaohlajllngaaodWireBoth
import Derived.Test.YtnoaohlajllngaaodRegions
import Derived.Test.YtnoaohlajllngaaodRef1All
import Derived.Test.YtnoaohlajllngaaodMemB
import Derived.Test.YtnoaohlajllngaaodSealGood
import Derived.Test.YtnoaohlajllngaaodStShelf
import Derived.Test.YtnoaohlajllngaaodStMem
import Derived.Deep.RegionHeld3
import Derived.Deep.RegionWith
import Derived.Lib.AppendIntMem
import Derived.Lib.FrozenHead
import Derived.Lib.ItoaLen
import Derived.Lib.ConvBytes
import Derived.Laws.IdiomStrings
import Derived.Laws.MakeOwn
import Derived.Laws.BytesArg
import Derived.Lib.Bytes
import Derived.Lib.SliceRun
namespace Go.Proofs.Ytnoaohlajllngaa
open Go.RowKit

set_option maxRecDepth 100000 in
set_option maxHeartbeats 2000000 in
theorem refFrom_any (lo : Int) (ns : List Int) (g n : Nat) (w : World) (hr : Row w g 3 (ns.map (Value.int .i64))) (hn : n = ns.length) (hl : n ≤ 10) :
    Calls Try.prog 35 #[.int .i64 lo, .slice (some ⟨g, 0, none⟩) n n] w fun e w' => e = .returned (.bool (ns.all (fromB lo))) ∧ w' = w := by
  have HR := hid hr
  have HN := hid hn
  clear hr hn
  go_enter Try.func35, Try.ntmps35
  go_wp2_with fail
  go_loopw [9] (fun i wr => ∃ k : Nat, k ≤ n ∧ i = .int .i64 (k : Int) ∧ wr = w ∧ Hid (ns.all (fromB lo) = (ns.drop k).all (fromB lo))) (fun i _ => n - (intOf i).toNat)
  case atStart => exact ⟨0, by omega, rfl, rfl, hid (by simp)⟩
  case round =>
    obtain ⟨k, hk', rfl, rfl, HI⟩ := hrel
    by_cases hlt : k < n
    · obtain ⟨x, hx⟩ : ∃ x, ns[k]? = some x := ⟨ns[k]'(by rw [← HN.out]; exact hlt), List.getElem?_eq_getElem _⟩
      have hlt' : (k : Int) < (n : Int) := by omega
      have c0 : wr.cell? ⟨g, k, none⟩ = some (.int .i64 x) := by rw [HR.out.cell, List.getElem?_map, hx]; rfl
      have HX := hid (show (ns.drop k).all (fromB lo) = (fromB lo x && (ns.drop (k + 1)).all (fromB lo)) by
        obtain ⟨h1, h2⟩ := List.getElem?_eq_some_iff.1 hx
        rw [List.drop_eq_getElem_cons h1, h2, List.all_cons])
      clear hx
      by_cases q1 : x < lo
      · have e1 : decide (x < lo) = true := by simpa using q1
        have HF := hid (show fromB lo x = false by unfold fromB; simp; omega)
        clear q1
        go_wp2
        go_ret
        exact ⟨by rw [HI.out, HX.out, HF.out]; rfl, rfl⟩
      · have e1 : decide (x < lo) = false := by simpa using q1
        by_cases q2 : 1000000000000 < x
        · have e2 : decide (1000000000000 < x) = true := by simpa using q2
          have HF := hid (show fromB lo x = false by unfold fromB; simp; omega)
          clear q1 q2
          go_wp2
          go_ret
          exact ⟨by rw [HI.out, HX.out, HF.out]; rfl, rfl⟩
        · have e2 : decide (1000000000000 < x) = false := by simpa using q2
          have HF := hid (show fromB lo x = true by unfold fromB; simp; omega)
          clear q1 q2
          go_wp2
          go_roundw
          case rel => exact ⟨k + 1, by omega, by go_num, by first | trivial | rfl, hid (by rw [HI.out, HX.out, HF.out]; rfl)⟩
          case measure => simp [intOf]; omega
    · have hge : decide ((k : Int) < (n : Int)) = false := by simp; omega
      have HE := hid (show (ns.drop k).all (fromB lo) = true by rw [List.drop_eq_nil_of_le (by rw [← HN.out]; omega)]; rfl)
      go_wp2
      go_ret
      exact ⟨by rw [HI.out, HE.out]; rfl, rfl⟩
end Go.Proofs.Ytnoaohlajllngaa
