/-
  What bytes.Equal answers: whether two lists of bytes are the same.
  What the document's Same answers of two slices of bytes: whether they read alike; it only reads.
-/
import Derived.Test.YtnoaohlajllngaaDoortlMemB
import Derived.Laws.BytesArg
import Derived.Lib.Bytes
import Derived.Lib.SliceRun
namespace Go.Proofs.YtnoaohlajllngaaDoor
open Go.RowKit

theorem conv_str {w : World} {N : Nat} {sv : Value} {l : List (BitVec 8)} (h : Bytes w N sv l) : (convert 26 9 sv).run Tryd.prog w = .ok (.string (strOfNums (l.map b8))) w := by
  have zero : ∀ (p : Option Addr) (c : Nat), (convert 26 9 (.slice p 0 c)).run Tryd.prog w = .ok (.string (strOfNums [])) w := fun p c => by
    rw [run_convert_bytes_string w 26 9 5 _ 0 c Tryd.underlying26 Tryd.underlying5 Tryd.underlying9]
    cases p <;> simp [Conv.bytesToString, loadCells]
    all_goals rfl
  rcases h with ⟨rfl, rfl⟩ | ⟨a, cap, rfl, rfl⟩ | ⟨b, off, cap, rfl, _, hc⟩
  · exact zero _ _
  · exact zero _ _
  · refine run_convert_bytes_arg w 26 5 Tryd.underlying26 Tryd.underlying5 b off l.length cap (l.map b8) (by simp) (fun i hi => ?_) 9 Tryd.underlying9
    rw [(hc i hi).2]
    simp [hi]
end Go.Proofs.YtnoaohlajllngaaDoor
namespace Go.Proofs.YtnoaohlajllngaaDoor
open Go.RowKit

end Go.Proofs.YtnoaohlajllngaaDoor
