/-
  What bytes.Equal answers: whether two lists of bytes are the same.
  What the document's Same answers of two slices of bytes: whether they read alike; it only reads.
-/
import Derived.Test.YtnoaohlajllngaatuMemB
import Derived.Laws.BytesArg
import Derived.Lib.Bytes
import Derived.Lib.SliceRun
namespace Go.Proofs.Ytnoaohlajllngaa
open Go.RowKit

theorem conv_str {w : World} {N : Nat} {sv : Value} {l : List (BitVec 8)} (h : Bytes w N sv l) : (convert 38 9 sv).run Try.prog w = .ok (.string (strOfNums (l.map b8))) w := by
  have zero : ∀ (p : Option Addr) (c : Nat), (convert 38 9 (.slice p 0 c)).run Try.prog w = .ok (.string (strOfNums [])) w := fun p c => by
    rw [run_convert_bytes_string w 38 9 5 _ 0 c Try.underlying38 Try.underlying5 Try.underlying9]
    cases p <;> simp [Conv.bytesToString, loadCells]
    all_goals rfl
  rcases h with ⟨rfl, rfl⟩ | ⟨a, cap, rfl, rfl⟩ | ⟨b, off, cap, rfl, _, hc⟩
  · exact zero _ _
  · exact zero _ _
  · refine run_convert_bytes_arg w 38 5 Try.underlying38 Try.underlying5 b off l.length cap (l.map b8) (by simp) (fun i hi => ?_) 9 Try.underlying9
    rw [(hc i hi).2]
    simp [hi]
end Go.Proofs.Ytnoaohlajllngaa
namespace Go.Proofs.Ytnoaohlajllngaa
open Go.RowKit

end Go.Proofs.Ytnoaohlajllngaa
