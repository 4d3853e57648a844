/-
  What the steps of a connection answer: not too great.
-/
import Derived.Test.YtooemgkjkngpcaaGreatDooronceCoInit
namespace Go.Proofs.YtooemgkjkngpcaaGreatDoor
open Go.RowKit

theorem conns_fits {s : St} {l : List Cn} (hf : s.fits) (hl : l.length < 2305843009213693952) : ({ s with conns := l } : St).fits := ⟨hf.1, hf.2.1, hl, hf.2.2.2⟩
theorem initN_start {s : St} {c o : Int} (h : initN s c o = 0) : startN s c = 0 := by
  unfold initN at h
  split at h
  · rename_i h1; exact absurd h h1
  · rename_i h1; simpa using h1
theorem tryN_start {s : St} {c o q z : Int} (h : tryN s c o q z = 0) : startN s c = 0 := by
  unfold tryN at h
  split at h
  · rename_i h1; exact absurd h h1
  · rename_i h1; simpa using h1
end Go.Proofs.YtooemgkjkngpcaaGreatDoor
