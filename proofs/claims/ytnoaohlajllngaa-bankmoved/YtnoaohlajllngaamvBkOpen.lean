/-
  What an argument's reading gives: purses, a string, a transfer.
-/
import Derived.Test.YtnoaohlajllngaamvStOpen
import Derived.Test.YtnoaohlajllngaamvMemB
import Derived.ChangeMaps5
namespace Go.Proofs.Ytnoaohlajllngaa
open Go.ChangeShapes Go.WideShapes Go.ChangeAt Go.RowKit

set_option maxRecDepth 100000 in
theorem string_read {H : Type} {enc : TypeId × Value → H} {W : World} {base : Nat} {v : Value} {d : DataW H} {p : List MemPlace}
    (hval : Value.okWide Try.prog W .any base 9 v) (h : DataW.Trod enc Try.prog W 0 (fun _ => true) true 9 v d p) (hsz : ∀ y ∈ d.weights Try.prog 9, y ≤ reachBytes) : ∃ s : ByteArray, v = .string s ∧ s.size ≤ 140737488351232 := by
  obtain ⟨s, rfl, rfl, -, -⟩ := ChangeMaps.open_string Try.underlying9 hval h
  refine ⟨s, rfl, ?_⟩
  have := hsz s.size (by simp [DataW.weights])
  simpa [reachBytes] using this
set_option maxRecDepth 100000 in
theorem word_read {H : Type} {enc : TypeId × Value → H} {W : World} {base : Nat} {v : Value} {d : DataW H} {p : List MemPlace}
    (hval : Value.okWide Try.prog W .any base 23 v) (h : DataW.Trod enc Try.prog W 0 (fun _ => true) true 23 v d p) : ∃ n : Nat, v = .int .u64 (n : Int) ∧ n < 18446744073709551616 := by
  obtain ⟨n, rfl⟩ := okWide_int Try.underlying23 hval
  obtain ⟨fuel, hf⟩ := h
  obtain ⟨z, g, _, f⟩ := DataW.trod_int Try.underlying23 hf
  obtain ⟨k, rfl, hk⟩ := num_of f
  obtain rfl : n = k := by simpa [Value.cells] using g
  exact ⟨k, rfl, hk⟩
end Go.Proofs.Ytnoaohlajllngaa
