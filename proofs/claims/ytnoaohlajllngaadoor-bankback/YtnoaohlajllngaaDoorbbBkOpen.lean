/-
  What an argument's reading gives: purses, a string, a transfer.
-/
import Derived.Test.YtnoaohlajllngaaDoorbbStOpen
import Derived.Test.YtnoaohlajllngaaDoorbbBkTr
import Derived.ChangeMaps5
namespace Go.Proofs.YtnoaohlajllngaaDoor
open Go.ChangeShapes Go.WideShapes Go.ChangeAt Go.RowKit

set_option maxRecDepth 100000 in
theorem int_read {H : Type} {enc : TypeId × Value → H} {W : World} {base : Nat} {v : Value} {d : DataW H} {p : List MemPlace}
    (hval : Value.okWide Tryd.prog W .any base 3 v) (h : DataW.Trod enc Tryd.prog W 0 (fun _ => true) true 3 v d p) : ∃ z : Int, v = .int .i64 z ∧ z ≤ 9223372036854775807 := by
  obtain ⟨n, rfl⟩ := okWide_int Tryd.underlying3 hval
  obtain ⟨fuel, hf⟩ := h
  obtain ⟨z, g, _, f⟩ := DataW.trod_int Tryd.underlying3 hf
  obtain rfl : n = z := by simpa [Value.cells] using g
  refine ⟨n, rfl, ?_⟩
  have : -9223372036854775808 ≤ n ∧ n ≤ 9223372036854775807 := by simpa [Lit.wf, IntKind.min, IntKind.max, IntKind.signed, IntKind.bits] using f
  exact this.2
theorem cellsTr : Tryd.prog.cellsOf 25 = 4 := by kernel_rfl
theorem transfer_cells {H : Type} {enc : TypeId × Value → H} {W : World} {fuel : Nat} {c0 c1 c2 c3 : Value} {x : DataW H × List MemPlace}
    (hf : DataW.trod enc Tryd.prog W 0 (fun _ => true) true fuel 25 [c0, c1, c2, c3] = some x) (hsz : ∀ y ∈ x.1.weights Tryd.prog 25, y ≤ reachBytes) :
    ∃ q : Tr, (.agg #[c0, c1, c2, c3] : Value) = .agg #[.string q.denom, .int .u64 (q.amount : Int), .string q.sender, .string q.reader] ∧ q.fits := by
  obtain ⟨xs, n', _, hd, _, hlen, hfs⟩ := DataW.trod_struct Tryd.underlying25 hf
  have es : Tryd.prog.cellsOf 9 = 1 := by kernel_rfl
  have eu : Tryd.prog.cellsOf 23 = 1 := by kernel_rfl
  match xs, hlen with
  | [y0, y1, y2, y3], _ =>
    have t0 : DataW.trod enc Tryd.prog W 0 (fun _ => true) true n' 9 [c0] = some y0 := by
      have := hfs 0 _ rfl
      simpa [es, eu] using this
    have t1 : DataW.trod enc Tryd.prog W 0 (fun _ => true) true n' 23 [c1] = some y1 := by
      have := hfs 1 _ rfl
      simpa [es, eu] using this
    have t2 : DataW.trod enc Tryd.prog W 0 (fun _ => true) true n' 9 [c2] = some y2 := by
      have := hfs 2 _ rfl
      simpa [es, eu] using this
    have t3 : DataW.trod enc Tryd.prog W 0 (fun _ => true) true n' 9 [c3] = some y3 := by
      have := hfs 3 _ rfl
      simpa [es, eu] using this
    have hw : ∀ y, y ∈ y0.1.weights Tryd.prog 9 ∨ y ∈ y2.1.weights Tryd.prog 9 ∨ y ∈ y3.1.weights Tryd.prog 9 → y ≤ reachBytes := fun y hy => hsz y (by
      rw [hd]
      simp only [DataW.weights, Tryd.underlying25]
      simp [DataW.weightsEach]
      rcases hy with hy | hy | hy
      · exact .inl hy
      · exact .inr (.inr (.inl hy))
      · exact .inr (.inr (.inr hy)))
    obtain ⟨s0, g0, q0, _⟩ := DataW.trod_string Tryd.underlying9 t0
    obtain rfl : c0 = .string s0 := by simpa using g0
    have hs0 : s0.size ≤ 140737488351232 := by
      have := hw s0.size (.inl (by rw [q0]; simp [DataW.weights]))
      simpa [reachBytes] using this
    obtain ⟨s2, g2, q2, _⟩ := DataW.trod_string Tryd.underlying9 t2
    obtain rfl : c2 = .string s2 := by simpa using g2
    have hs2 : s2.size ≤ 140737488351232 := by
      have := hw s2.size ((.inr ∘ .inl) (by rw [q2]; simp [DataW.weights]))
      simpa [reachBytes] using this
    obtain ⟨s3, g3, q3, _⟩ := DataW.trod_string Tryd.underlying9 t3
    obtain rfl : c3 = .string s3 := by simpa using g3
    have hs3 : s3.size ≤ 140737488351232 := by
      have := hw s3.size ((.inr ∘ .inr) (by rw [q3]; simp [DataW.weights]))
      simpa [reachBytes] using this
    obtain ⟨z1, g1, _, f1⟩ := DataW.trod_int Tryd.underlying23 t1
    obtain ⟨n1, rfl, b1⟩ := num_of f1
    obtain rfl : c1 = .int .u64 n1 := by simpa using g1
    exact ⟨⟨s0, n1, s2, s3⟩, rfl, hs0, b1, hs2, hs3⟩
set_option maxRecDepth 100000 in
/-- an argument that reads as a transfer -/
theorem transfer_read {H : Type} {enc : TypeId × Value → H} {W : World} {base : Nat} {v : Value} {d : DataW H} {p : List MemPlace}
    (hval : Value.okWide Tryd.prog W .any base 25 v) (h : DataW.Trod enc Tryd.prog W 0 (fun _ => true) true 25 v d p) (hsz : ∀ y ∈ d.weights Tryd.prog 25, y ≤ reachBytes) :
    ∃ q : Tr, v = .agg #[.string q.denom, .int .u64 (q.amount : Int), .string q.sender, .string q.reader] ∧ q.fits := by
  obtain ⟨cs, rfl, hcs⟩ := okWide_struct Tryd.underlying25 hval
  rw [cellsTr] at hcs
  obtain ⟨l⟩ := cs
  match l, hcs with
  | [c0, c1, c2, c3], _ =>
    obtain ⟨fuel, hf⟩ := h
    exact transfer_cells (x := (d, p)) hf hsz
end Go.Proofs.YtnoaohlajllngaaDoor
