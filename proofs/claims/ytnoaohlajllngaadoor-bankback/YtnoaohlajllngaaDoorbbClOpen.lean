/-
  What an argument's reading gives, where it is a slice of validators, of votes, of slices of bytes, a header or a signed header.
  What an argument's reading gives, where it is what is known of a block, a client or an update.
-/
import Derived.Test.YtnoaohlajllngaaDoorbbMemB
import Derived.Test.YtnoaohlajllngaaDoorbbHdMems
import Derived.Test.YtnoaohlajllngaaDoorbbClMem
import Derived.Deep.Slices
import Derived.Deep.Strs
import Derived.Deep.FieldsWide
namespace Go.Proofs.YtnoaohlajllngaaDoor
open Go.ChangeShapes Go.WideShapes Go.ChangeAt Go.RowKit

theorem addr_addH (b off i : Nat) : (⟨b, off, none⟩ : Addr).add i = ⟨b, off + i, none⟩ := by unfold Addr.add; split <;> simp_all
theorem weights_all_memH {H : Type} (P : Program) (e : TypeId) (l : List (DataW H)) (d : DataW H) (hd : d ∈ l) (y : Nat) (hy : y ∈ d.weights P e) : y ∈ DataW.weightsAll P e l := by
  induction l with
  | nil => simp at hd
  | cons a r ih =>
    simp only [DataW.weightsAll, List.mem_append]
    rcases List.mem_cons.1 hd with rfl | h
    · exact .inl hy
    · exact .inr (ih h)
/-- rows of k cells, each of which reads -/
theorem recs_of {W : World} {a : Addr} {len m k : Nat} {α : Type} [Inhabited α] (row : α → List Value) (P : α → Prop) (hk : 0 < k) (hrow : ∀ r, (row r).length = k) (hl : len ≤ m)
    (each : ∀ i, i < len → ∃ r, W.cells? 0 (a.add (i * k)) k = some (row r) ∧ P r) : ∃ l : List α, Recs W W.heap.size (.slice (some a) len m) k (l.map row) ∧ (∀ r ∈ l, P r) ∧ l.length = len := by
  obtain ⟨f, hfs⟩ := Deep.choose_lt each
  refine ⟨(List.range len).map f, ?_, fun r hr => ?_, by simp⟩
  · by_cases h0 : len = 0
    · subst h0
      exact .inr (.inl ⟨a, m, rfl, rfl⟩)
    · have cell : ∀ i, i < len → ∀ j, j < k → W.cell? ((a.add (i * k)).add j) = (row (f i))[j]? := fun i hi j hj => (World.cells?_some (hfs i hi).1).2.2 j hj
      obtain ⟨b, off, spot⟩ := a
      have hc := cell 0 (by omega) 0 hk
      rw [List.getElem?_eq_getElem (by rw [hrow]; exact hk)] at hc
      have hspot : spot = none := by simpa [Addr.add] using World.cell?_spot hc
      subst hspot
      refine .inr (.inr ⟨b, off, m, by simp, by simpa using hl, fun i r hr => ?_⟩)
      have hi : i < len := by have := (List.getElem?_eq_some_iff.1 hr).1; simpa using this
      obtain rfl : row (f i) = r := by
        rw [List.getElem?_map, List.getElem?_map, List.getElem?_range hi] at hr
        simpa using hr
      have hcell : ∀ j x, (row (f i))[j]? = some x → W.cell? ⟨b, off + i * k + j, none⟩ = some x := fun j x hx => by
        have hj : j < k := by have := (List.getElem?_eq_some_iff.1 hx).1; rwa [hrow] at this
        have := cell i hi j hj
        rwa [addr_addH, addr_addH, hx] at this
      refine ⟨block_lt_of_cell (hcell 0 _ (List.getElem?_eq_getElem (by rw [hrow]; exact hk))), hcell⟩
  · obtain ⟨i, hi, rfl⟩ := List.mem_map.1 hr
    exact (hfs i (List.mem_range.1 hi)).2
theorem num_of {z : Int} (h : (Lit.int .u64 z).wf = true) : ∃ n : Nat, z = n ∧ n < 18446744073709551616 := by
  have : 0 ≤ z ∧ z < 18446744073709551616 := by
    simp [Lit.wf, IntKind.min, IntKind.max, IntKind.signed, IntKind.bits] at h
    omega
  exact ⟨z.toNat, by omega, by omega⟩
end Go.Proofs.YtnoaohlajllngaaDoor
namespace Go.Proofs.YtnoaohlajllngaaDoor
open Go.ChangeShapes Go.WideShapes Go.ChangeAt Go.RowKit

end Go.Proofs.YtnoaohlajllngaaDoor
