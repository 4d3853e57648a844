/-
  What slices.Grow and slices.Concat of bytes, and package book's fourBytes, answer.
  What the document's Leaf, Node and Top answer: digests, in new memory. What the document's Tree and Root answer: the digest of pairs, by halves; a book's digest, or what is wrong with it. What the document's Root answers: a book's digest, in new memory; or what is wrong with it.
  What package book's pairBytes, forkBytes and bookBytes answer: the bytes that are summed, in new memory.
  What package book's tree answers: the digest of pairs, by halves.
-/
import Derived.Test.YtooemgkjkngpcaaDoorBookMath
import Derived.Lib.AppendZerosOnto
import Derived.Test.YtooemgkjkngpcaaDoorRef1All
import Derived.Test.YtooemgkjkngpcaaDoorPairsAll
import Derived.Deep.RegionWith
import Derived.Deep.Slices
import Derived.Deep.RegionHeld3
namespace Go.Proofs.YtooemgkjkngpcaaDoor
open Go.RowKit

end Go.Proofs.YtooemgkjkngpcaaDoor
namespace Go.Proofs.YtooemgkjkngpcaaDoor
open Go.RowKit

theorem letter_new (w : World) (b : BitVec 8) (y : Int) (hy : y = b8 b) : Bytes (w.alloc (.cells #[.int .u8 y] 5)) (w.heap.size + 1) (.slice (some ⟨w.heap.size, 0, none⟩) 1 1) [b] := by
  subst hy
  exact bytes_new w [b] 5 (0, 0) 1 (by simp)
theorem drewN_belowT (w : World) (n N : Nat) : Below N w (w.drewN n) := ⟨rfl, rfl, rfl, Nat.le_refl _, fun _ _ => rfl⟩
theorem treeD_len (l : List Pr) : (treeD l).length ≤ 32 := by
  by_cases h : 2 ≤ l.length
  · rw [treeD_more l h]
    unfold nodeD
    rw [sha_length]
    exact Nat.le_refl _
  · match l, h with
    | [], _ => rw [treeD_nil]; simp
    | [p], _ => rw [treeD_one]; unfold leafD; rw [sha_length]; exact Nat.le_refl _
    | _ :: _ :: _, h => simp at h
/-- keys and values are short -/
def PrV.short (q : PrV) : Prop := q.p.key.length ≤ 100000 ∧ q.p.val.length ≤ 100000
theorem pairs_src {w : World} {N : Nat} {sv : Value} {l : List Pr} (h : Pairs w N sv l) : ∃ ps : List PrV, ps.map (·.p) = l ∧ SrcPr w N sv ps ∧ ∀ q ∈ ps, q.ok w N := by
  rcases h with ⟨rfl, rfl⟩ | ⟨a, cap, rfl, rfl⟩ | ⟨b, off, cap, rfl, hc, hcell⟩
  · exact ⟨[], rfl, .inl ⟨rfl, rfl⟩, fun q hq => by simp at hq⟩
  · exact ⟨[], rfl, .inr (.inl ⟨a, cap, rfl, rfl⟩), fun q hq => by simp at hq⟩
  · have each : ∀ i, i < l.length → ∃ x : PrV, l[i]? = some x.p ∧ b < N ∧ w.cell? ⟨b, off + i * 2, none⟩ = some x.k ∧ w.cell? ⟨b, off + i * 2 + 1, none⟩ = some x.v ∧ x.ok w N := fun i hi => by
      obtain ⟨hb, vk, vv, d0, d1, d2, d3⟩ := hcell i l[i] (List.getElem?_eq_getElem hi)
      exact ⟨⟨l[i], vk, vv⟩, List.getElem?_eq_getElem hi, hb, d0, d1, d2, d3⟩
    haveI : Inhabited PrV := ⟨⟨⟨[], []⟩, undef, undef⟩⟩
    obtain ⟨f, hf⟩ := Deep.choose_lt each
    refine ⟨(List.range l.length).map f, ?_, ?_, ?_⟩
    · apply List.ext_getElem?
      intro i
      by_cases hi : i < l.length
      · rw [List.getElem?_map, List.getElem?_map, List.getElem?_range hi, (hf i hi).1]
        rfl
      · rw [List.getElem?_eq_none (by simp; omega), List.getElem?_eq_none (by omega)]
    · refine .inr (.inr ⟨b, off, cap, by simp, by simpa using hc, fun i q hq => ?_⟩)
      have hi : i < l.length := by have := (List.getElem?_eq_some_iff.1 hq).1; simpa using this
      obtain rfl : f i = q := by rw [List.getElem?_map, List.getElem?_range hi] at hq; simpa using hq
      exact ⟨(hf i hi).2.1, (hf i hi).2.2.1, (hf i hi).2.2.2.1⟩
    · intro q hq
      obtain ⟨i, hi, rfl⟩ := List.mem_map.1 hq
      exact (hf i (List.mem_range.1 hi)).2.2.2.2
theorem wrongL_short (l : List Pr) (n : Nat) (c : Int) (i : Nat) (hn : l.length = n) (h : wrongL l = (c, i)) (hc : c = 0) : n ≤ 200 ∧ ∀ p ∈ l, p.key.length ≤ 100000 ∧ p.val.length ≤ 100000 := by
  subst hc
  unfold wrongL at h
  split at h
  · simp at h
  · have := (wrongGo_ok l 0 none i h).2.1
    exact ⟨by omega, fun p hp => by have := this p hp; omega⟩
end Go.Proofs.YtooemgkjkngpcaaDoor
namespace Go.Proofs.YtooemgkjkngpcaaDoor
open Go.RowKit

end Go.Proofs.YtooemgkjkngpcaaDoor
namespace Go.Proofs.YtooemgkjkngpcaaDoor
open Go.RowKit

end Go.Proofs.YtooemgkjkngpcaaDoor
