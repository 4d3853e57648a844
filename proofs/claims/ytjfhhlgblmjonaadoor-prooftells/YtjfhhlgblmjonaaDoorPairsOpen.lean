/-
  What an argument's reading gives, where it is a slice of pairs.
-/
import Derived.Test.YtjfhhlgblmjonaaDoorBytesOpen
import Derived.Test.YtjfhhlgblmjonaaDoorPairsAll
import Derived.Deep.Slices
import Derived.Deep.Strs
import Derived.Deep.FieldsWide
namespace Go.Proofs.YtjfhhlgblmjonaaDoor
open Go.ChangeShapes Go.WideShapes Go.ChangeAt Go.RowKit

theorem addr_addP (b off i : Nat) : (⟨b, off, none⟩ : Addr).add i = ⟨b, off + i, none⟩ := by unfold Addr.add; split <;> simp_all
/-- a cell that reads as a slice of bytes -/
theorem bytes_cell_sizedP {H : Type} {enc : TypeId × Value → H} {W : World} {fuel : Nat} {v : Value} {x : DataW H × List MemPlace}
    (hf : DataW.trod enc Tryd.prog W 0 (fun _ => true) true fuel 23 [v] = some x) (hsz : ∀ y ∈ x.1.weights Tryd.prog 23, y ≤ reachBytes) :
    ∃ l, Bytes W W.heap.size v l ∧ l.length ≤ 140737488351232 := by
  rcases open_ints Tryd.underlying23 Tryd.underlying5 (by kernel_rfl) hf with ⟨hcs, _⟩ | ⟨a, len, cap, zs, hcs, _⟩
  · obtain rfl : v = .slice none 0 0 := by simpa using hcs
    exact ⟨[], .inl ⟨rfl, rfl⟩, by simp⟩
  · obtain rfl : v = .slice (some a) len cap := by simpa using hcs
    refine bytes_read_len (a0 := some a) (len0 := len) (cap0 := cap) (x := x) hf (fun elems spare he => ?_)
    refine hsz _ ?_
    rw [he]
    simp [DataW.weights, Tryd.underlying23]
theorem weights_all_memP {H : Type} (P : Program) (e : TypeId) (l : List (DataW H)) (d : DataW H) (hd : d ∈ l) (y : Nat) (hy : y ∈ d.weights P e) : y ∈ DataW.weightsAll P e l := by
  induction l with
  | nil => simp at hd
  | cons a r ih =>
    simp only [DataW.weightsAll, List.mem_append]
    rcases List.mem_cons.1 hd with rfl | h
    · exact .inl hy
    · exact .inr (ih h)
theorem cells_two {W : World} {a : Addr} {cs : List Value} (h : W.cells? 0 a 2 = some cs) : ∃ x y, cs = [x, y] ∧ W.cell? a = some x ∧ W.cell? (a.add 1) = some y := by
  obtain ⟨_, hl, hc⟩ := World.cells?_some h
  match cs, hl with
  | [x, y], _ =>
    refine ⟨x, y, rfl, ?_, hc 1 (by omega)⟩
    have h0 := hc 0 (by omega)
    rwa [show a.add 0 = a by unfold Addr.add; split <;> simp_all] at h0
/-- an argument that reads as a slice of pairs -/
theorem pairs_read {H : Type} {enc : TypeId × Value → H} {W : World} {fuel : Nat} {v : Value} {x : DataW H × List MemPlace}
    (hf : DataW.trod enc Tryd.prog W 0 (fun _ => true) true fuel 22 [v] = some x) (hsz : ∀ y ∈ x.1.weights Tryd.prog 22, y ≤ reachBytes) :
    ∃ l, Pairs W W.heap.size v l ∧ (∀ p ∈ l, p.fits) ∧ l.length < 2305843009213693952 := by
  rcases Deep.open_slice Tryd.underlying22 hf with ⟨hcs, _⟩ | ⟨a, len, cap, m, n, D, Pl, hcs, _, hl, hm, hmm, hx, hel⟩
  · obtain rfl : v = .slice none 0 0 := by simpa using hcs
    exact ⟨[], .inl ⟨rfl, rfl⟩, by simp, by simp⟩
  · obtain rfl : v = .slice (some a) len cap := by simpa using hcs
    have hm' : m = cap := by simpa using hmm
    subst hm'
    have hc2 : Tryd.prog.cellsOf 58 = 2 := by kernel_rfl
    have hb48 : Tryd.prog.bytesOf 58 = 48 := by kernel_rfl
    have hlen : len < 2305843009213693952 := by
      have := hsz ((len + (m - len)) * 48) (by rw [hx]; simp [DataW.weights, Tryd.underlying22, hb48])
      simp only [reachBytes] at this
      omega
    have each : ∀ i, i < len → ∃ p : PrV, W.cell? (a.add (i * 2)) = some p.k ∧ W.cell? ((a.add (i * 2)).add 1) = some p.v ∧ p.ok W W.heap.size ∧ p.p.fits := fun i hi => by
      obtain ⟨cs', h1, h2⟩ := hel i (by omega)
      rw [hc2] at h1
      obtain ⟨c0, c1, rfl, g0, g1⟩ := cells_two h1
      obtain ⟨y0, y1, n', hd, _, t0, t1⟩ := trod_struct2 Tryd.underlying58 h2
      have e3 : Tryd.prog.cellsOf 23 = 1 := by kernel_rfl
      have t0' : DataW.trod enc Tryd.prog W 0 (fun _ => true) true n' 23 [c0] = some y0 := by rw [show [c0] = (([c0, c1].drop 0).take (Tryd.prog.cellsOf 23)) by rw [e3]; rfl]; exact t0
      have t1' : DataW.trod enc Tryd.prog W 0 (fun _ => true) true n' 23 [c1] = some y1 := by rw [show [c1] = (([c0, c1].drop 1).take (Tryd.prog.cellsOf 23)) by rw [e3]; rfl]; exact t1
      have hD : D i = .agg [y0.1, y1.1] := congrArg Prod.fst hd
      have hw : ∀ y, y ∈ y0.1.weights Tryd.prog 23 ∨ y ∈ y1.1.weights Tryd.prog 23 → y ≤ reachBytes := fun y hy => hsz y (by
        rw [hx]
        simp only [DataW.weights, Tryd.underlying22, List.mem_cons, List.mem_append]
        refine .inr (.inl (weights_all_memP _ _ _ (D i) (List.mem_map.2 ⟨i, List.mem_range.2 hi, rfl⟩) y ?_))
        rw [hD]
        simp only [DataW.weights, Tryd.underlying58]
        simp [DataW.weightsEach]
        exact hy)
      obtain ⟨l0, hb0, hl0⟩ := bytes_cell_sizedP t0' (fun y hy => hw y (.inl hy))
      obtain ⟨l1, hb1, hl1⟩ := bytes_cell_sizedP t1' (fun y hy => hw y (.inr hy))
      exact ⟨⟨⟨l0, l1⟩, c0, c1⟩, g0, g1, ⟨hb0, hb1⟩, ⟨hl0, hl1⟩⟩
    haveI : Inhabited PrV := ⟨⟨⟨[], []⟩, undef, undef⟩⟩
    obtain ⟨f, hfs⟩ := Deep.choose_lt each
    refine ⟨(List.range len).map fun i => (f i).p, ?_, ?_, by simpa using hlen⟩
    · by_cases h0 : len = 0
      · subst h0
        exact .inr (.inl ⟨a, m, rfl, rfl⟩)
      · obtain ⟨b, off, spot⟩ := a
        have hc := (hfs 0 (by omega)).1
        have hspot : spot = none := by simpa [Addr.add] using World.cell?_spot hc
        subst hspot
        refine .inr (.inr ⟨b, off, m, by simp, by simpa using hl, fun i p hp => ?_⟩)
        have hi' : i < len := by have := (List.getElem?_eq_some_iff.1 hp).1; simpa using this
        obtain rfl : (f i).p = p := by
          rw [List.getElem?_map, List.getElem?_range hi'] at hp
          simpa using hp
        obtain ⟨h1, h2, h3, _⟩ := hfs i hi'
        rw [addr_addP] at h1 h2
        rw [addr_addP] at h2
        exact ⟨block_lt_of_cell h1, (f i).k, (f i).v, h1, h2, h3.1, h3.2⟩
    · intro p hp
      obtain ⟨i, hi, rfl⟩ := List.mem_map.1 hp
      exact (hfs i (List.mem_range.1 hi)).2.2.2
end Go.Proofs.YtjfhhlgblmjonaaDoor
