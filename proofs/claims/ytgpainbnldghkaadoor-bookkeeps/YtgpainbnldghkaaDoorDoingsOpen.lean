/-
  What an argument's reading gives, where it is a slice of doings, or a doing.
-/
import Derived.Test.YtgpainbnldghkaaDoorPairsOpen
import Derived.Test.YtgpainbnldghkaaDoorDoingsMem
namespace Go.Proofs.YtgpainbnldghkaaDoor
open Go.ChangeShapes Go.WideShapes Go.ChangeAt Go.RowKit

theorem cells_threeP {W : World} {a : Addr} {cs : List Value} (h : W.cells? 0 a 3 = some cs) : ∃ x y z, cs = [x, y, z] ∧ W.cell? a = some x ∧ W.cell? (a.add 1) = some y ∧ W.cell? (a.add 2) = some z := by
  obtain ⟨_, hl, hc⟩ := World.cells?_some h
  match cs, hl with
  | [x, y, z], _ =>
    refine ⟨x, y, z, rfl, ?_, hc 1 (by omega), hc 2 (by omega)⟩
    have h0 := hc 0 (by omega)
    rwa [show a.add 0 = a by unfold Addr.add; split <;> simp_all] at h0
/-- a doing's three cells -/
theorem doing_cells {H : Type} {enc : TypeId × Value → H} {W : World} {fuel : Nat} {c0 c1 c2 : Value} {x : DataW H × List MemPlace}
    (hf : DataW.trod enc Tryd.prog W 0 (fun _ => true) true fuel 39 [c0, c1, c2] = some x) (hsz : ∀ y ∈ x.1.weights Tryd.prog 39, y ≤ reachBytes) :
    ∃ d : Dg, c2 = .bool d.gone ∧ Bytes W W.heap.size c0 d.key ∧ Bytes W W.heap.size c1 d.val ∧ d.fits := by
  obtain ⟨y0, y1, y2, n', hd, _, t0, t1, t2⟩ := Deep.trod_struct3 Tryd.underlying39 hf
  have e3 : Tryd.prog.cellsOf 24 = 1 := by kernel_rfl
  have e4 : Tryd.prog.cellsOf 4 = 1 := by kernel_rfl
  have t0' : DataW.trod enc Tryd.prog W 0 (fun _ => true) true n' 24 [c0] = some y0 := by rw [show [c0] = (([c0, c1, c2].drop 0).take (Tryd.prog.cellsOf 24)) by rw [e3]; rfl]; exact t0
  have t1' : DataW.trod enc Tryd.prog W 0 (fun _ => true) true n' 24 [c1] = some y1 := by rw [show [c1] = (([c0, c1, c2].drop 1).take (Tryd.prog.cellsOf 24)) by rw [e3]; rfl]; exact t1
  have t2' : DataW.trod enc Tryd.prog W 0 (fun _ => true) true n' 4 [c2] = some y2 := by rw [show [c2] = (([c0, c1, c2].drop 2).take (Tryd.prog.cellsOf 4)) by rw [e4]; rfl]; exact t2
  have hw : ∀ y, y ∈ y0.1.weights Tryd.prog 24 ∨ y ∈ y1.1.weights Tryd.prog 24 → y ≤ reachBytes := fun y hy => hsz y (by
    rw [hd]
    simp only [DataW.weights, Tryd.underlying39]
    simp [DataW.weightsEach]
    rcases hy with hy | hy
    · exact .inl hy
    · exact .inr (.inl hy))
  obtain ⟨l0, hb0, hl0⟩ := bytes_cell_sizedP t0' (fun y hy => hw y (.inl hy))
  obtain ⟨l1, hb1, hl1⟩ := bytes_cell_sizedP t1' (fun y hy => hw y (.inr hy))
  obtain ⟨g, hg, _⟩ := DataW.trod_bool Tryd.underlying4 t2'
  obtain rfl : c2 = .bool g := by simpa using hg
  exact ⟨⟨l0, l1, g⟩, rfl, hb0, hb1, ⟨hl0, hl1⟩⟩
/-- an argument that reads as a slice of doings -/
theorem doings_read {H : Type} {enc : TypeId × Value → H} {W : World} {fuel : Nat} {v : Value} {x : DataW H × List MemPlace}
    (hf : DataW.trod enc Tryd.prog W 0 (fun _ => true) true fuel 22 [v] = some x) (hsz : ∀ y ∈ x.1.weights Tryd.prog 22, y ≤ reachBytes) :
    ∃ l, Doings W W.heap.size v l ∧ (∀ d ∈ l, d.fits) ∧ l.length * 56 ≤ 140737488351232 := by
  rcases Deep.open_slice Tryd.underlying22 hf with ⟨hcs, _⟩ | ⟨a, len, cap, m, n, D, Pl, hcs, _, hl, hm, hmm, hx, hel⟩
  · obtain rfl : v = .slice none 0 0 := by simpa using hcs
    exact ⟨[], .inl ⟨rfl, rfl⟩, by simp, by simp⟩
  · obtain rfl : v = .slice (some a) len cap := by simpa using hcs
    have hm' : m = cap := by simpa using hmm
    subst hm'
    have hc3 : Tryd.prog.cellsOf 39 = 3 := by kernel_rfl
    have hb56 : Tryd.prog.bytesOf 39 = 56 := by kernel_rfl
    have hlen : len * 56 ≤ 140737488351232 := by
      have := hsz ((len + (m - len)) * 56) (by rw [hx]; simp [DataW.weights, Tryd.underlying22, hb56])
      simp only [reachBytes] at this
      omega
    have each : ∀ i, i < len → ∃ p : (Value × Value) × Dg, W.cell? (a.add (i * 3)) = some p.1.1 ∧ W.cell? ((a.add (i * 3)).add 1) = some p.1.2 ∧ W.cell? ((a.add (i * 3)).add 2) = some (.bool p.2.gone) ∧ Bytes W W.heap.size p.1.1 p.2.key ∧ Bytes W W.heap.size p.1.2 p.2.val ∧ p.2.fits := fun i hi => by
      obtain ⟨cs', h1, h2⟩ := hel i (by omega)
      rw [hc3] at h1
      obtain ⟨c0, c1, c2, rfl, g0, g1, g2⟩ := cells_threeP h1
      obtain ⟨d, rfl, hb0, hb1, hfd⟩ := doing_cells h2 (fun y hy => hsz y (by
        rw [hx]
        simp only [DataW.weights, Tryd.underlying22, List.mem_cons, List.mem_append]
        exact .inr (.inl (weights_all_memP _ _ _ (D i) (List.mem_map.2 ⟨i, List.mem_range.2 hi, rfl⟩) y hy))))
      exact ⟨((c0, c1), d), g0, g1, g2, hb0, hb1, hfd⟩
    haveI : Inhabited ((Value × Value) × Dg) := ⟨((undef, undef), ⟨[], [], false⟩)⟩
    obtain ⟨f, hfs⟩ := Deep.choose_lt each
    refine ⟨(List.range len).map fun i => (f i).2, ?_, ?_, by simpa using hlen⟩
    · by_cases h0 : len = 0
      · subst h0
        exact .inr (.inl ⟨a, m, rfl, rfl⟩)
      · obtain ⟨b, off, spot⟩ := a
        have hc := (hfs 0 (by omega)).1
        have hspot : spot = none := by simpa [Addr.add] using World.cell?_spot hc
        subst hspot
        refine .inr (.inr ⟨b, off, m, by simp, by simpa using hl, fun i p hp => ?_⟩)
        have hi' : i < len := by have := (List.getElem?_eq_some_iff.1 hp).1; simpa using this
        obtain rfl : (f i).2 = p := by
          rw [List.getElem?_map, List.getElem?_range hi'] at hp
          simpa using hp
        obtain ⟨h1, h2, h3, h4, h5, _⟩ := hfs i hi'
        rw [addr_addP] at h1 h2 h3
        rw [addr_addP] at h2 h3
        exact ⟨block_lt_of_cell h1, (f i).1.1, (f i).1.2, h1, h2, h3, h4, h5⟩
    · intro p hp
      obtain ⟨i, hi, rfl⟩ := List.mem_map.1 hp
      exact (hfs i (List.mem_range.1 hi)).2.2.2.2.2
theorem cellsDoing : Tryd.prog.cellsOf 39 = 3 := by kernel_rfl
/-- an argument that reads as a doing -/
theorem doing_read {H : Type} {enc : TypeId × Value → H} {W : World} {base : Nat} {v : Value} {d : DataW H} {p : List MemPlace}
    (hval : Value.okWide Tryd.prog W .any base 39 v) (h : DataW.Trod enc Tryd.prog W 0 (fun _ => true) true 39 v d p) (hsz : ∀ y ∈ d.weights Tryd.prog 39, y ≤ reachBytes) :
    ∃ (g : Dg) (c0 c1 : Value), v = .agg #[c0, c1, .bool g.gone] ∧ Bytes W W.heap.size c0 g.key ∧ Bytes W W.heap.size c1 g.val ∧ g.fits := by
  obtain ⟨cs, rfl, hcs⟩ := okWide_struct Tryd.underlying39 hval
  rw [cellsDoing] at hcs
  obtain ⟨x, y, z, rfl⟩ : ∃ x y z, cs = #[x, y, z] := by
    obtain ⟨l⟩ := cs
    match l, hcs with
    | [x, y, z], _ => exact ⟨x, y, z, rfl⟩
  obtain ⟨fuel, hf⟩ := h
  obtain ⟨g, rfl, h0, h1, h2⟩ := doing_cells (x := (d, p)) hf hsz
  exact ⟨g, x, y, rfl, h0, h1, h2⟩
end Go.Proofs.YtgpainbnldghkaaDoor
