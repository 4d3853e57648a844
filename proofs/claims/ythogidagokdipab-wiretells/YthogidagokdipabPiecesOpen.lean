/-
  What an argument's reading gives, where it is a slice of pieces.
-/
import Derived.Test.YthogidagokdipabBytesOpen
import Derived.Test.YthogidagokdipabPiecesMem
import Derived.Deep.Slices
import Derived.Deep.Strs
namespace Go.Proofs.Ythogidagokdipab
open Go.ChangeShapes Go.WideShapes Go.ChangeAt Go.RowKit

theorem addr_add (b off i : Nat) : (⟨b, off, none⟩ : Addr).add i = ⟨b, off + i, none⟩ := by unfold Addr.add; split <;> simp_all
/-- a cell that reads as a slice of bytes -/
theorem bytes_cell_sized {H : Type} {enc : TypeId × Value → H} {W : World} {fuel : Nat} {v : Value} {x : DataW H × List MemPlace}
    (hf : DataW.trod enc Try.prog W 0 (fun _ => true) true fuel 23 [v] = some x) (hsz : ∀ y ∈ x.1.weights Try.prog 23, y ≤ reachBytes) :
    ∃ l, Bytes W W.heap.size v l ∧ l.length ≤ 140737488351232 := by
  rcases open_ints Try.underlying23 Try.underlying5 (by kernel_rfl) hf with ⟨hcs, _⟩ | ⟨a, len, cap, zs, hcs, _⟩
  · obtain rfl : v = .slice none 0 0 := by simpa using hcs
    exact ⟨[], .inl ⟨rfl, rfl⟩, by simp⟩
  · obtain rfl : v = .slice (some a) len cap := by simpa using hcs
    refine bytes_read_len (a0 := some a) (len0 := len) (cap0 := cap) (x := x) hf (fun elems spare he => ?_)
    refine hsz _ ?_
    rw [he]
    simp [DataW.weights, Try.underlying23]
theorem weights_all_mem {H : Type} (P : Program) (e : TypeId) (l : List (DataW H)) (d : DataW H) (hd : d ∈ l) (y : Nat) (hy : y ∈ d.weights P e) : y ∈ DataW.weightsAll P e l := by
  induction l with
  | nil => simp at hd
  | cons a r ih =>
    simp only [DataW.weightsAll, List.mem_append]
    rcases List.mem_cons.1 hd with rfl | h
    · exact .inl hy
    · exact .inr (ih h)
theorem cells_three {W : World} {a : Addr} {cs : List Value} (h : W.cells? 0 a 3 = some cs) : ∃ x y z, cs = [x, y, z] ∧ W.cell? a = some x ∧ W.cell? (a.add 1) = some y ∧ W.cell? (a.add 2) = some z := by
  obtain ⟨_, hl, hc⟩ := World.cells?_some h
  match cs, hl with
  | [x, y, z], _ =>
    refine ⟨x, y, z, rfl, ?_, hc 1 (by omega), hc 2 (by omega)⟩
    have h0 := hc 0 (by omega)
    rwa [show a.add 0 = a by unfold Addr.add; split <;> simp_all] at h0
/-- an argument that reads as a slice of pieces -/
theorem pieces_read {H : Type} {enc : TypeId × Value → H} {W : World} {fuel : Nat} {v : Value} {x : DataW H × List MemPlace}
    (hf : DataW.trod enc Try.prog W 0 (fun _ => true) true fuel 22 [v] = some x) (hsz : ∀ y ∈ x.1.weights Try.prog 22, y ≤ reachBytes) :
    ∃ l, Pieces W W.heap.size v l ∧ (∀ p ∈ l, p.fits) ∧ l.length < 2305843009213693952 := by
  rcases Deep.open_slice Try.underlying22 hf with ⟨hcs, _⟩ | ⟨a, len, cap, m, n, D, Pl, hcs, _, hl, hm, hmm, hx, hel⟩
  · obtain rfl : v = .slice none 0 0 := by simpa using hcs
    exact ⟨[], .inl ⟨rfl, rfl⟩, by simp, by simp⟩
  · obtain rfl : v = .slice (some a) len cap := by simpa using hcs
    have hm' : m = cap := by simpa using hmm
    subst hm'
    have hc3 : Try.prog.cellsOf 38 = 3 := by kernel_rfl
    have hb40 : Try.prog.bytesOf 38 = 40 := by kernel_rfl
    have hlen : len < 2305843009213693952 := by
      have := hsz ((len + (m - len)) * 40) (by rw [hx]; simp [DataW.weights, Try.underlying22, hb40])
      simp only [reachBytes] at this
      omega
    have each : ∀ i, i < len → ∃ p : Value × Pc, W.cell? (a.add (i * 3)) = some (.int .i64 p.2.k) ∧ W.cell? ((a.add (i * 3)).add 1) = some (.int .u64 (p.2.n : Int)) ∧ W.cell? ((a.add (i * 3)).add 2) = some p.1 ∧ Bytes W W.heap.size p.1 p.2.b ∧ p.2.fits := fun i hi => by
      obtain ⟨cs', h1, h2⟩ := hel i (by omega)
      rw [hc3] at h1
      obtain ⟨c0, c1, c2, rfl, g0, g1, g2⟩ := cells_three h1
      obtain ⟨y0, y1, y2, n', hd, _, t0, t1, t2⟩ := Deep.trod_struct3 Try.underlying38 h2
      have e1 : Try.prog.cellsOf 3 = 1 := by kernel_rfl
      have e2 : Try.prog.cellsOf 36 = 1 := by kernel_rfl
      have e3 : Try.prog.cellsOf 23 = 1 := by kernel_rfl
      have t0' : DataW.trod enc Try.prog W 0 (fun _ => true) true n' 3 [c0] = some y0 := by rw [show [c0] = (([c0, c1, c2].drop 0).take (Try.prog.cellsOf 3)) by rw [e1]; rfl]; exact t0
      have t1' : DataW.trod enc Try.prog W 0 (fun _ => true) true n' 36 [c1] = some y1 := by rw [show [c1] = (([c0, c1, c2].drop 1).take (Try.prog.cellsOf 36)) by rw [e2]; rfl]; exact t1
      have t2' : DataW.trod enc Try.prog W 0 (fun _ => true) true n' 23 [c2] = some y2 := by rw [show [c2] = (([c0, c1, c2].drop 2).take (Try.prog.cellsOf 23)) by rw [e3]; rfl]; exact t2
      obtain ⟨k, hk, _, _⟩ := DataW.trod_int Try.underlying3 t0'
      obtain ⟨u, hu, _, hwu⟩ := DataW.trod_int Try.underlying36 t1'
      obtain rfl : c0 = .int .i64 k := by simpa using hk
      obtain rfl : c1 = .int .u64 u := by simpa using hu
      have hub : 0 ≤ u ∧ u ≤ 18446744073709551615 := by simpa [Lit.wf, IntKind.min, IntKind.max, IntKind.signed, IntKind.bits] using hwu
      have hD : D i = .agg [y0.1, y1.1, y2.1] := congrArg Prod.fst hd
      obtain ⟨l, hbl, hll⟩ := bytes_cell_sized t2' (fun y hy => hsz y (by
        rw [hx]
        simp only [DataW.weights, Try.underlying22, List.mem_cons, List.mem_append]
        refine .inr (.inl (weights_all_mem _ _ _ (D i) (List.mem_map.2 ⟨i, List.mem_range.2 hi, rfl⟩) y ?_))
        rw [hD]
        simp only [DataW.weights, Try.underlying38]
        simp [DataW.weightsEach, hy]))
      refine ⟨(c2, ⟨k, u.toNat, l⟩), g0, ?_, g2, hbl, ⟨by simp [Pc.ok]; omega, hll⟩⟩
      rw [g1]
      congr 2
      show u = ((u.toNat : Nat) : Int)
      omega
    haveI : Inhabited (Value × Pc) := ⟨(undef, ⟨0, 0, []⟩)⟩
    obtain ⟨f, hfs⟩ := Deep.choose_lt each
    refine ⟨(List.range len).map fun i => (f i).2, ?_, ?_, by simpa using hlen⟩
    · by_cases h0 : len = 0
      · subst h0
        exact .inr (.inl ⟨a, m, rfl, rfl⟩)
      · obtain ⟨b, off, spot⟩ := a
        have hc := (hfs 0 (by omega)).1
        have hspot : spot = none := by simpa [Addr.add] using World.cell?_spot hc
        subst hspot
        refine .inr (.inr ⟨b, off, m, by simp, by simpa using hl, fun i p hp => ?_⟩)
        have hi' : i < len := by have := (List.getElem?_eq_some_iff.1 hp).1; simpa using this
        obtain rfl : (f i).2 = p := by
          rw [List.getElem?_map, List.getElem?_range hi'] at hp
          simpa using hp
        obtain ⟨h1, h2, h3, h4, _⟩ := hfs i hi'
        rw [addr_add] at h1 h2 h3
        rw [addr_add] at h2 h3
        exact ⟨block_lt_of_cell h1, (f i).1, h1, h2, h3, h4⟩
    · intro p hp
      obtain ⟨i, hi, rfl⟩ := List.mem_map.1 hp
      exact (hfs i (List.mem_range.1 hi)).2.2.2.2
end Go.Proofs.Ythogidagokdipab
