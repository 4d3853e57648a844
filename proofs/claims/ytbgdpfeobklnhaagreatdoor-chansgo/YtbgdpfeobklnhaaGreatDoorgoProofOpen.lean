/-
  What an argument's reading gives, where it is a slice of pairs.
  What an argument's reading gives, where it is a proof or a gap.
-/
import Derived.Test.YtbgdpfeobklnhaaGreatDoorgoMemB
import Derived.Test.YtbgdpfeobklnhaaGreatDoorgoPairsAll
import Derived.Test.YtbgdpfeobklnhaaGreatDoorgoBookMath
import Derived.Deep.Slices
import Derived.Deep.Strs
import Derived.Deep.FieldsWide
namespace Go.Proofs.YtbgdpfeobklnhaaGreatDoor
open Go.ChangeShapes Go.WideShapes Go.ChangeAt Go.RowKit

theorem addr_addP (b off i : Nat) : (⟨b, off, none⟩ : Addr).add i = ⟨b, off + i, none⟩ := by unfold Addr.add; split <;> simp_all
/-- a cell that reads as a slice of bytes -/
theorem bytes_cell_sizedP {H : Type} {enc : TypeId × Value → H} {W : World} {fuel : Nat} {v : Value} {x : DataW H × List MemPlace}
    (hf : DataW.trod enc Tryz.prog W 0 (fun _ => true) true fuel 29 [v] = some x) (hsz : ∀ y ∈ x.1.weights Tryz.prog 29, y ≤ reachBytes) :
    ∃ l, Bytes W W.heap.size v l ∧ l.length ≤ 140737488351232 := by
  rcases open_ints Tryz.underlying29 Tryz.underlying5 (by kernel_rfl) hf with ⟨hcs, _⟩ | ⟨a, len, cap, zs, hcs, _⟩
  · obtain rfl : v = .slice none 0 0 := by simpa using hcs
    exact ⟨[], .inl ⟨rfl, rfl⟩, by simp⟩
  · obtain rfl : v = .slice (some a) len cap := by simpa using hcs
    refine bytes_read_len (a0 := some a) (len0 := len) (cap0 := cap) (x := x) hf (fun elems spare he => ?_)
    refine hsz _ ?_
    rw [he]
    simp [DataW.weights, Tryz.underlying29]
theorem weights_all_memP {H : Type} (P : Program) (e : TypeId) (l : List (DataW H)) (d : DataW H) (hd : d ∈ l) (y : Nat) (hy : y ∈ d.weights P e) : y ∈ DataW.weightsAll P e l := by
  induction l with
  | nil => simp at hd
  | cons a r ih =>
    simp only [DataW.weightsAll, List.mem_append]
    rcases List.mem_cons.1 hd with rfl | h
    · exact .inl hy
    · exact .inr (ih h)
end Go.Proofs.YtbgdpfeobklnhaaGreatDoor
namespace Go.Proofs.YtbgdpfeobklnhaaGreatDoor
open Go.ChangeShapes Go.WideShapes Go.ChangeAt Go.RowKit

theorem addr_add0 (a : Addr) : a.add 0 = a := by unfold Addr.add; split <;> simp_all
/-- a cell that reads as a slice of slices of bytes -/
theorem lists_cell_sized {H : Type} {enc : TypeId × Value → H} {W : World} {fuel : Nat} {v : Value} {x : DataW H × List MemPlace}
    (hf : DataW.trod enc Tryz.prog W 0 (fun _ => true) true fuel 30 [v] = some x) (hsz : ∀ y ∈ x.1.weights Tryz.prog 30, y ≤ reachBytes) :
    ∃ l, Lists W W.heap.size v l ∧ (∀ d ∈ l, d.length ≤ 140737488351232) ∧ l.length < 2305843009213693952 := by
  rcases Deep.open_slice Tryz.underlying30 hf with ⟨hcs, _⟩ | ⟨a, len, cap, m, n, D, Pl, hcs, _, hl, hm, hmm, hx, hel⟩
  · obtain rfl : v = .slice none 0 0 := by simpa using hcs
    exact ⟨[], .inl ⟨rfl, rfl⟩, by simp, by simp⟩
  · obtain rfl : v = .slice (some a) len cap := by simpa using hcs
    have hm' : m = cap := by simpa using hmm
    subst hm'
    have hc1 : Tryz.prog.cellsOf 29 = 1 := by kernel_rfl
    have hb24 : Tryz.prog.bytesOf 29 = 24 := by kernel_rfl
    have hlen : len < 2305843009213693952 := by
      have := hsz ((len + (m - len)) * 24) (by rw [hx]; simp [DataW.weights, Tryz.underlying30, hb24])
      simp only [reachBytes] at this
      omega
    have each : ∀ i, i < len → ∃ p : Value × List (BitVec 8), W.cell? (a.add (i * 1)) = some p.1 ∧ Bytes W W.heap.size p.1 p.2 ∧ p.2.length ≤ 140737488351232 := fun i hi => by
      obtain ⟨cs', h1, h2⟩ := hel i (by omega)
      rw [hc1] at h1
      obtain ⟨_, hcl, hcc⟩ := World.cells?_some h1
      match cs', hcl with
      | [c0], _ =>
        have g0 := hcc 0 (by omega)
        rw [addr_add0] at g0
        obtain ⟨l0, hb0, hl0⟩ := bytes_cell_sizedP h2 (fun y hy => hsz y (by
          rw [hx]
          simp only [DataW.weights, Tryz.underlying30, List.mem_cons, List.mem_append]
          exact .inr (.inl (weights_all_memP _ _ _ (D i) (List.mem_map.2 ⟨i, List.mem_range.2 hi, rfl⟩) y hy))))
        exact ⟨(c0, l0), g0, hb0, hl0⟩
    haveI : Inhabited (Value × List (BitVec 8)) := ⟨(undef, [])⟩
    obtain ⟨f, hfs⟩ := Deep.choose_lt each
    refine ⟨(List.range len).map fun i => (f i).2, ?_, ?_, by simpa using hlen⟩
    · by_cases h0 : len = 0
      · subst h0
        exact .inr (.inl ⟨a, m, rfl, rfl⟩)
      · obtain ⟨b, off, spot⟩ := a
        have hc := (hfs 0 (by omega)).1
        have hspot : spot = none := by simpa [Addr.add] using World.cell?_spot hc
        subst hspot
        refine .inr (.inr ⟨b, off, m, by simp, by simpa using hl, fun i hi => ?_⟩)
        have hi' : i < len := by simpa using hi
        obtain ⟨h1, h2, _⟩ := hfs i hi'
        rw [addr_addP, Nat.mul_one] at h1
        refine ⟨block_lt_of_cell h1, (f i).1, h1, ?_⟩
        rw [show ((List.range len).map fun i => (f i).2).getD i [] = (f i).2 by simp [hi']]
        exact h2
    · intro p hp
      obtain ⟨i, hi, rfl⟩ := List.mem_map.1 hp
      exact (hfs i (List.mem_range.1 hi)).2.2
/-- a proof's five cells -/
theorem proof_cells {H : Type} {enc : TypeId × Value → H} {W : World} {fuel : Nat} {c0 c1 c2 c3 c4 : Value} {x : DataW H × List MemPlace}
    (hf : DataW.trod enc Tryz.prog W 0 (fun _ => true) true fuel 32 [c0, c1, c2, c3, c4] = some x) (hsz : ∀ y ∈ x.1.weights Tryz.prog 32, y ≤ reachBytes) :
    ∃ p : Prf, c0 = .int .i64 p.index ∧ c1 = .int .i64 p.size ∧ Bytes W W.heap.size c2 p.key ∧ Bytes W W.heap.size c3 p.val ∧ Lists W W.heap.size c4 p.path ∧ p.fits := by
  obtain ⟨xs, n', _, hd, _, hlen, hfs⟩ := DataW.trod_struct Tryz.underlying32 hf
  have e1 : Tryz.prog.cellsOf 3 = 1 := by kernel_rfl
  have e3 : Tryz.prog.cellsOf 29 = 1 := by kernel_rfl
  have e4 : Tryz.prog.cellsOf 30 = 1 := by kernel_rfl
  match xs, hlen with
  | [y0, y1, y2, y3, y4], _ =>
    have t0 : DataW.trod enc Tryz.prog W 0 (fun _ => true) true n' 3 [c0] = some y0 := by
      have := hfs 0 _ rfl
      simpa [e1] using this
    have t1 : DataW.trod enc Tryz.prog W 0 (fun _ => true) true n' 3 [c1] = some y1 := by
      have := hfs 1 _ rfl
      simpa [e1] using this
    have t2 : DataW.trod enc Tryz.prog W 0 (fun _ => true) true n' 29 [c2] = some y2 := by
      have := hfs 2 _ rfl
      simpa [e3] using this
    have t3 : DataW.trod enc Tryz.prog W 0 (fun _ => true) true n' 29 [c3] = some y3 := by
      have := hfs 3 _ rfl
      simpa [e3] using this
    have t4 : DataW.trod enc Tryz.prog W 0 (fun _ => true) true n' 30 [c4] = some y4 := by
      have := hfs 4 _ rfl
      simpa [e4] using this
    have hw : ∀ y, y ∈ y2.1.weights Tryz.prog 29 ∨ y ∈ y3.1.weights Tryz.prog 29 ∨ y ∈ y4.1.weights Tryz.prog 30 → y ≤ reachBytes := fun y hy => hsz y (by
      rw [hd]
      simp only [DataW.weights, Tryz.underlying32]
      simp [DataW.weightsEach]
      rcases hy with hy | hy | hy
      · exact .inr (.inr (.inl hy))
      · exact .inr (.inr (.inr (.inl hy)))
      · exact .inr (.inr (.inr (.inr hy))))
    obtain ⟨l2, hb2, hl2⟩ := bytes_cell_sizedP t2 (fun y hy => hw y (.inl hy))
    obtain ⟨l3, hb3, hl3⟩ := bytes_cell_sizedP t3 (fun y hy => hw y (.inr (.inl hy)))
    obtain ⟨l4, hb4, hf4, hl4⟩ := lists_cell_sized t4 (fun y hy => hw y (.inr (.inr hy)))
    obtain ⟨z0, g0, _⟩ := DataW.trod_int Tryz.underlying3 t0
    obtain ⟨z1, g1, _⟩ := DataW.trod_int Tryz.underlying3 t1
    obtain rfl : c0 = .int .i64 z0 := by simpa using g0
    obtain rfl : c1 = .int .i64 z1 := by simpa using g1
    exact ⟨⟨z0, z1, l2, l3, l4⟩, rfl, rfl, hb2, hb3, hb4, hl2, hl3, hl4, hf4⟩
theorem cellsProof : Tryz.prog.cellsOf 32 = 5 := by kernel_rfl
theorem cellsGap : Tryz.prog.cellsOf 34 = 12 := by kernel_rfl
/-- a gap's twelve cells -/
theorem gap_cells {H : Type} {enc : TypeId × Value → H} {W : World} {fuel : Nat} {b0 b1 c0 c1 c2 c3 c4 d0 d1 d2 d3 d4 : Value} {x : DataW H × List MemPlace}
    (hf : DataW.trod enc Tryz.prog W 0 (fun _ => true) true fuel 34 [b0, b1, c0, c1, c2, c3, c4, d0, d1, d2, d3, d4] = some x) (hsz : ∀ y ∈ x.1.weights Tryz.prog 34, y ≤ reachBytes) :
    ∃ g : Gp, GpV W W.heap.size (.agg #[b0, b1, c0, c1, c2, c3, c4, d0, d1, d2, d3, d4]) g ∧ g.fits := by
  obtain ⟨xs, n', _, hd, _, hlen, hfs⟩ := DataW.trod_struct Tryz.underlying34 hf
  have e1 : Tryz.prog.cellsOf 4 = 1 := by kernel_rfl
  match xs, hlen with
  | [y0, y1, y2, y3], _ =>
    have t0 : DataW.trod enc Tryz.prog W 0 (fun _ => true) true n' 4 [b0] = some y0 := by
      have := hfs 0 _ rfl
      simpa [e1] using this
    have t1 : DataW.trod enc Tryz.prog W 0 (fun _ => true) true n' 4 [b1] = some y1 := by
      have := hfs 1 _ rfl
      simpa [e1] using this
    have t2 : DataW.trod enc Tryz.prog W 0 (fun _ => true) true n' 32 [c0, c1, c2, c3, c4] = some y2 := by
      have := hfs 2 _ rfl
      simpa [cellsProof] using this
    have t3 : DataW.trod enc Tryz.prog W 0 (fun _ => true) true n' 32 [d0, d1, d2, d3, d4] = some y3 := by
      have := hfs 3 _ rfl
      simpa [cellsProof] using this
    have hw : ∀ y, y ∈ y2.1.weights Tryz.prog 32 ∨ y ∈ y3.1.weights Tryz.prog 32 → y ≤ reachBytes := fun y hy => hsz y (by
      rw [hd]
      simp only [DataW.weights, Tryz.underlying34]
      simp [DataW.weightsEach]
      rcases hy with hy | hy
      · exact .inr (.inr (.inl hy))
      · exact .inr (.inr (.inr hy)))
    obtain ⟨p, rfl, rfl, h2, h3, h4, h5⟩ := proof_cells t2 (fun y hy => hw y (.inl hy))
    obtain ⟨q, rfl, rfl, k2, k3, k4, k5⟩ := proof_cells t3 (fun y hy => hw y (.inr hy))
    obtain ⟨z0, g0, _⟩ := DataW.trod_bool Tryz.underlying4 t0
    obtain ⟨z1, g1, _⟩ := DataW.trod_bool Tryz.underlying4 t1
    obtain rfl : b0 = .bool z0 := by simpa using g0
    obtain rfl : b1 = .bool z1 := by simpa using g1
    exact ⟨⟨z0, z1, p, q⟩, ⟨c2, c3, c4, d2, d3, d4, rfl, h2, h3, h4, k2, k3, k4⟩, h5, k5⟩
end Go.Proofs.YtbgdpfeobklnhaaGreatDoor
