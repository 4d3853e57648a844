/-
  What an argument's reading gives, where it is a slice of pairs.
  What an argument's reading gives, where it is a proof or a gap.
-/
import Derived.Test.YtiflkkelbnpniaaGreatDoorMemB
import Derived.Test.YtiflkkelbnpniaaGreatDoorPairsAll
import Derived.Deep.Slices
import Derived.Deep.Strs
import Derived.Deep.FieldsWide
import Derived.Test.YtiflkkelbnpniaaGreatDoorBookMath
namespace Go.Proofs.YtiflkkelbnpniaaGreatDoor
open Go.ChangeShapes Go.WideShapes Go.ChangeAt Go.RowKit

theorem addr_addP (b off i : Nat) : (⟨b, off, none⟩ : Addr).add i = ⟨b, off + i, none⟩ := by unfold Addr.add; split <;> simp_all
/-- a cell that reads as a slice of bytes -/
theorem bytes_cell_sizedP {H : Type} {enc : TypeId × Value → H} {W : World} {fuel : Nat} {v : Value} {x : DataW H × List MemPlace}
    (hf : DataW.trod enc Tryz.prog W 0 (fun _ => true) true fuel 25 [v] = some x) (hsz : ∀ y ∈ x.1.weights Tryz.prog 25, y ≤ reachBytes) :
    ∃ l, Bytes W W.heap.size v l ∧ l.length ≤ 140737488351232 := by
  rcases open_ints Tryz.underlying25 Tryz.underlying5 (by kernel_rfl) hf with ⟨hcs, _⟩ | ⟨a, len, cap, zs, hcs, _⟩
  · obtain rfl : v = .slice none 0 0 := by simpa using hcs
    exact ⟨[], .inl ⟨rfl, rfl⟩, by simp⟩
  · obtain rfl : v = .slice (some a) len cap := by simpa using hcs
    refine bytes_read_len (a0 := some a) (len0 := len) (cap0 := cap) (x := x) hf (fun elems spare he => ?_)
    refine hsz _ ?_
    rw [he]
    simp [DataW.weights, Tryz.underlying25]
theorem weights_all_memP {H : Type} (P : Program) (e : TypeId) (l : List (DataW H)) (d : DataW H) (hd : d ∈ l) (y : Nat) (hy : y ∈ d.weights P e) : y ∈ DataW.weightsAll P e l := by
  induction l with
  | nil => simp at hd
  | cons a r ih =>
    simp only [DataW.weightsAll, List.mem_append]
    rcases List.mem_cons.1 hd with rfl | h
    · exact .inl hy
    · exact .inr (ih h)
theorem cells_two {W : World} {a : Addr} {cs : List Value} (h : W.cells? 0 a 2 = some cs) : ∃ x y, cs = [x, y] ∧ W.cell? a = some x ∧ W.cell? (a.add 1) = some y := by
  obtain ⟨_, hl, hc⟩ := World.cells?_some h
  match cs, hl with
  | [x, y], _ =>
    refine ⟨x, y, rfl, ?_, hc 1 (by omega)⟩
    have h0 := hc 0 (by omega)
    rwa [show a.add 0 = a by unfold Addr.add; split <;> simp_all] at h0
end Go.Proofs.YtiflkkelbnpniaaGreatDoor
namespace Go.Proofs.YtiflkkelbnpniaaGreatDoor
open Go.ChangeShapes Go.WideShapes Go.ChangeAt Go.RowKit

theorem addr_add0 (a : Addr) : a.add 0 = a := by unfold Addr.add; split <;> simp_all
/-- a cell that reads as a slice of slices of bytes -/
theorem lists_cell_sized {H : Type} {enc : TypeId × Value → H} {W : World} {fuel : Nat} {v : Value} {x : DataW H × List MemPlace}
    (hf : DataW.trod enc Tryz.prog W 0 (fun _ => true) true fuel 54 [v] = some x) (hsz : ∀ y ∈ x.1.weights Tryz.prog 54, y ≤ reachBytes) :
    ∃ l, Lists W W.heap.size v l ∧ (∀ d ∈ l, d.length ≤ 140737488351232) ∧ l.length < 2305843009213693952 := by
  rcases Deep.open_slice Tryz.underlying54 hf with ⟨hcs, _⟩ | ⟨a, len, cap, m, n, D, Pl, hcs, _, hl, hm, hmm, hx, hel⟩
  · obtain rfl : v = .slice none 0 0 := by simpa using hcs
    exact ⟨[], .inl ⟨rfl, rfl⟩, by simp, by simp⟩
  · obtain rfl : v = .slice (some a) len cap := by simpa using hcs
    have hm' : m = cap := by simpa using hmm
    subst hm'
    have hc1 : Tryz.prog.cellsOf 25 = 1 := by kernel_rfl
    have hb24 : Tryz.prog.bytesOf 25 = 24 := by kernel_rfl
    have hlen : len < 2305843009213693952 := by
      have := hsz ((len + (m - len)) * 24) (by rw [hx]; simp [DataW.weights, Tryz.underlying54, hb24])
      simp only [reachBytes] at this
      omega
    have each : ∀ i, i < len → ∃ p : Value × List (BitVec 8), W.cell? (a.add (i * 1)) = some p.1 ∧ Bytes W W.heap.size p.1 p.2 ∧ p.2.length ≤ 140737488351232 := fun i hi => by
      obtain ⟨cs', h1, h2⟩ := hel i (by omega)
      rw [hc1] at h1
      obtain ⟨_, hcl, hcc⟩ := World.cells?_some h1
      match cs', hcl with
      | [c0], _ =>
        have g0 := hcc 0 (by omega)
        rw [addr_add0] at g0
        obtain ⟨l0, hb0, hl0⟩ := bytes_cell_sizedP h2 (fun y hy => hsz y (by
          rw [hx]
          simp only [DataW.weights, Tryz.underlying54, List.mem_cons, List.mem_append]
          exact .inr (.inl (weights_all_memP _ _ _ (D i) (List.mem_map.2 ⟨i, List.mem_range.2 hi, rfl⟩) y hy))))
        exact ⟨(c0, l0), g0, hb0, hl0⟩
    haveI : Inhabited (Value × List (BitVec 8)) := ⟨(undef, [])⟩
    obtain ⟨f, hfs⟩ := Deep.choose_lt each
    refine ⟨(List.range len).map fun i => (f i).2, ?_, ?_, by simpa using hlen⟩
    · by_cases h0 : len = 0
      · subst h0
        exact .inr (.inl ⟨a, m, rfl, rfl⟩)
      · obtain ⟨b, off, spot⟩ := a
        have hc := (hfs 0 (by omega)).1
        have hspot : spot = none := by simpa [Addr.add] using World.cell?_spot hc
        subst hspot
        refine .inr (.inr ⟨b, off, m, by simp, by simpa using hl, fun i hi => ?_⟩)
        have hi' : i < len := by simpa using hi
        obtain ⟨h1, h2, _⟩ := hfs i hi'
        rw [addr_addP, Nat.mul_one] at h1
        refine ⟨block_lt_of_cell h1, (f i).1, h1, ?_⟩
        rw [show ((List.range len).map fun i => (f i).2).getD i [] = (f i).2 by simp [hi']]
        exact h2
    · intro p hp
      obtain ⟨i, hi, rfl⟩ := List.mem_map.1 hp
      exact (hfs i (List.mem_range.1 hi)).2.2
/-- a proof's five cells -/
theorem proof_cells {H : Type} {enc : TypeId × Value → H} {W : World} {fuel : Nat} {c0 c1 c2 c3 c4 : Value} {x : DataW H × List MemPlace}
    (hf : DataW.trod enc Tryz.prog W 0 (fun _ => true) true fuel 56 [c0, c1, c2, c3, c4] = some x) (hsz : ∀ y ∈ x.1.weights Tryz.prog 56, y ≤ reachBytes) :
    ∃ p : Prf, c0 = .int .i64 p.index ∧ c1 = .int .i64 p.size ∧ Bytes W W.heap.size c2 p.key ∧ Bytes W W.heap.size c3 p.val ∧ Lists W W.heap.size c4 p.path ∧ p.fits := by
  obtain ⟨xs, n', _, hd, _, hlen, hfs⟩ := DataW.trod_struct Tryz.underlying56 hf
  have e1 : Tryz.prog.cellsOf 3 = 1 := by kernel_rfl
  have e3 : Tryz.prog.cellsOf 25 = 1 := by kernel_rfl
  have e4 : Tryz.prog.cellsOf 54 = 1 := by kernel_rfl
  match xs, hlen with
  | [y0, y1, y2, y3, y4], _ =>
    have t0 : DataW.trod enc Tryz.prog W 0 (fun _ => true) true n' 3 [c0] = some y0 := by
      have := hfs 0 _ rfl
      simpa [e1] using this
    have t1 : DataW.trod enc Tryz.prog W 0 (fun _ => true) true n' 3 [c1] = some y1 := by
      have := hfs 1 _ rfl
      simpa [e1] using this
    have t2 : DataW.trod enc Tryz.prog W 0 (fun _ => true) true n' 25 [c2] = some y2 := by
      have := hfs 2 _ rfl
      simpa [e3] using this
    have t3 : DataW.trod enc Tryz.prog W 0 (fun _ => true) true n' 25 [c3] = some y3 := by
      have := hfs 3 _ rfl
      simpa [e3] using this
    have t4 : DataW.trod enc Tryz.prog W 0 (fun _ => true) true n' 54 [c4] = some y4 := by
      have := hfs 4 _ rfl
      simpa [e4] using this
    have hw : ∀ y, y ∈ y2.1.weights Tryz.prog 25 ∨ y ∈ y3.1.weights Tryz.prog 25 ∨ y ∈ y4.1.weights Tryz.prog 54 → y ≤ reachBytes := fun y hy => hsz y (by
      rw [hd]
      simp only [DataW.weights, Tryz.underlying56]
      simp [DataW.weightsEach]
      rcases hy with hy | hy | hy
      · exact .inr (.inr (.inl hy))
      · exact .inr (.inr (.inr (.inl hy)))
      · exact .inr (.inr (.inr (.inr hy))))
    obtain ⟨l2, hb2, hl2⟩ := bytes_cell_sizedP t2 (fun y hy => hw y (.inl hy))
    obtain ⟨l3, hb3, hl3⟩ := bytes_cell_sizedP t3 (fun y hy => hw y (.inr (.inl hy)))
    obtain ⟨l4, hb4, hf4, hl4⟩ := lists_cell_sized t4 (fun y hy => hw y (.inr (.inr hy)))
    obtain ⟨z0, g0, _⟩ := DataW.trod_int Tryz.underlying3 t0
    obtain ⟨z1, g1, _⟩ := DataW.trod_int Tryz.underlying3 t1
    obtain rfl : c0 = .int .i64 z0 := by simpa using g0
    obtain rfl : c1 = .int .i64 z1 := by simpa using g1
    exact ⟨⟨z0, z1, l2, l3, l4⟩, rfl, rfl, hb2, hb3, hb4, hl2, hl3, hl4, hf4⟩
theorem cellsProof : Tryz.prog.cellsOf 56 = 5 := by kernel_rfl
set_option maxRecDepth 100000 in
/-- an argument that reads as a proof -/
theorem proof_read {H : Type} {enc : TypeId × Value → H} {W : World} {base : Nat} {v : Value} {d : DataW H} {p : List MemPlace}
    (hval : Value.okWide Tryz.prog W .any base 56 v) (h : DataW.Trod enc Tryz.prog W 0 (fun _ => true) true 56 v d p) (hsz : ∀ y ∈ d.weights Tryz.prog 56, y ≤ reachBytes) :
    ∃ g : Prf, PrfV W W.heap.size v g ∧ g.fits := by
  obtain ⟨cs, rfl, hcs⟩ := okWide_struct Tryz.underlying56 hval
  rw [cellsProof] at hcs
  obtain ⟨c0, c1, c2, c3, c4, rfl⟩ : ∃ c0 c1 c2 c3 c4, cs = #[c0, c1, c2, c3, c4] := by
    obtain ⟨l⟩ := cs
    match l, hcs with
    | [c0, c1, c2, c3, c4], _ => exact ⟨c0, c1, c2, c3, c4, rfl⟩
  obtain ⟨fuel, hf⟩ := h
  obtain ⟨g, rfl, rfl, h2, h3, h4, h5⟩ := proof_cells (x := (d, p)) hf hsz
  exact ⟨g, ⟨c2, c3, c4, rfl, h2, h3, h4⟩, h5⟩
theorem cellsGap : Tryz.prog.cellsOf 58 = 12 := by kernel_rfl
/-- a gap's twelve cells -/
theorem gap_cells {H : Type} {enc : TypeId × Value → H} {W : World} {fuel : Nat} {b0 b1 c0 c1 c2 c3 c4 d0 d1 d2 d3 d4 : Value} {x : DataW H × List MemPlace}
    (hf : DataW.trod enc Tryz.prog W 0 (fun _ => true) true fuel 58 [b0, b1, c0, c1, c2, c3, c4, d0, d1, d2, d3, d4] = some x) (hsz : ∀ y ∈ x.1.weights Tryz.prog 58, y ≤ reachBytes) :
    ∃ g : Gp, GpV W W.heap.size (.agg #[b0, b1, c0, c1, c2, c3, c4, d0, d1, d2, d3, d4]) g ∧ g.fits := by
  obtain ⟨xs, n', _, hd, _, hlen, hfs⟩ := DataW.trod_struct Tryz.underlying58 hf
  have e1 : Tryz.prog.cellsOf 4 = 1 := by kernel_rfl
  match xs, hlen with
  | [y0, y1, y2, y3], _ =>
    have t0 : DataW.trod enc Tryz.prog W 0 (fun _ => true) true n' 4 [b0] = some y0 := by
      have := hfs 0 _ rfl
      simpa [e1] using this
    have t1 : DataW.trod enc Tryz.prog W 0 (fun _ => true) true n' 4 [b1] = some y1 := by
      have := hfs 1 _ rfl
      simpa [e1] using this
    have t2 : DataW.trod enc Tryz.prog W 0 (fun _ => true) true n' 56 [c0, c1, c2, c3, c4] = some y2 := by
      have := hfs 2 _ rfl
      simpa [cellsProof] using this
    have t3 : DataW.trod enc Tryz.prog W 0 (fun _ => true) true n' 56 [d0, d1, d2, d3, d4] = some y3 := by
      have := hfs 3 _ rfl
      simpa [cellsProof] using this
    have hw : ∀ y, y ∈ y2.1.weights Tryz.prog 56 ∨ y ∈ y3.1.weights Tryz.prog 56 → y ≤ reachBytes := fun y hy => hsz y (by
      rw [hd]
      simp only [DataW.weights, Tryz.underlying58]
      simp [DataW.weightsEach]
      rcases hy with hy | hy
      · exact .inr (.inr (.inl hy))
      · exact .inr (.inr (.inr hy)))
    obtain ⟨p, rfl, rfl, h2, h3, h4, h5⟩ := proof_cells t2 (fun y hy => hw y (.inl hy))
    obtain ⟨q, rfl, rfl, k2, k3, k4, k5⟩ := proof_cells t3 (fun y hy => hw y (.inr hy))
    obtain ⟨z0, g0, _⟩ := DataW.trod_bool Tryz.underlying4 t0
    obtain ⟨z1, g1, _⟩ := DataW.trod_bool Tryz.underlying4 t1
    obtain rfl : b0 = .bool z0 := by simpa using g0
    obtain rfl : b1 = .bool z1 := by simpa using g1
    exact ⟨⟨z0, z1, p, q⟩, ⟨c2, c3, c4, d2, d3, d4, rfl, h2, h3, h4, k2, k3, k4⟩, h5, k5⟩
set_option maxRecDepth 100000 in
/-- an argument that reads as a gap -/
theorem gap_read {H : Type} {enc : TypeId × Value → H} {W : World} {base : Nat} {v : Value} {d : DataW H} {p : List MemPlace}
    (hval : Value.okWide Tryz.prog W .any base 58 v) (h : DataW.Trod enc Tryz.prog W 0 (fun _ => true) true 58 v d p) (hsz : ∀ y ∈ d.weights Tryz.prog 58, y ≤ reachBytes) :
    ∃ g : Gp, GpV W W.heap.size v g ∧ g.fits := by
  obtain ⟨cs, rfl, hcs⟩ := okWide_struct Tryz.underlying58 hval
  rw [cellsGap] at hcs
  obtain ⟨l⟩ := cs
  match l, hcs with
  | [b0, b1, c0, c1, c2, c3, c4, d0, d1, d2, d3, d4], _ =>
    obtain ⟨fuel, hf⟩ := h
    exact gap_cells (x := (d, p)) hf hsz
end Go.Proofs.YtiflkkelbnpniaaGreatDoor
