/-
  What an argument's reading gives, where it is a slice of validators, of votes, of slices of bytes, a header or a signed header.
  What an argument's reading gives, where it is what is known of a block, a client or an update.
-/
import Derived.Test.YtiflkkelbnpniaaGreatDoorMemB
import Derived.Test.YtiflkkelbnpniaaGreatDoorHdMems
import Derived.Deep.Slices
import Derived.Deep.Strs
import Derived.Deep.FieldsWide
import Derived.Test.YtiflkkelbnpniaaGreatDoorClMem
namespace Go.Proofs.YtiflkkelbnpniaaGreatDoor
open Go.ChangeShapes Go.WideShapes Go.ChangeAt Go.RowKit

theorem addr_addH (b off i : Nat) : (⟨b, off, none⟩ : Addr).add i = ⟨b, off + i, none⟩ := by unfold Addr.add; split <;> simp_all
theorem addr_add0H (a : Addr) : a.add 0 = a := by unfold Addr.add; split <;> simp_all
/-- a cell that reads as a slice of bytes -/
theorem bytes_cell_sizedH {H : Type} {enc : TypeId × Value → H} {W : World} {fuel : Nat} {v : Value} {x : DataW H × List MemPlace}
    (hf : DataW.trod enc Tryz.prog W 0 (fun _ => true) true fuel 25 [v] = some x) (hsz : ∀ y ∈ x.1.weights Tryz.prog 25, y ≤ reachBytes) :
    ∃ l, Bytes W W.heap.size v l ∧ l.length ≤ 140737488351232 := by
  rcases open_ints Tryz.underlying25 Tryz.underlying5 (by kernel_rfl) hf with ⟨hcs, _⟩ | ⟨a, len, cap, zs, hcs, _⟩
  · obtain rfl : v = .slice none 0 0 := by simpa using hcs
    exact ⟨[], .inl ⟨rfl, rfl⟩, by simp⟩
  · obtain rfl : v = .slice (some a) len cap := by simpa using hcs
    refine bytes_read_len (a0 := some a) (len0 := len) (cap0 := cap) (x := x) hf (fun elems spare he => ?_)
    refine hsz _ ?_
    rw [he]
    simp [DataW.weights, Tryz.underlying25]
theorem weights_all_memH {H : Type} (P : Program) (e : TypeId) (l : List (DataW H)) (d : DataW H) (hd : d ∈ l) (y : Nat) (hy : y ∈ d.weights P e) : y ∈ DataW.weightsAll P e l := by
  induction l with
  | nil => simp at hd
  | cons a r ih =>
    simp only [DataW.weightsAll, List.mem_append]
    rcases List.mem_cons.1 hd with rfl | h
    · exact .inl hy
    · exact .inr (ih h)
/-- rows of k cells, each of which reads -/
theorem recs_of {W : World} {a : Addr} {len m k : Nat} {α : Type} [Inhabited α] (row : α → List Value) (P : α → Prop) (hk : 0 < k) (hrow : ∀ r, (row r).length = k) (hl : len ≤ m)
    (each : ∀ i, i < len → ∃ r, W.cells? 0 (a.add (i * k)) k = some (row r) ∧ P r) : ∃ l : List α, Recs W W.heap.size (.slice (some a) len m) k (l.map row) ∧ (∀ r ∈ l, P r) ∧ l.length = len := by
  obtain ⟨f, hfs⟩ := Deep.choose_lt each
  refine ⟨(List.range len).map f, ?_, fun r hr => ?_, by simp⟩
  · by_cases h0 : len = 0
    · subst h0
      exact .inr (.inl ⟨a, m, rfl, rfl⟩)
    · have cell : ∀ i, i < len → ∀ j, j < k → W.cell? ((a.add (i * k)).add j) = (row (f i))[j]? := fun i hi j hj => (World.cells?_some (hfs i hi).1).2.2 j hj
      obtain ⟨b, off, spot⟩ := a
      have hc := cell 0 (by omega) 0 hk
      rw [List.getElem?_eq_getElem (by rw [hrow]; exact hk)] at hc
      have hspot : spot = none := by simpa [Addr.add] using World.cell?_spot hc
      subst hspot
      refine .inr (.inr ⟨b, off, m, by simp, by simpa using hl, fun i r hr => ?_⟩)
      have hi : i < len := by have := (List.getElem?_eq_some_iff.1 hr).1; simpa using this
      obtain rfl : row (f i) = r := by
        rw [List.getElem?_map, List.getElem?_map, List.getElem?_range hi] at hr
        simpa using hr
      have hcell : ∀ j x, (row (f i))[j]? = some x → W.cell? ⟨b, off + i * k + j, none⟩ = some x := fun j x hx => by
        have hj : j < k := by have := (List.getElem?_eq_some_iff.1 hx).1; rwa [hrow] at this
        have := cell i hi j hj
        rwa [addr_addH, addr_addH, hx] at this
      refine ⟨block_lt_of_cell (hcell 0 _ (List.getElem?_eq_getElem (by rw [hrow]; exact hk))), hcell⟩
  · obtain ⟨i, hi, rfl⟩ := List.mem_map.1 hr
    exact (hfs i (List.mem_range.1 hi)).2
theorem num_of {z : Int} (h : (Lit.int .u64 z).wf = true) : ∃ n : Nat, z = n ∧ n < 18446744073709551616 := by
  have : 0 ≤ z ∧ z < 18446744073709551616 := by
    simp [Lit.wf, IntKind.min, IntKind.max, IntKind.signed, IntKind.bits] at h
    omega
  exact ⟨z.toNat, by omega, by omega⟩
/-- a cell that reads as a slice of validators -/
theorem vals_read {H : Type} {enc : TypeId × Value → H} {W : World} {fuel : Nat} {v : Value} {x : DataW H × List MemPlace}
    (hf : DataW.trod enc Tryz.prog W 0 (fun _ => true) true fuel 30 [v] = some x) (hsz : ∀ y ∈ x.1.weights Tryz.prog 30, y ≤ reachBytes) :
    ∃ l, Vals W W.heap.size v l ∧ (∀ v ∈ l, v.ok) ∧ l.length < 2305843009213693952 := by
  rcases Deep.open_slice Tryz.underlying30 hf with ⟨hcs, _⟩ | ⟨a, len, cap, m, n, D, Pl, hcs, _, hl, hm, hmm, hx, hel⟩
  · obtain rfl : v = .slice none 0 0 := by simpa using hcs
    exact ⟨[], .inl ⟨rfl, rfl⟩, by simp, by simp⟩
  · obtain rfl : v = .slice (some a) len cap := by simpa using hcs
    have hm' : m = cap := by simpa using hmm
    subst hm'
    have hc2 : Tryz.prog.cellsOf 89 = 2 := by kernel_rfl
    have hb16 : Tryz.prog.bytesOf 89 = 16 := by kernel_rfl
    have hlen : len < 2305843009213693952 := by
      have := hsz ((len + (m - len)) * 16) (by rw [hx]; simp [DataW.weights, Tryz.underlying30, hb16])
      simp only [reachBytes] at this
      omega
    haveI : Inhabited Vl := ⟨⟨0, 0⟩⟩
    obtain ⟨l, h1, h2, h3⟩ := recs_of (W := W) (a := a) (len := len) (m := m) (k := 2) vlRow Vl.ok (by omega) (fun _ => rfl) hl (fun i hi => by
      obtain ⟨cs', g1, g2⟩ := hel i (by omega)
      rw [hc2] at g1
      obtain ⟨_, hcl, _⟩ := World.cells?_some g1
      match cs', hcl with
      | [c0, c1], _ =>
        obtain ⟨y0, y1, n', hd, _, t0, t1⟩ := trod_struct2 Tryz.underlying89 g2
        have e1 : Tryz.prog.cellsOf 80 = 1 := by kernel_rfl
        have t0' : DataW.trod enc Tryz.prog W 0 (fun _ => true) true n' 80 [c0] = some y0 := by rw [show [c0] = (([c0, c1].drop 0).take (Tryz.prog.cellsOf 80)) by rw [e1]; rfl]; exact t0
        have t1' : DataW.trod enc Tryz.prog W 0 (fun _ => true) true n' 80 [c1] = some y1 := by rw [show [c1] = (([c0, c1].drop 1).take (Tryz.prog.cellsOf 80)) by rw [e1]; rfl]; exact t1
        obtain ⟨z0, k0, _, f0⟩ := DataW.trod_int Tryz.underlying80 t0'
        obtain ⟨z1, k1, _, f1⟩ := DataW.trod_int Tryz.underlying80 t1'
        obtain ⟨n0, rfl, b0⟩ := num_of f0
        obtain ⟨n1, rfl, b1⟩ := num_of f1
        obtain rfl : c0 = .int .u64 n0 := by simpa using k0
        obtain rfl : c1 = .int .u64 n1 := by simpa using k1
        exact ⟨⟨n0, n1⟩, g1, b0, b1⟩)
    exact ⟨l, h1, h2, by omega⟩
/-- a cell that reads as a slice of votes -/
theorem votes_read {H : Type} {enc : TypeId × Value → H} {W : World} {fuel : Nat} {v : Value} {x : DataW H × List MemPlace}
    (hf : DataW.trod enc Tryz.prog W 0 (fun _ => true) true fuel 31 [v] = some x) (hsz : ∀ y ∈ x.1.weights Tryz.prog 31, y ≤ reachBytes) :
    ∃ l, Votes W W.heap.size v l ∧ (∀ v ∈ l, v.ok) ∧ l.length < 2305843009213693952 := by
  rcases Deep.open_slice Tryz.underlying31 hf with ⟨hcs, _⟩ | ⟨a, len, cap, m, n, D, Pl, hcs, _, hl, hm, hmm, hx, hel⟩
  · obtain rfl : v = .slice none 0 0 := by simpa using hcs
    exact ⟨[], .inl ⟨rfl, rfl⟩, by simp, by simp⟩
  · obtain rfl : v = .slice (some a) len cap := by simpa using hcs
    have hm' : m = cap := by simpa using hmm
    subst hm'
    have hc3 : Tryz.prog.cellsOf 86 = 3 := by kernel_rfl
    have hb24 : Tryz.prog.bytesOf 86 = 24 := by kernel_rfl
    have hlen : len < 2305843009213693952 := by
      have := hsz ((len + (m - len)) * 24) (by rw [hx]; simp [DataW.weights, Tryz.underlying31, hb24])
      simp only [reachBytes] at this
      omega
    haveI : Inhabited Vt := ⟨⟨false, 0, 0⟩⟩
    obtain ⟨l, h1, h2, h3⟩ := recs_of (W := W) (a := a) (len := len) (m := m) (k := 3) vtRow Vt.ok (by omega) (fun _ => rfl) hl (fun i hi => by
      obtain ⟨cs', g1, g2⟩ := hel i (by omega)
      rw [hc3] at g1
      obtain ⟨_, hcl, _⟩ := World.cells?_some g1
      match cs', hcl with
      | [c0, c1, c2], _ =>
        obtain ⟨x0, x1, n1', _, _, s0, s1⟩ := trod_struct2 Tryz.underlying86 g2
        have eb : Tryz.prog.cellsOf 4 = 1 := by kernel_rfl
        have es : Tryz.prog.cellsOf 84 = 2 := by kernel_rfl
        have s0' : DataW.trod enc Tryz.prog W 0 (fun _ => true) true n1' 4 [c0] = some x0 := by rw [show [c0] = (([c0, c1, c2].drop 0).take (Tryz.prog.cellsOf 4)) by rw [eb]; rfl]; exact s0
        have s1' : DataW.trod enc Tryz.prog W 0 (fun _ => true) true n1' 84 [c1, c2] = some x1 := by rw [show [c1, c2] = (([c0, c1, c2].drop 1).take (Tryz.prog.cellsOf 84)) by rw [es]; rfl]; exact s1
        obtain ⟨zb, kb, _⟩ := DataW.trod_bool Tryz.underlying4 s0'
        obtain rfl : c0 = .bool zb := by simpa using kb
        obtain ⟨y0, y1, n', _, _, t0, t1⟩ := trod_struct2 Tryz.underlying84 s1'
        have e1 : Tryz.prog.cellsOf 80 = 1 := by kernel_rfl
        have t0' : DataW.trod enc Tryz.prog W 0 (fun _ => true) true n' 80 [c1] = some y0 := by rw [show [c1] = (([c1, c2].drop 0).take (Tryz.prog.cellsOf 80)) by rw [e1]; rfl]; exact t0
        have t1' : DataW.trod enc Tryz.prog W 0 (fun _ => true) true n' 80 [c2] = some y1 := by rw [show [c2] = (([c1, c2].drop 1).take (Tryz.prog.cellsOf 80)) by rw [e1]; rfl]; exact t1
        obtain ⟨z0, k0, _, f0⟩ := DataW.trod_int Tryz.underlying80 t0'
        obtain ⟨z1, k1, _, f1⟩ := DataW.trod_int Tryz.underlying80 t1'
        obtain ⟨n0, rfl, b0⟩ := num_of f0
        obtain ⟨n1, rfl, b1⟩ := num_of f1
        obtain rfl : c1 = .int .u64 n0 := by simpa using k0
        obtain rfl : c2 = .int .u64 n1 := by simpa using k1
        exact ⟨⟨zb, n0, n1⟩, g1, b0, b1⟩)
    exact ⟨l, h1, h2, by omega⟩
/-- a cell that reads as a slice of slices of bytes -/
theorem lists_readH {H : Type} {enc : TypeId × Value → H} {W : World} {fuel : Nat} {v : Value} {x : DataW H × List MemPlace}
    (hf : DataW.trod enc Tryz.prog W 0 (fun _ => true) true fuel 54 [v] = some x) (hsz : ∀ y ∈ x.1.weights Tryz.prog 54, y ≤ reachBytes) :
    ∃ l, Lists W W.heap.size v l ∧ (∀ d ∈ l, d.length ≤ 140737488351232) ∧ l.length * 24 ≤ 140737488351232 := by
  rcases Deep.open_slice Tryz.underlying54 hf with ⟨hcs, _⟩ | ⟨a, len, cap, m, n, D, Pl, hcs, _, hl, hm, hmm, hx, hel⟩
  · obtain rfl : v = .slice none 0 0 := by simpa using hcs
    exact ⟨[], .inl ⟨rfl, rfl⟩, by simp, by simp⟩
  · obtain rfl : v = .slice (some a) len cap := by simpa using hcs
    have hm' : m = cap := by simpa using hmm
    subst hm'
    have hc1 : Tryz.prog.cellsOf 25 = 1 := by kernel_rfl
    have hb24 : Tryz.prog.bytesOf 25 = 24 := by kernel_rfl
    have hlen : len * 24 ≤ 140737488351232 := by
      have := hsz ((len + (m - len)) * 24) (by rw [hx]; simp [DataW.weights, Tryz.underlying54, hb24])
      simp only [reachBytes] at this
      omega
    have each : ∀ i, i < len → ∃ p : Value × List (BitVec 8), W.cell? (a.add (i * 1)) = some p.1 ∧ Bytes W W.heap.size p.1 p.2 ∧ p.2.length ≤ 140737488351232 := fun i hi => by
      obtain ⟨cs', h1, h2⟩ := hel i (by omega)
      rw [hc1] at h1
      obtain ⟨_, hcl, hcc⟩ := World.cells?_some h1
      match cs', hcl with
      | [c0], _ =>
        have g0 := hcc 0 (by omega)
        rw [addr_add0H] at g0
        obtain ⟨l0, hb0, hl0⟩ := bytes_cell_sizedH h2 (fun y hy => hsz y (by
          rw [hx]
          simp only [DataW.weights, Tryz.underlying54, List.mem_cons, List.mem_append]
          exact .inr (.inl (weights_all_memH _ _ _ (D i) (List.mem_map.2 ⟨i, List.mem_range.2 hi, rfl⟩) y hy))))
        exact ⟨(c0, l0), g0, hb0, hl0⟩
    haveI : Inhabited (Value × List (BitVec 8)) := ⟨(undef, [])⟩
    obtain ⟨f, hfs⟩ := Deep.choose_lt each
    refine ⟨(List.range len).map fun i => (f i).2, ?_, ?_, by simpa using hlen⟩
    · by_cases h0 : len = 0
      · subst h0
        exact .inr (.inl ⟨a, m, rfl, rfl⟩)
      · obtain ⟨b, off, spot⟩ := a
        have hc := (hfs 0 (by omega)).1
        have hspot : spot = none := by simpa [Addr.add] using World.cell?_spot hc
        subst hspot
        refine .inr (.inr ⟨b, off, m, by simp, by simpa using hl, fun i hi => ?_⟩)
        have hi' : i < len := by simpa using hi
        obtain ⟨h1, h2, _⟩ := hfs i hi'
        rw [addr_addH, Nat.mul_one] at h1
        refine ⟨block_lt_of_cell h1, (f i).1, h1, ?_⟩
        rw [show ((List.range len).map fun i => (f i).2).getD i [] = (f i).2 by simp [hi']]
        exact h2
    · intro p hp
      obtain ⟨i, hi, rfl⟩ := List.mem_map.1 hp
      exact (hfs i (List.mem_range.1 hi)).2.2
/-- a header's six cells -/
theorem header_cells {H : Type} {enc : TypeId × Value → H} {W : World} {fuel : Nat} {c0 c1 c2 c3 c4 c5 : Value} {x : DataW H × List MemPlace}
    (hf : DataW.trod enc Tryz.prog W 0 (fun _ => true) true fuel 29 [c0, c1, c2, c3, c4, c5] = some x) (hsz : ∀ y ∈ x.1.weights Tryz.prog 29, y ≤ reachBytes) :
    ∃ h : Hd, c0 = .string h.chain ∧ c1 = .int .i64 h.height ∧ c2 = .int .i64 h.time ∧ Bytes W W.heap.size c3 h.root ∧ Bytes W W.heap.size c4 h.vals ∧ Bytes W W.heap.size c5 h.next ∧ h.fits := by
  obtain ⟨xs, n', _, hd, _, hlen, hfs⟩ := DataW.trod_struct Tryz.underlying29 hf
  have e0 : Tryz.prog.cellsOf 9 = 1 := by kernel_rfl
  have e1 : Tryz.prog.cellsOf 3 = 1 := by kernel_rfl
  have e3 : Tryz.prog.cellsOf 25 = 1 := by kernel_rfl
  match xs, hlen with
  | [y0, y1, y2, y3, y4, y5], _ =>
    have t0 : DataW.trod enc Tryz.prog W 0 (fun _ => true) true n' 9 [c0] = some y0 := by
      have := hfs 0 _ rfl
      simpa [e0] using this
    have t1 : DataW.trod enc Tryz.prog W 0 (fun _ => true) true n' 3 [c1] = some y1 := by
      have := hfs 1 _ rfl
      simpa [e1] using this
    have t2 : DataW.trod enc Tryz.prog W 0 (fun _ => true) true n' 3 [c2] = some y2 := by
      have := hfs 2 _ rfl
      simpa [e1] using this
    have t3 : DataW.trod enc Tryz.prog W 0 (fun _ => true) true n' 25 [c3] = some y3 := by
      have := hfs 3 _ rfl
      simpa [e3] using this
    have t4 : DataW.trod enc Tryz.prog W 0 (fun _ => true) true n' 25 [c4] = some y4 := by
      have := hfs 4 _ rfl
      simpa [e3] using this
    have t5 : DataW.trod enc Tryz.prog W 0 (fun _ => true) true n' 25 [c5] = some y5 := by
      have := hfs 5 _ rfl
      simpa [e3] using this
    have hw : ∀ y, y ∈ y0.1.weights Tryz.prog 9 ∨ y ∈ y3.1.weights Tryz.prog 25 ∨ y ∈ y4.1.weights Tryz.prog 25 ∨ y ∈ y5.1.weights Tryz.prog 25 → y ≤ reachBytes := fun y hy => hsz y (by
      rw [hd]
      simp only [DataW.weights, Tryz.underlying29]
      simp [DataW.weightsEach]
      rcases hy with hy | hy | hy | hy
      · exact .inl hy
      · exact .inr (.inr (.inr (.inl hy)))
      · exact .inr (.inr (.inr (.inr (.inl hy))))
      · exact .inr (.inr (.inr (.inr (.inr hy)))))
    obtain ⟨l3, hb3, hl3⟩ := bytes_cell_sizedH t3 (fun y hy => hw y (.inr (.inl hy)))
    obtain ⟨l4, hb4, hl4⟩ := bytes_cell_sizedH t4 (fun y hy => hw y (.inr (.inr (.inl hy))))
    obtain ⟨l5, hb5, hl5⟩ := bytes_cell_sizedH t5 (fun y hy => hw y (.inr (.inr (.inr hy))))
    obtain ⟨s, g0, q0, _⟩ := DataW.trod_string Tryz.underlying9 t0
    obtain ⟨z1, g1, _⟩ := DataW.trod_int Tryz.underlying3 t1
    obtain ⟨z2, g2, _⟩ := DataW.trod_int Tryz.underlying3 t2
    obtain rfl : c0 = .string s := by simpa using g0
    obtain rfl : c1 = .int .i64 z1 := by simpa using g1
    obtain rfl : c2 = .int .i64 z2 := by simpa using g2
    have hs : s.size ≤ 140737488351232 := by
      have := hw s.size (.inl (by rw [q0]; simp [DataW.weights]))
      simpa [reachBytes] using this
    exact ⟨⟨s, z1, z2, l3, l4, l5⟩, rfl, rfl, rfl, hb3, hb4, hb5, hs, hl3, hl4, hl5⟩
theorem cellsHeader : Tryz.prog.cellsOf 29 = 6 := by kernel_rfl
theorem cellsSigned : Tryz.prog.cellsOf 33 = 8 := by kernel_rfl
set_option maxRecDepth 100000 in
/-- an argument that reads as a header -/
theorem header_read {H : Type} {enc : TypeId × Value → H} {W : World} {base : Nat} {v : Value} {d : DataW H} {p : List MemPlace}
    (hval : Value.okWide Tryz.prog W .any base 29 v) (h : DataW.Trod enc Tryz.prog W 0 (fun _ => true) true 29 v d p) (hsz : ∀ y ∈ d.weights Tryz.prog 29, y ≤ reachBytes) :
    ∃ g : Hd, HdV W W.heap.size v g ∧ g.fits := by
  obtain ⟨cs, rfl, hcs⟩ := okWide_struct Tryz.underlying29 hval
  rw [cellsHeader] at hcs
  obtain ⟨l⟩ := cs
  match l, hcs with
  | [c0, c1, c2, c3, c4, c5], _ =>
    obtain ⟨fuel, hf⟩ := h
    obtain ⟨g, rfl, rfl, rfl, h3, h4, h5, hg⟩ := header_cells (x := (d, p)) hf hsz
    exact ⟨g, ⟨c3, c4, c5, rfl, h3, h4, h5⟩, hg⟩
set_option maxRecDepth 100000 in
/-- an argument that reads as a signed header -/
theorem signed_read {H : Type} {enc : TypeId × Value → H} {W : World} {base : Nat} {v : Value} {d : DataW H} {p : List MemPlace}
    (hval : Value.okWide Tryz.prog W .any base 33 v) (h : DataW.Trod enc Tryz.prog W 0 (fun _ => true) true 33 v d p) (hsz : ∀ y ∈ d.weights Tryz.prog 33, y ≤ reachBytes) :
    ∃ g : Sg, SgV W W.heap.size v g ∧ g.fits := by
  obtain ⟨cs, rfl, hcs⟩ := okWide_struct Tryz.underlying33 hval
  rw [cellsSigned] at hcs
  obtain ⟨l⟩ := cs
  match l, hcs with
  | [c0, c1, c2, c3, c4, c5, c6, c7], _ =>
    obtain ⟨fuel, hf⟩ := h
    have hf' : DataW.trod enc Tryz.prog W 0 (fun _ => true) true fuel 33 [c0, c1, c2, c3, c4, c5, c6, c7] = some (d, p) := hf
    obtain ⟨xs, n', _, hd, _, hlen, hfs⟩ := DataW.trod_struct Tryz.underlying33 hf'
    have e1 : Tryz.prog.cellsOf 30 = 1 := by kernel_rfl
    have e2 : Tryz.prog.cellsOf 31 = 1 := by kernel_rfl
    match xs, hlen with
    | [y0, y1, y2], _ =>
      have t0 : DataW.trod enc Tryz.prog W 0 (fun _ => true) true n' 29 [c0, c1, c2, c3, c4, c5] = some y0 := by
        have := hfs 0 _ rfl
        simpa [cellsHeader] using this
      have t1 : DataW.trod enc Tryz.prog W 0 (fun _ => true) true n' 30 [c6] = some y1 := by
        have := hfs 1 _ rfl
        simpa [e1] using this
      have t2 : DataW.trod enc Tryz.prog W 0 (fun _ => true) true n' 31 [c7] = some y2 := by
        have := hfs 2 _ rfl
        simpa [e2] using this
      have hd1 : d = .agg [y0.1, y1.1, y2.1] := congrArg Prod.fst hd
      have hw : ∀ y, y ∈ y0.1.weights Tryz.prog 29 ∨ y ∈ y1.1.weights Tryz.prog 30 ∨ y ∈ y2.1.weights Tryz.prog 31 → y ≤ reachBytes := fun y hy => hsz y (by
        rw [hd1]
        simp only [DataW.weights, Tryz.underlying33]
        simp [DataW.weightsEach]
        exact hy)
      obtain ⟨g, rfl, rfl, rfl, h3, h4, h5, hg⟩ := header_cells t0 (fun y hy => hw y (.inl hy))
      obtain ⟨l1, b1, f1, k1⟩ := vals_read t1 (fun y hy => hw y (.inr (.inl hy)))
      obtain ⟨l2, b2, f2, k2⟩ := votes_read t2 (fun y hy => hw y (.inr (.inr hy)))
      exact ⟨⟨g, l1, l2⟩, ⟨c3, c4, c5, c6, c7, rfl, h3, h4, h5, b1, b2⟩, hg, k1, k2, f1, f2⟩
end Go.Proofs.YtiflkkelbnpniaaGreatDoor
namespace Go.Proofs.YtiflkkelbnpniaaGreatDoor
open Go.ChangeShapes Go.WideShapes Go.ChangeAt Go.RowKit

/-- four cells of what is known of a block -/
theorem known_cells {H : Type} {enc : TypeId × Value → H} {W : World} {fuel : Nat} {c0 c1 c2 c3 : Value} {x : DataW H × List MemPlace}
    (hf : DataW.trod enc Tryz.prog W 0 (fun _ => true) true fuel 27 [c0, c1, c2, c3] = some x) (hsz : ∀ y ∈ x.1.weights Tryz.prog 27, y ≤ reachBytes) :
    ∃ k : Kn, c0 = .int .i64 k.height ∧ c1 = .int .i64 k.time ∧ Bytes W W.heap.size c2 k.root ∧ Bytes W W.heap.size c3 k.next ∧ k.fits := by
  obtain ⟨xs, n', _, hd, _, hlen, hfs⟩ := DataW.trod_struct Tryz.underlying27 hf
  have e1 : Tryz.prog.cellsOf 3 = 1 := by kernel_rfl
  have e3 : Tryz.prog.cellsOf 25 = 1 := by kernel_rfl
  match xs, hlen with
  | [y0, y1, y2, y3], _ =>
    have t0 : DataW.trod enc Tryz.prog W 0 (fun _ => true) true n' 3 [c0] = some y0 := by
      have := hfs 0 _ rfl
      simpa [e1] using this
    have t1 : DataW.trod enc Tryz.prog W 0 (fun _ => true) true n' 3 [c1] = some y1 := by
      have := hfs 1 _ rfl
      simpa [e1] using this
    have t2 : DataW.trod enc Tryz.prog W 0 (fun _ => true) true n' 25 [c2] = some y2 := by
      have := hfs 2 _ rfl
      simpa [e3] using this
    have t3 : DataW.trod enc Tryz.prog W 0 (fun _ => true) true n' 25 [c3] = some y3 := by
      have := hfs 3 _ rfl
      simpa [e3] using this
    have hw : ∀ y, y ∈ y2.1.weights Tryz.prog 25 ∨ y ∈ y3.1.weights Tryz.prog 25 → y ≤ reachBytes := fun y hy => hsz y (by
      rw [hd]
      simp only [DataW.weights, Tryz.underlying27]
      simp [DataW.weightsEach]
      rcases hy with hy | hy
      · exact .inr (.inr (.inl hy))
      · exact .inr (.inr (.inr hy)))
    obtain ⟨l2, hb2, hl2⟩ := bytes_cell_sizedH t2 (fun y hy => hw y (.inl hy))
    obtain ⟨l3, hb3, hl3⟩ := bytes_cell_sizedH t3 (fun y hy => hw y (.inr hy))
    obtain ⟨z0, g0, _⟩ := DataW.trod_int Tryz.underlying3 t0
    obtain ⟨z1, g1, _⟩ := DataW.trod_int Tryz.underlying3 t1
    obtain rfl : c0 = .int .i64 z0 := by simpa using g0
    obtain rfl : c1 = .int .i64 z1 := by simpa using g1
    exact ⟨⟨z0, z1, l2, l3⟩, rfl, rfl, hb2, hb3, hl2, hl3⟩
/-- a cell that reads as a slice of what is known -/
theorem knowns_read {H : Type} {enc : TypeId × Value → H} {W : World} {fuel : Nat} {v : Value} {x : DataW H × List MemPlace}
    (hf : DataW.trod enc Tryz.prog W 0 (fun _ => true) true fuel 22 [v] = some x) (hsz : ∀ y ∈ x.1.weights Tryz.prog 22, y ≤ reachBytes) :
    ∃ l, Knowns W W.heap.size v l ∧ (∀ k ∈ l, k.fits) ∧ l.length < 2305843009213693952 := by
  rcases Deep.open_slice Tryz.underlying22 hf with ⟨hcs, _⟩ | ⟨a, len, cap, m, n, D, Pl, hcs, _, hl, hm, hmm, hx, hel⟩
  · obtain rfl : v = .slice none 0 0 := by simpa using hcs
    exact ⟨[], Knowns.nil _ _, by simp, by simp⟩
  · obtain rfl : v = .slice (some a) len cap := by simpa using hcs
    have hm' : m = cap := by simpa using hmm
    subst hm'
    have hc4 : Tryz.prog.cellsOf 27 = 4 := by kernel_rfl
    have hb64 : Tryz.prog.bytesOf 27 = 64 := by kernel_rfl
    have hlen : len < 2305843009213693952 := by
      have := hsz ((len + (m - len)) * 64) (by rw [hx]; simp [DataW.weights, Tryz.underlying22, hb64])
      simp only [reachBytes] at this
      omega
    haveI : Inhabited KnR := ⟨⟨Kn.none, undef, undef⟩⟩
    obtain ⟨l, h1, h2, h3⟩ := recs_of (W := W) (a := a) (len := len) (m := m) (k := 4) knRow (fun q : KnR => q.ok W W.heap.size ∧ q.k.fits) (by omega) (fun _ => rfl) hl (fun i hi => by
      obtain ⟨cs', g1, g2⟩ := hel i (by omega)
      rw [hc4] at g1
      obtain ⟨_, hcl, _⟩ := World.cells?_some g1
      match cs', hcl with
      | [c0, c1, c2, c3], _ =>
        obtain ⟨k, rfl, rfl, b2, b3, hfit⟩ := known_cells g2 (fun y hy => hsz y (by
          rw [hx]
          simp only [DataW.weights, Tryz.underlying22, List.mem_cons, List.mem_append]
          exact .inr (.inl (weights_all_memH _ _ _ (D i) (List.mem_map.2 ⟨i, List.mem_range.2 hi, rfl⟩) y hy))))
        exact ⟨⟨k, c2, c3⟩, g1, ⟨b2, b3⟩, hfit⟩)
    refine ⟨l.map (·.k), ⟨l, rfl, h1, fun q hq => (h2 q hq).1⟩, fun k hk => ?_, by simp; omega⟩
    obtain ⟨q, hq, rfl⟩ := List.mem_map.1 hk
    exact (h2 q hq).2
theorem cellsKnown : Tryz.prog.cellsOf 27 = 4 := by kernel_rfl
theorem cellsClient : Tryz.prog.cellsOf 24 = 4 := by kernel_rfl
theorem cellsUpdate : Tryz.prog.cellsOf 35 = 10 := by kernel_rfl
set_option maxRecDepth 100000 in
/-- an argument that reads as what is known of a block -/
theorem known_read {H : Type} {enc : TypeId × Value → H} {W : World} {base : Nat} {v : Value} {d : DataW H} {p : List MemPlace}
    (hval : Value.okWide Tryz.prog W .any base 27 v) (h : DataW.Trod enc Tryz.prog W 0 (fun _ => true) true 27 v d p) (hsz : ∀ y ∈ d.weights Tryz.prog 27, y ≤ reachBytes) :
    ∃ g : Kn, KnV W W.heap.size v g ∧ g.fits := by
  obtain ⟨cs, rfl, hcs⟩ := okWide_struct Tryz.underlying27 hval
  rw [cellsKnown] at hcs
  obtain ⟨l⟩ := cs
  match l, hcs with
  | [c0, c1, c2, c3], _ =>
    obtain ⟨fuel, hf⟩ := h
    obtain ⟨g, rfl, rfl, h2, h3, hg⟩ := known_cells (x := (d, p)) hf hsz
    exact ⟨g, ⟨c2, c3, rfl, h2, h3⟩, hg⟩
/-- a client's four cells -/
theorem client_cells {H : Type} {enc : TypeId × Value → H} {W : World} {fuel : Nat} {c0 c1 c2 c3 : Value} {x : DataW H × List MemPlace}
    (hf : DataW.trod enc Tryz.prog W 0 (fun _ => true) true fuel 24 [c0, c1, c2, c3] = some x) (hsz : ∀ y ∈ x.1.weights Tryz.prog 24, y ≤ reachBytes) :
    ∃ c : Cl, c0 = .string c.chain ∧ c1 = .int .i64 c.trust ∧ c2 = .bool c.frozen ∧ Knowns W W.heap.size c3 c.known ∧ c.fits := by
  obtain ⟨xs, n', _, hd, _, hlen, hfs⟩ := DataW.trod_struct Tryz.underlying24 hf
  have e0 : Tryz.prog.cellsOf 9 = 1 := by kernel_rfl
  have e1 : Tryz.prog.cellsOf 3 = 1 := by kernel_rfl
  have e2 : Tryz.prog.cellsOf 4 = 1 := by kernel_rfl
  have e3 : Tryz.prog.cellsOf 22 = 1 := by kernel_rfl
  match xs, hlen with
  | [y0, y1, y2, y3], _ =>
    have t0 : DataW.trod enc Tryz.prog W 0 (fun _ => true) true n' 9 [c0] = some y0 := by
      have := hfs 0 _ rfl
      simpa [e0] using this
    have t1 : DataW.trod enc Tryz.prog W 0 (fun _ => true) true n' 3 [c1] = some y1 := by
      have := hfs 1 _ rfl
      simpa [e1] using this
    have t2 : DataW.trod enc Tryz.prog W 0 (fun _ => true) true n' 4 [c2] = some y2 := by
      have := hfs 2 _ rfl
      simpa [e2] using this
    have t3 : DataW.trod enc Tryz.prog W 0 (fun _ => true) true n' 22 [c3] = some y3 := by
      have := hfs 3 _ rfl
      simpa [e3] using this
    have hw : ∀ y, y ∈ y0.1.weights Tryz.prog 9 ∨ y ∈ y3.1.weights Tryz.prog 22 → y ≤ reachBytes := fun y hy => hsz y (by
      rw [hd]
      simp only [DataW.weights, Tryz.underlying24]
      simp [DataW.weightsEach]
      rcases hy with hy | hy
      · exact .inl hy
      · exact .inr (.inr (.inr hy)))
    obtain ⟨l3, hb3, hf3, hl3⟩ := knowns_read t3 (fun y hy => hw y (.inr hy))
    obtain ⟨s, g0, q0, _⟩ := DataW.trod_string Tryz.underlying9 t0
    obtain ⟨z1, g1, _⟩ := DataW.trod_int Tryz.underlying3 t1
    obtain ⟨z2, g2, _⟩ := DataW.trod_bool Tryz.underlying4 t2
    obtain rfl : c0 = .string s := by simpa using g0
    obtain rfl : c1 = .int .i64 z1 := by simpa using g1
    obtain rfl : c2 = .bool z2 := by simpa using g2
    have hs : s.size ≤ 140737488351232 := by
      have := hw s.size (.inl (by rw [q0]; simp [DataW.weights]))
      simpa [reachBytes] using this
    exact ⟨⟨s, z1, z2, l3⟩, rfl, rfl, rfl, hb3, hs, hl3, hf3⟩
set_option maxRecDepth 100000 in
/-- an argument that reads as a client -/
theorem client_read {H : Type} {enc : TypeId × Value → H} {W : World} {base : Nat} {v : Value} {d : DataW H} {p : List MemPlace}
    (hval : Value.okWide Tryz.prog W .any base 24 v) (h : DataW.Trod enc Tryz.prog W 0 (fun _ => true) true 24 v d p) (hsz : ∀ y ∈ d.weights Tryz.prog 24, y ≤ reachBytes) :
    ∃ g : Cl, ClV W W.heap.size v g ∧ g.fits := by
  obtain ⟨cs, rfl, hcs⟩ := okWide_struct Tryz.underlying24 hval
  rw [cellsClient] at hcs
  obtain ⟨l⟩ := cs
  match l, hcs with
  | [c0, c1, c2, c3], _ =>
    obtain ⟨fuel, hf⟩ := h
    obtain ⟨g, rfl, rfl, rfl, h3, hg⟩ := client_cells (x := (d, p)) hf hsz
    exact ⟨g, ⟨c3, rfl, h3⟩, hg⟩
/-- a signed header's eight cells -/
theorem signed_cells {H : Type} {enc : TypeId × Value → H} {W : World} {fuel : Nat} {c0 c1 c2 c3 c4 c5 c6 c7 : Value} {x : DataW H × List MemPlace}
    (hf : DataW.trod enc Tryz.prog W 0 (fun _ => true) true fuel 33 [c0, c1, c2, c3, c4, c5, c6, c7] = some x) (hsz : ∀ y ∈ x.1.weights Tryz.prog 33, y ≤ reachBytes) :
    ∃ s : Sg, SgV W W.heap.size (.agg #[c0, c1, c2, c3, c4, c5, c6, c7]) s ∧ s.fits := by
  obtain ⟨xs, n', _, hd, _, hlen, hfs⟩ := DataW.trod_struct Tryz.underlying33 hf
  have e1 : Tryz.prog.cellsOf 30 = 1 := by kernel_rfl
  have e2 : Tryz.prog.cellsOf 31 = 1 := by kernel_rfl
  match xs, hlen with
  | [y0, y1, y2], _ =>
    have t0 : DataW.trod enc Tryz.prog W 0 (fun _ => true) true n' 29 [c0, c1, c2, c3, c4, c5] = some y0 := by
      have := hfs 0 _ rfl
      simpa [cellsHeader] using this
    have t1 : DataW.trod enc Tryz.prog W 0 (fun _ => true) true n' 30 [c6] = some y1 := by
      have := hfs 1 _ rfl
      simpa [e1] using this
    have t2 : DataW.trod enc Tryz.prog W 0 (fun _ => true) true n' 31 [c7] = some y2 := by
      have := hfs 2 _ rfl
      simpa [e2] using this
    have hw : ∀ y, y ∈ y0.1.weights Tryz.prog 29 ∨ y ∈ y1.1.weights Tryz.prog 30 ∨ y ∈ y2.1.weights Tryz.prog 31 → y ≤ reachBytes := fun y hy => hsz y (by
      rw [hd]
      simp only [DataW.weights, Tryz.underlying33]
      simp [DataW.weightsEach]
      exact hy)
    obtain ⟨g, rfl, rfl, rfl, h3, h4, h5, hg⟩ := header_cells t0 (fun y hy => hw y (.inl hy))
    obtain ⟨l1, b1, f1, k1⟩ := vals_read t1 (fun y hy => hw y (.inr (.inl hy)))
    obtain ⟨l2, b2, f2, k2⟩ := votes_read t2 (fun y hy => hw y (.inr (.inr hy)))
    exact ⟨⟨g, l1, l2⟩, ⟨c3, c4, c5, c6, c7, rfl, h3, h4, h5, b1, b2⟩, hg, k1, k2, f1, f2⟩
set_option maxRecDepth 100000 in
/-- an argument that reads as an update -/
theorem update_read {H : Type} {enc : TypeId × Value → H} {W : World} {base : Nat} {v : Value} {d : DataW H} {p : List MemPlace}
    (hval : Value.okWide Tryz.prog W .any base 35 v) (h : DataW.Trod enc Tryz.prog W 0 (fun _ => true) true 35 v d p) (hsz : ∀ y ∈ d.weights Tryz.prog 35, y ≤ reachBytes) :
    ∃ g : Up, UpV W W.heap.size v g ∧ g.fits := by
  obtain ⟨cs, rfl, hcs⟩ := okWide_struct Tryz.underlying35 hval
  rw [cellsUpdate] at hcs
  obtain ⟨l⟩ := cs
  match l, hcs with
  | [c0, c1, c2, c3, c4, c5, c6, c7, c8, c9], _ =>
    obtain ⟨fuel, hf⟩ := h
    have hf' : DataW.trod enc Tryz.prog W 0 (fun _ => true) true fuel 35 [c0, c1, c2, c3, c4, c5, c6, c7, c8, c9] = some (d, p) := hf
    obtain ⟨xs, n', _, hd, _, hlen, hfs⟩ := DataW.trod_struct Tryz.underlying35 hf'
    have e0 : Tryz.prog.cellsOf 3 = 1 := by kernel_rfl
    have e2 : Tryz.prog.cellsOf 30 = 1 := by kernel_rfl
    match xs, hlen with
    | [y0, y1, y2], _ =>
      have t0 : DataW.trod enc Tryz.prog W 0 (fun _ => true) true n' 3 [c0] = some y0 := by
        have := hfs 0 _ rfl
        simpa [e0] using this
      have t1 : DataW.trod enc Tryz.prog W 0 (fun _ => true) true n' 33 [c1, c2, c3, c4, c5, c6, c7, c8] = some y1 := by
        have := hfs 1 _ rfl
        simpa [cellsSigned] using this
      have t2 : DataW.trod enc Tryz.prog W 0 (fun _ => true) true n' 30 [c9] = some y2 := by
        have := hfs 2 _ rfl
        simpa [e2] using this
      have hd1 : d = .agg [y0.1, y1.1, y2.1] := congrArg Prod.fst hd
      have hw : ∀ y, y ∈ y1.1.weights Tryz.prog 33 ∨ y ∈ y2.1.weights Tryz.prog 30 → y ≤ reachBytes := fun y hy => hsz y (by
        rw [hd1]
        simp only [DataW.weights, Tryz.underlying35]
        simp [DataW.weightsEach]
        exact .inr hy)
      obtain ⟨z, g0, _⟩ := DataW.trod_int Tryz.underlying3 t0
      obtain rfl : c0 = .int .i64 z := by simpa using g0
      obtain ⟨s, hs, hsf⟩ := signed_cells t1 (fun y hy => hw y (.inl hy))
      obtain ⟨l2, b2, f2, k2⟩ := vals_read t2 (fun y hy => hw y (.inr hy))
      exact ⟨⟨z, s, l2⟩, ⟨c1, c2, c3, c4, c5, c6, c7, c8, c9, rfl, hs, b2⟩, hsf, k2, f2⟩
end Go.Proofs.YtiflkkelbnpniaaGreatDoor
