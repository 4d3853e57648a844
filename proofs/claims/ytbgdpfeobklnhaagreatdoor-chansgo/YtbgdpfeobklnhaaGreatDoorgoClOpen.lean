/-
  What an argument's reading gives, where it is a slice of validators, of votes, of slices of bytes, a header or a signed header.
  What an argument's reading gives, where it is what is known of a block, a client or an update.
-/
import Derived.Test.YtbgdpfeobklnhaaGreatDoorgoMemB
import Derived.Test.YtbgdpfeobklnhaaGreatDoorgoHdMems
import Derived.Test.YtbgdpfeobklnhaaGreatDoorgoClMem
import Derived.Deep.Slices
import Derived.Deep.Strs
import Derived.Deep.FieldsWide
namespace Go.Proofs.YtbgdpfeobklnhaaGreatDoor
open Go.ChangeShapes Go.WideShapes Go.ChangeAt Go.RowKit

theorem addr_addH (b off i : Nat) : (⟨b, off, none⟩ : Addr).add i = ⟨b, off + i, none⟩ := by unfold Addr.add; split <;> simp_all
/-- a cell that reads as a slice of bytes -/
theorem bytes_cell_sizedH {H : Type} {enc : TypeId × Value → H} {W : World} {fuel : Nat} {v : Value} {x : DataW H × List MemPlace}
    (hf : DataW.trod enc Tryz.prog W 0 (fun _ => true) true fuel 29 [v] = some x) (hsz : ∀ y ∈ x.1.weights Tryz.prog 29, y ≤ reachBytes) :
    ∃ l, Bytes W W.heap.size v l ∧ l.length ≤ 140737488351232 := by
  rcases open_ints Tryz.underlying29 Tryz.underlying5 (by kernel_rfl) hf with ⟨hcs, _⟩ | ⟨a, len, cap, zs, hcs, _⟩
  · obtain rfl : v = .slice none 0 0 := by simpa using hcs
    exact ⟨[], .inl ⟨rfl, rfl⟩, by simp⟩
  · obtain rfl : v = .slice (some a) len cap := by simpa using hcs
    refine bytes_read_len (a0 := some a) (len0 := len) (cap0 := cap) (x := x) hf (fun elems spare he => ?_)
    refine hsz _ ?_
    rw [he]
    simp [DataW.weights, Tryz.underlying29]
theorem weights_all_memH {H : Type} (P : Program) (e : TypeId) (l : List (DataW H)) (d : DataW H) (hd : d ∈ l) (y : Nat) (hy : y ∈ d.weights P e) : y ∈ DataW.weightsAll P e l := by
  induction l with
  | nil => simp at hd
  | cons a r ih =>
    simp only [DataW.weightsAll, List.mem_append]
    rcases List.mem_cons.1 hd with rfl | h
    · exact .inl hy
    · exact .inr (ih h)
/-- rows of k cells, each of which reads -/
theorem recs_of {W : World} {a : Addr} {len m k : Nat} {α : Type} [Inhabited α] (row : α → List Value) (P : α → Prop) (hk : 0 < k) (hrow : ∀ r, (row r).length = k) (hl : len ≤ m)
    (each : ∀ i, i < len → ∃ r, W.cells? 0 (a.add (i * k)) k = some (row r) ∧ P r) : ∃ l : List α, Recs W W.heap.size (.slice (some a) len m) k (l.map row) ∧ (∀ r ∈ l, P r) ∧ l.length = len := by
  obtain ⟨f, hfs⟩ := Deep.choose_lt each
  refine ⟨(List.range len).map f, ?_, fun r hr => ?_, by simp⟩
  · by_cases h0 : len = 0
    · subst h0
      exact .inr (.inl ⟨a, m, rfl, rfl⟩)
    · have cell : ∀ i, i < len → ∀ j, j < k → W.cell? ((a.add (i * k)).add j) = (row (f i))[j]? := fun i hi j hj => (World.cells?_some (hfs i hi).1).2.2 j hj
      obtain ⟨b, off, spot⟩ := a
      have hc := cell 0 (by omega) 0 hk
      rw [List.getElem?_eq_getElem (by rw [hrow]; exact hk)] at hc
      have hspot : spot = none := by simpa [Addr.add] using World.cell?_spot hc
      subst hspot
      refine .inr (.inr ⟨b, off, m, by simp, by simpa using hl, fun i r hr => ?_⟩)
      have hi : i < len := by have := (List.getElem?_eq_some_iff.1 hr).1; simpa using this
      obtain rfl : row (f i) = r := by
        rw [List.getElem?_map, List.getElem?_map, List.getElem?_range hi] at hr
        simpa using hr
      have hcell : ∀ j x, (row (f i))[j]? = some x → W.cell? ⟨b, off + i * k + j, none⟩ = some x := fun j x hx => by
        have hj : j < k := by have := (List.getElem?_eq_some_iff.1 hx).1; rwa [hrow] at this
        have := cell i hi j hj
        rwa [addr_addH, addr_addH, hx] at this
      refine ⟨block_lt_of_cell (hcell 0 _ (List.getElem?_eq_getElem (by rw [hrow]; exact hk))), hcell⟩
  · obtain ⟨i, hi, rfl⟩ := List.mem_map.1 hr
    exact (hfs i (List.mem_range.1 hi)).2
theorem num_of {z : Int} (h : (Lit.int .u64 z).wf = true) : ∃ n : Nat, z = n ∧ n < 18446744073709551616 := by
  have : 0 ≤ z ∧ z < 18446744073709551616 := by
    simp [Lit.wf, IntKind.min, IntKind.max, IntKind.signed, IntKind.bits] at h
    omega
  exact ⟨z.toNat, by omega, by omega⟩
end Go.Proofs.YtbgdpfeobklnhaaGreatDoor
namespace Go.Proofs.YtbgdpfeobklnhaaGreatDoor
open Go.ChangeShapes Go.WideShapes Go.ChangeAt Go.RowKit

/-- four cells of what is known of a block -/
theorem known_cells {H : Type} {enc : TypeId × Value → H} {W : World} {fuel : Nat} {c0 c1 c2 c3 : Value} {x : DataW H × List MemPlace}
    (hf : DataW.trod enc Tryz.prog W 0 (fun _ => true) true fuel 114 [c0, c1, c2, c3] = some x) (hsz : ∀ y ∈ x.1.weights Tryz.prog 114, y ≤ reachBytes) :
    ∃ k : Kn, c0 = .int .i64 k.height ∧ c1 = .int .i64 k.time ∧ Bytes W W.heap.size c2 k.root ∧ Bytes W W.heap.size c3 k.next ∧ k.fits := by
  obtain ⟨xs, n', _, hd, _, hlen, hfs⟩ := DataW.trod_struct Tryz.underlying114 hf
  have e1 : Tryz.prog.cellsOf 3 = 1 := by kernel_rfl
  have e3 : Tryz.prog.cellsOf 29 = 1 := by kernel_rfl
  match xs, hlen with
  | [y0, y1, y2, y3], _ =>
    have t0 : DataW.trod enc Tryz.prog W 0 (fun _ => true) true n' 3 [c0] = some y0 := by
      have := hfs 0 _ rfl
      simpa [e1] using this
    have t1 : DataW.trod enc Tryz.prog W 0 (fun _ => true) true n' 3 [c1] = some y1 := by
      have := hfs 1 _ rfl
      simpa [e1] using this
    have t2 : DataW.trod enc Tryz.prog W 0 (fun _ => true) true n' 29 [c2] = some y2 := by
      have := hfs 2 _ rfl
      simpa [e3] using this
    have t3 : DataW.trod enc Tryz.prog W 0 (fun _ => true) true n' 29 [c3] = some y3 := by
      have := hfs 3 _ rfl
      simpa [e3] using this
    have hw : ∀ y, y ∈ y2.1.weights Tryz.prog 29 ∨ y ∈ y3.1.weights Tryz.prog 29 → y ≤ reachBytes := fun y hy => hsz y (by
      rw [hd]
      simp only [DataW.weights, Tryz.underlying114]
      simp [DataW.weightsEach]
      rcases hy with hy | hy
      · exact .inr (.inr (.inl hy))
      · exact .inr (.inr (.inr hy)))
    obtain ⟨l2, hb2, hl2⟩ := bytes_cell_sizedH t2 (fun y hy => hw y (.inl hy))
    obtain ⟨l3, hb3, hl3⟩ := bytes_cell_sizedH t3 (fun y hy => hw y (.inr hy))
    obtain ⟨z0, g0, _⟩ := DataW.trod_int Tryz.underlying3 t0
    obtain ⟨z1, g1, _⟩ := DataW.trod_int Tryz.underlying3 t1
    obtain rfl : c0 = .int .i64 z0 := by simpa using g0
    obtain rfl : c1 = .int .i64 z1 := by simpa using g1
    exact ⟨⟨z0, z1, l2, l3⟩, rfl, rfl, hb2, hb3, hl2, hl3⟩
/-- a cell that reads as a slice of what is known -/
theorem knowns_read {H : Type} {enc : TypeId × Value → H} {W : World} {fuel : Nat} {v : Value} {x : DataW H × List MemPlace}
    (hf : DataW.trod enc Tryz.prog W 0 (fun _ => true) true fuel 70 [v] = some x) (hsz : ∀ y ∈ x.1.weights Tryz.prog 70, y ≤ reachBytes) :
    ∃ l, Knowns W W.heap.size v l ∧ (∀ k ∈ l, k.fits) ∧ l.length < 2305843009213693952 := by
  rcases Deep.open_slice Tryz.underlying70 hf with ⟨hcs, _⟩ | ⟨a, len, cap, m, n, D, Pl, hcs, _, hl, hm, hmm, hx, hel⟩
  · obtain rfl : v = .slice none 0 0 := by simpa using hcs
    exact ⟨[], Knowns.nil _ _, by simp, by simp⟩
  · obtain rfl : v = .slice (some a) len cap := by simpa using hcs
    have hm' : m = cap := by simpa using hmm
    subst hm'
    have hc4 : Tryz.prog.cellsOf 114 = 4 := by kernel_rfl
    have hb64 : Tryz.prog.bytesOf 114 = 64 := by kernel_rfl
    have hlen : len < 2305843009213693952 := by
      have := hsz ((len + (m - len)) * 64) (by rw [hx]; simp [DataW.weights, Tryz.underlying70, hb64])
      simp only [reachBytes] at this
      omega
    haveI : Inhabited KnR := ⟨⟨Kn.none, undef, undef⟩⟩
    obtain ⟨l, h1, h2, h3⟩ := recs_of (W := W) (a := a) (len := len) (m := m) (k := 4) knRow (fun q : KnR => q.ok W W.heap.size ∧ q.k.fits) (by omega) (fun _ => rfl) hl (fun i hi => by
      obtain ⟨cs', g1, g2⟩ := hel i (by omega)
      rw [hc4] at g1
      obtain ⟨_, hcl, _⟩ := World.cells?_some g1
      match cs', hcl with
      | [c0, c1, c2, c3], _ =>
        obtain ⟨k, rfl, rfl, b2, b3, hfit⟩ := known_cells g2 (fun y hy => hsz y (by
          rw [hx]
          simp only [DataW.weights, Tryz.underlying70, List.mem_cons, List.mem_append]
          exact .inr (.inl (weights_all_memH _ _ _ (D i) (List.mem_map.2 ⟨i, List.mem_range.2 hi, rfl⟩) y hy))))
        exact ⟨⟨k, c2, c3⟩, g1, ⟨b2, b3⟩, hfit⟩)
    refine ⟨l.map (·.k), ⟨l, rfl, h1, fun q hq => (h2 q hq).1⟩, fun k hk => ?_, by simp; omega⟩
    obtain ⟨q, hq, rfl⟩ := List.mem_map.1 hk
    exact (h2 q hq).2
/-- a client's four cells -/
theorem client_cells {H : Type} {enc : TypeId × Value → H} {W : World} {fuel : Nat} {c0 c1 c2 c3 : Value} {x : DataW H × List MemPlace}
    (hf : DataW.trod enc Tryz.prog W 0 (fun _ => true) true fuel 72 [c0, c1, c2, c3] = some x) (hsz : ∀ y ∈ x.1.weights Tryz.prog 72, y ≤ reachBytes) :
    ∃ c : Cl, c0 = .string c.chain ∧ c1 = .int .i64 c.trust ∧ c2 = .bool c.frozen ∧ Knowns W W.heap.size c3 c.known ∧ c.fits := by
  obtain ⟨xs, n', _, hd, _, hlen, hfs⟩ := DataW.trod_struct Tryz.underlying72 hf
  have e0 : Tryz.prog.cellsOf 9 = 1 := by kernel_rfl
  have e1 : Tryz.prog.cellsOf 3 = 1 := by kernel_rfl
  have e2 : Tryz.prog.cellsOf 4 = 1 := by kernel_rfl
  have e3 : Tryz.prog.cellsOf 70 = 1 := by kernel_rfl
  match xs, hlen with
  | [y0, y1, y2, y3], _ =>
    have t0 : DataW.trod enc Tryz.prog W 0 (fun _ => true) true n' 9 [c0] = some y0 := by
      have := hfs 0 _ rfl
      simpa [e0] using this
    have t1 : DataW.trod enc Tryz.prog W 0 (fun _ => true) true n' 3 [c1] = some y1 := by
      have := hfs 1 _ rfl
      simpa [e1] using this
    have t2 : DataW.trod enc Tryz.prog W 0 (fun _ => true) true n' 4 [c2] = some y2 := by
      have := hfs 2 _ rfl
      simpa [e2] using this
    have t3 : DataW.trod enc Tryz.prog W 0 (fun _ => true) true n' 70 [c3] = some y3 := by
      have := hfs 3 _ rfl
      simpa [e3] using this
    have hw : ∀ y, y ∈ y0.1.weights Tryz.prog 9 ∨ y ∈ y3.1.weights Tryz.prog 70 → y ≤ reachBytes := fun y hy => hsz y (by
      rw [hd]
      simp only [DataW.weights, Tryz.underlying72]
      simp [DataW.weightsEach]
      rcases hy with hy | hy
      · exact .inl hy
      · exact .inr (.inr (.inr hy)))
    obtain ⟨l3, hb3, hf3, hl3⟩ := knowns_read t3 (fun y hy => hw y (.inr hy))
    obtain ⟨s, g0, q0, _⟩ := DataW.trod_string Tryz.underlying9 t0
    obtain ⟨z1, g1, _⟩ := DataW.trod_int Tryz.underlying3 t1
    obtain ⟨z2, g2, _⟩ := DataW.trod_bool Tryz.underlying4 t2
    obtain rfl : c0 = .string s := by simpa using g0
    obtain rfl : c1 = .int .i64 z1 := by simpa using g1
    obtain rfl : c2 = .bool z2 := by simpa using g2
    have hs : s.size ≤ 140737488351232 := by
      have := hw s.size (.inl (by rw [q0]; simp [DataW.weights]))
      simpa [reachBytes] using this
    exact ⟨⟨s, z1, z2, l3⟩, rfl, rfl, rfl, hb3, hs, hl3, hf3⟩
end Go.Proofs.YtbgdpfeobklnhaaGreatDoor
