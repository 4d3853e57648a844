/-
  What an argument's reading gives, where it is a state.
-/
import Derived.Test.YtbjlfhabnjpdmaaGreatDoorlaMemB
import Derived.Test.YtbjlfhabnjpdmaaGreatDoorlaHdMems
import Derived.Test.YtbjlfhabnjpdmaaGreatDoorlaClMem
import Derived.Test.YtbjlfhabnjpdmaaGreatDoorlaStMem
import Derived.Deep.Slices
import Derived.Deep.Strs
import Derived.Deep.FieldsWide
namespace Go.Proofs.YtbjlfhabnjpdmaaGreatDoor
open Go.ChangeShapes Go.WideShapes Go.ChangeAt Go.RowKit

theorem addr_addH (b off i : Nat) : (⟨b, off, none⟩ : Addr).add i = ⟨b, off + i, none⟩ := by unfold Addr.add; split <;> simp_all
/-- a cell that reads as a slice of bytes -/
theorem bytes_cell_sizedH {H : Type} {enc : TypeId × Value → H} {W : World} {fuel : Nat} {v : Value} {x : DataW H × List MemPlace}
    (hf : DataW.trod enc Tryz.prog W 0 (fun _ => true) true fuel 29 [v] = some x) (hsz : ∀ y ∈ x.1.weights Tryz.prog 29, y ≤ reachBytes) :
    ∃ l, Bytes W W.heap.size v l ∧ l.length ≤ 140737488351232 := by
  rcases open_ints Tryz.underlying29 Tryz.underlying5 (by kernel_rfl) hf with ⟨hcs, _⟩ | ⟨a, len, cap, zs, hcs, _⟩
  · obtain rfl : v = .slice none 0 0 := by simpa using hcs
    exact ⟨[], .inl ⟨rfl, rfl⟩, by simp⟩
  · obtain rfl : v = .slice (some a) len cap := by simpa using hcs
    refine bytes_read_len (a0 := some a) (len0 := len) (cap0 := cap) (x := x) hf (fun elems spare he => ?_)
    refine hsz _ ?_
    rw [he]
    simp [DataW.weights, Tryz.underlying29]
theorem weights_all_memH {H : Type} (P : Program) (e : TypeId) (l : List (DataW H)) (d : DataW H) (hd : d ∈ l) (y : Nat) (hy : y ∈ d.weights P e) : y ∈ DataW.weightsAll P e l := by
  induction l with
  | nil => simp at hd
  | cons a r ih =>
    simp only [DataW.weightsAll, List.mem_append]
    rcases List.mem_cons.1 hd with rfl | h
    · exact .inl hy
    · exact .inr (ih h)
/-- rows of k cells, each of which reads -/
theorem recs_of {W : World} {a : Addr} {len m k : Nat} {α : Type} [Inhabited α] (row : α → List Value) (P : α → Prop) (hk : 0 < k) (hrow : ∀ r, (row r).length = k) (hl : len ≤ m)
    (each : ∀ i, i < len → ∃ r, W.cells? 0 (a.add (i * k)) k = some (row r) ∧ P r) : ∃ l : List α, Recs W W.heap.size (.slice (some a) len m) k (l.map row) ∧ (∀ r ∈ l, P r) ∧ l.length = len := by
  obtain ⟨f, hfs⟩ := Deep.choose_lt each
  refine ⟨(List.range len).map f, ?_, fun r hr => ?_, by simp⟩
  · by_cases h0 : len = 0
    · subst h0
      exact .inr (.inl ⟨a, m, rfl, rfl⟩)
    · have cell : ∀ i, i < len → ∀ j, j < k → W.cell? ((a.add (i * k)).add j) = (row (f i))[j]? := fun i hi j hj => (World.cells?_some (hfs i hi).1).2.2 j hj
      obtain ⟨b, off, spot⟩ := a
      have hc := cell 0 (by omega) 0 hk
      rw [List.getElem?_eq_getElem (by rw [hrow]; exact hk)] at hc
      have hspot : spot = none := by simpa [Addr.add] using World.cell?_spot hc
      subst hspot
      refine .inr (.inr ⟨b, off, m, by simp, by simpa using hl, fun i r hr => ?_⟩)
      have hi : i < len := by have := (List.getElem?_eq_some_iff.1 hr).1; simpa using this
      obtain rfl : row (f i) = r := by
        rw [List.getElem?_map, List.getElem?_map, List.getElem?_range hi] at hr
        simpa using hr
      have hcell : ∀ j x, (row (f i))[j]? = some x → W.cell? ⟨b, off + i * k + j, none⟩ = some x := fun j x hx => by
        have hj : j < k := by have := (List.getElem?_eq_some_iff.1 hx).1; rwa [hrow] at this
        have := cell i hi j hj
        rwa [addr_addH, addr_addH, hx] at this
      refine ⟨block_lt_of_cell (hcell 0 _ (List.getElem?_eq_getElem (by rw [hrow]; exact hk))), hcell⟩
  · obtain ⟨i, hi, rfl⟩ := List.mem_map.1 hr
    exact (hfs i (List.mem_range.1 hi)).2
theorem num_of {z : Int} (h : (Lit.int .u64 z).wf = true) : ∃ n : Nat, z = n ∧ n < 18446744073709551616 := by
  have : 0 ≤ z ∧ z < 18446744073709551616 := by
    simp [Lit.wf, IntKind.min, IntKind.max, IntKind.signed, IntKind.bits] at h
    omega
  exact ⟨z.toNat, by omega, by omega⟩
end Go.Proofs.YtbjlfhabnjpdmaaGreatDoor
namespace Go.Proofs.YtbjlfhabnjpdmaaGreatDoor
open Go.ChangeShapes Go.WideShapes Go.ChangeAt Go.RowKit

/-- four cells of what is known of a block -/
theorem known_cells {H : Type} {enc : TypeId × Value → H} {W : World} {fuel : Nat} {c0 c1 c2 c3 : Value} {x : DataW H × List MemPlace}
    (hf : DataW.trod enc Tryz.prog W 0 (fun _ => true) true fuel 31 [c0, c1, c2, c3] = some x) (hsz : ∀ y ∈ x.1.weights Tryz.prog 31, y ≤ reachBytes) :
    ∃ k : Kn, c0 = .int .i64 k.height ∧ c1 = .int .i64 k.time ∧ Bytes W W.heap.size c2 k.root ∧ Bytes W W.heap.size c3 k.next ∧ k.fits := by
  obtain ⟨xs, n', _, hd, _, hlen, hfs⟩ := DataW.trod_struct Tryz.underlying31 hf
  have e1 : Tryz.prog.cellsOf 3 = 1 := by kernel_rfl
  have e3 : Tryz.prog.cellsOf 29 = 1 := by kernel_rfl
  match xs, hlen with
  | [y0, y1, y2, y3], _ =>
    have t0 : DataW.trod enc Tryz.prog W 0 (fun _ => true) true n' 3 [c0] = some y0 := by
      have := hfs 0 _ rfl
      simpa [e1] using this
    have t1 : DataW.trod enc Tryz.prog W 0 (fun _ => true) true n' 3 [c1] = some y1 := by
      have := hfs 1 _ rfl
      simpa [e1] using this
    have t2 : DataW.trod enc Tryz.prog W 0 (fun _ => true) true n' 29 [c2] = some y2 := by
      have := hfs 2 _ rfl
      simpa [e3] using this
    have t3 : DataW.trod enc Tryz.prog W 0 (fun _ => true) true n' 29 [c3] = some y3 := by
      have := hfs 3 _ rfl
      simpa [e3] using this
    have hw : ∀ y, y ∈ y2.1.weights Tryz.prog 29 ∨ y ∈ y3.1.weights Tryz.prog 29 → y ≤ reachBytes := fun y hy => hsz y (by
      rw [hd]
      simp only [DataW.weights, Tryz.underlying31]
      simp [DataW.weightsEach]
      rcases hy with hy | hy
      · exact .inr (.inr (.inl hy))
      · exact .inr (.inr (.inr hy)))
    obtain ⟨l2, hb2, hl2⟩ := bytes_cell_sizedH t2 (fun y hy => hw y (.inl hy))
    obtain ⟨l3, hb3, hl3⟩ := bytes_cell_sizedH t3 (fun y hy => hw y (.inr hy))
    obtain ⟨z0, g0, _⟩ := DataW.trod_int Tryz.underlying3 t0
    obtain ⟨z1, g1, _⟩ := DataW.trod_int Tryz.underlying3 t1
    obtain rfl : c0 = .int .i64 z0 := by simpa using g0
    obtain rfl : c1 = .int .i64 z1 := by simpa using g1
    exact ⟨⟨z0, z1, l2, l3⟩, rfl, rfl, hb2, hb3, hl2, hl3⟩
/-- a cell that reads as a slice of what is known -/
theorem knowns_read {H : Type} {enc : TypeId × Value → H} {W : World} {fuel : Nat} {v : Value} {x : DataW H × List MemPlace}
    (hf : DataW.trod enc Tryz.prog W 0 (fun _ => true) true fuel 77 [v] = some x) (hsz : ∀ y ∈ x.1.weights Tryz.prog 77, y ≤ reachBytes) :
    ∃ l, Knowns W W.heap.size v l ∧ (∀ k ∈ l, k.fits) ∧ l.length < 2305843009213693952 := by
  rcases Deep.open_slice Tryz.underlying77 hf with ⟨hcs, _⟩ | ⟨a, len, cap, m, n, D, Pl, hcs, _, hl, hm, hmm, hx, hel⟩
  · obtain rfl : v = .slice none 0 0 := by simpa using hcs
    exact ⟨[], Knowns.nil _ _, by simp, by simp⟩
  · obtain rfl : v = .slice (some a) len cap := by simpa using hcs
    have hm' : m = cap := by simpa using hmm
    subst hm'
    have hc4 : Tryz.prog.cellsOf 31 = 4 := by kernel_rfl
    have hb64 : Tryz.prog.bytesOf 31 = 64 := by kernel_rfl
    have hlen : len < 2305843009213693952 := by
      have := hsz ((len + (m - len)) * 64) (by rw [hx]; simp [DataW.weights, Tryz.underlying77, hb64])
      simp only [reachBytes] at this
      omega
    haveI : Inhabited KnR := ⟨⟨Kn.none, undef, undef⟩⟩
    obtain ⟨l, h1, h2, h3⟩ := recs_of (W := W) (a := a) (len := len) (m := m) (k := 4) knRow (fun q : KnR => q.ok W W.heap.size ∧ q.k.fits) (by omega) (fun _ => rfl) hl (fun i hi => by
      obtain ⟨cs', g1, g2⟩ := hel i (by omega)
      rw [hc4] at g1
      obtain ⟨_, hcl, _⟩ := World.cells?_some g1
      match cs', hcl with
      | [c0, c1, c2, c3], _ =>
        obtain ⟨k, rfl, rfl, b2, b3, hfit⟩ := known_cells g2 (fun y hy => hsz y (by
          rw [hx]
          simp only [DataW.weights, Tryz.underlying77, List.mem_cons, List.mem_append]
          exact .inr (.inl (weights_all_memH _ _ _ (D i) (List.mem_map.2 ⟨i, List.mem_range.2 hi, rfl⟩) y hy))))
        exact ⟨⟨k, c2, c3⟩, g1, ⟨b2, b3⟩, hfit⟩)
    refine ⟨l.map (·.k), ⟨l, rfl, h1, fun q hq => (h2 q hq).1⟩, fun k hk => ?_, by simp; omega⟩
    obtain ⟨q, hq, rfl⟩ := List.mem_map.1 hk
    exact (h2 q hq).2
/-- a client's four cells -/
theorem client_cells {H : Type} {enc : TypeId × Value → H} {W : World} {fuel : Nat} {c0 c1 c2 c3 : Value} {x : DataW H × List MemPlace}
    (hf : DataW.trod enc Tryz.prog W 0 (fun _ => true) true fuel 79 [c0, c1, c2, c3] = some x) (hsz : ∀ y ∈ x.1.weights Tryz.prog 79, y ≤ reachBytes) :
    ∃ c : Cl, c0 = .string c.chain ∧ c1 = .int .i64 c.trust ∧ c2 = .bool c.frozen ∧ Knowns W W.heap.size c3 c.known ∧ c.fits := by
  obtain ⟨xs, n', _, hd, _, hlen, hfs⟩ := DataW.trod_struct Tryz.underlying79 hf
  have e0 : Tryz.prog.cellsOf 9 = 1 := by kernel_rfl
  have e1 : Tryz.prog.cellsOf 3 = 1 := by kernel_rfl
  have e2 : Tryz.prog.cellsOf 4 = 1 := by kernel_rfl
  have e3 : Tryz.prog.cellsOf 77 = 1 := by kernel_rfl
  match xs, hlen with
  | [y0, y1, y2, y3], _ =>
    have t0 : DataW.trod enc Tryz.prog W 0 (fun _ => true) true n' 9 [c0] = some y0 := by
      have := hfs 0 _ rfl
      simpa [e0] using this
    have t1 : DataW.trod enc Tryz.prog W 0 (fun _ => true) true n' 3 [c1] = some y1 := by
      have := hfs 1 _ rfl
      simpa [e1] using this
    have t2 : DataW.trod enc Tryz.prog W 0 (fun _ => true) true n' 4 [c2] = some y2 := by
      have := hfs 2 _ rfl
      simpa [e2] using this
    have t3 : DataW.trod enc Tryz.prog W 0 (fun _ => true) true n' 77 [c3] = some y3 := by
      have := hfs 3 _ rfl
      simpa [e3] using this
    have hw : ∀ y, y ∈ y0.1.weights Tryz.prog 9 ∨ y ∈ y3.1.weights Tryz.prog 77 → y ≤ reachBytes := fun y hy => hsz y (by
      rw [hd]
      simp only [DataW.weights, Tryz.underlying79]
      simp [DataW.weightsEach]
      rcases hy with hy | hy
      · exact .inl hy
      · exact .inr (.inr (.inr hy)))
    obtain ⟨l3, hb3, hf3, hl3⟩ := knowns_read t3 (fun y hy => hw y (.inr hy))
    obtain ⟨s, g0, q0, _⟩ := DataW.trod_string Tryz.underlying9 t0
    obtain ⟨z1, g1, _⟩ := DataW.trod_int Tryz.underlying3 t1
    obtain ⟨z2, g2, _⟩ := DataW.trod_bool Tryz.underlying4 t2
    obtain rfl : c0 = .string s := by simpa using g0
    obtain rfl : c1 = .int .i64 z1 := by simpa using g1
    obtain rfl : c2 = .bool z2 := by simpa using g2
    have hs : s.size ≤ 140737488351232 := by
      have := hw s.size (.inl (by rw [q0]; simp [DataW.weights]))
      simpa [reachBytes] using this
    exact ⟨⟨s, z1, z2, l3⟩, rfl, rfl, rfl, hb3, hs, hl3, hf3⟩
end Go.Proofs.YtbjlfhabnjpdmaaGreatDoor
namespace Go.Proofs.YtbjlfhabnjpdmaaGreatDoor
open Go.ChangeShapes Go.WideShapes Go.ChangeAt Go.RowKit

/-- rows of k cells, each of which reads as something -/
theorem many_of {W : World} {a : Addr} {len m k : Nat} {α : Type} {R : World → Nat → List Value → α → Prop} (d : α) (P : α → Prop) (hk : 0 < k) (hl : len ≤ m)
    (each : ∀ i, i < len → ∃ r x, W.cells? 0 (a.add (i * k)) k = some r ∧ r.length = k ∧ R W W.heap.size r x ∧ P x) : ∃ l : List α, Many R k W W.heap.size (.slice (some a) len m) l ∧ (∀ x ∈ l, P x) ∧ l.length = len := by
  haveI : Inhabited { p : List Value × α // p.1.length = k } := ⟨⟨(List.replicate k undef, d), by simp⟩⟩
  obtain ⟨l, h1, h2, h3⟩ := recs_of (W := W) (a := a) (len := len) (m := m) (k := k) (fun p : { p : List Value × α // p.1.length = k } => p.1.1) (fun p => R W W.heap.size p.1.1 p.1.2 ∧ P p.1.2) hk (fun p => p.2) hl (fun i hi => by
    obtain ⟨r, x, g1, g2, g3⟩ := each i hi
    exact ⟨⟨(r, x), g2⟩, g1, g3⟩)
  refine ⟨l.map (fun p => p.1.2), ⟨_, by simp, h1, fun i r x hr hx => ?_⟩, fun x hx => ?_, by simpa using h3⟩
  · rw [List.getElem?_map] at hr hx
    cases e : l[i]? with
    | none => rw [e] at hr; simp at hr
    | some p =>
      rw [e] at hr hx
      simp at hr hx
      subst hr hx
      exact (h2 p (List.mem_of_getElem? e)).1
  · obtain ⟨p, hp, rfl⟩ := List.mem_map.1 hx
    exact (h2 p hp).2
theorem cn_cellsS {H : Type} {enc : TypeId × Value → H} {W : World} {fuel : Nat} {c0 c1 c2 c3 : Value} {x : DataW H × List MemPlace}
    (hf : DataW.trod enc Tryz.prog W 0 (fun _ => true) true fuel 81 [c0, c1, c2, c3] = some x) (_hsz : ∀ y ∈ x.1.weights Tryz.prog 81, y ≤ reachBytes) :
    ∃ q : Cn, CnR W W.heap.size [c0, c1, c2, c3] q ∧ True := by
  obtain ⟨xs, n', _, hd, _, hlen, hfs⟩ := DataW.trod_struct Tryz.underlying81 hf
  have ei : Tryz.prog.cellsOf 3 = 1 := by kernel_rfl
  match xs, hlen with
  | [y0, y1, y2, y3], _ =>
    have t0 : DataW.trod enc Tryz.prog W 0 (fun _ => true) true n' 3 [c0] = some y0 := by
      have := hfs 0 _ rfl
      simpa [ei] using this
    have t1 : DataW.trod enc Tryz.prog W 0 (fun _ => true) true n' 3 [c1] = some y1 := by
      have := hfs 1 _ rfl
      simpa [ei] using this
    have t2 : DataW.trod enc Tryz.prog W 0 (fun _ => true) true n' 3 [c2] = some y2 := by
      have := hfs 2 _ rfl
      simpa [ei] using this
    have t3 : DataW.trod enc Tryz.prog W 0 (fun _ => true) true n' 3 [c3] = some y3 := by
      have := hfs 3 _ rfl
      simpa [ei] using this
    obtain ⟨z0, g0, _⟩ := DataW.trod_int Tryz.underlying3 t0
    obtain rfl : c0 = .int .i64 z0 := by simpa using g0
    obtain ⟨z1, g1, _⟩ := DataW.trod_int Tryz.underlying3 t1
    obtain rfl : c1 = .int .i64 z1 := by simpa using g1
    obtain ⟨z2, g2, _⟩ := DataW.trod_int Tryz.underlying3 t2
    obtain rfl : c2 = .int .i64 z2 := by simpa using g2
    obtain ⟨z3, g3, _⟩ := DataW.trod_int Tryz.underlying3 t3
    obtain rfl : c3 = .int .i64 z3 := by simpa using g3
    exact ⟨⟨z0, z1, z2, z3⟩, rfl, trivial⟩
theorem ch_cellsS {H : Type} {enc : TypeId × Value → H} {W : World} {fuel : Nat} {c0 c1 c2 c3 c4 c5 c6 : Value} {x : DataW H × List MemPlace}
    (hf : DataW.trod enc Tryz.prog W 0 (fun _ => true) true fuel 83 [c0, c1, c2, c3, c4, c5, c6] = some x) (_hsz : ∀ y ∈ x.1.weights Tryz.prog 83, y ≤ reachBytes) :
    ∃ q : Ch, ChR W W.heap.size [c0, c1, c2, c3, c4, c5, c6] q ∧ True := by
  obtain ⟨xs, n', _, hd, _, hlen, hfs⟩ := DataW.trod_struct Tryz.underlying83 hf
  have eb : Tryz.prog.cellsOf 4 = 1 := by kernel_rfl
  have ei : Tryz.prog.cellsOf 3 = 1 := by kernel_rfl
  match xs, hlen with
  | [y0, y1, y2, y3, y4, y5, y6], _ =>
    have t0 : DataW.trod enc Tryz.prog W 0 (fun _ => true) true n' 3 [c0] = some y0 := by
      have := hfs 0 _ rfl
      simpa [eb, ei] using this
    have t1 : DataW.trod enc Tryz.prog W 0 (fun _ => true) true n' 4 [c1] = some y1 := by
      have := hfs 1 _ rfl
      simpa [eb, ei] using this
    have t2 : DataW.trod enc Tryz.prog W 0 (fun _ => true) true n' 3 [c2] = some y2 := by
      have := hfs 2 _ rfl
      simpa [eb, ei] using this
    have t3 : DataW.trod enc Tryz.prog W 0 (fun _ => true) true n' 3 [c3] = some y3 := by
      have := hfs 3 _ rfl
      simpa [eb, ei] using this
    have t4 : DataW.trod enc Tryz.prog W 0 (fun _ => true) true n' 3 [c4] = some y4 := by
      have := hfs 4 _ rfl
      simpa [eb, ei] using this
    have t5 : DataW.trod enc Tryz.prog W 0 (fun _ => true) true n' 3 [c5] = some y5 := by
      have := hfs 5 _ rfl
      simpa [eb, ei] using this
    have t6 : DataW.trod enc Tryz.prog W 0 (fun _ => true) true n' 3 [c6] = some y6 := by
      have := hfs 6 _ rfl
      simpa [eb, ei] using this
    obtain ⟨z0, g0, _⟩ := DataW.trod_int Tryz.underlying3 t0
    obtain rfl : c0 = .int .i64 z0 := by simpa using g0
    obtain ⟨z1, g1, _⟩ := DataW.trod_bool Tryz.underlying4 t1
    obtain rfl : c1 = .bool z1 := by simpa using g1
    obtain ⟨z2, g2, _⟩ := DataW.trod_int Tryz.underlying3 t2
    obtain rfl : c2 = .int .i64 z2 := by simpa using g2
    obtain ⟨z3, g3, _⟩ := DataW.trod_int Tryz.underlying3 t3
    obtain rfl : c3 = .int .i64 z3 := by simpa using g3
    obtain ⟨z4, g4, _⟩ := DataW.trod_int Tryz.underlying3 t4
    obtain rfl : c4 = .int .i64 z4 := by simpa using g4
    obtain ⟨z5, g5, _⟩ := DataW.trod_int Tryz.underlying3 t5
    obtain rfl : c5 = .int .i64 z5 := by simpa using g5
    obtain ⟨z6, g6, _⟩ := DataW.trod_int Tryz.underlying3 t6
    obtain rfl : c6 = .int .i64 z6 := by simpa using g6
    exact ⟨⟨z0, z1, z2, z3, z4, z5, z6⟩, rfl, trivial⟩
theorem mk_cellsS {H : Type} {enc : TypeId × Value → H} {W : World} {fuel : Nat} {c0 c1 c2 : Value} {x : DataW H × List MemPlace}
    (hf : DataW.trod enc Tryz.prog W 0 (fun _ => true) true fuel 99 [c0, c1, c2] = some x) (hsz : ∀ y ∈ x.1.weights Tryz.prog 99, y ≤ reachBytes) :
    ∃ q : Mk, MkR W W.heap.size [c0, c1, c2] q ∧ q.fits := by
  obtain ⟨xs, n', _, hd, _, hlen, hfs⟩ := DataW.trod_struct Tryz.underlying99 hf
  have ei : Tryz.prog.cellsOf 3 = 1 := by kernel_rfl
  have ey : Tryz.prog.cellsOf 29 = 1 := by kernel_rfl
  match xs, hlen with
  | [y0, y1, y2], _ =>
    have t0 : DataW.trod enc Tryz.prog W 0 (fun _ => true) true n' 3 [c0] = some y0 := by
      have := hfs 0 _ rfl
      simpa [ei, ey] using this
    have t1 : DataW.trod enc Tryz.prog W 0 (fun _ => true) true n' 3 [c1] = some y1 := by
      have := hfs 1 _ rfl
      simpa [ei, ey] using this
    have t2 : DataW.trod enc Tryz.prog W 0 (fun _ => true) true n' 29 [c2] = some y2 := by
      have := hfs 2 _ rfl
      simpa [ei, ey] using this
    have hw : ∀ y, y ∈ y2.1.weights Tryz.prog 29 → y ≤ reachBytes := fun y hy => hsz y (by
      rw [hd]
      simp only [DataW.weights, Tryz.underlying99]
      simp [DataW.weightsEach]
      exact (.inr (.inr hy)))
    obtain ⟨z0, g0, _⟩ := DataW.trod_int Tryz.underlying3 t0
    obtain rfl : c0 = .int .i64 z0 := by simpa using g0
    obtain ⟨z1, g1, _⟩ := DataW.trod_int Tryz.underlying3 t1
    obtain rfl : c1 = .int .i64 z1 := by simpa using g1
    obtain ⟨l2, hb2, hl2⟩ := bytes_cell_sizedH t2 (fun y hy => hw y hy)
    exact ⟨⟨z0, z1, l2⟩, ⟨c2, rfl, hb2⟩, hl2⟩
theorem pu_cellsS {H : Type} {enc : TypeId × Value → H} {W : World} {fuel : Nat} {c0 c1 c2 : Value} {x : DataW H × List MemPlace}
    (hf : DataW.trod enc Tryz.prog W 0 (fun _ => true) true fuel 85 [c0, c1, c2] = some x) (hsz : ∀ y ∈ x.1.weights Tryz.prog 85, y ≤ reachBytes) :
    ∃ q : Pu, PuR W W.heap.size [c0, c1, c2] q ∧ q.fits := by
  obtain ⟨xs, n', _, hd, _, hlen, hfs⟩ := DataW.trod_struct Tryz.underlying85 hf
  have es : Tryz.prog.cellsOf 9 = 1 := by kernel_rfl
  have eu : Tryz.prog.cellsOf 47 = 1 := by kernel_rfl
  match xs, hlen with
  | [y0, y1, y2], _ =>
    have t0 : DataW.trod enc Tryz.prog W 0 (fun _ => true) true n' 9 [c0] = some y0 := by
      have := hfs 0 _ rfl
      simpa [es, eu] using this
    have t1 : DataW.trod enc Tryz.prog W 0 (fun _ => true) true n' 9 [c1] = some y1 := by
      have := hfs 1 _ rfl
      simpa [es, eu] using this
    have t2 : DataW.trod enc Tryz.prog W 0 (fun _ => true) true n' 47 [c2] = some y2 := by
      have := hfs 2 _ rfl
      simpa [es, eu] using this
    have hw : ∀ y, y ∈ y0.1.weights Tryz.prog 9 ∨ y ∈ y1.1.weights Tryz.prog 9 → y ≤ reachBytes := fun y hy => hsz y (by
      rw [hd]
      simp only [DataW.weights, Tryz.underlying85]
      simp [DataW.weightsEach]
      rcases hy with hy | hy
      · exact (.inl hy)
      · exact (.inr (.inl hy)))
    obtain ⟨s0, g0, q0, _⟩ := DataW.trod_string Tryz.underlying9 t0
    obtain rfl : c0 = .string s0 := by simpa using g0
    have hs0 : s0.size ≤ 140737488351232 := by
      have := hw s0.size ((fun hy => (.inl hy)) (by rw [q0]; simp [DataW.weights]))
      simpa [reachBytes] using this
    obtain ⟨s1, g1, q1, _⟩ := DataW.trod_string Tryz.underlying9 t1
    obtain rfl : c1 = .string s1 := by simpa using g1
    have hs1 : s1.size ≤ 140737488351232 := by
      have := hw s1.size ((fun hy => (.inr hy)) (by rw [q1]; simp [DataW.weights]))
      simpa [reachBytes] using this
    obtain ⟨z2, g2, _, f2⟩ := DataW.trod_int Tryz.underlying47 t2
    obtain ⟨n2, rfl, b2⟩ := num_of f2
    obtain rfl : c2 = .int .u64 n2 := by simpa using g2
    exact ⟨⟨s0, s1, n2⟩, rfl, hs0, hs1, b2⟩
theorem conns_read {H : Type} {enc : TypeId × Value → H} {W : World} {fuel : Nat} {v : Value} {x : DataW H × List MemPlace}
    (hf : DataW.trod enc Tryz.prog W 0 (fun _ => true) true fuel 23 [v] = some x) (hsz : ∀ y ∈ x.1.weights Tryz.prog 23, y ≤ reachBytes) :
    ∃ l : List Cn, Many CnR 4 W W.heap.size v l ∧ (∀ q ∈ l, True) ∧ l.length < 2305843009213693952 := by
  rcases Deep.open_slice Tryz.underlying23 hf with ⟨hcs, _⟩ | ⟨a, len, cap, m, n, D, Pl, hcs, _, hl, hm, hmm, hx, hel⟩
  · obtain rfl : v = .slice none 0 0 := by simpa using hcs
    exact ⟨[], Many.nil _ _ _ _, fun _ h => (by cases h), by simp⟩
  · obtain rfl : v = .slice (some a) len cap := by simpa using hcs
    have hm' : m = cap := by simpa using hmm
    subst hm'
    have hck : Tryz.prog.cellsOf 81 = 4 := by kernel_rfl
    have hbk : Tryz.prog.bytesOf 81 = 32 := by kernel_rfl
    have hlen : len < 2305843009213693952 := by
      have := hsz ((len + (m - len)) * 32) (by rw [hx]; simp [DataW.weights, Tryz.underlying23, hbk])
      simp only [reachBytes] at this
      omega
    obtain ⟨l, h1, h2, h3⟩ := many_of (W := W) (a := a) (len := len) (m := m) (k := 4) (R := CnR) ⟨0, 0, 0, 0⟩ (fun q => True) (by omega) hl (fun i hi => by
      obtain ⟨cs', g1, g2⟩ := hel i (by omega)
      rw [hck] at g1
      obtain ⟨_, hcl, _⟩ := World.cells?_some g1
      match cs', hcl with
      | [c0, c1, c2, c3], _ =>
        obtain ⟨q, hq, _⟩ := cn_cellsS g2 (fun y hy => hsz y (by
          rw [hx]
          simp only [DataW.weights, Tryz.underlying23, List.mem_cons, List.mem_append]
          exact .inr (.inl (weights_all_memH _ _ _ (D i) (List.mem_map.2 ⟨i, List.mem_range.2 hi, rfl⟩) y hy))))
        exact ⟨_, q, g1, rfl, hq, trivial⟩)
    exact ⟨l, h1, h2, by omega⟩
theorem chans_read {H : Type} {enc : TypeId × Value → H} {W : World} {fuel : Nat} {v : Value} {x : DataW H × List MemPlace}
    (hf : DataW.trod enc Tryz.prog W 0 (fun _ => true) true fuel 24 [v] = some x) (hsz : ∀ y ∈ x.1.weights Tryz.prog 24, y ≤ reachBytes) :
    ∃ l : List Ch, Many ChR 7 W W.heap.size v l ∧ (∀ q ∈ l, True) ∧ l.length < 2305843009213693952 := by
  rcases Deep.open_slice Tryz.underlying24 hf with ⟨hcs, _⟩ | ⟨a, len, cap, m, n, D, Pl, hcs, _, hl, hm, hmm, hx, hel⟩
  · obtain rfl : v = .slice none 0 0 := by simpa using hcs
    exact ⟨[], Many.nil _ _ _ _, fun _ h => (by cases h), by simp⟩
  · obtain rfl : v = .slice (some a) len cap := by simpa using hcs
    have hm' : m = cap := by simpa using hmm
    subst hm'
    have hck : Tryz.prog.cellsOf 83 = 7 := by kernel_rfl
    have hbk : Tryz.prog.bytesOf 83 = 56 := by kernel_rfl
    have hlen : len < 2305843009213693952 := by
      have := hsz ((len + (m - len)) * 56) (by rw [hx]; simp [DataW.weights, Tryz.underlying24, hbk])
      simp only [reachBytes] at this
      omega
    obtain ⟨l, h1, h2, h3⟩ := many_of (W := W) (a := a) (len := len) (m := m) (k := 7) (R := ChR) ⟨0, false, 0, 0, 0, 0, 0⟩ (fun q => True) (by omega) hl (fun i hi => by
      obtain ⟨cs', g1, g2⟩ := hel i (by omega)
      rw [hck] at g1
      obtain ⟨_, hcl, _⟩ := World.cells?_some g1
      match cs', hcl with
      | [c0, c1, c2, c3, c4, c5, c6], _ =>
        obtain ⟨q, hq, _⟩ := ch_cellsS g2 (fun y hy => hsz y (by
          rw [hx]
          simp only [DataW.weights, Tryz.underlying24, List.mem_cons, List.mem_append]
          exact .inr (.inl (weights_all_memH _ _ _ (D i) (List.mem_map.2 ⟨i, List.mem_range.2 hi, rfl⟩) y hy))))
        exact ⟨_, q, g1, rfl, hq, trivial⟩)
    exact ⟨l, h1, h2, by omega⟩
theorem marks_read {H : Type} {enc : TypeId × Value → H} {W : World} {fuel : Nat} {v : Value} {x : DataW H × List MemPlace}
    (hf : DataW.trod enc Tryz.prog W 0 (fun _ => true) true fuel 25 [v] = some x) (hsz : ∀ y ∈ x.1.weights Tryz.prog 25, y ≤ reachBytes) :
    ∃ l : List Mk, Many MkR 3 W W.heap.size v l ∧ (∀ q ∈ l, q.fits) ∧ l.length < 2305843009213693952 := by
  rcases Deep.open_slice Tryz.underlying25 hf with ⟨hcs, _⟩ | ⟨a, len, cap, m, n, D, Pl, hcs, _, hl, hm, hmm, hx, hel⟩
  · obtain rfl : v = .slice none 0 0 := by simpa using hcs
    exact ⟨[], Many.nil _ _ _ _, fun _ h => (by cases h), by simp⟩
  · obtain rfl : v = .slice (some a) len cap := by simpa using hcs
    have hm' : m = cap := by simpa using hmm
    subst hm'
    have hck : Tryz.prog.cellsOf 99 = 3 := by kernel_rfl
    have hbk : Tryz.prog.bytesOf 99 = 40 := by kernel_rfl
    have hlen : len < 2305843009213693952 := by
      have := hsz ((len + (m - len)) * 40) (by rw [hx]; simp [DataW.weights, Tryz.underlying25, hbk])
      simp only [reachBytes] at this
      omega
    obtain ⟨l, h1, h2, h3⟩ := many_of (W := W) (a := a) (len := len) (m := m) (k := 3) (R := MkR) ⟨0, 0, []⟩ (fun q => q.fits) (by omega) hl (fun i hi => by
      obtain ⟨cs', g1, g2⟩ := hel i (by omega)
      rw [hck] at g1
      obtain ⟨_, hcl, _⟩ := World.cells?_some g1
      match cs', hcl with
      | [c0, c1, c2], _ =>
        obtain ⟨q, hq, hqf⟩ := mk_cellsS g2 (fun y hy => hsz y (by
          rw [hx]
          simp only [DataW.weights, Tryz.underlying25, List.mem_cons, List.mem_append]
          exact .inr (.inl (weights_all_memH _ _ _ (D i) (List.mem_map.2 ⟨i, List.mem_range.2 hi, rfl⟩) y hy))))
        exact ⟨_, q, g1, rfl, hq, hqf⟩)
    exact ⟨l, h1, h2, by omega⟩
theorem purses_read {H : Type} {enc : TypeId × Value → H} {W : World} {fuel : Nat} {v : Value} {x : DataW H × List MemPlace}
    (hf : DataW.trod enc Tryz.prog W 0 (fun _ => true) true fuel 26 [v] = some x) (hsz : ∀ y ∈ x.1.weights Tryz.prog 26, y ≤ reachBytes) :
    ∃ l : List Pu, Many PuR 3 W W.heap.size v l ∧ (∀ q ∈ l, q.fits) ∧ l.length < 2305843009213693952 := by
  rcases Deep.open_slice Tryz.underlying26 hf with ⟨hcs, _⟩ | ⟨a, len, cap, m, n, D, Pl, hcs, _, hl, hm, hmm, hx, hel⟩
  · obtain rfl : v = .slice none 0 0 := by simpa using hcs
    exact ⟨[], Many.nil _ _ _ _, fun _ h => (by cases h), by simp⟩
  · obtain rfl : v = .slice (some a) len cap := by simpa using hcs
    have hm' : m = cap := by simpa using hmm
    subst hm'
    have hck : Tryz.prog.cellsOf 85 = 3 := by kernel_rfl
    have hbk : Tryz.prog.bytesOf 85 = 40 := by kernel_rfl
    have hlen : len < 2305843009213693952 := by
      have := hsz ((len + (m - len)) * 40) (by rw [hx]; simp [DataW.weights, Tryz.underlying26, hbk])
      simp only [reachBytes] at this
      omega
    obtain ⟨l, h1, h2, h3⟩ := many_of (W := W) (a := a) (len := len) (m := m) (k := 3) (R := PuR) ⟨⟨#[]⟩, ⟨#[]⟩, 0⟩ (fun q => q.fits) (by omega) hl (fun i hi => by
      obtain ⟨cs', g1, g2⟩ := hel i (by omega)
      rw [hck] at g1
      obtain ⟨_, hcl, _⟩ := World.cells?_some g1
      match cs', hcl with
      | [c0, c1, c2], _ =>
        obtain ⟨q, hq, hqf⟩ := pu_cellsS g2 (fun y hy => hsz y (by
          rw [hx]
          simp only [DataW.weights, Tryz.underlying26, List.mem_cons, List.mem_append]
          exact .inr (.inl (weights_all_memH _ _ _ (D i) (List.mem_map.2 ⟨i, List.mem_range.2 hi, rfl⟩) y hy))))
        exact ⟨_, q, g1, rfl, hq, hqf⟩)
    exact ⟨l, h1, h2, by omega⟩
theorem clients_read {H : Type} {enc : TypeId × Value → H} {W : World} {fuel : Nat} {v : Value} {x : DataW H × List MemPlace}
    (hf : DataW.trod enc Tryz.prog W 0 (fun _ => true) true fuel 22 [v] = some x) (hsz : ∀ y ∈ x.1.weights Tryz.prog 22, y ≤ reachBytes) :
    ∃ l : List Cl, Many ClR 4 W W.heap.size v l ∧ (∀ q ∈ l, q.fits) ∧ l.length < 2305843009213693952 := by
  rcases Deep.open_slice Tryz.underlying22 hf with ⟨hcs, _⟩ | ⟨a, len, cap, m, n, D, Pl, hcs, _, hl, hm, hmm, hx, hel⟩
  · obtain rfl : v = .slice none 0 0 := by simpa using hcs
    exact ⟨[], Many.nil _ _ _ _, fun _ h => (by cases h), by simp⟩
  · obtain rfl : v = .slice (some a) len cap := by simpa using hcs
    have hm' : m = cap := by simpa using hmm
    subst hm'
    have hck : Tryz.prog.cellsOf 79 = 4 := by kernel_rfl
    have hbk : Tryz.prog.bytesOf 79 = 56 := by kernel_rfl
    have hlen : len < 2305843009213693952 := by
      have := hsz ((len + (m - len)) * 56) (by rw [hx]; simp [DataW.weights, Tryz.underlying22, hbk])
      simp only [reachBytes] at this
      omega
    obtain ⟨l, h1, h2, h3⟩ := many_of (W := W) (a := a) (len := len) (m := m) (k := 4) (R := ClR) Cl.none (fun q => q.fits) (by omega) hl (fun i hi => by
      obtain ⟨cs', g1, g2⟩ := hel i (by omega)
      rw [hck] at g1
      obtain ⟨_, hcl, _⟩ := World.cells?_some g1
      match cs', hcl with
      | [c0, c1, c2, c3], _ =>
        obtain ⟨q, rfl, rfl, rfl, hq, hqf⟩ := client_cells g2 (fun y hy => hsz y (by
          rw [hx]
          simp only [DataW.weights, Tryz.underlying22, List.mem_cons, List.mem_append]
          exact .inr (.inl (weights_all_memH _ _ _ (D i) (List.mem_map.2 ⟨i, List.mem_range.2 hi, rfl⟩) y hy))))
        exact ⟨_, q, g1, rfl, ⟨c3, rfl, hq⟩, hqf⟩)
    exact ⟨l, h1, h2, by omega⟩
theorem cellsState : Tryz.prog.cellsOf 28 = 10 := by kernel_rfl
set_option maxRecDepth 100000 in
/-- an argument that reads as a state -/
theorem state_read {H : Type} {enc : TypeId × Value → H} {W : World} {base : Nat} {v : Value} {d : DataW H} {p : List MemPlace}
    (hval : Value.okWide Tryz.prog W .any base 28 v) (h : DataW.Trod enc Tryz.prog W 0 (fun _ => true) true 28 v d p) (hsz : ∀ y ∈ d.weights Tryz.prog 28, y ≤ reachBytes) :
    ∃ g : St, StV W W.heap.size v g ∧ g.fits := by
  obtain ⟨cs, rfl, hcs⟩ := okWide_struct Tryz.underlying28 hval
  rw [cellsState] at hcs
  obtain ⟨l⟩ := cs
  match l, hcs with
  | [c0, c1, c2, c3, c4, c5, c6, c7, c8, c9], _ =>
    obtain ⟨fuel, hf⟩ := h
    have hf' : DataW.trod enc Tryz.prog W 0 (fun _ => true) true fuel 28 [c0, c1, c2, c3, c4, c5, c6, c7, c8, c9] = some (d, p) := hf
    obtain ⟨xs, n', _, hd, _, hlen, hfs⟩ := DataW.trod_struct Tryz.underlying28 hf'
    have e1 : Tryz.prog.cellsOf 9 = 1 := by kernel_rfl
    have e2 : Tryz.prog.cellsOf 3 = 1 := by kernel_rfl
    have e3 : Tryz.prog.cellsOf 22 = 1 := by kernel_rfl
    have e4 : Tryz.prog.cellsOf 23 = 1 := by kernel_rfl
    have e5 : Tryz.prog.cellsOf 24 = 1 := by kernel_rfl
    have e6 : Tryz.prog.cellsOf 25 = 1 := by kernel_rfl
    have e7 : Tryz.prog.cellsOf 26 = 1 := by kernel_rfl
    match xs, hlen with
    | [y0, y1, y2, y3, y4, y5, y6, y7, y8, y9], _ =>
      have t0 : DataW.trod enc Tryz.prog W 0 (fun _ => true) true n' 9 [c0] = some y0 := by
        have := hfs 0 _ rfl
        simpa [e1, e2, e3, e4, e5, e6, e7] using this
      have t1 : DataW.trod enc Tryz.prog W 0 (fun _ => true) true n' 3 [c1] = some y1 := by
        have := hfs 1 _ rfl
        simpa [e1, e2, e3, e4, e5, e6, e7] using this
      have t2 : DataW.trod enc Tryz.prog W 0 (fun _ => true) true n' 3 [c2] = some y2 := by
        have := hfs 2 _ rfl
        simpa [e1, e2, e3, e4, e5, e6, e7] using this
      have t3 : DataW.trod enc Tryz.prog W 0 (fun _ => true) true n' 22 [c3] = some y3 := by
        have := hfs 3 _ rfl
        simpa [e1, e2, e3, e4, e5, e6, e7] using this
      have t4 : DataW.trod enc Tryz.prog W 0 (fun _ => true) true n' 23 [c4] = some y4 := by
        have := hfs 4 _ rfl
        simpa [e1, e2, e3, e4, e5, e6, e7] using this
      have t5 : DataW.trod enc Tryz.prog W 0 (fun _ => true) true n' 24 [c5] = some y5 := by
        have := hfs 5 _ rfl
        simpa [e1, e2, e3, e4, e5, e6, e7] using this
      have t6 : DataW.trod enc Tryz.prog W 0 (fun _ => true) true n' 25 [c6] = some y6 := by
        have := hfs 6 _ rfl
        simpa [e1, e2, e3, e4, e5, e6, e7] using this
      have t7 : DataW.trod enc Tryz.prog W 0 (fun _ => true) true n' 25 [c7] = some y7 := by
        have := hfs 7 _ rfl
        simpa [e1, e2, e3, e4, e5, e6, e7] using this
      have t8 : DataW.trod enc Tryz.prog W 0 (fun _ => true) true n' 25 [c8] = some y8 := by
        have := hfs 8 _ rfl
        simpa [e1, e2, e3, e4, e5, e6, e7] using this
      have t9 : DataW.trod enc Tryz.prog W 0 (fun _ => true) true n' 26 [c9] = some y9 := by
        have := hfs 9 _ rfl
        simpa [e1, e2, e3, e4, e5, e6, e7] using this
      have hd1 : d = .agg [y0.1, y1.1, y2.1, y3.1, y4.1, y5.1, y6.1, y7.1, y8.1, y9.1] := congrArg Prod.fst hd
      have w0 : ∀ y ∈ y0.1.weights Tryz.prog 9, y ≤ reachBytes := fun y hy => hsz y (by
        rw [hd1]
        simp only [DataW.weights, Tryz.underlying28]
        simp [DataW.weightsEach]
        exact (.inl hy))
      have w3 : ∀ y ∈ y3.1.weights Tryz.prog 22, y ≤ reachBytes := fun y hy => hsz y (by
        rw [hd1]
        simp only [DataW.weights, Tryz.underlying28]
        simp [DataW.weightsEach]
        exact (.inr (.inr (.inr (.inl hy)))))
      have w4 : ∀ y ∈ y4.1.weights Tryz.prog 23, y ≤ reachBytes := fun y hy => hsz y (by
        rw [hd1]
        simp only [DataW.weights, Tryz.underlying28]
        simp [DataW.weightsEach]
        exact (.inr (.inr (.inr (.inr (.inl hy))))))
      have w5 : ∀ y ∈ y5.1.weights Tryz.prog 24, y ≤ reachBytes := fun y hy => hsz y (by
        rw [hd1]
        simp only [DataW.weights, Tryz.underlying28]
        simp [DataW.weightsEach]
        exact (.inr (.inr (.inr (.inr (.inr (.inl hy)))))))
      have w6 : ∀ y ∈ y6.1.weights Tryz.prog 25, y ≤ reachBytes := fun y hy => hsz y (by
        rw [hd1]
        simp only [DataW.weights, Tryz.underlying28]
        simp [DataW.weightsEach]
        exact (.inr (.inr (.inr (.inr (.inr (.inr (.inl hy))))))))
      have w7 : ∀ y ∈ y7.1.weights Tryz.prog 25, y ≤ reachBytes := fun y hy => hsz y (by
        rw [hd1]
        simp only [DataW.weights, Tryz.underlying28]
        simp [DataW.weightsEach]
        exact (.inr (.inr (.inr (.inr (.inr (.inr (.inr (.inl hy)))))))))
      have w8 : ∀ y ∈ y8.1.weights Tryz.prog 25, y ≤ reachBytes := fun y hy => hsz y (by
        rw [hd1]
        simp only [DataW.weights, Tryz.underlying28]
        simp [DataW.weightsEach]
        exact (.inr (.inr (.inr (.inr (.inr (.inr (.inr (.inr (.inl hy))))))))))
      have w9 : ∀ y ∈ y9.1.weights Tryz.prog 26, y ≤ reachBytes := fun y hy => hsz y (by
        rw [hd1]
        simp only [DataW.weights, Tryz.underlying28]
        simp [DataW.weightsEach]
        exact (.inr (.inr (.inr (.inr (.inr (.inr (.inr (.inr (.inr hy))))))))))
      obtain ⟨s, g0, q0, _⟩ := DataW.trod_string Tryz.underlying9 t0
      obtain ⟨z1, g1, _⟩ := DataW.trod_int Tryz.underlying3 t1
      obtain ⟨z2, g2, _⟩ := DataW.trod_int Tryz.underlying3 t2
      obtain rfl : c0 = .string s := by simpa using g0
      obtain rfl : c1 = .int .i64 z1 := by simpa using g1
      obtain rfl : c2 = .int .i64 z2 := by simpa using g2
      have hs : s.size ≤ 140737488351232 := by
        have := w0 s.size (by rw [q0]; simp [DataW.weights])
        simpa [reachBytes] using this
      obtain ⟨l3, m3, f3, n3⟩ := clients_read t3 w3
      obtain ⟨l4, m4, _, n4⟩ := conns_read t4 w4
      obtain ⟨l5, m5, _, n5⟩ := chans_read t5 w5
      obtain ⟨l6, m6, f6, n6⟩ := marks_read t6 w6
      obtain ⟨l7, m7, f7, n7⟩ := marks_read t7 w7
      obtain ⟨l8, m8, f8, n8⟩ := marks_read t8 w8
      obtain ⟨l9, m9, f9, n9⟩ := purses_read t9 w9
      exact ⟨⟨s, z1, z2, l3, l4, l5, l6, l7, l8, l9⟩, ⟨c3, c4, c5, c6, c7, c8, c9, rfl, m3, m4, m5, m6, m7, m8, m9⟩, hs, ⟨n3, f3⟩, n4, n5, ⟨n6, f6⟩, ⟨n7, f7⟩, ⟨n8, f8⟩, n9, f9⟩
end Go.Proofs.YtbjlfhabnjpdmaaGreatDoor
