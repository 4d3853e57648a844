/-
  What an argument's reading gives, where it is a state.
-/
import Derived.Test.YtnoaohlajllngaaDoortlMemB
import Derived.Test.YtnoaohlajllngaaDoortlHdMems
import Derived.Test.YtnoaohlajllngaaDoortlClMem
import Derived.Test.YtnoaohlajllngaaDoortlStMem
import Derived.Deep.Slices
import Derived.Deep.Strs
import Derived.Deep.FieldsWide
namespace Go.Proofs.YtnoaohlajllngaaDoor
open Go.ChangeShapes Go.WideShapes Go.ChangeAt Go.RowKit

theorem addr_addH (b off i : Nat) : (⟨b, off, none⟩ : Addr).add i = ⟨b, off + i, none⟩ := by unfold Addr.add; split <;> simp_all
/-- a cell that reads as a slice of bytes -/
theorem bytes_cell_sizedH {H : Type} {enc : TypeId × Value → H} {W : World} {fuel : Nat} {v : Value} {x : DataW H × List MemPlace}
    (hf : DataW.trod enc Tryd.prog W 0 (fun _ => true) true fuel 26 [v] = some x) (hsz : ∀ y ∈ x.1.weights Tryd.prog 26, y ≤ reachBytes) :
    ∃ l, Bytes W W.heap.size v l ∧ l.length ≤ 140737488351232 := by
  rcases open_ints Tryd.underlying26 Tryd.underlying5 (by kernel_rfl) hf with ⟨hcs, _⟩ | ⟨a, len, cap, zs, hcs, _⟩
  · obtain rfl : v = .slice none 0 0 := by simpa using hcs
    exact ⟨[], .inl ⟨rfl, rfl⟩, by simp⟩
  · obtain rfl : v = .slice (some a) len cap := by simpa using hcs
    refine bytes_read_len (a0 := some a) (len0 := len) (cap0 := cap) (x := x) hf (fun elems spare he => ?_)
    refine hsz _ ?_
    rw [he]
    simp [DataW.weights, Tryd.underlying26]
theorem weights_all_memH {H : Type} (P : Program) (e : TypeId) (l : List (DataW H)) (d : DataW H) (hd : d ∈ l) (y : Nat) (hy : y ∈ d.weights P e) : y ∈ DataW.weightsAll P e l := by
  induction l with
  | nil => simp at hd
  | cons a r ih =>
    simp only [DataW.weightsAll, List.mem_append]
    rcases List.mem_cons.1 hd with rfl | h
    · exact .inl hy
    · exact .inr (ih h)
/-- rows of k cells, each of which reads -/
theorem recs_of {W : World} {a : Addr} {len m k : Nat} {α : Type} [Inhabited α] (row : α → List Value) (P : α → Prop) (hk : 0 < k) (hrow : ∀ r, (row r).length = k) (hl : len ≤ m)
    (each : ∀ i, i < len → ∃ r, W.cells? 0 (a.add (i * k)) k = some (row r) ∧ P r) : ∃ l : List α, Recs W W.heap.size (.slice (some a) len m) k (l.map row) ∧ (∀ r ∈ l, P r) ∧ l.length = len := by
  obtain ⟨f, hfs⟩ := Deep.choose_lt each
  refine ⟨(List.range len).map f, ?_, fun r hr => ?_, by simp⟩
  · by_cases h0 : len = 0
    · subst h0
      exact .inr (.inl ⟨a, m, rfl, rfl⟩)
    · have cell : ∀ i, i < len → ∀ j, j < k → W.cell? ((a.add (i * k)).add j) = (row (f i))[j]? := fun i hi j hj => (World.cells?_some (hfs i hi).1).2.2 j hj
      obtain ⟨b, off, spot⟩ := a
      have hc := cell 0 (by omega) 0 hk
      rw [List.getElem?_eq_getElem (by rw [hrow]; exact hk)] at hc
      have hspot : spot = none := by simpa [Addr.add] using World.cell?_spot hc
      subst hspot
      refine .inr (.inr ⟨b, off, m, by simp, by simpa using hl, fun i r hr => ?_⟩)
      have hi : i < len := by have := (List.getElem?_eq_some_iff.1 hr).1; simpa using this
      obtain rfl : row (f i) = r := by
        rw [List.getElem?_map, List.getElem?_map, List.getElem?_range hi] at hr
        simpa using hr
      have hcell : ∀ j x, (row (f i))[j]? = some x → W.cell? ⟨b, off + i * k + j, none⟩ = some x := fun j x hx => by
        have hj : j < k := by have := (List.getElem?_eq_some_iff.1 hx).1; rwa [hrow] at this
        have := cell i hi j hj
        rwa [addr_addH, addr_addH, hx] at this
      refine ⟨block_lt_of_cell (hcell 0 _ (List.getElem?_eq_getElem (by rw [hrow]; exact hk))), hcell⟩
  · obtain ⟨i, hi, rfl⟩ := List.mem_map.1 hr
    exact (hfs i (List.mem_range.1 hi)).2
theorem num_of {z : Int} (h : (Lit.int .u64 z).wf = true) : ∃ n : Nat, z = n ∧ n < 18446744073709551616 := by
  have : 0 ≤ z ∧ z < 18446744073709551616 := by
    simp [Lit.wf, IntKind.min, IntKind.max, IntKind.signed, IntKind.bits] at h
    omega
  exact ⟨z.toNat, by omega, by omega⟩
end Go.Proofs.YtnoaohlajllngaaDoor
namespace Go.Proofs.YtnoaohlajllngaaDoor
open Go.ChangeShapes Go.WideShapes Go.ChangeAt Go.RowKit

end Go.Proofs.YtnoaohlajllngaaDoor
namespace Go.Proofs.YtnoaohlajllngaaDoor
open Go.ChangeShapes Go.WideShapes Go.ChangeAt Go.RowKit

/-- rows of k cells, each of which reads as something -/
theorem many_of {W : World} {a : Addr} {len m k : Nat} {α : Type} {R : World → Nat → List Value → α → Prop} (d : α) (P : α → Prop) (hk : 0 < k) (hl : len ≤ m)
    (each : ∀ i, i < len → ∃ r x, W.cells? 0 (a.add (i * k)) k = some r ∧ r.length = k ∧ R W W.heap.size r x ∧ P x) : ∃ l : List α, Many R k W W.heap.size (.slice (some a) len m) l ∧ (∀ x ∈ l, P x) ∧ l.length = len := by
  haveI : Inhabited { p : List Value × α // p.1.length = k } := ⟨⟨(List.replicate k undef, d), by simp⟩⟩
  obtain ⟨l, h1, h2, h3⟩ := recs_of (W := W) (a := a) (len := len) (m := m) (k := k) (fun p : { p : List Value × α // p.1.length = k } => p.1.1) (fun p => R W W.heap.size p.1.1 p.1.2 ∧ P p.1.2) hk (fun p => p.2) hl (fun i hi => by
    obtain ⟨r, x, g1, g2, g3⟩ := each i hi
    exact ⟨⟨(r, x), g2⟩, g1, g3⟩)
  refine ⟨l.map (fun p => p.1.2), ⟨_, by simp, h1, fun i r x hr hx => ?_⟩, fun x hx => ?_, by simpa using h3⟩
  · rw [List.getElem?_map] at hr hx
    cases e : l[i]? with
    | none => rw [e] at hr; simp at hr
    | some p =>
      rw [e] at hr hx
      simp at hr hx
      subst hr hx
      exact (h2 p (List.mem_of_getElem? e)).1
  · obtain ⟨p, hp, rfl⟩ := List.mem_map.1 hx
    exact (h2 p hp).2
theorem pu_cellsS {H : Type} {enc : TypeId × Value → H} {W : World} {fuel : Nat} {c0 c1 c2 : Value} {x : DataW H × List MemPlace}
    (hf : DataW.trod enc Tryd.prog W 0 (fun _ => true) true fuel 71 [c0, c1, c2] = some x) (hsz : ∀ y ∈ x.1.weights Tryd.prog 71, y ≤ reachBytes) :
    ∃ q : Pu, PuR W W.heap.size [c0, c1, c2] q ∧ q.fits := by
  obtain ⟨xs, n', _, hd, _, hlen, hfs⟩ := DataW.trod_struct Tryd.underlying71 hf
  have es : Tryd.prog.cellsOf 9 = 1 := by kernel_rfl
  have eu : Tryd.prog.cellsOf 23 = 1 := by kernel_rfl
  match xs, hlen with
  | [y0, y1, y2], _ =>
    have t0 : DataW.trod enc Tryd.prog W 0 (fun _ => true) true n' 9 [c0] = some y0 := by
      have := hfs 0 _ rfl
      simpa [es, eu] using this
    have t1 : DataW.trod enc Tryd.prog W 0 (fun _ => true) true n' 9 [c1] = some y1 := by
      have := hfs 1 _ rfl
      simpa [es, eu] using this
    have t2 : DataW.trod enc Tryd.prog W 0 (fun _ => true) true n' 23 [c2] = some y2 := by
      have := hfs 2 _ rfl
      simpa [es, eu] using this
    have hw : ∀ y, y ∈ y0.1.weights Tryd.prog 9 ∨ y ∈ y1.1.weights Tryd.prog 9 → y ≤ reachBytes := fun y hy => hsz y (by
      rw [hd]
      simp only [DataW.weights, Tryd.underlying71]
      simp [DataW.weightsEach]
      rcases hy with hy | hy
      · exact (.inl hy)
      · exact (.inr (.inl hy)))
    obtain ⟨s0, g0, q0, _⟩ := DataW.trod_string Tryd.underlying9 t0
    obtain rfl : c0 = .string s0 := by simpa using g0
    have hs0 : s0.size ≤ 140737488351232 := by
      have := hw s0.size ((fun hy => (.inl hy)) (by rw [q0]; simp [DataW.weights]))
      simpa [reachBytes] using this
    obtain ⟨s1, g1, q1, _⟩ := DataW.trod_string Tryd.underlying9 t1
    obtain rfl : c1 = .string s1 := by simpa using g1
    have hs1 : s1.size ≤ 140737488351232 := by
      have := hw s1.size ((fun hy => (.inr hy)) (by rw [q1]; simp [DataW.weights]))
      simpa [reachBytes] using this
    obtain ⟨z2, g2, _, f2⟩ := DataW.trod_int Tryd.underlying23 t2
    obtain ⟨n2, rfl, b2⟩ := num_of f2
    obtain rfl : c2 = .int .u64 n2 := by simpa using g2
    exact ⟨⟨s0, s1, n2⟩, rfl, hs0, hs1, b2⟩
theorem purses_read {H : Type} {enc : TypeId × Value → H} {W : World} {fuel : Nat} {v : Value} {x : DataW H × List MemPlace}
    (hf : DataW.trod enc Tryd.prog W 0 (fun _ => true) true fuel 22 [v] = some x) (hsz : ∀ y ∈ x.1.weights Tryd.prog 22, y ≤ reachBytes) :
    ∃ l : List Pu, Many PuR 3 W W.heap.size v l ∧ (∀ q ∈ l, q.fits) ∧ l.length < 2305843009213693952 := by
  rcases Deep.open_slice Tryd.underlying22 hf with ⟨hcs, _⟩ | ⟨a, len, cap, m, n, D, Pl, hcs, _, hl, hm, hmm, hx, hel⟩
  · obtain rfl : v = .slice none 0 0 := by simpa using hcs
    exact ⟨[], Many.nil _ _ _ _, fun _ h => (by cases h), by simp⟩
  · obtain rfl : v = .slice (some a) len cap := by simpa using hcs
    have hm' : m = cap := by simpa using hmm
    subst hm'
    have hck : Tryd.prog.cellsOf 71 = 3 := by kernel_rfl
    have hbk : Tryd.prog.bytesOf 71 = 40 := by kernel_rfl
    have hlen : len < 2305843009213693952 := by
      have := hsz ((len + (m - len)) * 40) (by rw [hx]; simp [DataW.weights, Tryd.underlying22, hbk])
      simp only [reachBytes] at this
      omega
    obtain ⟨l, h1, h2, h3⟩ := many_of (W := W) (a := a) (len := len) (m := m) (k := 3) (R := PuR) ⟨⟨#[]⟩, ⟨#[]⟩, 0⟩ (fun q => q.fits) (by omega) hl (fun i hi => by
      obtain ⟨cs', g1, g2⟩ := hel i (by omega)
      rw [hck] at g1
      obtain ⟨_, hcl, _⟩ := World.cells?_some g1
      match cs', hcl with
      | [c0, c1, c2], _ =>
        obtain ⟨q, hq, hqf⟩ := pu_cellsS g2 (fun y hy => hsz y (by
          rw [hx]
          simp only [DataW.weights, Tryd.underlying22, List.mem_cons, List.mem_append]
          exact .inr (.inl (weights_all_memH _ _ _ (D i) (List.mem_map.2 ⟨i, List.mem_range.2 hi, rfl⟩) y hy))))
        exact ⟨_, q, g1, rfl, hq, hqf⟩)
    exact ⟨l, h1, h2, by omega⟩
end Go.Proofs.YtnoaohlajllngaaDoor
