/-
  What an argument's reading gives, where it is what is known of a block, a client or an update.
-/
import Derived.Test.YtfpngilmdgeikaaDoorHdOpen
import Derived.Test.YtfpngilmdgeikaaDoorClMem
namespace Go.Proofs.YtfpngilmdgeikaaDoor
open Go.ChangeShapes Go.WideShapes Go.ChangeAt Go.RowKit

/-- four cells of what is known of a block -/
theorem known_cells {H : Type} {enc : TypeId × Value → H} {W : World} {fuel : Nat} {c0 c1 c2 c3 : Value} {x : DataW H × List MemPlace}
    (hf : DataW.trod enc Tryd.prog W 0 (fun _ => true) true fuel 73 [c0, c1, c2, c3] = some x) (hsz : ∀ y ∈ x.1.weights Tryd.prog 73, y ≤ reachBytes) :
    ∃ k : Kn, c0 = .int .i64 k.height ∧ c1 = .int .i64 k.time ∧ Bytes W W.heap.size c2 k.root ∧ Bytes W W.heap.size c3 k.next ∧ k.fits := by
  obtain ⟨xs, n', _, hd, _, hlen, hfs⟩ := DataW.trod_struct Tryd.underlying73 hf
  have e1 : Tryd.prog.cellsOf 3 = 1 := by kernel_rfl
  have e3 : Tryd.prog.cellsOf 23 = 1 := by kernel_rfl
  match xs, hlen with
  | [y0, y1, y2, y3], _ =>
    have t0 : DataW.trod enc Tryd.prog W 0 (fun _ => true) true n' 3 [c0] = some y0 := by
      have := hfs 0 _ rfl
      simpa [e1] using this
    have t1 : DataW.trod enc Tryd.prog W 0 (fun _ => true) true n' 3 [c1] = some y1 := by
      have := hfs 1 _ rfl
      simpa [e1] using this
    have t2 : DataW.trod enc Tryd.prog W 0 (fun _ => true) true n' 23 [c2] = some y2 := by
      have := hfs 2 _ rfl
      simpa [e3] using this
    have t3 : DataW.trod enc Tryd.prog W 0 (fun _ => true) true n' 23 [c3] = some y3 := by
      have := hfs 3 _ rfl
      simpa [e3] using this
    have hw : ∀ y, y ∈ y2.1.weights Tryd.prog 23 ∨ y ∈ y3.1.weights Tryd.prog 23 → y ≤ reachBytes := fun y hy => hsz y (by
      rw [hd]
      simp only [DataW.weights, Tryd.underlying73]
      simp [DataW.weightsEach]
      rcases hy with hy | hy
      · exact .inr (.inr (.inl hy))
      · exact .inr (.inr (.inr hy)))
    obtain ⟨l2, hb2, hl2⟩ := bytes_cell_sizedH t2 (fun y hy => hw y (.inl hy))
    obtain ⟨l3, hb3, hl3⟩ := bytes_cell_sizedH t3 (fun y hy => hw y (.inr hy))
    obtain ⟨z0, g0, _⟩ := DataW.trod_int Tryd.underlying3 t0
    obtain ⟨z1, g1, _⟩ := DataW.trod_int Tryd.underlying3 t1
    obtain rfl : c0 = .int .i64 z0 := by simpa using g0
    obtain rfl : c1 = .int .i64 z1 := by simpa using g1
    exact ⟨⟨z0, z1, l2, l3⟩, rfl, rfl, hb2, hb3, hl2, hl3⟩
/-- a cell that reads as a slice of what is known -/
theorem knowns_read {H : Type} {enc : TypeId × Value → H} {W : World} {fuel : Nat} {v : Value} {x : DataW H × List MemPlace}
    (hf : DataW.trod enc Tryd.prog W 0 (fun _ => true) true fuel 57 [v] = some x) (hsz : ∀ y ∈ x.1.weights Tryd.prog 57, y ≤ reachBytes) :
    ∃ l, Knowns W W.heap.size v l ∧ (∀ k ∈ l, k.fits) ∧ l.length < 2305843009213693952 := by
  rcases Deep.open_slice Tryd.underlying57 hf with ⟨hcs, _⟩ | ⟨a, len, cap, m, n, D, Pl, hcs, _, hl, hm, hmm, hx, hel⟩
  · obtain rfl : v = .slice none 0 0 := by simpa using hcs
    exact ⟨[], Knowns.nil _ _, by simp, by simp⟩
  · obtain rfl : v = .slice (some a) len cap := by simpa using hcs
    have hm' : m = cap := by simpa using hmm
    subst hm'
    have hc4 : Tryd.prog.cellsOf 73 = 4 := by kernel_rfl
    have hb64 : Tryd.prog.bytesOf 73 = 64 := by kernel_rfl
    have hlen : len < 2305843009213693952 := by
      have := hsz ((len + (m - len)) * 64) (by rw [hx]; simp [DataW.weights, Tryd.underlying57, hb64])
      simp only [reachBytes] at this
      omega
    haveI : Inhabited KnR := ⟨⟨Kn.none, undef, undef⟩⟩
    obtain ⟨l, h1, h2, h3⟩ := recs_of (W := W) (a := a) (len := len) (m := m) (k := 4) knRow (fun q : KnR => q.ok W W.heap.size ∧ q.k.fits) (by omega) (fun _ => rfl) hl (fun i hi => by
      obtain ⟨cs', g1, g2⟩ := hel i (by omega)
      rw [hc4] at g1
      obtain ⟨_, hcl, _⟩ := World.cells?_some g1
      match cs', hcl with
      | [c0, c1, c2, c3], _ =>
        obtain ⟨k, rfl, rfl, b2, b3, hfit⟩ := known_cells g2 (fun y hy => hsz y (by
          rw [hx]
          simp only [DataW.weights, Tryd.underlying57, List.mem_cons, List.mem_append]
          exact .inr (.inl (weights_all_memH _ _ _ (D i) (List.mem_map.2 ⟨i, List.mem_range.2 hi, rfl⟩) y hy))))
        exact ⟨⟨k, c2, c3⟩, g1, ⟨b2, b3⟩, hfit⟩)
    refine ⟨l.map (·.k), ⟨l, rfl, h1, fun q hq => (h2 q hq).1⟩, fun k hk => ?_, by simp; omega⟩
    obtain ⟨q, hq, rfl⟩ := List.mem_map.1 hk
    exact (h2 q hq).2
theorem cellsKnown : Tryd.prog.cellsOf 73 = 4 := by kernel_rfl
theorem cellsClient : Tryd.prog.cellsOf 59 = 4 := by kernel_rfl
theorem cellsUpdate : Tryd.prog.cellsOf 68 = 10 := by kernel_rfl
set_option maxRecDepth 100000 in
/-- an argument that reads as what is known of a block -/
theorem known_read {H : Type} {enc : TypeId × Value → H} {W : World} {base : Nat} {v : Value} {d : DataW H} {p : List MemPlace}
    (hval : Value.okWide Tryd.prog W .any base 73 v) (h : DataW.Trod enc Tryd.prog W 0 (fun _ => true) true 73 v d p) (hsz : ∀ y ∈ d.weights Tryd.prog 73, y ≤ reachBytes) :
    ∃ g : Kn, KnV W W.heap.size v g ∧ g.fits := by
  obtain ⟨cs, rfl, hcs⟩ := okWide_struct Tryd.underlying73 hval
  rw [cellsKnown] at hcs
  obtain ⟨l⟩ := cs
  match l, hcs with
  | [c0, c1, c2, c3], _ =>
    obtain ⟨fuel, hf⟩ := h
    obtain ⟨g, rfl, rfl, h2, h3, hg⟩ := known_cells (x := (d, p)) hf hsz
    exact ⟨g, ⟨c2, c3, rfl, h2, h3⟩, hg⟩
/-- a client's four cells -/
theorem client_cells {H : Type} {enc : TypeId × Value → H} {W : World} {fuel : Nat} {c0 c1 c2 c3 : Value} {x : DataW H × List MemPlace}
    (hf : DataW.trod enc Tryd.prog W 0 (fun _ => true) true fuel 59 [c0, c1, c2, c3] = some x) (hsz : ∀ y ∈ x.1.weights Tryd.prog 59, y ≤ reachBytes) :
    ∃ c : Cl, c0 = .string c.chain ∧ c1 = .int .i64 c.trust ∧ c2 = .bool c.frozen ∧ Knowns W W.heap.size c3 c.known ∧ c.fits := by
  obtain ⟨xs, n', _, hd, _, hlen, hfs⟩ := DataW.trod_struct Tryd.underlying59 hf
  have e0 : Tryd.prog.cellsOf 9 = 1 := by kernel_rfl
  have e1 : Tryd.prog.cellsOf 3 = 1 := by kernel_rfl
  have e2 : Tryd.prog.cellsOf 4 = 1 := by kernel_rfl
  have e3 : Tryd.prog.cellsOf 57 = 1 := by kernel_rfl
  match xs, hlen with
  | [y0, y1, y2, y3], _ =>
    have t0 : DataW.trod enc Tryd.prog W 0 (fun _ => true) true n' 9 [c0] = some y0 := by
      have := hfs 0 _ rfl
      simpa [e0] using this
    have t1 : DataW.trod enc Tryd.prog W 0 (fun _ => true) true n' 3 [c1] = some y1 := by
      have := hfs 1 _ rfl
      simpa [e1] using this
    have t2 : DataW.trod enc Tryd.prog W 0 (fun _ => true) true n' 4 [c2] = some y2 := by
      have := hfs 2 _ rfl
      simpa [e2] using this
    have t3 : DataW.trod enc Tryd.prog W 0 (fun _ => true) true n' 57 [c3] = some y3 := by
      have := hfs 3 _ rfl
      simpa [e3] using this
    have hw : ∀ y, y ∈ y0.1.weights Tryd.prog 9 ∨ y ∈ y3.1.weights Tryd.prog 57 → y ≤ reachBytes := fun y hy => hsz y (by
      rw [hd]
      simp only [DataW.weights, Tryd.underlying59]
      simp [DataW.weightsEach]
      rcases hy with hy | hy
      · exact .inl hy
      · exact .inr (.inr (.inr hy)))
    obtain ⟨l3, hb3, hf3, hl3⟩ := knowns_read t3 (fun y hy => hw y (.inr hy))
    obtain ⟨s, g0, q0, _⟩ := DataW.trod_string Tryd.underlying9 t0
    obtain ⟨z1, g1, _⟩ := DataW.trod_int Tryd.underlying3 t1
    obtain ⟨z2, g2, _⟩ := DataW.trod_bool Tryd.underlying4 t2
    obtain rfl : c0 = .string s := by simpa using g0
    obtain rfl : c1 = .int .i64 z1 := by simpa using g1
    obtain rfl : c2 = .bool z2 := by simpa using g2
    have hs : s.size ≤ 140737488351232 := by
      have := hw s.size (.inl (by rw [q0]; simp [DataW.weights]))
      simpa [reachBytes] using this
    exact ⟨⟨s, z1, z2, l3⟩, rfl, rfl, rfl, hb3, hs, hl3, hf3⟩
set_option maxRecDepth 100000 in
/-- an argument that reads as a client -/
theorem client_read {H : Type} {enc : TypeId × Value → H} {W : World} {base : Nat} {v : Value} {d : DataW H} {p : List MemPlace}
    (hval : Value.okWide Tryd.prog W .any base 59 v) (h : DataW.Trod enc Tryd.prog W 0 (fun _ => true) true 59 v d p) (hsz : ∀ y ∈ d.weights Tryd.prog 59, y ≤ reachBytes) :
    ∃ g : Cl, ClV W W.heap.size v g ∧ g.fits := by
  obtain ⟨cs, rfl, hcs⟩ := okWide_struct Tryd.underlying59 hval
  rw [cellsClient] at hcs
  obtain ⟨l⟩ := cs
  match l, hcs with
  | [c0, c1, c2, c3], _ =>
    obtain ⟨fuel, hf⟩ := h
    obtain ⟨g, rfl, rfl, rfl, h3, hg⟩ := client_cells (x := (d, p)) hf hsz
    exact ⟨g, ⟨c3, rfl, h3⟩, hg⟩
/-- a signed header's eight cells -/
theorem signed_cells {H : Type} {enc : TypeId × Value → H} {W : World} {fuel : Nat} {c0 c1 c2 c3 c4 c5 c6 c7 : Value} {x : DataW H × List MemPlace}
    (hf : DataW.trod enc Tryd.prog W 0 (fun _ => true) true fuel 29 [c0, c1, c2, c3, c4, c5, c6, c7] = some x) (hsz : ∀ y ∈ x.1.weights Tryd.prog 29, y ≤ reachBytes) :
    ∃ s : Sg, SgV W W.heap.size (.agg #[c0, c1, c2, c3, c4, c5, c6, c7]) s ∧ s.fits := by
  obtain ⟨xs, n', _, hd, _, hlen, hfs⟩ := DataW.trod_struct Tryd.underlying29 hf
  have e1 : Tryd.prog.cellsOf 22 = 1 := by kernel_rfl
  have e2 : Tryd.prog.cellsOf 27 = 1 := by kernel_rfl
  match xs, hlen with
  | [y0, y1, y2], _ =>
    have t0 : DataW.trod enc Tryd.prog W 0 (fun _ => true) true n' 25 [c0, c1, c2, c3, c4, c5] = some y0 := by
      have := hfs 0 _ rfl
      simpa [cellsHeader] using this
    have t1 : DataW.trod enc Tryd.prog W 0 (fun _ => true) true n' 22 [c6] = some y1 := by
      have := hfs 1 _ rfl
      simpa [e1] using this
    have t2 : DataW.trod enc Tryd.prog W 0 (fun _ => true) true n' 27 [c7] = some y2 := by
      have := hfs 2 _ rfl
      simpa [e2] using this
    have hw : ∀ y, y ∈ y0.1.weights Tryd.prog 25 ∨ y ∈ y1.1.weights Tryd.prog 22 ∨ y ∈ y2.1.weights Tryd.prog 27 → y ≤ reachBytes := fun y hy => hsz y (by
      rw [hd]
      simp only [DataW.weights, Tryd.underlying29]
      simp [DataW.weightsEach]
      exact hy)
    obtain ⟨g, rfl, rfl, rfl, h3, h4, h5, hg⟩ := header_cells t0 (fun y hy => hw y (.inl hy))
    obtain ⟨l1, b1, f1, k1⟩ := vals_read t1 (fun y hy => hw y (.inr (.inl hy)))
    obtain ⟨l2, b2, f2, k2⟩ := votes_read t2 (fun y hy => hw y (.inr (.inr hy)))
    exact ⟨⟨g, l1, l2⟩, ⟨c3, c4, c5, c6, c7, rfl, h3, h4, h5, b1, b2⟩, hg, k1, k2, f1, f2⟩
set_option maxRecDepth 100000 in
/-- an argument that reads as an update -/
theorem update_read {H : Type} {enc : TypeId × Value → H} {W : World} {base : Nat} {v : Value} {d : DataW H} {p : List MemPlace}
    (hval : Value.okWide Tryd.prog W .any base 68 v) (h : DataW.Trod enc Tryd.prog W 0 (fun _ => true) true 68 v d p) (hsz : ∀ y ∈ d.weights Tryd.prog 68, y ≤ reachBytes) :
    ∃ g : Up, UpV W W.heap.size v g ∧ g.fits := by
  obtain ⟨cs, rfl, hcs⟩ := okWide_struct Tryd.underlying68 hval
  rw [cellsUpdate] at hcs
  obtain ⟨l⟩ := cs
  match l, hcs with
  | [c0, c1, c2, c3, c4, c5, c6, c7, c8, c9], _ =>
    obtain ⟨fuel, hf⟩ := h
    have hf' : DataW.trod enc Tryd.prog W 0 (fun _ => true) true fuel 68 [c0, c1, c2, c3, c4, c5, c6, c7, c8, c9] = some (d, p) := hf
    obtain ⟨xs, n', _, hd, _, hlen, hfs⟩ := DataW.trod_struct Tryd.underlying68 hf'
    have e0 : Tryd.prog.cellsOf 3 = 1 := by kernel_rfl
    have e2 : Tryd.prog.cellsOf 22 = 1 := by kernel_rfl
    match xs, hlen with
    | [y0, y1, y2], _ =>
      have t0 : DataW.trod enc Tryd.prog W 0 (fun _ => true) true n' 3 [c0] = some y0 := by
        have := hfs 0 _ rfl
        simpa [e0] using this
      have t1 : DataW.trod enc Tryd.prog W 0 (fun _ => true) true n' 29 [c1, c2, c3, c4, c5, c6, c7, c8] = some y1 := by
        have := hfs 1 _ rfl
        simpa [cellsSigned] using this
      have t2 : DataW.trod enc Tryd.prog W 0 (fun _ => true) true n' 22 [c9] = some y2 := by
        have := hfs 2 _ rfl
        simpa [e2] using this
      have hd1 : d = .agg [y0.1, y1.1, y2.1] := congrArg Prod.fst hd
      have hw : ∀ y, y ∈ y1.1.weights Tryd.prog 29 ∨ y ∈ y2.1.weights Tryd.prog 22 → y ≤ reachBytes := fun y hy => hsz y (by
        rw [hd1]
        simp only [DataW.weights, Tryd.underlying68]
        simp [DataW.weightsEach]
        exact .inr hy)
      obtain ⟨z, g0, _⟩ := DataW.trod_int Tryd.underlying3 t0
      obtain rfl : c0 = .int .i64 z := by simpa using g0
      obtain ⟨s, hs, hsf⟩ := signed_cells t1 (fun y hy => hw y (.inl hy))
      obtain ⟨l2, b2, f2, k2⟩ := vals_read t2 (fun y hy => hw y (.inr hy))
      exact ⟨⟨z, s, l2⟩, ⟨c1, c2, c3, c4, c5, c6, c7, c8, c9, rfl, hs, b2⟩, hsf, k2, f2⟩
end Go.Proofs.YtfpngilmdgeikaaDoor
