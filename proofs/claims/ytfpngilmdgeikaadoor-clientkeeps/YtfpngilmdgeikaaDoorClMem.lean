/-
  What clients know, in memory: records of four cells behind a slice value; clients and updates as values; rows of what is known that a call owns. No function of the program is named here.
-/
import Derived.Test.YtfpngilmdgeikaaDoorClMath
import Derived.Test.YtfpngilmdgeikaaDoorHdMems
import Derived.Test.YtfpngilmdgeikaaDoorRecKn
namespace Go.Proofs.YtfpngilmdgeikaaDoor
open Go.RowKit

/-- what is known of a block, and the two slices that hold its bytes -/
structure KnR where
  k : Kn
  r : Value
  n : Value
def knRow (q : KnR) : List Value := [.int .i64 q.k.height, .int .i64 q.k.time, q.r, q.n]
/-- the slices read as the bytes, in blocks below N -/
def KnR.ok (w : World) (N : Nat) (q : KnR) : Prop := Bytes w N q.r q.k.root ∧ Bytes w N q.n q.k.next
theorem KnR.ok.below {w w' : World} {N : Nat} {q : KnR} (h : q.ok w N) (hg : Below N w w') : q.ok w' N := ⟨h.1.below hg, h.2.below hg⟩
theorem KnR.ok.mono {w : World} {N M : Nat} {q : KnR} (h : q.ok w N) (hN : N ≤ M) : q.ok w M := ⟨h.1.mono hN, h.2.mono hN⟩
theorem KnR.ok.row {w : World} {N : Nat} {q : KnR} (h : q.ok w N) : okKn (knRow q) := by
  obtain ⟨o1, c1, e1, _⟩ := h.1.shape
  obtain ⟨o2, c2, e2, _⟩ := h.2.shape
  refine ⟨rfl, fun x hx => ?_⟩
  simp [knRow] at hx
  rcases hx with rfl | rfl | rfl | rfl
  · rfl
  · rfl
  · rw [e1]; rfl
  · rw [e2]; rfl
theorem knRow_len {ps : List KnR} : ∀ r ∈ ps.map knRow, r.length = 4 := fun r hr => by obtain ⟨_, _, rfl⟩ := List.mem_map.1 hr; rfl
/-- sv is a slice that reads as l, in blocks below N -/
def Knowns (w : World) (N : Nat) (sv : Value) (l : List Kn) : Prop := ∃ ps : List KnR, ps.map (·.k) = l ∧ Recs w N sv 4 (ps.map knRow) ∧ ∀ q ∈ ps, q.ok w N
theorem Knowns.below {w w' : World} {N : Nat} {sv : Value} {l : List Kn} (h : Knowns w N sv l) (hg : Below N w w') : Knowns w' N sv l := by
  obtain ⟨ps, h1, h2, h3⟩ := h
  exact ⟨ps, h1, h2.below hg, fun q hq => (h3 q hq).below hg⟩
theorem Knowns.mono {w : World} {N M : Nat} {sv : Value} {l : List Kn} (h : Knowns w N sv l) (hN : N ≤ M) : Knowns w M sv l := by
  obtain ⟨ps, h1, h2, h3⟩ := h
  exact ⟨ps, h1, h2.mono hN, fun q hq => (h3 q hq).mono hN⟩
theorem Knowns.shape {w : World} {N : Nat} {sv : Value} {l : List Kn} (h : Knowns w N sv l) : ∃ oa cap, sv = .slice oa l.length cap ∧ l.length ≤ cap := by
  obtain ⟨ps, h1, h2, _⟩ := h
  obtain ⟨oa, cap, e1, e2⟩ := h2.shape
  have : (ps.map knRow).length = l.length := by rw [← h1]; simp
  rw [this] at e1 e2
  exact ⟨oa, cap, e1, e2⟩
theorem Knowns.nil (w : World) (N : Nat) : Knowns w N (.slice none 0 0) [] := ⟨[], rfl, .inl ⟨rfl, rfl⟩, fun _ h => by cases h⟩
/-- a record's four cells -/
theorem Knowns.spot {w : World} {N : Nat} {oa : Option Addr} {n cap : Nat} {l : List Kn} (h : Knowns w N (.slice oa n cap) l) (hl : 0 < n) :
    ∃ b off, oa = some ⟨b, off, none⟩ ∧ ∀ i k, l[i]? = some k → b < N ∧ ∃ vr vn, w.cell? ⟨b, off + i * 4, none⟩ = some (.int .i64 k.height) ∧ w.cell? ⟨b, off + i * 4 + 1, none⟩ = some (.int .i64 k.time) ∧ w.cell? ⟨b, off + i * 4 + 2, none⟩ = some vr ∧ w.cell? ⟨b, off + i * 4 + 3, none⟩ = some vn ∧ Bytes w N vr k.root ∧ Bytes w N vn k.next := by
  obtain ⟨ps, h1, h2, h3⟩ := h
  obtain ⟨b, off, e, hc⟩ := h2.spot hl
  refine ⟨b, off, e, fun i k hk => ?_⟩
  rw [← h1, List.getElem?_map] at hk
  obtain ⟨q, hq, rfl⟩ : ∃ q, ps[i]? = some q ∧ q.k = k := by simpa using hk
  obtain ⟨g1, g2⟩ := hc i (knRow q) (by rw [List.getElem?_map, hq]; rfl)
  have hok := h3 q (List.mem_of_getElem? hq)
  exact ⟨g1, q.r, q.n, g2 0 _ rfl, g2 1 _ rfl, g2 2 _ rfl, g2 3 _ rfl, hok.1, hok.2⟩
/-- v reads as what is known of a block -/
def KnV (w : World) (N : Nat) (v : Value) (k : Kn) : Prop := ∃ rv nv, v = .agg #[.int .i64 k.height, .int .i64 k.time, rv, nv] ∧ Bytes w N rv k.root ∧ Bytes w N nv k.next
theorem KnV.below {w w' : World} {N : Nat} {v : Value} {k : Kn} (h : KnV w N v k) (hg : Below N w w') : KnV w' N v k := by
  obtain ⟨rv, nv, rfl, h1, h2⟩ := h
  exact ⟨rv, nv, rfl, h1.below hg, h2.below hg⟩
theorem KnV.mono {w : World} {N M : Nat} {v : Value} {k : Kn} (h : KnV w N v k) (hN : N ≤ M) : KnV w M v k := by
  obtain ⟨rv, nv, rfl, h1, h2⟩ := h
  exact ⟨rv, nv, rfl, h1.mono hN, h2.mono hN⟩
theorem knNone (w : World) (N : Nat) : KnV w N (.agg #[.int .i64 0, .int .i64 0, .slice none 0 0, .slice none 0 0]) Kn.none := ⟨_, _, rfl, .inl ⟨rfl, rfl⟩, .inl ⟨rfl, rfl⟩⟩
/-- v reads as a client -/
def ClV (w : World) (N : Nat) (v : Value) (c : Cl) : Prop := ∃ kv, v = .agg #[.string c.chain, .int .i64 c.trust, .bool c.frozen, kv] ∧ Knowns w N kv c.known
theorem ClV.below {w w' : World} {N : Nat} {v : Value} {c : Cl} (h : ClV w N v c) (hg : Below N w w') : ClV w' N v c := by
  obtain ⟨kv, rfl, h1⟩ := h
  exact ⟨kv, rfl, h1.below hg⟩
theorem ClV.mono {w : World} {N M : Nat} {v : Value} {c : Cl} (h : ClV w N v c) (hN : N ≤ M) : ClV w M v c := by
  obtain ⟨kv, rfl, h1⟩ := h
  exact ⟨kv, rfl, h1.mono hN⟩
theorem clNone (w : World) (N : Nat) : ClV w N (.agg #[.string ⟨#[]⟩, .int .i64 0, .bool false, .slice none 0 0]) Cl.none := ⟨_, rfl, Knowns.nil w N⟩
/-- v reads as an update -/
def UpV (w : World) (N : Nat) (v : Value) (u : Up) : Prop := ∃ x0 x1 x2 x3 x4 x5 x6 x7 tv, v = .agg #[.int .i64 u.frm, x0, x1, x2, x3, x4, x5, x6, x7, tv] ∧ SgV w N (.agg #[x0, x1, x2, x3, x4, x5, x6, x7]) u.sg ∧ Vals w N tv u.trusted
theorem UpV.below {w w' : World} {N : Nat} {v : Value} {u : Up} (h : UpV w N v u) (hg : Below N w w') : UpV w' N v u := by
  obtain ⟨x0, x1, x2, x3, x4, x5, x6, x7, tv, rfl, h1, h2⟩ := h
  exact ⟨x0, x1, x2, x3, x4, x5, x6, x7, tv, rfl, h1.below hg, h2.below hg⟩
theorem UpV.mono {w : World} {N M : Nat} {v : Value} {u : Up} (h : UpV w N v u) (hN : N ≤ M) : UpV w M v u := by
  obtain ⟨x0, x1, x2, x3, x4, x5, x6, x7, tv, rfl, h1, h2⟩ := h
  exact ⟨x0, x1, x2, x3, x4, x5, x6, x7, tv, rfl, h1.mono hN, h2.mono hN⟩
/-- what is known, in a row that a call owns, with bytes that it owns -/
def OwnKn (w : World) (base : Nat) (v : Value) (ps : List KnR) : Prop := RowKn w base v (ps.map knRow) ∧ ∀ q ∈ ps, OwnB w base q.r q.k.root ∧ OwnB w base q.n q.k.next
theorem OwnKn.below {w w' : World} {base : Nat} {v : Value} {ps : List KnR} (h : OwnKn w base v ps) (hg : Below w.heap.size w w') : OwnKn w' base v ps :=
  ⟨h.1.below hg, fun q hq => ⟨ownsRow_belowR (h.2 q hq).1 hg, ownsRow_belowR (h.2 q hq).2 hg⟩⟩
theorem OwnKn.mono {w : World} {base base' : Nat} {v : Value} {ps : List KnR} (h : OwnKn w base v ps) (hb : base' ≤ base) : OwnKn w base' v ps := ⟨h.1.mono hb, fun q hq => ⟨(h.2 q hq).1.mono hb, (h.2 q hq).2.mono hb⟩⟩
theorem OwnKn.shape {w : World} {base : Nat} {v : Value} {ps : List KnR} (h : OwnKn w base v ps) : ∃ oa cap, v = .slice oa ps.length cap ∧ ps.length ≤ cap := by
  obtain ⟨oa, cap, h1, h2⟩ := h.1.shape
  rw [List.length_map] at h1 h2
  exact ⟨oa, cap, h1, h2⟩
theorem OwnKn.knowns {w : World} {base : Nat} {v : Value} {ps : List KnR} (h : OwnKn w base v ps) : Knowns w w.heap.size v (ps.map (·.k)) := ⟨ps, rfl, h.1.recs, fun q hq => ⟨(h.2 q hq).1.bytes, (h.2 q hq).2.bytes⟩⟩
theorem OwnKn.keep {w w' : World} {base : Nat} {v : Value} {ps : List KnR} (h : OwnKn w base v ps) (hk : ∀ g, base ≤ g → w'.heap[g]? = w.heap[g]?) : OwnKn w' base v ps := by
  refine ⟨⟨h.1.1, h.1.2.1, ?_⟩, fun q hq => ⟨(h.2 q hq).1.keep hk, (h.2 q hq).2.keep hk⟩⟩
  rcases h.1.2.2 with h2 | ⟨g, cap, cur, h3, h4, h5, h6⟩
  · exact .inl h2
  · exact .inr ⟨g, cap, cur, h3, h4, (hk g h4).trans h5, h6⟩
/-- what is done with the row leaves its bytes -/
theorem OwnKn.past {w w' : World} {base : Nat} {v v' : Value} {ps ps' : List KnR} (h : OwnKn w base v ps) (hg : w.grownBy w' v.ownBlock) (hr : RowKn w' base v' (ps'.map knRow)) (hm : ∀ q ∈ ps', q ∈ ps ∨ (OwnB w base q.r q.k.root ∧ OwnB w base q.n q.k.next)) : OwnKn w' base v' ps' := by
  refine ⟨hr, fun q hq => ?_⟩
  have key : ∀ q : KnR, OwnB w base q.r q.k.root ∧ OwnB w base q.n q.k.next → OwnB w' base q.r q.k.root ∧ OwnB w' base q.n q.k.next := fun q h1 => ⟨h.1.past (by decide) h1.1 hg, h.1.past (by decide) h1.2 hg⟩
  rcases hm q hq with h1 | h1
  · exact key q (h.2 q h1)
  · exact key q h1
theorem map_insKn (ps : List KnR) (i : Nat) (q : KnR) : insR (ps.map knRow) i (knRow q) = (ps.take i ++ q :: ps.drop i).map knRow := by
  unfold insR
  rw [List.map_append, List.map_cons, List.map_take, List.map_drop]
theorem map_delKn (ps : List KnR) (i : Nat) : (ps.map knRow).take i ++ (ps.map knRow).drop (i + 1) = (ps.take i ++ ps.drop (i + 1)).map knRow := by
  rw [List.map_append, List.map_take, List.map_drop]
/-- four cells of a row, written one by one -/
def set4 (w : World) (g : Nat) (a b c d : Value) : World := (((w.setCell ⟨g, 0, none⟩ a).setCell ⟨g, 1, none⟩ b).setCell ⟨g, 2, none⟩ c).setCell ⟨g, 3, none⟩ d
theorem set4_row {w : World} {g : Nat} {t : TypeId} {a0 b0 c0 d0 : Value} (h : Row w g t [a0, b0, c0, d0]) (a b c d : Value) : Row (set4 w g a b c d) g t [a, b, c, d] := (((h.set 0 a).set 1 b).set 2 c).set 3 d
theorem set4_other (w : World) (g : Nat) (a b c d : Value) : ∀ k, k ≠ g → (set4 w g a b c d).heap[k]? = w.heap[k]? := fun k hk => by
  unfold set4
  rw [heap_setCell_other _ _ _ _ hk, heap_setCell_other _ _ _ _ hk, heap_setCell_other _ _ _ _ hk, heap_setCell_other _ _ _ _ hk]
theorem set4_below {B : Nat} {w0 w : World} (h : Below B w0 w) {g : Nat} (hg : B ≤ g) (a b c d : Value) : Below B w0 (set4 w g a b c d) := (((h.setCell hg _).setCell hg _).setCell hg _).setCell hg _
theorem set4_size (w : World) (g : Nat) (a b c d : Value) : (set4 w g a b c d).heap.size = w.heap.size := by simp [set4, World.setCell]
theorem Row.four {w : World} {g : Nat} {t : TypeId} {a b c d : Value} (h : Row w g t [a, b, c, d]) :
    (w.cell? ⟨g, 0, none⟩ = some a ∧ w.cell? ⟨g, 1, none⟩ = some b ∧ w.cell? ⟨g, 2, none⟩ = some c ∧ w.cell? ⟨g, 3, none⟩ = some d) ∧ w.frozen? ⟨g, 0, none⟩ = false ∧ w.frozen? ⟨g, 1, none⟩ = false ∧ w.frozen? ⟨g, 2, none⟩ = false ∧ w.frozen? ⟨g, 3, none⟩ = false :=
  ⟨⟨h.cell 0, h.cell 1, h.cell 2, h.cell 3⟩, h.frozen 0, h.frozen 1, h.frozen 2, h.frozen 3⟩
/-- bytes below the row are as they were -/
theorem set4_bytes {w : World} {g N : Nat} {a b c d v : Value} {l : List (BitVec 8)} (h : Bytes w N v l) (hg : N ≤ g) : Bytes (set4 w g a b c d) (set4 w g a b c d).heap.size v l := by
  have hb := set4_below (Below.refl N w) hg a b c d
  have h1 := h.below hb
  rcases h1 with h1 | h1 | ⟨x, off, cap, e1, e2, e3⟩
  · exact .inl h1
  · exact .inr (.inl h1)
  · exact .inr (.inr ⟨x, off, cap, e1, e2, fun i hi => ⟨block_lt_of_cell (e3 i hi).2, (e3 i hi).2⟩⟩)
end Go.Proofs.YtfpngilmdgeikaaDoor
