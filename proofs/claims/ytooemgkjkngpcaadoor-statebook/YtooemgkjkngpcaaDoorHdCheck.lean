/-
  What the makers of pieces answer, the landed ones and the document's: a piece of a number, a piece of bytes. What the document's Bytes of pieces answers.
  What Bytes does: a header's bytes, in new memory, in whatever order its steps come.
  What Digest answers, the landed one and the document's: the digest of validators' bytes, in new memory.
  What wrongTogether answers: what keeps a header from being one of these validators.
  What allGood answers: whether each vote that is one is good, of the header's bytes, by its validator's key.
  What Check answers: what keeps a signed header from being one that its validators voted for.
-/
import Derived.Test.YtooemgkjkngpcaaDoorHdMems
import Derived.Test.YtooemgkjkngpcaaDoorWireBoth
import Derived.Test.YtooemgkjkngpcaaDoorRegions
import Derived.Lib.ConvBytes
import Derived.Laws.IdiomStrings
import Derived.Test.YtooemgkjkngpcaaDoorRef1All
import Derived.Laws.MakeOwn
import Derived.Test.YtooemgkjkngpcaaDoorSameB
import Derived.Test.YtooemgkjkngpcaaDoorSealGood
namespace Go.Proofs.YtooemgkjkngpcaaDoor
open Go.RowKit

/-- a maker of a number's piece -/
def NumC (f : FuncId) : Prop := ∀ (n : Nat) (w : World), Calls Tryd.prog f #[.int .u64 (n : Int)] w fun e w' => e = .returned (.agg #[.int .i64 1, .int .u64 (n : Int), .slice none 0 0]) ∧ Below w.heap.size w w'
/-- a maker of bytes' piece -/
def TextC (f : FuncId) : Prop := ∀ (o : Option Addr) (n c : Nat) (w : World), Calls Tryd.prog f #[.slice o n c] w fun e w' => e = .returned (.agg #[.int .i64 2, .int .u64 0, .slice o n c]) ∧ Below w.heap.size w w'
end Go.Proofs.YtooemgkjkngpcaaDoor
namespace Go.Proofs.YtooemgkjkngpcaaDoor
open Go.RowKit

theorem pieces_new (w : World) (t : TypeId) (ps : List (Pc × Value)) (h : ∀ q ∈ ps, Bytes w w.heap.size q.2 q.1.b) :
    Pieces (w.alloc (.cells (ps.flatMap pcCells).toArray t)) (w.alloc (.cells (ps.flatMap pcCells).toArray t)).heap.size (.slice (some ⟨w.heap.size, 0, none⟩) ps.length ps.length) (ps.map (·.1)) := by
  have hb : Below w.heap.size w (w.alloc (.cells (ps.flatMap pcCells).toArray t)) := (Below.refl _ _).alloc (Nat.le_refl _) _
  have hr : Row (w.alloc (.cells (ps.flatMap pcCells).toArray t)) w.heap.size t (ps.flatMap pcCells) := Row.new _ _ _
  refine .inr (.inr ⟨w.heap.size, 0, ps.length, by simp, by simp, fun i p hp => ?_⟩)
  obtain ⟨q, hq, rfl⟩ : ∃ q, ps[i]? = some q ∧ q.1 = p := by simpa using hp
  refine ⟨hr.lt, q.2, ?_⟩
  have cell : ∀ j, j < 3 → (w.alloc (.cells (ps.flatMap pcCells).toArray t)).cell? ⟨w.heap.size, 0 + i * 3 + j, none⟩ = (pcCells q)[j]? := fun j hj => by
    rw [hr.cell, Nat.zero_add, flat_get ps i j q hq hj]
  exact ⟨cell 0 (by omega), cell 1 (by omega), cell 2 (by omega), ((h q (List.mem_of_getElem? hq)).below hb).mono hb.size⟩
theorem conv_text (w : World) (x : ByteArray) : (convert 9 46 (.string x)).run Tryd.prog w = .ok (.slice (some ⟨w.heap.size, 0, none⟩) x.size (grownCap w x.size 0 5)) (Lib.bytesWorld w 5 x) :=
  Lib.run_convert_string_bytes w 9 46 5 x Tryd.underlying9 Tryd.underlying46 Tryd.underlying5
theorem text_bytes (w : World) (s : ByteArray) : Bytes (Lib.bytesWorld w 5 s) (Lib.bytesWorld w 5 s).heap.size (.slice (some ⟨w.heap.size, 0, none⟩) s.size (grownCap w s.size 0 5)) (lets s) := by
  have hsz := Lib.bytesWorld_size w 5 s
  refine .inr (.inr ⟨w.heap.size, 0, _, by rw [lets_length], by rw [lets_length]; exact grownCap_ge _ _ _ _, fun i hi => ⟨by omega, ?_⟩⟩)
  rw [lets_length] at hi
  rw [Nat.zero_add, Lib.bytesWorld_cell _ _ _ _ hi]
  congr 2
  unfold b8 lets
  simp
theorem text_below (w : World) (s : ByteArray) : Below w.heap.size w (Lib.bytesWorld w 5 s) :=
  ⟨rfl, rfl, rfl, by rw [Lib.bytesWorld_size]; omega, fun j hj => Lib.bytesWorld_at_old _ _ _ _ hj⟩
/-- what Bytes is to answer, of a right header -/
def BytesC (f : FuncId) : Prop := ∀ (h : Hd) (v : Value) (N : Nat) (w : World), HdV w N v h → N ≤ w.heap.size → wrongH h = 0 →
  Calls Tryd.prog f #[v] w fun e w' => ∃ x, e = .returned x ∧ Bytes w' w'.heap.size x (bytesH h) ∧ Below w.heap.size w w'
end Go.Proofs.YtooemgkjkngpcaaDoor
namespace Go.Proofs.YtooemgkjkngpcaaDoor
open Go.RowKit

def numCells (n : Nat) : List Value := [.int .i64 1, .int .u64 (n : Int), .slice none 0 0]
/-- a row of numbers' pieces that a call owns -/
def OwnN (w : World) (base : Nat) (v : Value) (ns : List Nat) : Prop := w.ownsRow base 109 3 v ns.length (ns.flatMap numCells)
theorem OwnN.below {w w' : World} {base : Nat} {v : Value} {ns : List Nat} (h : OwnN w base v ns) (hg : Below w.heap.size w w') : OwnN w' base v ns := ownsRow_below h hg
theorem OwnN.shape {w : World} {base : Nat} {v : Value} {ns : List Nat} (h : OwnN w base v ns) : ∃ oa cap, v = .slice oa ns.length cap := by
  obtain ⟨_, h2⟩ := h
  rcases h2 with ⟨rfl, h3⟩ | ⟨g, cap, cur, rfl, _⟩
  · exact ⟨none, 0, by rw [h3]⟩
  · exact ⟨_, cap, rfl⟩
theorem OwnN.pieces {w : World} {base : Nat} {v : Value} {ns : List Nat} (h : OwnN w base v ns) : Pieces w w.heap.size v (ns.map fun n => ⟨1, n, []⟩) := by
  have e : (ns.map fun n => ((⟨1, n, []⟩ : Pc), Value.slice none 0 0)).map (·.1) = ns.map fun n => ⟨1, n, []⟩ := by simp
  rw [← e]
  refine OwnP.pieces (base := base) ⟨?_, fun q hq => ?_⟩
  · have : (ns.map fun n => ((⟨1, n, []⟩ : Pc), Value.slice none 0 0)).flatMap pcCells = ns.flatMap numCells := by rw [List.flatMap_map]; rfl
    rw [this, List.length_map]
    exact h
  · obtain ⟨n, _, rfl⟩ := List.mem_map.1 hq
    exact OwnB.nil _ _
theorem row_source {w : World} {g : Nat} {t : TypeId} {cs : List Value} (h : Row w g t cs) : ∀ (j : Nat) (x : Value), cs[j]? = some x → w.cell? ((⟨g, 0, none⟩ : Addr).add j) = some x := by
  intro j x hx
  have hadd : (⟨g, 0, none⟩ : Addr).add j = ⟨g, j, none⟩ := by unfold Addr.add; split <;> simp_all
  rw [hadd, h.cell, hx]
theorem wpList_append_two {ops : Array Oper} {rest : List Oper} {o : Oper} {a : Act} {w : World} {Q : Exit → Act → World → Prop} (hgd : o.guard = none) (s x : Operand)
    (ho : o.op = .call { callee := .builtin .append, args := #[s, x], argTypes := #[107, 107] })
    (base : Nat) (v : Value) (ns : List Nat) (hs : a.eval s = v) (hown : OwnN w base v ns) (g m n : Nat) (hx : a.eval x = .slice (some ⟨g, 0, none⟩) 2 2) (hrow : Row w g 109 (numCells m ++ numCells n)) (hl : ns.length ≤ 1000) (hbase : base ≤ w.heap.size)
    (h : ∀ v' w', OwnN w' base v' (ns ++ [m, n]) → Below base w w' → wpList Tryd.prog ops Q rest (a.put o.dst v') w') : wpList Tryd.prog ops Q (o :: rest) a w := by
  obtain ⟨i0, hi0, hz0, hz1, hz2⟩ := info_parts info_piece
  refine wpList_append_own _ hgd s x 107 ho base 109 i0 _ 3 40 Tryd.underlying107 hi0 hz0 hz1 hz2 rfl (by decide) v ns.length (ns.flatMap numCells) hs hown ⟨g, 0, none⟩ 2 2
    (numCells m ++ numCells n) hx rfl (row_source hrow) (by simp [numCells, Value.oneCell']) (by unfold maxLen; omega) (by omega) hbase ?_
  intro v' w' h1 h2 _
  refine h v' w' ?_ ((Below.refl base _).grown h2 hbase (fun k hk => (hown.lt k hk).1))
  unfold OwnN
  rw [List.length_append, List.flatMap_append]
  have e : [m, n].flatMap numCells = numCells m ++ numCells n := by simp
  rw [e]
  exact h1
def vNums (l : List Vl) : List Nat := l.flatMap fun v => [v.key, v.power]
theorem vNums_take (l : List Vl) (k : Nat) (v : Vl) (h : l[k]? = some v) : vNums (l.take (k + 1)) = vNums (l.take k) ++ [v.key, v.power] := by
  obtain ⟨hk, rfl⟩ := List.getElem?_eq_some_iff.1 h
  rw [List.take_succ_eq_append_getElem hk]
  unfold vNums
  rw [List.flatMap_append]
  rfl
theorem vNums_pieces (l : List Vl) : (vNums l).map (fun n => (⟨1, n, []⟩ : Pc)) = vPieces l := by
  unfold vNums vPieces
  rw [List.map_flatMap]
  rfl
theorem vNums_len (l : List Vl) : (vNums l).length = 2 * l.length := by
  have := vPieces_length l
  rw [← vNums_pieces, List.length_map] at this
  exact this
theorem vPieces_fits (l : List Vl) (h : ∀ v ∈ l, v.ok) : ∀ p ∈ vPieces l, p.fits := by
  intro p hp
  obtain ⟨v, hv, hm⟩ := List.mem_flatMap.1 hp
  obtain ⟨h1, h2⟩ := h v hv
  simp at hm
  rcases hm with rfl | rfl
  · exact ⟨h1, by simp⟩
  · exact ⟨h2, by simp⟩
end Go.Proofs.YtooemgkjkngpcaaDoor
namespace Go.Proofs.YtooemgkjkngpcaaDoor
open Go.RowKit


end Go.Proofs.YtooemgkjkngpcaaDoor
namespace Go.Proofs.YtooemgkjkngpcaaDoor
open Go.RowKit

theorem goodAll_at (m : List (BitVec 8)) : ∀ (vs : List Vl) (ts : List Vt) (k : Nat) (v : Vl) (t : Vt), vs[k]? = some v → ts[k]? = some t → goodAll m (vs.drop k) (ts.drop k) = ((!t.is || goodB v.key m t.r t.s) && goodAll m (vs.drop (k + 1)) (ts.drop (k + 1))) := by
  intro vs ts k v t hv ht
  obtain ⟨h1, rfl⟩ := List.getElem?_eq_some_iff.1 hv
  obtain ⟨h2, rfl⟩ := List.getElem?_eq_some_iff.1 ht
  rw [List.drop_eq_getElem_cons h1, List.drop_eq_getElem_cons h2, goodAll]
theorem goodAll_end (m : List (BitVec 8)) (vs : List Vl) (ts : List Vt) (k : Nat) (h : ts.length ≤ k) : goodAll m (vs.drop k) (ts.drop k) = true := by
  rw [List.drop_eq_nil_of_le h]
  unfold goodAll
  split <;> first | rfl | (rename_i h; cases h)
end Go.Proofs.YtooemgkjkngpcaaDoor
namespace Go.Proofs.YtooemgkjkngpcaaDoor
open Go.RowKit

/-- the place's vote is one -/
def isAt (ts : List Vt) (k : Nat) : Bool := match ts[k]? with
  | some t => t.is
  | none => false
theorem isAt_some {ts : List Vt} {k : Nat} {t : Vt} (h : ts[k]? = some t) : isAt ts k = t.is := by unfold isAt; rw [h]
end Go.Proofs.YtooemgkjkngpcaaDoor
