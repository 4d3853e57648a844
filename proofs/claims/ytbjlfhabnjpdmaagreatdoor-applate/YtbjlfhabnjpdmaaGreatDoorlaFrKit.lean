/-
  What a call keeps in variables of its own: their blocks, as rows, through all that it does.
-/
import Derived.Test.YtbjlfhabnjpdmaaGreatDoorlaMemB
import Derived.Laws.Tables
import Derived.Laws.Rows
namespace Go.Proofs.YtbjlfhabnjpdmaaGreatDoor
open Go.RowKit

theorem Row.k3 {w : World} {g : Nat} {t : TypeId} {x0 x1 x2 : Value} (h : Row w g t [x0, x1, x2]) : w.cell? ⟨g, 0, none⟩ = some x0 ∧ w.cell? ⟨g, 1, none⟩ = some x1 ∧ w.cell? ⟨g, 2, none⟩ = some x2 :=
  ⟨h.cell 0, h.cell 1, h.cell 2⟩
theorem Row.k4 {w : World} {g : Nat} {t : TypeId} {x0 x1 x2 x3 : Value} (h : Row w g t [x0, x1, x2, x3]) : w.cell? ⟨g, 0, none⟩ = some x0 ∧ w.cell? ⟨g, 1, none⟩ = some x1 ∧ w.cell? ⟨g, 2, none⟩ = some x2 ∧ w.cell? ⟨g, 3, none⟩ = some x3 :=
  ⟨h.cell 0, h.cell 1, h.cell 2, h.cell 3⟩
theorem Row.k7 {w : World} {g : Nat} {t : TypeId} {x0 x1 x2 x3 x4 x5 x6 : Value} (h : Row w g t [x0, x1, x2, x3, x4, x5, x6]) : w.cell? ⟨g, 0, none⟩ = some x0 ∧ w.cell? ⟨g, 1, none⟩ = some x1 ∧ w.cell? ⟨g, 2, none⟩ = some x2 ∧ w.cell? ⟨g, 3, none⟩ = some x3 ∧ w.cell? ⟨g, 4, none⟩ = some x4 ∧ w.cell? ⟨g, 5, none⟩ = some x5 ∧ w.cell? ⟨g, 6, none⟩ = some x6 :=
  ⟨h.cell 0, h.cell 1, h.cell 2, h.cell 3, h.cell 4, h.cell 5, h.cell 6⟩
theorem Row.k10 {w : World} {g : Nat} {t : TypeId} {x0 x1 x2 x3 x4 x5 x6 x7 x8 x9 : Value} (h : Row w g t [x0, x1, x2, x3, x4, x5, x6, x7, x8, x9]) : w.cell? ⟨g, 0, none⟩ = some x0 ∧ w.cell? ⟨g, 1, none⟩ = some x1 ∧ w.cell? ⟨g, 2, none⟩ = some x2 ∧ w.cell? ⟨g, 3, none⟩ = some x3 ∧ w.cell? ⟨g, 4, none⟩ = some x4 ∧ w.cell? ⟨g, 5, none⟩ = some x5 ∧ w.cell? ⟨g, 6, none⟩ = some x6 ∧ w.cell? ⟨g, 7, none⟩ = some x7 ∧ w.cell? ⟨g, 8, none⟩ = some x8 ∧ w.cell? ⟨g, 9, none⟩ = some x9 :=
  ⟨h.cell 0, h.cell 1, h.cell 2, h.cell 3, h.cell 4, h.cell 5, h.cell 6, h.cell 7, h.cell 8, h.cell 9⟩
abbrev Bx := Nat × TypeId × List Value
/-- the variables of a call that began at w: each a block of its own -/
structure Fr (w : World) (l : List Bx) (w' : World) : Prop where
  b : Below w.heap.size w w'
  rows : ∀ r ∈ l, Row w' r.1 r.2.1 r.2.2
  own : ∀ r ∈ l, w.heap.size ≤ r.1
  apart : l.Pairwise (fun a b => a.1 ≠ b.1)
theorem Fr.nil (w : World) : Fr w [] w := ⟨Below.refl _ _, fun _ h => absurd h List.not_mem_nil, fun _ h => absurd h List.not_mem_nil, List.Pairwise.nil⟩
theorem Fr.go {w w1 w2 : World} {l : List Bx} (F : Fr w l w1) (h : Below w1.heap.size w1 w2) : Fr w l w2 :=
  ⟨F.b.trans (h.mono F.b.size), fun r hr => (F.rows r hr).below h (F.rows r hr).lt, F.own, F.apart⟩
theorem Fr.addAt {w w1 : World} {l : List Bx} {t : TypeId} {cs : List Value} {g : Nat} (F : Fr w l w1) (hg : g = w1.heap.size) : Fr w (l ++ [(g, t, cs)]) (w1.alloc (.cells cs.toArray t)) := by
  subst hg
  have hlt : ∀ r ∈ l, r.1 < w1.heap.size := fun r hr => (F.rows r hr).lt
  refine ⟨F.b.alloc F.b.size _, fun r hr => ?_, fun r hr => ?_, ?_⟩
  · rcases List.mem_append.1 hr with h | h
    · exact (F.rows r h).alloc _
    · obtain rfl : r = _ := List.mem_singleton.1 h
      exact Row.new _ _ _
  · rcases List.mem_append.1 hr with h | h
    · exact F.own r h
    · obtain rfl : r = _ := List.mem_singleton.1 h
      exact F.b.size
  · refine List.pairwise_append.2 ⟨F.apart, List.pairwise_singleton _ _, fun a ha b hb => ?_⟩
    obtain rfl : b = _ := List.mem_singleton.1 hb
    exact Nat.ne_of_lt (hlt a ha)
theorem Fr.box {P : Program} {c : Code} {Q : Exit → Act → World → Prop} {a : Act} {w w1 : World} {l : List Bx} {t : TypeId} {cs : List Value} (F : Fr w l w1) (h : ∀ w2, Fr w (l ++ [(w1.heap.size, t, cs)]) w2 → w1.heap.size + 1 ≤ w2.heap.size → Below w1.heap.size w1 w2 → c.wp P Q a w2) : c.wp P Q a (w1.alloc (.cells cs.toArray t)) :=
  h _ (F.addAt rfl) (by simp) ((Below.refl _ _).alloc (Nat.le_refl _) _)
theorem pair_at {l : List Bx} (h : l.Pairwise (fun a b => a.1 ≠ b.1)) {i j : Nat} {x y : Bx} (hi : l[i]? = some x) (hj : l[j]? = some y) (hne : i ≠ j) : x.1 ≠ y.1 := by
  obtain ⟨h1, e1⟩ := List.getElem?_eq_some_iff.1 hi
  obtain ⟨h2, e2⟩ := List.getElem?_eq_some_iff.1 hj
  rw [List.pairwise_iff_getElem] at h
  rcases Nat.lt_or_gt_of_ne hne with hl | hl
  · have := h i j h1 h2 hl; rw [e1, e2] at this; exact this
  · have := h j i h2 h1 hl; rw [e1, e2] at this; exact this.symm
/-- a block turned: the others stay -/
theorem Fr.turn {w w1 w2 : World} {l : List Bx} {i : Nat} {g : Nat} {t : TypeId} {cs cs' : List Value} (F : Fr w l w1) (hi : l[i]? = some (g, t, cs)) (hr : Row w2 g t cs') (hb : Below w.heap.size w w2) (hk : ∀ k, k ≠ g → w2.heap[k]? = w1.heap[k]?) : Fr w (l.set i (g, t, cs')) w2 := by
  have hil := (List.getElem?_eq_some_iff.1 hi).1
  have hget : ∀ r ∈ l.set i (g, t, cs'), r = (g, t, cs') ∨ ∃ j, j ≠ i ∧ l[j]? = some r := by
    intro r hr
    obtain ⟨j, hj⟩ := List.getElem?_of_mem hr
    rw [List.getElem?_set] at hj
    split at hj
    · first | rw [if_pos hil] at hj | skip
      exact .inl (Option.some.inj hj).symm
    · rename_i hne
      exact .inr ⟨j, fun e => hne e.symm, hj⟩
  refine ⟨hb, fun r hr' => ?_, fun r hr' => ?_, ?_⟩
  · rcases hget r hr' with rfl | ⟨j, hne, hj⟩
    · exact hr
    · exact (hk _ (pair_at F.apart hj hi hne)).trans (F.rows r (List.mem_of_getElem? hj))
  · rcases hget r hr' with rfl | ⟨j, hne, hj⟩
    · exact F.own (g, t, cs) (List.mem_of_getElem? hi)
    · exact F.own r (List.mem_of_getElem? hj)
  · have he : (l.set i (g, t, cs')).map (·.1) = l.map (·.1) := by
      rw [List.map_set]
      apply List.ext_getElem?
      intro k
      rw [List.getElem?_set]
      split
      · rename_i e
        subst e
        rw [List.getElem?_map, hi, List.length_map, if_pos hil]
        rfl
      · rfl
    have h2 : (l.map (·.1)).Pairwise (· ≠ ·) := List.pairwise_map.2 F.apart
    rw [← he] at h2
    exact List.pairwise_map.1 h2
/-- one block alone was turned -/
structure Only (g : Nat) (w1 w2 : World) : Prop where
  below : Below 0 w1 w2
  same : ∀ k, k ≠ g → w2.heap[k]? = w1.heap[k]?
  size : w2.heap.size = w1.heap.size
theorem Only.refl (g : Nat) (w : World) : Only g w w := ⟨Below.refl _ _, fun _ _ => rfl, rfl⟩
theorem Only.cell {g : Nat} {w1 w2 : World} (h : Only g w1 w2) (j : Nat) (v : Value) : Only g w1 (w2.setCell ⟨g, j, none⟩ v) :=
  ⟨h.below.trans ((Below.refl 0 _).setCell (Nat.zero_le _) _), fun k hk => (Below.heap_setCell _ _ _ _ hk).trans (h.same k hk), by rw [← h.size]; simp [World.setCell]⟩
theorem Only.down {g B : Nat} {w0 w1 w2 : World} (h : Only g w1 w2) (hb : Below B w0 w1) (hg : B ≤ g) : Below B w0 w2 :=
  hb.trans ⟨h.below.os, h.below.tape, h.below.output, h.below.size, fun k hk => h.same k (by omega)⟩
theorem Fr.only {w w1 w2 : World} {l : List Bx} {i : Nat} {g : Nat} {t : TypeId} {cs cs' : List Value} (F : Fr w l w1) (hi : l[i]? = some (g, t, cs)) (hr : Row w2 g t cs') (O : Only g w1 w2) : Fr w (l.set i (g, t, cs')) w2 :=
  F.turn hi hr (O.down F.b (F.own _ (List.mem_of_getElem? hi))) O.same
theorem Fr.set1 {w w1 : World} {l : List Bx} {g : Nat} {t : TypeId} {cs : List Value} (F : Fr w l w1) (i j : Nat) (v : Value) (hi : l[i]? = some (g, t, cs)) : Fr w (l.set i (g, t, cs.set j v)) (w1.setCell ⟨g, j, none⟩ v) :=
  F.only hi ((F.rows _ (List.mem_of_getElem? hi)).set j v) ((Only.refl _ _).cell j v)
theorem Fr.named {P : Program} {c : Code} {Q : Exit → Act → World → Prop} {a : Act} {w w1 w2 : World} {l : List Bx} {g : Nat} (F : Fr w l w2) (O : Only g w1 w2) (h : ∀ w3, Fr w l w3 → Only g w1 w3 → c.wp P Q a w3) : c.wp P Q a w2 := h _ F O
theorem Fr.cell {P : Program} {c : Code} {Q : Exit → Act → World → Prop} {a : Act} {w w1 : World} {l : List Bx} {g j : Nat} {t : TypeId} {cs : List Value} {v : Value} (F : Fr w l w1) (i : Nat) (hi : l[i]? = some (g, t, cs)) (h : ∀ w2, Fr w (l.set i (g, t, cs.set j v)) w2 → Only g w1 w2 → c.wp P Q a w2) : c.wp P Q a (w1.setCell ⟨g, j, none⟩ v) :=
  h _ (F.set1 i j v hi) ((Only.refl _ _).cell j v)
/-- what changes lies behind all of them -/
theorem Fr.past {w w1 w2 : World} {l : List Bx} {B : Nat} (F : Fr w l w1) (h : Below B w1 w2) (hB : w.heap.size ≤ B) (hl : ∀ g ∈ l.map (·.1), g < B) : Fr w l w2 :=
  ⟨F.b.trans (h.mono hB), fun r hr => (F.rows r hr).below h (hl _ (List.mem_map.2 ⟨r, hr, rfl⟩)), F.own, F.apart⟩
theorem setRow_size (w : World) (g : Nat) (cs : Array Value) : (w.setRow g cs).heap.size = w.heap.size := by simp [World.setRow]
theorem setRow_kept {B g : Nat} {w0 w : World} (hb : Below B w0 w) (hg : B ≤ g) (cs : Array Value) : Below B w0 (w.setRow g cs) := hb.trans ⟨rfl, rfl, rfl, by simp, fun k hk => setRow_other w g k cs (by omega)⟩
/-- a type of so many cells -/
def Struct (t : TypeId) (n : Nat) : Prop := (∃ d, Tryz.prog.underlying t = some d ∧ (match d with | .struct _ | .array _ _ => true | _ => false) = true) ∧ (Tryz.prog.info? t).map (·.size) = some n
theorem Fr.store {ops : Array Oper} {rest : List Oper} {o : Oper} {a : Act} {w w1 : World} {Q : Exit → Act → World → Prop} {l : List Bx} {g : Nat} {t : TypeId} {x y : Operand} {cells : Array Value} {old : List Value} (F : Fr w l w1) (i : Nat) (hgd : o.guard = none) (ho : o.op = .store t x y) (hx : a.eval x = .pointer (some ⟨g, 0, none⟩)) (hy : a.eval y = .agg cells) (hi : l[i]? = some (g, t, old))
    (hs : Struct t old.length) (hn : old.length = cells.size) (h1 : cells.all (·.oneCell') = true) (h : ∀ w2, Fr w (l.set i (g, t, cells.toList)) w2 → Only g w1 w2 → wpList Tryz.prog ops Q rest (a.put o.dst undef) w2) : wpList Tryz.prog ops Q (o :: rest) a w1 := by
  have hm := List.mem_of_getElem? hi
  have hr : Row w1 g t old := F.rows _ hm
  have O : Only g w1 (w1.setRow g cells) := ⟨setRow_kept (Below.refl 0 w1) (Nat.zero_le _) _, fun k hk => setRow_other _ _ _ _ hk, setRow_size _ _ _⟩
  refine wpList_store_row hgd t x y ho g cells hx hy t old.toArray hr (by rw [hs.2, hn]) (by simpa using hn) h1 (h _ (F.only hi ?_ O) O)
  have := setRow_heap w1 g old.toArray cells t (0, 0) hr
  unfold Row
  simpa using this
theorem boxC {P : Program} {f : FuncId} {args : Array Value} {w1 : World} {t : TypeId} {cs : List Value} {K : Ending → World → Prop} (h : ∀ w2, Row w2 w1.heap.size t cs → Below w1.heap.size w1 w2 → Calls P f args w2 K) : Calls P f args (w1.alloc (.cells cs.toArray t)) K :=
  h _ (Row.new _ _ _) ((Below.refl _ _).alloc (Nat.le_refl _) _)
theorem Only.row (g : Nat) (w1 : World) (cs : Array Value) : Only g w1 (w1.setRow g cs) := ⟨setRow_kept (Below.refl 0 w1) (Nat.zero_le _) _, fun _ hk => setRow_other _ _ _ _ hk, setRow_size _ _ _⟩
/-- a variable is read whole -/
theorem Fr.load {ops : Array Oper} {rest : List Oper} {o : Oper} {a : Act} {w w1 : World} {Q : Exit → Act → World → Prop} {l : List Bx} {g : Nat} {t : TypeId} {x : Operand} {cs : List Value} (F : Fr w l w1) (i : Nat) (hgd : o.guard = none) (ho : o.op = .load t x) (hx : a.eval x = .pointer (some ⟨g, 0, none⟩)) (hi : l[i]? = some (g, t, cs)) (hs : Struct t cs.length)
    (h : wpList Tryz.prog ops Q rest (a.put o.dst (.agg cs.toArray)) w1) : wpList Tryz.prog ops Q (o :: rest) a w1 := by
  obtain ⟨⟨d, hu, hd⟩, hz⟩ := hs
  exact wpList_load_row hgd t x ho g hx t cs.toArray (0, 0) d (F.rows _ (List.mem_of_getElem? hi)) hu (by cases d <;> first | rfl | cases hd) (by simpa using hz) h
theorem load_struct {w : World} {g : Nat} {t : TypeId} {cs : List Value} (hr : Row w g t cs) (hs : Struct t cs.length) : (loadVar t ⟨g, 0, none⟩).run Tryz.prog w = .ok (.agg cs.toArray) w := by
  obtain ⟨⟨d, hu, hd⟩, hi⟩ := hs
  exact run_loadVar_row w g t t cs.toArray (0, 0) d hr hu (by cases d <;> first | rfl | cases hd) (by simpa using hi)
theorem ret_c {fn : Func} {R : Ending → World → Prop} {a : Act} {w : World} {s g : Nat} {t : TypeId} {cs : List Value} (hf : fn.results = #[.cell s t]) (hs : a.tmps.getD s undef = .pointer (some ⟨g, 0, none⟩)) (hr : Row w g t cs) (ht : Struct t cs.length) (hd : a.defers = []) (hR : R (.returned (.agg cs.toArray)) w) : bodyPost Tryz.prog fn R .ret a w := by
  have hs' : a.tmps[s]?.getD undef = .pointer (some ⟨g, 0, none⟩) := by simpa using hs
  exact bodyPost_ret (by simp [results, hf, hs', asAddr, load_struct hr ht]) hd hR
theorem ret_ct {fn : Func} {R : Ending → World → Prop} {a : Act} {w : World} {s g u : Nat} {t : TypeId} {cs : List Value} (hf : fn.results = #[.cell s t, .tmp u]) (hs : a.tmps.getD s undef = .pointer (some ⟨g, 0, none⟩)) (hr : Row w g t cs) (ht : Struct t cs.length) (hd : a.defers = []) (hR : R (.returned (.tuple #[.agg cs.toArray, a.tmps.getD u undef])) w) : bodyPost Tryz.prog fn R .ret a w := by
  have hs' : a.tmps[s]?.getD undef = .pointer (some ⟨g, 0, none⟩) := by simpa using hs
  exact bodyPost_ret (by simp [results, hf, hs', asAddr, load_struct hr ht]) hd hR
theorem Fr.r0 {w w' : World}  {g : Nat} {t : TypeId} {cs : List Value} {l : List Bx} (F : Fr w ((g, t, cs) :: l) w') : Row w' g t cs := F.rows (g, t, cs) (.head _)
theorem Fr.r1 {w w' : World} {a0 : Bx} {g : Nat} {t : TypeId} {cs : List Value} {l : List Bx} (F : Fr w (a0 :: (g, t, cs) :: l) w') : Row w' g t cs := F.rows (g, t, cs) (.tail _ (.head _))
theorem Fr.r2 {w w' : World} {a0 : Bx} {a1 : Bx} {g : Nat} {t : TypeId} {cs : List Value} {l : List Bx} (F : Fr w (a0 :: a1 :: (g, t, cs) :: l) w') : Row w' g t cs := F.rows (g, t, cs) (.tail _ (.tail _ (.head _)))
theorem Fr.r3 {w w' : World} {a0 : Bx} {a1 : Bx} {a2 : Bx} {g : Nat} {t : TypeId} {cs : List Value} {l : List Bx} (F : Fr w (a0 :: a1 :: a2 :: (g, t, cs) :: l) w') : Row w' g t cs := F.rows (g, t, cs) (.tail _ (.tail _ (.tail _ (.head _))))
theorem Fr.r4 {w w' : World} {a0 : Bx} {a1 : Bx} {a2 : Bx} {a3 : Bx} {g : Nat} {t : TypeId} {cs : List Value} {l : List Bx} (F : Fr w (a0 :: a1 :: a2 :: a3 :: (g, t, cs) :: l) w') : Row w' g t cs := F.rows (g, t, cs) (.tail _ (.tail _ (.tail _ (.tail _ (.head _)))))
theorem Fr.r5 {w w' : World} {a0 : Bx} {a1 : Bx} {a2 : Bx} {a3 : Bx} {a4 : Bx} {g : Nat} {t : TypeId} {cs : List Value} {l : List Bx} (F : Fr w (a0 :: a1 :: a2 :: a3 :: a4 :: (g, t, cs) :: l) w') : Row w' g t cs := F.rows (g, t, cs) (.tail _ (.tail _ (.tail _ (.tail _ (.tail _ (.head _))))))
theorem fbox1 {P : Program} {c : Code} {Q : Exit → Act → World → Prop} {a : Act} {w : World} {t0 : TypeId} {c0 : List Value} (h : ∀ w0, Fr w [(w.heap.size, t0, c0)] w0 → w.heap.size + 1 ≤ w0.heap.size → c.wp P Q a w0) : c.wp P Q a (w.alloc (.cells c0.toArray t0)) :=
  h _ ((Fr.nil w).addAt rfl) (by simp)
theorem fbox2 {P : Program} {c : Code} {Q : Exit → Act → World → Prop} {a : Act} {w : World} {t0 : TypeId} {c0 : List Value} {t1 : TypeId} {c1 : List Value} (h : ∀ w0, Fr w [(w.heap.size, t0, c0), (w.heap.size + 1, t1, c1)] w0 → w.heap.size + 2 ≤ w0.heap.size → c.wp P Q a w0) : c.wp P Q a ((w.alloc (.cells c0.toArray t0)).alloc (.cells c1.toArray t1)) :=
  h _ (((Fr.nil w).addAt rfl).addAt (by simp)) (by simp)
theorem fbox3 {P : Program} {c : Code} {Q : Exit → Act → World → Prop} {a : Act} {w : World} {t0 : TypeId} {c0 : List Value} {t1 : TypeId} {c1 : List Value} {t2 : TypeId} {c2 : List Value} (h : ∀ w0, Fr w [(w.heap.size, t0, c0), (w.heap.size + 1, t1, c1), (w.heap.size + 1 + 1, t2, c2)] w0 → w.heap.size + 3 ≤ w0.heap.size → c.wp P Q a w0) : c.wp P Q a (((w.alloc (.cells c0.toArray t0)).alloc (.cells c1.toArray t1)).alloc (.cells c2.toArray t2)) :=
  h _ ((((Fr.nil w).addAt rfl).addAt (by simp)).addAt (by simp)) (by simp)
theorem fbox4 {P : Program} {c : Code} {Q : Exit → Act → World → Prop} {a : Act} {w : World} {t0 : TypeId} {c0 : List Value} {t1 : TypeId} {c1 : List Value} {t2 : TypeId} {c2 : List Value} {t3 : TypeId} {c3 : List Value} (h : ∀ w0, Fr w [(w.heap.size, t0, c0), (w.heap.size + 1, t1, c1), (w.heap.size + 1 + 1, t2, c2), (w.heap.size + 1 + 1 + 1, t3, c3)] w0 → w.heap.size + 4 ≤ w0.heap.size → c.wp P Q a w0) : c.wp P Q a ((((w.alloc (.cells c0.toArray t0)).alloc (.cells c1.toArray t1)).alloc (.cells c2.toArray t2)).alloc (.cells c3.toArray t3)) :=
  h _ (((((Fr.nil w).addAt rfl).addAt (by simp)).addAt (by simp)).addAt (by simp)) (by simp)
theorem structState : Struct 28 10 := ⟨⟨_, Tryz.underlying28, rfl⟩, by kernel_rfl⟩
end Go.Proofs.YtbjlfhabnjpdmaaGreatDoor
